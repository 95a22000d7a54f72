import Derived.Test.YtpkjkjhanlbcoaaGreatJ07
namespace Go.Proofs.YtpkjkjhanlbcoaaGreat
set_option maxRecDepth 100000
set_option maxHeartbeats 2000000
open Tryz
open Go.RowKit W Kp cf
theorem tc {P:Prop}(h:P:=by
 have P0:∀w,Calls prog 119 #[ah R] w fun e w'=>e=.returned (.bool false)/\w'=w:=fun w=>by have h:=jO R w;rw[hR] at h;exact h
 have hb0:=au w (.cells #[.int .i64 k,.int .i64 R,.int .i64 A,.int .i64 B,.int .i64 I,.int .i64 n] 44)
 clear hu;go_enter func55,ntmps55;go_wp2_with fail;refine(U _).mono ?_;rintro e w1 ⟨rfl,rfl⟩
 go_wp2_with fail;refine(P0 _).mono ?_;rintro e w1 ⟨rfl,rfl⟩
 go_wp2_with fail;go_ret;exact⟨rfl,hb0⟩):P:=h
theorem x3 {P:Prop}(h:P:=by
 have P0:∀w,Calls prog 119 #[ah R] w fun e w'=>e=.returned (.bool true)/\w'=w:=fun w=>by have h:=jO R w;rw[hR] at h;exact h
 have P1:∀w,Calls prog 119 #[ah A] w fun e w'=>e=.returned (.bool false)/\w'=w:=fun w=>by have h:=jO A w;rw[hA] at h;exact h
 have hb0:=au w (.cells #[.int .i64 k,.int .i64 R,.int .i64 A,.int .i64 B,.int .i64 I,.int .i64 n] 44)
 clear hu;go_enter func55,ntmps55;go_wp2_with fail;refine(U _).mono ?_;rintro e w1 ⟨rfl,rfl⟩
 go_wp2_with fail;refine(P0 _).mono ?_;rintro e w1 ⟨rfl,rfl⟩
 go_wp2_with fail;refine(P1 _).mono ?_;rintro e w1 ⟨rfl,rfl⟩
 go_wp2_with fail;go_ret;exact⟨rfl,hb0⟩):P:=h
theorem o4 {P:Prop}(h:P:=by
 rintro e w1 ⟨rfl,rfl⟩
 go_wp2_with fail;refine(Ew k R A B I n _).mono ?_;rintro e w2 ⟨rfl,hb2⟩
 go_wp2_with fail;go_ret;exact⟨rfl,hb0.trans (hb2.mono hb0.size)⟩):P:=h
theorem o5 {P:Prop}(h:P:=by
 rintro e w1 ⟨rfl,rfl⟩
 go_wp2_with fail;go_ret;exact⟨rfl,hb0⟩):P:=h
theorem jf {P:Prop}(h:P:=by have h:=Ex k w;rw[hu] at h;exact h):P:=h
theorem te {P:Prop}(h:P:=by rw[hW0];exact hB1.trans ((((Fr.refl (fun k=>k=w.heap.size) w1).set w.heap.size 0 _ rfl).set w.heap.size 1 _ rfl).below (Nat.le_of_lt l1) (fun x e=>by have e:x=w.heap.size:=e;omega))):P:=h
theorem n9 {P:Prop}(h:P:=by have h:=jO A w;rw[hA] at h;exact h):P:=h
theorem x4 {P:Prop}(h:P:=by
 rcases List.mem_or_eq_of_mem_set hy with hy|hy
 ·exact aK ⟨y,hy,hl,o,e⟩
 ·subst hy;have e:a2=some ⟨k,o,none⟩:=e;exact aJ (cn hr k (by rw[e];rfl)).1):P:=h
theorem qv {P:Prop}(h:P:=by have:=(List.getElem?_eq_some_iff.1 hj).1;simpa using this):P:=h
theorem x5 {P:Prop}(h:P:=by
 have:=hi;rw[<-h.nd,hZ,List.getElem?_map] at this
 obtain⟨x,hx,e⟩:=Option.map_eq_some_iff.1 this
 exact⟨x,hx,e⟩):P:=h
structure fu (w:ax)(p:Nat)(a0:Option Addr)(k0:Nat)(a1:Option Addr)(k1:Nat)(r q:List b7):Prop where
 blk:w.heap[p]?=some (.cells #[.slice a0 r.length k0,.slice a1 q.length k1] 153 (0,0))
 r0:w.ownsRow 0 103 2 (.slice a0 r.length k0) r.length (ev r)
 q0:w.ownsRow 0 103 2 (.slice a1 q.length k1) q.length (ev q)
theorem qw {w:ax}{base:Nat}{e:TypeId}{ad:Option Addr}{cap:Nat}{l:List b7}(h:w.ownsRow base e 2 (.slice ad l.length cap) l.length (ev l)):iu w ad l cap:=by
 refine⟨g8 h,?_,?_⟩
 ·rcases h.2 with⟨hv,h0⟩|⟨g,b,c,hv,_,_,hc,_⟩
  ·omega
  ·simp at hv;omega
 ·intro d;rcases h.2 with⟨hv,h0⟩|⟨g,b,c,hv,_⟩
  ·simp at hv;exact⟨h0,hv.2.2⟩
  ·rw[d] at hv;simp at hv
theorem fu.keep {w w':ax}{p:Nat}{a0 a1:Option Addr}{k0 k1:Nat}{r q:List b7}(h:fu w p a0 k0 a1 k1 r q)(b:w'.heap[p]?=w.heap[p]?)(c:∀k,some k=(Value.slice a0 r.length k0).ownBlock->w'.heap[k]?=w.heap[k]?)(d:∀k,some k=(Value.slice a1 q.length k1).ownBlock->w'.heap[k]?=w.heap[k]?):fu w' p a0 k0 a1 k1 r q:=
 ⟨b.trans h.blk,cH h.r0 c,cH h.q0 d⟩
theorem fu.below {w w':ax}{p:Nat}{a0 a1:Option Addr}{k0 k1:Nat}{r q:List b7}(h:fu w p a0 k0 a1 k1 r q)(hb:Below w.heap.size w w'):fu w' p a0 k0 a1 k1 r q:=
 h.keep (hb.block p (lt_of_some h.blk)) (fun k e=>hb.block k (cn h.r0 k e).2) (fun k e=>hb.block k (cn h.q0 k e).2)
theorem fu.np {w:ax}{p:Nat}{a0 a1:Option Addr}{k0 k1:Nat}{r q:List b7}(h:fu w p a0 k0 a1 k1 r q){b n:Nat}{v:Value}{l:List Value}(hr:w.ownsRow b 103 2 v n l):∀k,some k=v.ownBlock->k≠p:=by intro k e c;obtain⟨d,hc⟩:=e6 hr k e;rw[c,h.blk] at hc;simp at hc
def jP (n:Nat):Bool:=decide (24<=n)
theorem qx {n:Nat}(h:24<=n):jP n=true:=by simp[jP,h]
theorem qy {n:Nat}(h:¬24<=n):jP n=false:=by simp[jP,h]
theorem Ey {n0 n1:Nat}(h0:n0<=100000)(b:n1<=100000):ay (decide ((24:Int)<=IntKind.i64.wrap ((n0:Int)+(n1:Int)))=jP (n0+n1)):=by
 show _=_;rw[show IntKind.i64.wrap ((n0:Int)+(n1:Int))=(n0:Int)+n1 by rw[bk];omega];unfold jP;by_cases h:24<=n0+n1
 ·rw[bh h,bh V]
 ·rw[bu h,bu V]
theorem x6 (w:ax)(p:Nat)(a0 a1:Option Addr)(n0 k0 n1 k1:Nat)(h:w.heap[p]?=some (.cells #[.slice a0 n0 k0,.slice a1 n1 k1] 153 (0,0)))(h0:n0<=100000)(b:n1<=100000):
 Calls prog 103 #[aj p] w fun e w'=>e=.returned (.bool (jP (n0+n1)))/\Below w.heap.size w w':=by
 have c0:w.cell? (aq p 0)=some (.slice a0 n0 k0):=aA h
 have c1:w.cell? (aq p 1)=some (.slice a1 n1 k1):=aA h
 clear h;have c:=Ey h0 b;go_enter func103,ntmps103;go_wp2_with fail
 go_region_held3 (fun w'=>w'.cell? (aq p 0)=some (.slice a0 n0 k0)/\w'.cell? (aq p 1)=some (.slice a1 n1 k1)) (go_keep) (fail)
 go_wp2_with fail;go_ret;exact⟨by rw[<-c.o];rfl,bX.drew⟩
theorem fu.cells {w:ax}{p:Nat}{a0 a1:Option Addr}{k0 k1:Nat}{r q:List b7}(h:fu w p a0 k0 a1 k1 r q):w.cell? (aq p 0)=some (.slice a0 r.length k0)/\w.cell? (aq p 1)=some (.slice a1 q.length k1)/\w.frozen? (aq p 0)=false/\w.frozen? (aq p 1)=false/\p<w.heap.size:=
 ⟨by simp[World.cell?,h.blk],by simp[World.cell?,h.blk],by simp[World.frozen?,h.blk],by simp[World.frozen?,h.blk],lt_of_some h.blk⟩
theorem Ez {w:ax}{p:Nat}{x y v:Value}{T:TypeId}(h:w.heap[p]?=some (.cells #[x,y] T (0,0))):(w.setCell ⟨p,0,none⟩ v).heap[p]?=some (.cells #[v,y] T (0,0)):=by exact sH
theorem EA {w:ax}{p:Nat}{x y v:Value}{T:TypeId}(h:w.heap[p]?=some (.cells #[x,y] T (0,0))):(w.setCell ⟨p,1,none⟩ v).heap[p]?=some (.cells #[x,v] T (0,0)):=by exact sH
theorem x7 (w:ax)(p:Nat)(a0 a1:Option Addr)(k0 k1:Nat)(r q:List b7)(g z:Int)(h:fu w p a0 k0 a1 k1 r q)(h0:r.length<=90000)(B:q.length<=90000):
 Calls prog 49 #[aj p,.agg #[ah g,ah z]] w fun e w'=>e=.returned (.bool (!jP (r.length+q.length)))/\
  ((24<=r.length+q.length/\Below w.heap.size w w')\/(¬24<=r.length+q.length/\∃b1 c1,fu w' p (ak b1) c1 a1 k1 (r++[(g,z)]) q/\w.heap.size<=b1/\Fr (fun k=>k=p) w w')):=by
 obtain⟨c0,c1,s,C,lp⟩:=h.cells;have H:ay (fu w p a0 k0 a1 k1 r q):=h;have d:=au w (.cells #[.int .i64 g,.int .i64 z] 103)
 have t:ay (iu w a0 r k0):=qw h.r0;by_cases b:24<=r.length+q.length
 ·rw[qx b];clear h;go_enter func49,ntmps49;go_wp2_with fail;refine(x6 _ p a0 a1 r.length k0 q.length k1 ((d.block p lp).trans H.o.blk) V V).mono ?_;rintro e w1 ⟨rfl,hb⟩
  rw[qx b];have c:=d.trans (hb.mono Z)
  go_wp2_with fail;go_ret;exact⟨rfl,aK ⟨b,c⟩⟩
 ·rw[qy b];clear h;go_enter func49,ntmps49;go_wp2_with fail;refine(x6 _ p a0 a1 r.length k0 q.length k1 ((d.block p lp).trans H.o.blk) V V).mono ?_;rintro e w1 ⟨rfl,hb⟩
  rw[qy b];have c:=d.trans (hb.mono Z)
  have D:w.heap.size<w1.heap.size:=by have:=hb.size;simp at this;omega
  have E:w1.cell? (aq w.heap.size 0)=some (ah g):=(hb.cell Z).trans Z;have y1:w1.cell? (aq w.heap.size 1)=some (ah z):=(hb.cell Z).trans Z;have u:=(c.cell (p:=aq p 0) lp).trans c0;have v:=(c.frozen (p:=aq p 0) lp).trans s;have m:p<w1.heap.size:=V;have x:=t.o.below c;clear hb d;go_wp2_with fail
  go_region_with (go_at_call 104;refine(v_ _ a0 r k0 g z (x.below (bX.drew)) V).mono ?_;rintro e f ⟨b1,ge,rfl,j,l⟩;have F:=(l.cell (p:=aq p 0) m).trans u;have G:=(l.frozen (p:=aq p 0) m).trans v)
  all_goals
   go_wp2_with fail;go_ret;refine⟨rfl,aJ ⟨b,b1,ge,?_⟩⟩
   have n:Below w.heap.size w f:=c.drew.trans (l.mono (by simp;omega))
   have lb:w1.heap.size<=b1:=(cn j b1 rfl).1;have i:=H.o.below n;have A:Fr (fun k=>k=p) w (f.setCell ⟨p,0,none⟩ (.slice (some ⟨b1,0,none⟩) (r.length+1) ge)):=(Fr.of n).set p 0 _ rfl;have o:∀k,k≠p->(f.setCell ⟨p,0,none⟩ (.slice (some ⟨b1,0,none⟩) (r.length+1) ge)).heap[k]?=f.heap[k]?:=fun k hk=>aU _ _ _ _ hk;refine⟨⟨by simpa using Ez i.blk,?_,cH i.q0 (fun k e=>o k (i.np i.q0 k e))⟩,V,A⟩
   have:=eV (base':=0) (cH (w':=f.setCell ⟨p,0,none⟩ (.slice (some ⟨b1,0,none⟩) (r.length+1) ge)) j (fun k e=>o k (i.np j k e))) (fun _ _=>aX _)
   simpa using this
section
variable {a:Wc}{F:Nat->Prop}{S:cq}{w:ax}
theorem m5 (h:(fM a).J F S w):∃i,(dZ a).J i S.s w/\∀f s1 w',(dZ a).J f s1 w'->b8 i w f w'->∃d,(fM a).J d ⟨s1,S.r,S.q⟩ w'/\b8 F w d w':=by
 obtain⟨i,ar,l,n,j,m,k⟩:=h;obtain⟨o,g1,g2⟩:=i3 n;refine⟨o,g1,fun f s1 w' p q=>?_⟩
 obtain⟨d,k1,g⟩:=g2 (dZ a) f s1 w' p q;refine⟨fun b=>d b\/some b=(Value.slice ar S.r.length l).ownBlock,⟨d,ar,l,k1,cH j (fun b e=>g.fr.block b (cn j b e).2 (m b e)),fun b e c=>?_,fun b=>Iff.rfl⟩,⟨g.fr.mono (fun b c=>(k b).2 (aK c)),fun b c=>?_⟩⟩
 ·rcases g.sub b c with c|c
  ·exact m b e c
  ·have:=(cn j b e).2;omega
 ·rcases c with c|c
  ·exact(g.sub b c).imp (fun c=>(k b).2 (aK c)) id
  ·exact aK ((k b).2 (aJ c))
theorem EB {s:eb}(h:(dZ a).J F s w)(x i z:Int)(hM:s.M.length<=100000):
 Calls prog 44 #[aj a.pw,ah x,ah i,ah z] w fun e w'=>e=.returned (ah (el a.N s.y s.g s.ws x i))/\(dZ a).J F {s with ws:=gg a.N s.y s.g s.ws x i z,M:=stM a.N s.y s.g s.ws x i z (dF a.O) s.M} w'/\b8 F w F w':=by
 obtain⟨own,cO,h,f⟩:=h;refine(Dh x i z ⟨h.wd,h.ar,h.cd⟩ hM).mono ?_;rintro e w' ⟨rfl,d,fr⟩
 refine⟨rfl,⟨own,cO,?_,f⟩,⟨fr.mono (fun b c=>?_),fun _ c=>aK c⟩⟩
 ·have hb:∀b,b<w.heap.size->own b≠1->own b≠2->_=_:=fun b hb g j=>fr.block b hb (fun c=>by
   rcases c with c|c|c|c
   ·exact g (by rw[c];exact h.a1)
   ·exact g (by rw[c];exact h.a2)
   ·exact j (by rw[c];exact h.c1)
   ·exact j (by rw[c];exact h.c2))
  exact {
   ar:=d.ar,cd:=d.cd,wd:=d.blk,a1:=h.a1,a2:=h.a2,c1:=h.c1,c2:=h.c2,w1:=h.w1,rl:=h.rl,r1:=h.r1,le:=h.le,lt:=fun b hb=>aM (h.lt b hb) fr.size
   rt:=(hb _ (lt_of_some h.rt) (by rw[h.r1];decide) (by rw[h.r1];decide)).trans h.rt}
 ·refine(f b).2 ?_;rcases c with c|c|c|c
  ·rw[c,h.a1];decide
  ·rw[c,h.a2];decide
  ·rw[c,h.c1];decide
  ·rw[c,h.c2];decide
theorem EC (h:(fM a).J F S w)(g z:Int)(hr:S.r.length<=90000)(hq:S.q.length<=90000):
 Calls prog 49 #[aj a.sd,.agg #[ah g,ah z]] w fun e w'=>∃f,e=.returned (.bool (!jP (S.r.length+S.q.length)))/\(fM a).J f (if 24<=S.r.length+S.q.length then S else⟨S.s,S.r++[(g,z)],S.q⟩) w'/\b8 F w f w':=by
 have o:=h;obtain⟨i,ar,p,⟨q,ad,cap,j,s,t,u,k,l,v,m⟩,r0,r1,n⟩:=h;refine(x7 w a.sd ar ad p cap S.r S.q g z ⟨s,r0,t⟩ hr hq).mono ?_;rintro e w' ⟨rfl,⟨d,hb⟩|⟨d,b1,c1,hs,x,fr⟩⟩
 ·exact⟨F,rfl,by rw[aI d];exact(fM a).below o hb,b8.of hb⟩
 ·refine⟨fun b=>i b\/some b=(Value.slice (ak b1) (S.r++[(g,z)]).length c1).ownBlock,rfl,?_,⟨fr.mono (fun b c=>(n b).2 (aK (by rw[c];exact k))),fun b c=>?_⟩⟩
  ·rw[aG d];refine⟨i,some _,c1,⟨q,ad,cap,(dZ a).keep j fr.size (fun b c=>fr.block b ((dZ a).lt j b c) (fun e=>l (by rw[<-e];exact c))),hs.blk,hs.q0,u,k,l,v,fun b c=>aM (m b c) fr.size⟩,hs.r0,fun b e c=>?_,fun b=>Iff.rfl⟩
   simp[Value.ownBlock] at e;subst e;have:=m b c;omega
  ·rcases c with c|c
   ·exact aK ((n b).2 (aK c))
   ·simp[Value.ownBlock] at c;subst c;exact aJ x
end
structure kj where
 a:Wc
 rp:Nat
 rb:Nat
 b_:Int
 bZ:Int
 pb:Nat
section
variable {c:kj}{F:Nat->Prop}{S:cq×ck}{w:ax}
end
section
variable {c:kj}{F:Nat->Prop}{S:cq×ck}{w:ax}
end
def Lq (w:ax)(ad:Option Addr)(l:List Int):Prop:=iK w ad l/\(0<l.length->∃b o c,ad=some ⟨b,o,none⟩/\w.heap[b]?=some (.cells c 2 (0,0)))
theorem Lq.kf {B:Nat}{w w':ax}{ad:Option Addr}{l:List Int}(h:Lq w ad l)(k:Kf B w w'):Lq w' ad l:=by exact sI
theorem Lq.of {w:ax}{base cap:Nat}{ad:Option Addr}{l:List Int}(h:w.ownsRow base 2 1 (.slice ad l.length cap) l.length (l.map (Value.int .i64))):Lq w ad l:=by
 refine⟨gI h,fun hp=>?_⟩
 exact vV
section
variable {w0 w:ax}{kb ch pw n:Nat}{T:List Int}{kd:Int->Int}{sh:Int->List Int}{M:cQ->Int->cQ}{s:cQ}{vn:Value}{m:List dT}
theorem x8 (hM:n6 w0 kb ch pw T M n)(L:kZ T kd sh n M)(h:Wk w0 w kb ch pw T s vn m)(ho:e5 T s)(hn:T.length<=s.1.length+n)(l:List Int)(ad:Option Addr)(cap:Nat)(hl:Lq w ad l)(hm:l.length<=100000):
 Calls prog 65 #[aj kb,.slice ad l.length cap] w fun e w'=>∃aB A a2 c2,e=.returned (.slice a2 l.length c2)/\w'.ownsRow w.heap.size 97 2 (.slice a2 l.length c2) l.length (ev (dA M T s l).1)/\Wk w0 w' kb ch pw T (dA M T s l).2 aB A/\fF w0 w m w' A/\(∀k,fp A k->some k≠(Value.slice a2 l.length c2).ownBlock):=by
 obtain⟨N,hi,O,Q,R⟩:=info_parts xE;have aF:=hide hM;have aR:=hide L;have aV:=hide hl;have B:=hide h;have a0:=hide ho;clear hM L hl h ho;go_enter func65,ntmps65;go_wp2_with (at_make;refine wpList_make_own _ rfl _ _ 57 rfl w.heap.size 97 N (.agg #[ah 0,ah 0]) 2 underlying57 hi O Q .i64 .i64 _ l.length rfl rfl rfl (by rw[R];omega) (by unfold maxLen;omega) bW ?_;intro w1 a1 bb)
 have S:=(av w).grown bb bW (fun k e=>by cases e)
 go_loopw [5,13] (fun tv iv wr=>∃(j:Nat)(g:List (Int×Int))(s1:cQ)(C:Value)(m1:List dT)(a2:Option Addr)(c2:Nat),j<=l.length/\iv=ah j/\ay (dA M T s (l.take j)=(g,s1))/\tv=.slice a2 j c2/\wr.ownsRow w.heap.size 97 2 (.slice a2 j c2) j (ev g)/\ay (Wk w0 wr kb ch pw T s1 C m1)/\ay (fF w0 w m wr m1)/\ay (∀k,fp m1 k->some k≠(Value.slice a2 j c2).ownBlock)/\ay (e5 T s1/\T.length<=s1.1.length+n)) (fun _ iv _=>l.length-(intOf iv).toNat)
 ·exact⟨0,[],s,vn,m,_,_,aX _,rfl,rfl,rfl,a1,B.o.below S,fF.of S,fun k hk e=>by have:=B.o.fb k hk;simp[Value.ownBlock] at e;omega,⟨a0.o,hn⟩⟩
 ·
   obtain⟨j,g,s1,C,m1,a2,c2,b,rfl,D,rfl,o,E,q,F,i⟩:=hrel;by_cases U:j<l.length
   ·obtain⟨bx,bY,bd,bZ,hc⟩:=(aV.o.kf q.o.1).1 V;have W:=hc j U;subst bd;clear hc;have f:=r4 M T s (l.take j) (l.getD j 0)
    rw[<-gy l j U 0,D.o] at f;have f:=hide f;generalize l.getD j 0=x at W f;have P:=DS aF.o E.o i.o.1 i.o.2 x;have G:=oH aR.o i.o.1 i.o.2 x;have X:ay (e5 T (ei M T s1 x).2/\T.length<=(ei M T s1 x).2.1.length+n):=⟨G.ok,by have:=G.le;have:=i.o.2;omega⟩
    clear G;generalize (ei M T s1 x).2=s2 at P f X;obtain⟨d,v,Y⟩:∃d v,(ei M T s1 x).1=(d,v):=⟨_,_,rfl⟩
    rw[Y] at P f;clear Y;go_wp2_with fail;refine P.mono ?_;rintro e H ⟨be,I,rfl,ab,t⟩
    have ag:=cH o (fun k hk=>by obtain⟨ai,J⟩:=e6 o k hk;exact t.1.ib k _ _ _ J aa aa)
    have al:ay (∀k,fp I k->some k≠(Value.slice a2 j c2).ownBlock):=fun k hk e=>(t.2 k hk).elim (fun c=>F.o k c e) (fun c=>by have:=(cn o k e).2;omega)
    have am:=hide (q.o.trans t)
    have b0:=am.o.1.size;have an:=hide ab;clear o t q F E i W ab;have u:=hide ag;go_wp2_with (at_builtin;refine wpList_append_own_at _ rfl _ _ 57 rfl w.heap.size 97 N (.agg #[ah 0,ah 0]) 2 16 underlying57 hi O Q R rfl aa (.slice a2 j c2) j (ev g) rfl (gd ag _) ⟨H.heap.size,0,none⟩ 1 1 [ah d,ah v] rfl rfl ?_ ?_ ?_ ?_ ?_ ?_;(intro j d b;match j,b with|0,b=>(simp at b;subst b;simp[Addr.add])|1,b=>(simp at b;subst b;simp[Addr.add]));(intro d p;simp at p;rcases p with p|p<;>(subst p;rfl));(unfold maxLen;omega);omega;(simp;omega);intro b1 bg ao bi _ bl;obtain⟨b4,ap,bn⟩:=eU ao (Nat.succ_pos _);subst bn)
    have bo:bg.ownsRow w.heap.size 97 2 (.slice (ak b4) (j+1) ap) (j+1) (ev (g++[(d,v)])):=by rw[iT];simpa[ev] using ao
    have K:=au H (.cells #[.int .i64 d,.int .i64 v] 97)
    have ar:=(Fr.refl _ _).grown bi (fun k e=>aK e.symm)
    have bp:=hide ((an.o.below K).but ar (fun k _ e=>by obtain⟨ai,J⟩:=e6 u.o k e;exact⟨⟨ai,(K.block k (cn u.o k e).2).trans J⟩,fun c=>al.o k c e,aT B.o.eH.size (cn u.o k e).1⟩))
    have br:=hide ((am.o.trans (fF.of K)).new ar (fun k e=>(cn u.o k e).1))
    have bs:=bl.imp id (fun e=>by simpa[Value.ownBlock] using e)
    have bt:ay (∀k,fp I k->some k≠some b4):=fun k hk e=>bs.elim (fun c=>al.o k hk (e.trans c)) (fun c=>by have:=an.o.fb k hk;simp at e;omega)
    go_wp2_with fail;go_roundw;exact⟨j+1,g++[(d,v)],s2,be,I,ak b4,ap,V,af,f,rfl,bo,bp,br,bt,X⟩
    simp[intOf];omega
   ·obtain rfl:j=l.length:=V;rw[bm] at D;go_wp2_with fail;go_ret;rw[D.o];exact⟨C,m1,a2,c2,rfl,o,E.o,q.o,F.o⟩
end
theorem ED:(prog.info? 107).map (fun i=>(i.zero,i.size,i.bytes))=some (some (.agg #[ah 0,.slice none 0 0]),2,32):=ae
section
variable {w0 w w' w'':ax}{kb ch pw n:Nat}{T:List Int}{s:cQ}{vn:Value}{m:List dT}
theorem Wk.turned (h:Wk w0 w kb ch pw T s vn m)(f:Fr (fun k=>k=ch) w w'):Kf w0.heap.size w w'/\w'.heap[kb]?=some (.cells #[aj pw,.map (some ch),vn] 129 (0,0))/\w'.ownsRow w0.heap.size 107 2 vn m.length (nv m)/\(∀x∈m,fj w' x.2.1 x.2.2.2)/\Below w0.heap.size w0 w':=by
 obtain⟨D,o1,_⟩:=h.mp;obtain⟨g,i,hb,_⟩:=o1;have hk:Kf w0.heap.size w w':=⟨f.os,f.tape,f.output,f.size,fun k hk hl=>f.block k hk (fun e=>by have e:=e;have:=h.lo.2;omega),fun k j e mm hk _ _=>f.block k (lt_of_some hk) (fun c=>by have c:=c;rw[c,hb] at hk;simp at hk)⟩
 refine⟨hk,(f.block kb (lt_of_some h.blk) (fun c=>?_)).trans h.blk,cH h.row (fun k e=>f.block k (cn h.row k e).2 (fun c=>?_)),fun x d=>(h.fl x d).kf hk,h.eH.trans (hk.below h.eH.size)⟩
 ·have c:=c;have:=h.blk;rw[c,hb] at this
  simp at this
 ·obtain⟨l,b⟩:=e6 h.row k e;rw[c,hb] at b;simp at b
end
theorem Wk.grown {w0 w t g:ax}{d ch pw:Nat}{T:List Int}{ms:List Int}{u:List _}{n j:Value}{m:List dT}{kd:Int}
 (hk:w.heap[d]?=some (.cells #[aj pw,.map (some ch),n] 129 (0,0)))(lo:w0.heap.size<=d/\w0.heap.size<=ch)(hm:Nm w ch T ms)(hr:w.ownsRow w0.heap.size 107 2 n m.length (nv m))(v:hZ m=u)(B:∀x∈m,fj w x.2.1 x.2.2.2)(hb:Below w0.heap.size w0 w)
 (i:Below w.heap.size w t)(A:g.ownsRow w0.heap.size 107 2 j (m.length+1) (nv m++[ah kd,.slice none 0 0]))(g4:t.grownBy g n.ownBlock):
 Wk w0 (g.setCell ⟨d,2,none⟩ j) d ch pw T (ms,u++[(kd,[])]) j (m++[(kd,none,0,[])])/\fF w0 w m (g.setCell ⟨d,2,none⟩ j) (m++[(kd,none,0,[])])/\g.heap[d]?=some (.cells #[aj pw,.map (some ch),n] 129 (0,0)):=by
 have C:=hm;obtain⟨D,o1,_⟩:=hm;obtain⟨H,I,l,_⟩:=o1;have E:=(Kf.of i).trans (Kf.grown g4 (fun k e=>⟨(cn hr k e.symm).1,fun J ty mm hc=>by obtain⟨q,f⟩:=e6 hr k e.symm;have:=(i.block k (lt_of_some f)).trans f;rw[this] at hc;simp at hc;exact aJ hc.2.1.symm⟩))
 have p:=(g4.block d (aM (lt_of_some hk) i.size) (fun e=>by obtain⟨q,f⟩:=e6 hr d e;rw[hk] at f;simp at f)).trans ((i.block d (lt_of_some hk)).trans hk)
 have s:Kf w0.heap.size w (g.setCell ⟨d,2,none⟩ j):=E.trans (Kf.set p (aK rfl) lo.1)
 have F:ch≠d:=fun e=>by rw[e,hk] at l;simp at l
 have G:(nv (m++[(kd,none,0,[])]:List dT))=nv m++[ah kd,.slice none 0 0]:=by rw[wc];rfl
 refine⟨⟨?_,lo,?_,?_,?_,fun x b=>?_,hb.trans (s.below hb.size)⟩,⟨s,fun k hk=>?_⟩,p⟩
 ·simp only [World.setCell,Array.getElem?_modify,if_true,p,Option.map_some];rfl
 ·refine C.same ((aU _ _ _ _ F).trans ((g4.block ch (aM (lt_of_some l) i.size) (fun e=>?_)).trans (i.block ch (lt_of_some l))))
  obtain⟨q,f⟩:=e6 hr ch e;rw[l] at f;simp at f
 ·rw[G,aZ];refine cH A (fun k e=>aU _ _ _ _ (fun c=>?_))
  obtain⟨q,f⟩:=e6 A k e;rw[c,p] at f;simp at f
 ·simp[hZ] at v⊢;exact v
 ·rcases List.mem_append.1 b with b|b
  ·exact(B x b).kf s
  ·simp at b;subst b;exact fj.nil
 ·obtain⟨x,b,hl,o,e⟩:=hk;rcases List.mem_append.1 b with b|b
  ·exact aK ⟨x,b,hl,o,e⟩
  ·simp at b;subst b;simp at hl
theorem Wk.filled {w0 w:ax}{j ch pw g cap len:Nat}{T:List Int}{s:cQ}{m:List dT}(h:Wk w0 w j ch pw T s (.slice (ak g) len cap) m){i:Nat}{k0:Int}{v0:List _}(hi:s.2[i]?=some (k0,v0)){base c2:Nat}{a2:Option Addr}{b:List _}
 (hr:w.ownsRow base 97 2 (.slice a2 b.length c2) b.length (ev b)):
 Wk w0 (w.setCell ⟨g,i*2+1,none⟩ (.slice a2 b.length c2)) j ch pw T (s.1,s.2.set i (k0,b)) (.slice (ak g) len cap) (m.set i (k0,a2,c2,b))/\Kf w0.heap.size w (w.setCell ⟨g,i*2+1,none⟩ (.slice a2 b.length c2))/\(∀k,fp (m.set i (k0,a2,c2,b)) k->fp m k\/base<=k):=by
 obtain⟨q,f⟩:=e6 h.row g rfl;have d:Kf w0.heap.size w (w.setCell ⟨g,i*2+1,none⟩ (.slice a2 b.length c2)):=Kf.set f (aJ rfl) (cn h.row g rfl).1;obtain⟨x,hx,l⟩:∃x:dT,m[i]?=some x/\(x.1,x.2.2.2)=(k0,v0):=by exact x5
 have n:x.1=k0:=congrArg Prod.fst l;have p:len=m.length:=by
  rcases h.row.2 with⟨hv,_⟩|⟨t,u,v,hv,_⟩
  ·simp at hv
  ·simp at hv;exact hv.2.1
 refine⟨⟨(aU _ _ _ _ (fun c=>?_)).trans h.blk,h.lo,h.mp.same (aU _ _ _ _ (fun c=>?_)),?_,?_,fun y hy=>?_,h.eH.trans (d.below h.eH.size)⟩,d,fun k hk=>?_⟩
 ·have c:=c;have:=h.blk;rw[c,f] at this
  simp at this
 ·obtain⟨D,⟨A,B,hb,_⟩,_⟩:=h.mp;rw[c,f] at hb;simp at hb
 ·rw[a3,<-n,sr m i x a2 c2 b hx];have:=h.row;rw[<-p] at this⊢
  exact nQ this _ _
 ·rw[hZ,List.map_set];show((hZ m).set i (k0,b))=_;rw[h.nd]
 ·rcases List.mem_or_eq_of_mem_set hy with hy|hy
  ·exact(h.fl y hy).kf d
  ·subst hy;exact(fj.of hr).kf d
 ·obtain⟨y,hy,hl,o,e⟩:=hk;exact x4
section
variable {w0:ax}{kb ch pw p q N O y g:Nat}{ws:List Int}{sd:Nat}{v0:Value}{a1:Option Addr}{k1:Nat}{Q:List b7}{T:List Int}
theorem EE (hq:mZ w0 pw p q N O y g ws sd v0 a1 k1 Q)(al:∀a∈T,0<=a/\a<2000)(cy:T.length<=100000)(n:Nat)(M:cQ->Int->cQ)(hM:n6 w0 kb ch pw T M n)(J:kZ T (fun a=>pk (ld N y g ws a)) (eQ N y g ws Q) n M):
 n6 w0 kb ch pw T (fun s a=>((dA M T (s.1++[a],s.2++[(pk (ld N y g ws a),[])]) (eQ N y g ws Q a)).2.1,(dA M T (s.1++[a],s.2++[(pk (ld N y g ws a),[])]) (eQ N y g ws Q a)).2.2.set s.1.length (pk (ld N y g ws a),(dA M T (s.1++[a],s.2++[(pk (ld N y g ws a),[])]) (eQ N y g ws Q a)).1))) (n+1):=by
 intro w s cz m a h ho ha hn hl;obtain⟨b2,hi,b3,b5,b6⟩:=info_parts ED;have cA:=ho.lt ha hn;have b7:=al a ha;have b8:m.length=s.1.length:=by rw[h.len,ho.len]
 have K:=ho.more ha hn (pk (ld N y g ws a),[])
 have P:=mL M T (s.1++[a],s.2++[(pk (ld N y g ws a),[])]) (eQ N y g ws Q a)
 have G:=oI J K (by simp;omega) (eQ N y g ws Q a)
 have b9:=xu N y g ws Q a;have ca:=hq.hm;have am:(dA M T (s.1++[a],s.2++[(pk (ld N y g ws a),[])]) (eQ N y g ws Q a)).2.2[s.1.length]?=some (pk (ld N y g ws a),[]):=by rw[G.old s.1.length Z,List.getElem?_append_right (by rw[ho.len];exact aD _),ho.len];simp
 have cB:s.1.length<(dA M T (s.1++[a],s.2++[(pk (ld N y g ws a),[])]) (eQ N y g ws Q a)).2.1.length:=by
  have:=G.le;simp at this
  omega
 have cb:=G.ok.len;have an:ay (∀(o:ax)(ao:Value)(ap:List dT)(ad:Option Addr)(cap:Nat),Wk w0 o kb ch pw T (s.1++[a],s.2++[(pk (ld N y g ws a),[])]) ao ap->Lq o ad (eQ N y g ws Q a)->
  _):=
  fun o ao ap ad cap cd ce=>x8 hM J cd K (by simp;omega) _ ad cap ce V
 have ar:ay (∀w1,Below w0.heap.size w0 w1->_):=fun w1 hb=>gf a w1 (hq.low hb).ar;have aB:ay (∀w1,Below w0.heap.size w0 w1->w1.cell? (aq kb 0)=some (aj pw)->_):=
  fun w1 hb hc=>DP (hq.low hb) kb hc a b7.1 V
 have cC:=aQ w0 _ hq.c0;have cf:ay (∀w1,Below w0.heap.size w0 w1->_=_):=fun w1 hb=>(hq.low hb).c0;have aF:=jd (a:=a) V V;have aR:=m0 (s.1.length:Int) (WalkArith.wf_i64 ⟨V,V⟩)
 clear hM J G K b9 ca hq al;dsimp only;generalize cg:dA M T (s.1++[a],s.2++[(pk (ld N y g ws a),[])]) (eQ N y g ws Q a)=R at*;clear cg;generalize eQ N y g ws Q a=cD at*;obtain⟨cE,cF⟩:=R;dsimp only at*;generalize pk (ld N y g ws a)=kd at*;generalize pf (ld N y g ws a)=f at*;generalize pc (ld N y g ws a)=cc at*;have H:ay (_):=h;obtain⟨S,dF,ci⟩:=eE h.row;subst ci;obtain⟨c0,c1,c2,lk⟩:=h.cells;obtain⟨D,o1,aV,a0⟩:=h.mp;have hlo:=h.lo;have bb:ay (∀(w1:ax)(k:Nat),w1.ownsMap prog 3 (plainElem prog 3) ch k (D.put (.int .i64 a) (.lit (.int .i64 (s.1.length:Int))))->Nm w1 ch T (s.1++[a])):=fun w1 k cj=>Nm.put o1 aV a0 ha hn cj;have bd:ay (hZ m=s.2):=h.nd;clear h aV a0 ho ha hn;generalize s.1.length=L at*;subst b8;go_enter func231,ntmps231;go_wp2_with (at_mapUpdate;refine wpList_mapUpdate_own _ rfl _ _ _ 127 rfl 3 3 iN underlying127 (plainElem (H:=Unit) prog 3) ch T.length D rfl o1 (by unfold maxLen;omega) _ _ _ rfl rfl aF _ [] aR ?_;intro w1 be bg;(have bi:Fr (fun k=>k=ch) w w1:=(Fr.refl _ _).grown bg (fun k e=>aK (by cases e;rfl)));(have b:ay (_/\_/\_/\_/\_):=H.o.turned bi);(have U:ay (Nm w1 ch T (s.1++[a])):=bb.o w1 _ be);(have ck:w1.cell? (aq kb 0)=some (aj pw):=by simp[World.cell?,b.o.2.1]);(have y1:=cf.o w1 b.o.2.2.2.2);clear be bg bi c0 c1 c2 o1 bb)
 refine(ar.o w1 b.o.2.2.2.2).mono ?_;clear ar;rintro e A ⟨rfl,d⟩
 have W:=(d.block kb (lt_of_some b.o.2.1)).trans b.o.2.1;have bl:A.cell? (aq kb 2)=some (.slice S m.length dF):=aA W
 have bn:=hide W;have bo:=hide (U.o.same (by obtain⟨cG,cl,_⟩:=U.o;exact d.block ch cl.lt))
 have X:=cH b.o.2.2.1 (fun k hk=>d.block k (cn b.o.2.2.1 k hk).2)
 have bp:=hide X;have br:ay (_):=fun x cm=>(b.o.2.2.2.1 x cm).kf (Kf.of (B:=0) d)
 have B2:=hide (b.o.2.2.2.2.trans (d.mono b.o.2.2.2.2.size))
 have bs:=hide ((show fF w0 w m w1 m from⟨b.o.1,fun k h=>aK h⟩).trans (fF.of d))
 have cI:=B2.o.size;clear b U W ck y1 d lk;go_wp2_with (at_builtin;refine wpList_append_own_at _ rfl _ _ 58 rfl w0.heap.size 107 b2 (.agg #[ah 0,.slice none 0 0]) 2 32 underlying58 hi b3 b5 b6 rfl aa (.slice S m.length dF) m.length (nv m) rfl (gd X _) ⟨A.heap.size,0,none⟩ 1 1 [ah kd,.slice none 0 0] rfl rfl ?_ ?_ ?_ ?_ ?_ ?_;(intro j co i;match j,i with|0,i=>(simp at i;subst i;simp[Addr.add])|1,i=>(simp at i;subst i;simp[Addr.add]));(intro co t;simp at t;rcases t with t|t<;>(subst t;rfl));(unfold maxLen;omega);omega;(simp;omega);intro cJ Y ab bt _ cp;obtain⟨b4,cq,cr⟩:=eU ab (Nat.succ_pos _);subst cr;(have C:=hide (Wk.grown bn.o hlo bo.o bp.o bd.o br.o B2.o (au A _) ab bt));(have u0:Y.cell? (aq kb 2)=some (.slice S m.length dF):=by simp[World.cell?,C.o.2.2]);(have cs:Y.frozen? (aq kb 2)=false:=by simp[World.frozen?,C.o.2.2]);clear ab bt cp bl X bn bo bp bd br B2)
 obtain⟨bx,bY,_⟩:=C.o;have E:=hide (bs.o.trans bY)
 have u:=hide bx;clear C bx bY u0 cs bs;generalize Y.setCell ⟨kb,2,none⟩ (.slice (some ⟨b4,0,none⟩) (m.length+1) cq)=o at E u⊢;refine(aB.o o u.o.eH u.o.cells.1).mono ?_;clear aB;rintro e ct ⟨ad,cap,rfl,bZ,F⟩
 go_wp2_with fail;refine(an.o ct _ _ ad cap (u.o.below F) (Lq.of bZ)).mono ?_;clear an;rintro e cK ⟨cL,v,a2,cM,rfl,ag,l,b0,cu⟩
 have cN:=l.len.trans cb;obtain⟨cO,cP,cv⟩:=eU l.row V;subst cv;have bl:=l.cells.2.2.1;have cw:m.length<v.length:=V;obtain⟨ai,cR⟩:=kD l.row ((oO v m.length _ (aL cw)).2)
 rw[<-P] at ag;have I:=hide (l.filled am ag)
 have b1:=hide ((E.o.trans (fF.of F)).trans b0)
 have cx:=((E.o.trans (fF.of F)).1).size;generalize (v[m.length]).2.1=q1 at ai;generalize (v[m.length]).2.2.2.length=cS at ai;generalize (v[m.length]).2.2.1=q3 at ai;rw[P] at I;clear bZ F ag l b0 cu E u am P aR aF;go_wp2_with fail;go_ret;exact⟨_,_,rfl,I.o.1,b1.o.1.trans I.o.2.1,fun k hk=>(I.o.2.2 k hk).elim (b1.o.2 k) (fun c=>aJ (aT cx c))⟩
theorem x9 (hq:mZ w0 pw p q N O y g ws sd v0 a1 k1 Q)(b:∀a∈T,0<=a/\a<2000)(c:T.length<=100000):∀n,n6 w0 kb ch pw T (met T (fun a=>pk (ld N y g ws a)) (eQ N y g ws Q) n) n
 |0=>fun w s d m a _ ho ha hn hl=>by have:=ho.lt ha hn;omega
 |n+1=>EE hq b c n _ (x9 hq b c n) (jq n)
end
section
variable {w:ax}{pw p q N O y g:Nat}{ws:List Int}{sd:Nat}{v0:Value}{a1:Option Addr}{k1:Nat}{Q:List b7}{l:List Int}{ra:Option Addr}{rc:Nat}
def fw (N y g:Nat)(ws:List Int)(Q:List b7)(l:List Int):List (Int×Int)×cQ:=
 dA (met (d8 N y g ws++dB N y g ws) (fun a=>pk (ld N y g ws a)) (eQ N y g ws Q) (d8 N y g ws++dB N y g ws).length) (d8 N y g ws++dB N y g ws) ([],[]) l
theorem x_ (N y g:Nat)(ws:List Int)(Q:List b7)(l:List Int):hQ (d8 N y g ws++dB N y g ws) (fun a=>pk (ld N y g ws a)) (eQ N y g ws Q) ([],[]) (fw N y g ws Q l).2 (fw N y g ws Q l).1:=
 oI (jq _) (e5.start _) Z l
end
open Go.RowKit W
theorem EF {P:Program}{o:Oper}{a:Act}{w:ax}{K:Act->ax->Prop}{Q:Exit->Act->ax->Prop}(n:o.guard=none)(e s:Operand)(f p i:TypeId)
 (ho:o.op=.call {callee:=.builtin .copy,args:=#[e,s],argTypes:=#[f,p]})(x:P.underlying f=some (.slice i))(A:(P.info? i).map (·.size)=some 1)
 (k sp:Option Addr)(l q m u:Nat)(hd:a.eval e=.slice k l q)(hs:a.eval s=.slice sp m u)
 (g c:Nat)(d:List Value)(t:TypeId)(hg:w.heap[g]?=some (.cells d.toArray t (0,0)))(b:List Value)(hn:b.length=Nat.min m l)
 (B:0<b.length->k=some ⟨g,c,none⟩/\∃ad,sp=some ad/\∀j v,b[j]?=some v->w.cell? (ad.add j)=some v)
 (C:c+b.length<=d.length)(D:∀v∈b,v.oneCell'=true)
 (h:∀w',k8 w w' g d c b->K (a.put o.dst (goInt b.length)) w'):Oper.wp P o a w K Q:=by
 have:=p4 (ops:=#[]) (o:=o) (K:=K) (Q:=Q) (E:=False) n e s f p i ho x A k sp l q m u hd hs g c d t hg b hn B C D h;rwa [aI (show Region.wanted o (yielded #[] a.tmps)=true by simp[Region.wanted,n])] at this
theorem tf {P:Program}{ops:Array Oper}{n:List Oper}{o:Oper}{a:Act}{w:ax}{Q:Exit->Act->ax->Prop}(p:o.guard=none)(e s:Operand)(f q i:TypeId)
 (ho:o.op=.call {callee:=.builtin .copy,args:=#[e,s],argTypes:=#[f,q]})(A:P.underlying f=some (.slice i))(B:(P.info? i).map (·.size)=some 1)
 (k sp:Option Addr)(l u m x:Nat)(hd:a.eval e=.slice k l u)(hs:a.eval s=.slice sp m x)
 (g c:Nat)(d:List Value)(t:TypeId)(hg:w.heap[g]?=some (.cells d.toArray t (0,0)))(b:List Value)(hn:b.length=Nat.min m l)
 (C:0<b.length->k=some ⟨g,c,none⟩/\∃ad,sp=some ad/\∀j v,b[j]?=some v->w.cell? (ad.add j)=some v)
 (D:c+b.length<=d.length)(E:∀v∈b,v.oneCell'=true)
 (h:∀w',k8 w w' g d c b->wpList P ops Q n (a.put o.dst (goInt b.length)) w'):wpList P ops Q (o::n) a w:=
 wpList_plain p fun _ F=>EF p e s f q i ho A B k sp l u m x hd hs g c d t hg b hn C D E (fun w' hw=>F _ _ (h w' hw))
theorem EG (w:ax):Calls prog 223 #[.int .u64 1,.int .u64 12] w fun e w'=>e=.returned (.tuple #[.int .u64 0,.int .u64 12])/\w'=w:=by go_wp2;go_ret2;exact⟨rfl,rfl⟩
theorem EH (w:ax):Calls prog 167 #[.int .u64 1,.int .u64 12] w fun e w'=>e=.returned (.tuple #[.int .u64 0,.int .u64 12])/\w'=w:=by
 go_enter func167,ntmps167;go_wp2_with fail;refine(EG w).mono ?_;rintro e w1 ⟨rfl,hw⟩
 have hw:=hw.symm;subst hw;go_wp2;go_ret2;exact⟨rfl,rfl⟩
def tw (v:Int)(n:Nat):List Int:=List.replicate n v++List.replicate (12-n) 0
theorem ti (v:Int)(n:Nat)(h:n<=12):(tw v n).length=12:=by simp[tw];omega
theorem EI (v:Int)(n m:Nat)(h:n+m<=12):splice (tw v n) n (List.replicate m v)=tw v (n+m):=by unfold splice tw;rw[List.take_left' Z,List.length_replicate,List.drop_append,List.length_replicate];simp only [List.drop_replicate];rw[show n-(n+m)=0 by omega,show 12-n-(n+m-n)=12-(n+m) by omega];simp;rw[<-ba,List.replicate_append_replicate]
theorem EJ (v:Int)(n i:Nat)(h:i<n):(tw v n).getD i 0=v:=by unfold tw;rw[aE,List.getElem?_append_left (by simpa using h)];simp[h]
theorem one_cell {w:ax}{b:Nat}{v:Int}(hc:w.cell? (aq b 0)=some (ah v)):∀j c,((List.replicate 1 v).map (Value.int .i64))[j]?=some c->w.cell? ((⟨b,0,none⟩:Addr).add j)=some c:=by
 intro j c hj;have d:j=0:=by exact qv
 subst d;rw[<-hj];simpa[Addr.add] using hc
theorem EK {w:ax}{nb n:Nat}{v:Int}(hr:w.heap[nb]?=some (.cells ((tw v n).map (Value.int .i64)).toArray 2 (0,0)))(hn:n<=12)(m:Nat)(hm:m<=n):∀j b,((List.replicate m v).map (Value.int .i64))[j]?=some b->w.cell? ((⟨nb,0,none⟩:Addr).add j)=some b:=by
 intro j b hj;have c:j<m:=by exact qv
 have d:b=ah v:=by simp[c] at hj;exact hj.symm
 have hl:=ti v n hn;have hg:=EJ v n j V;rw[aE,aL (by omega:j<(tw v n).length)] at hg;have ea:(⟨nb,0,none⟩:Addr).add j=⟨nb,j,none⟩:=by simp[Addr.add];intro h;exact h.symm
 rw[ea,d];have e:j<(tw v n).length:=V;simp[World.cell?,hr,List.getElem?_eq_getElem e];exact hg
theorem ya {w w':ax}{nb n m B:Nat}{v:Int}(b:k8 w w' nb ((tw v n).map (Value.int .i64)) n ((List.replicate m v).map (Value.int .i64)))(hr:w.heap[nb]?=some (.cells ((tw v n).map (Value.int .i64)).toArray 2 (0,0)))(hm:0<m)(h:n+m<=12)(hB:B<=nb):w'.heap[nb]?=some (.cells ((tw v (n+m)).map (Value.int .i64)).toArray 2 (0,0))/\Below B w w':=by
 rcases b with⟨h0,_⟩|rfl
 ·have:=congrArg List.length h0;simp at this
  omega
 ·rw[sv,EI v n m h];exact⟨setRow_heap w nb _ _ _ _ hr,⟨rfl,rfl,rfl,by simp[World.setRow],fun k hk=>setRow_other w nb k _ V⟩⟩
theorem EL (w:ax)(b:Nat)(v:Int)(hc:w.cell? (aq b 0)=some (ah v)):
 Calls prog 88 #[.slice (ak b) 1 1,ah 12] w fun e w'=>∃nb,e=.returned (.slice (ak nb) 12 12)/\w.heap.size<=nb/\w'.heap[nb]?=some (.cells ((tw v 12).map (Value.int .i64)).toArray 2 (0,0))/\Below w.heap.size w w':=by
 obtain⟨l,hi,A,C,D⟩:=info_parts wj;have lb:=aQ w _ hc;go_enter func88,ntmps88;go_wp2_with fail;refine(EH w).mono ?_;rintro e w0 ⟨rfl,hw⟩
 have hw:=hw.symm;subst hw
 go_upto_region 7 with(at_make;refine wpList_make_full _ rfl _ _ 53 rfl w.heap.size 2 l (ah 0) 1 underlying53 hi A C .i64 .i64 _ _ 12 rfl rfl V V (by rw[D];omega) (by unfold maxLen;omega) bW ?_;intro w1 E F)
 have hr:w1.heap[w.heap.size]?=some (.cells ((tw v 0).map (Value.int .i64)).toArray 2 (0,0)):=by simpa[tw] using(wm E)
 have f:=(aH _ w).grown F bW (fun _ h=>by cases h)
 have o:=hide (one_cell ((f.cell (p:=aq b 0) lb).trans hc))
 have g:=hide hr;have c:ay (((List.replicate 1 v).map (Value.int .i64)).length=Nat.min 1 12):=rfl;have d:ay (0+((List.replicate 1 v).map (Value.int .i64)).length<=((tw v 0).map (Value.int .i64)).length):=by show _<=_;rw[aW,aW,ti v 0 V];simp
 go_wp2_with (refine tf rfl _ _ 53 53 2 rfl underlying53 su (ak w.heap.size) (ak b) 12 12 1 1 rfl rfl w.heap.size 0 ((tw v 0).map (Value.int .i64)) 2 g.o ((List.replicate 1 v).map (Value.int .i64)) c.o (fun _=>⟨rfl,_,rfl,o.o⟩) d.o (oR _) ?_;intro N q)
 obtain⟨s,t⟩:=ya (B:=w.heap.size) q g.o V V bW
 have u:=f.trans t;clear q o g c d f t
 go_loopw [8] (fun nv wr=>∃n:Nat,1<=n/\n<=12/\nv=ah n/\ay (wr.heap[w.heap.size]?=some (.cells ((tw v n).map (Value.int .i64)).toArray 2 (0,0)))/\Below w.heap.size w wr) (fun nv _=>12-(intOf nv).toNat)
 exact⟨1,aD _,V,rfl,s,u⟩
 ·
   clear s u;obtain⟨n,n1,x,rfl,i,hb⟩:=hrel;by_cases O:n<12
   ·obtain⟨m,hm,G,j,H⟩:∃m,m=Nat.min n (12-n)/\0<m/\n+m<=12/\m<=n:=⟨_,rfl,by simp only [Nat.min_def];split<;>omega,by simp only [Nat.min_def];split<;>omega,by simp only [Nat.min_def];split<;>omega⟩
    have k:=hide i.o;have c:ay (((List.replicate m v).map (Value.int .i64)).length=Nat.min n (12-n)):=by show _=_;rw[<-hm];simp
    have d:ay (n+((List.replicate m v).map (Value.int .i64)).length<=((tw v n).map (Value.int .i64)).length):=by show _<=_;rw[aW,aW,ti v n x];simpa using j
    have P:¬12=n:=V;have l:(0:Int)<=(n:Int):=V;have Q:(n:Int)<=12:=V;have R:(n:Int)<12:=V;clear i;go_wp2_with fail
    go_region_law (refine p4 rfl (.tmp 41) (.tmp 44) 53 53 2 rfl underlying53 su (some ⟨w.heap.size,n,none⟩) (ak w.heap.size) (12-n) (12-n) n 12 ?_ ?_ w.heap.size n ((tw v n).map (Value.int .i64)) 2 k.o ((List.replicate m v).map (Value.int .i64)) c.o (fun _=>⟨rfl,_,rfl,(hide (EK k.o x m H)).o⟩) d.o (oR _) ?_;(simp[Act.eval,Act.put]);(simp[Act.eval,Act.put]);intro S I)
    obtain⟨J,K⟩:=ya (B:=w.heap.size) I k.o G j bW
    have L:=hide J;have M:=hb.drew.trans K;have hw:IntKind.i64.wrap ((n:Int)+(m:Int))=((n+m:Nat):Int):=by rw[bk];omega
    simp[Act.put,go_sem,Exit.inBlock];rw[<-hm,hw];refine⟨⟨_,_,_,_,_,_,_,_,_,_,_,_,_,_,?rel,rfl⟩,?measure⟩
    exact⟨n+m,V,j,rfl,L,M⟩
    simp[intOf];omega
   ·obtain rfl:n=12:=V;go_wp2_with fail;go_ret;exact⟨w.heap.size,rfl,aD _,i.o,hb⟩
theorem yb (n o:Nat)(w:ax)(h0:16<=n)(a0:n<=256)(a1:o<=1024):
 Calls prog 38 #[ah n,ah o] w fun e w'=>∃pw p q pc cO s nb,e=.returned (.tuple #[aj pw,.agg #[ah 0,ah 0]])/\h9 w' pw p q pc cO n o 0 0 (List.replicate (n+o) 0) (dF o) [] (aj s) (.slice (ak nb) 12 12)/\w'.heap[s]?=some (.cells #[.slice none 0 0,.slice none 0 0] 153 (0,0))/\w'.heap[nb]?=some (.cells ((tw 2 12).map (Value.int .i64)).toArray 2 (0,0))/\
  (w.heap.size<=pw/\w.heap.size<=p/\w.heap.size<=q/\w.heap.size<=pc/\w.heap.size<=cO/\w.heap.size<=s/\w.heap.size<=nb)/\Below w.heap.size w w':=by
 have P:=CD n o (w.alloc (.cells #[.int .i64 0,.int .i64 0] 28)) V V V V;simp only [Int.toNat_natCast] at P;go_enter func38,ntmps38;go_wp2_with fail;refine P.mono ?_;clear P;rintro e w1 ⟨p,q,rfl,D,hp,hq,m⟩
 have E:=(m.block w.heap.size Z).trans (aO w (.cells #[.int .i64 0,.int .i64 0] 28))
 have S:=(au w (.cells #[.int .i64 0,.int .i64 0] 28)).trans (m.mono Z)
 simp at hp hq;have U:=m.size;simp at U;have u:=D.alloc (.cells #[.int .i64 0,.int .i64 0] 28)
 have A:=au w1 (.cells #[.int .i64 0,.int .i64 0] 28)
 clear m;go_wp2_with fail;refine(mP _ u).mono ?_;rintro e W ⟨rfl,j⟩
 have F:=u.below j bW
 have X:=(S.trans (A.mono V)).trans (j.mono (by simp;omega))
 have Y:=j.size;simp at Y;have G:=((j.block w.heap.size (by simp;omega)).trans (A.block w.heap.size V)).trans E;clear D u j A E;go_wp2_with fail;refine(Dg n o W V).mono ?_;rintro e d ⟨pc,cO,rfl,H,a2,bb,l⟩
 have I:=F.below l bW
 have ab:=X.trans (l.mono V)
 have bd:=l.size;have J:=(l.block w.heap.size V).trans G;clear F l G;go_wp2_with fail;have i:=au d (.cells #[.slice none 0 0,.slice none 0 0] 153)
 have B:=aO d (.cells #[.slice none 0 0,.slice none 0 0] 153)
 refine(sf _).mono ?_;rintro e C ⟨rfl,hw⟩
 have ad:C.heap.size=d.heap.size+1:=by rw[hw];simp
 rw[<-hw] at i B;clear hw;have K:=I.below i bW
 have L:=H.below i bW
 have ag:=ab.trans (i.mono V)
 have M:=(i.block w.heap.size V).trans J;clear I H J i;go_wp2_with fail;have N:=au C (.cells #[.int .i64 2] 2)
 refine(EL _ (d.heap.size+1) 2 (by rw[<-ad];simp)).mono ?_;rintro e c ⟨nb,rfl,O,hrow,Q⟩
 have f:=N.trans (Q.mono Z)
 have ai:=K.below f bW
 have al:=L.below f bW
 have am:=ag.trans (f.mono V)
 have t:=(f.block w.heap.size V).trans M;have an:=(f.block d.heap.size V).trans B;have be:=f.size;have bg:w.heap.size<nb:=by simp at O;omega
 have bi:=lt_of_some hrow;have y0:c.cell? (aq w.heap.size 0)=some (ah 0):=aA t
 have y1:c.cell? (aq w.heap.size 1)=some (ah 0):=aA t
 have ao:c.frozen? (aq w.heap.size 0)=false:=aC t
 have ap:c.frozen? (aq w.heap.size 1)=false:=aC t
 have ar:w.heap.size<c.heap.size:=V;clear K L M B Q f N O;go_wp2_with fail;obtain⟨b,hW0⟩:∃b,b=(c.setCell ⟨w.heap.size,0,none⟩ (.int .i64 0)).setCell ⟨w.heap.size,1,none⟩ (.int .i64 0):=⟨_,rfl⟩
 rw[<-hW0];have aB:b.heap.size=c.heap.size:=by rw[hW0];simp[World.setCell]
 have k0:∀k,k≠w.heap.size->b.heap[k]?=c.heap[k]?:=fun k hk=>by rw[hW0];exact(aU _ _ _ _ hk).trans (aU _ _ _ _ hk)
 have g0:b.cell? (aq w.heap.size 0)=some (ah 0):=by exact lu
 have g1:b.cell? (aq w.heap.size 1)=some (ah 0):=by rw[hW0];exact bf _ _ _ ((a5 c ⟨w.heap.size,0,none⟩ ⟨w.heap.size,1,none⟩ _ Z).trans y1)
 have aF:Below w.heap.size w b:=by rw[hW0];exact am.trans ((((Fr.refl (fun k=>k=w.heap.size) c).set w.heap.size 0 _ rfl).set w.heap.size 1 _ rfl).below (Nat.le_of_lt ar) (fun x e=>by have e:x=w.heap.size:=e;omega))
 have R:=aO b (.cells #[.pointer (some ⟨p,0,none⟩),.pointer (some ⟨pc,0,none⟩),.pointer (some ⟨d.heap.size,0,none⟩),.slice (some ⟨nb,0,none⟩) 12 12] 55)
 rw[aB] at R;have g:=au b (.cells #[.pointer (some ⟨p,0,none⟩),.pointer (some ⟨pc,0,none⟩),.pointer (some ⟨d.heap.size,0,none⟩),.slice (some ⟨nb,0,none⟩) 12 12] 55)
 have aR:=(al.same (w':=b) (k0 pc V) (k0 cO V)).below g bW
 have aV:=((g.block d.heap.size V).trans (k0 _ V)).trans an;clear y0 y1 ao ap hW0;generalize b.alloc (.cells #[.pointer (some ⟨p,0,none⟩),.pointer (some ⟨pc,0,none⟩),.pointer (some ⟨d.heap.size,0,none⟩),.slice (some ⟨nb,0,none⟩) 12 12] 55)=bl at*;refine a4 (v:=.tuple #[aj c.heap.size,.agg #[ah 0,ah 0]]) (by simp[results,results38,go_sem,((g.cell (p:=aq w.heap.size 0) (by show w.heap.size<_;omega)).trans g0),((g.cell (p:=aq w.heap.size 1) (by show w.heap.size<_;omega)).trans g1)]) rfl ⟨c.heap.size,p,q,pc,cO,d.heap.size,nb,rfl,⟨R,((ai.same (w':=b) (k0 p V) (k0 q V)).below g bW),aR⟩,aV,(((g.block nb V).trans (k0 _ V)).trans hrow),⟨V,V,V,V,V,V,V⟩,(aF.trans (g.mono V))⟩
theorem EM (n o:Int)(w:ax)(h:n<16\/256<n\/o<0\/1024<o):
 Calls prog 38 #[ah n,ah o] w fun e w'=>e=.returned (.tuple #[.pointer none,.agg #[ah 1,ah (-1)]])/\Below w.heap.size w w':=by
 have g:=au w (.cells #[.int .i64 0,.int .i64 0] 28)
 have i:=aO w (.cells #[.int .i64 0,.int .i64 0] 28)
 have P:=CE n o (w.alloc (.cells #[.int .i64 0,.int .i64 0] 28)) h;go_enter func38,ntmps38;go_wp2_with fail;refine P.mono ?_;rintro e w1 ⟨rfl,d⟩
 have c:=(d.block w.heap.size Z).trans i;have hB1:=g.trans (d.mono Z)
 have j:=d.size;simp at j;have y0:w1.cell? (aq w.heap.size 0)=some (ah 0):=aA c
 have y1:w1.cell? (aq w.heap.size 1)=some (ah 0):=aA c
 have q:w1.frozen? (aq w.heap.size 0)=false:=aC c
 have s:w1.frozen? (aq w.heap.size 1)=false:=aC c
 have l1:w.heap.size<w1.heap.size:=V;clear d i g c;go_wp2_with fail
 go_region_law (fail)
 all_goals
  obtain⟨b,hW0⟩:∃b,b=(w1.setCell ⟨w.heap.size,0,none⟩ (.int .i64 1)).setCell ⟨w.heap.size,1,none⟩ (.int .i64 (-1)):=⟨_,rfl⟩
  rw[<-hW0];have t:b.heap.size=w1.heap.size:=by rw[hW0];simp[World.setCell]
  have g0:b.cell? (aq w.heap.size 0)=some (ah 1):=by exact lu
  have g1:b.cell? (aq w.heap.size 1)=some (ah (-1)):=by exact qi
  have l:Below w.heap.size w b:=by exact te
  have f:=(au b (.cells #[.int .i64 1,.int .i64 (-1)] 28)).drew;have r0:=(f.cell (p:=aq w.heap.size 0) (by show w.heap.size<_;omega)).trans g0;have r1:=(f.cell (p:=aq w.heap.size 1) (by show w.heap.size<_;omega)).trans g1;have m:=l.trans (f.mono V)
  generalize (b.alloc (.cells #[.int .i64 1,.int .i64 (-1)] 28)).drew=u at*;go_wp2_with fail;refine a4 (v:=.tuple #[.pointer none,.agg #[.int .i64 1,.int .i64 (-1)]]) (by simp[results,results38,go_sem,r0,r1]) rfl ⟨rfl,m⟩
structure Wf (w:ax)(pw p q pc cO sd nb N O y g:Nat)(ws:List Int)(c:Int)(M rs:List Int):Prop where
 ic:h9 w pw p q pc cO N O y g ws c M (aj sd) (.slice (ak nb) 12 12)
 EN:w.heap[sd]?=some (.cells #[.slice none 0 0,.slice none 0 0] 153 (0,0))
 rts:w.heap[nb]?=some (.cells (rs.map (Value.int .i64)).toArray 2 (0,0))
 rl:rs.length=12
 nq:nb≠q
section
variable {w w':ax}{pw p q pc cO sd nb N O y g:Nat}{ws:List Int}{c:Int}{M rs:List Int}
theorem Wf.apart (h:Wf w pw p q pc cO sd nb N O y g ws c M rs):(sd≠p/\sd≠q/\sd≠pc/\sd≠cO)/\(nb≠p/\nb≠q/\nb≠pc/\nb≠cO)/\nb≠pw/\nb≠sd:=by
 obtain⟨D,⟨j,k,hb,_⟩,_⟩:=h.ic.cd.hq;have f:=h.ic.ar.hp;have i:=h.ic.cd.hp;have d:=h.EN;have b:=h.rts;refine⟨⟨fun e=>?_,fun e=>?_,fun e=>?_,fun e=>?_⟩,⟨fun e=>?_,h.nq,fun e=>?_,fun e=>?_⟩,fun e=>?_,fun e=>?_⟩
 ·rw[e,f] at d;simp at d
 ·rw[e,h.ic.ar.hq] at d;simp at d
 ·rw[e,i] at d;simp at d
 ·rw[e,hb] at d;simp at d
 ·rw[e,f] at b;simp at b
 ·rw[e,i] at b;simp at b
 ·rw[e,hb] at b;simp at b
 ·rw[e,h.ic.blk] at b;simp at b
 ·rw[e,d] at b;simp at b
end
def tq:List Int:=fD (List.replicate 24 0) 0 (hw 1 2) 2
def qz:List Int:=gg 16 3 0 tq (ew 3 0) 1 20
def yc:List Int:=(tw 2 12).set 0 (ew 3 0)
theorem b1:el 16 3 0 tq (ew 3 0) 1=0:=by decide+kernel
theorem b2:stM 16 3 0 tq (ew 3 0) 1 20 (dF 8) []=[]:=by decide+kernel
theorem b3:el 16 3 0 qz (ew 3 0) 1=0:=by decide+kernel
theorem b4:ld 16 3 0 qz (cg (ew 3 0)+1+1)=20:=by decide+kernel
theorem b5:(fw 16 3 0 qz [] yc).1=[(3,0),(0,0),(0,0),(0,0),(0,0),(0,0),(0,0),(0,0),(0,0),(0,0),(0,0),(0,0)]:=by decide+kernel
theorem b6:(fw 16 3 0 qz [] yc).2.2=[(1,[(0,0),(1,5)])]:=by decide+kernel
theorem EO {w w':ax}{pw p q pc cO s nb n o:Nat}(b:h9 w' pw p q pc cO n o 0 0 (List.replicate (n+o) 0) (dF o) [] (aj s) (.slice (ak nb) 12 12))(hs:w'.heap[s]?=some (.cells #[.slice none 0 0,.slice none 0 0] 153 (0,0)))(hr:w'.heap[nb]?=some (.cells ((tw 2 12).map (Value.int .i64)).toArray 2 (0,0)))(_:Below w.heap.size w w')(h0:16<=n):
 Wf w' pw p q pc cO s nb n o 0 0 (List.replicate (n+o) 0) (dF o) [] (tw 2 12):=by
 refine⟨b,hs,hr,aa,fun e=>?_⟩
 have:=b.ar.hq;rw[<-e,hr] at this
 simp only [Option.some.injEq,Obj.cells.injEq,and_true] at this
 have c:=congrArg (fun a:Array Value=>a[0]?) this
 rw[show n+o=(n+o-1)+1 by omega] at c;simp[tw,List.replicate_succ] at c
theorem EP {w:ax}{pw p q pc cO sd nb N O y g:Nat}{ws M rs:List Int}(h:Wf w pw p q pc cO sd nb N O y g ws (dF O) M rs)(hr:rs.length=12)(k:w.heap[nb]?=some (.cells (rs.map (Value.int .i64)).toArray 2 (0,0)))(hs:w.heap[sd]?=some (.cells #[.slice none 0 0,.slice none 0 0] 153 (0,0))):
 ∃F,(fM ⟨pw,p,q,pc,sd,nb,N,O⟩).J F ⟨⟨y,g,ws,M,rs⟩,[],[]⟩ w/\∀b,F b->b=pw\/b=p\/b=q\/b=pc\/b=cO\/b=sd\/b=nb:=by
 obtain⟨a1,a2,m,n,o,s,t,u⟩:=h.ic.apart;obtain⟨⟨s1,s2,v,s4⟩,⟨n1,x,A,n4⟩,B,C⟩:=h.apart;have s5:sd≠pw:=fun e=>by have l:=h.ic.blk;rw[<-e,hs] at l;simp at l
 have D:=h.ic.cd.eM;refine⟨fun b=>b=pw\/b=p\/b=q\/b=pc\/b=cO\/b=sd\/b=nb,⟨fun b=>b=pw\/b=p\/b=q\/b=pc\/b=cO\/b=sd\/b=nb,none,0,⟨fun b=>b=pw\/b=p\/b=q\/b=pc\/b=cO\/b=nb,none,0,⟨fun b=>if b=p\/b=q then 1 else if b=pc\/b=cO then 2 else if b=pw then 3 else if b=nb then 4 else 0,cO,?_,fun b=>?_⟩,hs,bc _ _ _ _,fun b c=>?_,aJ (aJ (aJ (aJ (aJ (aK rfl))))),fun c=>?_,fun b e=>by simp[Value.ownBlock] at e,fun b c=>?_⟩,bc _ _ _ _,fun b e=>by simp[Value.ownBlock] at e,fun b=>?_⟩,fun b c=>c⟩
 ·exact {
   ar:=h.ic.ar,cd:=h.ic.cd,wd:=h.ic.blk,rt:=k,rl:=hr
   a1:=Z
   a2:=Z
   c1:=by simp[Ne.symm o,Ne.symm t]
   c2:=by simp[Ne.symm s,Ne.symm u]
   w1:=by simp[a1,a2,m,n]
   r1:=by simp[n1,x,A,n4,B]
   le:=fun b=>by
    split
    ·decide
    ·split
     ·decide
     ·split
      ·decide
      ·split<;>decide
   lt:=fun b c=>by
    have k1:=h.ic.ar.eL;have E:=h.ic.ar.eM;have G:=h.ic.cd.eL;have H:=lt_of_some h.ic.blk;have k5:=lt_of_some k;by_cases d:b=p\/b=q
    ·rcases d with e|e<;>(rw[e];assumption)
    ·rw[aG d] at c;by_cases f:b=pc\/b=cO
     ·rcases f with e|e<;>(rw[e];assumption)
     ·rw[aG f] at c;by_cases i:b=pw
      ·rw[i];assumption
      ·rw[aG i] at c;by_cases j:b=nb
       ·rw[j];assumption
       ·rw[aG j] at c;exact absurd rfl c}
 ·dsimp only;by_cases d:b=p\/b=q
  ·rw[aI d];rcases d with e|e<;>simp[e]
  ·rw[aG d];by_cases f:b=pc\/b=cO
   ·rw[aI f];rcases f with e|e<;>simp[e]
   ·rw[aG f];by_cases i:b=pw
    ·rw[aI i];simp[i]
    ·rw[aG i];by_cases j:b=nb
     ·rw[aI j];simp[j]
     ·rw[aG j];simp only [not_or] at d f;simp[d,f,i,j]
 ·rcases c with c|c|c|c|c|c
  ·exact aK c
  ·exact aJ (aK c)
  ·exact aJ (aJ (aK c))
  ·exact aJ (aJ (aJ (aK c)))
  ·exact aJ (aJ (aJ (aJ (aK c))))
  ·exact aJ (aJ (aJ (aJ (aJ (aJ c)))))
 ·rcases c with c|c|c|c|c|c
  ·exact s5 c
  ·exact s1 c
  ·exact s2 c
  ·exact v c
  ·exact s4 c
  ·exact C c.symm
 ·rcases c with c|c|c|c|c|c|c
  ·rw[c];exact lt_of_some h.ic.blk
  ·rw[c];exact h.ic.ar.eL
  ·rw[c];exact h.ic.ar.eM
  ·rw[c];exact h.ic.cd.eL
  ·rw[c];exact D
  ·rw[c];exact lt_of_some hs
  ·rw[c];exact lt_of_some k
 ·exact⟨aK,fun c=>c.elim id (fun e=>by simp[Value.ownBlock] at e)⟩
def g_ (n o:Nat):cq×ck:=(⟨⟨0,0,List.replicate (n+o) 0,[],tw 2 12⟩,[],[]⟩,⟨[],List.replicate 12 (0,0),[],[]⟩)
def c8 (k:Int):Int:=
 if k=1\/k=2\/k=8 then 1 else if k=3\/k=5\/k=10\/k=11\/k=13 then 3 else if k=4\/k=6\/k=7\/k=14 then 7
 else if k=9\/k=12 then 6 else if k=15\/k=16 then 0 else-1
def gS (k n:Int):Int:=if k=1 then vc 1 n else if k=5 then hc 2 n else 0
def d3 (r:Int):Bool:=decide (0<=r)&&decide (r<12)
def dJ (k R A B n:Int):Int:=
 if c8 k=-1 then 2 else if(decide (c8 k=1\/c8 k=3\/c8 k=7)&&!d3 R)||(decide (c8 k=3\/c8 k=6\/c8 k=7)&&!d3 A)||(decide (c8 k=6\/c8 k=7)&&!d3 B) then 1 else gS k n
theorem o6 (k:Int):k=1\/k=2\/k=3\/k=4\/k=5\/k=6\/k=7\/k=8\/k=9\/k=10\/k=11\/k=12\/k=13\/k=14\/k=15\/k=16\/(k<1\/16<k):=V
theorem o7 {k:Int}(h:k<1\/16<k):c8 k=-1:=by unfold c8;rw[aG V,aG V,aG V,aG V,aG V]
theorem Ex (k:Int)(w:ax):Calls prog 54 #[ah k] w fun e w'=>e=.returned (ah (c8 k))/\w'=w:=by
 rcases o6 k with rfl|rfl|rfl|rfl|rfl|rfl|rfl|rfl|rfl|rfl|rfl|rfl|rfl|rfl|rfl|rfl|h
 case' inr.inr.inr.inr.inr.inr.inr.inr.inr.inr.inr.inr.inr.inr.inr.inr=>
  rw[o7 h];have b:¬k=1:=V;have c:¬k=2:=V;have d:¬k=3:=V;have f:¬k=4:=V;have g:¬k=5:=V;have i:¬k=6:=V;have j:¬k=7:=V;have l:¬k=8:=V;have m:¬k=9:=V;have n:¬k=10:=V;have o:¬k=11:=V;have p:¬k=12:=V;have q:¬k=13:=V;have s:¬k=14:=V;have t:¬k=15:=V;have u:¬k=16:=V;clear h
 all_goals
  go_enter func54,ntmps54;go_wp2_with fail;go_ret;exact⟨rfl,rfl⟩
theorem jO (r:Int)(w:ax):Calls prog 119 #[ah r] w fun e w'=>e=.returned (.bool (d3 r))/\w'=w:=by
 by_cases h0:0<=r
 ·by_cases b:r<12
  ·have e:d3 r=true:=by unfold d3;rw[bh h0,bh b];rfl
   rw[e];go_enter func119,ntmps119;go_wp2;go_ret;exact⟨rfl,rfl⟩
  ·have e:d3 r=false:=by unfold d3;rw[bu b,Bool.and_false]
   rw[e];go_enter func119,ntmps119;go_wp2;go_ret;exact⟨rfl,rfl⟩
 ·have e:d3 r=false:=by unfold d3;rw[bu h0,Bool.false_and]
  go_wp2;go_ret;exact⟨rfl,rfl⟩
theorem o8 (n:Int)(w:ax):Calls prog 122 #[ah n] w fun e w'=>e=.returned (.tuple #[ah (ew 1 n),ah (vc 1 n)])/\Below w.heap.size w w':=by
 go_enter func122,ntmps122;go_wp2_with fail;refine(vZ 1 n _).mono ?_;rintro e w1 ⟨rfl,hb⟩
 go_wp2_with fail;go_ret2;exact⟨rfl,hb⟩
theorem Ew (k R A B I n:Int)(w:ax):Calls prog 120 #[.agg #[ah k,ah R,ah A,ah B,ah I,ah n]] w fun e w'=>e=.returned (ah (gS k n))/\Below w.heap.size w w':=by
 have hb0:=au w (.cells #[.int .i64 k,.int .i64 R,.int .i64 A,.int .i64 B,.int .i64 I,.int .i64 n] 44)
 by_cases b:k=1
 ·subst b;have e:gS 1 n=vc 1 n:=by unfold gS;rw[aI rfl]
  rw[e];go_enter func120,ntmps120;go_wp2_with fail;refine(o8 n _).mono ?_;rintro e w1 ⟨rfl,hb⟩
  go_wp2_with fail;go_ret;exact⟨rfl,hb0.trans (hb.mono hb0.size)⟩
 ·by_cases c:k=5
  ·subst c;have e:gS 5 n=hc 2 n:=by unfold gS;rw[aG V,aI rfl]
   rw[e];go_enter func120,ntmps120;go_wp2_with fail;refine(oL 2 n _).mono ?_;exact o5
  ·have e:gS k n=0:=by unfold gS;rw[aG b,aG c]
   rw[e];go_enter func120,ntmps120;go_wp2_with fail;go_ret;exact⟨rfl,hb0⟩
section
variable {k R A B I n:Int}{w:ax}
end
theorem EQ (k:Int):c8 k=1\/c8 k=3\/c8 k=7\/c8 k=6\/c8 k=0\/c8 k=-1:=by
 unfold c8
 repeat' split
 all_goals simp
section
variable {k R A B I n:Int}{w:ax}
theorem ER (hu:c8 k=1)(hR:d3 R=false):Calls prog 55 #[.agg #[ah k,ah R,ah A,ah B,ah I,ah n]] w fun e w'=>e=.returned (ah (1))/\Below w.heap.size w w':=by
 have U:∀w,Calls prog 54 #[ah k] w fun e w'=>e=.returned (ah (1))/\w'=w:=fun w=>by exact jf
 exact tc
theorem ES (hu:c8 k=1)(b:d3 R=true):Calls prog 55 #[.agg #[ah k,ah R,ah A,ah B,ah I,ah n]] w fun e w'=>e=.returned (ah (gS k n))/\Below w.heap.size w w':=by
 have c:∀w,Calls prog 54 #[ah k] w fun e w'=>e=.returned (ah (1))/\w'=w:=fun w=>by exact jf
 have d:∀w,Calls prog 119 #[ah R] w fun e w'=>e=.returned (.bool true)/\w'=w:=fun w=>by have h:=jO R w;rw[b] at h;exact h
 have hb0:=au w (.cells #[.int .i64 k,.int .i64 R,.int .i64 A,.int .i64 B,.int .i64 I,.int .i64 n] 44)
 clear hu;go_enter func55,ntmps55;go_wp2_with fail;refine(c _).mono ?_;rintro e w1 ⟨rfl,rfl⟩
 go_wp2_with fail;refine(d _).mono ?_;exact o4
theorem ET (hu:c8 k=3)(hR:d3 R=false):Calls prog 55 #[.agg #[ah k,ah R,ah A,ah B,ah I,ah n]] w fun e w'=>e=.returned (ah (1))/\Below w.heap.size w w':=by
 have U:∀w,Calls prog 54 #[ah k] w fun e w'=>e=.returned (ah (3))/\w'=w:=fun w=>by exact jf
 exact tc
theorem EU (hu:c8 k=3)(hR:d3 R=true)(hA:d3 A=false):Calls prog 55 #[.agg #[ah k,ah R,ah A,ah B,ah I,ah n]] w fun e w'=>e=.returned (ah (1))/\Below w.heap.size w w':=by
 have U:∀w,Calls prog 54 #[ah k] w fun e w'=>e=.returned (ah (3))/\w'=w:=fun w=>by exact jf
 exact x3
theorem EV (hu:c8 k=3)(b:d3 R=true)(hA:d3 A=true):Calls prog 55 #[.agg #[ah k,ah R,ah A,ah B,ah I,ah n]] w fun e w'=>e=.returned (ah (gS k n))/\Below w.heap.size w w':=by
 have c:∀w,Calls prog 54 #[ah k] w fun e w'=>e=.returned (ah (3))/\w'=w:=fun w=>by exact jf
 have d:∀w,Calls prog 119 #[ah R] w fun e w'=>e=.returned (.bool true)/\w'=w:=fun w=>by have h:=jO R w;rw[b] at h;exact h
 have f:∀w,Calls prog 119 #[ah A] w fun e w'=>e=.returned (.bool true)/\w'=w:=fun w=>by exact n9
 have hb0:=au w (.cells #[.int .i64 k,.int .i64 R,.int .i64 A,.int .i64 B,.int .i64 I,.int .i64 n] 44)
 clear hu;go_enter func55,ntmps55;go_wp2_with fail;refine(c _).mono ?_;rintro e w1 ⟨rfl,rfl⟩
 go_wp2_with fail;refine(d _).mono ?_;rintro e w1 ⟨rfl,rfl⟩
 go_wp2_with fail;refine(f _).mono ?_;exact o4
theorem EW (hu:c8 k=7)(hR:d3 R=false):Calls prog 55 #[.agg #[ah k,ah R,ah A,ah B,ah I,ah n]] w fun e w'=>e=.returned (ah (1))/\Below w.heap.size w w':=by
 have U:∀w,Calls prog 54 #[ah k] w fun e w'=>e=.returned (ah (7))/\w'=w:=fun w=>by exact jf
 exact tc
theorem EX (hu:c8 k=7)(hR:d3 R=true)(hA:d3 A=false):Calls prog 55 #[.agg #[ah k,ah R,ah A,ah B,ah I,ah n]] w fun e w'=>e=.returned (ah (1))/\Below w.heap.size w w':=by
 have U:∀w,Calls prog 54 #[ah k] w fun e w'=>e=.returned (ah (7))/\w'=w:=fun w=>by exact jf
 exact x3
theorem EY (hu:c8 k=7)(b:d3 R=true)(hA:d3 A=true)(hB:d3 B=false):Calls prog 55 #[.agg #[ah k,ah R,ah A,ah B,ah I,ah n]] w fun e w'=>e=.returned (ah (1))/\Below w.heap.size w w':=by
 have c:∀w,Calls prog 54 #[ah k] w fun e w'=>e=.returned (ah (7))/\w'=w:=fun w=>by exact jf
 have d:∀w,Calls prog 119 #[ah R] w fun e w'=>e=.returned (.bool true)/\w'=w:=fun w=>by have h:=jO R w;rw[b] at h;exact h
 have f:∀w,Calls prog 119 #[ah A] w fun e w'=>e=.returned (.bool true)/\w'=w:=fun w=>by exact n9
 have g:∀w,Calls prog 119 #[ah B] w fun e w'=>e=.returned (.bool false)/\w'=w:=fun w=>by have h:=jO B w;rw[hB] at h;exact h
 have hb0:=au w (.cells #[.int .i64 k,.int .i64 R,.int .i64 A,.int .i64 B,.int .i64 I,.int .i64 n] 44)
 clear hu;go_enter func55,ntmps55;go_wp2_with fail;refine(c _).mono ?_;rintro e w1 ⟨rfl,rfl⟩
 go_wp2_with fail;refine(d _).mono ?_;rintro e w1 ⟨rfl,rfl⟩
 go_wp2_with fail;refine(f _).mono ?_;rintro e w1 ⟨rfl,rfl⟩
 go_wp2_with fail;refine(g _).mono ?_;exact o5
theorem EZ (hu:c8 k=7)(b:d3 R=true)(hA:d3 A=true)(hB:d3 B=true):Calls prog 55 #[.agg #[ah k,ah R,ah A,ah B,ah I,ah n]] w fun e w'=>e=.returned (ah (gS k n))/\Below w.heap.size w w':=by
 have c:∀w,Calls prog 54 #[ah k] w fun e w'=>e=.returned (ah (7))/\w'=w:=fun w=>by exact jf
 have d:∀w,Calls prog 119 #[ah R] w fun e w'=>e=.returned (.bool true)/\w'=w:=fun w=>by have h:=jO R w;rw[b] at h;exact h
 have f:∀w,Calls prog 119 #[ah A] w fun e w'=>e=.returned (.bool true)/\w'=w:=fun w=>by exact n9
 have g:∀w,Calls prog 119 #[ah B] w fun e w'=>e=.returned (.bool true)/\w'=w:=fun w=>by have h:=jO B w;rw[hB] at h;exact h
 have hb0:=au w (.cells #[.int .i64 k,.int .i64 R,.int .i64 A,.int .i64 B,.int .i64 I,.int .i64 n] 44)
 clear hu;go_enter func55,ntmps55;go_wp2_with fail;refine(c _).mono ?_;rintro e w1 ⟨rfl,rfl⟩
 go_wp2_with fail;refine(d _).mono ?_;rintro e w1 ⟨rfl,rfl⟩
 go_wp2_with fail;refine(f _).mono ?_;rintro e w1 ⟨rfl,rfl⟩
 go_wp2_with fail;refine(g _).mono ?_;exact o4
theorem E0 (hu:c8 k=6)(hA:d3 A=false):Calls prog 55 #[.agg #[ah k,ah R,ah A,ah B,ah I,ah n]] w fun e w'=>e=.returned (ah (1))/\Below w.heap.size w w':=by
 have b:∀w,Calls prog 54 #[ah k] w fun e w'=>e=.returned (ah (6))/\w'=w:=fun w=>by exact jf
 have c:∀w,Calls prog 119 #[ah A] w fun e w'=>e=.returned (.bool false)/\w'=w:=fun w=>by exact n9
 have hb0:=au w (.cells #[.int .i64 k,.int .i64 R,.int .i64 A,.int .i64 B,.int .i64 I,.int .i64 n] 44)
 clear hu;go_enter func55,ntmps55;go_wp2_with fail;refine(b _).mono ?_;rintro e w1 ⟨rfl,rfl⟩
 go_wp2_with fail;refine(c _).mono ?_;exact o5
theorem E5 (hu:c8 k=6)(hA:d3 A=true)(hB:d3 B=false):Calls prog 55 #[.agg #[ah k,ah R,ah A,ah B,ah I,ah n]] w fun e w'=>e=.returned (ah (1))/\Below w.heap.size w w':=by
 have b:∀w,Calls prog 54 #[ah k] w fun e w'=>e=.returned (ah (6))/\w'=w:=fun w=>by exact jf
 have c:∀w,Calls prog 119 #[ah A] w fun e w'=>e=.returned (.bool true)/\w'=w:=fun w=>by exact n9
 have d:∀w,Calls prog 119 #[ah B] w fun e w'=>e=.returned (.bool false)/\w'=w:=fun w=>by have h:=jO B w;rw[hB] at h;exact h
 have hb0:=au w (.cells #[.int .i64 k,.int .i64 R,.int .i64 A,.int .i64 B,.int .i64 I,.int .i64 n] 44)
 clear hu;go_enter func55,ntmps55;go_wp2_with fail;refine(b _).mono ?_;rintro e w1 ⟨rfl,rfl⟩
 go_wp2_with fail;refine(c _).mono ?_;rintro e w1 ⟨rfl,rfl⟩
 go_wp2_with fail;refine(d _).mono ?_;exact o5
theorem E6 (hu:c8 k=6)(hA:d3 A=true)(hB:d3 B=true):Calls prog 55 #[.agg #[ah k,ah R,ah A,ah B,ah I,ah n]] w fun e w'=>e=.returned (ah (gS k n))/\Below w.heap.size w w':=by
 have b:∀w,Calls prog 54 #[ah k] w fun e w'=>e=.returned (ah (6))/\w'=w:=fun w=>by exact jf
 have c:∀w,Calls prog 119 #[ah A] w fun e w'=>e=.returned (.bool true)/\w'=w:=fun w=>by exact n9
 have d:∀w,Calls prog 119 #[ah B] w fun e w'=>e=.returned (.bool true)/\w'=w:=fun w=>by have h:=jO B w;rw[hB] at h;exact h
 have hb0:=au w (.cells #[.int .i64 k,.int .i64 R,.int .i64 A,.int .i64 B,.int .i64 I,.int .i64 n] 44)
 clear hu;go_enter func55,ntmps55;go_wp2_with fail;refine(b _).mono ?_;rintro e w1 ⟨rfl,rfl⟩
 go_wp2_with fail;refine(c _).mono ?_;rintro e w1 ⟨rfl,rfl⟩
 go_wp2_with fail;refine(d _).mono ?_;exact o4
theorem E7 (hu:c8 k=0):Calls prog 55 #[.agg #[ah k,ah R,ah A,ah B,ah I,ah n]] w fun e w'=>e=.returned (ah (gS k n))/\Below w.heap.size w w':=by
 have b:∀w,Calls prog 54 #[ah k] w fun e w'=>e=.returned (ah (0))/\w'=w:=fun w=>by exact jf
 have hb0:=au w (.cells #[.int .i64 k,.int .i64 R,.int .i64 A,.int .i64 B,.int .i64 I,.int .i64 n] 44)
 clear hu;go_enter func55,ntmps55;go_wp2_with fail;refine(b _).mono ?_;exact o4
theorem E8 (hu:c8 k=-1):Calls prog 55 #[.agg #[ah k,ah R,ah A,ah B,ah I,ah n]] w fun e w'=>e=.returned (ah (2))/\Below w.heap.size w w':=by
 have b:∀w,Calls prog 54 #[ah k] w fun e w'=>e=.returned (ah (-1))/\w'=w:=fun w=>by exact jf
 have hb0:=au w (.cells #[.int .i64 k,.int .i64 R,.int .i64 A,.int .i64 B,.int .i64 I,.int .i64 n] 44)
 clear hu;go_enter func55,ntmps55;go_wp2_with fail;refine(b _).mono ?_;exact o5
end
theorem jx (k R A B I n:Int)(w:ax):Calls prog 55 #[.agg #[ah k,ah R,ah A,ah B,ah I,ah n]] w fun e w'=>e=.returned (ah (dJ k R A B n))/\Below w.heap.size w w':=by
 unfold dJ;rcases EQ k with b|b|b|b|b|b
 ·rw[b,aG aa];cases hR:d3 R
  ·rw[aI Z];exact ER b hR
  ·rw[aG Z];exact ES b hR
 ·rw[b,aG aa];cases hR:d3 R
  ·rw[aI Z];exact ET b hR
  ·cases hA:d3 A
   ·rw[aI Z];exact EU b hR hA
   ·rw[aG Z];exact EV b hR hA
 ·rw[b,aG aa];cases hR:d3 R
  ·rw[aI Z];exact EW b hR
  ·cases hA:d3 A
   ·rw[aI Z];exact EX b hR hA
   ·cases hB:d3 B
    ·rw[aI Z];exact EY b hR hA hB
    ·rw[aG Z];exact EZ b hR hA hB
 ·rw[b,aG aa];cases hA:d3 A
  ·rw[aI Z];exact E0 b hA
  ·cases hB:d3 B
   ·rw[aI Z];exact E5 b hA hB
   ·rw[aG Z];exact E6 b hA hB
 ·rw[b,aG aa];rw[aG Z];exact E7 b
 ·rw[aI b];exact E8 b
end Go.Proofs.YtpkjkjhanlbcoaaGreat
