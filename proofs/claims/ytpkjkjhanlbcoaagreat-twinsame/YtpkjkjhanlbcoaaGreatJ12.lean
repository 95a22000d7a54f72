import Derived.Test.YtpkjkjhanlbcoaaGreatJ11
namespace Go.Proofs.YtpkjkjhanlbcoaaGreat
set_option maxRecDepth 100000
set_option maxHeartbeats 4000000
open Tryz
open Go.RowKit W Kp cf
theorem yL {P:Prop}(h:P:=by rw[dW (hY hb.1 hb.2),dW (hY hb.1 hb.2),k7 _ _ _ _ _ hlt,aG V,aG V]):P:=h
theorem F8 {p q N O y g:Nat}{ws:List Int}(w:ax)(h:At w p q N O y g ws):
 Calls prog 129 #[aj p] w fun e w'=>∃v1 v2,e=.returned (.tuple #[v1,v2])/\w'.ownsRow w.heap.size 3 1 v1 (ei N y g ws).length ((ei N y g ws).map (Value.int .i64))/\w'.ownsRow w.heap.size 3 1 v2 (dD N y g ws).length ((dD N y g ws).map (Value.int .i64))/\(∀b,some b=v1.ownBlock->some b≠v2.ownBlock)/\Below w.heap.size w w':=by
 obtain⟨c0,c1,c2,c3,c4,c5,j⟩:=h.cells;have lp:=h.eL;have A:=h.eM;have k1:=h.hN';have B:=h.hy;have C:=h.hO;have D:=h.hg;go_enter func129,ntmps129;go_wp2_with fail;refine(wF 0 N y w.heap.size _ ((h.alloc _).alloc _) ((aS _ _ _ Z).trans (aN _ _)) V V V V V V).mono ?_;rintro e w1 ⟨rfl,v1,k,i,c⟩
 have l:=((h.alloc _).alloc _).same (c.block p (by simp;omega) V) (c.block q (by simp;omega) V)
 have d:=(c.block (w.heap.size+1) Z V).trans (sq _ Z)
 have o:=hide k;have s:=hide d;have t:=c.size;simp only [World.size_alloc] at t;clear k d c0 c1 c2 c3 c4 c5 j;obtain⟨c0,c1,c2,c3,c4,c5,j⟩:=l.cells;go_wp2_with fail;refine(wG N O g (w.heap.size+1) _ l s.o V V V V V V).mono ?_;rintro e m ⟨rfl,v2,d,n,f⟩
 have E:m.cell? (aq w.heap.size 0)=some v1:=by have:=(f.block w.heap.size V V).trans o.o;simp[World.cell?,this]
 have F:m.cell? (aq (w.heap.size+1) 0)=some v2:=aA d
 have G:=f.size;clear d;go_wp2_with fail
 go_quiet (fail)
 go_wp2_with fail;go_ret2;have u:∀b,some b=v1.ownBlock->some b≠v2.ownBlock:=fun b e v=>by have q1:=(cn i b e).2;have H:=(cn n b v).1;omega
 simp only [World.size_alloc] at i c;have x:ei N y g ws=eA N y g ws (0+(y:Int)) 2000 0:=by rw[Int.zero_add];rfl
 refine⟨v1,v2,rfl,?_,?_,u,?_⟩
 ·rw[x];exact lP (nR (base:=w.heap.size+1+1) (wz i f bW V) V) (below_drewN bX _)
 ·exact lP (nR n V) (below_drewN bX _)
 ·exact below_drewN (((bX.alloc bW _).alloc Z _).trans ((c.below V bW).trans (f.below V V))) _
theorem F9 (f:Nat)(c:Array Value)(p:Int->Bool)(b:dN f)(w:ax):
 Calls prog 213 #[.slice none 0 0,.func (.func f) #[] c] w fun r w'=>r=.returned (.slice none 0 0)/\Below w.heap.size w w':=by
 go_enter func213,ntmps213;go_wp2_with fail;refine(yE f c p b w [] (fun w' x d _=>by cases d) none 0 Z (fun h=>by simp at h)).mono ?_;rintro r w1 ⟨e,⟨rfl,_⟩|⟨i,_,g,_⟩⟩
 ·go_wp2;go_ret;exact⟨rfl,e⟩
 ·simp at g
theorem F_ (f:Nat)(c:Array Value)(p:Int->Bool)(d:dN f)(w:ax)(l:List Int)(ad:Option Addr)(cap B:Nat)
 (hl:∀(w':ax)(x:Int),x∈l->Fr (fun b=>some b=(Value.slice ad l.length cap).ownBlock) w w'->Calls prog f (#[ah x]++c) w' fun r i=>r=.returned (.bool (p x))/\Below w'.heap.size w' i)
 (hm:l.length<=100000)(hr:w.ownsRow B 3 1 (.slice ad l.length cap) l.length (l.map (Value.int .i64))):
 Calls prog 213 #[.slice ad l.length cap,.func (.func f) #[] c] w fun r w'=>r=.returned (.slice ad (eb p l).length cap)/\w'.ownsRow B 3 1 (.slice ad (eb p l).length cap) (eb p l).length ((eb p l).map (Value.int .i64))/\Fr (fun b=>some b=(Value.slice ad l.length cap).ownBlock) w w':=by
 rcases hr.2 with⟨hv,hn⟩|⟨g,k,m,hv,_⟩
 ·have j:=List.eq_nil_of_length_eq_zero hn;subst j;simp at hv;obtain⟨rfl,rfl⟩:=hv;refine(F9 f c p d w).mono ?_;rintro r w' ⟨rfl,hb⟩
  exact⟨rfl,bc _ _ _ _,Fr.of hb⟩
 ·obtain⟨rfl,rfl⟩:=hv;have e:∀n cap,(fun b=>some b=(Value.slice (ak g) n cap).ownBlock)=(fun b=>b=g):=fun n cap=>by simp[Value.ownBlock]
  rw[e] at hl⊢;exact F5 f c p d w l g cap B hl hm hr
theorem yM {pk pw p q N O y g:Nat}{ws:List Int}(w:ax)(f:At w p q N O y g ws)(c1:w.cell? (aq pk 0)=some (aj pw))(c2:w.cell? (aq pw 0)=some (aj p))(l:List Int)(ad:Option Addr)(cap B:Nat)(e:Int)(hl:l.length<=100000)(m:∀x∈l,0<=x/\x<=100000)
 (hr:w.ownsRow B 3 1 (.slice ad l.length cap) l.length (l.map (Value.int .i64)))(hB:pk<B/\pw<B/\p<B/\q<B):
 Calls prog 140 #[aj pk,.slice ad l.length cap,ah e] w fun r w'=>r=.returned (.slice ad (eb (fun x=>decide (e<=x+pf (ld N y g ws x))) l).length cap)/\w'.ownsRow B 3 1 (.slice ad (eb (fun x=>decide (e<=x+pf (ld N y g ws x))) l).length cap) (eb (fun x=>decide (e<=x+pf (ld N y g ws x))) l).length ((eb (fun x=>decide (e<=x+pf (ld N y g ws x))) l).map (Value.int .i64))/\Fr (fun b=>some b=(Value.slice ad l.length cap).ownBlock) w w':=by
 obtain⟨W,c⟩:∃W,W=(w.alloc (.cells #[.pointer (some ⟨pk,0,none⟩)] 137)).alloc (.cells #[.int .i64 e] 3):=⟨_,rfl⟩
 have i:Below w.heap.size w W:=by rw[c];exact((aH _ w).alloc bW _).alloc Z _
 have n:W.heap[w.heap.size]?=some (.cells #[aj pk] 137 (0,0)):=by rw[c,aS _ _ _ Z];exact aN _ _
 have o:W.heap[w.heap.size+1]?=some (.cells #[ah e] 3 (0,0)):=by rw[c];simpa using aN (w.alloc (.cells #[.pointer (some ⟨pk,0,none⟩)] 137)) _
 have v:W.heap.size=w.heap.size+2:=by rw[c];simp
 have P:=F_ 214 #[aj w.heap.size,aj (w.heap.size+1)] (fun x=>decide (e<=x+pf (ld N y g ws x))) F1 W l ad cap B (fun w' x s d=>by
  have hn:∀b,some b=(Value.slice ad l.length cap).ownBlock->_:=fun b e=>cn hr b e;have k0:∀b,b<B->b<w.heap.size->_=_:=fun b hb j=>(d.block b V (fun e=>by have:=(hn b e).1;omega)).trans (i.block b j)
  have k1:∀b,w.heap.size<=b->b<W.heap.size->_=_:=fun b hb j=>d.block b j (fun e=>by have:=(hn b e).2;omega)
  exact F4 w' (f.same (k0 p hB.2.2.1 f.eL) (k0 q hB.2.2.2 f.eM)) (by simp[World.cell?,((k1 w.heap.size _ V).trans n)]) ((aP (k0 pk hB.1 (aQ w _ c1))).trans c1) ((aP (k0 pw hB.2.1 (aQ w _ c2))).trans c2) (by simp[World.cell?,((k1 _ V V).trans o)]) x (m x s)) hl (cH hr (fun b e=>i.block b (cn hr b e).2))
 have t:ay (_/\∀b,some b=(Value.slice ad l.length cap).ownBlock->b<w.heap.size):=⟨i,fun b e=>(cn hr b e).2⟩
 go_enter func140,ntmps140;go_wp2_with fail;rw[<-(hide c).o];refine P.mono ?_;rintro r w1 ⟨rfl,u,d⟩
 have k:=dq u ((Fr.of t.o.1).trans d (fun b e=>aK e))
 go_wp2_with fail;go_ret;exact⟨rfl,k.o.1,k.o.2⟩
theorem Ga (w:ax)(pk:Nat)(G Y:List Int)(c d:Option Addr)(gc f:Nat)(l:w.cell? (aq pk 1)=some (.slice d Y.length f))(q:w.cell? (aq pk 2)=some (.slice c G.length gc))(yr:w.ownsRow 0 3 1 (.slice d Y.length f) Y.length (Y.map (Value.int .i64)))(gr:w.ownsRow 0 3 1 (.slice c G.length gc) G.length (G.map (Value.int .i64)))(hl:G.length+Y.length<=4000):
 Calls prog 141 #[aj pk] w fun e w'=>∃a g,e=.returned (.slice a (G.length+Y.length) g)/\w'.ownsRow w.heap.size 3 1 (.slice a (G.length+Y.length) g) (G.length+Y.length) ((G++Y).map (Value.int .i64))/\Below w.heap.size w w':=by
 have lk:=aQ w _ l;have s:=au w.drew (.cells #[.slice c G.length gc,.slice d Y.length f] 74)
 have i:=(av w).drew.trans (s.mono bW)
 have m:=aN w.drew (.cells #[.slice c G.length gc,.slice d Y.length f] 74)
 have P:=ys (w.drew.alloc (.cells #[.slice c G.length gc,.slice d Y.length f] 74)) w.heap.size G Y c d gc f (by simp only [World.cell?];rw[show w.heap.size=w.drew.heap.size from rfl,m];rfl) (by simp only [World.cell?];rw[show w.heap.size=w.drew.heap.size from rfl,m];rfl) (cH gr (fun b e=>i.block b (cn gr b e).2)) (cH yr (fun b e=>i.block b (cn yr b e).2)) V;have j:=hide i;go_enter func141,ntmps141;go_wp2_with fail
 go_region_held3 (fun w'=>w'.cell? (aq pk 1)=some (.slice d Y.length f)/\w'.cell? (aq pk 2)=some (.slice c G.length gc)) (go_keep)
  (first
    |(go_at_call 215;refine P.mono ?_;rintro e t ⟨a,g,rfl,n,hb⟩;have k:=j.o.trans (hb.mono j.o.size);have y1:=(k.cell (p:=aq pk 1) lk).trans l;have u:=(k.cell (p:=aq pk 2) lk).trans q;have o:=dq (eU n (fun b e=>aT j.o.size (cn n b e).1)) k))
 go_wp2_with fail;go_ret;exact⟨a,g,rfl,o.o.1,o.o.2⟩
theorem yN (w:ax)(p:Nat)(a0 a1:Option Addr)(k0 k1:Nat)(r q:List b7)(h:fu w p a0 k0 a1 k1 r q)(h0:r.length<=90000)(E:q.length<=90000):
 Calls prog 139 #[aj p] w fun e w'=>∃g i c0 b1 c1,e=.returned (aj g)/\w.heap.size<=g/\fu w' g i c0 b1 c1 r q/\(∀z,i=some z->w.heap.size<=z.block)/\(∀z,b1=some z->w.heap.size<=z.block)/\(∀k,some k=(Value.slice i r.length c0).ownBlock->some k≠(Value.slice b1 q.length c1).ownBlock)/\Below w.heap.size w w':=by
 obtain⟨c0,c1,n,o,lp⟩:=h.cells;have s:=hide (qw h.r0)
 have t:=hide (qw h.q0)
 clear h n o;go_enter func139,ntmps139;go_wp2_with fail;have hd:=(av w).drew
 go_region_held3 (fun w'=>w'.cell? (aq p 0)=some (.slice a0 r.length k0)/\w'.cell? (aq p 1)=some (.slice a1 q.length k1)) (first|exact⟨c0,c1⟩|exact⟨u0,l⟩|exact⟨v0,v1⟩|go_keep)
  (first
    |(have F:=b;go_at_call 212;refine(sj _ a1 q k1 (t.o.below b) V).mono ?_;rintro e u ⟨v,x,rfl,j,d⟩;have m:=d.size;have v0:=(d.cell (p:=aq p 0) (aM lp c)).trans u0;have v1:=(d.cell (p:=aq p 1) (aM lp c)).trans l)
    |(go_at_call 212;refine(sj _ a0 r k0 (s.o.below hd) V).mono ?_;rintro e G ⟨A,B,rfl,f,C⟩;have b:=hd.trans C;have c:=b.size;have u0:=(b.cell (p:=aq p 0) lp).trans c0;have l:=(b.cell (p:=aq p 1) lp).trans c1))
 go_wp2_with fail;go_ret;refine⟨u.heap.size,A,B,v,x,rfl,aT c m,⟨aN _ _,eU (ga (cH f (fun k e=>d.block k (cn f k e).2)) _) (fun _ _=>aY _),eU (ga j _) (fun _ _=>aY _)⟩,fun z e=>(cn f z.block (by rw[e];rfl)).1,fun z e=>aT c (cn j z.block (by rw[e];rfl)).1,fun k e D=>?_,(b.trans (d.mono c)).alloc (aT c m) _⟩
 have q1:=(cn f k e).2;have H:=(cn j k D).1;omega
abbrev yO (a:Wc)(ch ps:Nat)(yv ov:Value):Obj:=.cells #[aj a.pw,yv,ov,.map (some ch),aj ps,.slice none 0 0,.slice none 0 0] 140 (0,0)
structure fG (a:Wc)(S:cq)(w:ax)(pk ch ps:Nat)(b0:Option Addr)(d0:Nat)(b1:Option Addr)(d1:Nat)(yv ov:Value)(T:List Int)(w':ax):Prop where
 bl:Below w.heap.size w w'
 cb:w'.heap[pk]?=some (yO a ch ps yv ov)
 sd:fu w' ps b0 d0 b1 d1 S.r S.q
 mp:Mp w' ch T (fun _=>-1)
 kn:w.heap.size=ch
 jx:ch<ps
 pp:ps<pk
 l0:∀k,some k=(Value.slice b0 S.r.length d0).ownBlock->ch<k/\k<pk
 l1:∀k,some k=(Value.slice b1 S.q.length d1).ownBlock->ch<k/\k<pk
 ln:∀k,some k=(Value.slice b0 S.r.length d0).ownBlock->some k≠(Value.slice b1 S.q.length d1).ownBlock
section
variable {a:Wc}{S:cq}{w w' w'':ax}{pk ch ps:Nat}{b0 b1:Option Addr}{d0 d1:Nat}{yv ov:Value}{T:List Int}
theorem fG.fr {X:Nat->Prop}(h:fG a S w pk ch ps b0 d0 b1 d1 yv ov T w')(f:Fr X w' w'')(c:∀b,X b->pk<b):fG a S w pk ch ps b0 d0 b1 d1 yv ov T w'':=by
 have g:=h.kn;have i:=h.jx;have j:=h.pp;have k:=lt_of_some h.cb;have hk:∀b,b<=pk->_=_:=fun b hb=>f.block b V (fun d=>by have:=c b d;omega)
 exact {
  bl:=⟨f.os.trans h.bl.os,f.tape.trans h.bl.tape,f.output.trans h.bl.output,aT h.bl.size f.size,fun b hb=>(hk b V).trans (h.bl.block b hb)⟩
  cb:=(hk pk bW).trans h.cb
  sd:=⟨(hk ps V).trans h.sd.blk,cH h.sd.r0 (fun b e=>hk b (by have:=(h.l0 b e).2;omega)),cH h.sd.q0 (fun b e=>hk b (by have:=(h.l1 b e).2;omega))⟩
  mp:=h.mp.same (hk ch V)
  kn:=h.kn,jx:=h.jx,pp:=h.pp,l0:=h.l0,l1:=h.l1,ln:=h.ln}
theorem fG.below (h:fG a S w pk ch ps b0 d0 b1 d1 yv ov T w')(f:Below w'.heap.size w' w''):fG a S w pk ch ps b0 d0 b1 d1 yv ov T w'':=h.fr (Fr.of (X:=fun _=>False) f) (fun _ b=>b.elim)
theorem fG.set (h:fG a S w pk ch ps b0 d0 b1 d1 yv ov T w')(i:Nat)(v:Value){c d:Value}(e:(w'.setCell ⟨pk,i,none⟩ v).heap[pk]?=some (yO a ch ps c d)):fG a S w pk ch ps b0 d0 b1 d1 c d T (w'.setCell ⟨pk,i,none⟩ v):=by
 have g:=h.kn;have j:=h.jx;have k:=h.pp;have f:=(Fr.refl _ w').set pk i v rfl;have hk:∀b,b<pk->_=_:=fun b hb=>f.block b (by have:=lt_of_some h.cb;omega) (fun l=>by omega)
 exact {
  bl:=⟨f.os.trans h.bl.os,f.tape.trans h.bl.tape,f.output.trans h.bl.output,aT h.bl.size f.size,fun b hb=>(hk b V).trans (h.bl.block b hb)⟩
  cb:=e
  sd:=⟨(hk ps V).trans h.sd.blk,cH h.sd.r0 (fun b e=>hk b (h.l0 b e).2),cH h.sd.q0 (fun b e=>hk b (h.l1 b e).2)⟩
  mp:=h.mp.same (hk ch V)
  kn:=h.kn,jx:=h.jx,pp:=h.pp,l0:=h.l0,l1:=h.l1,ln:=h.ln}
theorem fG.set1 (h:fG a S w pk ch ps b0 d0 b1 d1 yv ov T w')(v:Value):fG a S w pk ch ps b0 d0 b1 d1 v ov T (w'.setCell ⟨pk,1,none⟩ v):=h.set 1 v (by simp only [World.setCell,Array.getElem?_modify,if_true,h.cb,Option.map_some];simp)
theorem fG.set2 (h:fG a S w pk ch ps b0 d0 b1 d1 yv ov T w')(v:Value):fG a S w pk ch ps b0 d0 b1 d1 yv v T (w'.setCell ⟨pk,2,none⟩ v):=h.set 2 v (by simp only [World.setCell,Array.getElem?_modify,if_true,h.cb,Option.map_some];simp)
theorem fG.add {x:Int}(h:fG a S w pk ch ps b0 d0 b1 d1 yv ov T w')(f:Fr (fun b=>b=ch) w' w'')(hm:Mp w'' ch (T++[x]) (fun _=>-1)):fG a S w pk ch ps b0 d0 b1 d1 yv ov (T++[x]) w'':=by
 have d:=h.kn;have g:=h.jx;have i:=h.pp;have j:=lt_of_some h.cb;have hk:∀b,b<=pk->b≠ch->_=_:=fun b hb hn=>f.block b V (fun c=>hn c)
 exact {
  bl:=⟨f.os.trans h.bl.os,f.tape.trans h.bl.tape,f.output.trans h.bl.output,aT h.bl.size f.size,fun b hb=>(hk b V V).trans (h.bl.block b hb)⟩
  cb:=(hk pk bW V).trans h.cb
  sd:=⟨(hk ps V V).trans h.sd.blk,cH h.sd.r0 (fun b e=>hk b (by have:=(h.l0 b e).2;omega) (by have:=(h.l0 b e).1;omega)),cH h.sd.q0 (fun b e=>hk b (by have:=(h.l1 b e).2;omega) (by have:=(h.l1 b e).1;omega))⟩
  mp:=hm
  kn:=h.kn,jx:=h.jx,pp:=h.pp,l0:=h.l0,l1:=h.l1,ln:=h.ln}
theorem fG.cells (h:fG a S w pk ch ps b0 d0 b1 d1 yv ov T w'):w'.cell? (aq pk 0)=some (aj a.pw)/\w'.cell? (aq pk 1)=some yv/\w'.cell? (aq pk 2)=some ov/\w'.cell? (aq pk 3)=some (.map (some ch))/\(∀i,w'.frozen? (aq pk i)=false)/\pk<w'.heap.size:=by
 have b:=h.cb;refine⟨?_,?_,?_,?_,fun i=>?_,lt_of_some b⟩
 all_goals first|simp[World.cell?,b]|simp[World.frozen?,b]
theorem fG.done {d:Nat->Prop}{f g:Option Addr}{i gc:Nat}(hw:(dX a).J d S.s w)(u:cV (S.s.j0 a) gL)(h:fG a S w pk ch ps b0 d0 b1 d1 (.slice f (S.s.j0 a).Y.length i) (.slice g (S.s.j0 a).G.length gc) (S.s.j0 a).T w')
 (yr:w'.ownsRow (pk+1) 3 1 (.slice f (S.s.j0 a).Y.length i) (S.s.j0 a).Y.length ((S.s.j0 a).Y.map (Value.int .i64)))(gr:w'.ownsRow (pk+1) 3 1 (.slice g (S.s.j0 a).G.length gc) (S.s.j0 a).G.length ((S.s.j0 a).G.map (Value.int .i64)))(hn:∀b,some b=(Value.slice f (S.s.j0 a).Y.length i).ownBlock->some b≠(Value.slice g (S.s.j0 a).G.length gc).ownBlock):
 ∃n,(c7 (dP ⟨pk,ch,ps,.slice f (S.s.j0 a).Y.length i,.slice g (S.s.j0 a).G.length gc⟩ (S.s.j0 a)) ps (.slice b0 S.r.length d0)).J n (gL,S.q) w'/\(∀b,some b=(Value.slice b0 S.r.length d0).ownBlock->¬n b/\w.heap.size<=b)/\(∀b,n b->d b\/w.heap.size<=b):=by
 have F:=h.kn;have m1:=h.jx;have G:=h.pp;have lk:=lt_of_some h.cb;have o:=(dX a).lt hw
 classical
 obtain⟨own,j⟩:∃own:Nat->Nat,own=fun b=>if d b then 1 else if b=pk then 5 else if b=ch then 6 else if some b=(Value.slice f (S.s.j0 a).Y.length i).ownBlock then 9 else if some b=(Value.slice g (S.s.j0 a).G.length gc).ownBlock then 10 else 0:=⟨_,rfl⟩
 have l:∀b,w.heap.size<=b->¬d b:=fun b hb c=>by have:=o b c;omega
 have o1:∀b,d b↔own b=1:=fun b=>by
  rw[j];dsimp only;by_cases c:d b
  ·simp[c]
  ·rw[aG c];refine⟨fun e=>absurd e c,fun e=>?_⟩
   split at e
   ·omega
   ·split at e
    ·omega
    ·split at e
     ·omega
     ·split at e<;>omega
 have ok:own pk=5:=by rw[j];dsimp only;rw[aG (l pk V),aI rfl]
 have v:own ch=6:=by rw[j];dsimp only;rw[aG (l ch V),aG V,aI rfl]
 have x:∀b,some b=(Value.slice f (S.s.j0 a).Y.length i).ownBlock->own b=9:=fun b e=>by have q:=(cn yr b e).1;rw[j];dsimp only;rw[aG (l b V),aG V,aG V,aI e]
 have A:∀b,some b=(Value.slice g (S.s.j0 a).G.length gc).ownBlock->own b=10:=fun b e=>by have q:=(cn gr b e).1;rw[j];dsimp only;rw[aG (l b V),aG V,aG V,aG (fun m=>hn b m e),aI e]
 have ol:∀b,own b≠0->b<w'.heap.size/\(d b\/b=pk\/b=ch\/pk<b):=fun b hb=>by
  rw[j] at hb;dsimp only at hb;by_cases c:d b
  ·have:=o b c;have:=h.bl.size;exact⟨V,aK c⟩
  ·rw[aG c] at hb;by_cases p:b=pk
   ·exact⟨V,aJ (aK p)⟩
   ·rw[aG p] at hb;by_cases m:b=ch
    ·exact⟨V,aJ (aJ (aK m))⟩
    ·rw[aG m] at hb;by_cases s:some b=(Value.slice f (S.s.j0 a).Y.length i).ownBlock
     ·have:=cn yr b s;exact⟨this.2,aJ (aJ (aJ V))⟩
     ·rw[aG s] at hb;by_cases t:some b=(Value.slice g (S.s.j0 a).G.length gc).ownBlock
      ·have:=cn gr b t;exact⟨this.2,aJ (aJ (aJ V))⟩
      ·rw[aG t] at hb;exact absurd rfl hb
 have B:(dP ⟨pk,ch,ps,.slice f (S.s.j0 a).Y.length i,.slice g (S.s.j0 a).G.length gc⟩ (S.s.j0 a)).J (fun b=>own b≠0) gL w':=by
  refine⟨⟨.slice none 0 0,.slice none 0 0,d,own,?_,fun b=>Iff.rfl⟩,u⟩
  exact {
   wd:=(dX a).keep hw h.bl.size (fun b hb=>h.bl.block b (o b hb))
   w1:=o1
   cb:=h.cb
   k1:=ok
   mp:=h.mp
   m1:=v
   tr:=bc _ _ _ _
   gS:=fun b e=>by simp[Value.ownBlock] at e
   er:=bc _ _ _ _
   eo:=fun b e=>by simp[Value.ownBlock] at e
   yr:=eU yr (fun _ _=>aY _)
   h_:=x
   gr:=eU gr (fun _ _=>aY _)
   go:=A
   lt:=fun b hb=>(ol b hb).1}
 have C:¬own ps≠0:=fun c=>by
  rcases(ol ps c).2 with q|q|q|q
  ·exact l ps V q
  ·omega
  ·omega
  ·omega
 have n1:∀k,ch<k->k<pk->¬own k≠0:=fun k k1 H c=>by
  rcases(ol k c).2 with q|q|q|q
  ·exact l k V q
  ·omega
  ·omega
  ·omega
 have D:∀k,some k=(Value.slice b0 S.r.length d0).ownBlock->k≠ps:=fun k e E=>by obtain⟨I,hc⟩:=e5 h.sd.r0 k e;rw[E,h.sd.blk] at hc;simp at hc
 refine⟨fun b=>own b≠0\/b=ps\/some b=(Value.slice b1 S.q.length d1).ownBlock,⟨fun b=>own b≠0,b1,d1,B,h.sd.blk,h.sd.q0,fun k hk=>aK hk,aJ (aK rfl),C,fun k e=>⟨aJ (aJ e),n1 k (h.l1 k e).1 (h.l1 k e).2⟩,fun k hk=>?_⟩,fun b e=>⟨fun c=>?_,by have:=(h.l0 b e).1;omega⟩,fun b c=>?_⟩
 ·rcases hk with c|c|c
  ·exact(ol k c).1
  ·omega
  ·have:=(h.l1 k c).2;omega
 ·rcases c with c|c|c
  ·exact n1 b (h.l0 b e).1 (h.l0 b e).2 c
  ·exact D b e c
  ·exact h.ln b e c
 ·rcases c with c|c|c
  ·rcases(ol b c).2 with q|q|q|q
   ·exact aK q
   ·exact aJ V
   ·exact aJ V
   ·exact aJ V
  ·exact aJ V
  ·have:=(h.l1 b c).1;exact aJ V
end
theorem Gb {a:Wc}{Y:Nat->Prop}{S:cq}{w:ax}{a0 a1:Option Addr}{k0 k1:Nat}(hw:(dX a).J Y S.s w)(hs:fu w a.sd a0 k0 a1 k1 S.r S.q)(h0:S.r.length<=90000)(br:S.q.length<=90000):
 Calls prog 75 #[aj a.pw] w fun e w'=>∃(c:e8)(ar:Option Addr)(aF:Nat)(o:Nat->Prop),e=.returned (aj c.pk)/\(c7 (dP c (S.s.j0 a)) c.bs (.slice ar S.r.length aF)).J o (gL,S.q) w'/\w'.ownsRow 0 103 2 (.slice ar S.r.length aF) S.r.length (ev S.r)/\(∀b,some b=(Value.slice ar S.r.length aF).ownBlock->¬o b/\w.heap.size<=b)/\(∀b,o b->Y b\/w.heap.size<=b)/\Below w.heap.size w w':=by
 have cP:=@run_makeMap prog;obtain⟨c0,_,c2,_,Q,_⟩:=jM hw;have L:=(kH hw).1;have n1:=L.hN';have ck:=L.hO;have cl:=L.hg;have n4:=L.hy;have aR:=hide (cV.start n1 ck n4 cl)
 have C:ay ((dX a).J Y S.s w/\At w a.p a.q a.N a.O S.s.y S.s.g S.s.ws):=⟨hw,L⟩
 have bs:=lt_of_some hs.blk;have ab:Below w.heap.size w (w.alloc (.map #[] 0)):=(aH _ w).alloc bW _;have cm:=yN (w.alloc (.map #[] 0)) a.sd a0 a1 k0 k1 S.r S.q ⟨(ab.block _ bs).trans hs.blk,cH hs.r0 (fun b e=>ab.block b (cn hs.r0 b e).2),cH hs.q0 (fun b e=>ab.block b (cn hs.q0 b e).2)⟩ h0 br;have co:ay (Mp (w.alloc (.map #[] 0)) w.heap.size [] (fun _=>-1)):=⟨_,World.ownsMap_made w prog 3 (plainElem (H:=Unit) prog 3),fun _=>rfl,fun a ha=>by simp at ha⟩
 clear hw hs L ab bs h0 br;go_enter func75,ntmps75;go_wp2_with fail;refine cm.mono ?_;rintro e w1 ⟨ps,l,m,b1,E,rfl,cp,v,g0,g1,cr,aV⟩
 have cs:=aV.size;simp only [World.size_alloc] at cs cp g0 g1;have ad:ay (fG a S w w1.heap.size w.heap.size ps l m b1 E (.slice none 0 0) (.slice none 0 0) [] (w1.alloc (.cells #[.pointer (some ⟨a.pw,0,none⟩),.slice none 0 0,.slice none 0 0,.map (some w.heap.size),.pointer (some ⟨ps,0,none⟩),.slice none 0 0,.slice none 0 0] 140))/\(w1.alloc (.cells #[.pointer (some ⟨a.pw,0,none⟩),.slice none 0 0,.slice none 0 0,.map (some w.heap.size),.pointer (some ⟨ps,0,none⟩),.slice none 0 0,.slice none 0 0] 140)).heap.size=w1.heap.size+1):=by
  have R:=au w1 (.cells #[.pointer (some ⟨a.pw,0,none⟩),.slice none 0 0,.slice none 0 0,.map (some w.heap.size),.pointer (some ⟨ps,0,none⟩),.slice none 0 0,.slice none 0 0] 140)
  have ct:=((aH _ w).alloc bW (.map #[] 0)).trans (aV.mono Z)
  refine⟨{bl:=ct.trans (R.mono V),cb:=aN _ _,sd:=⟨(R.block _ (lt_of_some v.blk)).trans v.blk,cH v.r0 (fun b e=>R.block b (cn v.r0 b e).2),cH v.q0 (fun b e=>R.block b (cn v.q0 b e).2)⟩,mp:=(co.o.same (aV.block _ Z)).same (R.block _ V),kn:=rfl,jx:=V,pp:=lt_of_some v.blk,l0:=fun k e=>⟨?_,(cn v.r0 k e).2⟩,l1:=fun k e=>⟨?_,(cn v.q0 k e).2⟩,ln:=cr},Z⟩
  ·cases hb:l with
   |none=>rw[hb] at e;simp[Value.ownBlock] at e
   |some z=>
    rw[hb] at e;have cu:k=z.block:=by simpa[Value.ownBlock] using e
    have:=g0 z hb;omega
  ·cases hb:b1 with
   |none=>rw[hb] at e;simp[Value.ownBlock] at e
   |some z=>
    rw[hb] at e;have cu:k=z.block:=by simpa[Value.ownBlock] using e
    have:=g1 z hb;omega
 have M:=(ad.o.1.bl.cell (p:=aq a.pw 0) Q).trans c0;have i:=mL _ (C.o.2.below ad.o.1.bl bW)
 go_wp2_with fail;refine i.mono ?_;rintro e bt ⟨rfl,bx⟩
 have ag:ay (fG a S w w1.heap.size w.heap.size ps l m b1 E (.slice none 0 0) (.slice none 0 0) [] bt/\w1.heap.size+1<=bt.heap.size):=⟨ad.o.1.below bx,by have:=bx.size;have:=ad.o.2;omega⟩
 have M:=(ag.o.1.bl.cell (p:=aq a.pw 0) Q).trans c0;have i:=kC _ (C.o.2.below ag.o.1.bl bW)
 go_wp2_with fail;refine i.mono ?_;rintro e bY ⟨rfl,bZ⟩
 have U:ay (fG a S w w1.heap.size w.heap.size ps l m b1 E (.slice none 0 0) (.slice none 0 0) [] bY/\w1.heap.size+1<=bY.heap.size):=⟨ag.o.1.below bZ,by have:=bZ.size;have:=ag.o.2;omega⟩
 have M:=(U.o.1.bl.cell (p:=aq a.pw 0) Q).trans c0;have i:=F8 _ (C.o.2.below U.o.1.bl bW)
 go_wp2_with fail;refine i.mono ?_;rintro e cv ⟨v1,v2,rfl,a2,bb,cw,cx⟩
 obtain⟨y1,m1,rfl⟩:=eE a2;obtain⟨d,g,rfl⟩:=eE bb;have A:=jp (U.o.1.below cx) (eU a2 (fun b e=>aT U.o.2 (cn a2 b e).1)) (eU bb (fun b e=>aT U.o.2 (cn bb b e).1)) cw;have ai:ay ((ei a.N S.s.y S.s.g S.s.ws).length<=2000/\(dD a.N S.s.y S.s.g S.s.ws).length<=2000/\(∀x∈ei a.N S.s.y S.s.g S.s.ws,0<=x/\x<=2000)/\∀x∈dD a.N S.s.y S.s.g S.s.ws,0<=x/\x<=2000):=⟨iL _ _,iL _ _,fun x s=>by have:=n3 x s;omega,fun x s=>by have:=qf x s;omega⟩
 have b0:w1.heap.size<w1.heap.size+1/\a.pw<w1.heap.size+1/\a.p<w1.heap.size+1/\a.q<w1.heap.size+1:=by have q1:=C.o.2.eL;have al:=C.o.2.eM;omega
 obtain⟨u0,bd,be,bg,N,bi⟩:=A.o.1.cells;have M:=(A.o.1.bl.cell (p:=aq a.pw 0) Q).trans c0;have bn:=N 1;have i:=yM cv (C.o.2.below A.o.1.bl bW) u0 M (ei a.N S.s.y S.s.g S.s.ws) y1 m1 (w1.heap.size+1) (0+S.s.y) (by have:=ai.o.1;omega) (fun x s=>by have:=ai.o.2.2.1 x s;omega) A.o.2.1 b0;rw[Int.zero_add] at i;have cy:ay (eb (fun x=>decide ((S.s.y:Int)<=x+pf (ld a.N S.s.y S.s.g S.s.ws x))) (ei a.N S.s.y S.s.g S.s.ws)=(S.s.j0 a).Y):=rfl;rw[cy.o] at i;go_wp2_with fail;refine i.mono ?_;rintro r B ⟨rfl,cz,b2⟩
 have cA:∀b,some b=(Value.slice y1 (ei a.N S.s.y S.s.g S.s.ws).length m1).ownBlock->w1.heap.size<b:=fun b e=>(cn A.o.2.1 b e).1;have G:ay (fG a S w w1.heap.size w.heap.size ps l m b1 E (.slice none 0 0) (.slice none 0 0) [] B/\B.ownsRow (w1.heap.size+1) 3 1 (.slice y1 (S.s.j0 a).Y.length m1) (S.s.j0 a).Y.length ((S.s.j0 a).Y.map (Value.int .i64))/\B.ownsRow (w1.heap.size+1) 3 1 (.slice d (dD a.N S.s.y S.s.g S.s.ws).length g) (dD a.N S.s.y S.s.g S.s.ws).length ((dD a.N S.s.y S.s.g S.s.ws).map (Value.int .i64))/\(∀n b3 b,some b=(Value.slice y1 n m1).ownBlock->some b≠(Value.slice d b3 g).ownBlock)):=by
  refine⟨A.o.1.fr b2 cA,cz,hP A.o.2.2.1 b2 (fun b e I=>A.o.2.2.2 b I e),fun n b3 b e=>?_⟩
  have q:=A.o.2.2.2 b (by
   cases y1 with
   |none=>simp[Value.ownBlock] at e
   |some z=>simpa[Value.ownBlock] using e)
  cases d with
  |none=>simp[Value.ownBlock]
  |some z=>simpa[Value.ownBlock] using q
 obtain⟨u0,bd,be,bg,N,bi⟩:=G.o.1.cells;have bn:=N 1;have J:ay (fG a S w w1.heap.size w.heap.size ps l m b1 E (.slice y1 (S.s.j0 a).Y.length m1) (.slice none 0 0) [] (B.setCell ⟨w1.heap.size,1,none⟩ (.slice y1 (S.s.j0 a).Y.length m1))/\(B.setCell ⟨w1.heap.size,1,none⟩ (.slice y1 (S.s.j0 a).Y.length m1)).ownsRow (w1.heap.size+1) 3 1 (.slice y1 (S.s.j0 a).Y.length m1) (S.s.j0 a).Y.length ((S.s.j0 a).Y.map (Value.int .i64))/\(B.setCell ⟨w1.heap.size,1,none⟩ (.slice y1 (S.s.j0 a).Y.length m1)).ownsRow (w1.heap.size+1) 3 1 (.slice d (dD a.N S.s.y S.s.g S.s.ws).length g) (dD a.N S.s.y S.s.g S.s.ws).length ((dD a.N S.s.y S.s.g S.s.ws).map (Value.int .i64))):=by have f:Fr (fun b=>b=w1.heap.size) B (B.setCell ⟨w1.heap.size,1,none⟩ (.slice y1 (S.s.j0 a).Y.length m1)):=(Fr.refl _ B).set _ 1 _ rfl;exact⟨G.o.1.set1 _,hP G.o.2.1 f (fun b e I=>by have:=(cn G.o.2.1 b e).1;omega),hP G.o.2.2.1 f (fun b e I=>by have:=(cn G.o.2.2.1 b e).1;omega)⟩
 have b4:=hide G.o.2.2.2;obtain⟨s0,s1,s2,am,s4,s5⟩:=J.o.1.cells;have M:=(J.o.1.bl.cell (p:=aq a.pw 0) Q).trans c0;have s6:=s4 2;have i:=yM _ (C.o.2.below J.o.1.bl bW) s0 M (dD a.N S.s.y S.s.g S.s.ws) d g (w1.heap.size+1) ((a.N:Int)+S.s.g) (by have:=ai.o.2.1;omega) (fun x s=>by have:=ai.o.2.2.2 x s;omega) J.o.2.2 b0;have cB:ay (eb (fun x=>decide ((a.N:Int)+S.s.g<=x+pf (ld a.N S.s.y S.s.g S.s.ws x))) (dD a.N S.s.y S.s.g S.s.ws)=(S.s.j0 a).G):=rfl;rw[cB.o] at i;go_wp2_with fail;refine i.mono ?_;rintro r O ⟨rfl,cC,b5⟩
 have cD:∀b,some b=(Value.slice d (dD a.N S.s.y S.s.g S.s.ws).length g).ownBlock->w1.heap.size<b:=fun b e=>(cn J.o.2.2 b e).1;have K:=g6 (J.o.1.fr b5 cD) (hP J.o.2.1 b5 (fun b e I=>b4.o _ _ b e I)) cC;obtain⟨u0,bd,be,bg,N,bi⟩:=K.o.1.cells;have bn:=N 2;have t:ay (fG a S w w1.heap.size w.heap.size ps l m b1 E (.slice y1 (S.s.j0 a).Y.length m1) (.slice d (S.s.j0 a).G.length g) [] (O.setCell ⟨w1.heap.size,2,none⟩ (.slice d (S.s.j0 a).G.length g))/\(O.setCell ⟨w1.heap.size,2,none⟩ (.slice d (S.s.j0 a).G.length g)).ownsRow (w1.heap.size+1) 3 1 (.slice y1 (S.s.j0 a).Y.length m1) (S.s.j0 a).Y.length ((S.s.j0 a).Y.map (Value.int .i64))/\(O.setCell ⟨w1.heap.size,2,none⟩ (.slice d (S.s.j0 a).G.length g)).ownsRow (w1.heap.size+1) 3 1 (.slice d (S.s.j0 a).G.length g) (S.s.j0 a).G.length ((S.s.j0 a).G.map (Value.int .i64))):=by have f:Fr (fun b=>b=w1.heap.size) O (O.setCell ⟨w1.heap.size,2,none⟩ (.slice d (S.s.j0 a).G.length g)):=(Fr.refl _ O).set _ 2 _ rfl;exact⟨K.o.1.set2 _,hP K.o.2.1 f (fun b e I=>by have:=(cn K.o.2.1 b e).1;omega),hP K.o.2.2 f (fun b e I=>by have:=(cn K.o.2.2 b e).1;omega)⟩
 clear K u0 bd bg N;obtain⟨s0,s1,s2,am,s4,s5⟩:=t.o.1.cells;have an:ay ((S.s.j0 a).T=(S.s.j0 a).G++(S.s.j0 a).Y/\(S.s.j0 a).T.length=(S.s.j0 a).G.length+(S.s.j0 a).Y.length/\_/\_):=⟨rfl,by unfold b9.T;rw[aZ],aR.o.tl,aR.o.ps⟩
 have b6:=an.o.2.1;have cQ:=an.o.2.2.1;have i:=Ga _ w1.heap.size (S.s.j0 a).G (S.s.j0 a).Y d y1 g m1 s1 s2 (eU t.o.2.1 (fun _ _=>aY _)) (eU t.o.2.2 (fun _ _=>aY _)) V;rw[<-b6,<-an.o.1] at i;clear s0 s1 s2 am s4 b6;go_wp2_with fail;refine i.mono ?_;clear i s5 be bi bn;rintro e W ⟨cE,cF,rfl,bo,ao⟩
 have F:ay (_/\_/\W.ownsRow (w1.heap.size+1) 3 1 (.slice d (S.s.j0 a).G.length g) (S.s.j0 a).G.length ((S.s.j0 a).G.map (Value.int .i64))/\W.ownsRow (w1.heap.size+1) 3 1 (.slice cE (S.s.j0 a).T.length cF) (S.s.j0 a).T.length ((S.s.j0 a).T.map (Value.int .i64))):=⟨t.o.1.below ao,cH t.o.2.1 (fun b e=>ao.block b (cn t.o.2.1 b e).2),cH t.o.2.2 (fun b e=>ao.block b (cn t.o.2.2 b e).2),eU bo (fun b e=>by have:=(cn bo b e).1;have q:=t.o.1.cells.2.2.2.2.2;omega)⟩
 clear bo ao t;go_wp2_with fail
 go_loopw [66] (fun iv wr=>∃j:Nat,j<=(S.s.j0 a).T.length/\iv=ah j/\ay (fG a S w w1.heap.size w.heap.size ps l m b1 E (.slice y1 (S.s.j0 a).Y.length m1) (.slice d (S.s.j0 a).G.length g) ((S.s.j0 a).T.take j) wr/\Fr (fun b=>b=w.heap.size) W wr)) (fun iv _=>(S.s.j0 a).T.length-(intOf iv).toNat)
 case atStart=>exact⟨0,aY _,rfl,F.o.1,Fr.refl _ _⟩
 ·
   obtain⟨j,cR,rfl,u⟩:=hrel;by_cases ap:j<(S.s.j0 a).T.length
   ·obtain⟨X,cG,b7,cI,hc⟩:=gH F.o.2.2.2 V;have cJ:w1.heap.size<X/\X<W.heap.size:=by
     have:=cn F.o.2.2.2 X (by rw[b7];rfl)
     omega
    have b8:=(aP (a:=⟨X,cG+j,none⟩) (u.o.2.block X cJ.2 (fun e=>by have:=u.o.1.jx;have:=u.o.1.pp;omega))).trans (hc j ap)
    have hm:(S.s.j0 a).T.getD j 0∈(S.s.j0 a).T:=by rw[aE,aL ap];exact a6 ap
    have s:=an.o.2.2.2 _ hm;have ca:=hide (gx _ j ap 0)
    generalize (S.s.j0 a).T.getD j 0=x at b8 s ca;obtain⟨D,o1,cc,cd⟩:=u.o.1.mp;obtain⟨s0,s1,s2,am,s4,s5⟩:=u.o.1.cells;have ce:=jc (a:=x) s.1 V;have hv:=mW (-1) aa;have ht:((S.s.j0 a).T.take j).length=j:=by rw[bw];omega
    have aB:=g6 o1 cc cd;have j0:(0:Int)<=(j:Int):=V;have cS:(j:Int)<((S.s.j0 a).T.length:Int):=V;clear cc cd hc cI hm s0 s1 s2 s4;subst b7;go_wp2_with (first
     |(at_mapUpdate;refine wpList_mapUpdate_own _ rfl _ _ _ 127 rfl 3 3 iM underlying127 (plainElem (H:=Unit) prog 3) w.heap.size ((S.s.j0 a).T.take j).length D rfl o1 (by unfold maxLen;omega) _ _ _ rfl rfl ce _ [] hv ?_;intro bp cf cg)
     |go_in)
    have cK:ay (fG a S w w1.heap.size w.heap.size ps l m b1 E (.slice y1 (S.s.j0 a).Y.length m1) (.slice d (S.s.j0 a).G.length g) ((S.s.j0 a).T.take (j+1)) bp/\Fr (fun b=>b=w.heap.size) W bp):=by
     have ch:Fr (fun b=>b=w.heap.size) wr bp:=(Fr.refl _ wr).grown cg (fun b e=>aK (by cases e;rfl))
     have cL:=Mp.add (f:=fun _=>-1) aB.o.1 aB.o.2.1 aB.o.2.2 rfl rfl cf;have ci:=u.o.1.add ch cL;rw[<-ca.o] at ci;exact⟨ci,u.o.2.trans ch (fun b e=>aK e)⟩
    clear u aB cf cg o1 b8 am s5 ce hv;go_roundw;exact⟨j+1,V,af,cK⟩
    simp[intOf];omega
   ·obtain rfl:j=(S.s.j0 a).T.length:=V;have cM:ay (∃(o:Nat->Prop),(c7 (dP ⟨w1.heap.size,w.heap.size,ps,.slice y1 (S.s.j0 a).Y.length m1,.slice d (S.s.j0 a).G.length g⟩ (S.s.j0 a)) ps (.slice l S.r.length m)).J o (gL,S.q) wr/\wr.ownsRow 0 103 2 (.slice l S.r.length m) S.r.length (ev S.r)/\(∀b,some b=(Value.slice l S.r.length m).ownBlock->¬o b/\w.heap.size<=b)/\(∀b,o b->Y b\/w.heap.size<=b)/\Below w.heap.size w wr):=by
     obtain⟨P,cj⟩:=u.o;rw[bu] at P;have ne:∀b,w1.heap.size+1<=b->¬b=w.heap.size:=fun b hb e=>by have:=P.jx;have:=P.pp;omega
     obtain⟨o,q1,al,q3⟩:=P.done C.o.1 aR.o (hP F.o.2.1 cj (fun b e=>ne b (cn F.o.2.1 b e).1)) (hP F.o.2.2.1 cj (fun b e=>ne b (cn F.o.2.2.1 b e).1)) (fun b e=>b4.o _ _ b e)
     exact⟨o,q1,P.sd.r0,al,q3,P.bl⟩
    clear u F;go_wp2_with fail;go_ret;obtain⟨o,q1,al,q3,cN,cO⟩:=cM.o;exact⟨⟨w1.heap.size,w.heap.size,ps,.slice y1 (S.s.j0 a).Y.length m1,.slice d (S.s.j0 a).G.length g⟩,l,m,o,rfl,q1,al,q3,cN,cO⟩
def gn (g:Int->Nat)(l:List Int):Nat:=(l.map g).sum
theorem tU (g:Int->Nat)(a:Int)(l:List Int):gn g (a::l)=g a+gn g l:=by simp[gn]
theorem Ge (g:Int->Nat)(l m:List Int):gn g (l++m)=gn g l+gn g m:=by simp[gn]
open Go.RowKit W
section
variable {N O y g:Nat}{ws:List Int}{Y G:List Int}
theorem m4 {x i:Int}(h:ej N y g ws x i=0):tB N y g ws x=true/\pk (ld N y g ws (cg x))≠5/\0<=i/\i<iu N y g (cg x) (pf (ld N y g ws (cg x))):=by
 unfold ej at h;by_cases ht:tB N y g ws x=true
 ·rw[aI ht] at h;by_cases b:pk (ld N y g ws (cg x))=5
  ·rw[aI b] at h;omega
  ·rw[aG b] at h;by_cases hi:i<0\/iu N y g (cg x) (pf (ld N y g ws (cg x)))<=i
   ·rw[aI hi] at h;omega
   ·exact⟨ht,b,V,V⟩
 ·rw[aG ht] at h;omega
theorem yP {x:Int}(h:d5 N y g ws Y G)(hN:N<=256)(hy:y<=N)(hO:O<=1024)(hg:g<=O)(ht:tB N y g ws x=true):cY x=true/\(cg x∈Y\/cg x∈G):=by obtain⟨b,c⟩:=h.lists hN hy hO hg;unfold tB at ht;rw[b,c] at ht;simpa using ht
theorem d5.ge (h:d5 N y g ws Y G)(hl:ws.length=N+O)(hN:N<=256)(hy:y<=N)(hO:O<=1024)(hg:g<=O)(x i z:Int):d5 N y g (Proofs.YtpkjkjhanlbcoaaGreat.ge N y g ws x i z) Y G:=by
 unfold Proofs.YtpkjkjhanlbcoaaGreat.ge;by_cases h0:ej N y g ws x i=0
 ·rw[aI h0];obtain⟨ht,_,c,b⟩:=m4 h0;obtain⟨_,hv⟩:=yP h hN hy hO hg ht;rw[h.stands hy hv] at b;split
  ·exact(h.set hl hy hg hv c b).1
  ·exact h
 ·rw[aG h0];exact h
theorem Gf (x i z c:Int)(M:List Int):(stM N y g ws x i z c M).length<=M.length+1:=by
 unfold stM;split
 ·unfold k9;split
  ·exact C2 _ _
  ·omega
 ·omega
end
open Go.RowKit W oS
structure ig (N y g:Nat)(ws Y G rs:List Int):Prop where
 full:d5 N y g ws Y G
 rt:∀x∈rs,cY x=true->cg x∈Y\/cg x∈G
 fd:∀v,(v∈Y\/v∈G)->∀i,0<=i->i<pf (ld N y g ws v)->cY (ld N y g ws (v+1+i))=true->cg (ld N y g ws (v+1+i))∈Y\/cg (ld N y g ws (v+1+i))∈G
section
variable {N O y g:Nat}{ws Y G rs:List Int}
theorem m5 (n:Nat)(h:n<1000000):cY (ew 3 n)=true/\cg (ew 3 n)=n:=by
 have b:=nF 3 n (nG (n:Int) V V)
 exact⟨b.1,b.2 rfl⟩
theorem ig.root (h:ig N y g ws Y G rs)(k:Nat)(x:Int)(b:cY x=true->cg x∈Y\/cg x∈G):ig N y g ws Y G (rs.set k x):=
 ⟨h.full,fun z hz=>by
  rcases List.mem_or_eq_of_mem_set hz with hz|hz
  ·exact h.rt z hz
  ·rw[hz];exact b,h.fd⟩
theorem ig.at (h:ig N y g ws Y G rs)(k:Nat)(hk:k<rs.length)(ha:cY (rs.getD k 0)=true):cg (rs.getD k 0)∈Y\/cg (rs.getD k 0)∈G:=
 h.rt _ (by rw[aE,aL hk];exact a6 hk) ha
theorem m6 (h:d5 N y g ws Y G){v i:Int}(hv:v∈Y)(b:0<=i)(c:i<pf (ld N y g ws v)):0<=v+1+i/\v+1+i<y:=by have d:=h.ty.mem v hv;omega
theorem m7 (h:d5 N y g ws Y G){v i:Int}(hv:v∈G)(b:0<=i)(c:i<pf (ld N y g ws v)):(N:Int)<=v+1+i/\v+1+i<(N:Int)+g:=by have d:=h.ec.mem v hv;omega
theorem jR (h:d5 N y g ws Y G){v i:Int}(hv:v∈Y\/v∈G)(b:0<=i)(c:i<pf (ld N y g ws v)):dd N y g (v+1+i)=true:=by
 rcases hv with hv|hv
 ·have:=m6 h hv b c;exact iK this.1 this.2
 ·have:=m7 h hv b c;exact hY this.1 this.2
theorem ig.make (h:ig N y g ws Y G rs)(hl:ws.length=N+O){k f:Int}(hm:iJ N y k f=true):ig N (iU N y k f) g (fq N y k f ws) (Y++[(y:Int)]) G rs:=by
 have l:=h.full.make hl hm;obtain⟨m,q⟩:=oQ hm;have s:=iS k f m;have n:iU N y k f=y+1+f.toNat:=by unfold iU;rw[aI hm]
 have o:fq N y k f ws=fC ws y (hw k f) f.toNat:=by unfold fq;rw[aI hm]
 have hlt:y+f.toNat<ws.length:=V;rw[n,o] at l⊢;have mem:∀{z:Int},(z∈Y\/z∈G)->(z∈Y++[(y:Int)]\/z∈G):=fun hz=>hz.imp (fun c=>aX _ c) id;refine⟨l,fun x p ha=>mem (h.rt x p ha),fun v hv i e b ha=>?_⟩
 rcases hv with hv|hv
 ·rcases List.mem_append.1 hv with hv|hv
  ·have hi:=h.full.iw v hv;have j:ld N (y+1+f.toNat) g (fC ws y (hw k f) f.toNat) v=ld N y g ws v:=by exact sw
   rw[j] at b;have hb:=m6 h.full hv e b;have d:ld N (y+1+f.toNat) g (fC ws y (hw k f) f.toNat) (v+1+i)=ld N y g ws (v+1+i):=by rw[dW (iK hb.1 V),dW (iK hb.1 hb.2),k7 _ _ _ _ _ hlt,aG V,aG V]
   rw[d] at ha⊢;exact mem (h.fd v (aK hv) i e b ha)
  ·simp at hv;subst hv;rw[(wM _ _ hlt),(pU k f m).2.1] at b;have d:ld N (y+1+f.toNat) g (fC ws y (hw k f) f.toNat) ((y:Int)+1+i)=2:=by rw[dW (iK V V),k7 _ _ _ _ _ hlt,aG V,aI V]
   rw[d] at ha;exact absurd ha aa
 ·have hi:=h.full.io v hv;have j:ld N (y+1+f.toNat) g (fC ws y (hw k f) f.toNat) v=ld N y g ws v:=by exact p7
  rw[j] at b;have hb:=m7 h.full hv e b;have d:ld N (y+1+f.toNat) g (fC ws y (hw k f) f.toNat) (v+1+i)=ld N y g ws (v+1+i):=by exact yL
  rw[d] at ha⊢;exact mem (h.fd v (aJ hv) i e b ha)
theorem ig.set (h:ig N y g ws Y G rs)(hl:ws.length=N+O)(hy:y<=N)(hg:g<=O){v i z:Int}(hv:v∈Y\/v∈G)(f:0<=i)(k:i<pf (ld N y g ws v))(hz:cY z=true->cg z∈Y\/cg z∈G):ig N y g (ws.set (v+1+i).toNat z) Y G rs:=by
 obtain⟨l,hk⟩:=h.full.set hl hy hg hv f k;have hb:=jr (jR h.full hv f k) hy hg;refine⟨l,h.rt,fun b c j j0 d ha=>?_⟩
 rw[hk b c] at d;have hi:=jR h.full c j0 d;have m:ld N y g (ws.set (v+1+i).toNat z) (b+1+j)=if(v+1+i).toNat=(b+1+j).toNat then z else ld N y g ws (b+1+j):=by rw[dW hi,dW hi,j9 _ _ _ _ V]
 rw[m] at ha⊢;split at ha
 ·rename_i e;rw[aI e];exact hz ha
 ·rename_i e;rw[aG e];exact h.fd b c j j0 d ha
theorem ig.tb (h:ig N y g ws Y G rs)(hN:N<=256)(hy:y<=N)(hO:O<=1024)(hg:g<=O)(k:Nat)(hk:k<rs.length):tB N y g ws (rs.getD k 0)=cY (rs.getD k 0):=by
 obtain⟨b,c⟩:=h.full.lists hN hy hO hg;unfold tB;rw[b,c];cases ha:cY _
 ·rfl
 ·have:=h.at k hk ha;simpa using this
end
open Go.RowKit W Kp cf oS
structure C0 where
 g:Nat
 ws:List Int
 G:List Int
def ce.l0 (k:ce)(z:C0)(a:Int):Int:=Proofs.YtpkjkjhanlbcoaaGreat.ld k.N k.y z.g z.ws a
def ce.or (k:ce)(z:C0)(s:cj)(a b:Int):Prop:=(a=b/\b∈z.G)\/(a∈k.T/\s.f a=b/\b≠-1)
def ce.ml (k:ce)(s:cj)(b x:Int):Prop:=x=b\/(k.cK b=true/\s.f (cg b)≠-1/\x=ew 3 (s.f (cg b)))
structure dE (k:ce)(z:C0)(s:cj)(H:List Int):Prop where
 ci:CI k s
 qF:z.g<=s.g
 full:d5 k.N k.y s.g s.ws k.T (z.G++H)
 kI:∀b∈z.G,b<(k.N:Int)+z.g
 m8:∀b,0<=b->b<(k.y:Int)->k.ld s b=k.l0 z b
 fh:∀a∈k.T,s.f a≠-1->s.f a∈H
 inj:∀a∈k.T,∀b∈k.T,s.f a≠-1->s.f a=s.f b->a=b
 f4:∀b∈H,∃a∈k.T,s.f a=b
 hlo:∀b∈H,(k.N:Int)+z.g<=b
 hd:∀a b,k.or z s a b->k.ld s b=k.l0 z a
 fd:∀a b,k.or z s a b->∀i,0<=i->i<pf (k.l0 z a)->k.ml s (k.l0 z (a+1+i)) (k.ld s (b+1+i))
structure dh (k:ce)(s t:cj):Prop where
 f:∀a,s.f a≠-1->t.f a=s.f a
 g:s.g<=t.g
 cl:∀b,(k.N:Int)<=b->b<(k.N:Int)+s.g->k.cK (k.ld s b)=false->k.cK (k.ld t b)=false
section
variable {k:ce}{z:C0}{s t u:cj}{H:List Int}
theorem dh.refl (k:ce)(s:cj):dh k s s:=⟨fun _ _=>rfl,aD _,fun _ _ _ h=>h⟩
theorem dh.trans (h:dh k s t)(j:dh k t u):dh k s u:=
 ⟨fun a ha=>(j.f a (by rw[h.f a ha];exact ha)).trans (h.f a ha),aT h.g j.g,fun b c d e=>j.cl b c (by have:=h.g;omega) (h.cl b c d e)⟩
theorem dh.or (h:dh k s t){a b:Int}(ho:k.or z s a b):k.or z t a b:=by
 rcases ho with ho|⟨e,c,d⟩
 ·exact aK ho
 ·exact aJ ⟨e,(h.f a (by rw[c];exact d)).trans c,d⟩
theorem dh.ml (h:dh k s t){c x:Int}(ho:k.ml s c x):k.ml t c x:=by
 rcases ho with ho|⟨d,b,e⟩
 ·exact aK ho
 ·exact aJ ⟨d,by rw[h.f _ b];exact b,by rw[h.f _ b];exact e⟩
theorem dE.mem (h:dE k z s H){a b:Int}(ho:k.or z s a b):b∈z.G++H:=by
 rcases ho with⟨_,hb⟩|⟨d,c,e⟩
 ·exact aX _ hb
 ·exact a9 _ (c▸h.fh a d (by rw[c];exact e))
theorem dE.from (h:dE k z s H){b:Int}(hb:b∈z.G++H):∃a,k.or z s a b:=by
 rcases List.mem_append.1 hb with hb|hb
 ·exact⟨b,aK ⟨rfl,hb⟩⟩
 ·obtain⟨a,ha,e⟩:=h.f4 b hb;have:=h.hlo b hb;exact⟨a,aJ ⟨ha,e,V⟩⟩
theorem dE.bd (h:dE k z s H){b:Int}(hb:b∈z.G++H):(k.N:Int)<=b/\b+(1+pf (k.ld s b))<=(k.N:Int)+s.g/\pc (k.ld s b)=0:=h.full.ec.mem b hb
theorem dE.i5 (h:dE k z s H){b:Int}(hb:b∈H):(k.N:Int)<=b/\b<(k.N:Int)+s.g:=by
 have c:=h.bd (a9 _ hb)
 have:=dj (k.ld s b)
 omega
theorem CI.yQ (h:CI k s){a:Int}(ha:(k.N:Int)<=a):a∉k.T:=fun c=>by have b:=h.sH c;have:=h.hy;omega
theorem m9 (h:CI k s){n:Int}(h0:(k.N:Int)<=n)(b:n<1000000):k.cK (ew 3 n)=false:=by
 have e:=nF 3 n (nG n V V)
 unfold ce.cK;rw[e.1,e.2 rfl];simp;exact h.yQ h0
theorem dE.cp (h:dE k z s H){a:Int}(ha:a∈k.T)(p:s.f a=-1):dE k z (k.cp s a) (H++[((k.N+s.g:Nat):Int)])/\dh k s (k.cp s a)/\(k.cp s a).f a=((k.N+s.g:Nat):Int):=by
 have ci:=h.ci;have hc:=ci.it ha p;obtain⟨q,F,t3⟩:=ci.th a ha;have hp:=dj (k.ld s a)
 have hz:=h.qF;have hl:=ce.sJ ci.len ci.hy ci.hg q t3 hc;obtain⟨x,_⟩:=ci.cp ha p;obtain⟨A,B⟩:=h.full.copy ci.len ci.hy ci.hg hc (aK ha)
 have t:(k.cp s a).f=gz s.f a ((k.N+s.g:Nat):Int):=by rw[ce.nZ hc]
 have u:(k.cp s a).g=s.g+(1+(pf (k.ld s a)).toNat):=by rw[ce.nZ hc]
 have f:∀b,b≠a->(k.cp s a).f b=s.f b:=fun b hb=>by rw[t];unfold gz;rw[aG hb]
 have j:(k.cp s a).f a=((k.N+s.g:Nat):Int):=by rw[t];unfold gz;rw[aI rfl]
 have lo:∀b,b<(k.N:Int)+s.g->k.ld (k.cp s a) b=k.ld s b:=fun b hb=>by rw[hl,aG V]
 have iW:dh k s (k.cp s a):=⟨fun b hb=>f b (fun e=>hb (by rw[e];exact p)),by rw[u];omega,fun b d g C=>by rw[lo b g];exact C⟩
 have v:∀c b,k.or z (k.cp s a) c b->k.or z s c b\/(c=a/\b=((k.N+s.g:Nat):Int)):=fun c b ho=>by
  rcases ho with ho|⟨o1,o,D⟩
  ·exact aK (aK ho)
  ·by_cases e:c=a
   ·rw[e,j] at o;exact aJ ⟨e,o.symm⟩
   ·rw[f c e] at o;exact aK (aJ ⟨o1,o,D⟩)
 refine⟨⟨x,by rw[u];omega,by rw[<-ba];exact A,h.kI,fun b h0 d=>?_,fun c l d=>?_,fun c l b hb d g=>?_,fun b hb=>?_,fun b hb=>?_,fun c b ho=>?_,fun c b ho i E w=>?_⟩,iW,j⟩
 ·rw[lo b (by have:=ci.hy;omega)];exact h.m8 b h0 d
 ·by_cases e:c=a
  ·rw[e,j];simp
  ·rw[f c e] at d⊢;exact aX _ (h.fh c l d)
 ·by_cases m:c=a
  ·by_cases n:b=a
   ·rw[m,n]
   ·rw[m,j,f b n] at g;have:=h.i5 (h.fh b hb (by rw[<-g];omega))
    omega
  ·by_cases n:b=a
   ·rw[n,j,f c m] at g;rw[f c m] at d;have:=h.i5 (h.fh c l d)
    omega
   ·rw[f c m,f b n] at g;rw[f c m] at d;exact h.inj c l b hb d g
 ·rcases List.mem_append.1 hb with hb|hb
  ·obtain⟨c,l,e⟩:=h.f4 b hb;have hn:s.f c≠-1:=by have:=h.i5 hb;omega
   exact⟨c,l,by rw[iW.f c hn];exact e⟩
  ·simp at hb;exact⟨a,ha,by rw[j,hb];omega⟩
 ·rcases List.mem_append.1 hb with hb|hb
  ·exact h.hlo b hb
  ·simp at hb;omega
 ·rcases v c b ho with ho|⟨rfl,rfl⟩
  ·have hm:=h.bd (h.mem ho)
   rw[lo b (by have:=dj (k.ld s b);omega)];exact h.hd c b ho
  ·have:=h.m8 c q V;rw[<-this];exact B
 ·rcases v c b ho with ho|⟨rfl,rfl⟩
  ·have hm:=h.bd (h.mem ho)
   rw[lo (b+1+i) (by rw[(h.hd c b ho)] at hm;omega)];exact iW.ml (h.fd c b ho i E w)
  ·rw[<-(h.m8 c q V)] at w;refine aK ?_;rw[hl,aI V,<-h.m8 (c+1+i) V V]
   congr 1
   omega
theorem dE.st (h:dE k z s H){a b i x:Int}(ho:k.or z s a b)(o:0<=i)(p:i<pf (k.l0 z a))(t:k.ml s (k.l0 z (a+1+i)) x):dE k z (k.st s (b+1+i) x) H/\k.ld (k.st s (b+1+i) x) (b+1+i)=x/\(∀c,c≠b+1+i->k.ld (k.st s (b+1+i) x) c=k.ld s c):=by
 have ci:=h.ci;have hm:=h.mem ho;have hb:=h.bd hm;have e:=h.hd a b ho;rw[e] at hb;have hi:dd k.N k.y s.g (b+1+i)=true:=hY V V;have hl:=ce.nY ci.len ci.hy ci.hg (b+1+i) x;have same:k.ld (k.st s (b+1+i) x) (b+1+i)=x:=by rw[hl,aI ⟨rfl,hi⟩]
 have h8:∀c,c≠b+1+i->k.ld (k.st s (b+1+i) x) c=k.ld s c:=fun c hc=>by rw[hl,aG (fun e=>hc e.1)]
 have ew:k.st s (b+1+i) x={s with ws:=s.ws.set (b+1+i).toNat x}:=by unfold ce.st;rw[aI hi]
 have ap:∀c d,k.or z s c d->∀j,0<=j->j<pf (k.l0 z c)->d+1+j=b+1+i->c=a/\d=b/\j=i:=fun c d f j j0 n g=>by
  have hd:=h.mem f;have q:d=b:=by
   rcases Int.lt_trichotomy d b with l|l|l
   ·have:=h.full.ec.apart d hd b hm l;have this:d+(1+pf (k.ld s d))<=b:=this
    rw[(h.hd c d f)] at this
    omega
   ·exact l
   ·have:=h.full.ec.apart b hm d hd l;have this:b+(1+pf (k.ld s b))<=d:=this
    rw[e] at this
    omega
  refine⟨?_,q,V⟩
  rw[q] at f;rcases f with⟨c1,c2⟩|⟨c1,c2,c3⟩<;>rcases ho with⟨o1,m⟩|⟨o1,m,u⟩
  ·omega
  ·have v:=h.hlo b (m▸h.fh a o1 (by rw[m];exact u))
   have w:=h.kI b c2;omega
  ·have v:=h.hlo b (c2▸h.fh c c1 (by rw[c2];exact c3))
   have w:=h.kI b m;omega
  ·exact h.inj c c1 a o1 (by rw[c2];exact c3) (c2.trans m.symm)
 have fl:d5 k.N k.y (k.st s (b+1+i) x).g (k.st s (b+1+i) x).ws k.T (z.G++H):=by rw[ew];exact(h.full.set ci.len ci.hy ci.hg (aJ hm) o (by show i<pf (k.ld s b);rw[e];exact p)).1
 refine⟨⟨ci.st V x,h.qF,fl,h.kI,fun c h0 A=>?_,h.fh,h.inj,h.f4,h.hlo,fun c d f=>?_,fun c d f j j0 n=>?_⟩,same,h8⟩
 ·rw[h8 c (by have:=ci.hy;omega)];exact h.m8 c h0 A
 ·have f:=f;rw[h8 d (fun g=>?_)]
  ·exact h.hd c d f
  ·exact h.full.ec.field hm o (by show i<pf (k.ld s b);rw[e];exact p) (g▸h.mem f)
 ·have f:=f;by_cases g:d+1+j=b+1+i
  ·obtain⟨rfl,rfl,rfl⟩:=ap c d f j j0 n g;rw[same];exact t
  ·rw[h8 _ g];exact h.fd c d f j j0 n
theorem dh.st (ci:CI k s){a x:Int}(c:k.cK x=false):dh k s (k.st s a x):=
 ⟨fun _ _=>rfl,aD _,fun b _ _ d=>by
  rw[ce.nY ci.len ci.hy ci.hg];split
  ·exact c
  ·exact d⟩
theorem dE.br (h:dE k z s H)(x:Int):∃i,dE k z (k.br s x).2 i/\dh k s (k.br s x).2/\k.cK (k.br s x).1=false/\(∃l,i=H++l)/\(∀b,k.ml s b x->k.ml (k.br s x).2 b (k.br s x).1)/\(k.cK x=true->(k.br s x).2.f (cg x)≠-1)/\(k.br s x).1=k.nw (k.br s x).2 x:=by
 have ci:=h.ci;have n1:=ci.hN';have p:=ci.hO;have key:∀(t:cj)(j:List Int),dE k z t j->dh k s t->(k.cK x=true->t.f (cg x)≠-1)->k.cK (k.nw t x)=false/\∀b,k.ml s b x->k.ml t b (k.nw t x):=fun t j ht iW hy=>by
  by_cases c:k.cK x=true
  ·have hn:=hy c;have m:cg x∈k.T:=by unfold ce.cK at c;simp at c;exact c.2
   have e:k.nw t x=ew 3 (t.f (cg x)):=by unfold ce.nw;rw[c,aI (by simp[hn])]
   have hb:=ht.i5 (ht.fh _ m hn)
   have hg:=ht.ci.hg;rw[e];refine⟨m9 ht.ci hb.1 V,fun b hm=>?_⟩
   rcases hm with rfl|⟨m1,d,f⟩
   ·exact aJ ⟨c,hn,rfl⟩
   ·exfalso;have n:cg b∈k.T:=by unfold ce.cK at m1;simp at m1;exact m1.2
    have o:=h.i5 (h.fh _ n d)
    have q:=ci.hg;rw[f,m9 ci o.1 V] at c;simp at c
  ·have c:k.cK x=false:=by simpa using c
   have e:k.nw t x=x:=by unfold ce.nw;rw[c];simp
   rw[e];exact⟨c,fun b hm=>iW.ml hm⟩
 unfold ce.br;by_cases c:k.ls s x=true
 ·obtain⟨c1,c2,c3⟩:=ce.mU c;obtain⟨m1,d,f⟩:=h.cp c2 c3;have hn:(k.cp s (cg x)).f (cg x)≠-1:=by rw[f];omega
  obtain⟨k1,g⟩:=key _ _ m1 d (fun _=>hn)
  rw[aI c];exact⟨_,m1,d,k1,⟨_,rfl⟩,g,fun _=>hn,rfl⟩
 ·have hn:k.cK x=true->s.f (cg x)≠-1:=fun hy e=>c (by unfold ce.ls;rw[hy,e];rfl)
  obtain⟨k1,g⟩:=key s H h (dh.refl _ _) hn;rw[aG c];exact⟨H,h,dh.refl _ _,k1,⟨[],Z⟩,g,hn,rfl⟩
theorem dE.kf (h:dE k z s H){a b i:Int}(ho:k.or z s a b)(d:0<=i)(e:i<pf (k.l0 z a)):∃c,dE k z (k.kf s (b+1+i)) c/\dh k s (k.kf s (b+1+i))/\k.cK (k.ld (k.kf s (b+1+i)) (b+1+i))=false/\∃j,c=H++j:=by
 obtain⟨c,m1,f,g,l,m,_,_⟩:=h.br _;obtain⟨s1,s2,n⟩:=m1.st (f.or ho) d e (m _ (h.fd a b ho i d e))
 refine⟨c,s1,f.trans (dh.st m1.ci g),?_,l⟩
 unfold ce.kf;rw[s2];exact g
theorem dE.fU (h:dE k z s H){a b:Int}(ho:k.or z s a b):∀n:Nat,(n:Int)<=pf (k.l0 z a)->∃f,dE k z (k.fU s b n) f/\dh k s (k.fU s b n)/\(∀i:Nat,i<n->k.cK (k.ld (k.fU s b n) (b+1+i))=false)/\∃d,f=H++d
 |0,_=>⟨H,h,dh.refl _ _,fun i hi=>V,⟨[],Z⟩⟩
 |n+1,hn=>by
  obtain⟨p,m1,c,g,⟨d,j⟩⟩:=dE.fU h ho n V;obtain⟨l,m,j2,cA,⟨o,cE⟩⟩:=m1.kf (c.or ho) (i:=n) V V;refine⟨l,m,c.trans j2,fun i hi=>?_,⟨d++o,by rw[cE,j,ba]⟩⟩
  by_cases e:i=n
  ·rw[e];exact cA
  ·have hb:=m1.bd (m1.mem (c.or ho))
   rw[(m1.hd _ _ (c.or ho))] at hb;exact j2.cl _ V V (g i V)
end
section
variable {k:ce}{z:C0}{s t u:cj}{H:List Int}
theorem ih {x:Int}(h:pc x=0)(b:pk x=1\/pk x=3\/pk x=4):pf x=2:=by
 unfold pc at h;unfold pk at b;unfold pf;split at h
 ·rename_i e;rw[aI e] at b⊢;generalize x%16=a at*;generalize x/16=f at*;unfold hc at e;rcases b with b|b|b
  ·rw[aI b] at e;split at e
   ·assumption
   ·omega
  ·rw[aG V,aI b] at e;split at e
   ·assumption
   ·omega
  ·rw[aG V,aG V,aI b] at e;split at e
   ·assumption
   ·omega
 ·omega
theorem yR {x:Int}(h:pc x=0):(pk x=1\/pk x=2)\/pk x=3\/pk x=4\/(pk x=5/\pf x=0):=by
 unfold pc at h;unfold pk pf;split at h
 ·rename_i e;rw[aI e,aI e];have hb:=iS _ _ e;generalize x%16=a at*;generalize x/16=f at*;by_cases b:a=5
  ·right;right;right;refine⟨b,?_⟩
   unfold hc at e;rw[aG V,aG V,aG V,aG V,aI b] at e;split at e
   ·assumption
   ·omega
  ·omega
 ·omega
theorem jS (k:ce)(s:cj)(a:Int):(k.kf s a).wk=s.wk/\(k.kf s a).ep=s.ep/\(k.kf s a).nx=s.nx/\(k.kf s a).rs=s.rs:=by unfold ce.kf ce.st ce.br;split<;>exact⟨rfl,rfl,rfl,rfl⟩
theorem m_ (k:ce)(s:cj)(a:Int):∀n,(k.fU s a n).wk=s.wk/\(k.fU s a n).ep=s.ep/\(k.fU s a n).nx=s.nx/\(k.fU s a n).rs=s.rs
 |0=>⟨rfl,rfl,rfl,rfl⟩
 |n+1=>by obtain⟨b,c,d,e⟩:=m_ k s a n;obtain⟨f,j2,cA,cE⟩:=jS k _ _;exact⟨f.trans b,j2.trans c,cA.trans d,cE.trans e⟩
theorem qG (k:ce)(s:cj)(a:Int):(k.lk s a).nx=s.nx/\(k.lk s a).rs=s.rs:=by
 unfold ce.lk;split
 ·exact⟨(m_ _ _ _ _).2.2.1,(m_ _ _ _ _).2.2.2⟩
 ·split
  ·exact⟨(jS _ _ _).2.2.1,(jS _ _ _).2.2.2⟩
  ·split<;>exact⟨rfl,rfl⟩
theorem dE.turn (h:dE k z s H)(wk ep rs:List Int)(nx:Int)(hw:∀a∈wk,(k.N:Int)<=a/\a<=2000)(he:∀a∈ep,(k.N:Int)<=a/\a<=2000)(h0:(k.N:Int)<=nx)(b:nx<=(k.N:Int)+k.O+13):dE k z {s with wk:=wk,ep:=ep,rs:=rs,nx:=nx} H:=
 {
  ci:={hN:=h.ci.hN,hN':=h.ci.hN',hO:=h.ci.hO,hy:=h.ci.hy,hg:=h.ci.hg,len:=h.ci.len,th:=h.ci.th,nd:=h.ci.nd,room:=h.ci.room,g8:=h0,js:=b,ix:=hw,h7:=he,tl:=h.ci.tl}
  qF:=h.qF,full:=h.full,kI:=h.kI,m8:=h.m8,fh:=h.fh,inj:=h.inj,f4:=h.f4,hlo:=h.hlo,hd:=h.hd,fd:=h.fd}
theorem dh.turn (k:ce)(s:cj)(wk ep rs:List Int)(nx:Int):dh k s {s with wk:=wk,ep:=ep,rs:=rs,nx:=nx}:=⟨fun _ _=>rfl,aD _,fun _ _ _ h=>h⟩
def Lo (k:ce)(s:cj)(b:Int):Prop:=∀i,0<=i->i<pf (k.ld s b)->k.cK (k.ld s (b+1+i))=false\/(pk (k.ld s b)=3/\i=0/\b∈s.wk)\/(pk (k.ld s b)=4/\b∈s.ep)
theorem dE.lk (h:dE k z s H){a b:Int}(ho:k.or z s a b):∃e,dE k z (k.lk s b) e/\dh k s (k.lk s b)/\(∃t,e=H++t)/\Lo k (k.lk s b) b/\(∀c∈s.wk,c∈(k.lk s b).wk)/\∀c∈s.ep,c∈(k.lk s b).ep:=by
 have hb:=h.bd (h.mem ho)
 have hg:=h.ci.hg;have hN:=h.ci.hN';have hO:=h.ci.hO;have g:=h.hd a b ho;have B:=dj (k.ld s b)
 unfold ce.lk;by_cases c1:pk (k.ld s b)=1\/pk (k.ld s b)=2
 ·rw[aI c1];obtain⟨e,m1,f,l,o⟩:=h.fU ho (pf (k.ld s b)).toNat (by rw[<-g];omega)
  have m:=m1.hd a b (f.or ho)
  refine⟨e,m1,f,o,fun i n j=>aK ?_,fun c hc=>by rw[(m_ _ _ _ _).1];exact hc,fun c hc=>by rw[(m_ _ _ _ _).2.1];exact hc⟩
  rw[m,<-g] at j;have q:=l i.toNat V;rw[Int.toNat_of_nonneg n] at q;exact q
 ·rw[aG c1];by_cases c3:pk (k.ld s b)=3
  ·rw[aI c3];have u:=ih hb.2.2 (aJ (aK c3))
   have v:=h.turn (s.wk++[b]) s.ep s.rs s.nx (fun x p=>by
    rcases List.mem_append.1 p with d|d
    ·exact h.ci.ix x d
    ·rw[bv] at d;omega) h.ci.h7 h.ci.g8 h.ci.js
   obtain⟨e,m1,f,l,o⟩:=v.kf (i:=1) ho V (by rw[<-g];omega)
   have ea:b+1+1=b+2:=V;rw[ea] at m1 f l;have m:=m1.hd a b (f.or ho)
   refine⟨e,m1,(dh.turn k s (s.wk++[b]) s.ep s.rs s.nx).trans f,o,fun i n j=>?_,fun c hc=>by rw[(jS _ _ _).1];exact aX _ hc,fun c hc=>by rw[(jS _ _ _).2.1];exact hc⟩
   rw[m,<-g,u] at j;by_cases w:i=0
   ·refine aJ (aK ⟨by rw[m,<-g];exact c3,w,?_⟩)
    rw[(jS _ _ _).1];simp
   ·have A:i=1:=V;subst A;rw[ea];exact aK l
  ·rw[aG c3];by_cases c4:pk (k.ld s b)=4
   ·rw[aI c4];refine⟨H,h.turn s.wk _ s.rs s.nx h.ci.ix (fun x p=>by
     rcases List.mem_append.1 p with d|d
     ·exact h.ci.h7 x d
     ·rw[bv] at d;subst d;omega) h.ci.g8 h.ci.js,dh.turn k s s.wk _ s.rs s.nx,⟨[],Z⟩,fun i n j=>aJ (aJ ⟨c4,Z⟩),fun c hc=>hc,fun c hc=>aX _ hc⟩
   ·rw[aG c4];refine⟨H,h,dh.refl _ _,⟨[],Z⟩,fun i n j=>?_,fun c hc=>hc,fun c hc=>hc⟩
    have:=yR hb.2.2;omega
theorem Lo.go {b:Int}{K:List Int}(h:Lo k s b)(hs:dE k z s H)(ht:dE k z t K)(p:dh k s t){a:Int}(ho:k.or z s a b)(hw:b∈s.wk->b∈t.wk)(he:b∈s.ep->b∈t.ep):Lo k t b:=by
 have e:=hs.hd a b ho;have f:=ht.hd a b (p.or ho)
 have hb:=hs.bd (hs.mem ho)
 intro i j g;rw[f,<-e] at g;rw[f,<-e];rcases h i j g with l|⟨c,d,m⟩|⟨c,d⟩
 ·exact aK (p.cl _ V V l)
 ·exact aJ (aK ⟨c,d,hw m⟩)
 ·exact aJ (aJ ⟨c,he d⟩)
end
theorem yS {g h:Int->Nat}(R:Int->Int->Prop)(i:∀a b c,R a c->R b c->a=b):∀(l T:List Int),l.Nodup->T.Nodup->(∀b∈l,∃a∈T,R b a/\g b=h a)->gn g l<=gn h T
 |[],T,_,_,_=>aY _
 |b::l,T,hl,j,k=>by
  obtain⟨a,ha,r,e⟩:=k b Z;rw[List.nodup_cons] at hl;have p:=oT h T a j ha;have m:=yS R i l (T.filter (fun c=>!(c==a))) hl.2 (j.filter _) (fun c hc=>by
   obtain⟨d,hd,f,n⟩:=k c (aO _ hc)
   refine⟨d,List.mem_filter.2 ⟨hd,?_⟩,f,n⟩
   cases q:d==a
   ·rfl
   ·have o:d=a:=by simpa using q
    rw[o] at f;exact absurd (i c b a f r▸hc) hl.1)
  rw[tU];unfold gn at m⊢;omega
theorem yT {g:Int->Nat}{l T:List Int}(hl:l.Nodup)(c:T.Nodup)(hs:∀a∈l,a∈T):gn g l<=gn g T:=
 yS (fun a b=>a=b) (fun _ _ _ d e=>d.trans e.symm) l T hl c (fun b hb=>⟨b,hs b hb,rfl,rfl⟩)
def na (L:Int->Int)(a:Int):Nat:=1+(pf (L a)).toNat
theorem d4.sum {L:Int->Int}{hi:Int}:∀{l:List Int}{a:Int},d4 L hi a l->(gn (na L) l:Int)=hi-a
 |[],a,h=>by have h:a=hi:=h;simp[gn,h]
 |x::l,a,h=>by
  obtain⟨rfl,_,c,ht⟩:=h;have b:=d4.sum ht;have hp:=dj (L x)
  rw[tU];unfold na at b⊢;omega
theorem d4.nodup {L:Int->Int}{hi:Int}:∀{l:List Int}{a:Int},d4 L hi a l->l.Nodup
 |[],_,_=>List.nodup_nil
 |x::l,a,h=>by
  obtain⟨rfl,_,_,ht⟩:=h;rw[List.nodup_cons];refine⟨fun c=>?_,d4.nodup ht⟩
  have:=(ht.mem x c).1;have hp:=dj (L x)
  omega
section
variable {N O y g:Nat}{ws Y G:List Int}
theorem yU (h:d5 N y g ws Y G)(hy:y<=N)(Q:List b7){a:Int}(ha:a∈Y\/a∈G)(b:pk (ld N y g ws a)≠5):((eV N y g ws Q a).length:Int)=pf (ld N y g ws a):=by
 have hp:=dj (ld N y g ws a)
 unfold eV;rw[aG b,h.stands hy ha];simp;omega
end
def Pos (z:Int->Int)(al:Int->Bool)(f:Int->Int):Int->List Int->Int->Prop
 |n,[],m=>n=m
 |n,a::l,m=>(al a=true->f a=n/\Pos z al f (n+(1+z a)) l m)/\(al a=false->f a=-1/\Pos z al f n l m)
section
variable {z:Int->Int}{al:Int->Bool}{f:Int->Int}
theorem Pos.le (hz:∀a,0<=z a):∀{l:List Int}{n m:Int},Pos z al f n l m->n<=m
 |[],n,m,h=>Int.le_of_eq h
 |a::l,n,m,h=>by
  have:=hz a;cases c:al a
  ·exact Pos.le hz (h.2 c).2
  ·have:=Pos.le hz (h.1 c).2;omega
theorem Pos.app:∀{l e:List Int}{n m:Int},Pos z al f n (l++e) m->∃b,Pos z al f n l b/\Pos z al f b e m
 |[],e,n,m,h=>⟨n,rfl,h⟩
 |a::l,e,n,m,h=>by
  cases c:al a
  ·obtain⟨b,g,i⟩:=Pos.app (h.2 c).2;exact⟨b,⟨fun d=>(by rw[c] at d;cases d),fun _=>⟨(h.2 c).1,g⟩⟩,i⟩
  ·obtain⟨b,g,i⟩:=Pos.app (h.1 c).2;exact⟨b,⟨fun _=>⟨(h.1 c).1,g⟩,fun d=>(by rw[c] at d;cases d)⟩,i⟩
theorem Pos.bd (hz:∀a,0<=z a):∀{l:List Int}{n m:Int},Pos z al f n l m->∀a∈l,al a=true->n<=f a/\f a+(1+z a)<=m
 |[],n,m,h,a,ha,_=>by cases ha
 |b::l,n,m,h,a,ha,hl=>by
  rcases List.mem_cons.1 ha with e|ha
  ·rw[e] at hl⊢;obtain⟨g,d⟩:=h.1 hl;have:=d.le hz;omega
  ·have:=hz b;cases c:al b
   ·exact Pos.bd hz (h.2 c).2 a ha hl
   ·have:=Pos.bd hz (h.1 c).2 a ha hl;omega
theorem Pos.no:∀{l:List Int}{n m:Int},Pos z al f n l m->∀a∈l,al a=false->f a=-1
 |[],n,m,h,a,ha,_=>by cases ha
 |b::l,n,m,h,a,ha,hl=>by
  rcases List.mem_cons.1 ha with e|ha
  ·rw[e] at hl⊢;exact(h.2 hl).1
  ·cases c:al b
   ·exact Pos.no (h.2 c).2 a ha hl
   ·exact Pos.no (h.1 c).2 a ha hl
theorem Pos.inj (hz:∀a,0<=z a):∀{l:List Int}{n m:Int},Pos z al f n l m->∀a∈l,∀b∈l,al a=true->al b=true->f a=f b->a=b
 |[],n,m,h,a,ha,_,_,_,_,_=>by cases ha
 |x::l,n,m,h,a,ha,b,hb,d,lb,e=>by
  have k:=hz x;rcases List.mem_cons.1 ha with ea|ha
  ·rcases List.mem_cons.1 hb with g|hb
   ·rw[ea,g]
   ·rw[ea] at d e;obtain⟨j,i⟩:=h.1 d;have:=i.bd hz b hb lb;omega
  ·rcases List.mem_cons.1 hb with g|hb
   ·rw[g] at lb e;obtain⟨j,i⟩:=h.1 lb;have:=i.bd hz a ha d;omega
   ·cases c:al x
    ·exact Pos.inj hz (h.2 c).2 a ha b hb d lb e
    ·exact Pos.inj hz (h.1 c).2 a ha b hb d lb e
theorem Pos.tW (hz:∀a,0<=z a){L:Int->Int}:∀{l:List Int}{n m:Int},Pos z al f n l m->(∀a∈l,al a=true->pc (L (f a))=0/\pf (L (f a))=z a)->d4 L m n ((l.filter al).map f)
 |[],n,m,h,_=>by have h:=h;rw[h];exact d4.done
 |a::l,n,m,h,hl=>by
  cases c:al a
  ·rw[List.filter_cons_of_neg (by simp[c])];exact Pos.tW hz (h.2 c).2 (fun b hb=>hl b (aO _ hb))
  ·rw[List.filter_cons_of_pos c,List.map_cons];obtain⟨g,e⟩:=h.1 c;obtain⟨q1,d⟩:=hl a Z c;rw[g] at q1 d⊢;refine d4.step q1 (by rw[d];exact e.le hz) ?_;rw[d];exact Pos.tW hz e (fun b hb=>hl b (aO _ hb))
theorem Pos.sum:∀{l:List Int}{n m:Int},Pos z al f n l m->(∀a,0<=z a)->(gn (fun a=>1+(z a).toNat) (l.filter al):Int)=m-n
 |[],n,m,h,_=>by have h:n=m:=h;simp[gn,h]
 |a::l,n,m,h,hz=>by
  have:=hz a;cases c:al a
  ·rw[List.filter_cons_of_neg (by simp[c])];exact Pos.sum (h.2 c).2 hz
  ·rw[List.filter_cons_of_pos c,tU];have:=Pos.sum (h.1 c).2 hz;omega
end
theorem pn (k:b9)(al:Int->Bool):∀(l:List Int)(t:cu×Int),l.Nodup->(∀a∈l,al a=!(t.1.f a==-1))->Pos (fun a=>pf (k.ld a)) al (k.l6 t l).1.f t.2 l (k.l6 t l).2/\(∀b,b∉l->(k.l6 t l).1.f b=t.1.f b)/\(k.l6 t l).1.td=t.1.td/\(k.l6 t l).1.ep=t.1.ep
 |[],t,_,_=>⟨rfl,fun _ _=>rfl,rfl,rfl⟩
 |a::l,t,hn,ha=>by
  rw[List.nodup_cons] at hn;have n:k.l6 t (a::l)=k.l6 (e_ (fun t a=>t.1.f a) k.l5 t a) l:=rfl;have o:=ha a Z;by_cases c:t.1.f a=-1
  ·have f:e_ (fun t a=>t.1.f a) k.l5 t a=t:=by unfold e_;rw[aI c]
   rw[n,f];obtain⟨g,d,i,j⟩:=pn k al l t hn.2 (fun b hb=>ha b (aO _ hb))
   have ea:al a=false:=by rw[o,c];rfl
   exact⟨⟨fun h=>(by rw[ea] at h;cases h),fun _=>⟨by rw[d a hn.1];exact c,g⟩⟩,fun b hb=>d b (fun m=>hb (aO _ m)),i,j⟩
  ·have f:e_ (fun t a=>t.1.f a) k.l5 t a=k.l5 t a:=by unfold e_;rw[aG c]
   rw[n,f];obtain⟨g,d,i,j⟩:=pn k al l (k.l5 t a) hn.2 (fun b hb=>by
    have p:b≠a:=fun e=>hn.1 (e▸hb)
    show al b=!(gz t.1.f a t.2 b==-1)
    unfold gz;rw[aG p];exact ha b (aO _ hb))
   have ea:al a=true:=by rw[o,beq_false_of_ne c];rfl
   refine⟨⟨fun _=>⟨?_,g⟩,fun h=>(by rw[ea] at h;cases h)⟩,fun b hb=>?_,i,j⟩
   ·rw[d a hn.1];show gz t.1.f a t.2 a=_;unfold gz;rw[aI rfl]
   ·rw[d b (fun m=>hb (aO _ m))];show gz t.1.f a t.2 b=_;unfold gz;rw[aG (fun e=>hb (by rw[e];simp))]
section
variable {c:kh}{F:Nat->Prop}{S:cq×ck}{w:ax}
end
section
variable {c:kh}{F:Nat->Prop}{S:cq×ck}{w:ax}
end
section
variable {c:kh}{F:Nat->Prop}{S:cq×ck}{w:ax}
end
section
variable {c:kh}{F:Nat->Prop}{S:cq×ck}{w:ax}
end
section
variable {c:kh}{F:Nat->Prop}{S:cq×ck}{w:ax}
end
section
variable {c:kh}{F:Nat->Prop}{S:cq×ck}{w:ax}
end
section
variable {c:kh}{F:Nat->Prop}{S:cq×ck}{w:ax}
end
theorem yV {b:Type}{l:List b}{i:Nat}{x y:b}(h:y∈l.set i x):y∈l\/y=x:=List.mem_or_eq_of_mem_set h
def kJ (N O y g:Nat)(ws M Y G:List Int):Prop:=
 ∀v∈G,∀i,0<=i->i<pf (ld N y g ws v)->cY (ld N y g ws (v+1+i))=true->cg (ld N y g ws (v+1+i))∈Y->(fZ N (dF O) v&&M.contains (cN N v))=true
section
variable {N O y g:Nat}{ws M Y G rs:List Int}
theorem kJ.make (h:ig N y g ws Y G rs)(hc:kJ N O y g ws M Y G)(hl:ws.length=N+O){k f:Int}(hm:iJ N y k f=true):kJ N O (iU N y k f) g (fq N y k f ws) M (Y++[(y:Int)]) G:=by
 obtain⟨j,p⟩:=oQ hm;have q:=iS k f j;have l:iU N y k f=y+1+f.toNat:=by unfold iU;rw[aI hm]
 have m:fq N y k f ws=fC ws y (hw k f) f.toNat:=by unfold fq;rw[aI hm]
 have hlt:y+f.toNat<ws.length:=V;rw[l,m];intro v hv i c b ha hy;have hi:=h.full.io v hv;have n:ld N (y+1+f.toNat) g (fC ws y (hw k f) f.toNat) v=ld N y g ws v:=by exact p7
 rw[n] at b;have hb:=m7 h.full hv c b;have o:ld N (y+1+f.toNat) g (fC ws y (hw k f) f.toNat) (v+1+i)=ld N y g ws (v+1+i):=by exact yL
 rw[o] at ha hy;rcases List.mem_append.1 hy with d|d
 ·exact hc v hv i c b ha d
 ·simp at d;rcases h.fd v (aJ hv) i c b ha with e|e
  ·have:=(h.full.iw _ e).2;omega
  ·have:=(h.full.io _ e).1;omega
theorem yW {v:Int}(h0:(N:Int)<=v)(b:v<(N:Int)+g)(hg:g<=O):fZ N (dF O) v=true:=by unfold fZ dF;simp only [Bool.and_eq_true,decide_eq_true_eq];omega
theorem oi {x i z c:Int}(h:ej N y g ws x i≠0):ge N y g ws x i z=ws/\stM N y g ws x i z c M=M:=by
 refine⟨by unfold ge;rw[aG h],?_⟩
 have e:mP N y g ws x i z=false:=by unfold mP;rw[bq h];rfl
 unfold stM;rw[e];rfl
theorem yX (h:d5 N y g ws Y G){b v i j:Int}(d:b∈G)(hv:v∈G)(f:0<=i)(k:i<pf (ld N y g ws b))(j0:0<=j)(l:j<pf (ld N y g ws v))(e:b+1+i=v+1+j):b=v:=by
 rcases Int.lt_trichotomy b v with c|c|c
 ·have:=h.ec.apart b d v hv c;omega
 ·exact c
 ·have:=h.ec.apart v hv b d c;omega
theorem kJ.set (h:ig N y g ws Y G rs)(hc:kJ N O y g ws M Y G)(hl:ws.length=N+O)(hN:N<=256)(hy:y<=N)(hO:O<=1024)(hg:g<=O)(x i z:Int):kJ N O y g (ge N y g ws x i z) (stM N y g ws x i z (dF O) M) Y G:=by
 by_cases l:ej N y g ws x i=0
 ·obtain⟨p,D,t3,c⟩:=m4 l;obtain⟨l1,l2⟩:=h.full.lists hN hy hO hg;have hv:cg x∈Y\/cg x∈G:=by unfold tB at p;rw[l1,l2] at p;simpa using(a_ _ _▸p:cY x=true/\(Y.contains (cg x)||G.contains (cg x))=true).2
  rw[(h.full.stands hy hv)] at c;have t:=jR h.full hv t3 c;have E:=jr t hy hg;have w:ge N y g ws x i z=ws.set (cg x+1+i).toNat z:=by unfold ge;rw[aI l,aI t]
  obtain⟨F,hk⟩:=h.full.set hl hy hg hv t3 c;rw[w];have A:∀k,M.contains k=true->(stM N y g ws x i z (dF O) M).contains k=true:=fun k hk=>by
   unfold stM;split
   ·unfold k9;split
    ·rw[sx,hk];rfl
    ·exact hk
   ·exact hk
  intro v d j j0 m ha f;rw[hk v (aJ d)] at m;have hi:=jR h.full (aJ d) j0 m;have q:ld N y g (ws.set (cg x+1+i).toNat z) (v+1+j)=if(cg x+1+i).toNat=(v+1+j).toNat then z else ld N y g ws (v+1+j):=by rw[dW hi,dW hi,j9 _ _ _ _ V]
  rw[q] at ha f;have n:=h.full.io v d;by_cases e:(cg x+1+i).toNat=(v+1+j).toNat
  ·rw[aI e] at ha f;have s:cg x+1+i=v+1+j:=V;have hz:=h.full.iw _ f;have u:hB N g (cg x)=true:=by
    unfold hB;rw[decide_eq_true_eq];rcases hv with b|b
    ·have o:=m6 h.full b t3 c;omega
    ·have:=h.full.io _ b;omega
   have eo:=jq u;have B:mP N y g ws x i z=true:=by unfold mP;rw[ha,u,bh l];simp only [Bool.true_and,Bool.and_true];unfold hB;rw[decide_eq_true_eq];omega
   have C:cg x∈G:=by
    rcases hv with b|b
    ·have:=h.full.iw _ b;omega
    ·exact b
   rw[a_];refine⟨yW n.1 n.2 hg,?_⟩
   unfold stM;rw[aI B,(yX h.full C d t3 c j0 m s),wZ (yW n.1 n.2 hg),sx];simp
  ·rw[aG e] at ha f;have o:=hc v d j j0 m ha f;rw[a_] at o⊢;exact⟨o.1,A _ o.2⟩
 ·obtain⟨q,s⟩:=oi l;rw[q,s];exact hc
end
structure cI (a:Wc)(s:d9):Prop where
 n0:16<=a.N
 n1:a.N<=256
 o1:a.O<=1024
 y1:s.y<=a.N
 g1:s.g<=a.O
 l1:s.ws.length=a.N+a.O
 r1:s.rs.length=12
structure el (a:Wc)(s:d9)(Y G:List Int):Prop where
 inv:ig a.N s.y s.g s.ws Y G s.rs
 cd:kJ a.N a.O s.y s.g s.ws s.M Y G
section
variable {a:Wc}{s:d9}{Y G:List Int}
theorem el.root (h:el a s Y G)(k:Nat)(x:Int)(b:cY x=true->cg x∈Y\/cg x∈G):el a {s with rs:=s.rs.set k x} Y G:=⟨h.inv.root k x b,h.cd⟩
theorem el.set (h:el a s Y G)(hb:cI a s)(k m:Nat)(hk:k<12)(i:Int)(hm:m<12):
 el a {s with ws:=ge a.N s.y s.g s.ws (s.rs.getD k 0) i (s.rs.getD m 0),M:=stM a.N s.y s.g s.ws (s.rs.getD k 0) i (s.rs.getD m 0) (dF a.O) s.M} Y G:=by
 refine⟨?_,kJ.set h.inv h.cd hb.l1 hb.n1 hb.y1 hb.o1 hb.g1 _ _ _⟩
 by_cases b:ej a.N s.y s.g s.ws (s.rs.getD k 0) i=0
 ·obtain⟨e,j,t3,d⟩:=m4 b;have f:cY (s.rs.getD k 0)=true:=by rw[<-h.inv.tb hb.n1 hb.y1 hb.o1 hb.g1 k (by rw[hb.r1];exact hk)];exact e
  have hv:=h.inv.at k (by rw[hb.r1];exact hk) f;rw[h.inv.full.stands hb.y1 hv] at d;unfold ge;rw[aI b,aI (jR h.inv.full hv t3 d)];exact h.inv.set hb.l1 hb.y1 hb.g1 hv t3 d (fun g=>h.inv.at m (by rw[hb.r1];exact hm) g)
 ·rw[(oi (M:=s.M) (c:=dF a.O) b).1];exact h.inv
end
end Go.Proofs.YtpkjkjhanlbcoaaGreat
