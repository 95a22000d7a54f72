import Derived.Test.YtpkjkjhanlbcoaaGreatJ20
namespace Go.Proofs.YtpkjkjhanlbcoaaGreat
set_option maxRecDepth 100000
set_option maxHeartbeats 4000000
open Tryz
open Go.RowKit W Kp cf
theorem yF {P:Prop}(h:P:=by rw[dW (hZ hb.1 hb.2),dW (hZ hb.1 hb.2),k8 _ _ _ _ _ hlt,aG V,aG V]):P:=h
theorem F0 {p q N O y g:Nat}{ws:List Int}(w:ax)(h:At w p q N O y g ws):
 Calls prog 129 #[aj p] w fun e w'=>∃v1 v2,e=.returned (.tuple #[v1,v2])/\w'.ownsRow w.heap.size 3 1 v1 (ei N y g ws).length ((ei N y g ws).map (Value.int .i64))/\w'.ownsRow w.heap.size 3 1 v2 (dD N y g ws).length ((dD N y g ws).map (Value.int .i64))/\(∀b,some b=v1.ownBlock->some b≠v2.ownBlock)/\aw w w':=by
 obtain⟨c0,c1,c2,c3,c4,c5,j⟩:=h.cells;have lp:=h.eL;have A:=h.eM;have k1:=h.hN';have B:=h.hy;have C:=h.hO;have D:=h.hg;go_enter func129,ntmps129;go_wp2_with fail;refine(wx 0 N y w.heap.size _ ((h.alloc _).alloc _) ((aS _ _ _ Z).trans (aN _ _)) V V V V V V).mono ?_;rintro e w1 ⟨rfl,v1,k,i,c⟩
 have l:=((h.alloc _).alloc _).same (c.block p (by simp;omega) V) (c.block q (by simp;omega) V)
 have d:=(c.block (w.heap.size+1) Z V).trans (se _ Z)
 have o:=hide k;have s:=hide d;have t:=c.size;simp only [World.size_alloc] at t;clear k d c0 c1 c2 c3 c4 c5 j;obtain⟨c0,c1,c2,c3,c4,c5,j⟩:=l.cells;go_wp2_with fail;refine(wy N O g (w.heap.size+1) _ l s.out V V V V V V).mono ?_;rintro e m ⟨rfl,v2,d,n,f⟩
 have E:m.cell? (aq w.heap.size 0)=some v1:=by have:=(f.block w.heap.size V V).trans o.out;simp[World.cell?,this]
 have F:m.cell? (aq (w.heap.size+1) 0)=some v2:=by simp[World.cell?,d]
 have G:=f.size;clear d;go_wp2_with fail
 go_quiet (fail)
 go_wp2_with fail;go_ret2;have u:∀b,some b=v1.ownBlock->some b≠v2.ownBlock:=fun b e v=>by have q1:=(cn i b e).2;have H:=(cn n b v).1;omega
 simp only [World.size_alloc] at i c;have x:ei N y g ws=eA N y g ws (0+(y:Int)) 2000 0:=by rw[Int.zero_add];rfl
 refine⟨v1,v2,rfl,?_,?_,u,?_⟩
 ·rw[x];exact lQ (nT (base:=w.heap.size+1+1) (wi i f bW V) V) (below_drewN bX _)
 ·exact lQ (nT n V) (below_drewN bX _)
 ·exact below_drewN (((bX.alloc bW _).alloc Z _).trans ((c.below V bW).trans (f.below V V))) _
theorem F1 (f:Nat)(c:Array Value)(p:Int->Bool)(b:dN f)(w:ax):
 Calls prog 213 #[.slice none 0 0,.func (.func f) #[] c] w fun r w'=>r=.returned (.slice none 0 0)/\aw w w':=by
 go_enter func213,ntmps213;go_wp2_with fail;refine(yx f c p b w [] (fun w' x d _=>by cases d) none 0 Z (fun h=>by simp at h)).mono ?_;rintro r w1 ⟨e,⟨rfl,_⟩|⟨i,_,g,_⟩⟩
 ·go_wp2;go_ret;exact⟨rfl,e⟩
 ·simp at g
theorem F4 (f:Nat)(c:Array Value)(p:Int->Bool)(d:dN f)(w:ax)(l:List Int)(ad:Option Addr)(cap B:Nat)
 (hl:∀(w':ax)(x:Int),x∈l->Fr (fun b=>some b=(Value.slice ad l.length cap).ownBlock) w w'->Calls prog f (#[ah x]++c) w' fun r i=>r=.returned (.bool (p x))/\aw w' i)
 (hm:l.length<=100000)(hr:w.ownsRow B 3 1 (.slice ad l.length cap) l.length (l.map (Value.int .i64))):
 Calls prog 213 #[.slice ad l.length cap,.func (.func f) #[] c] w fun r w'=>r=.returned (.slice ad (eb p l).length cap)/\w'.ownsRow B 3 1 (.slice ad (eb p l).length cap) (eb p l).length ((eb p l).map (Value.int .i64))/\Fr (fun b=>some b=(Value.slice ad l.length cap).ownBlock) w w':=by
 rcases hr.2 with⟨hv,hn⟩|⟨g,k,m,hv,_⟩
 ·have j:=List.eq_nil_of_length_eq_zero hn;subst j;simp at hv;obtain⟨rfl,rfl⟩:=hv;refine(F1 f c p d w).mono ?_;rintro r w' ⟨rfl,hb⟩
  exact⟨rfl,bc _ _ _ _,Fr.of hb⟩
 ·obtain⟨rfl,rfl⟩:=hv;have e:∀n cap,(fun b=>some b=(Value.slice (ak g) n cap).ownBlock)=(fun b=>b=g):=fun n cap=>by simp[Value.ownBlock]
  rw[e] at hl⊢;exact FX f c p d w l g cap B hl hm hr
theorem yG {pk pw p q N O y g:Nat}{ws:List Int}(w:ax)(f:At w p q N O y g ws)(c1:w.cell? (aq pk 0)=some (aj pw))(c2:w.cell? (aq pw 0)=some (aj p))(l:List Int)(ad:Option Addr)(cap B:Nat)(e:Int)(hl:l.length<=100000)(m:∀x∈l,0<=x/\x<=100000)
 (hr:w.ownsRow B 3 1 (.slice ad l.length cap) l.length (l.map (Value.int .i64)))(hB:pk<B/\pw<B/\p<B/\q<B):
 Calls prog 140 #[aj pk,.slice ad l.length cap,ah e] w fun r w'=>r=.returned (.slice ad (eb (fun x=>decide (e<=x+pf (ld N y g ws x))) l).length cap)/\w'.ownsRow B 3 1 (.slice ad (eb (fun x=>decide (e<=x+pf (ld N y g ws x))) l).length cap) (eb (fun x=>decide (e<=x+pf (ld N y g ws x))) l).length ((eb (fun x=>decide (e<=x+pf (ld N y g ws x))) l).map (Value.int .i64))/\Fr (fun b=>some b=(Value.slice ad l.length cap).ownBlock) w w':=by
 obtain⟨W,c⟩:∃W,W=(w.alloc (.cells #[.pointer (some ⟨pk,0,none⟩)] 137)).alloc (.cells #[.int .i64 e] 3):=⟨_,rfl⟩
 have i:aw w W:=by rw[c];exact((aH _ w).alloc bW _).alloc Z _
 have n:W.heap[w.heap.size]?=some (.cells #[aj pk] 137 (0,0)):=by rw[c,aS _ _ _ Z];exact aN _ _
 have o:W.heap[w.heap.size+1]?=some (.cells #[ah e] 3 (0,0)):=by rw[c];simpa using aN (w.alloc (.cells #[.pointer (some ⟨pk,0,none⟩)] 137)) _
 have v:W.heap.size=w.heap.size+2:=by rw[c];simp
 have P:=F4 214 #[aj w.heap.size,aj (w.heap.size+1)] (fun x=>decide (e<=x+pf (ld N y g ws x))) FU W l ad cap B (fun w' x s d=>by
  have hn:∀b,some b=(Value.slice ad l.length cap).ownBlock->_:=fun b e=>cn hr b e;have k0:∀b,b<B->b<w.heap.size->_=_:=fun b hb j=>(d.block b V (fun e=>by have:=(hn b e).1;omega)).trans (i.block b j)
  have k1:∀b,w.heap.size<=b->b<W.heap.size->_=_:=fun b hb j=>d.block b j (fun e=>by have:=(hn b e).2;omega)
  exact FV w' (f.same (k0 p hB.2.2.1 f.eL) (k0 q hB.2.2.2 f.eM)) (by simp[World.cell?,((k1 w.heap.size _ V).trans n)]) ((aP (k0 pk hB.1 (aQ w _ c1))).trans c1) ((aP (k0 pw hB.2.1 (aQ w _ c2))).trans c2) (by simp[World.cell?,((k1 _ V V).trans o)]) x (m x s)) hl (cH hr (fun b e=>i.block b (cn hr b e).2))
 have t:ay (_/\∀b,some b=(Value.slice ad l.length cap).ownBlock->b<w.heap.size):=⟨i,fun b e=>(cn hr b e).2⟩
 go_enter func140,ntmps140;go_wp2_with fail;rw[<-(hide c).out];refine P.mono ?_;rintro r w1 ⟨rfl,u,d⟩
 have k:=dq u ((Fr.of t.out.1).trans d (fun b e=>aK e))
 go_wp2_with fail;go_ret;exact⟨rfl,k.out.1,k.out.2⟩
theorem F5 (w:ax)(pk:Nat)(G Y:List Int)(c d:Option Addr)(gc f:Nat)(l:w.cell? (aq pk 1)=some (.slice d Y.length f))(q:w.cell? (aq pk 2)=some (.slice c G.length gc))(yr:w.ownsRow 0 3 1 (.slice d Y.length f) Y.length (Y.map (Value.int .i64)))(gr:w.ownsRow 0 3 1 (.slice c G.length gc) G.length (G.map (Value.int .i64)))(hl:G.length+Y.length<=4000):
 Calls prog 141 #[aj pk] w fun e w'=>∃a g,e=.returned (.slice a (G.length+Y.length) g)/\w'.ownsRow w.heap.size 3 1 (.slice a (G.length+Y.length) g) (G.length+Y.length) ((G++Y).map (Value.int .i64))/\aw w w':=by
 have lk:=aQ w _ l;have s:=au w.drew (.cells #[.slice c G.length gc,.slice d Y.length f] 74)
 have i:=(av w).drew.trans (s.mono bW)
 have m:=aN w.drew (.cells #[.slice c G.length gc,.slice d Y.length f] 74)
 have P:=yj (w.drew.alloc (.cells #[.slice c G.length gc,.slice d Y.length f] 74)) w.heap.size G Y c d gc f (by simp only [World.cell?];rw[show w.heap.size=w.drew.heap.size from rfl,m];rfl) (by simp only [World.cell?];rw[show w.heap.size=w.drew.heap.size from rfl,m];rfl) (cH gr (fun b e=>i.block b (cn gr b e).2)) (cH yr (fun b e=>i.block b (cn yr b e).2)) V;have j:=hide i;go_enter func141,ntmps141;go_wp2_with fail
 go_region_held3 (fun w'=>w'.cell? (aq pk 1)=some (.slice d Y.length f)/\w'.cell? (aq pk 2)=some (.slice c G.length gc)) (go_keep)
  (first
    |(go_at_call 215;refine P.mono ?_;rintro e t ⟨a,g,rfl,n,hb⟩;have k:=j.out.trans (hb.mono j.out.size);have y1:=(k.cell (p:=aq pk 1) lk).trans l;have u:=(k.cell (p:=aq pk 2) lk).trans q;have o:=dq (eT n (fun b e=>aT j.out.size (cn n b e).1)) k))
 go_wp2_with fail;go_ret;exact⟨a,g,rfl,o.out.1,o.out.2⟩
theorem yH (w:ax)(p:Nat)(a0 a1:Option Addr)(k0 k1:Nat)(r q:List b7)(h:fu w p a0 k0 a1 k1 r q)(h0:r.length<=90000)(E:q.length<=90000):
 Calls prog 139 #[aj p] w fun e w'=>∃g i c0 b1 c1,e=.returned (aj g)/\w.heap.size<=g/\fu w' g i c0 b1 c1 r q/\(∀z,i=some z->w.heap.size<=z.block)/\(∀z,b1=some z->w.heap.size<=z.block)/\(∀k,some k=(Value.slice i r.length c0).ownBlock->some k≠(Value.slice b1 q.length c1).ownBlock)/\aw w w':=by
 obtain⟨c0,c1,n,o,lp⟩:=h.cells;have s:=hide (qs h.r0)
 have t:=hide (qs h.q0)
 clear h n o;go_enter func139,ntmps139;go_wp2_with fail;have hd:=(av w).drew
 go_region_held3 (fun w'=>w'.cell? (aq p 0)=some (.slice a0 r.length k0)/\w'.cell? (aq p 1)=some (.slice a1 q.length k1)) (first|exact⟨c0,c1⟩|exact⟨u0,l⟩|exact⟨v0,v1⟩|go_keep)
  (first
    |(have F:=b;go_at_call 212;refine(sa _ a1 q k1 (t.out.below b) V).mono ?_;rintro e u ⟨v,x,rfl,j,d⟩;have m:=d.size;have v0:=(d.cell (p:=aq p 0) (aM lp c)).trans u0;have v1:=(d.cell (p:=aq p 1) (aM lp c)).trans l)
    |(go_at_call 212;refine(sa _ a0 r k0 (s.out.below hd) V).mono ?_;rintro e G ⟨A,B,rfl,f,C⟩;have b:=hd.trans C;have c:=b.size;have u0:=(b.cell (p:=aq p 0) lp).trans c0;have l:=(b.cell (p:=aq p 1) lp).trans c1))
 go_wp2_with fail;go_ret;refine⟨u.heap.size,A,B,v,x,rfl,aT c m,⟨aN _ _,eT (ga (cH f (fun k e=>d.block k (cn f k e).2)) _) (fun _ _=>aZ _),eT (ga j _) (fun _ _=>aZ _)⟩,fun z e=>(cn f z.block (by rw[e];rfl)).1,fun z e=>aT c (cn j z.block (by rw[e];rfl)).1,fun k e D=>?_,(b.trans (d.mono c)).alloc (aT c m) _⟩
 have q1:=(cn f k e).2;have H:=(cn j k D).1;omega
abbrev yI (a:Wc)(ch ps:Nat)(yv ov:Value):Obj:=.cells #[aj a.pw,yv,ov,.map (some ch),aj ps,.slice none 0 0,.slice none 0 0] 140 (0,0)
structure fG (a:Wc)(S:cq)(w:ax)(pk ch ps:Nat)(b0:Option Addr)(d0:Nat)(b1:Option Addr)(d1:Nat)(yv ov:Value)(T:List Int)(w':ax):Prop where
 bl:aw w w'
 cb:w'.heap[pk]?=some (yI a ch ps yv ov)
 sd:fu w' ps b0 d0 b1 d1 S.r S.q
 mp:Mp w' ch T (fun _=>-1)
 kq:w.heap.size=ch
 jz:ch<ps
 pp:ps<pk
 l0:∀k,some k=(Value.slice b0 S.r.length d0).ownBlock->ch<k/\k<pk
 l1:∀k,some k=(Value.slice b1 S.q.length d1).ownBlock->ch<k/\k<pk
 ln:∀k,some k=(Value.slice b0 S.r.length d0).ownBlock->some k≠(Value.slice b1 S.q.length d1).ownBlock
section
variable {a:Wc}{S:cq}{w w' w'':ax}{pk ch ps:Nat}{b0 b1:Option Addr}{d0 d1:Nat}{yv ov:Value}{T:List Int}
theorem fG.fr {X:Nat->Prop}(h:fG a S w pk ch ps b0 d0 b1 d1 yv ov T w')(f:Fr X w' w'')(c:∀b,X b->pk<b):fG a S w pk ch ps b0 d0 b1 d1 yv ov T w'':=by
 have g:=h.kq;have i:=h.jz;have j:=h.pp;have k:=lt_of_some h.cb;have hk:∀b,b<=pk->_=_:=fun b hb=>f.block b V (fun d=>by have:=c b d;omega)
 exact {
  bl:=⟨f.os.trans h.bl.os,f.tape.trans h.bl.tape,f.output.trans h.bl.output,aT h.bl.size f.size,fun b hb=>(hk b V).trans (h.bl.block b hb)⟩
  cb:=(hk pk bW).trans h.cb
  sd:=⟨(hk ps V).trans h.sd.blk,cH h.sd.r0 (fun b e=>hk b (by have:=(h.l0 b e).2;omega)),cH h.sd.q0 (fun b e=>hk b (by have:=(h.l1 b e).2;omega))⟩
  mp:=h.mp.same (hk ch V)
  kq:=h.kq,jz:=h.jz,pp:=h.pp,l0:=h.l0,l1:=h.l1,ln:=h.ln}
theorem fG.below (h:fG a S w pk ch ps b0 d0 b1 d1 yv ov T w')(f:aw w' w''):fG a S w pk ch ps b0 d0 b1 d1 yv ov T w'':=h.fr (Fr.of (X:=fun _=>False) f) (fun _ b=>b.elim)
theorem fG.set (h:fG a S w pk ch ps b0 d0 b1 d1 yv ov T w')(i:Nat)(v:Value){c d:Value}(e:(w'.setCell ⟨pk,i,none⟩ v).heap[pk]?=some (yI a ch ps c d)):fG a S w pk ch ps b0 d0 b1 d1 c d T (w'.setCell ⟨pk,i,none⟩ v):=by
 have g:=h.kq;have j:=h.jz;have k:=h.pp;have f:=(Fr.refl _ w').set pk i v rfl;have hk:∀b,b<pk->_=_:=fun b hb=>f.block b (by have:=lt_of_some h.cb;omega) (fun l=>by omega)
 exact {
  bl:=⟨f.os.trans h.bl.os,f.tape.trans h.bl.tape,f.output.trans h.bl.output,aT h.bl.size f.size,fun b hb=>(hk b V).trans (h.bl.block b hb)⟩
  cb:=e
  sd:=⟨(hk ps V).trans h.sd.blk,cH h.sd.r0 (fun b e=>hk b (h.l0 b e).2),cH h.sd.q0 (fun b e=>hk b (h.l1 b e).2)⟩
  mp:=h.mp.same (hk ch V)
  kq:=h.kq,jz:=h.jz,pp:=h.pp,l0:=h.l0,l1:=h.l1,ln:=h.ln}
theorem fG.set1 (h:fG a S w pk ch ps b0 d0 b1 d1 yv ov T w')(v:Value):fG a S w pk ch ps b0 d0 b1 d1 v ov T (w'.setCell ⟨pk,1,none⟩ v):=h.set 1 v (by simp only [World.setCell,Array.getElem?_modify,if_true,h.cb,Option.map_some];simp)
theorem fG.set2 (h:fG a S w pk ch ps b0 d0 b1 d1 yv ov T w')(v:Value):fG a S w pk ch ps b0 d0 b1 d1 yv v T (w'.setCell ⟨pk,2,none⟩ v):=h.set 2 v (by simp only [World.setCell,Array.getElem?_modify,if_true,h.cb,Option.map_some];simp)
theorem fG.add {x:Int}(h:fG a S w pk ch ps b0 d0 b1 d1 yv ov T w')(f:Fr (fun b=>b=ch) w' w'')(hm:Mp w'' ch (T++[x]) (fun _=>-1)):fG a S w pk ch ps b0 d0 b1 d1 yv ov (T++[x]) w'':=by
 have d:=h.kq;have g:=h.jz;have i:=h.pp;have j:=lt_of_some h.cb;have hk:∀b,b<=pk->b≠ch->_=_:=fun b hb hn=>f.block b V (fun c=>hn c)
 exact {
  bl:=⟨f.os.trans h.bl.os,f.tape.trans h.bl.tape,f.output.trans h.bl.output,aT h.bl.size f.size,fun b hb=>(hk b V V).trans (h.bl.block b hb)⟩
  cb:=(hk pk bW V).trans h.cb
  sd:=⟨(hk ps V V).trans h.sd.blk,cH h.sd.r0 (fun b e=>hk b (by have:=(h.l0 b e).2;omega) (by have:=(h.l0 b e).1;omega)),cH h.sd.q0 (fun b e=>hk b (by have:=(h.l1 b e).2;omega) (by have:=(h.l1 b e).1;omega))⟩
  mp:=hm
  kq:=h.kq,jz:=h.jz,pp:=h.pp,l0:=h.l0,l1:=h.l1,ln:=h.ln}
theorem fG.cells (h:fG a S w pk ch ps b0 d0 b1 d1 yv ov T w'):w'.cell? (aq pk 0)=some (aj a.pw)/\w'.cell? (aq pk 1)=some yv/\w'.cell? (aq pk 2)=some ov/\w'.cell? (aq pk 3)=some (.map (some ch))/\(∀i,w'.frozen? (aq pk i)=false)/\pk<w'.heap.size:=by
 have b:=h.cb;refine⟨?_,?_,?_,?_,fun i=>?_,lt_of_some b⟩
 all_goals first|simp[World.cell?,b]|simp[World.frozen?,b]
theorem fG.done {d:Nat->Prop}{f g:Option Addr}{i gc:Nat}(hw:(dX a).J d S.s w)(u:cV (S.s.j0 a) gL)(h:fG a S w pk ch ps b0 d0 b1 d1 (.slice f (S.s.j0 a).Y.length i) (.slice g (S.s.j0 a).G.length gc) (S.s.j0 a).T w')
 (yr:w'.ownsRow (pk+1) 3 1 (.slice f (S.s.j0 a).Y.length i) (S.s.j0 a).Y.length ((S.s.j0 a).Y.map (Value.int .i64)))(gr:w'.ownsRow (pk+1) 3 1 (.slice g (S.s.j0 a).G.length gc) (S.s.j0 a).G.length ((S.s.j0 a).G.map (Value.int .i64)))(hn:∀b,some b=(Value.slice f (S.s.j0 a).Y.length i).ownBlock->some b≠(Value.slice g (S.s.j0 a).G.length gc).ownBlock):
 ∃n,(c7 (dP ⟨pk,ch,ps,.slice f (S.s.j0 a).Y.length i,.slice g (S.s.j0 a).G.length gc⟩ (S.s.j0 a)) ps (.slice b0 S.r.length d0)).J n (gL,S.q) w'/\(∀b,some b=(Value.slice b0 S.r.length d0).ownBlock->¬n b/\w.heap.size<=b)/\(∀b,n b->d b\/w.heap.size<=b):=by
 have F:=h.kq;have m1:=h.jz;have G:=h.pp;have lk:=lt_of_some h.cb;have o:=(dX a).lt hw
 classical
 obtain⟨own,j⟩:∃own:Nat->Nat,own=fun b=>if d b then 1 else if b=pk then 5 else if b=ch then 6 else if some b=(Value.slice f (S.s.j0 a).Y.length i).ownBlock then 9 else if some b=(Value.slice g (S.s.j0 a).G.length gc).ownBlock then 10 else 0:=⟨_,rfl⟩
 have l:∀b,w.heap.size<=b->¬d b:=fun b hb c=>by have:=o b c;omega
 have o1:∀b,d b↔own b=1:=fun b=>by
  rw[j];dsimp only;by_cases c:d b
  ·simp[c]
  ·rw[aG c];refine⟨fun e=>absurd e c,fun e=>?_⟩
   split at e
   ·omega
   ·split at e
    ·omega
    ·split at e
     ·omega
     ·split at e<;>omega
 have ok:own pk=5:=by rw[j];dsimp only;rw[aG (l pk V),aI rfl]
 have v:own ch=6:=by rw[j];dsimp only;rw[aG (l ch V),aG V,aI rfl]
 have x:∀b,some b=(Value.slice f (S.s.j0 a).Y.length i).ownBlock->own b=9:=fun b e=>by have q:=(cn yr b e).1;rw[j];dsimp only;rw[aG (l b V),aG V,aG V,aI e]
 have A:∀b,some b=(Value.slice g (S.s.j0 a).G.length gc).ownBlock->own b=10:=fun b e=>by have q:=(cn gr b e).1;rw[j];dsimp only;rw[aG (l b V),aG V,aG V,aG (fun m=>hn b m e),aI e]
 have ol:∀b,own b≠0->b<w'.heap.size/\(d b\/b=pk\/b=ch\/pk<b):=fun b hb=>by
  rw[j] at hb;dsimp only at hb;by_cases c:d b
  ·have:=o b c;have:=h.bl.size;exact⟨V,aK c⟩
  ·rw[aG c] at hb;by_cases p:b=pk
   ·exact⟨V,aJ (aK p)⟩
   ·rw[aG p] at hb;by_cases m:b=ch
    ·exact⟨V,aJ (aJ (aK m))⟩
    ·rw[aG m] at hb;by_cases s:some b=(Value.slice f (S.s.j0 a).Y.length i).ownBlock
     ·have:=cn yr b s;exact⟨this.2,aJ (aJ (aJ V))⟩
     ·rw[aG s] at hb;by_cases t:some b=(Value.slice g (S.s.j0 a).G.length gc).ownBlock
      ·have:=cn gr b t;exact⟨this.2,aJ (aJ (aJ V))⟩
      ·rw[aG t] at hb;exact absurd rfl hb
 have B:(dP ⟨pk,ch,ps,.slice f (S.s.j0 a).Y.length i,.slice g (S.s.j0 a).G.length gc⟩ (S.s.j0 a)).J (fun b=>own b≠0) gL w':=by
  refine⟨⟨.slice none 0 0,.slice none 0 0,d,own,?_,fun b=>Iff.rfl⟩,u⟩
  exact {
   wd:=(dX a).keep hw h.bl.size (fun b hb=>h.bl.block b (o b hb))
   w1:=o1
   cb:=h.cb
   k1:=ok
   mp:=h.mp
   m1:=v
   tr:=bc _ _ _ _
   gS:=fun b e=>by simp[Value.ownBlock] at e
   er:=bc _ _ _ _
   eo:=fun b e=>by simp[Value.ownBlock] at e
   yr:=eT yr (fun _ _=>aZ _)
   ia:=x
   gr:=eT gr (fun _ _=>aZ _)
   go:=A
   lt:=fun b hb=>(ol b hb).1}
 have C:¬own ps≠0:=fun c=>by
  rcases(ol ps c).2 with q|q|q|q
  ·exact l ps V q
  ·omega
  ·omega
  ·omega
 have n1:∀k,ch<k->k<pk->¬own k≠0:=fun k k1 H c=>by
  rcases(ol k c).2 with q|q|q|q
  ·exact l k V q
  ·omega
  ·omega
  ·omega
 have D:∀k,some k=(Value.slice b0 S.r.length d0).ownBlock->k≠ps:=fun k e E=>by obtain⟨I,hc⟩:=e5 h.sd.r0 k e;rw[E,h.sd.blk] at hc;simp at hc
 refine⟨fun b=>own b≠0\/b=ps\/some b=(Value.slice b1 S.q.length d1).ownBlock,⟨fun b=>own b≠0,b1,d1,B,h.sd.blk,h.sd.q0,fun k hk=>aK hk,aJ (aK rfl),C,fun k e=>⟨aJ (aJ e),n1 k (h.l1 k e).1 (h.l1 k e).2⟩,fun k hk=>?_⟩,fun b e=>⟨fun c=>?_,by have:=(h.l0 b e).1;omega⟩,fun b c=>?_⟩
 ·rcases hk with c|c|c
  ·exact(ol k c).1
  ·omega
  ·have:=(h.l1 k c).2;omega
 ·rcases c with c|c|c
  ·exact n1 b (h.l0 b e).1 (h.l0 b e).2 c
  ·exact D b e c
  ·exact h.ln b e c
 ·rcases c with c|c|c
  ·rcases(ol b c).2 with q|q|q|q
   ·exact aK q
   ·exact aJ V
   ·exact aJ V
   ·exact aJ V
  ·exact aJ V
  ·have:=(h.l1 b c).1;exact aJ V
end
theorem F6 {a:Wc}{Y:Nat->Prop}{S:cq}{w:ax}{a0 a1:Option Addr}{k0 k1:Nat}(hw:(dX a).J Y S.s w)(hs:fu w a.sd a0 k0 a1 k1 S.r S.q)(h0:S.r.length<=90000)(br:S.q.length<=90000):
 Calls prog 75 #[aj a.pw] w fun e w'=>∃(c:e8)(ar:Option Addr)(aF:Nat)(o:Nat->Prop),e=.returned (aj c.pk)/\(c7 (dP c (S.s.j0 a)) c.bs (.slice ar S.r.length aF)).J o (gL,S.q) w'/\w'.ownsRow 0 103 2 (.slice ar S.r.length aF) S.r.length (ev S.r)/\(∀b,some b=(Value.slice ar S.r.length aF).ownBlock->¬o b/\w.heap.size<=b)/\(∀b,o b->Y b\/w.heap.size<=b)/\aw w w':=by
 have cP:=@run_makeMap prog;obtain⟨c0,_,c2,_,Q,_⟩:=jO hw;have L:=(kI hw).1;have n1:=L.hN';have ck:=L.hO;have cl:=L.hg;have n4:=L.hy;have aR:=hide (cV.start n1 ck n4 cl)
 have C:ay ((dX a).J Y S.s w/\At w a.p a.q a.N a.O S.s.y S.s.g S.s.ws):=⟨hw,L⟩
 have bs:=lt_of_some hs.blk;have ab:aw w (w.alloc (.map #[] 0)):=(aH _ w).alloc bW _;have cm:=yH (w.alloc (.map #[] 0)) a.sd a0 a1 k0 k1 S.r S.q ⟨(ab.block _ bs).trans hs.blk,cH hs.r0 (fun b e=>ab.block b (cn hs.r0 b e).2),cH hs.q0 (fun b e=>ab.block b (cn hs.q0 b e).2)⟩ h0 br;have co:ay (Mp (w.alloc (.map #[] 0)) w.heap.size [] (fun _=>-1)):=⟨_,World.ownsMap_made w prog 3 (plainElem (H:=Unit) prog 3),fun _=>rfl,fun a ha=>by simp at ha⟩
 clear hw hs L ab bs h0 br;go_enter func75,ntmps75;go_wp2_with fail;refine cm.mono ?_;rintro e w1 ⟨ps,l,m,b1,E,rfl,cp,v,g0,g1,cr,aV⟩
 have cs:=aV.size;simp only [World.size_alloc] at cs cp g0 g1;have ad:ay (fG a S w w1.heap.size w.heap.size ps l m b1 E (.slice none 0 0) (.slice none 0 0) [] (w1.alloc (.cells #[.pointer (some ⟨a.pw,0,none⟩),.slice none 0 0,.slice none 0 0,.map (some w.heap.size),.pointer (some ⟨ps,0,none⟩),.slice none 0 0,.slice none 0 0] 140))/\(w1.alloc (.cells #[.pointer (some ⟨a.pw,0,none⟩),.slice none 0 0,.slice none 0 0,.map (some w.heap.size),.pointer (some ⟨ps,0,none⟩),.slice none 0 0,.slice none 0 0] 140)).heap.size=w1.heap.size+1):=by
  have R:=au w1 (.cells #[.pointer (some ⟨a.pw,0,none⟩),.slice none 0 0,.slice none 0 0,.map (some w.heap.size),.pointer (some ⟨ps,0,none⟩),.slice none 0 0,.slice none 0 0] 140)
  have ct:=((aH _ w).alloc bW (.map #[] 0)).trans (aV.mono Z)
  refine⟨{bl:=ct.trans (R.mono V),cb:=aN _ _,sd:=⟨(R.block _ (lt_of_some v.blk)).trans v.blk,cH v.r0 (fun b e=>R.block b (cn v.r0 b e).2),cH v.q0 (fun b e=>R.block b (cn v.q0 b e).2)⟩,mp:=(co.out.same (aV.block _ Z)).same (R.block _ V),kq:=rfl,jz:=V,pp:=lt_of_some v.blk,l0:=fun k e=>⟨?_,(cn v.r0 k e).2⟩,l1:=fun k e=>⟨?_,(cn v.q0 k e).2⟩,ln:=cr},Z⟩
  ·cases hb:l with
   |none=>rw[hb] at e;simp[Value.ownBlock] at e
   |some z=>
    rw[hb] at e;have cu:k=z.block:=by simpa[Value.ownBlock] using e
    have:=g0 z hb;omega
  ·cases hb:b1 with
   |none=>rw[hb] at e;simp[Value.ownBlock] at e
   |some z=>
    rw[hb] at e;have cu:k=z.block:=by simpa[Value.ownBlock] using e
    have:=g1 z hb;omega
 have M:=(ad.out.1.bl.cell (p:=aq a.pw 0) Q).trans c0;have i:=mM _ (C.out.2.below ad.out.1.bl bW)
 go_wp2_with fail;refine i.mono ?_;rintro e bt ⟨rfl,bx⟩
 have ag:ay (fG a S w w1.heap.size w.heap.size ps l m b1 E (.slice none 0 0) (.slice none 0 0) [] bt/\w1.heap.size+1<=bt.heap.size):=⟨ad.out.1.below bx,by have:=bx.size;have:=ad.out.2;omega⟩
 have M:=(ag.out.1.bl.cell (p:=aq a.pw 0) Q).trans c0;have i:=kD _ (C.out.2.below ag.out.1.bl bW)
 go_wp2_with fail;refine i.mono ?_;rintro e bY ⟨rfl,bZ⟩
 have U:ay (fG a S w w1.heap.size w.heap.size ps l m b1 E (.slice none 0 0) (.slice none 0 0) [] bY/\w1.heap.size+1<=bY.heap.size):=⟨ag.out.1.below bZ,by have:=bZ.size;have:=ag.out.2;omega⟩
 have M:=(U.out.1.bl.cell (p:=aq a.pw 0) Q).trans c0;have i:=F0 _ (C.out.2.below U.out.1.bl bW)
 go_wp2_with fail;refine i.mono ?_;rintro e cv ⟨v1,v2,rfl,a2,bb,cw,cx⟩
 obtain⟨y1,m1,rfl⟩:=eE a2;obtain⟨d,g,rfl⟩:=eE bb;have A:=jr (U.out.1.below cx) (eT a2 (fun b e=>aT U.out.2 (cn a2 b e).1)) (eT bb (fun b e=>aT U.out.2 (cn bb b e).1)) cw;have ai:ay ((ei a.N S.s.y S.s.g S.s.ws).length<=2000/\(dD a.N S.s.y S.s.g S.s.ws).length<=2000/\(∀x∈ei a.N S.s.y S.s.g S.s.ws,0<=x/\x<=2000)/\∀x∈dD a.N S.s.y S.s.g S.s.ws,0<=x/\x<=2000):=⟨iL _ _,iL _ _,fun x s=>by have:=n5 x s;omega,fun x s=>by have:=qb x s;omega⟩
 have b0:w1.heap.size<w1.heap.size+1/\a.pw<w1.heap.size+1/\a.p<w1.heap.size+1/\a.q<w1.heap.size+1:=by have q1:=C.out.2.eL;have al:=C.out.2.eM;omega
 obtain⟨u0,bd,be,bg,N,bi⟩:=A.out.1.cells;have M:=(A.out.1.bl.cell (p:=aq a.pw 0) Q).trans c0;have bn:=N 1;have i:=yG cv (C.out.2.below A.out.1.bl bW) u0 M (ei a.N S.s.y S.s.g S.s.ws) y1 m1 (w1.heap.size+1) (0+S.s.y) (by have:=ai.out.1;omega) (fun x s=>by have:=ai.out.2.2.1 x s;omega) A.out.2.1 b0;rw[Int.zero_add] at i;have cy:ay (eb (fun x=>decide ((S.s.y:Int)<=x+pf (ld a.N S.s.y S.s.g S.s.ws x))) (ei a.N S.s.y S.s.g S.s.ws)=(S.s.j0 a).Y):=rfl;rw[cy.out] at i;go_wp2_with fail;refine i.mono ?_;rintro r B ⟨rfl,cz,b2⟩
 have cA:∀b,some b=(Value.slice y1 (ei a.N S.s.y S.s.g S.s.ws).length m1).ownBlock->w1.heap.size<b:=fun b e=>(cn A.out.2.1 b e).1;have G:ay (fG a S w w1.heap.size w.heap.size ps l m b1 E (.slice none 0 0) (.slice none 0 0) [] B/\B.ownsRow (w1.heap.size+1) 3 1 (.slice y1 (S.s.j0 a).Y.length m1) (S.s.j0 a).Y.length ((S.s.j0 a).Y.map (Value.int .i64))/\B.ownsRow (w1.heap.size+1) 3 1 (.slice d (dD a.N S.s.y S.s.g S.s.ws).length g) (dD a.N S.s.y S.s.g S.s.ws).length ((dD a.N S.s.y S.s.g S.s.ws).map (Value.int .i64))/\(∀n b3 b,some b=(Value.slice y1 n m1).ownBlock->some b≠(Value.slice d b3 g).ownBlock)):=by
  refine⟨A.out.1.fr b2 cA,cz,hQ A.out.2.2.1 b2 (fun b e I=>A.out.2.2.2 b I e),fun n b3 b e=>?_⟩
  have q:=A.out.2.2.2 b (by
   cases y1 with
   |none=>simp[Value.ownBlock] at e
   |some z=>simpa[Value.ownBlock] using e)
  cases d with
  |none=>simp[Value.ownBlock]
  |some z=>simpa[Value.ownBlock] using q
 obtain⟨u0,bd,be,bg,N,bi⟩:=G.out.1.cells;have bn:=N 1;have J:ay (fG a S w w1.heap.size w.heap.size ps l m b1 E (.slice y1 (S.s.j0 a).Y.length m1) (.slice none 0 0) [] (B.setCell ⟨w1.heap.size,1,none⟩ (.slice y1 (S.s.j0 a).Y.length m1))/\(B.setCell ⟨w1.heap.size,1,none⟩ (.slice y1 (S.s.j0 a).Y.length m1)).ownsRow (w1.heap.size+1) 3 1 (.slice y1 (S.s.j0 a).Y.length m1) (S.s.j0 a).Y.length ((S.s.j0 a).Y.map (Value.int .i64))/\(B.setCell ⟨w1.heap.size,1,none⟩ (.slice y1 (S.s.j0 a).Y.length m1)).ownsRow (w1.heap.size+1) 3 1 (.slice d (dD a.N S.s.y S.s.g S.s.ws).length g) (dD a.N S.s.y S.s.g S.s.ws).length ((dD a.N S.s.y S.s.g S.s.ws).map (Value.int .i64))):=by have f:Fr (fun b=>b=w1.heap.size) B (B.setCell ⟨w1.heap.size,1,none⟩ (.slice y1 (S.s.j0 a).Y.length m1)):=(Fr.refl _ B).set _ 1 _ rfl;exact⟨G.out.1.set1 _,hQ G.out.2.1 f (fun b e I=>by have:=(cn G.out.2.1 b e).1;omega),hQ G.out.2.2.1 f (fun b e I=>by have:=(cn G.out.2.2.1 b e).1;omega)⟩
 have b4:=hide G.out.2.2.2;obtain⟨s0,s1,s2,am,s4,s5⟩:=J.out.1.cells;have M:=(J.out.1.bl.cell (p:=aq a.pw 0) Q).trans c0;have s6:=s4 2;have i:=yG _ (C.out.2.below J.out.1.bl bW) s0 M (dD a.N S.s.y S.s.g S.s.ws) d g (w1.heap.size+1) ((a.N:Int)+S.s.g) (by have:=ai.out.2.1;omega) (fun x s=>by have:=ai.out.2.2.2 x s;omega) J.out.2.2 b0;have cB:ay (eb (fun x=>decide ((a.N:Int)+S.s.g<=x+pf (ld a.N S.s.y S.s.g S.s.ws x))) (dD a.N S.s.y S.s.g S.s.ws)=(S.s.j0 a).G):=rfl;rw[cB.out] at i;go_wp2_with fail;refine i.mono ?_;rintro r O ⟨rfl,cC,b5⟩
 have cD:∀b,some b=(Value.slice d (dD a.N S.s.y S.s.g S.s.ws).length g).ownBlock->w1.heap.size<b:=fun b e=>(cn J.out.2.2 b e).1;have K:=g6 (J.out.1.fr b5 cD) (hQ J.out.2.1 b5 (fun b e I=>b4.out _ _ b e I)) cC;obtain⟨u0,bd,be,bg,N,bi⟩:=K.out.1.cells;have bn:=N 2;have t:ay (fG a S w w1.heap.size w.heap.size ps l m b1 E (.slice y1 (S.s.j0 a).Y.length m1) (.slice d (S.s.j0 a).G.length g) [] (O.setCell ⟨w1.heap.size,2,none⟩ (.slice d (S.s.j0 a).G.length g))/\(O.setCell ⟨w1.heap.size,2,none⟩ (.slice d (S.s.j0 a).G.length g)).ownsRow (w1.heap.size+1) 3 1 (.slice y1 (S.s.j0 a).Y.length m1) (S.s.j0 a).Y.length ((S.s.j0 a).Y.map (Value.int .i64))/\(O.setCell ⟨w1.heap.size,2,none⟩ (.slice d (S.s.j0 a).G.length g)).ownsRow (w1.heap.size+1) 3 1 (.slice d (S.s.j0 a).G.length g) (S.s.j0 a).G.length ((S.s.j0 a).G.map (Value.int .i64))):=by have f:Fr (fun b=>b=w1.heap.size) O (O.setCell ⟨w1.heap.size,2,none⟩ (.slice d (S.s.j0 a).G.length g)):=(Fr.refl _ O).set _ 2 _ rfl;exact⟨K.out.1.set2 _,hQ K.out.2.1 f (fun b e I=>by have:=(cn K.out.2.1 b e).1;omega),hQ K.out.2.2 f (fun b e I=>by have:=(cn K.out.2.2 b e).1;omega)⟩
 clear K u0 bd bg N;obtain⟨s0,s1,s2,am,s4,s5⟩:=t.out.1.cells;have an:ay ((S.s.j0 a).T=(S.s.j0 a).G++(S.s.j0 a).Y/\(S.s.j0 a).T.length=(S.s.j0 a).G.length+(S.s.j0 a).Y.length/\_/\_):=⟨rfl,by unfold b9.T;rw[aX],aR.out.tl,aR.out.ps⟩
 have b6:=an.out.2.1;have cQ:=an.out.2.2.1;have i:=F5 _ w1.heap.size (S.s.j0 a).G (S.s.j0 a).Y d y1 g m1 s1 s2 (eT t.out.2.1 (fun _ _=>aZ _)) (eT t.out.2.2 (fun _ _=>aZ _)) V;rw[<-b6,<-an.out.1] at i;clear s0 s1 s2 am s4 b6;go_wp2_with fail;refine i.mono ?_;clear i s5 be bi bn;rintro e W ⟨cE,cF,rfl,bo,ao⟩
 have F:ay (_/\_/\W.ownsRow (w1.heap.size+1) 3 1 (.slice d (S.s.j0 a).G.length g) (S.s.j0 a).G.length ((S.s.j0 a).G.map (Value.int .i64))/\W.ownsRow (w1.heap.size+1) 3 1 (.slice cE (S.s.j0 a).T.length cF) (S.s.j0 a).T.length ((S.s.j0 a).T.map (Value.int .i64))):=⟨t.out.1.below ao,cH t.out.2.1 (fun b e=>ao.block b (cn t.out.2.1 b e).2),cH t.out.2.2 (fun b e=>ao.block b (cn t.out.2.2 b e).2),eT bo (fun b e=>by have:=(cn bo b e).1;have q:=t.out.1.cells.2.2.2.2.2;omega)⟩
 clear bo ao t;go_wp2_with fail
 go_loopw [66] (fun iv wr=>∃j:Nat,j<=(S.s.j0 a).T.length/\iv=ah j/\ay (fG a S w w1.heap.size w.heap.size ps l m b1 E (.slice y1 (S.s.j0 a).Y.length m1) (.slice d (S.s.j0 a).G.length g) ((S.s.j0 a).T.take j) wr/\Fr (fun b=>b=w.heap.size) W wr)) (fun iv _=>(S.s.j0 a).T.length-(intOf iv).toNat)
 case atStart=>exact⟨0,aZ _,rfl,F.out.1,Fr.refl _ _⟩
 ·
   obtain⟨j,cR,rfl,u⟩:=hrel;by_cases ap:j<(S.s.j0 a).T.length
   ·obtain⟨X,cG,b7,cI,hc⟩:=gH F.out.2.2.2 V;have cJ:w1.heap.size<X/\X<W.heap.size:=by
     have:=cn F.out.2.2.2 X (by rw[b7];rfl)
     omega
    have b8:=(aP (a:=⟨X,cG+j,none⟩) (u.out.2.block X cJ.2 (fun e=>by have:=u.out.1.jz;have:=u.out.1.pp;omega))).trans (hc j ap)
    have hm:(S.s.j0 a).T.getD j 0∈(S.s.j0 a).T:=by rw[aE,aL ap];exact a6 ap
    have s:=an.out.2.2.2 _ hm;have ca:=hide (gx _ j ap 0)
    generalize (S.s.j0 a).T.getD j 0=x at b8 s ca;obtain⟨D,o1,cc,cd⟩:=u.out.1.mp;obtain⟨s0,s1,s2,am,s4,s5⟩:=u.out.1.cells;have ce:=je (a:=x) s.1 V;have hv:=mX (-1) aa;have ht:((S.s.j0 a).T.take j).length=j:=by rw[bw];omega
    have aB:=g6 o1 cc cd;have j0:(0:Int)<=(j:Int):=V;have cS:(j:Int)<((S.s.j0 a).T.length:Int):=V;clear cc cd hc cI hm s0 s1 s2 s4;subst b7;go_wp2_with (first
     |(at_mapUpdate;refine wpList_mapUpdate_own _ rfl _ _ _ 127 rfl 3 3 iN Tryz.underlying127 (plainElem (H:=Unit) prog 3) w.heap.size ((S.s.j0 a).T.take j).length D rfl o1 (by unfold maxLen;omega) _ _ _ rfl rfl ce _ [] hv ?_;intro bp cf cg)
     |go_in)
    have cK:ay (fG a S w w1.heap.size w.heap.size ps l m b1 E (.slice y1 (S.s.j0 a).Y.length m1) (.slice d (S.s.j0 a).G.length g) ((S.s.j0 a).T.take (j+1)) bp/\Fr (fun b=>b=w.heap.size) W bp):=by
     have ch:Fr (fun b=>b=w.heap.size) wr bp:=(Fr.refl _ wr).grown cg (fun b e=>aK (by cases e;rfl))
     have cL:=Mp.add (f:=fun _=>-1) aB.out.1 aB.out.2.1 aB.out.2.2 rfl rfl cf;have ci:=u.out.1.add ch cL;rw[<-ca.out] at ci;exact⟨ci,u.out.2.trans ch (fun b e=>aK e)⟩
    clear u aB cf cg o1 b8 am s5 ce hv;go_roundw;exact⟨j+1,V,af,cK⟩
    simp[intOf];omega
   ·obtain rfl:j=(S.s.j0 a).T.length:=V;have cM:ay (∃(o:Nat->Prop),(c7 (dP ⟨w1.heap.size,w.heap.size,ps,.slice y1 (S.s.j0 a).Y.length m1,.slice d (S.s.j0 a).G.length g⟩ (S.s.j0 a)) ps (.slice l S.r.length m)).J o (gL,S.q) wr/\wr.ownsRow 0 103 2 (.slice l S.r.length m) S.r.length (ev S.r)/\(∀b,some b=(Value.slice l S.r.length m).ownBlock->¬o b/\w.heap.size<=b)/\(∀b,o b->Y b\/w.heap.size<=b)/\aw w wr):=by
     obtain⟨P,cj⟩:=u.out;rw[bu] at P;have ne:∀b,w1.heap.size+1<=b->¬b=w.heap.size:=fun b hb e=>by have:=P.jz;have:=P.pp;omega
     obtain⟨o,q1,al,q3⟩:=P.done C.out.1 aR.out (hQ F.out.2.1 cj (fun b e=>ne b (cn F.out.2.1 b e).1)) (hQ F.out.2.2.1 cj (fun b e=>ne b (cn F.out.2.2.1 b e).1)) (fun b e=>b4.out _ _ b e)
     exact⟨o,q1,P.sd.r0,al,q3,P.bl⟩
    clear u F;go_wp2_with fail;go_ret;obtain⟨o,q1,al,q3,cN,cO⟩:=cM.out;exact⟨⟨w1.heap.size,w.heap.size,ps,.slice y1 (S.s.j0 a).Y.length m1,.slice d (S.s.j0 a).G.length g⟩,l,m,o,rfl,q1,al,q3,cN,cO⟩
def gn (g:Int->Nat)(l:List Int):Nat:=(l.map g).sum
theorem tL (g:Int->Nat)(a:Int)(l:List Int):gn g (a::l)=g a+gn g l:=by simp[gn]
theorem F7 (g:Int->Nat)(l m:List Int):gn g (l++m)=gn g l+gn g m:=by simp[gn]
open Go.RowKit W
section
variable {N O y g:Nat}{ws:List Int}{Y G:List Int}
theorem m5 {x i:Int}(h:ej N y g ws x i=0):tB N y g ws x=true/\pk (ld N y g ws (cg x))≠5/\0<=i/\i<iw N y g (cg x) (pf (ld N y g ws (cg x))):=by
 unfold ej at h;by_cases ht:tB N y g ws x=true
 ·rw[aI ht] at h;by_cases b:pk (ld N y g ws (cg x))=5
  ·rw[aI b] at h;omega
  ·rw[aG b] at h;by_cases hi:i<0\/iw N y g (cg x) (pf (ld N y g ws (cg x)))<=i
   ·rw[aI hi] at h;omega
   ·exact⟨ht,b,V,V⟩
 ·rw[aG ht] at h;omega
theorem yJ {x:Int}(h:d5 N y g ws Y G)(hN:N<=256)(hy:y<=N)(hO:O<=1024)(hg:g<=O)(ht:tB N y g ws x=true):cY x=true/\(cg x∈Y\/cg x∈G):=by obtain⟨b,c⟩:=h.lists hN hy hO hg;unfold tB at ht;rw[b,c] at ht;simpa using ht
theorem d5.ge (h:d5 N y g ws Y G)(hl:ws.length=N+O)(hN:N<=256)(hy:y<=N)(hO:O<=1024)(hg:g<=O)(x i z:Int):d5 N y g (Proofs.YtpkjkjhanlbcoaaGreat.ge N y g ws x i z) Y G:=by
 unfold Proofs.YtpkjkjhanlbcoaaGreat.ge;by_cases h0:ej N y g ws x i=0
 ·rw[aI h0];obtain⟨ht,_,c,b⟩:=m5 h0;obtain⟨_,hv⟩:=yJ h hN hy hO hg ht;rw[h.stands hy hv] at b;split
  ·exact(h.set hl hy hg hv c b).1
  ·exact h
 ·rw[aG h0];exact h
theorem F8 (x i z c:Int)(M:List Int):(stM N y g ws x i z c M).length<=M.length+1:=by
 unfold stM;split
 ·unfold k_;split
  ·exact CW _ _
  ·omega
 ·omega
end
open Go.RowKit W oS
structure ih (N y g:Nat)(ws Y G rs:List Int):Prop where
 full:d5 N y g ws Y G
 rt:∀x∈rs,cY x=true->cg x∈Y\/cg x∈G
 fd:∀v,(v∈Y\/v∈G)->∀i,0<=i->i<pf (ld N y g ws v)->cY (ld N y g ws (v+1+i))=true->cg (ld N y g ws (v+1+i))∈Y\/cg (ld N y g ws (v+1+i))∈G
section
variable {N O y g:Nat}{ws Y G rs:List Int}
theorem m6 (n:Nat)(h:n<1000000):cY (ew 3 n)=true/\cg (ew 3 n)=n:=by
 have b:=nF 3 n (nG (n:Int) V V)
 exact⟨b.1,b.2 rfl⟩
theorem ih.root (h:ih N y g ws Y G rs)(k:Nat)(x:Int)(b:cY x=true->cg x∈Y\/cg x∈G):ih N y g ws Y G (rs.set k x):=
 ⟨h.full,fun z hz=>by
  rcases List.mem_or_eq_of_mem_set hz with hz|hz
  ·exact h.rt z hz
  ·rw[hz];exact b,h.fd⟩
theorem ih.at (h:ih N y g ws Y G rs)(k:Nat)(hk:k<rs.length)(ha:cY (rs.getD k 0)=true):cg (rs.getD k 0)∈Y\/cg (rs.getD k 0)∈G:=
 h.rt _ (by rw[aE,aL hk];exact a6 hk) ha
theorem m7 (h:d5 N y g ws Y G){v i:Int}(hv:v∈Y)(b:0<=i)(c:i<pf (ld N y g ws v)):0<=v+1+i/\v+1+i<y:=by have d:=h.ty.mem v hv;omega
theorem m8 (h:d5 N y g ws Y G){v i:Int}(hv:v∈G)(b:0<=i)(c:i<pf (ld N y g ws v)):(N:Int)<=v+1+i/\v+1+i<(N:Int)+g:=by have d:=h.ec.mem v hv;omega
theorem jS (h:d5 N y g ws Y G){v i:Int}(hv:v∈Y\/v∈G)(b:0<=i)(c:i<pf (ld N y g ws v)):dd N y g (v+1+i)=true:=by
 rcases hv with hv|hv
 ·have:=m7 h hv b c;exact iM this.1 this.2
 ·have:=m8 h hv b c;exact hZ this.1 this.2
theorem ih.make (h:ih N y g ws Y G rs)(hl:ws.length=N+O){k f:Int}(hm:iK N y k f=true):ih N (iW N y k f) g (fq N y k f ws) (Y++[(y:Int)]) G rs:=by
 have l:=h.full.make hl hm;obtain⟨m,q⟩:=oQ hm;have s:=iU k f m;have n:iW N y k f=y+1+f.toNat:=by unfold iW;rw[aI hm]
 have o:fq N y k f ws=fC ws y (hw k f) f.toNat:=by unfold fq;rw[aI hm]
 have hlt:y+f.toNat<ws.length:=V;rw[n,o] at l⊢;have mem:∀{z:Int},(z∈Y\/z∈G)->(z∈Y++[(y:Int)]\/z∈G):=fun hz=>hz.imp (fun c=>aY _ c) id;refine⟨l,fun x p ha=>mem (h.rt x p ha),fun v hv i e b ha=>?_⟩
 rcases hv with hv|hv
 ·rcases List.mem_append.1 hv with hv|hv
  ·have hi:=h.full.ix v hv;have j:ld N (y+1+f.toNat) g (fC ws y (hw k f) f.toNat) v=ld N y g ws v:=by exact sk
   rw[j] at b;have hb:=m7 h.full hv e b;have d:ld N (y+1+f.toNat) g (fC ws y (hw k f) f.toNat) (v+1+i)=ld N y g ws (v+1+i):=by rw[dW (iM hb.1 V),dW (iM hb.1 hb.2),k8 _ _ _ _ _ hlt,aG V,aG V]
   rw[d] at ha⊢;exact mem (h.fd v (aK hv) i e b ha)
  ·simp at hv;subst hv;rw[(wG _ _ hlt),(pU k f m).2.1] at b;have d:ld N (y+1+f.toNat) g (fC ws y (hw k f) f.toNat) ((y:Int)+1+i)=2:=by rw[dW (iM V V),k8 _ _ _ _ _ hlt,aG V,aI V]
   rw[d] at ha;exact absurd ha aa
 ·have hi:=h.full.io v hv;have j:ld N (y+1+f.toNat) g (fC ws y (hw k f) f.toNat) v=ld N y g ws v:=by exact p5
  rw[j] at b;have hb:=m8 h.full hv e b;have d:ld N (y+1+f.toNat) g (fC ws y (hw k f) f.toNat) (v+1+i)=ld N y g ws (v+1+i):=by exact yF
  rw[d] at ha⊢;exact mem (h.fd v (aJ hv) i e b ha)
theorem ih.set (h:ih N y g ws Y G rs)(hl:ws.length=N+O)(hy:y<=N)(hg:g<=O){v i z:Int}(hv:v∈Y\/v∈G)(f:0<=i)(k:i<pf (ld N y g ws v))(hz:cY z=true->cg z∈Y\/cg z∈G):ih N y g (ws.set (v+1+i).toNat z) Y G rs:=by
 obtain⟨l,hk⟩:=h.full.set hl hy hg hv f k;have hb:=ju (jS h.full hv f k) hy hg;refine⟨l,h.rt,fun b c j j0 d ha=>?_⟩
 rw[hk b c] at d;have hi:=jS h.full c j0 d;have m:ld N y g (ws.set (v+1+i).toNat z) (b+1+j)=if(v+1+i).toNat=(b+1+j).toNat then z else ld N y g ws (b+1+j):=by rw[dW hi,dW hi,j_ _ _ _ _ V]
 rw[m] at ha⊢;split at ha
 ·rename_i e;rw[aI e];exact hz ha
 ·rename_i e;rw[aG e];exact h.fd b c j j0 d ha
theorem ih.tb (h:ih N y g ws Y G rs)(hN:N<=256)(hy:y<=N)(hO:O<=1024)(hg:g<=O)(k:Nat)(hk:k<rs.length):tB N y g ws (rs.getD k 0)=cY (rs.getD k 0):=by
 obtain⟨b,c⟩:=h.full.lists hN hy hO hg;unfold tB;rw[b,c];cases ha:cY _
 ·rfl
 ·have:=h.at k hk ha;simpa using this
end
end Go.Proofs.YtpkjkjhanlbcoaaGreat
