import Derived.Test.YtpkjkjhanlbcoaaGreatJ26
namespace Go.Proofs.YtpkjkjhanlbcoaaGreat
set_option maxRecDepth 100000
set_option maxHeartbeats 4000000
open Tryz
open Go.RowKit W Kp cf
theorem zt {P:Prop}(h:P:=by
 clear hC g0 g1 hb2;go_wp2_with fail;refine P2.mono ?_;clear P2;rintro e w3 ⟨F2,rfl,j2,t2⟩
 have HF:ay ((cw a hp).J F2 S2 w3/\b8 F w F2 w3):=⟨j2,t2⟩
 clear j2 t2 k0;go_wp2_with fail;go_ret;exact⟨F2,rfl,HF.out.1,HF.out.2⟩):P:=h
theorem zu {P:Prop}(h:P:=by
 go_enter func127,ntmps127;go_wp2_with fail;refine P.mono ?_;rintro e w1 ⟨rfl,hb⟩
 go_wp2;go_ret2;exact⟨rfl,hb⟩):P:=h
def cq.kx (a:Wc)(S:cq)(x:Int):Int:=if tB a.N S.s.y S.s.g S.s.ws x=true then pk (ld a.N S.s.y S.s.g S.s.ws (cg x)) else 0
def cq.fx (a:Wc)(S:cq)(x:Int):Int:=if tB a.N S.s.y S.s.g S.s.ws x=true then pf (ld a.N S.s.y S.s.g S.s.ws (cg x)) else 0
def cq.ex (a:Wc)(S:cq)(x:Int):Int:=if tB a.N S.s.y S.s.g S.s.ws x=true then pc (ld a.N S.s.y S.s.g S.s.ws (cg x)) else 2
def cq.room (a:Wc)(S:cq)(m:Int):Int×cq:=if m<=(a.N:Int)-S.s.y then(0,S) else if(S.s.y:Int)<=(a.O:Int)-S.s.g then(S.code a,S.cut a) else(S.ig a,S.dy a)
def cq.put (a:Wc)(S:cq)(kd:Int)(rl:List Nat):cq:=⟨{S.s with y:=S.s.y+1+rl.length,ws:=iA S.s.rs S.s.y (fq a.N S.s.y kd rl.length S.s.ws) rl rl.length},S.r,S.q⟩
def cq.bZ (a:Wc)(S:cq)(kd:Int)(rl:List Nat):Int×Int×cq:=if(S.room a (1+rl.length)).1=0 then(ew 3 (S.room a (1+rl.length)).2.s.y,0,(S.room a (1+rl.length)).2.put a kd rl) else(0,(S.room a (1+rl.length)).1,(S.room a (1+rl.length)).2)
def cq.pop (a:Wc)(S:cq)(x:Int):Int×Int×cq:=
 if S.kx a x=5 then(if dO x S.q<S.q.length then((S.q.getD (dO x S.q) (0,0)).2,0,⟨S.s,S.r,S.q.take (dO x S.q)++S.q.drop (dO x S.q+1)⟩) else(0,4,S)) else(0,2,S)
def cq.len (a:Wc)(S:cq)(x:Int):Int×Int×cq:=if S.ex a x=0/\S.kx a x≠5 then(ew 1 (S.fx a x),vc 1 (S.fx a x),S) else(0,2,S)
def cq.rt (a:Wc)(S:cq)(k:Int)(A B:Nat)(I n:Int):Int×Int×cq:=
 if k=1 then(ew 1 n,vc 1 n,S) else if k=3 then(S.s.rs.getD A 0,0,S) else if k=4 then S.bZ a 1 [A,B] else if k=5 then S.bZ a 2 (List.replicate n.toNat A)
 else if k=6 then S.bZ a 3 [A,B] else if k=7 then S.bZ a 4 [A,B] else if k=8 then S.bZ a 5 [] else if k=10 then S.pop a (S.s.rs.getD A 0)
 else if k=11 then((if ej a.N S.s.y S.s.g S.s.ws (S.s.rs.getD A 0) I=0 then ld a.N S.s.y S.s.g S.s.ws (cg (S.s.rs.getD A 0)+1+I) else 0),ej a.N S.s.y S.s.g S.s.ws (S.s.rs.getD A 0) I,S)
 else if k=13 then S.len a (S.s.rs.getD A 0) else if k=14 then(if S.s.rs.getD A 0=S.s.rs.getD B 0 then ew 1 1 else ew 1 0,0,S) else(2,0,S)
def cq.reg (a:Wc)(S:cq)(t g:Int):Int×cq:=
 if S.ex a t=0 then(if S.kx a g=5 then(if 24<=S.r.length+S.q.length then(3,S) else(0,⟨S.s,S.r++[(g,t)],S.q⟩)) else(2,S)) else(S.ex a t,S)
def cq.set (a:Wc)(S:cq)(x i z:Int):cq:=⟨{S.s with ws:=ge a.N S.s.y S.s.g S.s.ws x i z,M:=stM a.N S.s.y S.s.g S.s.ws x i z (dF a.O) S.s.M},S.r,S.q⟩
def cq.st (S:cq)(R:Nat)(x:Int):cq:=⟨{S.s with rs:=S.s.rs.set R x},S.r,S.q⟩
def cq.hd (a:Wc)(S:cq)(k R A B I n:Int):Int×cq:=
 if dJ k R A B n=0 then(if k=9 then S.reg a (S.s.rs.getD A.toNat 0) (S.s.rs.getD B.toNat 0) else if k=12 then(ej a.N S.s.y S.s.g S.s.ws (S.s.rs.getD A.toNat 0) I,S.set a (S.s.rs.getD A.toNat 0) I (S.s.rs.getD B.toNat 0))
  else if k=15 then(S.code a,S.cut a) else if k=16 then(S.ig a,S.dy a)
  else if(S.rt a k A.toNat B.toNat I n).2.1=0 then(0,(S.rt a k A.toNat B.toNat I n).2.2.st R.toNat (S.rt a k A.toNat B.toNat I n).1) else((S.rt a k A.toNat B.toNat I n).2.1,(S.rt a k A.toNat B.toNat I n).2.2))
 else(dJ k R A B n,S)
theorem zv (k:ce):∀(l:List Int)(s:cj),(l.foldl k.eF s).rs=s.rs
 |[],_=>rfl
 |x::l,s=>by rw[a8,zv k l];unfold ce.eF;split<;>rfl
theorem zw (k:ce):∀(l:List Int)(s:cj),(l.foldl k.gA s).rs=s.rs
 |[],_=>rfl
 |x::l,s=>by rw[a8,zw k l];rfl
section
variable {a:Wc}{S:cq}{Y G:List Int}
theorem el.GA (h:el a S.s Y G)(hb:cI a S.s):cI a (S.cut a).s:=by
 unfold cq.cut;cases hf:S.full a
 ·have hr:S.s.y<=a.O-S.s.g:=by unfold cq.full at hf;have:=of_decide_eq_false hf;omega
  obtain⟨K,D,c⟩:=qL h hb hr;rw[aG Z];have c4:=c.li.mi.ci;have c5:=(c4.mw (fun x b=>(c4.iz x b).1)).1;have d:=(c5.be (fun x b=>(c5.h8 x b).1)).1;have e:(S.s6 a).rs=(S.s4 a).rs:=(zw _ _ _).trans (zv _ _ _)
  exact⟨hb.n0,hb.n1,hb.o1,aZ _,d.hg,d.len,by rw[e];exact c.rl⟩
 ·exact hb
theorem el.GB (h:el a S.s Y G)(hb:cI a S.s):cI a (S.dy a).s:=by
 cases hf:S.fM a
 ·obtain⟨_,g,_⟩:=mc h hb hf;exact(g.gc.inv h hb g.al).2
 ·have b:S.dy a=S:=by unfold cq.dy;rw[aI hf]
  rw[b];exact hb
theorem el.store {s:d9}(h:el a s Y G)(hb:cI a s){v i z:Int}(hv:v∈Y)(e:0<=i)(f:i<pf (ld a.N s.y s.g s.ws v))(hz:cY z=true->cg z∈Y\/cg z∈G):el a {s with ws:=s.ws.set (v+1+i).toNat z} Y G:=by
 refine⟨h.inv.set hb.l1 hb.y1 hb.g1 (aK hv) e f hz,?_⟩
 obtain⟨_,hk⟩:=h.inv.full.set hb.l1 hb.y1 hb.g1 (aK hv) e f;have l:=m7 h.inv.full hv e f;have m:=hb.y1;have hl:=hb.l1;intro b c j j0 d ha g;rw[hk b (aJ c)] at d;have n:=m8 h.inv.full c j0 d;have hi:=jS h.inv.full (aJ c) j0 d;have k:ld a.N s.y s.g (s.ws.set (v+1+i).toNat z) (b+1+j)=ld a.N s.y s.g s.ws (b+1+j):=by rw[dW hi,dW hi,j_ _ _ _ _ V,aG V]
 rw[k] at ha g;exact h.cd b c j j0 d ha g
end
theorem el.any {a:Wc}{s:d9}{Y G:List Int}(h:el a s Y G)(i:Nat)(ha:cY (s.rs.getD i 0)=true):cg (s.rs.getD i 0)∈Y\/cg (s.rs.getD i 0)∈G:=by
 by_cases hi:i<s.rs.length
 ·exact h.inv.at i hi ha
 ·rw[aE,List.getElem?_eq_none V] at ha;exact absurd ha aa
theorem t6 (ws:List Int)(y:Nat)(x:Int):∀k,(fC ws y x k).length=ws.length
 |0=>by simp[fC]
 |k+1=>by rw[fC,a4];exact t6 ws y x k
structure GC (a:Wc)(S:cq)(kd:Int)(rl:List Nat)(Y G:List Int)(ws:List Int):Prop where
 k:el a {S.s with y:=S.s.y+1+rl.length,ws:=ws} (Y++[(S.s.y:Int)]) G
 l:ws.length=a.N+a.O
 p:ld a.N (S.s.y+1+rl.length) S.s.g ws S.s.y=hw kd rl.length
 h:∀v,(v∈Y\/v∈G)->ld a.N (S.s.y+1+rl.length) S.s.g ws v=ld a.N S.s.y S.s.g S.s.ws v
theorem t7 {a:Wc}{S:cq}{Y G:List Int}{kd:Int}{rl:List Nat}(h:el a S.s Y G)(hb:cI a S.s)(hk:hc kd rl.length=0)(hr:S.s.y+1+rl.length<=a.N):∀j,j<=rl.length->GC a S kd rl Y G (iA S.s.rs S.s.y (fq a.N S.s.y kd rl.length S.s.ws) rl j)
 |0,_=>by
  have hm:iK a.N S.s.y kd rl.length=true:=by unfold iK;simp;omega
  have m:iW a.N S.s.y kd rl.length=S.s.y+1+rl.length:=by unfold iW;rw[aI hm];omega
  have d:fq a.N S.s.y kd rl.length S.s.ws=fC S.s.ws S.s.y (hw kd rl.length) rl.length:=by unfold fq;rw[aI hm];rfl
  have n:=hb.l1;have hlt:S.s.y+rl.length<S.s.ws.length:=V;have m1:=h.inv.make hb.l1 hm;have k:=kK.make h.inv h.cd hb.l1 hm;rw[m] at m1 k;have o:(fq a.N S.s.y kd rl.length S.s.ws).length=a.N+a.O:=by rw[d,t6];exact n
  refine⟨⟨m1,k⟩,o,?_,fun v hv=>?_⟩
  ·show ld a.N _ S.s.g (fq a.N S.s.y kd rl.length S.s.ws) S.s.y=_;rw[d,dW (iM V V),k8 _ _ _ _ _ hlt,aI V]
  ·show ld a.N _ S.s.g (fq a.N S.s.y kd rl.length S.s.ws) v=_;rw[d];rcases hv with f|f
   ·have hi:=h.inv.full.ix v f;exact sk
   ·have hi:=h.inv.full.io v f;exact p5
 |j+1,p=>by
  have b:=t7 h hb hk hr j V;have e:iA S.s.rs S.s.y (fq a.N S.s.y kd rl.length S.s.ws) rl (j+1)=(iA S.s.rs S.s.y (fq a.N S.s.y kd rl.length S.s.ws) rl j).set (S.s.y+1+j) (S.s.rs.getD (rl.getD j 0) 0):=rfl;rw[e];generalize iA S.s.rs S.s.y _ rl j=ws at b⊢;have g:cI a {S.s with y:=S.s.y+1+rl.length,ws:=ws}:=⟨hb.n0,hb.n1,hb.o1,hr,hb.g1,b.l,hb.r1⟩
  have i:(S.s.y:Int)∈Y++[(S.s.y:Int)]:=Z;have l:((j:Nat):Int)<pf (ld a.N (S.s.y+1+rl.length) S.s.g ws S.s.y):=by rw[b.p,(pU kd rl.length hk).2.1];omega
  have st:=b.k.store g (z:=S.s.rs.getD (rl.getD j 0) 0) i V l (fun ha=>by exact(h.any _ ha).imp (fun c=>aY _ c) id)
  have q:((S.s.y:Int)+1+(j:Nat)).toNat=S.s.y+1+j:=V;have hs:=(b.k.inv.full.set (z:=S.s.rs.getD (rl.getD j 0) 0) b.l g.y1 g.g1 (aK i) (Int.natCast_nonneg j) l).2;refine⟨st,by rw[a4];exact b.l,(hs _ (aK i)).trans b.p,fun v hv=>(hs v (hv.imp (fun c=>aY _ c) id)).trans (b.h v hv)⟩
theorem zx (w:ax)(B n1 b:Nat)(l1 l2:List b7)(d f:Addr)(c1 c2:Nat)(g:l1.length=n1)(i:l2.length=b)(j:w.cell? (aq B 0)=some (.slice (some d) n1 c1))(k:w.cell? (aq B 1)=some (.slice (some f) b c2))(l:dv w (some d) l1)(n:dv w (some f) l2)(hm:n1+b<=100000):
 Calls prog 230 #[.slice (ak B) 2 2] w fun e w'=>∃a c m,e=.returned (.slice a m c)/\ay (m=n1+b)/\ay (w'.ownsRow w.heap.size 103 2 (.slice a m c) m (ev (l1++l2)))/\aw w w':=by
 subst g;subst i;refine(Ef w B l1 l2 d f c1 c2 j k l n hm).mono ?_;rintro e w' ⟨a,c,rfl,o,p⟩
 exact⟨a,c,_,rfl,rfl,o,p⟩
theorem dv.take {w:ax}{ad:Option Addr}{q:List b7}(h:dv w ad q)(i:Nat):dv w ad (q.take i):=by
 intro hp;simp only [List.length_take] at hp;obtain⟨b,o,e,hb,hc⟩:=h V;refine⟨b,o,e,hb,fun j c=>?_⟩
 simp only [List.length_take] at c;have d:(q.take i).getD j (0,0)=q.getD j (0,0):=by rw[aE,aE,List.getElem?_take_of_lt V]
 rw[d];exact hc j V
theorem dv.drop {w:ax}{b o:Nat}{q:List b7}(h:dv w (some ⟨b,o,none⟩) q)(i:Nat):dv w (some ⟨b,o+i*2,none⟩) (q.drop i):=by
 intro hp;simp only [List.length_drop] at hp;obtain⟨g,k,e,hb,hc⟩:=h V;cases e;refine⟨b,o+i*2,rfl,hb,fun j c=>?_⟩
 simp only [List.length_drop] at c;have d:(q.drop i).getD j (0,0)=q.getD (i+j) (0,0):=by simp[List.getElem?_drop]
 have f:=hc (i+j) V;rw[d,show o+i*2+j*2=o+(i+j)*2 by omega];exact f
theorem GD:dN 229:=f_ func229 ae rfl
theorem GE (w:ax)(B:Nat)(g:Int)(e:b7)(h:w.cell? (aq B 0)=some (ah g)):
 Calls prog 229 #[en e,aj B] w fun r w'=>r=.returned (.bool (e.1==g))/\aw w w':=by
 obtain⟨x,y⟩:=e;have d:=aQ w _ h;have b:=au w (.cells #[.int .i64 x,.int .i64 y] 103)
 by_cases c:x=g
 ·subst c;go_enter func229,ntmps229;go_wp2_with fail;go_ret;exact⟨Z,b⟩
 ·go_enter func229,ntmps229;go_wp2_with fail;go_ret;exact⟨Z,b⟩
theorem zy {w w1 b:ax}{p m:Nat}{a0 c:Option Addr}{k0 k1 c5 i n:Nat}{r q:List b7}(h:fu w p a0 k0 (ak m) k1 r q)(f:aw w w1)(o:aw w1 b)(g:b.ownsRow w1.heap.size 103 2 (.slice c n c5) n (ev (q.take i++q.drop (i+1))))(hi:i<q.length)(hn:n+1=q.length):
 fu (b.setCell ⟨p,1,none⟩ (.slice c n c5)) p a0 k0 c c5 r (q.take i++q.drop (i+1))/\(∀z,c=some z->w.heap.size<=z.block)/\Fr (fun k=>k=p) w (b.setCell ⟨p,1,none⟩ (.slice c n c5)):=by
 have j:aw w b:=f.trans (o.mono f.size)
 have d:=h.below j;have hl:(q.take i++q.drop (i+1)).length=n:=by rw[aX,bw,List.length_drop];omega
 have l:∀k,k≠p->(b.setCell ⟨p,1,none⟩ (.slice c n c5)).heap[k]?=b.heap[k]?:=fun k hk=>aU _ _ _ _ hk;refine⟨⟨by rw[hl];exact Ei d.blk,cH d.r0 (fun k e=>l k (d.np d.r0 k e)),?_⟩,fun z e=>?_,(Fr.of j).set p 1 _ rfl⟩
 ·rw[hl];exact eT (cH g (fun k e=>l k (d.np g k e))) (fun _ _=>aZ _)
 ·have:=(cn g z.block (by rw[e];rfl)).1;have:=f.size;omega
theorem zz (w:ax)(p:Nat)(a0 a1:Option Addr)(k0 k1:Nat)(r q:List b7)(g:Int)(h:fu w p a0 k0 a1 k1 r q)(W:q.length<=90000):
 Calls prog 194 #[aj p,ah g] w fun e w'=>
  (e=.returned (.tuple #[ah 0,.bool false])/\(∀e∈q,¬e.1=g)/\aw w w')\/
  (∃(i:Nat)(b1:Option Addr)(c1:Nat),e=.returned (.tuple #[ah (q.getD i (0,0)).2,.bool true])/\i<q.length/\(q.getD i (0,0)).1=g/\(∀e∈q.take i,¬e.1=g)/\fu w' p a0 k0 b1 c1 r (q.take i++q.drop (i+1))/\(∀z,b1=some z->w.heap.size<=z.block)/\Fr (fun k=>k=p) w w'):=by
 obtain⟨c0,c1,K,X,lp⟩:=h.cells;have H:ay (fu w p a0 k0 a1 k1 r q):=h;have l:=au w (.cells #[.int .i64 g] 2)
 have y1:=(l.cell (p:=aq p 1) lp).trans c1;have P:=CF (fun _=>True) 229 #[] #[aj w.heap.size] (fun e=>e.1==g) GD (w.alloc (.cells #[.int .i64 g] 2)) (fun w' e _ hs hk=>GE w' w.heap.size g e ((aP (a:=⟨w.heap.size,0,none⟩) (hk _ Z)).trans Z)) q a1 k1 (fun _ _=>trivial) V ((g7 h.q0).below l)
 clear h c0 K;go_enter func194,ntmps194;go_wp2_with fail;refine P.mono ?_;clear P;rintro e w1 ⟨hb,⟨rfl,hn⟩|⟨i,rfl,hi,ht,hn⟩⟩
 ·have n:ay (∀e∈q,¬e.1=g):=fun e he=>by simpa using hn e he
  have f:=l.trans (hb.mono Z)
  clear hb hn;go_wp2_with fail;go_ret2;exact aK ⟨rfl,n.out,f⟩
 ·have n:ay (∀e∈q.take i,¬e.1=g):=fun e he=>by simpa using hn e he
  have E:ay ((q.getD i (0,0)).1=g):=by show _=_;simpa using ht
  obtain⟨z,s⟩:∃z,ay (z=(q.getD i (0,0)).2):=⟨_,rfl⟩
  have f:=l.trans (hb.mono Z)
  have Y:=f.size;have j:=H.out.below f;obtain⟨ab,F,ad,G,o⟩:=j.cells;have t:=qs j.q0;obtain⟨b,cap,I⟩:=eU j.q0 V;simp at I;obtain⟨rfl,rfl⟩:=I;have ag:=t.le;have L:k1<=maxLen:=by
   rcases j.q0.2 with⟨_,h0⟩|⟨g,ai,al,hv,_,_,_,hc,_⟩
   ·omega
   ·simp at hv;omega
  unfold maxLen at L;obtain⟨am,an,M,ao,hc⟩:=t.lp V;cases M;have N:=(hc i hi).2;rw[Nat.zero_add,<-s.out] at N;have ap:(0:Int)<=(i:Int):=V;have ar:(i:Int)<(q.length:Int):=V;have aB:ay (fu w1 p a0 k0 (ak b) k1 r q):=j;clear hb hn l hc j ht;have u:ay (dv w1 (ak b) q):=t.lp;have J:ay ((q.take i).length=i):=by show _=_;rw[bw];omega
  have aF:(i:Int)<=(k1:Int):=V;have aR:IntKind.i64.wrap ((i:Int)+1)=(i:Int)+1:=by rw[bk];omega
  have aV:(0:Int)<=(i:Int)+1:=V;have a2:(i:Int)+1<=(q.length:Int):=V;have bb:((i:Int)+1).toNat=i+1:=V;have bd:(i:Int).toNat=i:=V;by_cases hk:i+1=k1
  ·subst hk;have hz:q.length-(i+1)=0:=V;have c:=(au w1 (.cells #[.slice (some ⟨b,0,none⟩) i (i+1),.slice (some ⟨b,0,none⟩) 0 0] 151)).drew;have v:ay ((q.drop (i+1)).length=0):=by show _=_;rw[List.length_drop];omega
   have O:dv (w1.alloc (.cells #[.slice (some ⟨b,0,none⟩) i (i+1),.slice (some ⟨b,0,none⟩) 0 0] 151)).drew (ak b) (q.drop (i+1)):=fun h=>by rw[List.length_drop] at h;omega
   go_wp2_with fail
   go_region_with (go_at_call 230;refine(zx _ w1.heap.size i (0) (q.take i) (q.drop (i+1)) ⟨b,0,none⟩ ⟨b,0,none⟩ (i+1) (0) J.out v.out Z Z ((u.out.take i).below c) (O) V).mono ?_;rintro e x ⟨A,c5,Q,rfl,B,m,d⟩;have R:=(d.cell (p:=aq p 1) (by simp;omega)).trans ((c.cell (p:=aq p 1) o).trans F);have S:=(d.frozen (p:=aq p 1) (by simp;omega)).trans ((c.frozen (p:=aq p 1) o).trans G))
   all_goals
    go_wp2_with fail;go_ret2;refine aJ ⟨i,A,c5,by rw[<-s.out];rfl,hi,E.out,n.out,?_⟩
    have C:aw w1 x:=c.trans (d.mono Z)
    exact zy H.out f C (eT m.out (fun k e=>by have:=(cn m.out k e).1;simp at this;omega)) hi (by have:=B.out;omega)
  ·have be:¬k1=i+1:=fun e=>hk e.symm;have c:=(au w1 (.cells #[.slice (some ⟨b,0,none⟩) i k1,.slice (some ⟨b,(i+1)*2,none⟩) (q.length-(i+1)) (k1-(i+1))] 151)).drew;have v:ay ((q.drop (i+1)).length=q.length-(i+1)):=List.length_drop;have D:=(u.out.drop (i+1)).below c;rw[Nat.zero_add] at D;have U:ay (dv (w1.alloc (.cells #[.slice (some ⟨b,0,none⟩) i k1,.slice (some ⟨b,(i+1)*2,none⟩) (q.length-(i+1)) (k1-(i+1))] 151)).drew (some ⟨b,(i+1)*2,none⟩) (q.drop (i+1))):=D;clear D;go_wp2_with fail
   go_region_with (go_at_call 230;refine(zx _ w1.heap.size i (q.length-(i+1)) (q.take i) (q.drop (i+1)) ⟨b,0,none⟩ ⟨b,(i+1)*2,none⟩ k1 (k1-(i+1)) J.out v.out Z Z ((u.out.take i).below c) (U.out) V).mono ?_;rintro e x ⟨A,c5,Q,rfl,B,m,d⟩;have R:=(d.cell (p:=aq p 1) (by simp;omega)).trans ((c.cell (p:=aq p 1) o).trans F);have S:=(d.frozen (p:=aq p 1) (by simp;omega)).trans ((c.frozen (p:=aq p 1) o).trans G))
   all_goals
    go_wp2_with fail;go_ret2;refine aJ ⟨i,A,c5,by rw[<-s.out];rfl,hi,E.out,n.out,?_⟩
    have C:aw w1 x:=c.trans (d.mono Z)
    exact zy H.out f C (eT m.out (fun k e=>by have:=(cn m.out k e).1;simp at this;omega)) hi (by have:=B.out;omega)
section
variable {a:Wc}{hp:Nat}{F:Nat->Prop}{S:cq}{w:ax}
theorem t8 (h:(cw a hp).J F S w)(x:Int):
 Calls prog 48 #[aj a.pw,ah x] w fun e w'=>e=.returned (.tuple #[ah (S.kx a x),ah (S.fx a x),ah (S.ex a x)])/\aw w w':=
 CU x w (em h).c0 (lx h).1
theorem zA (h:(cw a hp).J F S w)(x:Int):
 Calls prog 121 #[aj hp,ah x] w fun e w'=>e=.returned (.bool (S.kx a x==5))/\aw w w':=by
 have P:=t8 h x;obtain⟨h0,_⟩:=em h;go_enter func121,ntmps121;exact s9
theorem GF {q:List b7}{g:Int}{i:Nat}(hi:i<q.length)(b:(q.getD i (0,0)).1=g)(c:∀e∈q.take i,¬e.1=g):dO g q=i:=by
 refine(List.findIdx_eq hi).2 ⟨?_,fun j d=>?_⟩
 ·rw[aE,aL hi] at b;simpa using b
 ·have:=c (q[j]'V) (by rw[List.mem_take_iff_getElem];exact⟨j,V,rfl⟩)
  simpa using this
theorem GG (h:(fL a).J F S w)(g:Int)(hq:S.q.length<=90000):
 Calls prog 194 #[aj a.sd,ah g] w fun e w'=>∃m,e=.returned (.tuple #[ah (if dO g S.q<S.q.length then(S.q.getD (dO g S.q) (0,0)).2 else 0),.bool (decide (dO g S.q<S.q.length))])/\(fL a).J m (if dO g S.q<S.q.length then⟨S.s,S.r,S.q.take (dO g S.q)++S.q.drop (dO g S.q+1)⟩ else S) w'/\b8 F w m w':=by
 have q:=h;obtain⟨n,ar,f,⟨s,ad,cap,j,t,u,v,o,p,D,x⟩,r0,r1,k⟩:=h;refine(zz w a.sd ar ad f cap S.r S.q g ⟨t,r0,u⟩ hq).mono ?_;rintro e w' (⟨rfl,hn,hb⟩|⟨i,b1,c1,rfl,hi,g1,g2,hs,A,fr⟩)
 ·have l:¬dO g S.q<S.q.length:=fun c=>by
   unfold dO at c;have:=List.findIdx_getElem (w:=c)
   exact hn _ (a6 c) (by simpa using this)
  rw[aG l,aG l,bq l];exact⟨F,rfl,(fL a).below q hb,b8.of hb⟩
 ·rw[(GF hi g1 g2),aI hi,aI hi,bh hi];have nq:∀b,some b=(Value.slice b1 (S.q.take i++S.q.drop (i+1)).length c1).ownBlock->w.heap.size<=b:=fun b e=>by
   cases b1 with
   |none=>simp[Value.ownBlock] at e
   |some z=>
    simp[Value.ownBlock] at e;rw[e];exact A z rfl
  refine⟨fun b=>(n b\/some b=(Value.slice b1 _ c1).ownBlock)\/some b=(Value.slice ar S.r.length f).ownBlock,rfl,⟨fun b=>n b\/some b=(Value.slice b1 _ c1).ownBlock,ar,f,⟨s,b1,c1,(dX a).keep j fr.size (fun b d=>fr.block b ((dX a).lt j b d) (fun e=>p (by have e:=e;rw[<-e];exact d))),hs.blk,hs.q0,fun b d=>aK (v b d),aK o,p,fun b e=>⟨aJ e,fun d=>by have B:=(dX a).lt j b d;have C:=nq b e;omega⟩,fun b d=>?_⟩,hs.r0,fun b e d=>?_,fun b=>Iff.rfl⟩,⟨fr.mono (fun b d=>(k b).2 (aK (by have d:=d;rw[d];exact o))),fun b d=>?_⟩⟩
  ·rcases d with d|d
   ·exact aM (x b d) fr.size
   ·exact(cn hs.q0 b d).2
  ·rcases d with d|d
   ·exact r1 b e d
   ·have B:=(cn r0 b e).2;have C:=nq b d;omega
  ·rcases d with(d|d)|d
   ·exact aK ((k b).2 (aK d))
   ·exact aJ (nq b d)
   ·exact aK ((k b).2 (aJ d))
theorem GH (x y:Int)(w:ax):
 Calls prog 127 #[ah x,ah y] w fun e w'=>e=.returned (.tuple #[ah (if x=y then ew 1 1 else ew 1 0),ah 0])/\aw w w':=by
 by_cases e:x=y
 ·subst e;rw[aI rfl];have P:=o6 1 w;rw[show vc 1 1=0 by decide] at P;exact zu
 ·have P:=o6 0 w;exact zu
theorem GI (h:(cw a hp).J F S w)(x:Int):
 Calls prog 126 #[aj hp,ah x] w fun e w'=>e=.returned (.tuple #[ah (S.len a x).1,ah (S.len a x).2.1])/\aw w w':=by
 have P:=t8 h x;obtain⟨h0,_⟩:=em h;unfold cq.len;generalize S.kx a x=k at*;generalize S.fx a x=f at*;generalize S.ex a x=c at*;by_cases hc:c=0
 ·subst hc;by_cases hk:k=5
  ·subst hk;rw[aG Z];go_enter func126,ntmps126;go_wp2_with fail;refine P.mono ?_;exact oK
  ·rw[aI ⟨rfl,hk⟩];have b:=fun w=>o6 f w;generalize ew 1 f=v at*;generalize vc 1 f=i at*;go_enter func126,ntmps126;go_wp2_with fail;refine P.mono ?_;rintro e w1 ⟨rfl,hb1⟩
   go_wp2_with fail;refine(b w1).mono ?_;rintro e j ⟨rfl,d⟩
   have hb:=hb1.trans (d.mono hb1.size)
   go_wp2_with fail;go_ret2;exact⟨rfl,hb⟩
 ·rw[aG (fun g=>hc g.1)];go_enter func126,ntmps126;go_wp2_with fail;refine P.mono ?_;exact oK
theorem zB (h:(cw a hp).J F S w):w.cell? (aq a.pw 2)=some (aj a.sd):=by obtain⟨c,b,_⟩:=kj h;obtain⟨d,g1,_⟩:=m2 b;obtain⟨_,_,c2,_⟩:=jO g1;exact c2
theorem GJ (h:(cw a hp).J F S w)(x:Int)(hq:S.q.length<=90000):
 Calls prog 125 #[aj hp,ah x] w fun e w'=>∃d,e=.returned (.tuple #[ah (S.pop a x).1,ah (S.pop a x).2.1])/\(cw a hp).J d (S.pop a x).2.2 w'/\b8 F w d w':=by
 have P:=zA h x;have l:=hide h;unfold cq.pop;by_cases hk:S.kx a x=5
 ·rw[aI hk];rw[hk] at P;have hr:∀w1,aw w w1->w1.cell? (aq hp 0)=some (aj a.pw)/\w1.cell? (aq a.pw 2)=some (aj a.sd)/\Calls prog 194 #[aj a.sd,ah x] w1 fun e w'=>∃d,e=.returned (.tuple #[ah (if dO x S.q<S.q.length then(S.q.getD (dO x S.q) (0,0)).2 else 0),.bool (decide (dO x S.q<S.q.length))])/\(cw a hp).J d (if dO x S.q<S.q.length then⟨S.s,S.r,S.q.take (dO x S.q)++S.q.drop (dO x S.q+1)⟩ else S) w'/\b8 F w d w':=fun w1 b=>by
   have j:=(cw a hp).below l.out b;refine⟨(em j).h0,zB j,?_⟩
   obtain⟨s,g1,_,g3⟩:=kj j;refine(GG g1 x hq).mono ?_;rintro e w' ⟨d,rfl,n,o⟩
   obtain⟨f,j2,g⟩:=g3 _ _ _ n o;exact⟨f,rfl,j2,(b8.of b).trans g⟩
  have i:=hide hr;by_cases hi:dO x S.q<S.q.length
  ·rw[aI hi];simp only [if_pos hi,decide_eq_true hi] at i;generalize (S.q.getD (dO x S.q) (0,0)).2=v at*;generalize (⟨S.s,S.r,S.q.take (dO x S.q)++S.q.drop (dO x S.q+1)⟩:cq)=t at*;go_enter func125,ntmps125;go_wp2_with fail;refine P.mono ?_;rintro e w1 ⟨rfl,b⟩
   obtain⟨k0,p,k⟩:=i.out w1 b;go_wp2_with fail;refine k.mono ?_;rintro e m ⟨f,rfl,j2,g⟩
   have c:ay (_/\_):=⟨j2,g⟩
   go_wp2;go_ret2;exact⟨f,rfl,c.out.1,c.out.2⟩
  ·rw[aG hi];simp only [if_neg hi,decide_eq_false hi] at i;go_enter func125,ntmps125;go_wp2_with fail;refine P.mono ?_;rintro e w1 ⟨rfl,b⟩
   obtain⟨k0,p,k⟩:=i.out w1 b;go_wp2_with fail;refine k.mono ?_;rintro e m ⟨f,rfl,j2,g⟩
   have c:ay (_/\b8 F w f m):=⟨j2,g⟩
   go_wp2;go_ret2;exact⟨f,rfl,c.out.1,c.out.2⟩
 ·rw[aG hk];have q:(S.kx a x==5)=false:=by simpa using hk
  rw[q] at P;go_enter func125,ntmps125;go_wp2_with fail;refine P.mono ?_;rintro e w1 ⟨rfl,b⟩
  have c:ay ((cw a hp).J F S w1/\b8 F w F w1):=⟨(cw a hp).below l.out b,b8.of b⟩
  go_wp2;go_ret2;exact⟨F,rfl,c.out.1,c.out.2⟩
theorem GK (h:(cw a hp).J F S w)(t g:Int)(hr:S.r.length<=90000)(hq:S.q.length<=90000):
 Calls prog 56 #[aj hp,ah t,ah g] w fun e w'=>∃l,e=.returned (ah (S.reg a t g).1)/\(cw a hp).J l (S.reg a t g).2 w'/\b8 F w l w':=by
 have P:=t8 h t;obtain⟨h0,_⟩:=em h;have u:ay ((cw a hp).J F S w):=h;unfold cq.reg;have o:ay (∀w1,aw w w1->Calls prog 121 #[aj hp,ah g] w1 fun e w'=>e=.returned (.bool (S.kx a g==5))/\aw w w'):=fun w1 b=>by
  refine(zA ((cw a hp).below u.out b) g).mono ?_;rintro e w' ⟨rfl,j⟩
  exact⟨rfl,b.trans (j.mono b.size)⟩
 have v:ay (∀w1,aw w w1->w1.cell? (aq hp 0)=some (aj a.pw)/\w1.cell? (aq a.pw 2)=some (aj a.sd)/\Calls prog 49 #[aj a.sd,.agg #[ah g,ah t]] w1 fun e w'=>∃l,e=.returned (.bool (!jP (S.r.length+S.q.length)))/\(cw a hp).J l (if 24<=S.r.length+S.q.length then S else⟨S.s,S.r++[(g,t)],S.q⟩) w'/\b8 F w l w'):=fun w1 b=>by
  have x:=(cw a hp).below u.out b;refine⟨(em x).h0,zB x,?_⟩
  obtain⟨H,g1,_,g3⟩:=kj x;refine(Ek g1 g t hr hq).mono ?_;rintro e w' ⟨l,rfl,B,C⟩
  obtain⟨i,j2,p⟩:=g3 _ _ _ B C;exact⟨i,rfl,j2,(b8.of b).trans p⟩
 generalize S.fx a t=f at*;generalize S.kx a t=k at*;by_cases hc:S.ex a t=0
 ·rw[aI hc];rw[hc] at P;by_cases hk:S.kx a g=5
  ·rw[aI hk];rw[hk] at o;by_cases m:24<=S.r.length+S.q.length
   ·rw[aI m];simp only [if_pos m,qt m] at v;go_enter func56,ntmps56;go_wp2_with fail;refine P.mono ?_;rintro e w1 ⟨rfl,b⟩
    have q:=o.out w1 b;go_wp2_with fail;refine q.mono ?_;rintro e n ⟨rfl,j⟩
    obtain⟨k0,D,A⟩:=v.out n j;go_wp2_with fail;refine A.mono ?_;rintro e s ⟨i,rfl,j2,p⟩
    have d:ay ((cw a hp).J i S s/\b8 F w i s):=⟨j2,p⟩
    go_wp2_with fail;go_ret;exact⟨i,rfl,d.out.1,d.out.2⟩
   ·rw[aG m];simp only [if_neg m,qu m] at v;generalize (⟨S.s,S.r++[(g,t)],S.q⟩:cq)=E at*;go_enter func56,ntmps56;go_wp2_with fail;refine P.mono ?_;rintro e w1 ⟨rfl,b⟩
    have q:=o.out w1 b;go_wp2_with fail;refine q.mono ?_;rintro e n ⟨rfl,j⟩
    obtain⟨k0,D,A⟩:=v.out n j;go_wp2_with fail;refine A.mono ?_;rintro e s ⟨i,rfl,j2,p⟩
    have d:ay ((cw a hp).J i E s/\b8 F w i s):=⟨j2,p⟩
    go_wp2_with fail;go_ret;exact⟨i,rfl,d.out.1,d.out.2⟩
  ·rw[aG hk];have G:(S.kx a g==5)=false:=by simpa using hk
   simp only [G] at o;go_enter func56,ntmps56;go_wp2_with fail;refine P.mono ?_;rintro e w1 ⟨rfl,b⟩
   have q:=o.out w1 b;go_wp2_with fail;refine q.mono ?_;rintro e n ⟨rfl,j⟩
   have d:ay ((cw a hp).J F S n/\b8 F w F n):=⟨(cw a hp).below u.out j,b8.of j⟩
   go_wp2_with fail;go_ret;exact⟨F,rfl,d.out.1,d.out.2⟩
 ·rw[aG hc];generalize S.ex a t=c at*;go_enter func56,ntmps56;go_wp2_with fail;refine P.mono ?_;rintro e w1 ⟨rfl,b⟩
  have d:ay ((cw a hp).J F S w1/\b8 F w F w1):=⟨(cw a hp).below u.out b,b8.of b⟩
  go_wp2_with fail;go_ret;exact⟨F,rfl,d.out.1,d.out.2⟩
end
section
variable {a:Wc}{hp:Nat}{F:Nat->Prop}{S:cq}{w:ax}
theorem zC (h:(cw a hp).J F S w)(hq:S.q.length+S.r.length<=90000):
 Calls prog 50 #[aj a.pw] w fun e w'=>∃b,e=.returned (ah (S.code a))/\(cw a hp).J b (S.cut a) w'/\b8 F w b w':=by
 obtain⟨i,g1,_,g3⟩:=kj h;refine(Ee g1 hq).mono ?_;rintro e w' ⟨b,rfl,c,d⟩
 obtain⟨f,j2,g⟩:=g3 _ _ _ c d;exact⟨f,rfl,j2,g⟩
theorem zD (h:(cw a hp).J F S w)(hq:S.q.length+S.r.length<=90000)(c:S.fM a=false->∃G,iD (S.k5 a) (S.dC a) G/\G 0 (S.k5 a,0)):
 Calls prog 37 #[aj a.pw] w fun e w'=>∃b,e=.returned (ah (S.ig a))/\(cw a hp).J b (S.dy a) w'/\b8 F w b w':=by
 obtain⟨j,g1,_,g3⟩:=kj h;refine(Gb g1 hq c).mono ?_;rintro e w' ⟨b,rfl,d,f⟩
 obtain⟨g,j2,i⟩:=g3 _ _ _ d f;exact⟨g,rfl,j2,i⟩
theorem GL (h:(cw a hp).J F S w)(m:Int)(hq:S.q.length+S.r.length<=90000)(n:S.fM a=false->∃G,iD (S.k5 a) (S.dC a) G/\G 0 (S.k5 a,0)):
 Calls prog 193 #[aj hp,ah m] w fun e w'=>∃c,e=.returned (ah (S.room a m).1)/\(cw a hp).J c (S.room a m).2 w'/\b8 F w c w':=by
 unfold cq.room;by_cases hm:m<=(a.N:Int)-S.s.y
 ·rw[aI hm];refine(EX h m hm).mono ?_;rintro e w' ⟨rfl,hb⟩
  exact⟨F,rfl,(cw a hp).below h hb,b8.of hb⟩
 rw[aG hm];obtain⟨h0,c0,_⟩:=em h;have d:=(lx h).1;have n1:=d.hN';have o:=d.hy;have p:=d.hg;have n4:=d.hO;have P:=oO w d;have i:ay (∀w1,aw w w1->(w1.cell? (aq hp 0)=some (aj a.pw)/\w1.cell? (aq a.pw 0)=some (aj a.p))/\Calls prog 22 #[aj a.p] w1 fun e w'=>e=.returned (.tuple #[ah S.s.y,ah S.s.g])/\aw w w'):=fun w1 b=>by
  have f:=(cw a hp).below h b;obtain⟨h0,c0,_⟩:=em f;refine⟨⟨h0,c0⟩,?_⟩
  refine(kD w1 (lx f).1).mono ?_;rintro e w' ⟨rfl,hb2⟩
  exact⟨rfl,b.trans (hb2.mono b.size)⟩
 have hC:ay (∀w1,aw w w1->w1.cell? (aq hp 0)=some (aj a.pw)/\(Calls prog 50 #[aj a.pw] w1 fun e w'=>∃c,e=.returned (ah (S.code a))/\(cw a hp).J c (S.cut a) w'/\b8 F w c w')/\(Calls prog 37 #[aj a.pw] w1 fun e w'=>∃c,e=.returned (ah (S.ig a))/\(cw a hp).J c (S.dy a) w'/\b8 F w c w')):=fun w1 b=>by
  have f:=(cw a hp).below h b;refine⟨(em f).h0,(zC f hq).mono ?_,(zD f hq n).mono ?_⟩
  ·rintro e w' ⟨c,rfl,j,k⟩
   exact⟨c,rfl,j,(b8.of b).trans k⟩
  ·rintro e w' ⟨c,rfl,j,k⟩
   exact⟨c,rfl,j,(b8.of b).trans k⟩
 clear h d n;by_cases hy:(S.s.y:Int)<=(a.O:Int)-S.s.g
 ·rw[aI hy];dsimp only;generalize S.cut a=S2 at*;generalize S.code a=cd at*;go_enter func193,ntmps193;go_wp2_with fail;refine P.mono ?_;clear P;rintro e w1 ⟨rfl,b⟩
  obtain⟨⟨g0,g1⟩,g⟩:=i.out w1 b;clear i h0 c0 b;go_wp2_with fail;refine g.mono ?_;clear g;rintro e l ⟨rfl,hb2⟩
  obtain⟨k0,P2,_⟩:=hC.out l hb2;exact zt
 ·rw[aG hy];dsimp only;generalize S.dy a=S2 at*;generalize S.ig a=cd at*;go_enter func193,ntmps193;go_wp2_with fail;refine P.mono ?_;clear P;rintro e w1 ⟨rfl,b⟩
  obtain⟨⟨g0,g1⟩,g⟩:=i.out w1 b;clear i h0 c0 b;go_wp2_with fail;refine g.mono ?_;clear g;rintro e l ⟨rfl,hb2⟩
  obtain⟨k0,_,P2⟩:=hC.out l hb2;exact zt
theorem GM (kd:Int)(rl:List Nat)(o:Option Addr)(cap:Nat)(b:cq)(a2:rl.length<=12)(hk:hc kd rl.length=0)(room:b.s.y+1+rl.length<=a.N)
 (hv:0<rl.length->∃d,o=ak d/\¬F d/\d<w.heap.size/\∀i,i<rl.length->w.cell? (aq d i)=some (ah ((rl.getD i 0:Nat):Int)))(hr:∀i,i<rl.length->rl.getD i 0<12)
 (h:(cw a hp).J F S w)
 (E:Calls prog 193 #[aj hp,ah (1+rl.length)] w fun e w'=>∃c,e=.returned (ah 0)/\(cw a hp).J c b w'/\b8 F w c w'):
 Calls prog 123 #[aj hp,ah kd,.slice o rl.length cap] w fun e w'=>∃c,e=.returned (.tuple #[ah (ew 3 b.s.y),ah 0])/\(cw a hp).J c (b.put a kd rl) w'/\b8 F w c w':=by
 have s:iK a.N b.s.y kd rl.length=true:=by unfold iK;rw[hk];simp;omega
 have G:iW a.N b.s.y kd rl.length=b.s.y+1+rl.length:=by unfold iW;rw[aI s];omega
 have H:oR a.N b.s.y kd rl.length=b.s.y:=by unfold oR;rw[aI s]
 have I:ay (0<rl.length->∃d,o=ak d/\¬F d/\d<w.heap.size/\∀i,i<rl.length->w.cell? (aq d i)=some (ah ((rl.getD i 0:Nat):Int))):=hv;have am:ay (∀i,i<rl.length->rl.getD i 0<12):=hr;have J:ay (iW a.N b.s.y kd rl.length=b.s.y+1+rl.length/\oR a.N b.s.y kd rl.length=b.s.y):=⟨G,H⟩
 have an:ay (b.put a kd rl=⟨{b.s with y:=b.s.y+1+rl.length,ws:=iA b.s.rs b.s.y (fq a.N b.s.y kd rl.length b.s.ws) rl rl.length},b.r,b.q⟩):=rfl;have n1:=(lx h).1.hN';generalize b.put a kd rl=ao at*;clear hv hr s G H hk h;go_enter func123,ntmps123;go_wp2_with fail;refine E.mono ?_;clear E;rintro e w1 ⟨K,rfl,u,L⟩
 obtain⟨h0,c0,_⟩:=em u;obtain⟨f,n⟩:=lx u;have bb:=f.hy;have bd:=f.hg;have n4:=f.hO;have v:=CP kd rl.length w1 f;rw[J.out.1,J.out.2] at v;have p:ay (∀w' y g ws,At w' a.p a.q a.N a.O y g ws->c_ a.p a.q w1 w'->∃c,(cw a hp).J c ⟨{b.s with y:=y,g:=g,ws:=ws},b.r,b.q⟩ w'/\b8 K w1 c w'):=n;have M:ay (b8 F w K w1):=L;clear u f n L;go_wp2_with fail;refine v.mono ?_;clear v;rintro e N ⟨rfl,O,P⟩
 obtain⟨A,j2,q⟩:=p.out _ _ _ _ O P;have q:=M.out.trans q;have Q:∀(c:Nat->Prop)(w':ax),b8 F w c w'->∀i,i<rl.length->∃d,o=ak d/\w'.cell? (aq d i)=some (ah ((rl.getD i 0:Nat):Int)):=fun c w' t i hi=>by obtain⟨d,e,g1,g2,g3⟩:=I.out V;exact⟨d,e,(aP (a:=⟨d,i,none⟩) (t.fr.block d g2 g1)).trans (g3 i hi)⟩
 have ap:ay (∀(c:Nat->Prop)(w':ax),b8 F w c w'->∀i,i<rl.length->∃d,o=ak d/\w'.cell? (aq d i)=some (ah ((rl.getD i 0:Nat):Int))):=Q;have R:ay ((cw a hp).J A ⟨{b.s with y:=b.s.y+1+rl.length,ws:=iA b.s.rs b.s.y (fq a.N b.s.y kd rl.length b.s.ws) rl 0},b.r,b.q⟩ N/\b8 F w A N):=⟨j2,q⟩
 clear O P j2 q p I Q M h0 c0;go_wp2_with fail
 go_loopw [33] (fun iv wr=>∃(j:Nat)(c:Nat->Prop),j<=rl.length/\iv=ah j/\ay ((cw a hp).J c ⟨{b.s with y:=b.s.y+1+rl.length,ws:=iA b.s.rs b.s.y (fq a.N b.s.y kd rl.length b.s.ws) rl j},b.r,b.q⟩ wr/\b8 F w c wr)) (fun iv _=>rl.length-(intOf iv).toNat)
 case atStart=>exact⟨0,A,aZ _,rfl,R⟩
 case round=>
  clear R;obtain⟨j,c,be,rfl,k⟩:=hrel;by_cases U:j<rl.length
  ·obtain⟨d,rfl,ar⟩:=ap.out c wr k.out.2 j U;have W:=am.out j U;have X:ay (iA b.s.rs b.s.y (fq a.N b.s.y kd rl.length b.s.ws) rl (j+1)=(iA b.s.rs b.s.y (fq a.N b.s.y kd rl.length b.s.ws) rl j).set (b.s.y+1+j) (b.s.rs.getD (rl.getD j 0) 0)):=rfl;generalize rl.getD j 0=r at*;have aB:ay (∀(l:Nat->Prop)(m:ax),(∀i,i<12->m.cell? (aq a.nb i)=some (ah (b.s.rs.getD i 0))/\m.frozen? (aq a.nb i)=false)->m.cell? (aq a.nb r)=some (ah (b.s.rs.getD r 0))):=fun _ _ g=>(g r W).1;have Y:=(cw a hp).below k.out.1 (aH _ wr).drew;obtain⟨h0,c0,c3,rt,aF,lp,lw,ln⟩:=em k.out.1;obtain⟨r1,_⟩:=rt r W;obtain⟨f,n⟩:=lx Y;dsimp only at r1 f n;have ab:dd a.N (b.s.y+1+rl.length) b.s.g ((b.s.y:Int)+1+j)=true:=iM V V;have B:=k3 ((b.s.y:Int)+1+j) (b.s.rs.getD r 0) wr.drew f;rw[ab,aI rfl,show((b.s.y:Int)+1+j).toNat=b.s.y+1+j by omega,<-X.out] at B;have p:ay (∀w' y g ws,At w' a.p a.q a.N a.O y g ws->c_ a.p a.q wr.drew w'->∃l,(cw a hp).J l ⟨{b.s with y:=y,g:=g,ws:=ws},b.r,b.q⟩ w'/\b8 c wr.drew l w'):=n;have j0:(0:Int)<=(j:Int):=V;have bg:(j:Int)<(rl.length:Int):=V;have q0:(0:Int)<=(r:Int):=V;have q1:(r:Int)<12:=V;have b6:IntKind.i64.wrap ((b.s.y:Int)+1)=(b.s.y:Int)+1:=by rw[bk];omega
   have aR:IntKind.i64.wrap ((b.s.y:Int)+1+(j:Int))=(b.s.y:Int)+1+j:=by rw[bk];omega
   have aV:ay (b8 F w c wr.drew):=k.out.2.below (aH _ wr).drew;clear Y f n rt ab X aF k;generalize b.s.rs.getD r 0=x at*;go_wp2_with fail
   go_region_held3 (fun w'=>w'.cell? (aq hp 0)=some (aj a.pw)/\w'.cell? (aq a.pw 0)=some (aj a.p)/\w'.cell? (aq a.pw 3)=some (.slice (ak a.nb) 12 12)/\w'.cell? (aq a.nb r)=some (ah x)) (go_keep)
    (first
      |(go_at_call 93;refine B.mono ?_;clear B;rintro e m ⟨rfl,ad,s5⟩;obtain⟨l,dC,ag⟩:=p.out _ _ _ _ ad s5;have a0:ay ((cw a hp).J l ⟨{b.s with y:=b.s.y+1+rl.length,ws:=iA b.s.rs b.s.y (fq a.N b.s.y kd rl.length b.s.ws) rl (j+1)},b.r,b.q⟩ m/\b8 F w l m):=⟨dC,aV.out.trans ag⟩;obtain⟨g0,g1,g3,C,_⟩:=em dC;dsimp only at C;have a1:=aB.out l m C;clear ad s5 dC ag C))
   clear h0 c0 c3 r1 g0 g1 g3 a1 ar b6 aR;go_wp2_with fail;go_roundw
   case rel=>exact⟨j+1,l,V,af,a0⟩
   case measure=>simp[intOf];omega
  ·obtain rfl:j=rl.length:=V;go_wp2_with fail;refine(r5 (b.s.y:Int) wr).mono ?_;rintro e ai ⟨rfl,D⟩
   have al:ay ((cw a hp).J c ao ai/\b8 F w c ai):=⟨by rw[an.out];exact(cw a hp).below k.out.1 D,k.out.2.below D⟩
   clear D k;go_wp2_with fail;go_ret2;exact⟨c,rfl,al.out.1,al.out.2⟩
theorem GN (kd cd:Int)(n:Nat)(k:Option Addr)(cap:Nat)(c:cq)(hn:n<=12)(hc:cd≠0)
 (f:Calls prog 193 #[aj hp,ah (1+n)] w fun e w'=>∃b,e=.returned (ah cd)/\(cw a hp).J b c w'/\b8 F w b w'):
 Calls prog 123 #[aj hp,ah kd,.slice k n cap] w fun e w'=>∃b,e=.returned (.tuple #[ah 0,ah cd])/\(cw a hp).J b c w'/\b8 F w b w':=by
 have cb:(cd==0)=false:=by simpa using hc
 clear hc;go_enter func123,ntmps123;go_wp2_with fail;refine f.mono ?_;clear f;rintro e w1 ⟨d,rfl,g,i⟩
 have j:ay ((cw a hp).J d c w1/\b8 F w d w1):=⟨g,i⟩
 clear g i;go_wp2_with fail;go_ret2;exact⟨d,rfl,j.out.1,j.out.2⟩
theorem pB (h:(cw a hp).J F S w)(kd:Int)(rl:List Nat)(b:Option Addr)(cap:Nat)(hq:S.q.length+S.r.length<=90000)(k:S.fM a=false->∃G,iD (S.k5 a) (S.dC a) G/\G 0 (S.k5 a,0))(hk:hc kd rl.length=0)
 (hv:0<rl.length->∃d,b=ak d/\¬F d/\d<w.heap.size/\∀i,i<rl.length->w.cell? (aq d i)=some (ah ((rl.getD i 0:Nat):Int)))(hr:∀i,i<rl.length->rl.getD i 0<12)
 (room:(S.room a (1+rl.length)).1=0->(S.room a (1+rl.length)).2.s.y+1+rl.length<=a.N):
 Calls prog 123 #[aj hp,ah kd,.slice b rl.length cap] w fun e w'=>∃g,e=.returned (.tuple #[ah (S.bZ a kd rl).1,ah (S.bZ a kd rl).2.1])/\(cw a hp).J g (S.bZ a kd rl).2.2 w'/\b8 F w g w':=by
 have j:rl.length<=12:=by have:=iU kd rl.length hk;omega
 have f:=GL h (1+rl.length) hq k;unfold cq.bZ;by_cases c:(S.room a (1+rl.length)).1=0
 ·rw[aI c];rw[c] at f;exact GM kd rl b cap _ j hk (room c) hv hr h f
 ·rw[aG c];exact GN kd _ rl.length b cap _ j c f
end
end Go.Proofs.YtpkjkjhanlbcoaaGreat
