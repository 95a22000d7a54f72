import Derived.Test.YtpkjkjhanlbcoaaGreatJ23
namespace Go.Proofs.YtpkjkjhanlbcoaaGreat
set_option maxRecDepth 100000
set_option maxHeartbeats 4000000
open Tryz
open Go.RowKit W Kp ch
theorem pD {P:Prop}(h:P:=by
 go_enter func57,ntmps57;go_wp2_with fail;refine P.mono ?_;rintro e w2 ⟨F2,rfl,uB,T2⟩
 have HF:=dq uB ((ce.of HB.o).trans T2)
 go_wp2_with fail;go_ret2;exact⟨F2,rfl,HF.o.1,HF.o.2⟩):P:=h
theorem AA {P:Prop}(h:P:=by
 go_wp2_with fail
 go_region_held3 (fun w'=>w'.cell? (ao hp 0)=some (am a.pw)/\w'.cell? (ao a.pw 0)=some (am a.p)/\w'.cell? (ao a.pw 3)=some (.slice (an a.nb) 12 12)/\w'.cell? (ao a.nb r)=some (ak x)) (go_keep)
  (first
    |(go_at_call 93;refine re.mono ?_;rintro e w5 ⟨rfl,AB,s5⟩;obtain⟨rf,dI,t5⟩:=HA.o _ _ _ _ AB s5;have oX:=dq dI (HT3.o.trans t5);obtain⟨g0,g1,g3,rh,_⟩:=eI dI;have gx:=HX.o rf w5 rh;clear AB s5 dI t5 rh))
 clear h0 c0 c3 r1 g0 g1 g3 gx tc b6 b7;go_wp2_with fail;go_roundw
 case rel=>exact⟨j+1,rf,aa,aj,oX⟩
 case measure=>simp[intOf];omega):P:=h
theorem pE {P:Prop}(h:P:=by go_wp2_with fail;go_ret;exact⟨F2,rfl,HF.o.1,HF.o.2⟩):P:=h
theorem AC {P:Prop}(h:P:=by
 obtain⟨g0,_,g3,rh,_⟩:=eI ((cv a hp).below HJ.o.1 hb)
 exact⟨⟨g0,g3,(rh A hA).1⟩,(hb.cell (p:=ao xb 2) lx).trans q2,(hb.cell (p:=ao xb 4) lx).trans q4⟩):P:=h
theorem AD {P:Prop}(h:P:=by
 go_enter func127,ntmps127;go_wp2_with fail;refine P.mono ?_;rintro e w1 ⟨rfl,hb⟩
 go_wp2;go_ret2;exact⟨rfl,hb⟩):P:=h
section
variable {a:Wc}{hp:Nat}{F:Nat->Prop}{S:co}{w:aw}
theorem AE (h:(cv a hp).J F S w)(m:Int)(hm:m<=(a.N:Int)-S.s.y):
 Calls prog 193 #[am hp,ak m] w fun e w'=>e=.returned (ak 0)/\Below w.heap.size w w':=by
 obtain⟨h0,c0,_⟩:=eI h;have P:=om w (jo h).1;go_enter func193,ntmps193;go_wp2_with fail;refine P.mono ?_;rintro e w1 ⟨rfl,hb1⟩
 exact lz
def gC (rs:List Int)(y:Nat)(ws:List Int)(rl:List Nat):Nat->List Int
 |0=>ws
 |j+1=>(gC rs y ws rl j).set (y+1+j) (rs.getD (rl.getD j 0) 0)
theorem Ia (h:(cv a hp).J F S w)(kd:Int)(rl:List Nat)(d a1:Nat)(bi:0<rl.length)(bl:rl.length<=12)(u:∀i,i<rl.length->w.cell? (ao d i)=some (ak ((rl.getD i 0:Nat):Int)))(a2:¬F d)(a3:d<w.heap.size)(v:∀i,i<rl.length->rl.getD i 0<12)(hk:hc kd rl.length=0)(room:S.s.y+1+rl.length<=a.N):
 Calls prog 123 #[am hp,ak kd,.slice (an d) rl.length a1] w fun e w'=>∃b,e=.returned (.tuple #[ak (ew 3 S.s.y),ak 0])/\(cv a hp).J b ⟨{S.s with y:=S.s.y+1+rl.length,ws:=gC S.s.rs S.s.y (eR a.N S.s.y kd rl.length S.s.ws) rl rl.length},S.r,S.q⟩ w'/\ce F w b w':=by
 have l:=(jo h).1;have n:hC a.N S.s.y kd rl.length=true:=by unfold hC;rw[hk];simp;omega
 have B:iC a.N S.s.y kd rl.length=S.s.y+1+rl.length:=by unfold iC;rw[aJ n];omega
 have N:nk a.N S.s.y kd rl.length=S.s.y:=by unfold nk;rw[aJ n]
 have W:=AE h (1+rl.length) aa;obtain⟨h0,c0,_⟩:=eI h;have n1:=l.hN';have bn:=l.hy;have bo:=l.hg;have n4:=l.hO;have ab:ay (_):=h;have ad:ay (∀i,i<rl.length->_=_):=u;have bb:ay (∀i,i<rl.length->_):=v;have ag:ay (_/\_):=⟨B,N⟩
 clear h u v l n B N hk;go_enter func123,ntmps123;go_wp2_with fail;refine W.mono ?_;clear W;rintro e w1 ⟨rfl,o⟩
 have p:=(cv a hp).below ab.o o;obtain⟨h0,c0,_⟩:=eI p;obtain⟨f,k⟩:=jo p;have q:=v4 kd rl.length w1 f;rw[ag.o.1,ag.o.2] at q;have HA:ay (∀w' y g ws,At w' a.p a.q a.N a.O y g ws->c_ a.p a.q w1 w'->_):=k;have ai:ay (_):=o;clear p f k o;go_wp2_with fail;refine q.mono ?_;clear q;rintro e bp ⟨rfl,al,ap⟩
 obtain⟨bd,j2,m⟩:=HA.o _ _ _ _ al ap;have m:=(ce.of (F:=F) ai.o).trans m;have ar:∀(b:Nat->Prop)(w':aw),ce F w b w'->∀i,i<rl.length->_=_:=fun b w' t i hi=>(aW (a:=⟨d,i,none⟩) (t.fr.block d a3 a2)).trans (ad.o i hi)
 have be:ay (∀(b:Nat->Prop)(w':aw),ce F w b w'->∀i,i<rl.length->_=_):=ar;have ax:ay (_/\_):=⟨j2,m⟩
 clear al ap j2 m HA ad ar ai ab h0 c0;go_wp2_with fail
 go_loopw [33] (fun iv wr=>∃(j:Nat)(b:Nat->Prop),j<=rl.length/\iv=ak j/\ay ((cv a hp).J b ⟨{S.s with y:=S.s.y+1+rl.length,ws:=gC S.s.rs S.s.y (eR a.N S.s.y kd rl.length S.s.ws) rl j},S.r,S.q⟩ wr/\ce F w b wr)) (fun iv _=>rl.length-(intOf iv).toNat)
 case atStart=>exact⟨0,bd,aX _,rfl,ax⟩
 case round=>
  clear ax;obtain⟨j,b,br,rfl,c⟩:=hrel;by_cases aB:j<rl.length
  ·have tc:=be.o b wr c.o.2 j aB;have aF:=bb.o j aB;have aR:ay (gC S.s.rs S.s.y (eR a.N S.s.y kd rl.length S.s.ws) rl (j+1)=(gC S.s.rs S.s.y (eR a.N S.s.y kd rl.length S.s.ws) rl j).set (S.s.y+1+j) (S.s.rs.getD (rl.getD j 0) 0)):=rfl;generalize rl.getD j 0=r at*;have HX:ay (∀(rf:Nat->Prop)(w5:aw),(∀i,i<12->w5.cell? (ao a.nb i)=some (ak (S.s.rs.getD i 0))/\w5.frozen? (ao a.nb i)=false)->_=_):=fun _ _ g=>(g r aF).1;have aT:=(cv a hp).below c.o.1 (aE _ wr).drew;obtain⟨h0,c0,c3,rt,bg,lp,lw,ln⟩:=eI c.o.1;obtain⟨r1,_⟩:=rt r aF;obtain⟨f,k⟩:=jo aT;dsimp only at r1 f k;have aV:dm a.N (S.s.y+1+rl.length) S.s.g ((S.s.y:Int)+1+j)=true:=il aa aa;have re:=ki ((S.s.y:Int)+1+j) (S.s.rs.getD r 0) wr.drew f;rw[aV,aJ rfl,show((S.s.y:Int)+1+j).toNat=S.s.y+1+j by omega,<-aR.o] at re;have HA:ay (∀w' y g ws,At w' a.p a.q a.N a.O y g ws->c_ a.p a.q wr.drew w'->_):=k;have j0:(0:Int)<=(j:Int):=aa;have bs:(j:Int)<(rl.length:Int):=aa;have q0:(0:Int)<=(r:Int):=aa;have q1:(r:Int)<12:=aa;have b6:IntKind.i64.wrap ((S.s.y:Int)+1)=(S.s.y:Int)+1:=by rw[bw];omega
   have b7:IntKind.i64.wrap ((S.s.y:Int)+1+(j:Int))=(S.s.y:Int)+1+j:=by rw[bw];omega
   have HT3:ay (_):=c.o.2.below (aE _ wr).drew;clear aT f k rt aV aR bg c;generalize S.s.rs.getD r 0=x at*;exact AA
  ·obtain rfl:j=rl.length:=aa;go_wp2_with fail;refine(pN (S.s.y:Int) wr).mono ?_;rintro e bt ⟨rfl,s⟩
   have a0:ay (_/\_):=⟨(cv a hp).below c.o.1 s,c.o.2.below s⟩
   clear s c;go_wp2_with fail;go_ret2;exact⟨b,rfl,a0.o.1,a0.o.2⟩
end
def co.kx (a:Wc)(S:co)(x:Int):Int:=if tB a.N S.s.y S.s.g S.s.ws x=true then pk (ld a.N S.s.y S.s.g S.s.ws (cj x)) else 0
def co.fx (a:Wc)(S:co)(x:Int):Int:=if tB a.N S.s.y S.s.g S.s.ws x=true then pf (ld a.N S.s.y S.s.g S.s.ws (cj x)) else 0
def co.ex (a:Wc)(S:co)(x:Int):Int:=if tB a.N S.s.y S.s.g S.s.ws x=true then pc (ld a.N S.s.y S.s.g S.s.ws (cj x)) else 2
def co.room (a:Wc)(S:co)(m:Int):Int×co:=if m<=(a.N:Int)-S.s.y then(0,S) else if(S.s.y:Int)<=(a.O:Int)-S.s.g then(S.code a,S.cut a) else(S.it a,S.dE a)
def co.put (a:Wc)(S:co)(kd:Int)(rl:List Nat):co:=⟨{S.s with y:=S.s.y+1+rl.length,ws:=gC S.s.rs S.s.y (eR a.N S.s.y kd rl.length S.s.ws) rl rl.length},S.r,S.q⟩
def co.b8 (a:Wc)(S:co)(kd:Int)(rl:List Nat):Int×Int×co:=if(S.room a (1+rl.length)).1=0 then(ew 3 (S.room a (1+rl.length)).2.s.y,0,(S.room a (1+rl.length)).2.put a kd rl) else(0,(S.room a (1+rl.length)).1,(S.room a (1+rl.length)).2)
def co.pop (a:Wc)(S:co)(x:Int):Int×Int×co:=
 if S.kx a x=5 then(if dV x S.q<S.q.length then((S.q.getD (dV x S.q) (0,0)).2,0,⟨S.s,S.r,S.q.take (dV x S.q)++S.q.drop (dV x S.q+1)⟩) else(0,4,S)) else(0,2,S)
def co.len (a:Wc)(S:co)(x:Int):Int×Int×co:=if S.ex a x=0/\S.kx a x≠5 then(ew 1 (S.fx a x),vc 1 (S.fx a x),S) else(0,2,S)
def co.rt (a:Wc)(S:co)(k:Int)(A B:Nat)(I n:Int):Int×Int×co:=
 if k=1 then(ew 1 n,vc 1 n,S) else if k=3 then(S.s.rs.getD A 0,0,S) else if k=4 then S.b8 a 1 [A,B] else if k=5 then S.b8 a 2 (List.replicate n.toNat A)
 else if k=6 then S.b8 a 3 [A,B] else if k=7 then S.b8 a 4 [A,B] else if k=8 then S.b8 a 5 [] else if k=10 then S.pop a (S.s.rs.getD A 0)
 else if k=11 then((if dX a.N S.s.y S.s.g S.s.ws (S.s.rs.getD A 0) I=0 then ld a.N S.s.y S.s.g S.s.ws (cj (S.s.rs.getD A 0)+1+I) else 0),dX a.N S.s.y S.s.g S.s.ws (S.s.rs.getD A 0) I,S)
 else if k=13 then S.len a (S.s.rs.getD A 0) else if k=14 then(if S.s.rs.getD A 0=S.s.rs.getD B 0 then ew 1 1 else ew 1 0,0,S) else(2,0,S)
def co.reg (a:Wc)(S:co)(t g:Int):Int×co:=
 if S.ex a t=0 then(if S.kx a g=5 then(if 24<=S.r.length+S.q.length then(3,S) else(0,⟨S.s,S.r++[(g,t)],S.q⟩)) else(2,S)) else(S.ex a t,S)
def co.set (a:Wc)(S:co)(x i z:Int):co:=⟨{S.s with ws:=f7 a.N S.s.y S.s.g S.s.ws x i z,M:=stM a.N S.s.y S.s.g S.s.ws x i z (dY a.O) S.s.M},S.r,S.q⟩
def co.st (S:co)(R:Nat)(x:Int):co:=⟨{S.s with rs:=S.s.rs.set R x},S.r,S.q⟩
def co.hd (a:Wc)(S:co)(k R A B I n:Int):Int×co:=
 if dP k R A B n=0 then(if k=9 then S.reg a (S.s.rs.getD A.toNat 0) (S.s.rs.getD B.toNat 0) else if k=12 then(dX a.N S.s.y S.s.g S.s.ws (S.s.rs.getD A.toNat 0) I,S.set a (S.s.rs.getD A.toNat 0) I (S.s.rs.getD B.toNat 0))
  else if k=15 then(S.code a,S.cut a) else if k=16 then(S.it a,S.dE a)
  else if(S.rt a k A.toNat B.toNat I n).2.1=0 then(0,(S.rt a k A.toNat B.toNat I n).2.2.st R.toNat (S.rt a k A.toNat B.toNat I n).1) else((S.rt a k A.toNat B.toNat I n).2.1,(S.rt a k A.toNat B.toNat I n).2.2))
 else(dP k R A B n,S)
theorem AF (k:cf):∀(l:List Int)(s:ck),(l.foldl k.eL s).rs=s.rs
 |[],_=>rfl
 |x::l,s=>by rw[a9,AF k l];unfold cf.eL;split<;>rfl
theorem AG (k:cf):∀(l:List Int)(s:ck),(l.foldl k.gy s).rs=s.rs
 |[],_=>rfl
 |x::l,s=>by rw[a9,AG k l];rfl
section
variable {a:Wc}{S:co}{Y G:List Int}
theorem eA.Ib (h:eA a S.s Y G)(hb:cJ a S.s):cJ a (S.cut a).s:=by
 unfold co.cut;cases hf:S.full a
 ·have f:S.s.y<=a.O-S.s.g:=by exact qD
  obtain⟨K,D,c⟩:=qS h hb f;rw[aH ac];have c4:=c.li.mi.ci;have c5:=(c4.mw (fun x b=>(c4.ip x b).1)).1;have d:=(c5.be (fun x b=>(c5.hL x b).1)).1;have e:(S.s6 a).rs=(S.s4 a).rs:=(AG _ _ _).trans (AF _ _ _)
  exact⟨hb.n0,hb.n1,hb.o1,aX _,d.hg,d.len,(e▸c.rl)⟩
 ·exact hb
theorem eA.Ic (h:eA a S.s Y G)(hb:cJ a S.s):cJ a (S.dE a).s:=by
 cases hf:S.fI a
 ·obtain⟨_,g,_⟩:=lY h hb hf;exact(g.gc.inv h hb g.al).2
 ·have b:S.dE a=S:=by unfold co.dE;rw[aJ hf]
  rw[b];exact hb
theorem eA.store {s:eh}(h:eA a s Y G)(hb:cJ a s){v i z:Int}(d:v∈Y)(e:0<=i)(f:i<pf (ld a.N s.y s.g s.ws v))(hz:c7 z=true->cj z∈Y\/cj z∈G):eA a {s with ws:=s.ws.set (v+1+i).toNat z} Y G:=by
 refine⟨h.inv.set hb.l1 hb.y1 hb.g1 (aL d) e f hz,?_⟩
 obtain⟨_,hk⟩:=h.inv.full.set hb.l1 hb.y1 hb.g1 (aL d) e f;have l:=mT h.inv.full d e f;have m:=hb.y1;have hl:=hb.l1;intro u b j j0 c ha g;rw[hk u (aK b)] at c;have n:=mU h.inv.full b j0 c;have hi:=jE h.inv.full (aK b) j0 c;have k:ld a.N s.y s.g (s.ws.set (v+1+i).toNat z) (u+1+j)=ld a.N s.y s.g s.ws (u+1+j):=by rw[ee hi,ee hi,kQ _ _ _ _ aa,aH aa]
 rw[k] at ha g;exact h.cd u b j j0 c ha g
end
theorem eA.any {a:Wc}{s:eh}{Y G:List Int}(h:eA a s Y G)(i:Nat)(ha:c7 (s.rs.getD i 0)=true):cj (s.rs.getD i 0)∈Y\/cj (s.rs.getD i 0)∈G:=by
 by_cases hi:i<s.rs.length
 ·exact h.inv.at i hi ha
 ·rw[aG,List.getElem?_eq_none aa] at ha;exact absurd ha ae
theorem uC (ws:List Int)(y:Nat)(x:Int):∀k,(fp ws y x k).length=ws.length
 |0=>by simp[fp]
 |k+1=>by rw[fp,bf];exact uC ws y x k
structure Ie (a:Wc)(S:co)(kd:Int)(rl:List Nat)(Y G:List Int)(ws:List Int):Prop where
 k:eA a {S.s with y:=S.s.y+1+rl.length,ws:=ws} (Y++[(S.s.y:Int)]) G
 l:ws.length=a.N+a.O
 p:ld a.N (S.s.y+1+rl.length) S.s.g ws S.s.y=hw kd rl.length
 h:∀v,(v∈Y\/v∈G)->ld a.N (S.s.y+1+rl.length) S.s.g ws v=ld a.N S.s.y S.s.g S.s.ws v
theorem uD {a:Wc}{S:co}{Y G:List Int}{kd:Int}{rl:List Nat}(h:eA a S.s Y G)(hb:cJ a S.s)(hk:hc kd rl.length=0)(l:S.s.y+1+rl.length<=a.N):∀j,j<=rl.length->Ie a S kd rl Y G (gC S.s.rs S.s.y (eR a.N S.s.y kd rl.length S.s.ws) rl j)
 |0,_=>by
  have hm:hC a.N S.s.y kd rl.length=true:=by unfold hC;simp;omega
  have o:iC a.N S.s.y kd rl.length=S.s.y+1+rl.length:=by unfold iC;rw[aJ hm];omega
  have f:eR a.N S.s.y kd rl.length S.s.ws=fp S.s.ws S.s.y (hw kd rl.length) rl.length:=by unfold eR;rw[aJ hm];rfl
  have p:=hb.l1;have hlt:S.s.y+rl.length<S.s.ws.length:=aa;have m1:=h.inv.make hb.l1 hm;have m:=kE.make h.inv h.cd hb.l1 hm;rw[o] at m1 m;have q:(eR a.N S.s.y kd rl.length S.s.ws).length=a.N+a.O:=by rw[f,uC];exact p
  refine⟨⟨m1,m⟩,q,?_,fun v d=>?_⟩
  ·show ld a.N _ S.s.g (eR a.N S.s.y kd rl.length S.s.ws) S.s.y=_;rw[f,ee (il aa aa),kR _ _ _ _ _ hlt,aJ aa]
  ·show ld a.N _ S.s.g (eR a.N S.s.y kd rl.length S.s.ws) v=_;rw[f];rcases d with g|g
   ·have hi:=h.inv.full.im v g;exact s9
   ·have hi:=h.inv.full.io v g;exact qo
 |j+1,s=>by
  have b:=uD h hb hk l j aa;have e:gC S.s.rs S.s.y (eR a.N S.s.y kd rl.length S.s.ws) rl (j+1)=(gC S.s.rs S.s.y (eR a.N S.s.y kd rl.length S.s.ws) rl j).set (S.s.y+1+j) (S.s.rs.getD (rl.getD j 0) 0):=rfl;rw[e];generalize gC S.s.rs S.s.y _ rl j=ws at b⊢;have i:cJ a {S.s with y:=S.s.y+1+rl.length,ws:=ws}:=⟨hb.n0,hb.n1,hb.o1,l,hb.g1,b.l,hb.r1⟩
  have k:(S.s.y:Int)∈Y++[(S.s.y:Int)]:=ac;have n:((j:Nat):Int)<pf (ld a.N (S.s.y+1+rl.length) S.s.g ws S.s.y):=by rw[b.p,(pI kd rl.length hk).2.1];omega
  have st:=b.k.store i (z:=S.s.rs.getD (rl.getD j 0) 0) k aa n (fun ha=>by exact(h.any _ ha).imp (fun c=>a7 _ c) id)
  have t:((S.s.y:Int)+1+(j:Nat)).toNat=S.s.y+1+j:=aa;have hs:=(b.k.inv.full.set (z:=S.s.rs.getD (rl.getD j 0) 0) b.l i.y1 i.g1 (aL k) (Int.natCast_nonneg j) n).2;refine⟨st,by rw[bf];exact b.l,(hs _ (aL k)).trans b.p,fun v d=>(hs v (d.imp (fun c=>a7 _ c) id)).trans (b.h v d)⟩
structure d3 (a:Wc)(S:co)(j:Nat):Prop where
 kv:∃Y G,eA a S.s Y G
 eo:jn a S
 m:S.s.M.length<=j
 eF:S.r.length+S.q.length<=24
def n8 (a:Wc)(S:co)(v:Int):Prop:=c7 v=true->tB a.N S.s.y S.s.g S.s.ws v=true
section
variable {a:Wc}{S:co}{j:Nat}
theorem d3.start (a:Wc)(n o:Nat):d3 a (iP n o).1 0:=by
 refine⟨⟨[],[],⟨d_.start,fun x b ha=>?_,fun v c=>?_⟩,fun v c=>(by cases c)⟩,fun e he=>?_,aD _,(show(0:Nat)<=24 by decide)⟩
 ·have b:x∈tw 2 12:=b;have e:x=2:=by simpa[tw] using b
  rw[e,zV] at ha;cases ha
 ·simp_all
 ·rcases he with d|d<;>cases d
theorem d3.mono {i:Nat}(h:d3 a S j)(hi:j<=i):d3 a S i:=⟨h.kv,h.eo,aS h.m hi,h.eF⟩
theorem d3.cut (h:d3 a S j)(hb:cJ a S.s):d3 a (S.cut a) j/\cJ a (S.cut a).s:=by
 obtain⟨Y,G,hk⟩:=h.kv;have l1:=G7 a S;have l2:=h.eF;refine⟨⟨hk.cut hb,h.eo.cut hk hb,?_,aa⟩,hk.Ib hb⟩
 have:=h.m;unfold co.cut;split
 ·omega
 ·exact aX _
theorem d3.dE (h:d3 a S j)(hb:cJ a S.s):d3 a (S.dE a) j/\cJ a (S.dE a).s:=by obtain⟨Y,G,hk⟩:=h.kv;obtain⟨_,g2,g3⟩:=hk.dE hb;have l1:=Hp a S;have l2:=h.eF;have b:=h.m;exact⟨⟨g2,h.eo.dE hk hb,aa,aa⟩,hk.Ic hb⟩
theorem d3.qP (h:d3 a S j)(hb:cJ a S.s):S.fI a=false->∃F,ir (S.k5 a) (S.dI a) F/\F 0 (S.k5 a,0):=by obtain⟨Y,G,hk⟩:=h.kv;exact(hk.dE hb).1
theorem AH (h:S.code a≠0):S.cut a=S:=by
 unfold co.code at h;unfold co.cut;split at h
 ·simp_all
 ·exact absurd rfl h
theorem AI (h:S.it a≠0):S.dE a=S:=by
 unfold co.it at h;unfold co.dE;split at h
 ·simp_all
 ·exact absurd rfl h
theorem If (h:S.code a=0):(S.cut a).s.y=0:=by
 unfold co.code at h;unfold co.cut;split at h
 ·omega
 ·rename_i c;rw[aH c]
theorem Ig {Y G:List Int}(hk:eA a S.s Y G)(hb:cJ a S.s)(h:S.it a=0):(S.dE a).s.y=0:=by
 have b:S.fI a=false:=by
  unfold co.it at h;split at h
  ·omega
  ·simp_all
 obtain⟨_,g,_⟩:=lY hk hb b;exact g.gc.y
theorem d3.room (h:d3 a S j)(hb:cJ a S.s)(m:Int):d3 a (S.room a m).2 j/\cJ a (S.room a m).2.s/\((S.room a m).1=0->m<=16->m<=(a.N:Int)-(S.room a m).2.s.y)/\((S.room a m).1≠0->(S.room a m).2=S):=by
 obtain⟨Y,G,hk⟩:=h.kv;have n0:=hb.n0;unfold co.room;split
 ·simp_all
 ·split
  ·obtain⟨b,c⟩:=h.cut hb;refine⟨b,c,fun q _=>?_,fun q=>AH q⟩
   rw[If q];omega
  ·obtain⟨b,c⟩:=h.dE hb;refine⟨b,c,fun q _=>?_,fun q=>AI q⟩
   rw[Ig hk hb q];omega
theorem d3.put (h:d3 a S j)(hb:cJ a S.s){kd:Int}{rl:List Nat}(hk:hc kd rl.length=0)(d:S.s.y+1+rl.length<=a.N):d3 a (S.put a kd rl) j/\cJ a (S.put a kd rl).s/\n8 a (S.put a kd rl) (ew 3 S.s.y):=by
 obtain⟨Y,G,kv⟩:=h.kv;have p:=uD kv hb hk d rl.length bY
 have b:cJ a (S.put a kd rl).s:=⟨hb.n0,hb.n1,hb.o1,d,hb.g1,p.l,hb.r1⟩
 have n1:=hb.n1;have y1:=hb.y1;refine⟨⟨⟨_,_,p.k⟩,?_,h.m,h.eF⟩,b,fun _=>?_⟩
 ·exact h.eo.more kv hb p.k.inv.full b.y1 b.g1 (fun v e=>e.imp (fun c=>a7 _ c) id)
 ·obtain⟨f,g⟩:=mS S.s.y aa;exact(iY p.k.inv.full b.n1 b.y1 b.o1 b.g1).2 ⟨f,aL (by rw[g];simp)⟩
theorem d3.b8 (h:d3 a S j)(hb:cJ a S.s){kd:Int}{rl:List Nat}(hk:hc kd rl.length=0):d3 a (S.b8 a kd rl).2.2 j/\cJ a (S.b8 a kd rl).2.2.s/\((S.b8 a kd rl).2.1=0->n8 a (S.b8 a kd rl).2.2 (S.b8 a kd rl).1)/\((S.b8 a kd rl).2.1≠0->(S.b8 a kd rl).2.2=S):=by
 obtain⟨b,d,e,k⟩:=h.room hb _;have hl:=iH kd rl.length hk;unfold co.b8;split
 ·rename_i c;obtain⟨f,g,i⟩:=b.put d hk (by have:=e c aa;omega)
  exact⟨f,g,fun _=>i,fun q=>absurd rfl q⟩
 ·simp_all
theorem d3.root (h:d3 a S j)(hb:cJ a S.s)(i:Nat):n8 a S (S.s.rs.getD i 0):=fun ha=>by obtain⟨Y,G,kv⟩:=h.kv;exact(iY kv.inv.full hb.n1 hb.y1 hb.o1 hb.g1).2 ⟨ha,kv.any i ha⟩
theorem rj {n:Int}(h:vc 1 n=0):n8 a S (ew 1 n):=fun ha=>by rw[(m4 1 n h).1] at ha;exact absurd ha ae
theorem d3.rt (h:d3 a S j)(hb:cJ a S.s){k n:Int}(A B:Nat)(I:Int)(hk:em k n=0):d3 a (S.rt a k A B I n).2.2 j/\cJ a (S.rt a k A B I n).2.2.s/\((S.rt a k A B I n).2.1=0->n8 a (S.rt a k A B I n).2.2 (S.rt a k A B I n).1)/\((S.rt a k A B I n).2.1≠0->(S.rt a k A B I n).2.2=S):=by
 unfold co.rt;by_cases b:k=1
 ·rw[aJ b];exact⟨h,hb,fun q=>rj q,fun _=>rfl⟩
 rw[aH b];by_cases f:k=3
 ·rw[aJ f];exact⟨h,hb,fun _=>h.root hb A,fun _=>rfl⟩
 rw[aH f];by_cases g:k=4
 ·rw[aJ g];exact h.b8 hb rfl
 rw[aH g];by_cases c:k=5
 ·rw[aJ c];refine h.b8 hb ?_;unfold em at hk;rw[aH b,aJ c] at hk;have:=iH 2 n hk;rw[bB,show((n.toNat:Nat):Int)=n by omega];exact hk
 rw[aH c];by_cases i:k=6
 ·rw[aJ i];exact h.b8 hb rfl
 rw[aH i];by_cases l:k=7
 ·rw[aJ l];exact h.b8 hb rfl
 rw[aH l];by_cases m:k=8
 ·rw[aJ m];exact h.b8 hb rfl
 rw[aH m];by_cases o:k=10
 ·rw[aJ o];unfold co.pop;generalize S.s.rs.getD A 0=x;split
  ·split
   ·rename_i hi;have w:S.q.getD (dV x S.q) (0,0)∈S.q:=by simp_all
    have sub:∀e,e∈S.q.take (dV x S.q)++S.q.drop (dV x S.q+1)->e∈S.q:=fun e he=>by
     rcases List.mem_append.1 he with d|d
     ·exact List.mem_of_mem_take d
     ·exact List.mem_of_mem_drop d
    refine⟨⟨h.kv,fun e he=>h.eo e (he.imp id (sub e)),h.m,?_⟩,hb,fun _ _=>(h.eo _ (aK w)).2,fun q=>absurd rfl q⟩
    have:=h.eF;dsimp only;rw[aZ,bu,List.length_drop];omega
   ·simp_all
  ·simp_all
 rw[aH o];by_cases p:k=11
 ·rw[aJ p];refine⟨h,hb,fun q ha=>?_,fun _=>rfl⟩
  have q:=q;rw[aJ q] at ha⊢;obtain⟨Y,G,kv⟩:=h.kv;obtain⟨F,N,t3,s⟩:=mR q;obtain⟨_,t⟩:=(iY kv.inv.full hb.n1 hb.y1 hb.o1 hb.g1).1 F;rw[kv.inv.full.stands hb.y1 t] at s;exact(iY kv.inv.full hb.n1 hb.y1 hb.o1 hb.g1).2 ⟨ha,kv.inv.fd _ t I t3 s ha⟩
 rw[aH p];by_cases u:k=13
 ·rw[aJ u];unfold co.len;split
  ·exact⟨h,hb,fun q=>rj q,fun _=>rfl⟩
  ·simp_all
 rw[aH u];by_cases v:k=14
 ·rw[aJ v];refine⟨h,hb,fun _=>?_,fun _=>rfl⟩
  dsimp only;split
  ·exact rj ae
  ·exact rj ae
 rw[aH v];exact⟨h,hb,fun _ ha=>by assumption,fun _=>rfl⟩
theorem d3.st (h:d3 a S j)(hb:cJ a S.s){R:Nat}{x:Int}(b:n8 a S x):d3 a (S.st R x) j/\cJ a (S.st R x).s:=by
 obtain⟨Y,G,kv⟩:=h.kv;refine⟨⟨⟨Y,G,kv.root R x (fun ha=>(iY kv.inv.full hb.n1 hb.y1 hb.o1 hb.g1).1 (b ha) |>.2)⟩,fun e he=>h.eo e he,h.m,h.eF⟩,⟨hb.n0,hb.n1,hb.o1,hb.y1,hb.g1,hb.l1,?_⟩⟩
 show(S.s.rs.set R x).length=12;rw[bf];exact hb.r1
theorem d3.set (h:d3 a S j)(hb:cJ a S.s)(A B:Nat)(I:Int):d3 a (S.set a (S.s.rs.getD A 0) I (S.s.rs.getD B 0)) (j+1)/\cJ a (S.set a (S.s.rs.getD A 0) I (S.s.rs.getD B 0)).s:=by
 obtain⟨Y,G,kv⟩:=h.kv;refine⟨⟨⟨Y,G,?_,kE.set kv.inv kv.cd hb.l1 hb.n1 hb.y1 hb.o1 hb.g1 _ _ _⟩,?_,?_,h.eF⟩,⟨hb.n0,hb.n1,hb.o1,hb.y1,hb.g1,?_,hb.r1⟩⟩
 ·show h7 a.N S.s.y S.s.g (f7 a.N S.s.y S.s.g S.s.ws (S.s.rs.getD A 0) I (S.s.rs.getD B 0)) Y G S.s.rs;by_cases d:dX a.N S.s.y S.s.g S.s.ws (S.s.rs.getD A 0) I=0
  ·obtain⟨f,k,t3,e⟩:=mR d;obtain⟨_,b⟩:=(iY kv.inv.full hb.n1 hb.y1 hb.o1 hb.g1).1 f;rw[kv.inv.full.stands hb.y1 b] at e;unfold f7;rw[aJ d,aJ (jE kv.inv.full b t3 e)];exact kv.inv.set hb.l1 hb.y1 hb.g1 b t3 e (fun i=>kv.any B i)
  ·rw[(nV (M:=S.s.M) (c:=dY a.O) d).1];exact kv.inv
 ·exact h.eo.more kv hb (kv.inv.full.f7 hb.l1 hb.n1 hb.y1 hb.o1 hb.g1 (S.s.rs.getD A 0) I (S.s.rs.getD B 0)) hb.y1 hb.g1 (fun v b=>b)
 ·have:=h.m;have:=GS (N:=a.N) (y:=S.s.y) (g:=S.s.g) (ws:=S.s.ws) (S.s.rs.getD A 0) I (S.s.rs.getD B 0) (dY a.O) S.s.M;show(stM a.N S.s.y S.s.g S.s.ws _ I _ (dY a.O) S.s.M).length<=j+1;omega
 ·show(f7 a.N S.s.y S.s.g S.s.ws _ I _).length=a.N+a.O;unfold f7;split
  ·split
   ·rw[bf];exact hb.l1
   ·exact hb.l1
  ·exact hb.l1
theorem Ih {x i z:Int}(h:dX a.N S.s.y S.s.g S.s.ws x i≠0):S.set a x i z=S:=by unfold co.set;rw[(nV (M:=S.s.M) (c:=dY a.O) h).1,(nV h).2]
theorem Ii {x:Int}(h:S.ex a x=0):tB a.N S.s.y S.s.g S.s.ws x=true:=by
 unfold co.ex at h;split at h
 ·assumption
 ·omega
theorem Ij {x:Int}(h:S.kx a x=5):tB a.N S.s.y S.s.g S.s.ws x=true:=by
 unfold co.kx at h;split at h
 ·assumption
 ·omega
theorem d3.reg (h:d3 a S j)(hb:cJ a S.s)(t g:Int):d3 a (S.reg a t g).2 j/\cJ a (S.reg a t g).2.s/\((S.reg a t g).1≠0->(S.reg a t g).2=S):=by
 unfold co.reg;split
 ·rename_i c1;split
  ·rename_i c2;split
   ·simp_all
   ·rename_i c3;refine⟨⟨h.kv,fun e he=>?_,h.m,?_⟩,hb,fun q=>absurd rfl q⟩
    ·rcases he with b|b
     ·rcases List.mem_append.1 b with b|b
      ·exact h.eo e (aL b)
      ·rw[List.mem_singleton.1 b];exact⟨Ij c2,Ii c1⟩
     ·exact h.eo e (aK b)
    ·dsimp only;rw[aZ,List.length_singleton];omega
  ·simp_all
 ·simp_all
theorem AJ {k R A B n:Int}(h:dP k R A B n=0):em k n=0:=by
 unfold dP at h;split at h
 ·omega
 ·split at h
  ·omega
  ·exact h
theorem d3.hd (h:d3 a S j)(hb:cJ a S.s)(k R A B I n:Int):d3 a (S.hd a k R A B I n).2 (j+1)/\cJ a (S.hd a k R A B I n).2.s/\((S.hd a k R A B I n).1≠0->(S.hd a k R A B I n).2=S):=by
 unfold co.hd;split
 ·rename_i hc;split
  ·obtain⟨r1,b,r3⟩:=h.reg hb _ _;exact⟨r1.mono aa,b,r3⟩
  ·split
   ·obtain⟨r1,b⟩:=h.set hb A.toNat B.toNat I;exact⟨r1,b,fun q=>Ih q⟩
   ·split
    ·obtain⟨r1,b⟩:=h.cut hb;exact⟨r1.mono aa,b,fun q=>AH q⟩
    ·split
     ·obtain⟨r1,b⟩:=h.dE hb;exact⟨r1.mono aa,b,fun q=>AI q⟩
     ·obtain⟨r1,b,r3,d⟩:=h.rt hb A.toNat B.toNat I (AJ hc)
      split
      ·rename_i c;obtain⟨s1,s2⟩:=r1.st b (r3 c)
       exact⟨s1.mono aa,s2,fun q=>absurd rfl q⟩
      ·rename_i c;exact⟨r1.mono aa,b,fun _=>d c⟩
 ·exact⟨h.mono aa,hb,fun _=>rfl⟩
end
theorem AK (rs:List Int)(y:Nat)(ws:List Int)(rl:List Nat):∀k,(gC rs y ws rl k).length=ws.length
 |0=>rfl
 |k+1=>by show((gC rs y ws rl k).set _ _).length=_;rw[bf];exact AK rs y ws rl k
theorem rk (rs:List Int)(y:Nat)(ws:List Int)(rl:List Nat):∀k,y+k<ws.length->∀q,(gC rs y ws rl k).getD q 0=if y+1<=q/\q<y+1+k then rs.getD (rl.getD (q-y-1) 0) 0 else ws.getD q 0
 |0,_,q=>by rw[aH aa];rfl
 |k+1,h,q=>by
  show((gC rs y ws rl k).set _ _).getD q 0=_;rw[pz _ _ _ _ _ (by rw[AK];omega),rk rs y ws rl k aa q];by_cases c:y+1+k=q
  ·rw[aJ c,aJ aa,show q-y-1=k by omega]
  ·omega
theorem Ik (W:cn)(g:gZ)(ca b8 m:Int):(W.room g ca b8 m).2.rs=W.rs:=by
 unfold cn.room;split
 ·rfl
 ·unfold cn.cut;split<;>rfl
section
variable {a:Wc}{S:co}{W:cn}{m:Nat->Int}{Y G:List Int}{j:Nat}{g:gZ}
theorem cz.made (h:cz a S W m Y G)(hb:cJ a S.s){kd:Int}{rl:List Nat}(hk:hc kd rl.length=0)(g:S.s.y+1+rl.length<=a.N)(i:∀q∈rl,q<12):
 cz a (S.put a kd rl) {W with T:=W.T++[(kd,rl.map (fun q=>W.rs.getD q (0,0)),false,false)]} (m0 m W.T.length S.s.y) (Y++[(S.s.y:Int)]) G:=by
 have p:=uD h.kv hb hk g rl.length bY
 have b:(rl.map (fun q=>W.rs.getD q (0,0))).length=rl.length:=aU ..;have hl:=hb.l1;have j:hC a.N S.s.y kd rl.length=true:=by unfold hC;simp;omega
 have c:eR a.N S.s.y kd rl.length S.s.ws=fp S.s.ws S.s.y (hw kd rl.length) rl.length:=by unfold eR;rw[aJ j];rfl
 have l:(eR a.N S.s.y kd rl.length S.s.ws).length=S.s.ws.length:=by rw[c,uC]
 have d:S.s.y+rl.length<S.s.ws.length:=aa;have keep:∀q:Int,((0<=q/\q<S.s.y)\/((a.N:Int)<=q/\q<a.N+S.s.g))->ld a.N (S.s.y+1+rl.length) S.s.g (gC S.s.rs S.s.y (eR a.N S.s.y kd rl.length S.s.ws) rl rl.length) q=ld a.N S.s.y S.s.g S.s.ws q:=fun q hq=>by
  rcases hq with⟨q0,q1⟩|⟨q0,q1⟩
  ·rw[ee (il q0 aa),ee (il q0 q1),rk _ _ _ _ _ aa,aH aa,c,kR _ _ _ _ _ d,aH aa,aH aa]
  ·rw[ee (hK q0 q1),ee (hK q0 q1),rk _ _ _ _ _ ((l▸d)),aH aa,c,kR _ _ _ _ _ d,aH aa,aH aa]
 refine h.new ((b▸hk)) (fun v e=>?_) rfl g p.k ((b▸p.p)) (fun k hk=>?_) p.h (fun v e k hk=>?_)
 ·obtain⟨q,hq,rfl⟩:=List.mem_map.1 e;exact(h.root (i q hq)).2
 ·rw[b] at hk;show ld a.N (S.s.y+1+rl.length) S.s.g (gC S.s.rs S.s.y (eR a.N S.s.y kd rl.length S.s.ws) rl rl.length) _=_;rw[ee (il aa aa),rk _ _ _ _ _ aa,aJ aa,jJ (fun q=>W.rs.getD q (0,0)) rl k 0 (0,0) hk,<-(h.root (i _ (getD_in hk))).1,show((S.s.y:Int)+1+k).toNat-S.s.y-1=k by omega]
 ·exact keep _ (e.imp (fun f=>mT h.kv.inv.full f (Int.natCast_nonneg k) hk) (fun f=>mU h.kv.inv.full f (Int.natCast_nonneg k) hk))
theorem cz.Il (h:cz a S W m Y G)(hb:cJ a S.s)(hg:∀T wt,gD T wt->ed T wt (g T wt))(b:Int):(S.room a b).1=(W.room g a.N a.O b).1/\∃f i j,cz a (S.room a b).2 (W.room g a.N a.O b).2 f i j:=by
 have d:=hg _ _ h.iv;unfold co.room cn.room;rw[h.us hb];by_cases c:b<=(a.N:Int)-S.s.y
 ·rw[aJ c,aJ c];exact⟨rfl,m,Y,G,h⟩
 ·rw[aH c,aH c];by_cases e:(S.s.y:Int)<=(a.O:Int)-S.s.g
  ·rw[aJ e,bA aa];exact⟨h.Av hb d,h.cut hb d⟩
  ·rw[aH e,bq aa];exact⟨h.it hb d,h.dE hb d⟩
def l7 (a:Wc)(t:Int×Int×co)(u:(Int×Int)×Int×cn):Prop:=t.2.1=u.2.1/\∃b c d,cz a t.2.2 u.2.2 b c d/\(t.2.1=0->t.1=wv b u.1/\dO u.2.2.T u.1)
theorem cz.grown (h:cz a S W m Y G)(ok:d3 a S j)(hb:cJ a S.s)(hg:∀T wt,gD T wt->ed T wt (g T wt)){kd:Int}{rl:List Nat}(hk:hc kd rl.length=0)(i:∀q∈rl,q<12):l7 a (S.b8 a kd rl) (W.b8 g a.N a.O kd (rl.map (fun q=>W.rs.getD q (0,0)))):=by
 obtain⟨b,k,l,n,f⟩:=h.Il hb hg _;obtain⟨ok',o,p,_⟩:=ok.room hb _;have hl:=iH kd rl.length hk;unfold l7 co.b8 cn.b8;rw[aU];by_cases c:(S.room a (1+rl.length)).1=0
 ·rw[aJ c,aJ (b.symm.trans c)];rw[<-(Ik W g a.N a.O (1+rl.length))];refine⟨rfl,_,_,_,(f.made o hk aa i),fun _=>⟨?_,⟨fun _=>⟨ac,?_⟩,fun e=>absurd rfl e⟩⟩⟩
  ·rw[ib rfl];unfold m0;simp
  ·have:=(z7 (t:=(kd,rl.map (fun q=>(W.room g a.N a.O (1+rl.length)).2.rs.getD q (0,0)),false,false)) rfl (W.room g a.N a.O (1+rl.length)).2.T.length).2 (aK rfl)
   simpa[cn.put] using this
 ·rw[aH c,aH (fun d=>c (b.trans d))];exact⟨b,k,l,n,f,fun d=>absurd d c⟩
theorem cz.kx (h:cz a S W m Y G)(hb:cJ a S.s){v:Int×Int}(d:dO W.T v):(S.kx a (wv m v)=5↔jR W.T v=true)/\((S.ex a (wv m v)=0/\S.kx a (wv m v)≠5)↔iF W.T v=true)/\(S.ex a (wv m v)=0↔v.1=3)/\(v.1≠3->S.ex a (wv m v)=2)/\(v.1=3->S.fx a (wv m v)=((W.T.getD v.2.toNat t0).2.1.length:Int)):=by
 rw[mG,ky];unfold co.kx co.ex co.fx;rw[h.tB hb d];by_cases c:v.1=3
 ·have e:(v.1==3)=true:=by simpa using c
  obtain⟨f,g,i⟩:=h.parts (d.t c).2;rw[e,aJ rfl,aJ rfl,aJ rfl,(h.vt hb d c).2,f,g,i];exact⟨⟨fun b=>⟨c,b⟩,fun b=>b.2⟩,⟨fun b=>⟨c,b.2⟩,fun b=>⟨rfl,b.2⟩⟩,⟨fun _=>c,fun _=>rfl⟩,fun b=>absurd c b,fun _=>rfl⟩
 ·simp_all
theorem cz.AL (h:cz a S W m Y G){A:Nat}(d:A<12)(I:Int):W.fc (W.rs.getD A (0,0)) I=W.gc A I:=by
 obtain⟨_,e⟩:=h.root d;unfold cn.fc cn.gc cn.th;by_cases c:(W.rs.getD A (0,0)).1=3
 ·rw[aJ c];by_cases c5:(W.T.getD (W.rs.getD A (0,0)).2.toNat t0).1=5
  ·rw[aH (fun b=>(ky.1 b).2 c5),aJ (aK (show(W.T.getD (W.rs.getD A (0,0)).2.toNat (0,[],false,false)).1=5 from c5))]
  ·have f:¬((W.rs.getD A (0,0)).2<0\/(W.T.getD (W.rs.getD A (0,0)).2.toNat (0,[],false,false)).1=5):=fun b=>b.elim (fun b=>absurd (e.t c).1 aa) c5;rw[aJ (ky.2 ⟨c,c5⟩),aH f];rfl
 ·rw[aH c,aH (fun b=>c (ky.1 b).1),aJ (aL ae)]
theorem cz.cQ (h:cz a S W m Y G)(hb:cJ a S.s){v:Int×Int}(i:dO W.T v)(j:v.1=3):dV (wv m v) S.q=dV v.2 W.wt:=by
 unfold dV;rw[h.wt,List.findIdx_map];have b:∀e∈W.wt,((we m e).1==wv m v)=(e.1==v.2):=fun e he=>by
  have g:=h.dD e he;have k:dO W.T (3,e.1):=⟨fun _=>⟨g.g0,g.g⟩,fun d=>absurd rfl d⟩
  have f:(we m e).1=wv m (3,e.1):=af;rw[f];by_cases c:e.1=v.2
  ·have:((3,e.1):Int×Int)=v:=by rw[<-j,c]
   rw[this,c];simp
  ·have n1:_:=fun d=>c (by have:=h.z6 hb k i d;rw[<-this])
   rw[beq_eq_false_iff_ne.2 n1,beq_eq_false_iff_ne.2 c]
 generalize W.wt=l at b
 induction l with
 |nil=>rfl
 |cons e l n=>
  rw[List.findIdx_cons,List.findIdx_cons];have f:((fun e=>e.1==wv m v)∘we m) e=(e.1==v.2):=b e List.mem_cons_self;rw[f,n (fun x o=>b x (aQ _ o))]
theorem cz.popped (h:cz a S W m Y G)(hb:cJ a S.s){v:Int×Int}(d:dO W.T v):l7 a (S.pop a (wv m v)) (W.pop v):=by
 obtain⟨k1,_⟩:=h.kx hb d;unfold l7 co.pop cn.pop;by_cases c:jR W.T v=true
 ·rw[aJ (k1.2 c),aJ c,h.cQ hb d (mG.1 c).1];have j:S.q.length=W.wt.length:=by rw[h.wt,aU]
  rw[j];generalize dV v.2 W.wt=i;by_cases b:i<W.wt.length
  ·rw[aJ b,aJ b];have f:=h.dD _ (getD_in (x:=(0,0)) b)
   refine⟨rfl,m,Y,G,?_,fun _=>⟨?_,⟨fun _=>⟨f.h0,f.h⟩,fun e=>absurd rfl e⟩⟩⟩
   ·have g:=h.beside (q:=W.wt.take i++W.wt.drop (i+1)) h.gv (fun e he=>h.dD e ((List.mem_append.1 he).elim (fun b=>List.mem_of_mem_take b) (fun b=>List.mem_of_mem_drop b)))
    rw[bC,List.map_take,List.map_drop,<-h.rg,<-h.wt] at g;exact g
   ·show(S.q.getD i (0,0)).2=wv m (3,(W.wt.getD i (0,0)).2)
    rw[h.wt,jJ (we m) W.wt i (0,0) (0,0) b,ib rfl];rfl
  ·rw[aH b,aH b];exact⟨rfl,m,Y,G,h,fun e=>absurd (show(4:Int)=0 from e) ae⟩
 ·rw[aH (fun b=>c (k1.1 b)),aH c];exact⟨rfl,m,Y,G,h,fun e=>absurd (show(2:Int)=0 from e) ae⟩
theorem cz.Im (h:cz a S W m Y G)(hb:cJ a S.s){v:Int×Int}(d:dO W.T v):l7 a (S.len a (wv m v)) (if iF W.T v=true then((1,((W.T.getD v.2.toNat t0).2.1.length:Int)),0,W) else((0,0),2,W)):=by
 obtain⟨_,b,_,_,k5⟩:=h.kx hb d;unfold l7 co.len;by_cases c:iF W.T v=true
 ·have hl:=h.tl v.2.toNat;have ev:vc 1 ((W.T.getD v.2.toNat t0).2.1.length:Int)=0:=by generalize (W.T.getD v.2.toNat t0).2.1.length=n at hl;have:∀n:Fin 13,vc 1 ((n.val:Nat):Int)=0:=ae;exact this ⟨n,aa⟩
  rw[aJ (b.2 c),aJ c,k5 (ky.1 c).1];exact⟨ev,m,Y,G,h,fun _=>⟨af,dO.of ae ev⟩⟩
 ·rw[aH (fun f=>c (b.1 f)),aH c];exact⟨rfl,m,Y,G,h,fun e=>absurd (show(2:Int)=0 from e) ae⟩
theorem cz.got (h:cz a S W m Y G)(hb:cJ a S.s){A:Nat}(c:A<12)(I:Int):l7 a ((if dX a.N S.s.y S.s.g S.s.ws (S.s.rs.getD A 0) I=0 then ld a.N S.s.y S.s.g S.s.ws (cj (S.s.rs.getD A 0)+1+I) else 0),dX a.N S.s.y S.s.g S.s.ws (S.s.rs.getD A 0) I,S)
 ((if W.fc (W.rs.getD A (0,0)) I=0 then(W.T.getD (W.rs.getD A (0,0)).2.toNat t0).2.1.getD I.toNat (0,0) else(0,0)),W.fc (W.rs.getD A (0,0)) I,W):=by
 have code:=h.code hb c I;rw[h.AL c];refine⟨code,m,Y,G,h,fun e=>?_⟩
 have d:=e;obtain⟨er,b⟩:=h.root c;obtain⟨f,j,t3,i⟩:=mR d;rw[er,h.tB hb b] at f;have c3:(W.rs.getD A (0,0)).1=3:=by simpa using f
 obtain⟨z,al⟩:=b.t c3;rw[er,(h.vt hb b c3).2,h.kv.inv.full.stands hb.y1 (h.mem al),(h.parts al).2.1] at i;have hB:I.toNat<(W.T.getD (W.rs.getD A (0,0)).2.toNat t0).2.1.length:=aa;have g:=h.fd _ al I.toNat hB;rw[Int.toNat_of_nonneg t3] at g;rw[aJ d,aJ (code.symm.trans d),er,(h.vt hb b c3).2];exact⟨g,h.fv _ al _ (getD_in hB)⟩
end
section
variable {a:Wc}{S:co}{W:cn}{m:Nat->Int}{Y G:List Int}{j:Nat}{g:gZ}
def n9 (a:Wc)(t:Int×co)(u:Int×cn):Prop:=t.1=u.1/\∃b c d,cz a t.2 u.2 b c d
theorem cz.In (h:cz a S W m Y G)(hb:cJ a S.s){v u:Int×Int}(d:dO W.T v)(g:dO W.T u):n9 a (S.reg a (wv m v) (wv m u)) (W.reg v u):=by
 obtain⟨_,_,j,l,_⟩:=h.kx hb d;obtain⟨k1,_⟩:=h.kx hb g;have n:S.r.length+S.q.length=W.rg.length+W.wt.length:=by rw[h.rg,h.wt,aU,aU]
 unfold n9 co.reg cn.reg;rw[n];by_cases c:v.1=3
 ·rw[aJ (j.2 c)];by_cases b:jR W.T u=true
  ·rw[aJ (k1.2 b),aJ (show v.1=3/\jR W.T u=true from⟨c,b⟩)];by_cases f:24<=W.rg.length+W.wt.length
   ·rw[aJ f,aJ f];exact⟨rfl,m,Y,G,h⟩
   ·rw[aH f,aH f];obtain⟨i,o⟩:=mG.1 b;have p:iu W.T (u.2,v.2):=⟨(g.t i).1,(g.t i).2,o,(d.t c).1,(d.t c).2⟩
    have k:=h.beside (fun e he=>by
     rcases List.mem_append.1 he with q|q
     ·exact h.gv e q
     ·rw[List.mem_singleton.1 q];exact p) h.dD
    have s:(W.rg++[(u.2,v.2)]).map (we m)=S.r++[(wv m u,wv m v)]:=by rw[bC,<-h.rg,ib c,ib i];rfl
    rw[s,<-h.wt] at k;exact⟨rfl,m,Y,G,k⟩
  ·rw[aH (fun q=>b (k1.1 q)),aH (fun q=>b q.2)];exact⟨rfl,m,Y,G,h⟩
 ·rw[aH (fun q=>c (j.1 q)),aH (fun q=>c q.1),l c];exact⟨rfl,m,Y,G,h⟩
theorem cz.Io (h:cz a S W m Y G)(hb:cJ a S.s){A B:Nat}(b:A<12)(hB:B<12)(I:Int):n9 a (dX a.N S.s.y S.s.g S.s.ws (S.s.rs.getD A 0) I,S.set a (S.s.rs.getD A 0) I (S.s.rs.getD B 0)) (W.set (W.rs.getD A (0,0)) I (W.rs.getD B (0,0))):=by
 have code:=h.code hb b I;unfold n9 cn.set co.set;rw[h.AL b];refine⟨code,m,Y,G,?_⟩
 by_cases c0:W.gc A I=0
 ·rw[aJ c0];have c:=code.trans c0;obtain⟨er,d⟩:=h.root b;obtain⟨i,j⟩:=h.root hB;obtain⟨f,n,t3,g⟩:=mR c;rw[er,h.tB hb d] at f;have c3:(W.rs.getD A (0,0)).1=3:=by simpa using f
  obtain⟨z,al⟩:=d.t c3;rw[er,(h.vt hb d c3).2,h.kv.inv.full.stands hb.y1 (h.mem al),(h.parts al).2.1] at g;have hw:f7 a.N S.s.y S.s.g S.s.ws (S.s.rs.getD A 0) I (S.s.rs.getD B 0)=S.s.ws.set (m (W.rs.getD A (0,0)).2.toNat+1+(I.toNat:Nat)).toNat (wv m (W.rs.getD B (0,0))):=by unfold f7;rw[aJ c,er,(h.vt hb d c3).2,i];rw[aJ (jE h.kv.inv.full (h.mem al) t3 (((h.parts al).2.1▸g))),Int.toNat_of_nonneg t3]
  exact h.store hb al aa j hw (h.kv.set hb A B b I hB)
 ·rw[aH c0];have c:_:=fun e=>c0 (code.symm.trans e)
  obtain⟨k,l⟩:=nV c;rw[k,l];exact h
theorem Ip (n:Nat)(h:n<=12):hc 2 (n:Int)=0:=by have:∀n:Fin 13,hc 2 ((n.val:Nat):Int)=0:=ae;exact this ⟨n,aa⟩
theorem cz.rt (h:cz a S W m Y G)(ok:d3 a S j)(hb:cJ a S.s)(hg:∀T wt,gD T wt->ed T wt (g T wt)){k R A B n:Int}(I:Int)(s:dP k R A B n=0):l7 a (S.rt a k A.toNat B.toNat I n) (W.rt g a.N a.O k A.toNat B.toNat I n):=by
 have d:cU k=3\/cU k=6\/cU k=7->A.toNat<12:=fun t=>by have:=nz s t;omega
 have hB:cU k=6\/cU k=7->B.toNat<12:=fun t=>by have:=nA s t;omega
 have two:∀q∈[A.toNat,B.toNat],cU k=7->q<12:=fun q hq t=>by simp at hq;omega
 unfold co.rt cn.rt;by_cases e:k=1
 ·rw[aJ e,aJ e];subst e;have ev:=xK s;exact⟨ev,m,Y,G,h,fun _=>⟨af,dO.of ae ev⟩⟩
 rw[aH e,aH e];by_cases f:k=3
 ·rw[aJ f,aJ f];subst f;obtain⟨er,b⟩:=h.root (d ae)
  exact⟨rfl,m,Y,G,h,fun _=>⟨er,b⟩⟩
 rw[aH f,aH f];by_cases v:k=4
 ·subst v;exact h.grown ok hb hg (show hc 1 2=0 by decide) (fun q hq=>two q hq ae)
 rw[aH v,aH v];by_cases w:k=5
 ·subst w;have ag:=sV s;have:=h.grown ok hb hg (kd:=2) (rl:=List.replicate n.toNat A.toNat) ((bB▸Ip _ aa)) (fun q hq=>(List.eq_of_mem_replicate hq▸d ae))
  rw[List.map_replicate] at this
  exact this
 rw[aH w,aH w];by_cases x:k=6
 ·subst x;exact h.grown ok hb hg (show hc 3 2=0 by decide) (fun q hq=>two q hq ae)
 rw[aH x,aH x];by_cases F:k=7
 ·subst F;exact h.grown ok hb hg (show hc 4 2=0 by decide) (fun q hq=>two q hq ae)
 rw[aH F,aH F];by_cases u:k=8
 ·rw[aJ u,aJ u];exact h.grown ok hb hg ae (fun q hq=>by cases hq)
 rw[aH u,aH u];by_cases i:k=10
 ·rw[aJ i,aJ i];subst i;obtain⟨er,b⟩:=h.root (d ae)
  rw[er];exact h.popped hb b
 rw[aH i,aH i];by_cases l:k=11
 ·rw[aJ l,aJ l];subst l;exact h.got hb (d ae) I
 rw[aH l,aH l];by_cases o:k=13
 ·rw[aJ o,aJ o];subst o;obtain⟨er,b⟩:=h.root (d ae)
  rw[er];exact h.Im hb b
 rw[aH o,aH o];by_cases p:k=14
 ·rw[aJ p,aJ p];subst p;obtain⟨er,b⟩:=h.root (d ae)
  obtain⟨N,ab⟩:=h.root (hB ae)
  rw[er,N];by_cases c:W.rs.getD A.toNat (0,0)=W.rs.getD B.toNat (0,0)
  ·rw[aJ (by rw[c]),aJ c];exact⟨rfl,m,Y,G,h,fun _=>⟨af,dO.of ae ae⟩⟩
  ·rw[aH (fun ad=>c (h.z6 hb b ab ad)),aH c];exact⟨rfl,m,Y,G,h,fun _=>⟨by assumption,dO.of ae ae⟩⟩
 rw[aH p,aH p];exact⟨rfl,m,Y,G,h,fun _=>⟨af,dO.nil _⟩⟩
theorem cz.hds (h:cz a S W m Y G)(ok:d3 a S j)(hb:cJ a S.s)(hg:∀T wt,gD T wt->ed T wt (g T wt))(k R A B I n:Int):n9 a (S.hd a k R A B I n) (W.eB g a.N a.O k R A B I n):=by
 have f:=hg _ _ h.iv;unfold co.hd cn.eB;by_cases b:dP k R A B n=0
 ·rw[aJ b,aJ b];have q:cU k=3\/cU k=6\/cU k=7->A.toNat<12:=fun l=>by have:=nz b l;omega
  have hB:cU k=6\/cU k=7->B.toNat<12:=fun l=>by have:=nA b l;omega
  by_cases d:k=9
  ·rw[aJ d,aJ d];subst d;obtain⟨er,o⟩:=h.root (q ae)
   obtain⟨ag,ai⟩:=h.root (hB ae)
   rw[er,ag];exact h.In hb o ai
  rw[aH d,aH d];by_cases e:k=12
  ·rw[aJ e,aJ e];subst e;exact h.Io hb (q ae) (hB ae) I
  rw[aH e,aH e];by_cases i:k=15
  ·rw[aJ i,aJ i];exact⟨h.Av hb f,h.cut hb f⟩
  rw[aH i,aH i];by_cases e16:k=16
  ·rw[aJ e16,aJ e16];exact⟨h.it hb f,h.dE hb f⟩
  rw[aH e16,aH e16];have ht:=h.rt ok hb hg I b;obtain⟨o1,s,_⟩:=ok.rt hb A.toNat B.toNat I (sU b)
  generalize S.rt a k A.toNat B.toNat I n=t at*;generalize W.rt g a.N a.O k A.toNat B.toNat I n=u at*;obtain⟨x,cd,al⟩:=t;obtain⟨v,ap,ar⟩:=u;obtain⟨w,F,N,ab,p,ad⟩:=ht;dsimp only at w p ad s⊢;subst w;by_cases c:cd=0
  ·rw[aJ c,aJ c];obtain⟨ex,o⟩:=ad c;subst ex;exact⟨rfl,F,N,ab,p.put s R.toNat o⟩
  ·rw[aH c,aH c];exact⟨rfl,F,N,ab,p⟩
 ·rw[aH b,aH b];exact⟨rfl,m,Y,G,h⟩
end
section
variable {a:Wc}{hp:Nat}{F:Nat->Prop}{S:co}{w:aw}
theorem uE (h:(cv a hp).J F S w)(x:Int):
 Calls prog 48 #[am a.pw,ak x] w fun e w'=>e=.returned (.tuple #[ak (S.kx a x),ak (S.fx a x),ak (S.ex a x)])/\Below w.heap.size w w':=
 B8 x w (eI h).c0 (jo h).1
theorem AM (h:(cv a hp).J F S w)(x:Int):
 Calls prog 121 #[am hp,ak x] w fun e w'=>e=.returned (.bool (S.kx a x==5))/\Below w.heap.size w w':=by
 have P:=uE h x;obtain⟨h0,_⟩:=eI h;go_enter func121,ntmps121;go_wp2_with fail;refine P.mono ?_;rintro e w1 ⟨rfl,hb1⟩
 exact lz
theorem Iq {q:List b9}{g:Int}{i:Nat}(hi:i<q.length)(b:(q.getD i (0,0)).1=g)(c:∀e∈q.take i,¬e.1=g):dV g q=i:=by
 refine(List.findIdx_eq hi).2 ⟨?_,fun j d=>?_⟩
 ·rw[aG,aI hi] at b;simpa using b
 ·have:=c (q[j]'aa) (by rw[List.mem_take_iff_getElem];exact⟨j,aa,rfl⟩)
  simpa using this
theorem Ir (h:(fB a).J F S w)(g:Int)(hq:S.q.length<=90000):
 Calls prog 194 #[am a.sd,ak g] w fun e w'=>∃m,e=.returned (.tuple #[ak (if dV g S.q<S.q.length then(S.q.getD (dV g S.q) (0,0)).2 else 0),.bool (decide (dV g S.q<S.q.length))])/\(fB a).J m (if dV g S.q<S.q.length then⟨S.s,S.r,S.q.take (dV g S.q)++S.q.drop (dV g S.q+1)⟩ else S) w'/\ce F w m w':=by
 have q:=h;obtain⟨n,ar,f,⟨s,t,u,j,v,x,B,o,p,ai,N⟩,r0,r1,k⟩:=h;refine(D6 w a.sd ar t f u S.r S.q g ⟨v,r0,x⟩ hq).mono ?_;rintro e w' (⟨rfl,W,hb⟩|⟨i,b1,c1,rfl,hi,g1,g2,hs,ab,fr⟩)
 ·have l:¬dV g S.q<S.q.length:=fun c=>by
   unfold dV at c;have:=List.findIdx_getElem (w:=c)
   exact W _ (a_ c) (by simpa using this)
  rw[aH l,aH l,bA l];exact⟨F,rfl,(fB a).below q hb,ce.of hb⟩
 ·rw[(Iq hi g1 g2),aJ hi,aJ hi,bq hi];have nq:∀b,some b=(Value.slice b1 (S.q.take i++S.q.drop (i+1)).length c1).ownBlock->w.heap.size<=b:=fun b e=>by
   cases b1 with
   |none=>simp[Value.ownBlock] at e
   |some z=>
    simp[Value.ownBlock] at e;rw[e];exact ab z rfl
  refine⟨fun b=>(n b\/some b=(Value.slice b1 _ c1).ownBlock)\/some b=(Value.slice ar S.r.length f).ownBlock,rfl,⟨fun b=>n b\/some b=(Value.slice b1 _ c1).ownBlock,ar,f,⟨s,b1,c1,(d5 a).keep j fr.size (fun b d=>fr.block b ((d5 a).lt j b d) (fun e=>p (by have e:=e;rw[<-e];exact d))),hs.blk,hs.q0,fun b d=>aL (B b d),aL o,p,fun b e=>⟨aK e,fun d=>by have ad:=(d5 a).lt j b d;have ag:=nq b e;omega⟩,fun b d=>?_⟩,hs.r0,fun b e d=>?_,fun b=>Iff.rfl⟩,⟨fr.mono (fun b d=>(k b).2 (aL (by have d:=d;rw[d];exact o))),fun b d=>?_⟩⟩
  ·rcases d with d|d
   ·exact aO (N b d) fr.size
   ·exact(cg hs.q0 b d).2
  ·rcases d with d|d
   ·exact r1 b e d
   ·have ad:=(cg r0 b e).2;have ag:=nq b d;omega
  ·rcases d with(d|d)|d
   ·exact aL ((k b).2 (aL d))
   ·exact aK (nq b d)
   ·exact aL ((k b).2 (aK d))
theorem Is (x y:Int)(w:aw):
 Calls prog 127 #[ak x,ak y] w fun e w'=>e=.returned (.tuple #[ak (if x=y then ew 1 1 else ew 1 0),ak 0])/\Below w.heap.size w w':=by
 by_cases e:x=y
 ·subst e;rw[aJ rfl];have P:=oD 1 w;rw[show vc 1 1=0 by decide] at P;exact AD
 ·have P:=oD 0 w;exact AD
theorem It (h:(cv a hp).J F S w)(x:Int):
 Calls prog 126 #[am hp,ak x] w fun e w'=>e=.returned (.tuple #[ak (S.len a x).1,ak (S.len a x).2.1])/\Below w.heap.size w w':=by
 have P:=uE h x;obtain⟨h0,_⟩:=eI h;unfold co.len;generalize S.kx a x=k at*;generalize S.fx a x=f at*;generalize S.ex a x=c at*;by_cases hc:c=0
 ·subst hc;by_cases hk:k=5
  ·subst hk;rw[aH ac];go_enter func126,ntmps126;exact rU
  ·rw[aJ ⟨rfl,hk⟩];have b:=fun w=>oD f w;generalize ew 1 f=v at*;generalize vc 1 f=u at*;go_enter func126,ntmps126;go_wp2_with fail;refine P.mono ?_;rintro e w1 ⟨rfl,hb1⟩
   go_wp2_with fail;refine(b w1).mono ?_;rintro e i ⟨rfl,d⟩
   have hb:=hb1.trans (d.mono hb1.size)
   go_wp2_with fail;go_ret2;exact⟨rfl,hb⟩
 ·rw[aH (fun g=>hc g.1)];go_enter func126,ntmps126;exact rU
theorem AN (h:(cv a hp).J F S w):w.cell? (ao a.pw 2)=some (am a.sd):=by obtain⟨c,b,_⟩:=jM h;obtain⟨d,g1,_⟩:=lU b;obtain⟨_,_,c2,_⟩:=jh g1;exact c2
theorem Iu (h:(cv a hp).J F S w)(x:Int)(hq:S.q.length<=90000):
 Calls prog 125 #[am hp,ak x] w fun e w'=>∃d,e=.returned (.tuple #[ak (S.pop a x).1,ak (S.pop a x).2.1])/\(cv a hp).J d (S.pop a x).2.2 w'/\ce F w d w':=by
 have P:=AM h x;have l:=hide h;unfold co.pop;by_cases hk:S.kx a x=5
 ·rw[aJ hk];rw[hk] at P;have n:∀w1,Below w.heap.size w w1->w1.cell? (ao hp 0)=some (am a.pw)/\w1.cell? (ao a.pw 2)=some (am a.sd)/\Calls prog 194 #[am a.sd,ak x] w1 fun e w'=>∃d,e=.returned (.tuple #[ak (if dV x S.q<S.q.length then(S.q.getD (dV x S.q) (0,0)).2 else 0),.bool (decide (dV x S.q<S.q.length))])/\(cv a hp).J d (if dV x S.q<S.q.length then⟨S.s,S.r,S.q.take (dV x S.q)++S.q.drop (dV x S.q+1)⟩ else S) w'/\ce F w d w':=fun w1 b=>by
   have j:=(cv a hp).below l.o b;refine⟨(eI j).h0,AN j,?_⟩
   obtain⟨t,g1,_,g3⟩:=jM j;refine(Ir g1 x hq).mono ?_;rintro e w' ⟨d,rfl,o,p⟩
   obtain⟨f,j2,g⟩:=g3 _ _ _ o p;exact⟨f,rfl,j2,(ce.of b).trans g⟩
  have i:=hide n;by_cases hi:dV x S.q<S.q.length
  ·rw[aJ hi];simp only [if_pos hi,decide_eq_true hi] at i;generalize (S.q.getD (dV x S.q) (0,0)).2=v at*;generalize (⟨S.s,S.r,S.q.take (dV x S.q)++S.q.drop (dV x S.q+1)⟩:co)=u at*;go_enter func125,ntmps125;go_wp2_with fail;refine P.mono ?_;rintro e w1 ⟨rfl,b⟩
   obtain⟨k0,q,k⟩:=i.o w1 b;go_wp2_with fail;refine k.mono ?_;rintro e m ⟨f,rfl,j2,g⟩
   have c:ay (_/\_):=⟨j2,g⟩
   go_wp2;go_ret2;exact⟨f,rfl,c.o.1,c.o.2⟩
  ·rw[aH hi];simp only [if_neg hi,decide_eq_false hi] at i;go_enter func125,ntmps125;go_wp2_with fail;refine P.mono ?_;rintro e w1 ⟨rfl,b⟩
   obtain⟨k0,q,k⟩:=i.o w1 b;go_wp2_with fail;refine k.mono ?_;rintro e m ⟨f,rfl,j2,g⟩
   have c:ay (_/\ce F w f m):=⟨j2,g⟩
   go_wp2;go_ret2;exact⟨f,rfl,c.o.1,c.o.2⟩
 ·rw[aH hk];have s:(S.kx a x==5)=false:=by simpa using hk
  rw[s] at P;go_enter func125,ntmps125;go_wp2_with fail;refine P.mono ?_;rintro e w1 ⟨rfl,b⟩
  have c:ay ((cv a hp).J F S w1/\ce F w F w1):=⟨(cv a hp).below l.o b,ce.of b⟩
  go_wp2;go_ret2;exact⟨F,rfl,c.o.1,c.o.2⟩
theorem Iv (h:(cv a hp).J F S w)(t g:Int)(v:S.r.length<=90000)(hq:S.q.length<=90000):
 Calls prog 56 #[am hp,ak t,ak g] w fun e w'=>∃i,e=.returned (ak (S.reg a t g).1)/\(cv a hp).J i (S.reg a t g).2 w'/\ce F w i w':=by
 have P:=uE h t;obtain⟨h0,_⟩:=eI h;have p:ay ((cv a hp).J F S w):=h;unfold co.reg;have m:ay (∀w1,Below w.heap.size w w1->Calls prog 121 #[am hp,ak g] w1 fun e w'=>e=.returned (.bool (S.kx a g==5))/\Below w.heap.size w w'):=fun w1 b=>by
  refine(AM ((cv a hp).below p.o b) g).mono ?_;rintro e w' ⟨rfl,d⟩
  exact⟨rfl,b.trans (d.mono b.size)⟩
 have q:ay (∀w1,Below w.heap.size w w1->w1.cell? (ao hp 0)=some (am a.pw)/\w1.cell? (ao a.pw 2)=some (am a.sd)/\Calls prog 49 #[am a.sd,.agg #[ak g,ak t]] w1 fun e w'=>∃i,e=.returned (.bool (!kz (S.r.length+S.q.length)))/\(cv a hp).J i (if 24<=S.r.length+S.q.length then S else⟨S.s,S.r++[(g,t)],S.q⟩) w'/\ce F w i w'):=fun w1 b=>by
  have s:=(cv a hp).below p.o b;refine⟨(eI s).h0,AN s,?_⟩
  obtain⟨ad,g1,_,g3⟩:=jM s;refine(GU g1 g t v hq).mono ?_;rintro e w' ⟨i,rfl,x,B⟩
  obtain⟨F2,j2,n⟩:=g3 _ _ _ x B;exact⟨F2,rfl,j2,(ce.of b).trans n⟩
 generalize S.fx a t=f at*;generalize S.kx a t=k at*;by_cases hc:S.ex a t=0
 ·rw[aJ hc];rw[hc] at P;by_cases hk:S.kx a g=5
  ·rw[aJ hk];rw[hk] at m;by_cases j:24<=S.r.length+S.q.length
   ·rw[aJ j];simp only [if_pos j,sJ j] at q;go_enter func56,ntmps56;go_wp2_with fail;refine P.mono ?_;rintro e w1 ⟨rfl,b⟩
    have o:=m.o w1 b;go_wp2_with fail;refine o.mono ?_;rintro e l ⟨rfl,d⟩
    obtain⟨k0,N,u⟩:=q.o l d;go_wp2_with fail;refine u.mono ?_;rintro e w3 ⟨F2,rfl,j2,n⟩
    have HF:ay ((cv a hp).J F2 S w3/\ce F w F2 w3):=⟨j2,n⟩
    exact pE
   ·rw[aH j];simp only [if_neg j,sK j] at q;generalize (⟨S.s,S.r++[(g,t)],S.q⟩:co)=W at*;go_enter func56,ntmps56;go_wp2_with fail;refine P.mono ?_;rintro e w1 ⟨rfl,b⟩
    have o:=m.o w1 b;go_wp2_with fail;refine o.mono ?_;rintro e l ⟨rfl,d⟩
    obtain⟨k0,N,u⟩:=q.o l d;go_wp2_with fail;refine u.mono ?_;rintro e w3 ⟨F2,rfl,j2,n⟩
    have HF:ay ((cv a hp).J F2 W w3/\ce F w F2 w3):=⟨j2,n⟩
    exact pE
  ·rw[aH hk];have ab:(S.kx a g==5)=false:=by simpa using hk
   simp only [ab] at m;go_enter func56,ntmps56;go_wp2_with fail;refine P.mono ?_;rintro e w1 ⟨rfl,b⟩
   have o:=m.o w1 b;go_wp2_with fail;refine o.mono ?_;rintro e l ⟨rfl,d⟩
   have HF:ay ((cv a hp).J F S l/\ce F w F l):=⟨(cv a hp).below p.o d,ce.of d⟩
   go_wp2_with fail;go_ret;exact⟨F,rfl,HF.o.1,HF.o.2⟩
 ·rw[aH hc];generalize S.ex a t=c at*;go_enter func56,ntmps56;go_wp2_with fail;refine P.mono ?_;rintro e w1 ⟨rfl,b⟩
  have HF:ay ((cv a hp).J F S w1/\ce F w F w1):=⟨(cv a hp).below p.o b,ce.of b⟩
  go_wp2_with fail;go_ret;exact⟨F,rfl,HF.o.1,HF.o.2⟩
end
section
variable {a:Wc}{hp:Nat}{F:Nat->Prop}{S:co}{w:aw}
theorem AO (h:(cv a hp).J F S w)(hq:S.q.length+S.r.length<=90000):
 Calls prog 50 #[am a.pw] w fun e w'=>∃b,e=.returned (ak (S.code a))/\(cv a hp).J b (S.cut a) w'/\ce F w b w':=by
 obtain⟨i,g1,_,g3⟩:=jM h;refine(Gv g1 hq).mono ?_;rintro e w' ⟨b,rfl,c,d⟩
 obtain⟨f,j2,g⟩:=g3 _ _ _ c d;exact⟨f,rfl,j2,g⟩
theorem AP (h:(cv a hp).J F S w)(hq:S.q.length+S.r.length<=90000)(c:S.fI a=false->∃G,ir (S.k5 a) (S.dI a) G/\G 0 (S.k5 a,0)):
 Calls prog 37 #[am a.pw] w fun e w'=>∃b,e=.returned (ak (S.it a))/\(cv a hp).J b (S.dE a) w'/\ce F w b w':=by
 obtain⟨j,g1,_,g3⟩:=jM h;refine(G_ g1 hq c).mono ?_;rintro e w' ⟨b,rfl,d,f⟩
 obtain⟨g,j2,i⟩:=g3 _ _ _ d f;exact⟨g,rfl,j2,i⟩
theorem Iw (h:(cv a hp).J F S w)(m:Int)(hq:S.q.length+S.r.length<=90000)(q:S.fI a=false->∃G,ir (S.k5 a) (S.dI a) G/\G 0 (S.k5 a,0)):
 Calls prog 193 #[am hp,ak m] w fun e w'=>∃b,e=.returned (ak (S.room a m).1)/\(cv a hp).J b (S.room a m).2 w'/\ce F w b w':=by
 unfold co.room;by_cases hm:m<=(a.N:Int)-S.s.y
 ·rw[aJ hm];refine(AE h m hm).mono ?_;rintro e w' ⟨rfl,hb⟩
  exact⟨F,rfl,(cv a hp).below h hb,ce.of hb⟩
 rw[aH hm];obtain⟨h0,c0,_⟩:=eI h;have s:=(jo h).1;have P:=om w s;have o:ay (∀w1,Below w.heap.size w w1->(w1.cell? (ao hp 0)=some (am a.pw)/\w1.cell? (ao a.pw 0)=some (am a.p))/\Calls prog 22 #[am a.p] w1 fun e w'=>e=.returned (.tuple #[ak S.s.y,ak S.s.g])/\Below w.heap.size w w'):=fun w1 c=>by
  have d:=(cv a hp).below h c;obtain⟨h0,c0,_⟩:=eI d;refine⟨⟨h0,c0⟩,?_⟩
  refine(kj w1 (jo d).1).mono ?_;rintro e w' ⟨rfl,f⟩
  exact⟨rfl,c.trans (f.mono c.size)⟩
 have p:ay (∀w1,Below w.heap.size w w1->w1.cell? (ao hp 0)=some (am a.pw)/\(Calls prog 50 #[am a.pw] w1 fun e w'=>∃b,e=.returned (ak (S.code a))/\(cv a hp).J b (S.cut a) w'/\ce F w b w')/\(Calls prog 37 #[am a.pw] w1 fun e w'=>∃b,e=.returned (ak (S.it a))/\(cv a hp).J b (S.dE a) w'/\ce F w b w')):=fun w1 c=>by
  have d:=(cv a hp).below h c;refine⟨(eI d).h0,(AO d hq).mono ?_,(AP d hq q).mono ?_⟩
  ·rintro e w' ⟨b,rfl,g,i⟩
   exact⟨b,rfl,g,(ce.of c).trans i⟩
  ·rintro e w' ⟨b,rfl,g,i⟩
   exact⟨b,rfl,g,(ce.of c).trans i⟩
 by_cases hy:(S.s.y:Int)<=(a.O:Int)-S.s.g
 ·rw[aJ hy];generalize S.cut a=t at*;generalize S.code a=cd at*;go_enter func193,ntmps193;go_wp2_with fail;refine P.mono ?_;rintro e w1 ⟨rfl,c⟩
  obtain⟨⟨g0,g1⟩,j⟩:=o.o w1 c;go_wp2_with fail;refine j.mono ?_;rintro e k ⟨rfl,f⟩
  obtain⟨k0,l,_⟩:=p.o k f;go_wp2_with fail;refine l.mono ?_;rintro e w3 ⟨F2,rfl,j2,n⟩
  have HF:=dq j2 n;exact pE
 ·rw[aH hy];generalize S.dE a=t at*;generalize S.it a=cd at*;go_enter func193,ntmps193;go_wp2_with fail;refine P.mono ?_;rintro e w1 ⟨rfl,c⟩
  obtain⟨⟨g0,g1⟩,j⟩:=o.o w1 c;go_wp2_with fail;refine j.mono ?_;rintro e k ⟨rfl,f⟩
  obtain⟨k0,_,l⟩:=p.o k f;go_wp2_with fail;refine l.mono ?_;rintro e w3 ⟨F2,rfl,j2,n⟩
  have HF:=dq j2 n;exact pE
theorem Ix (kd:Int)(rl:List Nat)(n:Option Addr)(a1:Nat)(b:co)(bl:rl.length<=12)(hk:hc kd rl.length=0)(room:b.s.y+1+rl.length<=a.N)
 (u:0<rl.length->∃d,n=an d/\¬F d/\d<w.heap.size/\∀i,i<rl.length->w.cell? (ao d i)=some (ak ((rl.getD i 0:Nat):Int)))(v:∀i,i<rl.length->rl.getD i 0<12)
 (h:(cv a hp).J F S w)
 (B:Calls prog 193 #[am hp,ak (1+rl.length)] w fun e w'=>∃c,e=.returned (ak 0)/\(cv a hp).J c b w'/\ce F w c w'):
 Calls prog 123 #[am hp,ak kd,.slice n rl.length a1] w fun e w'=>∃c,e=.returned (.tuple #[ak (ew 3 b.s.y),ak 0])/\(cv a hp).J c (b.put a kd rl) w'/\ce F w c w':=by
 have o:hC a.N b.s.y kd rl.length=true:=by unfold hC;rw[hk];simp;omega
 have N:iC a.N b.s.y kd rl.length=b.s.y+1+rl.length:=by unfold iC;rw[aJ o];omega
 have W:nk a.N b.s.y kd rl.length=b.s.y:=by unfold nk;rw[aJ o]
 have ab:ay (0<rl.length->_):=u;have a2:ay (∀i,i<rl.length->_):=v;have ad:ay (_/\_):=⟨N,W⟩
 have a3:ay (b.put a kd rl=⟨{b.s with y:=b.s.y+1+rl.length,ws:=gC b.s.rs b.s.y (eR a.N b.s.y kd rl.length b.s.ws) rl rl.length},b.r,b.q⟩):=rfl;have n1:=(jo h).1.hN';generalize b.put a kd rl=bb at*;clear u v o N W hk h;go_enter func123,ntmps123;go_wp2_with fail;refine B.mono ?_;clear B;rintro e w1 ⟨bn,rfl,p,ag⟩
 obtain⟨h0,c0,_⟩:=eI p;obtain⟨f,l⟩:=jo p;have bo:=f.hy;have bp:=f.hg;have n4:=f.hO;have q:=v4 kd rl.length w1 f;rw[ad.o.1,ad.o.2] at q;have HA:ay (∀w' y g ws,At w' a.p a.q a.N a.O y g ws->c_ a.p a.q w1 w'->_):=l;have ai:ay (_):=ag;clear p f l ag;go_wp2_with fail;refine q.mono ?_;clear q;rintro e br ⟨rfl,al,ap⟩
 obtain⟨bd,j2,m⟩:=HA.o _ _ _ _ al ap;have m:=ai.o.trans m;have ar:∀(c:Nat->Prop)(w':aw),ce F w c w'->∀i,i<rl.length->∃d,n=an d/\w'.cell? (ao d i)=some (ak ((rl.getD i 0:Nat):Int)):=fun c w' t i hi=>by obtain⟨d,e,g1,g2,g3⟩:=ab.o aa;exact⟨d,e,(aW (a:=⟨d,i,none⟩) (t.fr.block d g2 g1)).trans (g3 i hi)⟩
 have be:ay (∀(c:Nat->Prop)(w':aw),ce F w c w'->∀i,i<rl.length->_):=ar;have ax:=dq j2 m;clear al ap j2 m HA ab ar ai h0 c0;go_wp2_with fail
 go_loopw [33] (fun iv wr=>∃(j:Nat)(c:Nat->Prop),j<=rl.length/\iv=ak j/\ay ((cv a hp).J c ⟨{b.s with y:=b.s.y+1+rl.length,ws:=gC b.s.rs b.s.y (eR a.N b.s.y kd rl.length b.s.ws) rl j},b.r,b.q⟩ wr/\ce F w c wr)) (fun iv _=>rl.length-(intOf iv).toNat)
 exact⟨0,bd,aX _,rfl,ax⟩
 ·
   clear ax;obtain⟨j,c,bs,rfl,k⟩:=hrel;by_cases aB:j<rl.length
   ·obtain⟨d,rfl,tc⟩:=be.o c wr k.o.2 j aB;have aF:=a2.o j aB;have aR:ay (gC b.s.rs b.s.y (eR a.N b.s.y kd rl.length b.s.ws) rl (j+1)=(gC b.s.rs b.s.y (eR a.N b.s.y kd rl.length b.s.ws) rl j).set (b.s.y+1+j) (b.s.rs.getD (rl.getD j 0) 0)):=rfl;generalize rl.getD j 0=r at*;have HX:ay (∀(rf:Nat->Prop)(w5:aw),(∀i,i<12->w5.cell? (ao a.nb i)=some (ak (b.s.rs.getD i 0))/\w5.frozen? (ao a.nb i)=false)->_=_):=fun _ _ g=>(g r aF).1;have aT:=(cv a hp).below k.o.1 (aE _ wr).drew;obtain⟨h0,c0,c3,rt,bg,lp,lw,ln⟩:=eI k.o.1;obtain⟨r1,_⟩:=rt r aF;obtain⟨f,l⟩:=jo aT;dsimp only at r1 f l;have aV:dm a.N (b.s.y+1+rl.length) b.s.g ((b.s.y:Int)+1+j)=true:=il aa aa;have re:=ki ((b.s.y:Int)+1+j) (b.s.rs.getD r 0) wr.drew f;rw[aV,aJ rfl,show((b.s.y:Int)+1+j).toNat=b.s.y+1+j by omega,<-aR.o] at re;have HA:ay (∀w' y g ws,At w' a.p a.q a.N a.O y g ws->c_ a.p a.q wr.drew w'->_):=l;have j0:(0:Int)<=(j:Int):=aa;have bt:(j:Int)<(rl.length:Int):=aa;have q0:(0:Int)<=(r:Int):=aa;have q1:(r:Int)<12:=aa;have b6:IntKind.i64.wrap ((b.s.y:Int)+1)=(b.s.y:Int)+1:=by rw[bw];omega
    have b7:IntKind.i64.wrap ((b.s.y:Int)+1+(j:Int))=(b.s.y:Int)+1+j:=by rw[bw];omega
    have HT3:ay (_):=k.o.2.below (aE _ wr).drew;clear aT f l rt aV aR bg k;generalize b.s.rs.getD r 0=x at*;exact AA
   ·obtain rfl:j=rl.length:=aa;go_wp2_with fail;refine(pN (b.s.y:Int) wr).mono ?_;rintro e bi ⟨rfl,s⟩
    have a0:ay ((cv a hp).J c bb bi/\_):=⟨by rw[a3.o];exact(cv a hp).below k.o.1 s,k.o.2.below s⟩
    clear s k;go_wp2_with fail;go_ret2;exact⟨c,rfl,a0.o.1,a0.o.2⟩
theorem Iy (kd cd:Int)(n:Nat)(f:Option Addr)(g:Nat)(c:co)(m:n<=12)(hc:cd≠0)
 (i:Calls prog 193 #[am hp,ak (1+n)] w fun e w'=>∃b,e=.returned (ak cd)/\(cv a hp).J b c w'/\ce F w b w'):
 Calls prog 123 #[am hp,ak kd,.slice f n g] w fun e w'=>∃b,e=.returned (.tuple #[ak 0,ak cd])/\(cv a hp).J b c w'/\ce F w b w':=by
 go_enter func123,ntmps123;go_wp2_with fail;refine i.mono ?_;rintro e w1 ⟨j,rfl,k,l⟩
 have d:=dq k l;go_wp2;go_ret2;exact⟨j,rfl,d.o.1,d.o.2⟩
theorem pF (h:(cv a hp).J F S w)(kd:Int)(rl:List Nat)(b:Option Addr)(f:Nat)(hq:S.q.length+S.r.length<=90000)(l:S.fI a=false->∃G,ir (S.k5 a) (S.dI a) G/\G 0 (S.k5 a,0))(hk:hc kd rl.length=0)
 (m:0<rl.length->∃d,b=an d/\¬F d/\d<w.heap.size/\∀i,i<rl.length->w.cell? (ao d i)=some (ak ((rl.getD i 0:Nat):Int)))(n:∀i,i<rl.length->rl.getD i 0<12)
 (room:(S.room a (1+rl.length)).1=0->(S.room a (1+rl.length)).2.s.y+1+rl.length<=a.N):
 Calls prog 123 #[am hp,ak kd,.slice b rl.length f] w fun e w'=>∃j,e=.returned (.tuple #[ak (S.b8 a kd rl).1,ak (S.b8 a kd rl).2.1])/\(cv a hp).J j (S.b8 a kd rl).2.2 w'/\ce F w j w':=by
 have k:rl.length<=12:=by have:=iH kd rl.length hk;omega
 have g:=Iw h (1+rl.length) hq l;unfold co.b8;by_cases c:(S.room a (1+rl.length)).1=0
 ·rw[aJ c];rw[c] at g;exact Ix kd rl b f _ k hk (room c) m n h g
 ·rw[aH c];exact Iy kd _ rl.length b f _ k c g
end
section
variable {a:Wc}{hp:Nat}{F:Nat->Prop}{S:co}{w:aw}
theorem pG {R:Nat}(b:R<12):dv (R:Int)=true:=by unfold dv;rw[bq aa,bq aa];rfl
theorem Iz (R A:Nat)(b:R<12)(c:A<12):dP 11 R A 0 0=0:=by have e:cU 11=3:=rfl;unfold dP;rw[e,aH ae,pG b,pG c,aH ac];rfl
theorem IA (R A B:Nat)(b:R<12)(c:A<12)(hB:B<12):dP 4 R A B 0=0:=by have e:cU 4=7:=rfl;unfold dP;rw[e,aH ae,pG b,pG c,pG hB,aH ac];rfl
theorem IB (h:(cv a hp).J F S w)(R I:Int)(A:Nat)(hA:A<12):
 Calls prog 57 #[am hp,fz 11 R A 0 I 0] w fun e w'=>e=.returned (.tuple #[ak (if dX a.N S.s.y S.s.g S.s.ws (S.s.rs.getD A 0) I=0 then ld a.N S.s.y S.s.g S.s.ws (cj (S.s.rs.getD A 0)+1+I) else 0),ak (dX a.N S.s.y S.s.g S.s.ws (S.s.rs.getD A 0) I)])/\Below w.heap.size w w':=by
 have b:=aq w (cO 11 R A 0 I 0)
 have c:=aN w (.cells #[.int .i64 11,.int .i64 R,.int .i64 (A:Int),.int .i64 0,.int .i64 I,.int .i64 0] 44)
 have f:=(cv a hp).below h b;obtain⟨h0,c0,c3,rt,_⟩:=eI f;obtain⟨r1,_⟩:=rt A hA;have d:=(cv a hp).below f (aE _ (w.alloc (cO 11 R A 0 I 0))).drew;have i:=ww (S.s.rs.getD A 0) I (w.alloc (cO 11 R A 0 I 0)).drew (eI d).c0 (jo d).1;obtain⟨q0,q1,q2,q3,q4,n⟩:=fX c;have HJ:ay (_/\_/\_):=⟨d,b.trans ((aE _ (w.alloc (cO 11 R A 0 I 0))).drew.mono b.size),c⟩
 have o:(0:Int)<=(A:Int):=aa;have q:(A:Int)<12:=aa;have lx:_:=lt_of_some c;clear h f d rt b c;generalize (if dX a.N S.s.y S.s.g S.s.ws (S.s.rs.getD A 0) I=0 then ld a.N S.s.y S.s.g S.s.ws (cj (S.s.rs.getD A 0)+1+I) else 0)=v at*;generalize dX a.N S.s.y S.s.g S.s.ws (S.s.rs.getD A 0) I=cd at*;have s:ay (S.s.rs.getD A 0=S.s.rs.getD A 0):=rfl;go_enter func57,ntmps57
 go_upto_region 20 with fail
 generalize w.alloc (cO 11 R A 0 I 0)=w0 at*;generalize j:w.heap.size=xb at*;have k:ay (∀w',Below w0.drew.heap.size w0.drew w'->(w'.cell? ⟨hp,0,none⟩=some (.pointer (some ⟨a.pw,0,none⟩))/\w'.cell? ⟨a.pw,3,none⟩=some (.slice (some ⟨a.nb,0,none⟩) 12 12)/\w'.cell? ⟨a.nb,A,none⟩=some (.int .i64 (S.s.rs.getD A 0)))/\w'.cell? ⟨xb,2,none⟩=some (.int .i64 (A:Int))/\w'.cell? ⟨xb,4,none⟩=some (.int .i64 I)):=fun w' hb=>by exact AC
 generalize S.s.rs.getD A 0=x at*
 go_region_held3 (fun w'=>w'.cell? (ao hp 0)=some (am a.pw)/\w'.cell? (ao a.pw 3)=some (.slice (an a.nb) 12 12)/\w'.cell? (ao a.nb A)=some (ak x)/\w'.cell? (ao xb 2)=some (ak (A:Int))/\w'.cell? (ao xb 4)=some (ak I)) (go_keep)
  (first
    |(go_at_call 45;refine i.mono ?_;clear i;rintro e l ⟨rfl,g⟩;obtain⟨⟨g0,g3,gr⟩,t,u⟩:=k.o l g;have m:ay (_):=HJ.o.2.1.trans (g.mono (by have:=HJ.o.2.1.size;omega));clear g))
 go_wp2_with fail;go_ret2;exact⟨rfl,by rw[j];exact m.o⟩
theorem AQ (h:(cv a hp).J F S w)(k:Int)(R:Nat)(A B I n:Int)(N:R<12)(hc:dP k R A B n=0)(k1:k≠9)(aF:k≠12)(aR:k≠15)(aT:k≠16)(v:Int)(d:co)
 (W:∀f w',(cv a hp).J f S w'->Calls prog 57 #[am hp,fz k R A B I n] w' fun e o=>∃j,e=.returned (.tuple #[ak v,ak 0])/\(cv a hp).J j d o/\ce f w' j o):
 Calls prog 20 #[am hp,fz k R A B I n] w fun e w'=>∃f,e=.returned (ak 0)/\(cv a hp).J f ⟨{d.s with rs:=d.s.rs.set R v},d.r,d.q⟩ w'/\ce F w f w':=by
 have p:=aq w (cO k R A B I n)
 have ab:=aN w (.cells #[.int .i64 k,.int .i64 (R:Int),.int .i64 A,.int .i64 B,.int .i64 I,.int .i64 n] 44)
 have q:=lq k R A B I n (w.alloc (cO k R A B I n))
 rw[hc] at q;have ad:=hide (eI h).ln;have c:=iZ ((cv a hp).below h p) p ab ((cv a hp).lt h)
 have ag:=hide W;go_enter func20,ntmps20;go_wp2_with fail;generalize w.alloc (cO k R A B I n)=w0 at*;generalize ai:w.heap.size=g at*;refine q.mono ?_;rintro e w1 ⟨rfl,l⟩
 have b:=iZ ((cv a hp).below c.o.1 l) (c.o.2.1.trans (l.mono (by have:=lt_of_some c.o.2.2.1;omega))) ((l.block g (lt_of_some c.o.2.2.1)).trans c.o.2.2.1) c.o.2.2.2;obtain⟨q0,q1,al,q3,ap,ar⟩:=fX b.o.2.2.1;go_wp2_with fail;refine(ag.o F w1 b.o.1).mono ?_;rintro e s ⟨j,rfl,i,m⟩
 have t:=(m.fr.block g (lt_of_some b.o.2.2.1) (fun ax=>by have:=b.o.2.2.2 g ax;omega)).trans b.o.2.2.1;obtain⟨u0,aV,_⟩:=fX t;obtain⟨h0,c0,c3,rt,rl,lp,lw,ln⟩:=eI i;obtain⟨r1,a0⟩:=rt R N;have a1:(R:Int)<12:=aa;have a2:=lt_of_some t;have nx:a.nb≠g:=by have:=ad.o;omega
 obtain⟨n1,a3⟩:=Ax i;have u:=dq ((cv a hp).below i (aE _ s).drew) (((ce.of (by rw[ai];exact b.o.2.1)).trans m).below (aE _ s).drew)
 clear rt i m b q0 q1 al q3 ap ar;go_wp2_with fail
 go_region_held3 (fun w'=>w'.cell? (ao hp 0)=some (am a.pw)/\w'.cell? (ao a.pw 3)=some (.slice (an a.nb) 12 12)/\w'.cell? (ao g 1)=some (ak (R:Int))) (go_keep) (fail)
 obtain⟨aB,cA,t3⟩:=Aw u.o.1 R v;have x:=dq cA (u.o.2.trans t3)
 go_wp2_with fail;go_ret;exact⟨rfl,aB,x.o.1,x.o.2⟩
theorem IC (h:(cv a hp).J F S w)(k R A B I n:Int)(hc:dP k R A B n=0)(k1:k≠9)(u:k≠12)(x:k≠15)(N:k≠16)(v cd:Int)(h0:cd≠0)
 (i:∀j w',(cv a hp).J j S w'->Calls prog 57 #[am hp,fz k R A B I n] w' fun e l=>e=.returned (.tuple #[ak v,ak cd])/\Below w'.heap.size w' l):
 Calls prog 20 #[am hp,fz k R A B I n] w fun e w'=>e=.returned (ak cd)/\Below w.heap.size w w':=by
 have f:=aq w (cO k R A B I n)
 have m:=aN w (.cells #[.int .i64 k,.int .i64 R,.int .i64 A,.int .i64 B,.int .i64 I,.int .i64 n] 44)
 have g:=lq k R A B I n (w.alloc (cO k R A B I n))
 rw[hc] at g;have b:=gM ((cv a hp).below h f) f m;have o:=hide i;go_enter func20,ntmps20;go_wp2_with fail;generalize w.alloc (cO k R A B I n)=w0 at*;generalize p:w.heap.size=q at*;refine g.mono ?_;rintro e w1 ⟨rfl,c⟩
 have d:=dq ((cv a hp).below b.o.1 c) (b.o.2.1.trans (c.mono (by have:=lt_of_some b.o.2.2;omega)))
 obtain⟨q0,q1,W,q3,ab,ad⟩:=fX ((c.block q (lt_of_some b.o.2.2)).trans b.o.2.2)
 go_wp2_with fail;refine(o.o F w1 d.o.1).mono ?_;rintro e ag ⟨rfl,s⟩
 have t:=hide (d.o.2.trans (s.mono (by have:=d.o.2.size;omega)))
 go_wp2_with fail;go_ret;exact⟨rfl,by rw[p];exact t.o⟩
theorem ID (h:(cv a hp).J F S w)(R:Int)(A B:Nat)(f:A<12)(hB:B<12)(room:S.s.y+3<=a.N):
 Calls prog 57 #[am hp,fz 4 R A B 0 0] w fun e w'=>∃b,e=.returned (.tuple #[ak (ew 3 S.s.y),ak 0])/\(cv a hp).J b ⟨{S.s with y:=S.s.y+3,ws:=gC S.s.rs S.s.y (eR a.N S.s.y 1 2 S.s.ws) [A,B] 2},S.r,S.q⟩ w'/\ce F w b w':=by
 have d:=(aq w (cO 4 R A B 0 0)).alloc ac (.cells #[.int .i64 (A:Int),.int .i64 (B:Int)] 3)
 have c:=aN (w.alloc (cO 4 R A B 0 0)) (.cells #[.int .i64 (A:Int),.int .i64 (B:Int)] 3)
 have g:(w.alloc (cO 4 R A B 0 0)).heap.size=w.heap.size+1:=ac;rw[g] at c;have P:Calls prog 123 #[am hp,ak 1,.slice (an (w.heap.size+1)) 2 2] ((w.alloc (cO 4 R A B 0 0)).alloc (.cells #[.int .i64 (A:Int),.int .i64 (B:Int)] 3)) fun e w'=>∃b,e=.returned (.tuple #[ak (ew 3 S.s.y),ak 0])/\(cv a hp).J b ⟨{S.s with y:=S.s.y+3,ws:=gC S.s.rs S.s.y (eR a.N S.s.y 1 2 S.s.ws) [A,B] 2},S.r,S.q⟩ w'/\ce F ((w.alloc (cO 4 R A B 0 0)).alloc (.cells #[.int .i64 (A:Int),.int .i64 (B:Int)] 3)) b w':=by
  refine Ia ((cv a hp).below h d) 1 [A,B] (w.heap.size+1) 2 ac ac (fun i hi=>?_) (fun j=>by have:=(cv a hp).lt h _ j;omega) (lt_of_some c) (fun i hi=>?_) rfl room
  ·have hi:i<2:=hi;rcases(show i=0\/i=1 by omega) with rfl|rfl<;>simp only [World.cell?,c]<;>rfl
  ·have hi:i<2:=hi;rcases(show i=0\/i=1 by omega) with rfl|rfl
   ·exact f
   ·exact hB
 have HB:=hide d;exact pD
end
end Go.Proofs.YtpkjkjhanlbcoaaGreat
