import Derived.Test.YtpkjkjhanlbcoaaGreatJ14
namespace Go.Proofs.YtpkjkjhanlbcoaaGreat
set_option maxRecDepth 100000
set_option maxHeartbeats 4000000
open Tryz
open Go.RowKit W Kp cf
theorem nf {P:Prop}(h:P:=by go_wp2_with fail;go_ret;exact⟨F2,rfl,HF.o.1,HF.o.2⟩):P:=h
theorem zw {P:Prop}(h:P:=by
 rcases(show c=0\/c=1\/c=2\/c=3\/c=4\/c=5\/c=6\/c=7\/c=8\/c=9\/c=10\/c=11\/c=12 by omega) with rfl|rfl|rfl|rfl|rfl|rfl|rfl|rfl|rfl|rfl|rfl|rfl|rfl<;>
 (go_enter func223,ntmps223
  go_wp2_with fail;go_ret2;exact⟨rfl,rfl⟩)):P:=h
theorem zx {P:Prop}(h:P:=by
 go_enter func167,ntmps167;go_wp2_with fail;refine P.mono ?_;rintro e w1 ⟨rfl,hw⟩
 have hw:=hw.symm;subst hw;go_wp2_with fail;go_ret2;exact⟨rfl,rfl⟩):P:=h
theorem zy {P:Prop}(h:P:=by
 go_enter func127,ntmps127;go_wp2_with fail;refine P.mono ?_;rintro e w1 ⟨rfl,hb⟩
 go_wp2;go_ret2;exact⟨rfl,hb⟩):P:=h
def jV (k:ce)(z:C0)(x:Int):Prop:=cY x=true/\(cg x∈k.T\/cg x∈z.G)
def gV (k:ce)(z:C0)(s:cj)(q:List b7):Prop:=∀e∈q,jV k z e.1/\∃b,jV k z b/\k.ml s b e.2
def ua (k:ce)(s:cj)(q:List b7):Prop:=∀e∈q,k.al s e.2=true\/k.al s e.1=false
section
variable {k:ce}{z:C0}{s t u:cj}{D H:List Int}{q:List b7}
theorem gV.iW (h:gV k z s q)(p:dh k s t):gV k z t q:=fun e he=>by obtain⟨b,c,d,f⟩:=h e he;exact⟨b,c,d,p.ml f⟩
theorem pA (p:dh k s t){x:Int}(h:k.al s x=true):k.al t x=true:=by
 unfold ce.al ce.ls at h⊢;cases c:k.cK x
 ·rfl
 ·rw[c] at h;have b:s.f (cg x)≠-1:=by intro e;rw[e] at h;simp at h
  rw[p.f _ b];simpa using b
theorem qU {x:Int}(h:k.cK x=false):k.al s x=true:=by unfold ce.al ce.ls;rw[h];rfl
theorem gV.kL:∀(l:List Nat)(t:(cj×List b7)×Bool)(H:List Int),LI k z t.1.1 H D->dL k z t.1.1 H->(∀i∈l,i<t.1.2.length)->gV k z t.1.1 t.1.2->gV k z (l.foldl (dB k.al k.br) t).1.1 (l.foldl (dB k.al k.br) t).1.2
 |[],_,_,_,_,_,e=>e
 |i::l,t,H,h,w,hl,e=>by
  rw[a8];by_cases c:(k.al t.1.1 (t.1.2.getD i (0,0)).2||!k.al t.1.1 (t.1.2.getD i (0,0)).1)=true
  ·have b:dB k.al k.br t i=t:=by unfold dB;rw[aI c]
   rw[b];exact gV.kL l t H h w (fun j d=>hl j (aO _ d)) e
  ·have b:dB k.al k.br t i=(((k.br t.1.1 (t.1.2.getD i (0,0)).2).2,t.1.2.set i ((t.1.2.getD i (0,0)).1,(k.br t.1.1 (t.1.2.getD i (0,0)).2).1)),true):=by unfold dB;rw[aG c]
   have hi:=hl i Z;have hm:t.1.2.getD i (0,0)∈t.1.2:=by rw[aE,aL hi];exact a6 hi
   obtain⟨g,l1,w1,m,_⟩:=cX.br _ H h w;obtain⟨_,_,_,_,_,m1,_⟩:=h.mi.br _;rw[b];refine gV.kL l _ g l1 w1 (fun j d=>?_) ?_
   ·show j<(t.1.2.set i _).length;rw[a4];exact hl j (aO _ d)
   ·intro n hd;have hd:=hd;rcases List.mem_or_eq_of_mem_set hd with hd|rfl
    ·exact e.iW m n hd
    ·obtain⟨g1,f,g2,g3⟩:=e _ hm;exact⟨g1,f,g2,m1 f g3⟩
theorem gV.wa {t:cj×List b7}(h:LI k z t.1 H D)(w:dL k z t.1 H)(e:gV k z t.1 t.2):gV k z (k.wa t).1.1 (k.wa t).1.2:=
 gV.kL _ (t,false) H h w (fun _ hi=>List.mem_range.1 hi) e
theorem gV.cW:∀(n:Nat)(t:cj×List b7)(H:List Int),LI k z t.1 H D->dL k z t.1 H->gV k z t.1 t.2->gV k z (k.cW n t).1 (k.cW n t).2
 |0,_,_,_,_,e=>e
 |n+1,t,H,h,w,e=>by
  obtain⟨g,l1,w1,i,_⟩:=cX.lb (k.O+1) H h w;obtain⟨c,l2,b,j,_⟩:=cX.kv g l1 w1;have d:=e.iW (i.trans j)
  obtain⟨l,m,o,_,_⟩:=cX.wa ((k.kv _).2,t.2) c l2 b;have f:=gV.wa (t:=((k.kv _).2,t.2)) l2 b d;unfold ce.cW;split
  ·exact gV.cW n ((k.kv _).2,t.2) c l2 b d
  ·split
   ·exact gV.cW n _ l m o f
   ·exact f
theorem zz (k:ce):∀(l:List Nat)(t:(cj×List b7)×Bool),(l.foldl (dB k.al k.br) t).2=false->∀i∈l,k.al t.1.1 (t.1.2.getD i (0,0)).2=true\/k.al t.1.1 (t.1.2.getD i (0,0)).1=false
 |[],_,_,_,hi=>by cases hi
 |j::l,t,h,i,hi=>by
  rw[a8] at h;obtain⟨_,b⟩:=tX k l _ h;by_cases c:(k.al t.1.1 (t.1.2.getD j (0,0)).2||!k.al t.1.1 (t.1.2.getD j (0,0)).1)=true
  ·have d:dB k.al k.br t j=t:=by unfold dB;rw[aI c]
   rw[d] at h;rcases List.mem_cons.1 hi with rfl|hi
   ·simpa using c
   ·exact zz k l t h i hi
  ·unfold dB at b;rw[aG c] at b;cases b
theorem qV:∀(n:Nat)(t:cj×List b7)(H:List Int),LI k z t.1 H D->dL k z t.1 H->ee k t.1->k.mu t.1<n->ua k (k.cW n t).1 (k.cW n t).2
 |0,t,H,_,_,_,e=>absurd e V
 |n+1,t,H,h,w,hb,e=>by
  obtain⟨B,l1,w1,_,_,_⟩:=LI.oj (k.O+1) h w;obtain⟨c1,c2,c3⟩:=CI.lb h.mi.ci hb (k.O+1)
  obtain⟨g,b,C,j⟩:=CI.kv c1 c2;obtain⟨c,l2,d,_,_⟩:=l1.kv w1;unfold ce.cW;cases hk:(k.kv _).1
  ·rw[aG Z];obtain⟨E,l,F,G,m⟩:=CI.wa (s:=((k.kv _).2,t.2)) g b;cases hw:(k.wa ((k.kv _).2,t.2)).2
   ·rw[aG Z,tY k _ hw];intro o hd;obtain⟨i,hi,p⟩:=List.mem_iff_getElem.1 hd;have q:=zz k _ (((k.kv _).2,t.2),false) hw i (List.mem_range.2 hi)
    have u:t.2.getD i (0,0)=o:=by rw[aE,aL hi,p];rfl
    rw[u] at q;exact q
   ·obtain⟨v,x,A,_,_⟩:=cX.wa ((k.kv _).2,t.2) c l2 d;have f:=m hw;dsimp only at f;exact qV n _ v x A l V
  ·rw[aI rfl];have f:=j hk;exact qV n ((k.kv _).2,t.2) c l2 d b (by dsimp only;omega)
def gW (k:ce)(z:C0)(D:List Int)(t:cj×List b7):Prop:=∃H,LI k z t.1 H D/\dL k z t.1 H/\ee k t.1/\gV k z t.1 t.2/\ua k t.1 t.2
theorem gW.sp {t:cj×List b7}(h:LI k z t.1 H D)(w:dL k z t.1 H)(hb:ee k t.1)(e:gV k z t.1 t.2):gW k z D (k.sp t):=by obtain⟨K,m1,b,_,_⟩:=cX.sp t H h w;exact⟨K,m1,b,(pu _ t h.mi.ci hb).2,gV.cW _ t H h w e,qV _ t H h w hb V⟩
theorem gW.cm {t:cj×List b7}(h:gW k z D t){e:b7}(i:jV k z e.1)(j2:jV k z e.2):gW k z D (cm (dI cj) (fun s x=>k.al s.1 x) k.ke t e).2:=by
 cases c:k.al t.1 e.1
 ·rw[mR (o:=dI cj) (is:=fun s x=>k.al s.1 x) (kp:=k.ke) (s:=t) (e:=e) c];exact h
 ·rw[mS (o:=dI cj) (is:=fun s x=>k.al s.1 x) (kp:=k.ke) (s:=t) (e:=e) c];obtain⟨H,d,j,f,l,B⟩:=h;obtain⟨m,l1,w1,n,_⟩:=cX.br (k:=k) (z:=z) (D:=D) (s:=t.1) e.2 H d j;obtain⟨_,_,_,y1,_,m1,_⟩:=d.mi.br e.2;obtain⟨_,p,q,g⟩:=l7 k t.1 e.2;have hb:ee k (k.br t.1 e.2).2:=⟨by rw[p,g];exact f.wk,by rw[q,g];exact f.ep⟩
  obtain⟨K,q1,u,q3,v,w⟩:=gW.sp (t:=((k.br t.1 e.2).2,t.2)) l1 w1 hb (l.iW n)
  obtain⟨_,_,_,A,_⟩:=cX.sp (k:=k) (z:=z) (D:=D) ((k.br t.1 e.2).2,t.2) m l1 w1;show gW k z D ((k.sp ((k.br t.1 e.2).2,t.2)).1,(k.sp ((k.br t.1 e.2).2,t.2)).2++[(e.1,(k.br t.1 e.2).1)])
  refine⟨K,q1,u,q3,fun b hd=>?_,fun b hd=>?_⟩
  ·rcases List.mem_append.1 hd with hd|hd
   ·exact v b hd
   ·rw[List.mem_singleton.1 hd];exact⟨i,e.2,j2,A.ml (m1 _ (aK rfl))⟩
  ·rcases List.mem_append.1 hd with hd|hd
   ·exact w b hd
   ·rw[List.mem_singleton.1 hd];exact aK (qU y1)
theorem gW.pl:∀(l:List b7)(u:List b7×List b7×(cj×List b7)),gW k z D u.2.2->(∀e∈l,jV k z e.1/\jV k z e.2)->gW k z D (l.foldl (eh (Go.Proofs.YtpkjkjhanlbcoaaGreat.cm (dI cj) (fun s x=>k.al s.1 x) k.ke)) u).2.2
 |[],_,h,_=>h
 |e::l,u,h,hl=>by
  have key:(eh (Go.Proofs.YtpkjkjhanlbcoaaGreat.cm (dI cj) (fun s x=>k.al s.1 x) k.ke) u e).2.2=(Go.Proofs.YtpkjkjhanlbcoaaGreat.cm (dI cj) (fun s x=>k.al s.1 x) k.ke u.2.2 e).2:=by unfold eh;split<;>rfl
  refine gW.pl l _ ?_ (fun b hd=>hl b (aO _ hd))
  rw[key];exact h.cm (hl e Z).1 (hl e Z).2
theorem gW.eB:∀(n:Nat)(t:cj×List b7)(b:List b7),gW k z D t->(∀e∈b,jV k z e.1/\jV k z e.2)->gW k z D (eB (Go.Proofs.YtpkjkjhanlbcoaaGreat.cm (dI cj) (fun s x=>k.al s.1 x) k.ke) n t b).1
 |0,_,_,h,_=>h
 |n+1,t,b,h,hd=>by
  have d:=gW.pl b ([],[],t) h hd;have d:gW k z D (pts (Go.Proofs.YtpkjkjhanlbcoaaGreat.cm (dI cj) (fun s x=>k.al s.1 x) k.ke) t b).2.2:=d;by_cases c:(pts (Go.Proofs.YtpkjkjhanlbcoaaGreat.cm (dI cj) (fun s x=>k.al s.1 x) k.ke) t b).1.length=0
  ·rw[lQ _ _ _ _ c];exact d
  ·rw[lR _ _ _ _ c];exact gW.eB n _ _ d (fun e he=>hd e (sD _ t b e (aJ he)))
theorem zA (k:ce):∀(l:List Int)(s:cj),(l.foldl k.eF s).g=s.g
 |[],_=>rfl
 |x::l,s=>by rw[a8,zA k l];unfold ce.eF;split<;>rfl
theorem zB (k:ce):∀(l:List Int)(s:cj),(l.foldl k.gA s).g=s.g
 |[],_=>rfl
 |x::l,s=>by rw[a8,zB k l];rfl
end
section
variable {a:Wc}{S:cq}{Y G:List Int}
theorem GF (h:el a S.s Y G)(hb:cI a S.s)(hr:S.s.y<=a.O-S.s.g)(he:jz a S):∃D,gW (S.s.k0 a) (S.s.z0 G) D ((S.s.k0 a).eW (S.t3 a) S.r)/\dh (S.s.k0 a) (S.t3 a).1 (S.s4 a):=by
 have p:(S.s.k0 a).T=Y:=oo h.inv.full hb.n1 hb.y1 hb.o1 hb.g1;have d:∀x,tB a.N S.s.y S.s.g S.s.ws x=true->jV (S.s.k0 a) (S.s.z0 G) x:=fun x f=>by
  obtain⟨q1,q2⟩:=(i6 h.inv.full hb.n1 hb.y1 hb.o1 hb.g1).1 f;refine⟨q1,?_⟩
  rw[p];exact q2
 have i:=LI.start h.inv.full hb.n0 hb.n1 hb.o1 hb.y1 hb.g1 hb.l1 hr;obtain⟨H1,c,q,⟨H,s⟩,l1,y1,_,m1⟩:=i.cJ 12 (by show 12<=S.s.rs.length;rw[hb.r1];exact aD _)
 have j:dD a.N S.s.y (S.s.s1 a).g (S.s.s1 a).ws=G++H1:=(c.mi.full.lists hb.n1 hb.y1 hb.o1 c.mi.ci.hg).2;have u:(S.s.s1 a).nx=((S.s.k0 a).N:Int)+(S.s.z0 G).g:=(lB _ _ 12).2.2;have v:d4 ((S.s.k0 a).l0 (S.s.z0 G)) (((S.s.k0 a).N:Int)+(S.s.z0 G).g) (S.s.k0 a).N (S.s.z0 G).G:=h.inv.full.ec;obtain⟨k,g,m,n,A,⟨I,J⟩,_,L⟩:=LI.pt (dF a.O) S.s.M v (G++H1) c ((dL.start a S.s G).cJ i.mi 12 c.mi q ⟨_,s⟩) (fun x f=>(List.mem_append.1 f).imp id (fun B=>c.mi.hlo x B))
 have C:(G++H1).foldl ((S.s.k0 a).gh (((S.s.k0 a).N:Int)+(S.s.z0 G).g) (dF a.O) S.s.M) ((S.s.k0 a).cJ (S.s.s0 a) 12)=S.s.s2 a:=by unfold d9.s2 ce.lm;rw[j,u];rfl
 have hlen:=qO (S.s.k0 a) (((S.s.k0 a).N:Int)+(S.s.z0 G).g) (dF a.O) S.s.M (G++H1) ((S.s.k0 a).cJ (S.s.s0 a) 12)
 rw[C] at m n A hlen;have M:(G++H1).length<=2000:=by rw[<-j];exact iL _ _
 obtain⟨q1,q2,q3⟩:=lB _ _ 12;have cb:ee (S.s.k0 a) (S.s.s2 a):=by exact t4
 have key:∀s2:cj,LI (S.s.k0 a) (S.s.z0 G) s2 k g->dL (S.s.k0 a) (S.s.z0 G) s2 k->ee (S.s.k0 a) s2->_:=fun s2 l w b=>
  gW.sp (t:=(s2,S.q)) l w b (fun e hq=>⟨d _ (he e (aJ hq)).1,e.2,d _ (he e (aJ hq)).2,aK rfl⟩)
 have o:gW (S.s.k0 a) (S.s.z0 G) g (S.t3 a):=by exact key _ m n cb
 refine⟨g,gW.eB _ (S.t3 a) _ o (fun e hq=>?_),?_⟩
 ·have hq:=(List.mem_filter.1 hq).1;exact⟨d _ (he e (aK hq)).1,d _ (he e (aK hq)).2⟩
 ·obtain⟨K,r1,E,_⟩:=o;obtain⟨_,_,_,F,_⟩:=cX.eW (S.t3 a) S.r K r1 E;exact F
theorem jz.cut (h:el a S.s Y G)(hb:cI a S.s)(he:jz a S):jz a (S.cut a):=by
 cases hf:S.full a
 ·have hr:S.s.y<=a.O-S.s.g:=by have:=of_decide_eq_false hf;omega
  obtain⟨K,D,c⟩:=qP h hb hr;obtain⟨R,⟨H,s1,s2,_,s4,s5⟩,iW⟩:=GF h hb hr he;have E:(S.s.k0 a).T=Y:=oo h.inv.full hb.n1 hb.y1 hb.o1 hb.g1;have hN:=hb.n1;have hO:=hb.o1;have hg:=c.li.mi.ci.hg;have U:(S.s.k0 a).N=a.N:=rfl;have W:(S.s.k0 a).O=a.O:=rfl;have F:(S.s6 a).g=(S.s4 a).g:=(zB _ _ _).trans (zA _ _ _)
  have g:S.cut a=⟨⟨0,(S.s6 a).g,(S.s6 a).ws,[],(S.s6 a).rs⟩,(S.s.k0 a).sR (S.t3 a) S.r,(S.s.k0 a).jd (S.t3 a) S.r⟩:=by unfold cq.cut;rw[aG (by rw[hf];simp)]
  have s:∀x,cY x=true->cg x∈G++K->tB a.N (S.cut a).s.y (S.cut a).s.g (S.cut a).s.ws x=true:=fun x i j=>by rw[g];exact(i6 (O:=a.O) (c.done h hb).full hN (aY _) hO (by rw[F];exact hg)).2 ⟨i,aJ j⟩
  have u:∀v∈(S.s.k0 a).T,(S.s4 a).f v≠-1->cY (ew 3 ((S.s4 a).f v))=true/\cg (ew 3 ((S.s4 a).f v))∈G++K:=fun v hv I=>by
   have w:=c.li.mi.fh _ hv I;have X:=c.li.mi.i5 w;obtain⟨n,hn⟩:∃n:Nat,(S.s4 a).f v=n:=⟨((S.s4 a).f v).toNat,V⟩
   rw[hn];obtain⟨w1,d⟩:=m5 n V;rw[d,<-hn];rw[<-hn] at w1;exact⟨w1,a9 _ w⟩
  have A:∀x,(S.s.k0 a).cK x=true->cg x∈(S.s.k0 a).T:=fun x k=>by unfold ce.cK at k;rw[a_] at k;simpa using k.2
  have key:∀x,jV (S.s.k0 a) (S.s.z0 G) x->(S.s.k0 a).al (S.s4 a) x=true->tB a.N (S.cut a).s.y (S.cut a).s.g (S.cut a).s.ws ((S.s.k0 a).nw (S.s4 a) x)=true:=fun x l ha=>by
   cases hy:(S.s.k0 a).cK x
   ·have b:(S.s.k0 a).nw (S.s4 a) x=x:=by unfold ce.nw;rw[hy];rfl
    rw[b];refine s x l.1 (aX _ ?_)
    rcases l.2 with q|q
    ·unfold ce.cK at hy;rw[l.1] at hy;simp at hy;exact absurd q hy
    ·exact q
   ·have B:(S.s4 a).f (cg x)≠-1:=fun e=>by unfold ce.al ce.ls at ha;rw[hy,e] at ha;simp at ha
    have b:(S.s.k0 a).nw (S.s4 a) x=ew 3 ((S.s4 a).f (cg x)):=by unfold ce.nw;rw[hy,aI (by simp[B])]
    rw[b];obtain⟨w1,d⟩:=u _ (A x hy) B;exact s _ w1 d
  have J:∀f x,jV (S.s.k0 a) (S.s.z0 G) f->(S.s.k0 a).ml (S.s4 a) f x->(S.s.k0 a).al (S.s4 a) x=true->tB a.N (S.cut a).s.y (S.cut a).s.g (S.cut a).s.ws ((S.s.k0 a).nw (S.s4 a) x)=true:=fun f x l hm ha=>by
   rcases hm with rfl|⟨m1,L,M⟩
   ·exact key _ l ha
   ·obtain⟨w1,d⟩:=u _ (A f m1) L;rw[<-M] at w1 d;have b:(S.s.k0 a).nw (S.s4 a) x=x:=by unfold ce.nw;rw[(c.li.mi.om d)];rfl
    rw[b];exact s _ w1 d
  have C:∀x,tB a.N S.s.y S.s.g S.s.ws x=true->jV (S.s.k0 a) (S.s.z0 G) x:=fun x k=>by
   obtain⟨q1,N⟩:=(i6 (O:=a.O) h.inv.full hb.n1 hb.y1 hb.o1 hb.g1).1 k;refine⟨q1,?_⟩
   rw[E];exact N
  intro e hm;rcases hm with hm|hm
  ·have b:(S.cut a).r=(S.s.k0 a).sR (S.t3 a) S.r:=by rw[g]
   rw[b] at hm;have hm:=hm;obtain⟨m,i,j⟩:=List.mem_map.1 hm;obtain⟨o,p⟩:=List.mem_filter.1 i;obtain⟨P,Q⟩:=List.mem_filter.1 o;obtain⟨t,j2⟩:=he m (aK P)
   rw[<-j];exact⟨key _ (C _ t) p,key _ (C _ j2) (pA iW Q)⟩
  ·have b:(S.cut a).q=(S.s.k0 a).jd (S.t3 a) S.r:=by rw[g]
   rw[b] at hm;have hm:e∈(((S.s.k0 a).eW (S.t3 a) S.r).2.filter (fun e=>(S.s.k0 a).al (S.s4 a) e.1)).map fun e=>((S.s.k0 a).nw (S.s4 a) e.1,(S.s.k0 a).nw (S.s4 a) e.2):=hm;obtain⟨m,i,j⟩:=List.mem_map.1 hm;obtain⟨o,p⟩:=List.mem_filter.1 i;obtain⟨t,f,j2,cA⟩:=s4 m o;rw[<-j];refine⟨key _ t p,J f _ j2 cA ?_⟩
   rcases s5 m o with q|q
   ·exact q
   ·have q:(S.s.k0 a).al (S.s4 a) m.1=false:=q;rw[p] at q;cases q
 ·have g:S.cut a=S:=by unfold cq.cut;rw[aI hf]
  rw[g];exact he
end
def cq.kx (a:Wc)(S:cq)(x:Int):Int:=if tB a.N S.s.y S.s.g S.s.ws x=true then pk (ld a.N S.s.y S.s.g S.s.ws (cg x)) else 0
def cq.fx (a:Wc)(S:cq)(x:Int):Int:=if tB a.N S.s.y S.s.g S.s.ws x=true then pf (ld a.N S.s.y S.s.g S.s.ws (cg x)) else 0
def cq.ex (a:Wc)(S:cq)(x:Int):Int:=if tB a.N S.s.y S.s.g S.s.ws x=true then pc (ld a.N S.s.y S.s.g S.s.ws (cg x)) else 2
def cq.room (a:Wc)(S:cq)(m:Int):Int×cq:=if m<=(a.N:Int)-S.s.y then(0,S) else if(S.s.y:Int)<=(a.O:Int)-S.s.g then(S.code a,S.cut a) else(S.ie a,S.dy a)
def cq.put (a:Wc)(S:cq)(kd:Int)(rl:List Nat):cq:=⟨{S.s with y:=S.s.y+1+rl.length,ws:=iz S.s.rs S.s.y (fq a.N S.s.y kd rl.length S.s.ws) rl rl.length},S.r,S.q⟩
def cq.bZ (a:Wc)(S:cq)(kd:Int)(rl:List Nat):Int×Int×cq:=if(S.room a (1+rl.length)).1=0 then(ew 3 (S.room a (1+rl.length)).2.s.y,0,(S.room a (1+rl.length)).2.put a kd rl) else(0,(S.room a (1+rl.length)).1,(S.room a (1+rl.length)).2)
def cq.pop (a:Wc)(S:cq)(x:Int):Int×Int×cq:=
 if S.kx a x=5 then(if dO x S.q<S.q.length then((S.q.getD (dO x S.q) (0,0)).2,0,⟨S.s,S.r,S.q.take (dO x S.q)++S.q.drop (dO x S.q+1)⟩) else(0,4,S)) else(0,2,S)
def cq.len (a:Wc)(S:cq)(x:Int):Int×Int×cq:=if S.ex a x=0/\S.kx a x≠5 then(ew 1 (S.fx a x),vc 1 (S.fx a x),S) else(0,2,S)
def cq.rt (a:Wc)(S:cq)(k:Int)(A B:Nat)(I n:Int):Int×Int×cq:=
 if k=1 then(ew 1 n,vc 1 n,S) else if k=3 then(S.s.rs.getD A 0,0,S) else if k=4 then S.bZ a 1 [A,B] else if k=5 then S.bZ a 2 (List.replicate n.toNat A)
 else if k=6 then S.bZ a 3 [A,B] else if k=7 then S.bZ a 4 [A,B] else if k=8 then S.bZ a 5 [] else if k=10 then S.pop a (S.s.rs.getD A 0)
 else if k=11 then((if ej a.N S.s.y S.s.g S.s.ws (S.s.rs.getD A 0) I=0 then ld a.N S.s.y S.s.g S.s.ws (cg (S.s.rs.getD A 0)+1+I) else 0),ej a.N S.s.y S.s.g S.s.ws (S.s.rs.getD A 0) I,S)
 else if k=13 then S.len a (S.s.rs.getD A 0) else if k=14 then(if S.s.rs.getD A 0=S.s.rs.getD B 0 then ew 1 1 else ew 1 0,0,S) else(2,0,S)
def cq.reg (a:Wc)(S:cq)(t g:Int):Int×cq:=
 if S.ex a t=0 then(if S.kx a g=5 then(if 24<=S.r.length+S.q.length then(3,S) else(0,⟨S.s,S.r++[(g,t)],S.q⟩)) else(2,S)) else(S.ex a t,S)
def cq.set (a:Wc)(S:cq)(x i z:Int):cq:=⟨{S.s with ws:=ge a.N S.s.y S.s.g S.s.ws x i z,M:=stM a.N S.s.y S.s.g S.s.ws x i z (dF a.O) S.s.M},S.r,S.q⟩
def cq.st (S:cq)(R:Nat)(x:Int):cq:=⟨{S.s with rs:=S.s.rs.set R x},S.r,S.q⟩
def cq.hd (a:Wc)(S:cq)(k R A B I n:Int):Int×cq:=
 if dJ k R A B n=0 then(if k=9 then S.reg a (S.s.rs.getD A.toNat 0) (S.s.rs.getD B.toNat 0) else if k=12 then(ej a.N S.s.y S.s.g S.s.ws (S.s.rs.getD A.toNat 0) I,S.set a (S.s.rs.getD A.toNat 0) I (S.s.rs.getD B.toNat 0))
  else if k=15 then(S.code a,S.cut a) else if k=16 then(S.ie a,S.dy a)
  else if(S.rt a k A.toNat B.toNat I n).2.1=0 then(0,(S.rt a k A.toNat B.toNat I n).2.2.st R.toNat (S.rt a k A.toNat B.toNat I n).1) else((S.rt a k A.toNat B.toNat I n).2.1,(S.rt a k A.toNat B.toNat I n).2.2))
 else(dJ k R A B n,S)
theorem zC (k:ce):∀(l:List Int)(s:cj),(l.foldl k.eF s).rs=s.rs
 |[],_=>rfl
 |x::l,s=>by rw[a8,zC k l];unfold ce.eF;split<;>rfl
theorem zD (k:ce):∀(l:List Int)(s:cj),(l.foldl k.gA s).rs=s.rs
 |[],_=>rfl
 |x::l,s=>by rw[a8,zD k l];rfl
section
variable {a:Wc}{S:cq}{Y G:List Int}
theorem el.GG (h:el a S.s Y G)(hb:cI a S.s):cI a (S.cut a).s:=by
 unfold cq.cut;cases hf:S.full a
 ·have hr:S.s.y<=a.O-S.s.g:=by exact qr
  obtain⟨K,D,c⟩:=qP h hb hr;rw[aG Z];have c4:=c.li.mi.ci;have c5:=(c4.mw (fun x b=>(c4.ix x b).1)).1;have d:=(c5.be (fun x b=>(c5.h7 x b).1)).1;have e:(S.s6 a).rs=(S.s4 a).rs:=(zD _ _ _).trans (zC _ _ _)
  exact⟨hb.n0,hb.n1,hb.o1,aY _,d.hg,d.len,by rw[e];exact c.rl⟩
 ·exact hb
theorem el.GH (h:el a S.s Y G)(hb:cI a S.s):cI a (S.dy a).s:=by
 cases hf:S.fM a
 ·obtain⟨_,g,_⟩:=l_ h hb hf;exact(g.gc.inv h hb g.al).2
 ·have b:S.dy a=S:=by unfold cq.dy;rw[aI hf]
  rw[b];exact hb
theorem el.store {s:d9}(h:el a s Y G)(hb:cI a s){v i z:Int}(hv:v∈Y)(e:0<=i)(f:i<pf (ld a.N s.y s.g s.ws v))(hz:cY z=true->cg z∈Y\/cg z∈G):el a {s with ws:=s.ws.set (v+1+i).toNat z} Y G:=by
 refine⟨h.inv.set hb.l1 hb.y1 hb.g1 (aK hv) e f hz,?_⟩
 obtain⟨_,hk⟩:=h.inv.full.set hb.l1 hb.y1 hb.g1 (aK hv) e f;have l:=m6 h.inv.full hv e f;have m:=hb.y1;have hl:=hb.l1;intro b c j j0 d ha g;rw[hk b (aJ c)] at d;have n:=m7 h.inv.full c j0 d;have hi:=jR h.inv.full (aJ c) j0 d;have k:ld a.N s.y s.g (s.ws.set (v+1+i).toNat z) (b+1+j)=ld a.N s.y s.g s.ws (b+1+j):=by rw[dW hi,dW hi,j9 _ _ _ _ V,aG V]
 rw[k] at ha g;exact h.cd b c j j0 d ha g
end
theorem el.any {a:Wc}{s:d9}{Y G:List Int}(h:el a s Y G)(i:Nat)(ha:cY (s.rs.getD i 0)=true):cg (s.rs.getD i 0)∈Y\/cg (s.rs.getD i 0)∈G:=by
 by_cases hi:i<s.rs.length
 ·exact h.inv.at i hi ha
 ·rw[aE,List.getElem?_eq_none V] at ha;exact absurd ha aa
theorem ub (ws:List Int)(y:Nat)(x:Int):∀k,(fC ws y x k).length=ws.length
 |0=>by simp[fC]
 |k+1=>by rw[fC,a4];exact ub ws y x k
structure GI (a:Wc)(S:cq)(kd:Int)(rl:List Nat)(Y G:List Int)(ws:List Int):Prop where
 k:el a {S.s with y:=S.s.y+1+rl.length,ws:=ws} (Y++[(S.s.y:Int)]) G
 l:ws.length=a.N+a.O
 p:ld a.N (S.s.y+1+rl.length) S.s.g ws S.s.y=hw kd rl.length
 h:∀v,(v∈Y\/v∈G)->ld a.N (S.s.y+1+rl.length) S.s.g ws v=ld a.N S.s.y S.s.g S.s.ws v
theorem uc {a:Wc}{S:cq}{Y G:List Int}{kd:Int}{rl:List Nat}(h:el a S.s Y G)(hb:cI a S.s)(hk:hc kd rl.length=0)(hr:S.s.y+1+rl.length<=a.N):∀j,j<=rl.length->GI a S kd rl Y G (iz S.s.rs S.s.y (fq a.N S.s.y kd rl.length S.s.ws) rl j)
 |0,_=>by
  have hm:iJ a.N S.s.y kd rl.length=true:=by unfold iJ;simp;omega
  have m:iU a.N S.s.y kd rl.length=S.s.y+1+rl.length:=by unfold iU;rw[aI hm];omega
  have d:fq a.N S.s.y kd rl.length S.s.ws=fC S.s.ws S.s.y (hw kd rl.length) rl.length:=by unfold fq;rw[aI hm];rfl
  have n:=hb.l1;have hlt:S.s.y+rl.length<S.s.ws.length:=V;have m1:=h.inv.make hb.l1 hm;have k:=kJ.make h.inv h.cd hb.l1 hm;rw[m] at m1 k;have o:(fq a.N S.s.y kd rl.length S.s.ws).length=a.N+a.O:=by rw[d,ub];exact n
  refine⟨⟨m1,k⟩,o,?_,fun v hv=>?_⟩
  ·show ld a.N _ S.s.g (fq a.N S.s.y kd rl.length S.s.ws) S.s.y=_;rw[d,dW (iK V V),k7 _ _ _ _ _ hlt,aI V]
  ·show ld a.N _ S.s.g (fq a.N S.s.y kd rl.length S.s.ws) v=_;rw[d];rcases hv with f|f
   ·have hi:=h.inv.full.iw v f;exact sw
   ·have hi:=h.inv.full.io v f;exact p7
 |j+1,p=>by
  have b:=uc h hb hk hr j V;have e:iz S.s.rs S.s.y (fq a.N S.s.y kd rl.length S.s.ws) rl (j+1)=(iz S.s.rs S.s.y (fq a.N S.s.y kd rl.length S.s.ws) rl j).set (S.s.y+1+j) (S.s.rs.getD (rl.getD j 0) 0):=rfl;rw[e];generalize iz S.s.rs S.s.y _ rl j=ws at b⊢;have g:cI a {S.s with y:=S.s.y+1+rl.length,ws:=ws}:=⟨hb.n0,hb.n1,hb.o1,hr,hb.g1,b.l,hb.r1⟩
  have i:(S.s.y:Int)∈Y++[(S.s.y:Int)]:=Z;have l:((j:Nat):Int)<pf (ld a.N (S.s.y+1+rl.length) S.s.g ws S.s.y):=by rw[b.p,(pU kd rl.length hk).2.1];omega
  have st:=b.k.store g (z:=S.s.rs.getD (rl.getD j 0) 0) i V l (fun ha=>by exact(h.any _ ha).imp (fun c=>aX _ c) id)
  have q:((S.s.y:Int)+1+(j:Nat)).toNat=S.s.y+1+j:=V;have hs:=(b.k.inv.full.set (z:=S.s.rs.getD (rl.getD j 0) 0) b.l g.y1 g.g1 (aK i) (Int.natCast_nonneg j) l).2;refine⟨st,by rw[a4];exact b.l,(hs _ (aK i)).trans b.p,fun v hv=>(hs v (hv.imp (fun c=>aX _ c) id)).trans (b.h v hv)⟩
theorem zE (w:ax)(B n1 b:Nat)(l1 l2:List b7)(d f:Addr)(c1 c2:Nat)(g:l1.length=n1)(i:l2.length=b)(j:w.cell? (aq B 0)=some (.slice (some d) n1 c1))(k:w.cell? (aq B 1)=some (.slice (some f) b c2))(l:dv w (some d) l1)(n:dv w (some f) l2)(hm:n1+b<=100000):
 Calls prog 230 #[.slice (ak B) 2 2] w fun e w'=>∃a c m,e=.returned (.slice a m c)/\ay (m=n1+b)/\ay (w'.ownsRow w.heap.size 103 2 (.slice a m c) m (ev (l1++l2)))/\Below w.heap.size w w':=by
 subst g;subst i;refine(Ek w B l1 l2 d f c1 c2 j k l n hm).mono ?_;rintro e w' ⟨a,c,rfl,o,p⟩
 exact⟨a,c,_,rfl,rfl,o,p⟩
theorem dv.take {w:ax}{ad:Option Addr}{q:List b7}(h:dv w ad q)(i:Nat):dv w ad (q.take i):=by
 intro hp;simp only [List.length_take] at hp;obtain⟨b,o,e,hb,hc⟩:=h V;refine⟨b,o,e,hb,fun j c=>?_⟩
 simp only [List.length_take] at c;have d:(q.take i).getD j (0,0)=q.getD j (0,0):=by rw[aE,aE,List.getElem?_take_of_lt V]
 rw[d];exact hc j V
theorem dv.drop {w:ax}{b o:Nat}{q:List b7}(h:dv w (some ⟨b,o,none⟩) q)(i:Nat):dv w (some ⟨b,o+i*2,none⟩) (q.drop i):=by
 intro hp;simp only [List.length_drop] at hp;obtain⟨g,k,e,hb,hc⟩:=h V;cases e;refine⟨b,o+i*2,rfl,hb,fun j c=>?_⟩
 simp only [List.length_drop] at c;have d:(q.drop i).getD j (0,0)=q.getD (i+j) (0,0):=by simp[List.getElem?_drop]
 have f:=hc (i+j) V;rw[d,show o+i*2+j*2=o+(i+j)*2 by omega];exact f
theorem GJ:dN 229:=f_ func229 ae rfl
theorem GK (w:ax)(B:Nat)(g:Int)(e:b7)(h:w.cell? (aq B 0)=some (ah g)):
 Calls prog 229 #[en e,aj B] w fun r w'=>r=.returned (.bool (e.1==g))/\Below w.heap.size w w':=by
 obtain⟨x,y⟩:=e;have d:=aQ w _ h;have b:=au w (.cells #[.int .i64 x,.int .i64 y] 103)
 by_cases c:x=g
 ·subst c;go_enter func229,ntmps229;go_wp2_with fail;go_ret;exact⟨Z,b⟩
 ·go_enter func229,ntmps229;go_wp2_with fail;go_ret;exact⟨Z,b⟩
theorem zF {w w1 b:ax}{p m:Nat}{a0 c:Option Addr}{k0 k1 c5 i n:Nat}{r q:List b7}(h:fu w p a0 k0 (ak m) k1 r q)(f:Below w.heap.size w w1)(o:Below w1.heap.size w1 b)(g:b.ownsRow w1.heap.size 103 2 (.slice c n c5) n (ev (q.take i++q.drop (i+1))))(hi:i<q.length)(hn:n+1=q.length):
 fu (b.setCell ⟨p,1,none⟩ (.slice c n c5)) p a0 k0 c c5 r (q.take i++q.drop (i+1))/\(∀z,c=some z->w.heap.size<=z.block)/\Fr (fun k=>k=p) w (b.setCell ⟨p,1,none⟩ (.slice c n c5)):=by
 have j:Below w.heap.size w b:=f.trans (o.mono f.size)
 have d:=h.below j;have hl:(q.take i++q.drop (i+1)).length=n:=by rw[aZ,bw,List.length_drop];omega
 have l:∀k,k≠p->(b.setCell ⟨p,1,none⟩ (.slice c n c5)).heap[k]?=b.heap[k]?:=fun k hk=>aU _ _ _ _ hk;refine⟨⟨by rw[hl];exact Es d.blk,cH d.r0 (fun k e=>l k (d.np d.r0 k e)),?_⟩,fun z e=>?_,(Fr.of j).set p 1 _ rfl⟩
 ·rw[hl];exact eU (cH g (fun k e=>l k (d.np g k e))) (fun _ _=>aY _)
 ·have:=(cn g z.block (by rw[e];rfl)).1;have:=f.size;omega
theorem zG (w:ax)(p:Nat)(a0 a1:Option Addr)(k0 k1:Nat)(r q:List b7)(g:Int)(h:fu w p a0 k0 a1 k1 r q)(W:q.length<=90000):
 Calls prog 194 #[aj p,ah g] w fun e w'=>
  (e=.returned (.tuple #[ah 0,.bool false])/\(∀e∈q,¬e.1=g)/\Below w.heap.size w w')\/
  (∃(i:Nat)(b1:Option Addr)(c1:Nat),e=.returned (.tuple #[ah (q.getD i (0,0)).2,.bool true])/\i<q.length/\(q.getD i (0,0)).1=g/\(∀e∈q.take i,¬e.1=g)/\fu w' p a0 k0 b1 c1 r (q.take i++q.drop (i+1))/\(∀z,b1=some z->w.heap.size<=z.block)/\Fr (fun k=>k=p) w w'):=by
 obtain⟨c0,c1,K,X,lp⟩:=h.cells;have H:ay (fu w p a0 k0 a1 k1 r q):=h;have l:=au w (.cells #[.int .i64 g] 2)
 have y1:=(l.cell (p:=aq p 1) lp).trans c1;have P:=CL (fun _=>True) 229 #[] #[aj w.heap.size] (fun e=>e.1==g) GJ (w.alloc (.cells #[.int .i64 g] 2)) (fun w' e _ hs hk=>GK w' w.heap.size g e ((aP (a:=⟨w.heap.size,0,none⟩) (hk _ Z)).trans Z)) q a1 k1 (fun _ _=>trivial) V ((g7 h.q0).below l)
 clear h c0 K;go_enter func194,ntmps194;go_wp2_with fail;refine P.mono ?_;clear P;rintro e w1 ⟨hb,⟨rfl,hn⟩|⟨i,rfl,hi,ht,hn⟩⟩
 ·have n:ay (∀e∈q,¬e.1=g):=fun e he=>by simpa using hn e he
  have f:=l.trans (hb.mono Z)
  clear hb hn;go_wp2_with fail;go_ret2;exact aK ⟨rfl,n.o,f⟩
 ·have n:ay (∀e∈q.take i,¬e.1=g):=fun e he=>by simpa using hn e he
  have E:ay ((q.getD i (0,0)).1=g):=by show _=_;simpa using ht
  obtain⟨z,s⟩:∃z,ay (z=(q.getD i (0,0)).2):=⟨_,rfl⟩
  have f:=l.trans (hb.mono Z)
  have Y:=f.size;have j:=H.o.below f;obtain⟨ab,F,ad,G,o⟩:=j.cells;have t:=qw j.q0;obtain⟨b,cap,I⟩:=eT j.q0 V;simp at I;obtain⟨rfl,rfl⟩:=I;have ag:=t.le;have L:k1<=maxLen:=by
   rcases j.q0.2 with⟨_,h0⟩|⟨g,ai,al,hv,_,_,_,hc,_⟩
   ·omega
   ·simp at hv;omega
  unfold maxLen at L;obtain⟨am,an,M,ao,hc⟩:=t.lp V;cases M;have N:=(hc i hi).2;rw[Nat.zero_add,<-s.o] at N;have ap:(0:Int)<=(i:Int):=V;have ar:(i:Int)<(q.length:Int):=V;have aB:ay (fu w1 p a0 k0 (ak b) k1 r q):=j;clear hb hn l hc j ht;have u:ay (dv w1 (ak b) q):=t.lp;have J:ay ((q.take i).length=i):=by show _=_;rw[bw];omega
  have aF:(i:Int)<=(k1:Int):=V;have aR:IntKind.i64.wrap ((i:Int)+1)=(i:Int)+1:=by rw[bk];omega
  have aV:(0:Int)<=(i:Int)+1:=V;have a2:(i:Int)+1<=(q.length:Int):=V;have bb:((i:Int)+1).toNat=i+1:=V;have bd:(i:Int).toNat=i:=V;by_cases hk:i+1=k1
  ·subst hk;have hz:q.length-(i+1)=0:=V;have c:=(au w1 (.cells #[.slice (some ⟨b,0,none⟩) i (i+1),.slice (some ⟨b,0,none⟩) 0 0] 151)).drew;have v:ay ((q.drop (i+1)).length=0):=by show _=_;rw[List.length_drop];omega
   have O:dv (w1.alloc (.cells #[.slice (some ⟨b,0,none⟩) i (i+1),.slice (some ⟨b,0,none⟩) 0 0] 151)).drew (ak b) (q.drop (i+1)):=fun h=>by rw[List.length_drop] at h;omega
   go_wp2_with fail
   go_region_with (go_at_call 230;refine(zE _ w1.heap.size i (0) (q.take i) (q.drop (i+1)) ⟨b,0,none⟩ ⟨b,0,none⟩ (i+1) (0) J.o v.o Z Z ((u.o.take i).below c) (O) V).mono ?_;rintro e x ⟨A,c5,Q,rfl,B,m,d⟩;have R:=(d.cell (p:=aq p 1) (by simp;omega)).trans ((c.cell (p:=aq p 1) o).trans F);have S:=(d.frozen (p:=aq p 1) (by simp;omega)).trans ((c.frozen (p:=aq p 1) o).trans G))
   all_goals
    go_wp2_with fail;go_ret2;refine aJ ⟨i,A,c5,by rw[<-s.o];rfl,hi,E.o,n.o,?_⟩
    have C:Below w1.heap.size w1 x:=c.trans (d.mono Z)
    exact zF H.o f C (eU m.o (fun k e=>by have:=(cn m.o k e).1;simp at this;omega)) hi (by have:=B.o;omega)
  ·have be:¬k1=i+1:=fun e=>hk e.symm;have c:=(au w1 (.cells #[.slice (some ⟨b,0,none⟩) i k1,.slice (some ⟨b,(i+1)*2,none⟩) (q.length-(i+1)) (k1-(i+1))] 151)).drew;have v:ay ((q.drop (i+1)).length=q.length-(i+1)):=List.length_drop;have D:=(u.o.drop (i+1)).below c;rw[Nat.zero_add] at D;have U:ay (dv (w1.alloc (.cells #[.slice (some ⟨b,0,none⟩) i k1,.slice (some ⟨b,(i+1)*2,none⟩) (q.length-(i+1)) (k1-(i+1))] 151)).drew (some ⟨b,(i+1)*2,none⟩) (q.drop (i+1))):=D;clear D;go_wp2_with fail
   go_region_with (go_at_call 230;refine(zE _ w1.heap.size i (q.length-(i+1)) (q.take i) (q.drop (i+1)) ⟨b,0,none⟩ ⟨b,(i+1)*2,none⟩ k1 (k1-(i+1)) J.o v.o Z Z ((u.o.take i).below c) (U.o) V).mono ?_;rintro e x ⟨A,c5,Q,rfl,B,m,d⟩;have R:=(d.cell (p:=aq p 1) (by simp;omega)).trans ((c.cell (p:=aq p 1) o).trans F);have S:=(d.frozen (p:=aq p 1) (by simp;omega)).trans ((c.frozen (p:=aq p 1) o).trans G))
   all_goals
    go_wp2_with fail;go_ret2;refine aJ ⟨i,A,c5,by rw[<-s.o];rfl,hi,E.o,n.o,?_⟩
    have C:Below w1.heap.size w1 x:=c.trans (d.mono Z)
    exact zF H.o f C (eU m.o (fun k e=>by have:=(cn m.o k e).1;simp at this;omega)) hi (by have:=B.o;omega)
section
variable {a:Wc}{hp:Nat}{F:Nat->Prop}{S:cq}{w:ax}
theorem ud (h:(cw a hp).J F S w)(x:Int):
 Calls prog 48 #[aj a.pw,ah x] w fun e w'=>e=.returned (.tuple #[ah (S.kx a x),ah (S.fx a x),ah (S.ex a x)])/\Below w.heap.size w w':=
 CZ x w (em h).c0 (lv h).1
theorem zH (h:(cw a hp).J F S w)(x:Int):
 Calls prog 121 #[aj hp,ah x] w fun e w'=>e=.returned (.bool (S.kx a x==5))/\Below w.heap.size w w':=by
 have P:=ud h x;obtain⟨h0,_⟩:=em h;go_enter func121,ntmps121;exact ti
theorem GL {q:List b7}{g:Int}{i:Nat}(hi:i<q.length)(b:(q.getD i (0,0)).1=g)(c:∀e∈q.take i,¬e.1=g):dO g q=i:=by
 refine(List.findIdx_eq hi).2 ⟨?_,fun j d=>?_⟩
 ·rw[aE,aL hi] at b;simpa using b
 ·have:=c (q[j]'V) (by rw[List.mem_take_iff_getElem];exact⟨j,V,rfl⟩)
  simpa using this
theorem GM (h:(fL a).J F S w)(g:Int)(hq:S.q.length<=90000):
 Calls prog 194 #[aj a.sd,ah g] w fun e w'=>∃m,e=.returned (.tuple #[ah (if dO g S.q<S.q.length then(S.q.getD (dO g S.q) (0,0)).2 else 0),.bool (decide (dO g S.q<S.q.length))])/\(fL a).J m (if dO g S.q<S.q.length then⟨S.s,S.r,S.q.take (dO g S.q)++S.q.drop (dO g S.q+1)⟩ else S) w'/\b8 F w m w':=by
 have q:=h;obtain⟨n,ar,f,⟨s,ad,cap,j,t,u,v,o,p,D,x⟩,r0,r1,k⟩:=h;refine(zG w a.sd ar ad f cap S.r S.q g ⟨t,r0,u⟩ hq).mono ?_;rintro e w' (⟨rfl,hn,hb⟩|⟨i,b1,c1,rfl,hi,g1,g2,hs,A,fr⟩)
 ·have l:¬dO g S.q<S.q.length:=fun c=>by
   unfold dO at c;have:=List.findIdx_getElem (w:=c)
   exact hn _ (a6 c) (by simpa using this)
  rw[aG l,aG l,bq l];exact⟨F,rfl,(fL a).below q hb,b8.of hb⟩
 ·rw[(GL hi g1 g2),aI hi,aI hi,bh hi];have nq:∀b,some b=(Value.slice b1 (S.q.take i++S.q.drop (i+1)).length c1).ownBlock->w.heap.size<=b:=fun b e=>by
   cases b1 with
   |none=>simp[Value.ownBlock] at e
   |some z=>
    simp[Value.ownBlock] at e;rw[e];exact A z rfl
  refine⟨fun b=>(n b\/some b=(Value.slice b1 _ c1).ownBlock)\/some b=(Value.slice ar S.r.length f).ownBlock,rfl,⟨fun b=>n b\/some b=(Value.slice b1 _ c1).ownBlock,ar,f,⟨s,b1,c1,(dX a).keep j fr.size (fun b d=>fr.block b ((dX a).lt j b d) (fun e=>p (by have e:=e;rw[<-e];exact d))),hs.blk,hs.q0,fun b d=>aK (v b d),aK o,p,fun b e=>⟨aJ e,fun d=>by have B:=(dX a).lt j b d;have C:=nq b e;omega⟩,fun b d=>?_⟩,hs.r0,fun b e d=>?_,fun b=>Iff.rfl⟩,⟨fr.mono (fun b d=>(k b).2 (aK (by have d:=d;rw[d];exact o))),fun b d=>?_⟩⟩
  ·rcases d with d|d
   ·exact aM (x b d) fr.size
   ·exact(cn hs.q0 b d).2
  ·rcases d with d|d
   ·exact r1 b e d
   ·have B:=(cn r0 b e).2;have C:=nq b d;omega
  ·rcases d with(d|d)|d
   ·exact aK ((k b).2 (aK d))
   ·exact aJ (nq b d)
   ·exact aK ((k b).2 (aJ d))
theorem GN (x y:Int)(w:ax):
 Calls prog 127 #[ah x,ah y] w fun e w'=>e=.returned (.tuple #[ah (if x=y then ew 1 1 else ew 1 0),ah 0])/\Below w.heap.size w w':=by
 by_cases e:x=y
 ·subst e;rw[aI rfl];have P:=o6 1 w;rw[show vc 1 1=0 by decide] at P;exact zy
 ·have P:=o6 0 w;exact zy
theorem GO (h:(cw a hp).J F S w)(x:Int):
 Calls prog 126 #[aj hp,ah x] w fun e w'=>e=.returned (.tuple #[ah (S.len a x).1,ah (S.len a x).2.1])/\Below w.heap.size w w':=by
 have P:=ud h x;obtain⟨h0,_⟩:=em h;unfold cq.len;generalize S.kx a x=k at*;generalize S.fx a x=f at*;generalize S.ex a x=c at*;by_cases hc:c=0
 ·subst hc;by_cases hk:k=5
  ·subst hk;rw[aG Z];go_enter func126,ntmps126;go_wp2_with fail;refine P.mono ?_;exact oI
  ·rw[aI ⟨rfl,hk⟩];have b:=fun w=>o6 f w;generalize ew 1 f=v at*;generalize vc 1 f=i at*;go_enter func126,ntmps126;go_wp2_with fail;refine P.mono ?_;rintro e w1 ⟨rfl,hb1⟩
   go_wp2_with fail;refine(b w1).mono ?_;rintro e j ⟨rfl,d⟩
   have hb:=hb1.trans (d.mono hb1.size)
   go_wp2_with fail;go_ret2;exact⟨rfl,hb⟩
 ·rw[aG (fun g=>hc g.1)];go_enter func126,ntmps126;go_wp2_with fail;refine P.mono ?_;exact oI
theorem zI (h:(cw a hp).J F S w):w.cell? (aq a.pw 2)=some (aj a.sd):=by obtain⟨c,b,_⟩:=ki h;obtain⟨d,g1,_⟩:=m0 b;obtain⟨_,_,c2,_⟩:=jM g1;exact c2
theorem GP (h:(cw a hp).J F S w)(x:Int)(hq:S.q.length<=90000):
 Calls prog 125 #[aj hp,ah x] w fun e w'=>∃d,e=.returned (.tuple #[ah (S.pop a x).1,ah (S.pop a x).2.1])/\(cw a hp).J d (S.pop a x).2.2 w'/\b8 F w d w':=by
 have P:=zH h x;have l:=hide h;unfold cq.pop;by_cases hk:S.kx a x=5
 ·rw[aI hk];rw[hk] at P;have hr:∀w1,Below w.heap.size w w1->w1.cell? (aq hp 0)=some (aj a.pw)/\w1.cell? (aq a.pw 2)=some (aj a.sd)/\Calls prog 194 #[aj a.sd,ah x] w1 fun e w'=>∃d,e=.returned (.tuple #[ah (if dO x S.q<S.q.length then(S.q.getD (dO x S.q) (0,0)).2 else 0),.bool (decide (dO x S.q<S.q.length))])/\(cw a hp).J d (if dO x S.q<S.q.length then⟨S.s,S.r,S.q.take (dO x S.q)++S.q.drop (dO x S.q+1)⟩ else S) w'/\b8 F w d w':=fun w1 b=>by
   have j:=(cw a hp).below l.o b;refine⟨(em j).h0,zI j,?_⟩
   obtain⟨s,g1,_,g3⟩:=ki j;refine(GM g1 x hq).mono ?_;rintro e w' ⟨d,rfl,n,o⟩
   obtain⟨f,j2,g⟩:=g3 _ _ _ n o;exact⟨f,rfl,j2,(b8.of b).trans g⟩
  have i:=hide hr;by_cases hi:dO x S.q<S.q.length
  ·rw[aI hi];simp only [if_pos hi,decide_eq_true hi] at i;generalize (S.q.getD (dO x S.q) (0,0)).2=v at*;generalize (⟨S.s,S.r,S.q.take (dO x S.q)++S.q.drop (dO x S.q+1)⟩:cq)=t at*;go_enter func125,ntmps125;go_wp2_with fail;refine P.mono ?_;rintro e w1 ⟨rfl,b⟩
   obtain⟨k0,p,k⟩:=i.o w1 b;go_wp2_with fail;refine k.mono ?_;rintro e m ⟨f,rfl,j2,g⟩
   have c:ay (_/\_):=⟨j2,g⟩
   go_wp2;go_ret2;exact⟨f,rfl,c.o.1,c.o.2⟩
  ·rw[aG hi];simp only [if_neg hi,decide_eq_false hi] at i;go_enter func125,ntmps125;go_wp2_with fail;refine P.mono ?_;rintro e w1 ⟨rfl,b⟩
   obtain⟨k0,p,k⟩:=i.o w1 b;go_wp2_with fail;refine k.mono ?_;rintro e m ⟨f,rfl,j2,g⟩
   have c:ay (_/\b8 F w f m):=⟨j2,g⟩
   go_wp2;go_ret2;exact⟨f,rfl,c.o.1,c.o.2⟩
 ·rw[aG hk];have q:(S.kx a x==5)=false:=by simpa using hk
  rw[q] at P;go_enter func125,ntmps125;go_wp2_with fail;refine P.mono ?_;rintro e w1 ⟨rfl,b⟩
  have c:ay ((cw a hp).J F S w1/\b8 F w F w1):=⟨(cw a hp).below l.o b,b8.of b⟩
  go_wp2;go_ret2;exact⟨F,rfl,c.o.1,c.o.2⟩
theorem GQ (h:(cw a hp).J F S w)(t g:Int)(hr:S.r.length<=90000)(hq:S.q.length<=90000):
 Calls prog 56 #[aj hp,ah t,ah g] w fun e w'=>∃i,e=.returned (ah (S.reg a t g).1)/\(cw a hp).J i (S.reg a t g).2 w'/\b8 F w i w':=by
 have P:=ud h t;obtain⟨h0,_⟩:=em h;have q:ay ((cw a hp).J F S w):=h;unfold cq.reg;have m:ay (∀w1,Below w.heap.size w w1->Calls prog 121 #[aj hp,ah g] w1 fun e w'=>e=.returned (.bool (S.kx a g==5))/\Below w.heap.size w w'):=fun w1 b=>by
  refine(zH ((cw a hp).below q.o b) g).mono ?_;rintro e w' ⟨rfl,d⟩
  exact⟨rfl,b.trans (d.mono b.size)⟩
 have s:ay (∀w1,Below w.heap.size w w1->w1.cell? (aq hp 0)=some (aj a.pw)/\w1.cell? (aq a.pw 2)=some (aj a.sd)/\Calls prog 49 #[aj a.sd,.agg #[ah g,ah t]] w1 fun e w'=>∃i,e=.returned (.bool (!jO (S.r.length+S.q.length)))/\(cw a hp).J i (if 24<=S.r.length+S.q.length then S else⟨S.s,S.r++[(g,t)],S.q⟩) w'/\b8 F w i w'):=fun w1 b=>by
  have u:=(cw a hp).below q.o b;refine⟨(em u).h0,zI u,?_⟩
  obtain⟨E,g1,_,g3⟩:=ki u;refine(Ev g1 g t hr hq).mono ?_;rintro e w' ⟨i,rfl,x,A⟩
  obtain⟨F2,j2,n⟩:=g3 _ _ _ x A;exact⟨F2,rfl,j2,(b8.of b).trans n⟩
 generalize S.fx a t=f at*;generalize S.kx a t=k at*;by_cases hc:S.ex a t=0
 ·rw[aI hc];rw[hc] at P;by_cases hk:S.kx a g=5
  ·rw[aI hk];rw[hk] at m;by_cases j:24<=S.r.length+S.q.length
   ·rw[aI j];simp only [if_pos j,qx j] at s;go_enter func56,ntmps56;go_wp2_with fail;refine P.mono ?_;rintro e w1 ⟨rfl,b⟩
    have o:=m.o w1 b;go_wp2_with fail;refine o.mono ?_;rintro e l ⟨rfl,d⟩
    obtain⟨k0,B,v⟩:=s.o l d;go_wp2_with fail;refine v.mono ?_;rintro e p ⟨F2,rfl,j2,n⟩
    have HF:ay ((cw a hp).J F2 S p/\b8 F w F2 p):=⟨j2,n⟩
    exact nf
   ·rw[aG j];simp only [if_neg j,qy j] at s;generalize (⟨S.s,S.r++[(g,t)],S.q⟩:cq)=C at*;go_enter func56,ntmps56;go_wp2_with fail;refine P.mono ?_;rintro e w1 ⟨rfl,b⟩
    have o:=m.o w1 b;go_wp2_with fail;refine o.mono ?_;rintro e l ⟨rfl,d⟩
    obtain⟨k0,B,v⟩:=s.o l d;go_wp2_with fail;refine v.mono ?_;rintro e p ⟨F2,rfl,j2,n⟩
    have HF:ay ((cw a hp).J F2 C p/\b8 F w F2 p):=⟨j2,n⟩
    exact nf
  ·rw[aG hk];have D:(S.kx a g==5)=false:=by simpa using hk
   simp only [D] at m;go_enter func56,ntmps56;go_wp2_with fail;refine P.mono ?_;rintro e w1 ⟨rfl,b⟩
   have o:=m.o w1 b;go_wp2_with fail;refine o.mono ?_;rintro e l ⟨rfl,d⟩
   have HF:ay ((cw a hp).J F S l/\b8 F w F l):=⟨(cw a hp).below q.o d,b8.of d⟩
   go_wp2_with fail;go_ret;exact⟨F,rfl,HF.o.1,HF.o.2⟩
 ·rw[aG hc];generalize S.ex a t=c at*;go_enter func56,ntmps56;go_wp2_with fail;refine P.mono ?_;rintro e w1 ⟨rfl,b⟩
  have HF:ay ((cw a hp).J F S w1/\b8 F w F w1):=⟨(cw a hp).below q.o b,b8.of b⟩
  go_wp2_with fail;go_ret;exact⟨F,rfl,HF.o.1,HF.o.2⟩
end
section
variable {a:Wc}{hp:Nat}{F:Nat->Prop}{S:cq}{w:ax}
theorem zJ (h:(cw a hp).J F S w)(hq:S.q.length+S.r.length<=90000):
 Calls prog 50 #[aj a.pw] w fun e w'=>∃b,e=.returned (ah (S.code a))/\(cw a hp).J b (S.cut a) w'/\b8 F w b w':=by
 obtain⟨i,g1,_,g3⟩:=ki h;refine(Ej g1 hq).mono ?_;rintro e w' ⟨b,rfl,c,d⟩
 obtain⟨f,j2,g⟩:=g3 _ _ _ c d;exact⟨f,rfl,j2,g⟩
theorem zK (h:(cw a hp).J F S w)(hq:S.q.length+S.r.length<=90000)(c:S.fM a=false->∃G,iC (S.k5 a) (S.dC a) G/\G 0 (S.k5 a,0)):
 Calls prog 37 #[aj a.pw] w fun e w'=>∃b,e=.returned (ah (S.ie a))/\(cw a hp).J b (S.dy a) w'/\b8 F w b w':=by
 obtain⟨j,g1,_,g3⟩:=ki h;refine(Gk g1 hq c).mono ?_;rintro e w' ⟨b,rfl,d,f⟩
 obtain⟨g,j2,i⟩:=g3 _ _ _ d f;exact⟨g,rfl,j2,i⟩
theorem GR (h:(cw a hp).J F S w)(m:Int)(hq:S.q.length+S.r.length<=90000)(u:S.fM a=false->∃G,iC (S.k5 a) (S.dC a) G/\G 0 (S.k5 a,0)):
 Calls prog 193 #[aj hp,ah m] w fun e w'=>∃c,e=.returned (ah (S.room a m).1)/\(cw a hp).J c (S.room a m).2 w'/\b8 F w c w':=by
 unfold cq.room;by_cases hm:m<=(a.N:Int)-S.s.y
 ·rw[aI hm];refine(E7 h m hm).mono ?_;rintro e w' ⟨rfl,hb⟩
  exact⟨F,rfl,(cw a hp).below h hb,b8.of hb⟩
 rw[aG hm];obtain⟨h0,c0,_⟩:=em h;have f:=(lv h).1;have n1:=f.hN';have v:=f.hy;have x:=f.hg;have n4:=f.hO;have P:=oO w f;have n:ay (∀w1,Below w.heap.size w w1->(w1.cell? (aq hp 0)=some (aj a.pw)/\w1.cell? (aq a.pw 0)=some (aj a.p))/\Calls prog 22 #[aj a.p] w1 fun e w'=>e=.returned (.tuple #[ah S.s.y,ah S.s.g])/\Below w.heap.size w w'):=fun w1 b=>by
  have g:=(cw a hp).below h b;obtain⟨h0,c0,_⟩:=em g;refine⟨⟨h0,c0⟩,?_⟩
  refine(kC w1 (lv g).1).mono ?_;rintro e w' ⟨rfl,d⟩
  exact⟨rfl,b.trans (d.mono b.size)⟩
 have o:ay (∀w1,Below w.heap.size w w1->w1.cell? (aq hp 0)=some (aj a.pw)/\(Calls prog 50 #[aj a.pw] w1 fun e w'=>∃c,e=.returned (ah (S.code a))/\(cw a hp).J c (S.cut a) w'/\b8 F w c w')/\(Calls prog 37 #[aj a.pw] w1 fun e w'=>∃c,e=.returned (ah (S.ie a))/\(cw a hp).J c (S.dy a) w'/\b8 F w c w')):=fun w1 b=>by
  have g:=(cw a hp).below h b;refine⟨(em g).h0,(zJ g hq).mono ?_,(zK g hq u).mono ?_⟩
  ·rintro e w' ⟨c,rfl,p,q⟩
   exact⟨c,rfl,p,(b8.of b).trans q⟩
  ·rintro e w' ⟨c,rfl,p,q⟩
   exact⟨c,rfl,p,(b8.of b).trans q⟩
 clear h f u;by_cases hy:(S.s.y:Int)<=(a.O:Int)-S.s.g
 ·rw[aI hy];dsimp only;generalize S.cut a=s at*;generalize S.code a=cd at*;go_enter func193,ntmps193;go_wp2_with fail;refine P.mono ?_;clear P;rintro e w1 ⟨rfl,b⟩
  obtain⟨⟨g0,g1⟩,i⟩:=n.o w1 b;clear n h0 c0 b;go_wp2_with fail;refine i.mono ?_;clear i;rintro e t ⟨rfl,d⟩
  obtain⟨k0,j,_⟩:=o.o t d;clear o g0 g1 d;go_wp2_with fail;refine j.mono ?_;clear j;rintro e k ⟨F2,rfl,j2,l⟩
  have HF:ay ((cw a hp).J F2 s k/\b8 F w F2 k):=⟨j2,l⟩
  clear j2 l k0;exact nf
 ·rw[aG hy];dsimp only;generalize S.dy a=s at*;generalize S.ie a=cd at*;go_enter func193,ntmps193;go_wp2_with fail;refine P.mono ?_;clear P;rintro e w1 ⟨rfl,b⟩
  obtain⟨⟨g0,g1⟩,i⟩:=n.o w1 b;clear n h0 c0 b;go_wp2_with fail;refine i.mono ?_;clear i;rintro e t ⟨rfl,d⟩
  obtain⟨k0,_,j⟩:=o.o t d;clear o g0 g1 d;go_wp2_with fail;refine j.mono ?_;clear j;rintro e k ⟨F2,rfl,j2,l⟩
  have HF:ay ((cw a hp).J F2 s k/\b8 F w F2 k):=⟨j2,l⟩
  clear j2 l k0;exact nf
theorem GS (kd:Int)(rl:List Nat)(o:Option Addr)(cap:Nat)(b:cq)(a2:rl.length<=12)(hk:hc kd rl.length=0)(room:b.s.y+1+rl.length<=a.N)
 (hv:0<rl.length->∃d,o=ak d/\¬F d/\d<w.heap.size/\∀i,i<rl.length->w.cell? (aq d i)=some (ah ((rl.getD i 0:Nat):Int)))(hr:∀i,i<rl.length->rl.getD i 0<12)
 (h:(cw a hp).J F S w)
 (E:Calls prog 193 #[aj hp,ah (1+rl.length)] w fun e w'=>∃c,e=.returned (ah 0)/\(cw a hp).J c b w'/\b8 F w c w'):
 Calls prog 123 #[aj hp,ah kd,.slice o rl.length cap] w fun e w'=>∃c,e=.returned (.tuple #[ah (ew 3 b.s.y),ah 0])/\(cw a hp).J c (b.put a kd rl) w'/\b8 F w c w':=by
 have s:iJ a.N b.s.y kd rl.length=true:=by unfold iJ;rw[hk];simp;omega
 have G:iU a.N b.s.y kd rl.length=b.s.y+1+rl.length:=by unfold iU;rw[aI s];omega
 have H:oR a.N b.s.y kd rl.length=b.s.y:=by unfold oR;rw[aI s]
 have I:ay (0<rl.length->∃d,o=ak d/\¬F d/\d<w.heap.size/\∀i,i<rl.length->w.cell? (aq d i)=some (ah ((rl.getD i 0:Nat):Int))):=hv;have am:ay (∀i,i<rl.length->rl.getD i 0<12):=hr;have J:ay (iU a.N b.s.y kd rl.length=b.s.y+1+rl.length/\oR a.N b.s.y kd rl.length=b.s.y):=⟨G,H⟩
 have an:ay (b.put a kd rl=⟨{b.s with y:=b.s.y+1+rl.length,ws:=iz b.s.rs b.s.y (fq a.N b.s.y kd rl.length b.s.ws) rl rl.length},b.r,b.q⟩):=rfl;have n1:=(lv h).1.hN';generalize b.put a kd rl=ao at*;clear hv hr s G H hk h;go_enter func123,ntmps123;go_wp2_with fail;refine E.mono ?_;clear E;rintro e w1 ⟨K,rfl,u,L⟩
 obtain⟨h0,c0,_⟩:=em u;obtain⟨f,n⟩:=lv u;have bb:=f.hy;have bd:=f.hg;have n4:=f.hO;have v:=CU kd rl.length w1 f;rw[J.o.1,J.o.2] at v;have p:ay (∀w' y g ws,At w' a.p a.q a.N a.O y g ws->c_ a.p a.q w1 w'->∃c,(cw a hp).J c ⟨{b.s with y:=y,g:=g,ws:=ws},b.r,b.q⟩ w'/\b8 K w1 c w'):=n;have M:ay (b8 F w K w1):=L;clear u f n L;go_wp2_with fail;refine v.mono ?_;clear v;rintro e N ⟨rfl,O,P⟩
 obtain⟨A,j2,q⟩:=p.o _ _ _ _ O P;have q:=M.o.trans q;have Q:∀(c:Nat->Prop)(w':ax),b8 F w c w'->∀i,i<rl.length->∃d,o=ak d/\w'.cell? (aq d i)=some (ah ((rl.getD i 0:Nat):Int)):=fun c w' t i hi=>by obtain⟨d,e,g1,g2,g3⟩:=I.o V;exact⟨d,e,(aP (a:=⟨d,i,none⟩) (t.fr.block d g2 g1)).trans (g3 i hi)⟩
 have ap:ay (∀(c:Nat->Prop)(w':ax),b8 F w c w'->∀i,i<rl.length->∃d,o=ak d/\w'.cell? (aq d i)=some (ah ((rl.getD i 0:Nat):Int))):=Q;have R:ay ((cw a hp).J A ⟨{b.s with y:=b.s.y+1+rl.length,ws:=iz b.s.rs b.s.y (fq a.N b.s.y kd rl.length b.s.ws) rl 0},b.r,b.q⟩ N/\b8 F w A N):=⟨j2,q⟩
 clear O P j2 q p I Q M h0 c0;go_wp2_with fail
 go_loopw [33] (fun iv wr=>∃(j:Nat)(c:Nat->Prop),j<=rl.length/\iv=ah j/\ay ((cw a hp).J c ⟨{b.s with y:=b.s.y+1+rl.length,ws:=iz b.s.rs b.s.y (fq a.N b.s.y kd rl.length b.s.ws) rl j},b.r,b.q⟩ wr/\b8 F w c wr)) (fun iv _=>rl.length-(intOf iv).toNat)
 case atStart=>exact⟨0,A,aY _,rfl,R⟩
 case round=>
  clear R;obtain⟨j,c,be,rfl,k⟩:=hrel;by_cases U:j<rl.length
  ·obtain⟨d,rfl,ar⟩:=ap.o c wr k.o.2 j U;have W:=am.o j U;have X:ay (iz b.s.rs b.s.y (fq a.N b.s.y kd rl.length b.s.ws) rl (j+1)=(iz b.s.rs b.s.y (fq a.N b.s.y kd rl.length b.s.ws) rl j).set (b.s.y+1+j) (b.s.rs.getD (rl.getD j 0) 0)):=rfl;generalize rl.getD j 0=r at*;have aB:ay (∀(l:Nat->Prop)(m:ax),(∀i,i<12->m.cell? (aq a.nb i)=some (ah (b.s.rs.getD i 0))/\m.frozen? (aq a.nb i)=false)->m.cell? (aq a.nb r)=some (ah (b.s.rs.getD r 0))):=fun _ _ g=>(g r W).1;have Y:=(cw a hp).below k.o.1 (aH _ wr).drew;obtain⟨h0,c0,c3,rt,aF,lp,lw,ln⟩:=em k.o.1;obtain⟨r1,_⟩:=rt r W;obtain⟨f,n⟩:=lv Y;dsimp only at r1 f n;have ab:dd a.N (b.s.y+1+rl.length) b.s.g ((b.s.y:Int)+1+j)=true:=iK V V;have B:=kZ ((b.s.y:Int)+1+j) (b.s.rs.getD r 0) wr.drew f;rw[ab,aI rfl,show((b.s.y:Int)+1+j).toNat=b.s.y+1+j by omega,<-X.o] at B;have p:ay (∀w' y g ws,At w' a.p a.q a.N a.O y g ws->c_ a.p a.q wr.drew w'->∃l,(cw a hp).J l ⟨{b.s with y:=y,g:=g,ws:=ws},b.r,b.q⟩ w'/\b8 c wr.drew l w'):=n;have j0:(0:Int)<=(j:Int):=V;have bg:(j:Int)<(rl.length:Int):=V;have q0:(0:Int)<=(r:Int):=V;have q1:(r:Int)<12:=V;have b6:IntKind.i64.wrap ((b.s.y:Int)+1)=(b.s.y:Int)+1:=by rw[bk];omega
   have aR:IntKind.i64.wrap ((b.s.y:Int)+1+(j:Int))=(b.s.y:Int)+1+j:=by rw[bk];omega
   have aV:ay (b8 F w c wr.drew):=k.o.2.below (aH _ wr).drew;clear Y f n rt ab X aF k;generalize b.s.rs.getD r 0=x at*;go_wp2_with fail
   go_region_held3 (fun w'=>w'.cell? (aq hp 0)=some (aj a.pw)/\w'.cell? (aq a.pw 0)=some (aj a.p)/\w'.cell? (aq a.pw 3)=some (.slice (ak a.nb) 12 12)/\w'.cell? (aq a.nb r)=some (ah x)) (go_keep)
    (first
      |(go_at_call 93;refine B.mono ?_;clear B;rintro e m ⟨rfl,ad,s5⟩;obtain⟨l,dC,ag⟩:=p.o _ _ _ _ ad s5;have a0:ay ((cw a hp).J l ⟨{b.s with y:=b.s.y+1+rl.length,ws:=iz b.s.rs b.s.y (fq a.N b.s.y kd rl.length b.s.ws) rl (j+1)},b.r,b.q⟩ m/\b8 F w l m):=⟨dC,aV.o.trans ag⟩;obtain⟨g0,g1,g3,C,_⟩:=em dC;dsimp only at C;have a1:=aB.o l m C;clear ad s5 dC ag C))
   clear h0 c0 c3 r1 g0 g1 g3 a1 ar b6 aR;go_wp2_with fail;go_roundw
   case rel=>exact⟨j+1,l,V,af,a0⟩
   case measure=>simp[intOf];omega
  ·obtain rfl:j=rl.length:=V;go_wp2_with fail;refine(se (b.s.y:Int) wr).mono ?_;rintro e ai ⟨rfl,D⟩
   have al:ay ((cw a hp).J c ao ai/\b8 F w c ai):=⟨by rw[an.o];exact(cw a hp).below k.o.1 D,k.o.2.below D⟩
   clear D k;go_wp2_with fail;go_ret2;exact⟨c,rfl,al.o.1,al.o.2⟩
theorem GT (kd cd:Int)(n:Nat)(k:Option Addr)(cap:Nat)(c:cq)(hn:n<=12)(hc:cd≠0)
 (f:Calls prog 193 #[aj hp,ah (1+n)] w fun e w'=>∃b,e=.returned (ah cd)/\(cw a hp).J b c w'/\b8 F w b w'):
 Calls prog 123 #[aj hp,ah kd,.slice k n cap] w fun e w'=>∃b,e=.returned (.tuple #[ah 0,ah cd])/\(cw a hp).J b c w'/\b8 F w b w':=by
 have cb:(cd==0)=false:=by simpa using hc
 clear hc;go_enter func123,ntmps123;go_wp2_with fail;refine f.mono ?_;clear f;rintro e w1 ⟨d,rfl,g,i⟩
 have j:ay ((cw a hp).J d c w1/\b8 F w d w1):=⟨g,i⟩
 clear g i;go_wp2_with fail;go_ret2;exact⟨d,rfl,j.o.1,j.o.2⟩
theorem pB (h:(cw a hp).J F S w)(kd:Int)(rl:List Nat)(b:Option Addr)(cap:Nat)(hq:S.q.length+S.r.length<=90000)(k:S.fM a=false->∃G,iC (S.k5 a) (S.dC a) G/\G 0 (S.k5 a,0))(hk:hc kd rl.length=0)
 (hv:0<rl.length->∃d,b=ak d/\¬F d/\d<w.heap.size/\∀i,i<rl.length->w.cell? (aq d i)=some (ah ((rl.getD i 0:Nat):Int)))(hr:∀i,i<rl.length->rl.getD i 0<12)
 (room:(S.room a (1+rl.length)).1=0->(S.room a (1+rl.length)).2.s.y+1+rl.length<=a.N):
 Calls prog 123 #[aj hp,ah kd,.slice b rl.length cap] w fun e w'=>∃g,e=.returned (.tuple #[ah (S.bZ a kd rl).1,ah (S.bZ a kd rl).2.1])/\(cw a hp).J g (S.bZ a kd rl).2.2 w'/\b8 F w g w':=by
 have j:rl.length<=12:=by have:=iS kd rl.length hk;omega
 have f:=GR h (1+rl.length) hq k;unfold cq.bZ;by_cases c:(S.room a (1+rl.length)).1=0
 ·rw[aI c];rw[c] at f;exact GS kd rl b cap _ j hk (room c) hv hr h f
 ·rw[aG c];exact GT kd _ rl.length b cap _ j c f
end
section
variable {a:Wc}{hp:Nat}{F:Nat->Prop}{S:cq}{w:ax}
theorem GU (h:(cw a hp).J F S w)(k:Int)(R:Nat)(A B I n:Int)(J:R<12)(hc:dJ k R A B n=0)(k1:k≠9)(K:k≠12)(L:k≠15)(M:k≠16)(v:Int)(c:cq)
 (C:∀d w',(cw a hp).J d S w'->Calls prog 57 #[aj hp,dK k R A B I n] w' fun e m=>∃f,e=.returned (.tuple #[ah v,ah 0])/\(cw a hp).J f c m/\b8 d w' f m):
 Calls prog 20 #[aj hp,dK k R A B I n] w fun e w'=>∃d,e=.returned (ah 0)/\(cw a hp).J d ⟨{c.s with rs:=c.s.rs.set R v},c.r,c.q⟩ w'/\b8 F w d w':=by
 have q:=au w (cz k R A B I n)
 have D:=aN w (.cells #[.int .i64 k,.int .i64 (R:Int),.int .i64 A,.int .i64 B,.int .i64 I,.int .i64 n] 44)
 have s:=ju k R A B I n (w.alloc (cz k R A B I n))
 rw[hc] at s;have N:ay (a.nb<w.heap.size):=(em h).ln;have i:ay ((cw a hp).J F S (w.alloc (cz k R A B I n))/\Below w.heap.size w (w.alloc (cz k R A B I n))/\(w.alloc (cz k R A B I n)).heap[w.heap.size]?=some (cz k R A B I n)/\∀b,F b->b<w.heap.size):=⟨(cw a hp).below h q,q,D,(cw a hp).lt h⟩
 have E:ay (∀d w',(cw a hp).J d S w'->Calls prog 57 #[aj hp,dK k R A B I n] w' fun e m=>∃f,e=.returned (.tuple #[ah v,ah 0])/\(cw a hp).J f c m/\b8 d w' f m):=C;have ab:(k==9)=false:=by simpa using k1
 have ad:(k==12)=false:=by simpa using K
 have ag:(k==15)=false:=by simpa using L
 have ai:(k==16)=false:=by simpa using M
 clear h q D C hc;go_enter func20,ntmps20;go_wp2_with fail;generalize w.alloc (cz k R A B I n)=w0 at*;generalize O:w.heap.size=g at*;refine s.mono ?_;clear s;rintro e w1 ⟨rfl,o⟩
 have j:ay ((cw a hp).J F S w1/\Below g w w1/\w1.heap[g]?=some (cz k R A B I n)/\∀b,F b->b<g):=⟨(cw a hp).below i.o.1 o,i.o.2.1.trans (o.mono (by have:=lt_of_some i.o.2.2.1;omega)),(o.block g (lt_of_some i.o.2.2.1)).trans i.o.2.2.1,i.o.2.2.2⟩
 obtain⟨q0,q1,P,q3,Q,U⟩:=eu j.o.2.2.1;clear i o;go_wp2_with fail;refine(E.o F w1 j.o.1).mono ?_;clear E;rintro e l ⟨f,rfl,p,t⟩
 have G:=(t.fr.block g (lt_of_some j.o.2.2.1) (fun W=>by have:=j.o.2.2.2 g W;omega)).trans j.o.2.2.1;obtain⟨u0,X,_⟩:=eu G;obtain⟨h0,c0,c3,rt,rl,lp,lw,ln⟩:=em p;obtain⟨r1,Y⟩:=rt R J;have al:(0:Int)<=(R:Int):=V;have am:(R:Int)<12:=V;have an:=lt_of_some G;have nx:a.nb≠g:=by have:=N.o;omega
 obtain⟨n1,ao⟩:=E0 p;have u:ay ((cw a hp).J f c l.drew/\b8 F w f l.drew):=⟨(cw a hp).below p (aH _ l).drew,((b8.of (by rw[O];exact j.o.2.1)).trans t).below (aH _ l).drew⟩
 clear rt p t j q0 q1 P q3 Q U;go_wp2_with fail
 go_region_held3 (fun w'=>w'.cell? (aq hp 0)=some (aj a.pw)/\w'.cell? (aq a.pw 3)=some (.slice (ak a.nb) 12 12)/\w'.cell? (aq g 1)=some (ah (R:Int))) (go_keep) (fail)
 obtain⟨x,cA,t3⟩:=EZ u.o.1 R v;have H:ay ((cw a hp).J x ⟨{c.s with rs:=c.s.rs.set R v},c.r,c.q⟩ (l.drew.setCell ⟨a.nb,R,none⟩ (.int .i64 v))/\b8 F w x (l.drew.setCell ⟨a.nb,R,none⟩ (.int .i64 v))):=⟨cA,u.o.2.trans t3⟩
 clear cA t3 u h0 c0 c3 r1 Y u0 X;go_wp2_with fail;go_ret;exact⟨rfl,x,H.o.1,H.o.2⟩
end
open Go.RowKit W
theorem GV (c:Nat)(hc:c<=12)(w:ax):Calls prog 223 #[.int .u64 1,.int .u64 c] w fun e w'=>e=.returned (.tuple #[.int .u64 0,.int .u64 c])/\w'=w:=by exact zw
theorem zL (c:Nat)(hc:c<=12)(w:ax):Calls prog 167 #[.int .u64 1,.int .u64 c] w fun e w'=>e=.returned (.tuple #[.int .u64 0,.int .u64 c])/\w'=w:=by have P:=GV c hc w;exact zx
def fR (c:Nat)(v:Int)(n:Nat):List Int:=List.replicate n v++List.replicate (c-n) 0
theorem ue (c:Nat)(v:Int)(n:Nat)(h:n<=c):(fR c v n).length=c:=by simp[fR];omega
theorem GW (c:Nat)(v:Int)(n m:Nat)(h:n+m<=c):splice (fR c v n) n (List.replicate m v)=fR c v (n+m):=by unfold splice fR;rw[List.take_left' Z,List.length_replicate,List.drop_append,List.length_replicate];simp only [List.drop_replicate];rw[show n-(n+m)=0 by omega,show c-n-(n+m-n)=c-(n+m) by omega];simp;rw[<-ba,List.replicate_append_replicate]
theorem GX (c:Nat)(v:Int)(n i:Nat)(h:i<n):(fR c v n).getD i 0=v:=by unfold fR;rw[aE,List.getElem?_append_left (by simpa using h)];simp[h]
theorem GY {c:Nat}{w:ax}{nb n:Nat}{v:Int}(hr:w.heap[nb]?=some (.cells ((fR c v n).map (Value.int .i64)).toArray 3 (0,0)))(hn:n<=c)(m:Nat)(hm:m<=n):∀j b,((List.replicate m v).map (Value.int .i64))[j]?=some b->w.cell? ((⟨nb,0,none⟩:Addr).add j)=some b:=by
 intro j b hj;have d:j<m:=by exact qv
 have e:b=ah v:=by simp[d] at hj;exact hj.symm
 have hl:=ue c v n hn;have hg:=GX c v n j V;rw[aE,aL (by omega:j<(fR c v n).length)] at hg;simp at hg;have ea:(⟨nb,0,none⟩:Addr).add j=⟨nb,j,none⟩:=by simp[Addr.add];intro h;exact h.symm
 rw[ea,e];have f:j<(fR c v n).length:=V;simp[World.cell?,hr,List.getElem?_eq_getElem f];exact hg
theorem zM {c:Nat}{w w':ax}{nb n m B:Nat}{v:Int}(b:k3 w w' nb ((fR c v n).map (Value.int .i64)) n ((List.replicate m v).map (Value.int .i64)))(hr:w.heap[nb]?=some (.cells ((fR c v n).map (Value.int .i64)).toArray 3 (0,0)))(hm:0<m)(h:n+m<=c)(hB:B<=nb):w'.heap[nb]?=some (.cells ((fR c v (n+m)).map (Value.int .i64)).toArray 3 (0,0))/\Below B w w':=by
 rcases b with⟨h0,_⟩|rfl
 ·have:=congrArg List.length h0;simp at this
  omega
 ·rw[ss,GW c v n m h];exact⟨setRow_heap w nb _ _ _ _ hr,⟨rfl,rfl,rfl,by simp[World.setRow],fun k hk=>setRow_other w nb k _ V⟩⟩
theorem zN:(prog.info? 3).map (fun i=>(i.zero,i.size,i.bytes))=some (some (ah 0),1,8):=ae
theorem uf:(prog.info? 3).map (·.size)=some 1:=ae
theorem zO {w:ax}{b k n:Nat}(h:w.ownsRow b 3 1 (.slice (ak k) n n) n (madeCells (Value.int .i64 0).cells (n*1)).toList):
 w.heap[k]?=some (.cells ((List.replicate n (0:Int)).map (Value.int .i64)).toArray 3 (0,0)):=by
 exact vF
theorem GZ (w:ax)(b c:Nat)(v:Int)(h0:0<c)(M:c<=12)(hc:w.cell? (aq b 0)=some (ah v)):
 Calls prog 124 #[.slice (ak b) 1 1,ah c] w fun e w'=>∃nb,e=.returned (.slice (ak nb) c c)/\w.heap.size<=nb/\w'.heap[nb]?=some (.cells ((List.replicate c v).map (Value.int .i64)).toArray 3 (0,0))/\Below w.heap.size w w':=by
 obtain⟨t,hi,N,O,P⟩:=info_parts zN;have lb:=aQ w _ hc;dsimp only at lb;have u:=zL c M w;have Q:ay (fR c v c=List.replicate c v):=by show _=_;simp[fR]
 have c0:(0:Int)<(c:Int):=V;have c1:(c:Int)<=12:=V;go_enter func124,ntmps124;go_wp2_with fail;refine u.mono ?_;clear u;rintro e w0 ⟨rfl,hw⟩
 have hw:=hw.symm;subst hw
 go_upto_region 7 with(at_make;refine wpList_make_full _ rfl _ _ 74 rfl w.heap.size 3 t (ah 0) 1 underlying74 hi N O .i64 .i64 _ _ c rfl rfl V V (by rw[P];omega) (by unfold maxLen;omega) bW ?_;intro w1 x A)
 have hr:w1.heap[w.heap.size]?=some (.cells ((fR c v 0).map (Value.int .i64)).toArray 3 (0,0)):=by have R:=zO x;simpa[fR] using R
 have l:Below w.heap.size w w1:=(aH _ w).grown A bW (fun _ h=>by cases h)
 have C:=(l.cell (p:=aq b 0) lb).trans hc;clear x A;have d:ay (∀j f,((List.replicate 1 v).map (Value.int .i64))[j]?=some f->w1.cell? ((⟨b,0,none⟩:Addr).add j)=some f):=one_cell C;have o:ay (w1.heap[w.heap.size]?=some (.cells ((fR c v 0).map (Value.int .i64)).toArray 3 (0,0))):=hr;have g:ay (((List.replicate 1 v).map (Value.int .i64)).length=Nat.min 1 c):=by show _=_;simp only [List.length_map,List.length_replicate,Nat.min_def];split<;>omega
 have i:ay (0+((List.replicate 1 v).map (Value.int .i64)).length<=((fR c v 0).map (Value.int .i64)).length):=by show _<=_;rw[aW,aW,ue c v 0 V];simp;omega
 clear C hr;go_wp2_with (refine tc rfl _ _ 74 74 3 rfl underlying74 uf (ak w.heap.size) (ak b) c c 1 1 rfl rfl w.heap.size 0 ((fR c v 0).map (Value.int .i64)) 3 o.o ((List.replicate 1 v).map (Value.int .i64)) g.o (fun _=>⟨rfl,_,rfl,d.o⟩) i.o (oP _) ?_;intro ab D)
 obtain⟨E,F⟩:=zM (B:=w.heap.size) D o.o V V bW
 have G:=l.trans F;clear D d o g i l F
 go_loopw [8] (fun nv wr=>∃n:Nat,1<=n/\n<=c/\nv=ah n/\ay (wr.heap[w.heap.size]?=some (.cells ((fR c v n).map (Value.int .i64)).toArray 3 (0,0)))/\Below w.heap.size w wr) (fun nv _=>c-(intOf nv).toNat)
 case atStart=>exact⟨1,aD _,V,rfl,E,G⟩
 case round=>
  clear E G;obtain⟨n,n1,H,rfl,q,hb⟩:=hrel;by_cases ad:n<c
  ·obtain⟨m,hm,S,s,U⟩:∃m,m=Nat.min n (c-n)/\0<m/\n+m<=c/\m<=n:=⟨_,rfl,by simp only [Nat.min_def];split<;>omega,by simp only [Nat.min_def];split<;>omega,by simp only [Nat.min_def];split<;>omega⟩
   have k:ay (wr.drew.heap[w.heap.size]?=some (.cells ((fR c v n).map (Value.int .i64)).toArray 3 (0,0))):=q.o;have d:ay (∀j f,((List.replicate m v).map (Value.int .i64))[j]?=some f->wr.drew.cell? ((⟨w.heap.size,0,none⟩:Addr).add j)=some f):=GY k.o H m U;have g:ay (((List.replicate m v).map (Value.int .i64)).length=Nat.min n (c-n)):=by show _=_;rw[<-hm];simp
   have i:ay (n+((List.replicate m v).map (Value.int .i64)).length<=((fR c v n).map (Value.int .i64)).length):=by show _<=_;rw[aW,aW,ue c v n H];simpa using s
   have ag:¬c=n:=V;have t:(0:Int)<=(n:Int):=V;have ai:(n:Int)<=(c:Int):=V;have al:(n:Int)<(c:Int):=V;clear q;go_wp2_with fail
   go_region_law (refine p4 rfl (.tmp 41) (.tmp 44) 74 74 3 rfl underlying74 uf (some ⟨w.heap.size,n,none⟩) (ak w.heap.size) (c-n) (c-n) n c ?_ ?_ w.heap.size n ((fR c v n).map (Value.int .i64)) 3 k.o ((List.replicate m v).map (Value.int .i64)) g.o (fun _=>⟨rfl,_,rfl,d.o⟩) i.o (oP _) ?_;(simp[Act.eval,Act.put]);(simp[Act.eval,Act.put]);intro W I)
   obtain⟨J,K⟩:=zM (B:=w.heap.size) I k.o S s bW
   have X:ay (W.heap[w.heap.size]?=some (.cells ((fR c v (n+m)).map (Value.int .i64)).toArray 3 (0,0))):=J;have Y:=hb.drew.trans K;have hw:IntKind.i64.wrap ((n:Int)+(m:Int))=((n+m:Nat):Int):=by rw[bk];omega
   clear J K I k d g i hb;simp[Act.put,go_sem,Exit.inBlock];rw[<-hm,hw];refine⟨⟨_,_,_,_,_,_,_,_,_,_,_,_,_,_,?rel,rfl⟩,?measure⟩
   case rel=>exact⟨n+m,V,s,rfl,X,Y⟩
   case measure=>simp[intOf];omega
  ·obtain rfl:n=c:=V;have L:=q.o;rw[Q.o] at L;go_wp2_with fail;go_ret;exact⟨w.heap.size,rfl,aD _,L,hb⟩
theorem G0 (w:ax)(b:Nat)(v:Int):
 Calls prog 124 #[.slice (ak b) 1 1,ah 0] w fun e w'=>∃nb,e=.returned (.slice (ak nb) 0 0)/\Below w.heap.size w w':=by
 obtain⟨m,hi,n,o,p⟩:=info_parts zN;have d:=zL 0 V w;go_enter func124,ntmps124;go_wp2_with fail;refine d.mono ?_;clear d;rintro e w0 ⟨rfl,hw⟩
 have hw:=hw.symm;subst hw
 go_upto_region 7 with(at_make;refine wpList_make_full _ rfl _ _ 74 rfl w.heap.size 3 m (ah 0) 1 underlying74 hi n o .i64 .i64 _ _ 0 rfl rfl V V (by rw[p];omega) (by unfold maxLen;omega) bW ?_;intro w1 f g)
 have c:Below w.heap.size w w1:=(aH _ w).grown g bW (fun _ h=>by cases h)
 have i:ay (w1.heap[w.heap.size]?=some (.cells ((fR 0 v 0).map (Value.int .i64)).toArray 3 (0,0))):=by have q:=zO f;show _=_;simpa[fR] using q
 clear f g;go_wp2_with (refine tc rfl _ _ 74 74 3 rfl underlying74 uf (ak w.heap.size) (ak b) 0 0 1 1 rfl rfl w.heap.size 0 ((fR 0 v 0).map (Value.int .i64)) 3 i.o [] rfl (fun h=>absurd h aa) Z (fun _ h=>by cases h) ?_;intro s j)
 have l:Below w.heap.size w s:=by
  rcases j with⟨_,e⟩|e
  ·rw[e];exact c
  ·rw[e];exact c.trans ⟨rfl,rfl,rfl,by simp[World.setRow],fun k hk=>setRow_other w1 w.heap.size k _ V⟩
 clear j i c
 go_loopw [8] (fun nv wr=>nv=ah 0/\Below w.heap.size w wr) (fun _ _=>0)
 case atStart=>exact⟨rfl,l⟩
 case round=>
  clear l;obtain⟨rfl,hb⟩:=hrel;go_wp2_with fail;go_ret;exact⟨w.heap.size,rfl,hb⟩
end Go.Proofs.YtpkjkjhanlbcoaaGreat
