import Derived.Test.YtjpjpjemibgjpaaGreatJ39
import Derived.Test.YtjpjpjemibgjpaaGreatJ00
import Derived.Test.YtjpjpjemibgjpaaGreatJ02
import Derived.Test.YtjpjpjemibgjpaaGreatJ05
import Derived.Test.YtjpjpjemibgjpaaGreatJ07
import Derived.Test.YtjpjpjemibgjpaaGreatJ19
import Derived.Test.YtjpjpjemibgjpaaGreatJ01
import Derived.Test.YtjpjpjemibgjpaaGreatJ03
import Derived.Test.YtjpjpjemibgjpaaGreatJ04
import Derived.Test.YtjpjpjemibgjpaaGreatJ06
namespace Go.Proofs.YtjpjpjemibgjpaaGreat
open Go.RowKit W Kp bY
section
variable {k:bP}{z:C0}{s t:bU}{H D:List Int}
theorem u2 (k:bP):∀(l left:List Int)(s:bU),left.length+l.length<=(l.foldl k.cr (left,s)).1.length->l.foldl k.cr (left,s)=(left++l,s)/\∀a∈l,k.ls s (k.ld s (a+1))=true
 |[],left,s,_=>⟨V,fun a ha=>by cases ha⟩
 |b::l,left,s,h=>by
  rw[aI] at h⊢;cases hls:k.ls s (k.ld s (b+1))
  ·have c:k.cr (left,s) b=(left,k.kf (k.kf s (b+1)) (b+2)):=by unfold bP.cr;rw[ao (by rw[hls];simp)]
   rw[c] at h;have g:=(n_ k l left (k.kf (k.kf s (b+1)) (b+2))).1;rw[a4] at h;omega
  ·have c:k.cr (left,s) b=(left++[b],s):=by unfold bP.cr;rw[aq hls]
   rw[c] at h⊢;obtain⟨e,f⟩:=u2 k l (left++[b]) s (by rw[aJ,List.length_singleton];rw[a4] at h;omega)
   refine⟨by rw[e];simp,fun a ha=>?_⟩
   rcases List.mem_cons.1 ha with d|d
   ·rw[d];exact hls
   ·exact f a d
theorem Bl (h:(k.kv s).1=false):(k.kv s).2=s/\∀a∈s.ep,k.ls s (k.ld s (a+1))=true:=by
 unfold bP.kv bP.c4 at h⊢;dsimp only at h⊢;obtain⟨b,c⟩:=u2 k s.ep [] s (by have:=of_decide_eq_false h;simp only [List.length_nil,Nat.zero_add];omega)
 rw[b];exact⟨rfl,c⟩
theorem qv:∀(n:Nat)(t:bU×List bN)(H:List Int),LI k z t.1 H D->dJ k z t.1 H->d6 k t.1->k.mu t.1<n->∀b∈(k.cK n t).1.ep,k.ls (k.cK n t).1 (k.ld (k.cK n t).1 (b+1))=true
 |0,t,H,_,_,_,e=>absurd e I
 |n+1,t,H,h,w,g,e=>by
  obtain⟨q,l1,w1,_,_,u⟩:=LI.mR (k.O+1) h w;obtain⟨c1,c2,v⟩:=CI.lb h.mi.ci g (k.O+1)
  obtain⟨i,a,x,j⟩:=CI.kv c1 c2;obtain⟨c,l2,d,_,_⟩:=l1.kv w1;unfold bP.cK;cases hk:(k.kv (k.lb (k.O+1) t.1)).1
  ·rw[ao V];obtain⟨g1,g2⟩:=Bl hk;obtain⟨A,l,B,C,m⟩:=CI.wa (s:=((k.kv (k.lb (k.O+1) t.1)).2,t.2)) i a;cases hw:(k.wa ((k.kv (k.lb (k.O+1) t.1)).2,t.2)).2
   ·rw[ao V,p_ k _ hw];dsimp only;rw[g1];exact g2
   ·rw[aq rfl];obtain⟨o,p,w3,_,_⟩:=cP.wa (k:=k) (z:=z) (D:=D) ((k.kv (k.lb (k.O+1) t.1)).2,t.2) c l2 d;have f:=m hw;dsimp only at f;exact qv n _ o p w3 l I
  ·rw[aq rfl];have f:=j hk;exact qv n ((k.kv (k.lb (k.O+1) t.1)).2,t.2) c l2 d a (by dsimp only;omega)
structure ez (k:bP)(s:bU)(q0 q:List bN):Prop where
 len:q.length=q0.length
 eq:∀n,n<q0.length->(q.getD n (0,0)).1=(q0.getD n (0,0)).1/\k.ml s (q0.getD n (0,0)).2 (q.getD n (0,0)).2
theorem ez.refl (s:bU)(q:List bN):ez k s q q:=⟨rfl,fun _ _=>⟨rfl,ap rfl⟩⟩
theorem ez.i8 {q0 q:List bN}(h:ez k s q0 q)(p:c5 k s t):ez k t q0 q:=⟨h.len,fun n a=>⟨(h.eq n a).1,p.ml (h.eq n a).2⟩⟩
theorem ez.snoc {q0 q:List bN}(h:ez k s q0 q){e a:bN}(b:a.1=e.1)(d:k.ml s e.2 a.2):ez k s (q0++[e]) (q++[a]):=by
 refine⟨by simp[h.len],fun n f=>?_⟩
 rw[aJ,List.length_singleton] at f;by_cases c:n<q0.length
 ·rw[jI _ _ _ _ c,jI _ _ _ _ (by rw[h.len];exact c)];exact h.eq n c
 ·have en:n=q0.length:=I;subst en;rw[k9,<-h.len,k9];exact⟨b,d⟩
theorem ez.lS {q0:List bN}:∀(l:List Nat)(t:(bU×List bN)×Bool)(H:List Int),LI k z t.1.1 H D->dJ k z t.1.1 H->(∀i∈l,i<t.1.2.length)->ez k t.1.1 q0 t.1.2->ez k (l.foldl (dt k.al k.br) t).1.1 q0 (l.foldl (dt k.al k.br) t).1.2
 |[],_,_,_,_,_,e=>e
 |i::l,t,H,h,w,hl,e=>by
  rw[aI];by_cases c:(k.al t.1.1 (t.1.2.getD i (0,0)).2||!k.al t.1.1 (t.1.2.getD i (0,0)).1)=true
  ·have b:dt k.al k.br t i=t:=by unfold dt;rw[aq c]
   rw[b];exact ez.lS l t H h w (fun j d=>hl j (ay _ d)) e
  ·have b:dt k.al k.br t i=(((k.br t.1.1 (t.1.2.getD i (0,0)).2).2,t.1.2.set i ((t.1.2.getD i (0,0)).1,(k.br t.1.1 (t.1.2.getD i (0,0)).2).1)),true):=by unfold dt;rw[ao c]
   have hi:=hl i V;obtain⟨f,l1,w1,g,_⟩:=cP.br (k:=k) (z:=z) (D:=D) (s:=t.1.1) (t.1.2.getD i (0,0)).2 H h w;obtain⟨_,_,_,_,_,m1,_⟩:=h.mi.br (t.1.2.getD i (0,0)).2;rw[b];refine ez.lS l _ f l1 w1 (fun j d=>?_) ⟨?_,fun n a=>?_⟩
   ·show j<(t.1.2.set i _).length;rw[aM];exact hl j (ay _ d)
   ·show(t.1.2.set i _).length=_;rw[aM];exact e.len
   ·show((t.1.2.set i _).getD n (0,0)).1=_/\k.ml _ _ ((t.1.2.set i _).getD n (0,0)).2;rw[ow _ _ _ _ _ hi];by_cases en:i=n
    ·rw[aq en];subst en;exact⟨(e.eq i a).1,m1 _ (e.eq i a).2⟩
    ·rw[ao en];exact⟨(e.eq n a).1,g.ml (e.eq n a).2⟩
theorem ez.wa {q0:List bN}{t:bU×List bN}(h:LI k z t.1 H D)(w:dJ k z t.1 H)(e:ez k t.1 q0 t.2):ez k (k.wa t).1.1 q0 (k.wa t).1.2:=
 ez.lS (List.range t.2.length) (t,false) H h w (fun _ hi=>List.mem_range.1 hi) e
theorem ez.cK {q0:List bN}:∀(n:Nat)(t:bU×List bN)(H:List Int),LI k z t.1 H D->dJ k z t.1 H->ez k t.1 q0 t.2->ez k (k.cK n t).1 q0 (k.cK n t).2
 |0,_,_,_,_,e=>e
 |n+1,t,H,h,w,e=>by
  obtain⟨f,l1,w1,g,_⟩:=cP.lb (k:=k) (z:=z) (D:=D) (s:=t.1) (k.O+1) H h w;obtain⟨b,l2,a,i,_⟩:=cP.kv (k:=k) (z:=z) (D:=D) (s:=k.lb (k.O+1) t.1) f l1 w1;have c:ez k (k.kv (k.lb (k.O+1) t.1)).2 q0 t.2:=e.i8 (g.trans i)
  obtain⟨j,l,w3,_,_⟩:=cP.wa (k:=k) (z:=z) (D:=D) ((k.kv (k.lb (k.O+1) t.1)).2,t.2) b l2 a;have d:=ez.wa (t:=((k.kv (k.lb (k.O+1) t.1)).2,t.2)) l2 a c;unfold bP.cK;split
  ·exact ez.cK n ((k.kv (k.lb (k.O+1) t.1)).2,t.2) b l2 a c
  ·split
   ·exact ez.cK n _ j l w3 d
   ·exact d
structure iY (k:bP)(z:C0)(D:List Int)(q0:List bN)(t:bU×List bN):Prop where
 li:∃H,LI k z t.1 H D/\dJ k z t.1 H
 cb:d6 k t.1
 wq:uQ k t.1 t.2
 he:hB k.N t.1.g t.1.nx=false
 ep:∀b∈t.1.ep,k.ls t.1 (k.ld t.1 (b+1))=true
 q:ez k t.1 q0 t.2
theorem iY.sp {q0:List bN}{t:bU×List bN}(h:LI k z t.1 H D)(w:dJ k z t.1 H)(a:d6 k t.1)(e:ez k t.1 q0 t.2):iY k z D q0 (k.sp t)/\c5 k t.1 (k.sp t).1:=by obtain⟨K,m1,b,c,_⟩:=cP.sp (k:=k) (z:=z) (D:=D) t H h w;exact⟨⟨⟨K,m1,b⟩,(oe _ t h.mi.ci a).2,qm _ t H h w a I,oa _ t H h w a I,qv _ t H h w a I,ez.cK _ t H h w e⟩,c⟩
theorem iY.ke {q0:List bN}{t:bU×List bN}(h:iY k z D q0 t)(x:Int):iY k z D q0 (k.ke t x).2/\c5 k t.1 (k.ke t x).2.1/\(∀a,k.ml t.1 a x->k.ml (k.ke t x).2.1 a (k.ke t x).1)/\k.cq (k.ke t x).1=false/\k.al (k.ke t x).2.1 x=true:=by
 obtain⟨H,l,w⟩:=h.li;obtain⟨n,l1,w1,d,_⟩:=cP.br (k:=k) (z:=z) (D:=D) (s:=t.1) x H l w;obtain⟨_,_,_,y1,_,m1,f,_⟩:=l.mi.br x;obtain⟨_,g,i,e⟩:=kZ k t.1 x;have j:d6 k (k.br t.1 x).2:=⟨by rw[g,e];exact h.cb.wk,by rw[i,e];exact h.cb.ep⟩
 obtain⟨m,b⟩:=iY.sp (t:=((k.br t.1 x).2,t.2)) l1 w1 j (h.q.i8 d)
 refine⟨m,d.trans b,fun a hm=>b.ml (m1 a hm),y1,ou b ?_⟩
 unfold bP.al bP.ls;cases c:k.cq x
 ·rfl
 ·simpa using f c
end
section
variable {a:Wc}{S:bZ}{W:b_}{m:Nat->Int}{Y G:List Int}
theorem cj.T (h:cj a S W m Y G)(b:cG a S.s):(S.s.j0 a).T=G++Y:=(h4 h.kv.inv.full b).2.2
theorem cj.memT (h:cj a S W m Y G)(b:cG a S.s){i:Nat}(hi:cv W.T i):m i∈(S.s.j0 a).T:=by rw[h.T b];exact List.mem_append.2 ((h.mem hi).symm)
theorem cj.qw (h:cj a S W m Y G)(b:cG a S.s){c:Int}(hc:c∈(S.s.j0 a).T):∃i,cv W.T i/\m i=c:=by rw[h.T b] at hc;exact h.e8 c ((List.mem_append.1 hc).symm)
theorem cj.jt (h:cj a S W m Y G)(b:cG a S.s){v:Int×Int}(d:d4 W.T v):(S.s.j0 a).jt (wv m v)=(v.1==3):=by
 unfold bL.jt;rw[h.qo b d];by_cases c:v.1=3
 ·rw[(h.vt b d c).2,c,List.contains_iff_mem.2 (h.memT b (d.t c).2)];rfl
 ·have e:(v.1==3)=false:=by simpa using c
  rw[e];rfl
theorem cj.iU (h:cj a S W m Y G)(b:cG a S.s){i:Nat}(hi:cv W.T i):(S.s.j0 a).jt (ew 3 (m i))=true/\bQ (ew 3 (m i))=m i:=by obtain⟨_,c,w3⟩:=h.word b hi;unfold bL.jt;rw[c,w3,List.contains_iff_mem.2 (h.memT b hi)];exact⟨rfl,rfl⟩
theorem cj.al (h:cj a S W m Y G)(b:cG a S.s)(s:bX){i:Nat}(hi:cv W.T i):(S.s.j0 a).al s (ew 3 (m i))=true↔s.f (m i)≠-1:=by obtain⟨w1,c⟩:=h.iU b hi;unfold bL.al bL.co;rw[w1,c];simp
theorem cj.lV (h:cj a S W m Y G)(c:cG a S.s)(s:bX){v:Int×Int}(d:d4 W.T v)(b:v.1=3):(S.s.j0 a).co s (wv m v)=false↔s.f (m v.2.toNat)≠-1:=by rw[fW b,<-h.al c s (d.t b).2];unfold bL.al;simp
theorem cj.marked (h:cj a S W m Y G)(b:cG a S.s){s:bX}{q:List bN}(n:e7 (S.s.j0 a) s q)(hq:∀e∈W.wt,we m e∈q):eF W.T W.wt (fun i=>cv W.T i/\s.f (m i)≠-1):=by
 intro i _ C v D f;obtain⟨hi,t⟩:=C;have hk:kQ (S.s.j0 a) s (m i):=by
  rcases n.iQ.cmp _ (h.memT b hi) t with c|c|c
  ·rw[n.td] at c;cases c
  ·exact absurd c id
  ·exact c
 obtain⟨j,E,_⟩:=h.parts hi;have j:pk ((S.s.j0 a).ld (m i))=(W.T.getD i t0).1:=j;rcases D with⟨c,hm⟩|⟨c,e⟩|⟨c,F,e⟩|⟨c,l,he,M,H⟩
 ·obtain⟨k,N,_,J⟩:=h.field hi hm;have d:=h.fv i hi v hm;refine⟨(d.t f).2,(h.lV b s d f).1 ?_⟩
  have:=hk.p (by rw[j];exact c) k (by show(k:Int)<pf (ld a.N S.s.y S.s.g S.s.ws (m i));rw[E];omega)
  have e:(S.s.j0 a).ld (m i+1+k)=wv m v:=J;rw[e] at this
  exact this
 ·have hl:=h.two hi (an (ap c))
  have hm:v∈(W.T.getD i t0).2.1:=by rw[e];exact getD_in I
  have d:=h.fv i hi v hm;refine⟨(d.t f).2,(h.lV b s d f).1 ?_⟩
  have:=hk.w (by rw[j];exact c)
  have p:(S.s.j0 a).ld (m i+2)=wv m v:=by
   have:=h.fd i hi 1 I;rw[<-e] at this
   show ld a.N S.s.y S.s.g S.s.ws (m i+2)=_;rw[<-this]
   congr 1
   omega
  rw[p] at this
  exact this
 ·have hl:=h.two hi (an (an c))
  have hm:v∈(W.T.getD i t0).2.1:=by rw[e];exact getD_in I
  have d:=h.fv i hi v hm;refine⟨(d.t f).2,(h.lV b s d f).1 ?_⟩
  have p:(S.s.j0 a).ld (m i+2)=wv m v:=by
   have:=h.fd i hi 1 I;rw[<-e] at this
   show ld a.N S.s.y S.s.g S.s.ws (m i+2)=_;rw[<-this]
   congr 1
   omega
  have eR:(S.s.j0 a).ld (m i+1)=wv m ((W.T.getD i t0).2.1.getD 0 (0,0)):=by
   have:=h.fd i hi 0 I;show ld a.N S.s.y S.s.g S.s.ws (m i+1)=_;rw[<-this]
   congr 1
   omega
  rcases hk.e (by rw[j];exact c) with o|o
  ·exfalso;have g:=n.ep _ o;rw[eR] at g;have u:=h.fv i hi _ (getD_in (x:=((0,0):Int×Int)) (show 0<(W.T.getD i t0).2.1.length by omega))
   have w:(S.s.j0 a).jt (wv m ((W.T.getD i t0).2.1.getD 0 (0,0)))=true:=by unfold bL.co at g;rw[aQ] at g;exact g.1
   rw[h.jt b u] at w;have A:((W.T.getD i t0).2.1.getD 0 (0,0)).1=3:=by simpa using w
   have:=(h.lV b s u A).2 (F A).2;rw[this] at g;cases g
  ·rw[p] at o;exact o
 ·have B:=h.de l he;have K:l.1.toNat=i:=I;have L:v.2.toNat=l.2.toNat:=by rw[H]
  rw[L];refine⟨B.h,(h.al b s B.h).1 ?_⟩
  rcases n.wq _ (hq l he) with c|c
  ·exact c
  ·exfalso;have:=(h.al b s hi).2 t;have c:(S.s.j0 a).al s (ew 3 (m l.1.toNat))=false:=c;rw[K,this] at c;cases c
def f_ (W:b_)(m:Nat->Int)(X:Nat->Prop)(c:Int):Prop:=∃i,cv W.T i/\m i=c/\X i
theorem cj.ki (h:cj a S W m Y G){X:Nat->Prop}{i:Nat}(hi:cv W.T i):f_ W m X (m i)↔X i:=
 ⟨fun⟨j,c,e,b⟩=>by rw[<-h.inj j i c hi e];exact b,fun b=>⟨i,hi,rfl,b⟩⟩
theorem cj.closed (h:cj a S W m Y G)(g:cG a S.s){X:Nat->Prop}(A:eF W.T W.wt X)(D:∀v∈W.rs,v.1=3->X v.2.toNat):k8 (S.s.j0 a) (f_ W m X)/\mY (S.s.j0 a) (f_ W m X) (W.wt.map (we m)):=by
 have key:∀{i:Nat}{v:Int×Int},cv W.T i->X i->d4 W.T v->fj W.T W.wt X i v->(S.s.j0 a).jt (wv m v)=true->f_ W m X (bQ (wv m v)):=fun {i v} hi f l hk d=>by
  rw[h.jt g l] at d;have n:v.1=3:=by simpa using d
  rw[(h.vt g l n).2];exact⟨_,(l.t n).2,rfl,A i hi.1 f v hk n⟩
 have fl:∀{i:Nat},cv W.T i->∀k:Nat,(k:Int)<pf ((S.s.j0 a).ld (m i))->k<(W.T.getD i t0).2.1.length:=fun {i} hi k hk=>by have hk:(k:Int)<pf (ld a.N S.s.y S.s.g S.s.ws (m i)):=hk;rw[(h.parts hi).2.1] at hk;omega
 have kd:∀{i:Nat},cv W.T i->pk ((S.s.j0 a).ld (m i))=(W.T.getD i t0).1:=fun {i} hi=>(h.parts hi).1;have t:∀{i:Nat},cv W.T i->(W.T.getD i t0).2.1.length=2->(S.s.j0 a).ld (m i+2)=wv m ((W.T.getD i t0).2.1.getD 1 (0,0))/\(S.s.j0 a).ld (m i+1)=wv m ((W.T.getD i t0).2.1.getD 0 (0,0)):=fun {i} hi hl=>by
  have E:=h.fd i hi 1 I;have h0:=h.fd i hi 0 I;constructor
  ·show ld a.N S.s.y S.s.g S.s.ws (m i+2)=_;rw[<-E]
   congr 1
   omega
  ·show ld a.N S.s.y S.s.g S.s.ws (m i+1)=_;rw[<-h0]
   congr 1
   omega
 refine⟨⟨fun i hi d=>?_,fun c hc p hk i hi d=>?_,fun c hc p hk d=>?_,fun c hc p hk B d=>?_⟩,fun e he hg d=>?_⟩
 ·obtain⟨er,l⟩:=h.root hi;have er:(S.s.j0 a).s.rs.getD i 0=wv m (W.rs.getD i (0,0)):=er;rw[er] at d⊢;rw[h.jt g l] at d;have n:(W.rs.getD i (0,0)).1=3:=by simpa using d
  rw[(h.vt g l n).2];exact⟨_,(l.t n).2,rfl,D _ (getD_in (by rw[h.rl];exact hi)) n⟩
 ·obtain⟨j,b,rfl,f⟩:=p;have hl:=fl b i hi;have F:(S.s.j0 a).ld (m j+1+i)=wv m ((W.T.getD j t0).2.1.getD i (0,0)):=h.fd j b i hl;rw[F] at d⊢;rw[kd b] at hk;exact key b f (h.fv j b _ (getD_in hl)) (ap ⟨hk,getD_in hl⟩) d
 ·obtain⟨j,b,rfl,f⟩:=p;rw[kd b] at hk;have hl:=h.two b (an (ap hk))
  rw[(t b hl).1] at d⊢;exact key b f (h.fv j b _ (getD_in I)) (an (ap ⟨hk,rfl⟩)) d
 ·obtain⟨j,b,rfl,f⟩:=p;rw[kd b] at hk;have hl:=h.two b (an (an hk))
  rw[(t b hl).1] at d⊢;rw[(t b hl).2] at B;have u:=h.fv j b _ (getD_in (x:=((0,0):Int×Int)) (show 0<(W.T.getD j t0).2.1.length by omega))
  refine key b f (h.fv j b _ (getD_in I)) (an (an (ap ⟨hk,fun w=>?_,rfl⟩))) d;have q:=B (by rw[h.jt g u];simpa using w)
  rw[(h.vt g u w).2] at q;exact(h.ki (u.t w).2).1 q
 ·obtain⟨s,C,rfl⟩:=List.mem_map.1 he;have o:=h.de s C;obtain⟨g1,g2⟩:=h.iU g o.g;obtain⟨J,H⟩:=h.iU g o.h;have q:=hg g1;have q:f_ W m X (bQ (ew 3 (m s.1.toNat))):=q;rw[g2] at q;show f_ W m X (bQ (ew 3 (m s.2.toNat)))
  rw[H];have f:=(h.ki o.g).1 q;exact⟨_,o.h,rfl,A _ o.g.1 f (3,s.2) (an (an (an ⟨o.k,s,C,by have:=o.g0;omega,rfl⟩))) rfl⟩
structure Rg (a:Wc)(S:bZ)(W:b_)(m:Nat->Int)(t:bX×List bN)(L:List Bool)(C:List bN):Prop where
 cL:e7 (S.s.j0 a) t.1 t.2
 sn:dm (S.s.j0 a) (fun _=>True) t.1
 ok:fp W.T L
 fg:∀i,cv W.T i->(t.1.f (m i)≠-1↔b8 L i)
 q:t.2=(W.wt++C).map (we m)
 c:∀e∈C,e∈W.rg/\b8 L e.2.toNat
 r:∀v∈W.rs,v.1=3->b8 L v.2.toNat
theorem Rg.is (f:cj a S W m Y G)(g:cG a S.s){t:bX×List bN}{L:List Bool}{C:List bN}(h:Rg a S W m t L C){x:Int}(d:cv W.T x.toNat):(S.s.j0 a).al t.1 (ew 3 (m x.toNat))=cn L x:=by
 unfold cn;have e:=f.al g t.1 d;have b:=h.fg _ d;unfold b8 at b;cases c:L.getD x.toNat false
 ·rw[Bool.eq_false_iff];intro i;have:=b.1 (e.1 i)
  rw[c] at this
  cases this
 ·exact e.2 (b.2 c)
theorem Rg.qx (b:cj a S W m Y G)(d:cG a S.s){g:List Bool->List Bool}(hg:e_ W.T W.wt g):lU (S.s.j0 a).fA g (we m) W.rg (Rg a S W m):=by
 refine⟨fun t L C e h he B=>?_,fun t L C e h he hy=>?_⟩
 ·have f:=b.gv e he;rw[<-Rg.is b d h f.g] at B;exact nt (o:=dE bX) (is:=fun s x=>(S.s.j0 a).al s.1 x) (kp:=(S.s.j0 a).ke) (s:=t) (e:=we m e) B
 ·have f:=b.gv e he;have ax:=hy;rw[<-Rg.is b d h f.g] at hy;obtain⟨k1,N,D,O⟩:=h.cL.iQ.ke (t:=t) (ew 3 (m e.2.toNat))
  have E:(S.s.j0 a).fA t (we m e)=(true,(((S.s.j0 a).ke t (ew 3 (m e.2.toNat))).2.1,t.2++[we m e])):=by refine(nu (o:=dE bX) (is:=fun s x=>(S.s.j0 a).al s.1 x) (kp:=(S.s.j0 a).ke) (s:=t) (e:=we m e) hy).trans ?_;show(true,(((S.s.j0 a).ke t (ew 3 (m e.2.toNat))).2.1,((S.s.j0 a).ke t (ew 3 (m e.2.toNat))).2.2++[we m e]))=_;rw[D]
  have F:=(h.cL.cm (we m e)).1;rw[E] at F;rw[E];obtain⟨o1,aB,aF⟩:=h.ok.put f.h;have H:=hg _ o1.len o1.al;obtain⟨n1,J,P⟩:=h.ok.dp hg b.iv f.h;have Q:eF W.T W.wt (b8 (dp g L e.2)):=H.cl;have n:∀i,b8 L i->b8 (dp g L e.2) i:=P;obtain⟨c1,c2⟩:=b.closed d Q (fun v u w=>n _ (h.r v u w))
  have R:mY (S.s.j0 a) (f_ W m (b8 (dp g L e.2))) t.2:=by
   rw[h.q,bc];intro x p;rcases List.mem_append.1 p with k|k
   ·exact c2 x k
   ·obtain⟨A,U,rfl⟩:=List.mem_map.1 k;obtain⟨X,ad⟩:=h.c A U;have K:=b.gv A X;intro _ _;show f_ W m _ (bQ (ew 3 (m A.2.toNat)))
    rw[(b.iU d K.h).2];exact⟨_,K.h,rfl,n _ ad⟩
  have s0:dm (S.s.j0 a) (f_ W m (b8 (dp g L e.2))) t.1:=⟨fun c hc l=>by obtain⟨i,hi,rfl⟩:=b.qw d hc;exact⟨i,hi,rfl,n i ((h.fg i hi).1 l)⟩,h.sn.ea⟩
  have s1:=dm.ke c1 R s0 h.cL.iQ (ew 3 (m e.2.toNat)) (fun _=>by rw[(b.iU d f.h).2];exact⟨_,f.h,rfl,J⟩)
  refine⟨rfl,F,⟨fun _ _ _=>trivial,s1.ea⟩,n1,fun i hi=>⟨fun l=>?_,fun ai=>?_⟩,?_,fun x p=>?_,fun v u w=>n _ (h.r v u w)⟩
  ·exact(b.ki hi).1 (s1.snd _ (b.memT d hi) l)
  ·have al:=b.marked d k1 (fun x p=>by rw[D,h.q];exact List.mem_map_of_mem (aL _ p))
   refine(H.lt _ al (fun j q=>?_) i ai).2;have M:cv W.T j:=o1.al j q;refine⟨M,?_⟩
   unfold b8 at q;rw[jp _ _ _ (by rw[h.ok.len];exact f.h.1)] at q;split at q
   ·rename_i ar;rw[<-ar];exact(b.al d _ f.h).1 O
   ·have l:=(h.fg j M).2 q;rw[N.f _ l];exact l
  ·show t.2++[we m e]=_;rw[h.q,<-aU,bc (l₁:=W.wt++C)];rfl
  ·rcases List.mem_append.1 p with k|k
   ·exact⟨(h.c x k).1,n _ (h.c x k).2⟩
   ·rw[List.mem_singleton.1 k];exact⟨he,J⟩
theorem Rg.start (b:cj a S W m Y G)(c:cG a S.s){g:List Bool->List Bool}(hg:e_ W.T W.wt g):Rg a S W m (S.j2 a) (W.c0 g true) []:=by
 have w:cu (S.s.j0 a) dw:=cu.start c.n1 c.o1 c.y1 c.g1;obtain⟨m1,_,F⟩:=(cM.start (X:=fun _=>False) w).cg 12;obtain⟨d,q,f⟩:=cM.sp (t:=((S.s.j0 a).cg dw 12,S.q)) m1;have f:(S.j2 a).2=S.q:=f;have q:c7 (S.s.j0 a) ((S.s.j0 a).cg dw 12) (S.j2 a).1:=q;have l:=b.first true;have A:=hg _ l.len l.al;obtain⟨n1,H⟩:=hg.ok b.iv l;have B:∀v∈W.rs,v.1=3->b8 (W.c0 g true) v.2.toNat:=fun v o p=>H _ ((kB _ _ _ _).2 ⟨((b.rv v o).t p).2.1,an ⟨v,o,p,rfl⟩⟩)
 obtain⟨c1,c2⟩:=b.closed c (X:=b8 (W.c0 g true)) A.cl B;rw[<-b.wt] at c2;have cg:∀n,n<=12->dm (S.s.j0 a) (f_ W m (b8 (W.c0 g true))) ((S.s.j0 a).cg dw n):=fun n=>by
  induction n with
  |zero=>
   intro _;show dm (S.s.j0 a) _ dw;exact⟨fun _ _ s=>absurd rfl s,fun _ ha=>by simp[dw] at ha⟩
  |succ n J=>
   intro P;obtain⟨m1,_⟩:=(cM.start (X:=fun _=>False) w).cg n;exact(J I).ma _ (c1.rt n I) (m1.ma _).2.1
 have s1:dm (S.s.j0 a) (f_ W m (b8 (W.c0 g true))) (S.j2 a).1:=dm.cK c1 _ ((S.s.j0 a).cg dw 12,S.q) c2 (cg 12 bJ) m1;have d:e7 (S.s.j0 a) (S.j2 a).1 (S.j2 a).2:=d;refine⟨d,⟨fun _ _ _=>trivial,s1.ea⟩,n1,fun i hi=>⟨fun s=>(b.ki hi).1 (s1.snd _ (b.memT c hi) s),fun K=>?_⟩,?_,fun e he=>(by cases he),B⟩
 ·have L:=b.marked c d (fun x M=>by rw[f,b.wt];exact List.mem_map_of_mem M)
  refine(A.lt _ L (fun j C=>?_) i K).2;refine⟨l.al j C,?_⟩
  obtain⟨_,u⟩:=(kB _ _ _ _).1 C;rcases u with⟨_,_,u⟩|⟨v,o,p,e⟩
  ·cases u
  ·obtain⟨k,hk,eR⟩:=List.mem_iff_getElem.1 o;have D:k<12:=by rw[<-b.rl];exact hk
   obtain⟨er,E⟩:=b.root D;have N:W.rs.getD k (0,0)=v:=by rw[aj,am hk,eR];rfl
   rw[N] at er E;have j0:=F k D;have er:(S.s.j0 a).s.rs.getD k 0=wv m v:=er;rw[er] at j0;have O:=q.co j0;rw[<-e];exact(b.lV c _ E p).1 O
 ·rw[f,b.wt,List.append_nil]
theorem Rg.settled (b:cj a S W m Y G)(c:cG a S.s){g:List Bool->List Bool}(hg:e_ W.T W.wt g):Rg a S W m (S.b7 a,((S.s.j0 a).d_ (S.j2 a) S.r).2) (W.cR g true).1 (W.cR g true).2.1:=by
 have h0:=Rg.start b c hg;have hs:=Rg.qx b c hg;have d:S.r.filter (fun e=>!(S.s.j0 a).al (S.j2 a).1 e.2)=(W.rg.filter (fun e=>!cn (W.c0 g true) e.2)).map (we m):=by rw[b.rg];exact jJ _ _ _ W.rg (fun e he=>by show(!(S.s.j0 a).al (S.j2 a).1 (ew 3 (m e.2.toNat)))=_;rw[Rg.is b c h0 (b.gv e he).h])
 obtain⟨f,_⟩:=hs.turns (W.rg.length+1) (W.rg.filter (fun e=>!cn (W.c0 g true) e.2)) (S.j2 a) (W.c0 g true) [] (fun e he=>(List.mem_filter.1 he).1) h0;have i:eu (S.s.j0 a).fA ((S.r.filter (fun e=>!(S.s.j0 a).al (S.j2 a).1 e.2)).length+1) (S.j2 a) (S.r.filter (fun e=>!(S.s.j0 a).al (S.j2 a).1 e.2))=eu (S.s.j0 a).fA (W.rg.length+1) (S.j2 a) ((W.rg.filter (fun e=>!cn (W.c0 g true) e.2)).map (we m)):=by rw[d];have hl:=aY (fun e=>!cn (W.c0 g true) e.2) W.rg;exact qs _ _ _ _ _ (by rw[aE];omega) (by rw[aE];omega)
 have j:(S.s.j0 a).d_ (S.j2 a) S.r=(eu (S.s.j0 a).fA (W.rg.length+1) (S.j2 a) ((W.rg.filter (fun e=>!cn (W.c0 g true) e.2)).map (we m))).1:=by rw[<-i];rfl
 have k:(S.b7 a,((S.s.j0 a).d_ (S.j2 a) S.r).2)=(S.s.j0 a).d_ (S.j2 a) S.r:=rfl;rw[k,j];exact f
end
section
variable {a:Wc}{S:bZ}{W:b_}{m:Nat->Int}{Y G D:List Int}
theorem cj.eE (h:cj a S W m Y G)(b:cG a S.s):(S.s.k0 a).T=Y:=oh h.kv.inv.full b.n1 b.y1 b.o1 b.g1
theorem cj.iA (h:cj a S W m Y G)(b:cG a S.s){v:Int}(c:v∈Y):v∉G:=fun d=>by have q1:=h.kv.inv.full.f4 v c;have e:=h.kv.inv.full.io v d;have:=b.y1;omega
theorem cj.lW (h:cj a S W m Y G)(b:cG a S.s){i:Nat}(hi:cv W.T i):(S.s.k0 a).cq (ew 3 (m i))=true↔m i∈Y:=by obtain⟨_,c,w3⟩:=h.word b hi;unfold bP.cq;rw[c,w3,h.eE b];simp
theorem cj.oy (h:cj a S W m Y G)(b:cG a S.s){v:Int×Int}(c:d4 W.T v)(hy:(S.s.k0 a).cq (wv m v)=true):v.1=3/\bQ (wv m v)=m v.2.toNat:=by
 have d:cI (wv m v)=true:=by unfold bP.cq at hy;rw[aQ] at hy;exact hy.1
 rw[h.qo b c] at d;have e:v.1=3:=by simpa using d
 exact⟨e,(h.vt b c e).2⟩
theorem cj.iC (h:cj a S W m Y G)(d:cG a S.s)(s:bU){i:Nat}(hi:cv W.T i):(S.s.k0 a).al s (ew 3 (m i))=true↔(m i∈G\/s.f (m i)≠-1):=by
 have hy:=h.lW d hi;obtain⟨_,_,w3⟩:=h.word d hi;unfold bP.al bP.ls;rw[w3];rcases h.mem hi with b|b
 ·rw[hy.2 b];have:=h.iA d b;simp[this]
 ·have:(S.s.k0 a).cq (ew 3 (m i))=false:=by rw[Bool.eq_false_iff];intro c;exact h.iA d (hy.1 c) b
  rw[this];simp[b]
theorem cj.Bm (h:cj a S W m Y G)(d:cG a S.s){s:bU}{i:Nat}(hi:cv W.T i)(hs:(S.s.k0 a).al s (ew 3 (m i))=true):∃b,(S.s.k0 a).or (S.s.z0 G) s (m i) b:=by
 rcases(h.iC d s hi).1 hs with c|c
 ·exact⟨m i,ap ⟨rfl,c⟩⟩
 ·rcases h.mem hi with e|e
  ·exact⟨s.f (m i),an ⟨by rw[h.eE d];exact e,rfl,c⟩⟩
  ·exact⟨m i,ap ⟨rfl,e⟩⟩
def mZ (a:Wc)(S:bZ)(G D:List Int):Prop:=∀v∈G,v∉D->∀i,0<=i->i<pf ((S.s.k0 a).l0 (S.s.z0 G) v)->(S.s.k0 a).cq ((S.s.k0 a).l0 (S.s.z0 G) (v+1+i))=false
theorem cj.qy (h:cj a S W m Y G)(d:cG a S.s)(hc:mZ a S G D){q0:List bN}{t:bU×List bN}(k:iY (S.s.k0 a) (S.s.z0 G) D q0 t)(hq:∀e∈W.wt,∃n,n<q0.length/\q0.getD n (0,0)=we m e):
 eF W.T W.wt (fun i=>cv W.T i/\(S.s.k0 a).al t.1 (ew 3 (m i))=true):=by
 obtain⟨H,li,bi⟩:=k.li;have hz:∀v,(v∈(S.s.k0 a).T\/v∈(S.s.z0 G).G)->∀i,0<=i->i<pf ((S.s.k0 a).l0 (S.s.z0 G) v)->cI ((S.s.k0 a).l0 (S.s.z0 G) (v+1+i))=true->bQ ((S.s.k0 a).l0 (S.s.z0 G) (v+1+i))∈(S.s.k0 a).T\/bQ ((S.s.k0 a).l0 (S.s.z0 G) (v+1+i))∈(S.s.z0 G).G:=fun v B i X w ha=>by rw[h.eE d] at B⊢;exact h.kv.inv.fd v B i X w ha
 have told:∀{E x:Int}{j:Nat},cv W.T j->E=ew 3 (m j)->(S.s.k0 a).ml t.1 E x->(S.s.k0 a).al t.1 x=true->(S.s.k0 a).al t.1 (ew 3 (m j))=true:=fun {E x j} K l hm ad=>by
  rcases hm with e|⟨_,C,_⟩
  ·rw[<-l,<-e];exact ad
  ·rw[l,(h.word d K).2.2] at C;exact(h.iC d t.1 K).2 (an C)
 intro i _ ai v B p;obtain⟨hi,hs⟩:=ai;obtain⟨b,o⟩:=h.Bm d hi hs;have l:(S.s.k0 a).ld t.1 b=ld a.N S.s.y S.s.g S.s.ws (m i):=li.mi.hd _ _ o;obtain⟨L,F,_⟩:=h.parts hi;have J:∀{n:Nat},n<(W.T.getD i t0).2.1.length->((W.T.getD i t0).2.1.getD n (0,0)).1=3->¬((W.T.getD i t0).1=3/\n=0)->¬((W.T.getD i t0).1=4/\b∈t.1.ep)->(S.s.k0 a).al t.1 (ew 3 (m ((W.T.getD i t0).2.1.getD n (0,0)).2.toNat))=true:=fun {n} f M n1 al=>by
  have g:=h.fv i hi _ (getD_in (x:=((0,0):Int×Int)) f)
  have N:=(g.t M).2;have O:(S.s.k0 a).l0 (S.s.z0 G) (m i+1+n)=ew 3 (m ((W.T.getD i t0).2.1.getD n (0,0)).2.toNat):=(h.fd i hi n f).trans (fW M)
  have w:(n:Int)<pf ((S.s.k0 a).l0 (S.s.z0 G) (m i)):=by
   show(n:Int)<pf (ld a.N S.s.y S.s.g S.s.ws (m i))
   rw[F];omega
  have P:=li.mi.fd (m i) b o n (Int.natCast_nonneg n) w;refine told N O P ?_;rcases P with e|⟨y1,C,ar⟩
  ·rw[O] at e;have ha:cI ((S.s.k0 a).ld t.1 (b+1+n))=true:=by rw[e];exact(h.word d N).2.1
   have ax:(n:Int)<pf ((S.s.k0 a).ld t.1 b):=by rw[l,F];omega
   rcases li.fields k.he hz hc (li.mi.mem o) (Int.natCast_nonneg n) ax ha with c|⟨c1,c2,_⟩|⟨c1,c2⟩
   ·exact ql (li.mi.mT c)
   ·rw[l,L] at c1;exact absurd ⟨c1,I⟩ n1
   ·rw[l,L] at c1;exact absurd ⟨c1,c2⟩ al
  ·have aF:=li.mi.hu (li.mi.fh _ (k_ y1) C)
   have bl:=li.mi.ci.hN';have bn:=li.mi.ci.hO;have bo:=li.mi.ci.hg;rw[ar];exact ql (kU li.mi.ci aF.1 I)
 rcases B with⟨c,hm⟩|⟨c,e⟩|⟨c,aR,e⟩|⟨c,A,he,bp,aT⟩
 ·obtain⟨n,f,en,_⟩:=h.field hi hm;have g:=h.fv i hi v hm;refine⟨(g.t p).2,?_⟩
  have:=J f (by rw[en];exact p) (fun q=>by omega) (fun q=>by omega)
  rw[en] at this
  exact this
 ·have hl:=h.two hi (an (ap c))
  have hm:v∈(W.T.getD i t0).2.1:=by rw[e];exact getD_in I
  have g:=h.fv i hi v hm;refine⟨(g.t p).2,?_⟩
  have:=J (n:=1) I (by rw[<-e];exact p) (fun q=>by omega) (fun q=>by omega)
  rw[<-e] at this
  exact this
 ·have hl:=h.two hi (an (an c))
  have hm:v∈(W.T.getD i t0).2.1:=by rw[e];exact getD_in I
  have g:=h.fv i hi v hm;refine⟨(g.t p).2,?_⟩
  have Q:=h.fv i hi _ (getD_in (x:=((0,0):Int×Int)) (show 0<(W.T.getD i t0).2.1.length by omega))
  have a0:b∉t.1.ep:=fun a1=>by
   have a2:=k.ep b a1;have a3:b+1+0=b+1:=I;have w:(0:Int)<pf ((S.s.k0 a).l0 (S.s.z0 G) (m i)):=by
    show(0:Int)<pf (ld a.N S.s.y S.s.g S.s.ws (m i))
    rw[F];omega
   have s:=a2;rw[<-a3] at s;have ea:=li.mi.ox o (Int.le_refl 0) w (kh s)
   have eR:(S.s.k0 a).l0 (S.s.z0 G) (m i+1+0)=wv m ((W.T.getD i t0).2.1.getD 0 (0,0)):=h.fd i hi 0 I;rw[ea,eR] at s;obtain⟨R,bb⟩:=h.oy d Q (kh s)
   have q1:=(bP.kI s).2.2;have u:=(bP.kI s).2.1;rw[bb] at q1 u;rw[h.eE d] at u;rcases(h.iC d t.1 (Q.t R).2).1 (aR R).2 with w1|w1
   ·exact h.iA d u w1
   ·exact w1 q1
  have:=J (n:=1) I (by rw[<-e];exact p) (fun q=>by omega) (fun q=>a0 q.2)
  rw[<-e] at this
  exact this
 ·have U:=h.de A he;have bd:A.1.toNat=i:=I;have be:v.2.toNat=A.2.toNat:=by rw[aT]
  rw[be];refine⟨U.h,?_⟩
  obtain⟨n,f,en⟩:=hq A he;obtain⟨q1,u⟩:=k.q.eq n f;rw[en] at q1 u;have bg:t.2.getD n (0,0)∈t.2:=getD_in (by rw[k.q.len];exact f)
  refine told U.h rfl u ?_;rcases k.wq _ bg with w1|w1
  ·exact w1
  ·exfalso;have q1:(t.2.getD n (0,0)).1=ew 3 (m A.1.toNat):=q1;rw[q1,bd,hs] at w1;cases w1
theorem cj.u3 (h:cj a S W m Y G)(k:cG a S.s){X:Nat->Prop}(E:eF W.T W.wt X)(u:∀i,cv W.T i->(W.T.getD i t0).2.2.1=true->X i):jf (S.s.k0 a) (S.s.z0 G) (f_ W m X):=by
 have key:∀{i:Nat}{v:Int×Int},cv W.T i->X i->d4 W.T v->fj W.T W.wt X i v->(S.s.k0 a).cq (wv m v)=true->f_ W m X (bQ (wv m v)):=fun {i v} hi g w hk f=>by obtain⟨A,e⟩:=h.oy k w f;rw[e];exact⟨_,(w.t A).2,rfl,E i hi.1 g v hk A⟩
 have kd:∀{i:Nat},cv W.T i->pk ((S.s.k0 a).l0 (S.s.z0 G) (m i))=(W.T.getD i t0).1/\pf ((S.s.k0 a).l0 (S.s.z0 G) (m i))=(W.T.getD i t0).2.1.length:=fun {i} hi=>⟨(h.parts hi).1,(h.parts hi).2.1⟩
 have p:∀{i:Nat},cv W.T i->∀{n:Nat},n<(W.T.getD i t0).2.1.length->(S.s.k0 a).l0 (S.s.z0 G) (m i+1+n)=wv m ((W.T.getD i t0).2.1.getD n (0,0)):=fun {i} hi {n} F=>h.fd i hi n F;refine⟨fun b B=>?_,fun c _ l hk i hi f=>?_,fun c _ l hk f=>?_,fun c _ l hk C f=>?_⟩
 ·obtain⟨i,hi,e⟩:=h.e8 b (an B)
  refine⟨i,hi,e,u i hi ?_⟩
  cases c:(W.T.getD i t0).2.2.1
  ·exact absurd (e▸B) (h.iA k (h.gp i hi c))
  ·rfl
 ·obtain⟨j,d,rfl,g⟩:=l;rw[(kd d).2] at hi;have hl:i<(W.T.getD j t0).2.1.length:=I;rw[p d hl] at f⊢;rw[(kd d).1] at hk;exact key d g (h.fv j d _ (getD_in hl)) (ap ⟨hk,getD_in hl⟩) f
 ·obtain⟨j,d,rfl,g⟩:=l;rw[(kd d).1] at hk;have hl:=h.two d (an (ap hk))
  have s:(S.s.k0 a).l0 (S.s.z0 G) (m j+1+1)=wv m ((W.T.getD j t0).2.1.getD 1 (0,0)):=p d (n:=1) I;rw[s] at f⊢;exact key d g (h.fv j d _ (getD_in I)) (an (ap ⟨hk,rfl⟩)) f
 ·obtain⟨j,d,rfl,g⟩:=l;rw[(kd d).1] at hk;have hl:=h.two d (an (an hk))
  have s:(S.s.k0 a).l0 (S.s.z0 G) (m j+1+1)=wv m ((W.T.getD j t0).2.1.getD 1 (0,0)):=p d (n:=1) I;have H:(S.s.k0 a).l0 (S.s.z0 G) (m j+1+0)=wv m ((W.T.getD j t0).2.1.getD 0 (0,0)):=p d (n:=0) I;rw[s] at f⊢;rw[H] at C;have D:=h.fv j d _ (getD_in (x:=((0,0):Int×Int)) (show 0<(W.T.getD j t0).2.1.length by omega))
  refine key d g (h.fv j d _ (getD_in I)) (an (an (ap ⟨hk,fun t=>?_,rfl⟩))) f;have o:=(D.t t).2;rcases h.mem o with w1|w1
  ·have q:=C (by rw[fW t];exact(h.lW k o).2 w1)
   rw[(h.vt k D t).2] at q;exact(h.ki o).1 q
  ·refine u _ o ?_;cases c:(W.T.getD ((W.T.getD j t0).2.1.getD 0 (0,0)).2.toNat t0).2.2.1
   ·exact absurd w1 (h.iA k (h.gp _ o c))
   ·rfl
theorem cj.u4 (h:cj a S W m Y G)(g:cG a S.s){X:Nat->Prop}(v:eF W.T W.wt X)(w:∀i,cv W.T i->(W.T.getD i t0).2.2.1=true->X i){C:List bN}(k:∀e∈C,e∈W.rg/\X e.2.toNat){s:bU}{H:List Int}(mi:di (S.s.k0 a) (S.s.z0 G) s H){q:List bN}(hq:ez (S.s.k0 a) s ((W.wt++C).map (we m)) q):jg (S.s.k0 a) (f_ W m X) q:=by
 intro e he hg hy;obtain⟨n,l,en⟩:=List.mem_iff_getElem.1 he;have x:q.getD n (0,0)=e:=by rw[aj,am l,en];rfl
 have j:n<((W.wt++C).map (we m)).length:=by rw[<-hq.len];exact l
 obtain⟨q1,o⟩:=hq.eq n j;have p:n<(W.wt++C).length:=by rw[aE] at j;exact j
 rw[x,iX (we m) (W.wt++C) n (0,0) (0,0) p] at q1 o;have t:(W.wt++C).getD n (0,0)∈W.wt++C:=getD_in p;generalize (W.wt++C).getD n (0,0)=b at*;have d:gI W.T b:=by
  rcases List.mem_append.1 t with f|f
  ·exact h.de b f
  ·exact h.gv b (k b f).1
 have A:e.2=ew 3 (m b.2.toNat):=by
  rcases o with f|⟨y1,B,D⟩
  ·exact f
  ·exfalso;have E:=mi.hu (mi.fh _ (k_ y1) B)
   have J:=mi.ci.hN';have K:=mi.ci.hO;have L:=mi.ci.hg;rw[D,kU mi.ci E.1 I] at hy;cases hy
 have u:e.1=ew 3 (m b.1.toNat):=q1;rw[A,(h.word g d.h).2.2];refine⟨_,d.h,rfl,?_⟩
 rcases List.mem_append.1 t with f|f
 ·have F:X b.1.toNat:=by
   rcases h.mem d.g with w1|w1
   ·have:=hg (by rw[u];exact(h.lW g d.g).2 w1)
    rw[u,(h.word g d.g).2.2] at this
    exact(h.ki d.g).1 this
   ·refine w _ d.g ?_;cases c:(W.T.getD b.1.toNat t0).2.2.1
    ·exact absurd w1 (h.iA g (h.gp _ d.g c))
    ·rfl
  exact v _ d.g.1 F (3,b.2) (an (an (an ⟨d.k,b,f,by have:=d.g0;omega,rfl⟩))) rfl
 ·exact(k b f).2
structure hQ (a:Wc)(S:bZ)(W:b_)(m:Nat->Int)(G D:List Int)(t:bU×List bN)(L:List Bool)(C:List bN):Prop where
 cL:iY (S.s.k0 a) (S.s.z0 G) D ((W.wt++C).map (we m)) t
 ok:fp W.T L
 fg:∀i,cv W.T i->((S.s.k0 a).al t.1 (ew 3 (m i))=true↔b8 L i)
 c:∀e∈C,e∈W.rg/\b8 L e.2.toNat
 r:∀v∈W.rs,v.1=3->b8 L v.2.toNat
 o:∀i,cv W.T i->(W.T.getD i t0).2.2.1=true->b8 L i
theorem hQ.is {t:bU×List bN}{L:List Bool}{C:List bN}(h:hQ a S W m G D t L C){x:Int}(d:cv W.T x.toNat):(S.s.k0 a).al t.1 (ew 3 (m x.toNat))=cn L x:=by
 unfold cn;have b:=h.fg _ d;unfold b8 at b;cases c:L.getD x.toNat false
 ·rw[Bool.eq_false_iff];intro e;rw[b.1 e] at c;cases c
 ·exact b.2 c
theorem qz {C:List bN}:∀e∈W.wt,∃n,n<((W.wt++C).map (we m)).length/\((W.wt++C).map (we m)).getD n (0,0)=we m e:=fun e he=>by
 obtain⟨n,a,en⟩:=List.mem_iff_getElem.1 he;refine⟨n,by rw[aE,aJ];omega,?_⟩
 rw[iX (we m) (W.wt++C) n (0,0) (0,0) (by rw[aJ];omega),aj,ba a,am a,en];rfl
theorem hQ.qx (b:cj a S W m Y G)(f:cG a S.s)(hc:mZ a S G D){g:List Bool->List Bool}(hg:e_ W.T W.wt g):lU (cm (dE bU) (fun s x=>(S.s.k0 a).al s.1 x) (S.s.k0 a).ke) g (we m) W.rg (hQ a S W m G D):=by
 refine⟨fun t L C e h he A=>?_,fun t L C e h he hy=>?_⟩
 ·have k:=b.gv e he;rw[<-h.is k.g] at A;exact nt (o:=dE bU) (is:=fun s x=>(S.s.k0 a).al s.1 x) (kp:=(S.s.k0 a).ke) (s:=t) (e:=we m e) A
 ·have k:=b.gv e he;rw[<-h.is k.g] at hy;obtain⟨k1,M,N,O,k5⟩:=h.cL.ke (ew 3 (m e.2.toNat))
  have P:cm (dE bU) (fun s x=>(S.s.k0 a).al s.1 x) (S.s.k0 a).ke t (we m e)=(true,(((S.s.k0 a).ke t (ew 3 (m e.2.toNat))).2.1,((S.s.k0 a).ke t (ew 3 (m e.2.toNat))).2.2++[((we m e).1,((S.s.k0 a).ke t (ew 3 (m e.2.toNat))).1)])):=
   nu (o:=dE bU) (is:=fun s x=>(S.s.k0 a).al s.1 x) (kp:=(S.s.k0 a).ke) (s:=t) (e:=we m e) hy
  rw[P];obtain⟨o1,aB,aF⟩:=h.ok.put k.h;have B:=hg _ o1.len o1.al;obtain⟨n1,E,Q⟩:=h.ok.dp hg b.iv k.h;have F:eF W.T W.wt (b8 (dp g L e.2)):=B.cl;have n:∀i,b8 L i->b8 (dp g L e.2) i:=Q;have p:∀i,cv W.T i->(W.T.getD i t0).2.2.1=true->b8 (dp g L e.2) i:=fun i hi q=>n i (h.o i hi q)
  obtain⟨H,li,R⟩:=h.cL.li;have c1:=b.u3 f F p;have U:=b.u4 f F p (fun x l=>⟨(h.c x l).1,n _ (h.c x l).2⟩) li.mi h.cL.q;have s0:cQ (S.s.k0 a) (f_ W m (b8 (dp g L e.2))) t.1:=fun c J w=>by
   rw[b.eE f] at J;obtain⟨i,hi,rfl⟩:=b.e8 c (ap J)
   exact⟨i,hi,rfl,n i ((h.fg i hi).1 ((b.iC f t.1 hi).2 (an w)))⟩
  obtain⟨s1,_⟩:=cQ.ke c1 li R U s0 (ew 3 (m e.2.toNat)) (fun _=>by rw[(b.word f k.h).2.2];exact⟨_,k.h,rfl,E⟩)
  have X:(W.wt++(C++[e])).map (we m)=(W.wt++C).map (we m)++[we m e]:=by rw[<-aU,bc (l₁:=W.wt++C)];rfl
  refine⟨rfl,⟨k1.li,k1.cb,fun x l=>?_,k1.he,k1.ep,?_⟩,n1,fun i hi=>⟨fun w=>?_,fun ad=>?_⟩,fun x l=>?_,fun v ai al=>n _ (h.r v ai al),p⟩
  ·rcases List.mem_append.1 l with d|d
   ·exact k1.wq x d
   ·rw[List.mem_singleton.1 d];exact ap (ql O)
  ·rw[X];exact k1.q.snoc rfl (N _ (ap rfl))
  ·rcases(b.iC f _ hi).1 w with d|d
   ·refine p i hi ?_;cases c:(W.T.getD i t0).2.2.1
    ·exact absurd d (b.iA f (b.gp _ hi c))
    ·rfl
   ·rcases b.mem hi with w1|w1
    ·exact(b.ki hi).1 (s1 _ (by rw[b.eE f];exact w1) d)
    ·refine p i hi ?_;cases c:(W.T.getD i t0).2.2.1
     ·exact absurd w1 (b.iA f (b.gp _ hi c))
     ·rfl
  ·have ar:=b.qy f hc k1 qz;refine(B.lt _ ar (fun j u=>?_) i ad).2;have K:cv W.T j:=o1.al j u;refine⟨K,?_⟩
   unfold b8 at u;rw[jp _ _ _ (by rw[h.ok.len];exact k.h.1)] at u;split at u
   ·rename_i ax;rw[<-ax];exact k5
   ·exact ou M ((h.fg j K).2 u)
  ·rcases List.mem_append.1 l with d|d
   ·exact⟨(h.c x d).1,n _ (h.c x d).2⟩
   ·rw[List.mem_singleton.1 d];exact⟨he,E⟩
end
end Go.Proofs.YtjpjpjemibgjpaaGreat
