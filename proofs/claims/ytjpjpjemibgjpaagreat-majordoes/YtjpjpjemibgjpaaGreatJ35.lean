import Derived.Test.YtjpjpjemibgjpaaGreatJ34
import Derived.Test.YtjpjpjemibgjpaaGreatJ29
import Derived.Test.YtjpjpjemibgjpaaGreatJ02
import Derived.Test.YtjpjpjemibgjpaaGreatJ00
import Derived.Test.YtjpjpjemibgjpaaGreatJ07
import Derived.Test.YtjpjpjemibgjpaaGreatJ19
import Derived.Test.YtjpjpjemibgjpaaGreatJ01
import Derived.Test.YtjpjpjemibgjpaaGreatJ04
import Derived.Test.YtjpjpjemibgjpaaGreatJ05
import Derived.Test.YtjpjpjemibgjpaaGreatJ06
namespace Go.Proofs.YtjpjpjemibgjpaaGreat
open Go.RowKit W Kp bY
section
variable {k:bP}{z:C0}{s t:bU}{D:List Int}
theorem n_ (k:bP):∀(l left:List Int)(s:bU),(l.foldl k.cr (left,s)).1.length<=left.length+l.length/\((l.foldl k.cr (left,s)).1.length=left.length+l.length->(l.foldl k.cr (left,s)).2=s)
 |[],left,s=>⟨V,fun _=>rfl⟩
 |b::l,left,s=>by
  rw[aI];cases hls:k.ls s (k.ld s (b+1))
  ·have a:k.cr (left,s) b=(left,k.kf (k.kf s (b+1)) (b+2)):=by unfold bP.cr;rw[ao (by rw[hls];simp)]
   rw[a];have c:=(n_ k l left (k.kf (k.kf s (b+1)) (b+2))).1;rw[a4];exact⟨I,fun e=>I⟩
  ·have a:k.cr (left,s) b=(left++[b],s):=by unfold bP.cr;rw[aq hls]
   rw[a];obtain⟨c,d⟩:=n_ k l (left++[b]) s;rw[aJ,List.length_singleton] at c d;rw[a4];exact⟨I,fun e=>d I⟩
theorem AM (k:bP)(s:bU)(h:(k.kv s).1=false):(k.kv s).2.g=s.g/\(k.kv s).2.nx=s.nx:=by unfold bP.kv bP.c4 at h⊢;dsimp only at h⊢;obtain⟨b,a⟩:=n_ k s.ep [] s;have c:=of_decide_eq_false h;rw[List.length_nil,Nat.zero_add] at b a;rw[a I];exact⟨rfl,rfl⟩
theorem p9 (k:bP):∀(l:List Nat)(t:(bU×List bN)×Bool),(l.foldl (dt k.al k.br) t).2=false->(l.foldl (dt k.al k.br) t).1=t.1/\t.2=false
 |[],t,h=>⟨rfl,h⟩
 |i::l,t,h=>by
  rw[aI] at h⊢;obtain⟨b,a⟩:=p9 k l _ h;unfold dt at b a⊢;split at a
  ·rename_i e;rw[aq e] at b⊢;exact⟨b,a⟩
  ·cases a
theorem p_ (k:bP)(t:bU×List bN)(h:(k.wa t).2=false):(k.wa t).1=t:=(p9 k (List.range t.2.length) (t,false) h).1
theorem oa:∀(n:Nat)(t:bU×List bN)(H:List Int),LI k z t.1 H D->dJ k z t.1 H->d6 k t.1->k.mu t.1<n->hB k.N (k.cK n t).1.g (k.cK n t).1.nx=false
 |0,t,H,_,_,_,e=>absurd e I
 |n+1,t,H,h,w,f,e=>by
  obtain⟨u,l1,w1,_,_,g⟩:=LI.mR (k.O+1) h w;have f5:=h.mi.ci.f5;have i:=g I;obtain⟨c1,c2,v⟩:=CI.lb h.mi.ci f (k.O+1)
  obtain⟨j,a,x,l⟩:=CI.kv c1 c2;obtain⟨b,l2,c,_,_⟩:=l1.kv w1;unfold bP.cK;cases hk:(k.kv (k.lb (k.O+1) t.1)).1
  ·rw[ao V];obtain⟨g1,g2⟩:=AM k _ hk;obtain⟨A,m,B,C,o⟩:=CI.wa (s:=((k.kv (k.lb (k.O+1) t.1)).2,t.2)) j a;cases hw:(k.wa ((k.kv (k.lb (k.O+1) t.1)).2,t.2)).2
   ·rw[ao V,p_ k _ hw];dsimp only;rw[g1,g2];exact i
   ·rw[aq rfl];obtain⟨p,q,w3,_,_⟩:=cP.wa (k:=k) (z:=z) (D:=D) ((k.kv (k.lb (k.O+1) t.1)).2,t.2) b l2 c;have d:=o hw;dsimp only at d;exact oa n _ p q w3 m I
  ·rw[aq rfl];have d:=l hk;exact oa n ((k.kv (k.lb (k.O+1) t.1)).2,t.2) b l2 c a (by dsimp only;omega)
end
section
variable {k:bP}{z:C0}{s:bU}{H D:List Int}
theorem LI.fields (h:LI k z s H D)(he:hB k.N s.g s.nx=false)
 (hz:∀v,(v∈k.T\/v∈z.G)->∀i,0<=i->i<pf (k.l0 z v)->cI (k.l0 z (v+1+i))=true->bQ (k.l0 z (v+1+i))∈k.T\/bQ (k.l0 z (v+1+i))∈z.G)
 (hc:∀v∈z.G,v∉D->∀i,0<=i->i<pf (k.l0 z v)->k.cq (k.l0 z (v+1+i))=false)
 {b:Int}(l:b∈z.G++H){i:Int}(g:0<=i)(f:i<pf (k.ld s b))(ha:cI (k.ld s (b+1+i))=true):
 bQ (k.ld s (b+1+i))∈z.G++H\/(pk (k.ld s b)=3/\i=0/\b∈s.wk)\/(pk (k.ld s b)=4/\b∈s.ep):=by
 obtain⟨a,o⟩:=h.mi.from l;have j:=h.mi.hd a b o;rw[j] at f;have hm:=h.mi.fd a b o i g f;have t:a∈k.T\/a∈z.G:=by
  rcases o with⟨e,d⟩|⟨d,_⟩
  ·exact an (by rw[e];exact d)
  ·exact ap d
 have u:s.nx=(k.N:Int)+s.g:=by
  rcases h.bo with d|d
  ·have w:=h.mi.hu d;unfold hB at he;have:=of_decide_eq_false he;omega
  ·exact d
 have key:k.cq (k.ld s (b+1+i))=false->bQ (k.ld s (b+1+i))∈z.G++H:=fun hy=>by
  rcases hm with e|⟨g1,g2,g3⟩
  ·rw[e] at ha hy⊢;rcases hz a t i g f ha with d|d
   ·unfold bP.cq at hy;rw[ha] at hy;simp at hy;exact absurd d hy
   ·exact aL _ d
  ·have x:bQ (k.l0 z (a+1+i))∈k.T:=by unfold bP.cq at g1;rw[aQ] at g1;simpa using g1.2
   have m:=h.mi.fh _ x g2;have B:=h.mi.hu m;have hN:=h.mi.ci.hN';have hO:=h.mi.ci.hO;have hg:=h.mi.ci.hg;obtain⟨n,p⟩:∃n:Nat,s.f (bQ (k.l0 z (a+1+i)))=n:=⟨(s.f (bQ (k.l0 z (a+1+i)))).toNat,I⟩
   rw[g3,p,(kR n I).2,<-p];exact aS _ m
 rcases List.mem_append.1 l with d|d
 ·by_cases hD:b∈D
  ·rcases h.ld b hD i g (by rw[j];exact f) with c|c|c
   ·exact ap (key c)
   ·exact an (ap c)
   ·exact an (an c)
  ·have ea:a=b:=by
    rcases o with⟨e,_⟩|⟨o1,q,A⟩
    ·exact e
    ·have w:=h.mi.hlo b (by rw[<-q];exact h.mi.fh a o1 (by rw[q];exact A))
     have C:=h.mi.i7 b d;omega
   subst ea;have hy:=hc a d hD i g f;refine ap (key ?_)
   rcases hm with e|⟨g1,_⟩
   ·rw[e];exact hy
   ·rw[hy] at g1;cases g1
 ·rcases h.lo b d (by rw[u];exact(h.mi.hu d).2) i g (by rw[j];exact f) with c|c|c
  ·exact ap (key c)
  ·exact an (ap c)
  ·exact an (an c)
end
def it (k:bP)(G:List Int)(x:Int):Prop:=cI x=true->k.cq x=false/\bQ x∈G
structure fN (k:bP)(G:List Int)(P:Int->Int->Prop)(s:bU):Prop where
 full:dS k.N k.y s.g s.ws k.T G
 len:s.ws.length=k.N+k.O
 hy:k.y<=k.N
 hg:s.g<=k.O
 fd:∀b∈G,∀i,0<=i->i<pf (k.ld s b)->it k G (k.ld s (b+1+i))\/P b i
 fy:∀b∈G,∀i,0<=i->i<pf (k.ld s b)->k.cq (k.ld s (b+1+i))=false->it k G (k.ld s (b+1+i))
section
variable {k:bP}{G:List Int}{P:Int->Int->Prop}{s:bU}
theorem fN.st (h:fN k G P s){b i v:Int}(f:b∈G)(g:0<=i)(l:i<pf (k.ld s b))(m:it k G v):fN k G (fun c j=>P c j/\¬(c=b/\j=i)) (k.st s (b+1+i) v)/\∀c∈G,k.ld (k.st s (b+1+i) v) c=k.ld s c:=by
 have hi:=i6 h.full (an f) g l;have x:=gV (O:=k.O) hi h.hy h.hg;obtain⟨t,hk⟩:=h.full.set (z:=v) h.len h.hy h.hg (an f) g l;have e:k.st s (b+1+i) v={s with ws:=s.ws.set (b+1+i).toNat v}:=by unfold bP.st;rw[aq hi]
 have d:∀c∈G,k.ld (k.st s (b+1+i) v) c=k.ld s c:=fun c hc=>by rw[e];exact hk c (an hc)
 have n:∀c∈G,∀j,0<=j->j<pf (k.ld s c)->k.ld (k.st s (b+1+i) v) (c+1+j)=if(b+1+i).toNat=(c+1+j).toNat then v else k.ld s (c+1+j):=fun c hc j j0 a=>by
  have o:=i6 h.full (an hc) j0 a;rw[e];show ld k.N k.y s.g (s.ws.set (b+1+i).toNat v) (c+1+j)=if _ then v else ld k.N k.y s.g s.ws (c+1+j)
  have hl:=h.len;rw[dh o,dh o,i1 _ _ _ _ I]
 refine⟨⟨by rw[e];exact t,by rw[e];show(List.set _ _ _).length=_;rw[aM];exact h.len,h.hy,by rw[e];exact h.hg,fun c hc j j0 a=>?_,fun c hc j j0 a=>?_⟩,d⟩
 ·rw[d c hc] at a;rw[n c hc j j0 a];by_cases q:(b+1+i).toNat=(c+1+j).toNat
  ·rw[aq q];exact ap m
  ·rw[ao q];exact(h.fd c hc j j0 a).imp id (fun p=>⟨p,fun⟨u,w⟩=>q (by rw[u,w])⟩)
 ·rw[d c hc] at a;rw[n c hc j j0 a];by_cases q:(b+1+i).toNat=(c+1+j).toNat
  ·rw[aq q];exact fun _=>m
  ·rw[ao q];exact h.fy c hc j j0 a
theorem fN.imp {Q:Int->Int->Prop}(h:fN k G P s)(hp:∀b i,P b i->Q b i):fN k G Q s:=⟨h.full,h.len,h.hy,h.hg,fun b a i c d=>(h.fd b a i c d).imp id (hp b i),h.fy⟩
theorem it.gone:it k G 3:=fun h=>absurd h Z
theorem fN.told (h:fN k G P s)(hN:k.N<=256)(hO:k.O<=1024){n:Int}(a:n∈G):it k G (ew 3 n):=fun _=>by
 have e:=h.full.io n a;have hg:=h.hg;have hy:=h.hy;obtain⟨m,rfl⟩:∃m:Nat,n=m:=⟨n.toNat,I⟩
 obtain⟨c,b⟩:=kR m I;refine⟨?_,by rw[b];exact a⟩
 unfold bP.cq;rw[c,b];simp only [Bool.true_and];cases hc:k.T.contains (m:Int)
 ·rfl
 ·have d:(m:Int)∈k.T:=by simpa using hc
  have:=h.full.f4 _ d;omega
theorem fN.mw (hN:k.N<=256)(hO:k.O<=1024):∀(l:List Int){P:Int->Int->Prop}{s:bU},fN k G P s->(∀a∈l,a∈G/\pk (k.ld s a)=3)->(∀a∈k.T,s.f a≠-1->s.f a∈G)->fN k G (fun b i=>P b i/\¬(b∈l/\i=0)) (l.foldl k.ex s)/\(∀c∈G,k.ld (l.foldl k.ex s) c=k.ld s c)/\(l.foldl k.ex s).g=s.g/\(l.foldl k.ex s).rs=s.rs/\(l.foldl k.ex s).ep=s.ep
 |[],P,s,h,_,_=>⟨h.imp (fun b i p=>⟨p,fun⟨d,_⟩=>by cases d⟩),fun _ _=>rfl,rfl,rfl,rfl⟩
 |a::l,P,s,h,hl,g=>by
  rw[aI];obtain⟨ha,o⟩:=hl a V;have j:=fV (h.full.dN.mem a ha).2.2 (an (ap o))
  have j:pf (k.ld s a)=2:=j;have m:a+1+0=a+1:=I;have fy:=h.fy a ha 0 I I;rw[m] at fy;obtain⟨v,ev,q⟩:∃v,k.ex s a=k.st s (a+1) v/\it k G v:=by
   unfold bP.ex;cases hls:k.ls s (k.ld s (a+1))
   ·refine⟨k.nw s (k.ld s (a+1)),by rw[ao V],?_⟩
    cases hy:k.cq (k.ld s (a+1))
    ·have e:k.nw s (k.ld s (a+1))=k.ld s (a+1):=by unfold bP.nw;rw[hy];rfl
     rw[e];exact fy hy
    ·unfold bP.ls at hls;rw[hy,Bool.true_and] at hls;have e:k.nw s (k.ld s (a+1))=ew 3 (s.f (bQ (k.ld s (a+1)))):=by unfold bP.nw;rw[hy,hls];rfl
     rw[e];unfold bP.cq at hy;rw[aQ] at hy;exact h.told hN hO (g _ (by simpa using hy.2) (by simpa using hls))
   ·exact⟨3,by rw[aq rfl],it.gone⟩
  obtain⟨m1,f⟩:=h.st ha (i:=0) I I q;rw[m] at m1 f;rw[ev];obtain⟨t,j2,b7,b9,cC⟩:=fN.mw hN hO l m1 (fun c hc=>by
   obtain⟨n1,u⟩:=hl c (ay _ hc)
   exact⟨n1,by rw[f c n1];exact u⟩) g
  refine⟨t.imp (fun b i ⟨⟨w,x⟩,A⟩=>⟨w,fun⟨B,n⟩=>?_⟩),fun c hc=>(j2 c hc).trans (f c hc),b7,b9,cC⟩
  rcases List.mem_cons.1 B with d|d
  ·exact x ⟨d,n⟩
  ·exact A ⟨d,n⟩
end
section
variable {k:bP}{G:List Int}
theorem fN.be:∀(l:List Int){P:Int->Int->Prop}{s:bU},fN k G P s->(∀a∈l,a∈G/\pk (k.ld s a)=4)->fN k G (fun b i=>P b i/\¬(b∈l/\(i=0\/i=1))) (l.foldl k.gg s)/\(∀c∈G,k.ld (l.foldl k.gg s) c=k.ld s c)/\(l.foldl k.gg s).g=s.g/\(l.foldl k.gg s).rs=s.rs
 |[],P,s,h,_=>⟨h.imp (fun b i p=>⟨p,fun⟨d,_⟩=>by cases d⟩),fun _ _=>rfl,rfl,rfl⟩
 |a::l,P,s,h,hl=>by
  rw[aI];obtain⟨ha,j⟩:=hl a V;have B:pf (k.ld s a)=2:=fV (h.full.dN.mem a ha).2.2 (an (an j))
  have m:a+1+0=a+1:=I;have n:a+1+1=a+2:=I;obtain⟨m1,f⟩:=h.st ha (i:=0) (v:=3) I I it.gone;rw[m] at m1 f;obtain⟨n1,g⟩:=m1.st ha (i:=1) (v:=3) I (by rw[f a ha];omega) it.gone;rw[n] at n1 g;obtain⟨o,j2,b7,b9⟩:=fN.be l n1 (fun c hc=>by
   obtain⟨q1,q⟩:=hl c (ay _ hc)
   exact⟨q1,by rw[g c q1,f c q1];exact q⟩)
  refine⟨o.imp (fun b i ⟨⟨⟨t,u⟩,w⟩,x⟩=>⟨t,fun⟨A,e⟩=>?_⟩),fun c hc=>((j2 c hc).trans (g c hc)).trans (f c hc),b7,b9⟩
  rcases List.mem_cons.1 A with d|d
  ·rcases e with e|e
   ·exact u ⟨d,e⟩
   ·exact w ⟨d,e⟩
  ·exact x ⟨d,e⟩
theorem qa {N y g:Nat}{ws:List Int}{a:Int}(ha:(N:Int)<=a)(hy:y<=N):ld N 0 g ws a=ld N y g ws a:=by
 have e:cO N 0 g a=cO N y g a:=by unfold cO hB;have b:decide ((0:Int)<=a/\a<0+((0:Nat):Int))=false:=aZ I;have c:decide ((0:Int)<=a/\a<0+(y:Int))=false:=aZ I;rw[b,c]
 unfold ld;rw[e]
theorem fN.done {s:bU}{rs:List Int}(h:fN k G (fun _ _=>False) s)(f:∀x∈rs,it k G x):gm k.N 0 s.g s.ws [] G rs:=by
 have io:=h.full.io;have eq:∀a,(k.N:Int)<=a->ld k.N 0 s.g s.ws a=ld k.N k.y s.g s.ws a:=fun a ha=>qa ha h.hy;refine⟨⟨by simpa using dK.done (L:=ld k.N 0 s.g s.ws) (hi:=(0:Int)),h.full.dN.heads (fun x c=>eq x (io x c).1)⟩,fun x c ha=>an (f x c ha).2,fun v d i g e ha=>?_⟩
 rcases d with b|b
 ·cases b
 ·have d:=io v b;rw[eq v d.1] at e;rw[eq (v+1+i) I] at ha⊢;exact an (((h.fd v b i g e).resolve_right id) ha).2
end
theorem un (ws:List Int)(t f n i:Nat)(b:t+n<=ws.length)(d:f+n<=ws.length):
 (splice ws t ((ws.drop f).take n)).getD i 0=if t<=i/\i<t+n then ws.getD (f+i-t) 0 else ws.getD i 0:=by
 have hl:((ws.drop f).take n).length=n:=by simp;omega
 unfold splice;rw[hl];simp only [List.getD_eq_getElem?_getD];by_cases c:i<t
 ·rw[ba (by simp;omega),ao I,List.getElem?_take_of_lt c]
 ·have a:(ws.take t).length=t:=by simp;omega
  rw[a9 I,a];by_cases c2:i<t+n
  ·rw[aq I,ba I,List.getElem?_take_of_lt I,List.getElem?_drop,show f+(i-t)=f+i-t by omega]
  ·rw[ao I,a9 I,hl,List.getElem?_drop,show t+n+(i-t-n)=i by omega]
theorem AN (k:bL)(hl:k.s.ws.length=k.a.N+k.a.O)(hy:k.s.y<=k.a.N)(hg:k.s.g<=k.a.O)(t f n:Nat)(t0:k.a.N<=t)(a:t+n<=k.a.N+k.s.g)(b:k.a.N<=f)(d:f+n<=k.a.N+k.s.g)(x:Int):
 (k.i5 t f n).ld x=if(t:Int)<=x/\x<(t:Int)+n then k.ld (f+(x-t)) else k.ld x:=by
 have e:(k.i5 t f n).ld x=ld k.a.N k.s.y k.s.g (splice k.s.ws t ((k.s.ws.drop f).take n)) x:=rfl;rw[e];unfold bL.ld;by_cases c:(t:Int)<=x/\x<(t:Int)+n
 ·rw[aq c,dh (eK I I),dh (eK I I),un _ _ _ _ _ I I,aq I]
  congr 1
  omega
 ·rw[ao c];cases hb:cO k.a.N k.s.y k.s.g x
  ·unfold ld;rw[hb];rfl
  ·have g:=(ih _ _ _ _).1 hb;rw[dh hb,dh hb,un _ _ _ _ _ I I,ao I]
structure iV (k k':bL):Prop where
 a:k'.a=k.a
 y:k'.s.y=k.s.y
 rs:k'.s.rs=k.s.rs
 len:k'.s.ws.length=k.s.ws.length
theorem iV.refl (k:bL):iV k k:=⟨rfl,rfl,rfl,rfl⟩
theorem iV.trans {k a b:bL}(h:iV k a)(j:iV a b):iV k b:=⟨j.a.trans h.a,j.y.trans h.y,j.rs.trans h.rs,j.len.trans h.len⟩
structure g6 (k:bL)(al:Int->Bool)(f:Int->Int)(m:Int)(D l:List Int)(t:bL×Int):Prop where
 sm:iV k t.1
 g:t.1.s.g=k.s.g
 u0:0<=t.2
 pos:Pos (fun a=>pf (k.ld a)) al f (k.a.N+t.2) l m
 tl:∃b:Int,dK k.ld (k.a.N+k.s.g) b l/\k.a.N+t.2<=b/\∀x:Int,b<=x->x<k.a.N+k.s.g->t.1.ld x=k.ld x
 cq:∀x:Int,0<=x->x<k.s.y->t.1.ld x=k.ld x
 rel:∀c∈D,al c=true->f c+pf (k.ld c)<k.a.N+t.2/\∀i:Int,0<=i->i<=pf (k.ld c)->t.1.ld (f c+i)=k.ld (c+i)
section
variable {k:bL}{al:Int->Bool}{s:bX}{m:Int}
theorem g6.step (hl:k.s.ws.length=k.a.N+k.a.O)(hy:k.s.y<=k.a.N)(hg:k.s.g<=k.a.O){D l:List Int}{a:Int}{t:bL×Int}(h:g6 k al s.f m D (a::l) t)(hs:al a=!(s.f a==-1)):g6 k al s.f m (D++[a]) l (ey (fun _ a=>s.f a) (bL.gR s) t a):=by
 obtain⟨b,⟨e,J,K,ht⟩,L,j⟩:=h.tl;have N:=cU (k.ld b)
 have u0:=h.u0;cases c:al a
 ·rw[c] at hs;have c2:s.f a=-1:=by simpa using hs
  have o:ey (fun _ a=>s.f a) (bL.gR s) t a=t:=by unfold ey;rw[aq c2]
  rw[o];refine⟨h.sm,h.g,h.u0,(h.pos.2 c).2,⟨b+(1+pf (k.ld b)),ht,I,fun x f d=>j x I d⟩,h.cq,fun p hd g=>?_⟩
  rcases List.mem_append.1 hd with hd|hd
  ·exact h.rel p hd g
  ·rw[List.mem_singleton.1 hd,c] at g;cases g
 ·rw[c] at hs;have c2:s.f a≠-1:=by simpa using hs.symm
  obtain⟨O,q⟩:=h.pos.1 c;have o:ey (fun _ a=>s.f a) (bL.gR s) t a=bL.gR s t a:=by unfold ey;rw[ao c2]
  rw[o];have ea:t.1.ld a=k.ld a:=j a I (by rw[e];omega)
  have C:bL.gR s t a=(t.1.i5 (s.f a).toNat a.toNat (1+(pf (k.ld a)).toNat),t.2+(1+pf (k.ld a))):=by unfold bL.gR;rw[ea]
  have hz:pf (k.ld a)=pf (k.ld b):=by rw[e]
  have hN:=h.sm.a;have E:=h.sm.y;have u:=h.g;have v:=h.sm.len;have M:=AN t.1 (by rw[v,hN];exact hl) (by rw[E,hN];exact hy) (by rw[u,hN];exact hg) (s.f a).toNat a.toNat (1+(pf (k.ld a)).toNat) (by rw[hN];omega) (by rw[hN,u];omega) (by rw[hN];omega) (by rw[hN,u];omega)
  have w:iV t.1 (t.1.i5 (s.f a).toNat a.toNat (1+(pf (k.ld a)).toNat))/\(t.1.i5 (s.f a).toNat a.toNat (1+(pf (k.ld a)).toNat)).s.g=t.1.s.g:=by
   refine⟨⟨rfl,rfl,rfl,?_⟩,rfl⟩
   show(splice t.1.s.ws _ _).length=_;refine px _ _ _ ?_;rw[v,hl,a5,List.length_drop,v,hl];omega
  rw[C];generalize t.1.i5 (s.f a).toNat a.toNat (1+(pf (k.ld a)).toNat)=F at M w⊢;have n:∀x,F.ld x=if s.f a<=x/\x<s.f a+(1+pf (k.ld a)) then t.1.ld (a+(x-s.f a)) else t.1.ld x:=fun x=>by rw[M x];have f:((s.f a).toNat:Int)=s.f a:=I;have d:(a.toNat:Int)=a:=I;have G:((1+(pf (k.ld a)).toNat:Nat):Int)=1+pf (k.ld a):=I;rw[f,d,G]
  have q:Pos (fun a=>pf (k.ld a)) al s.f (k.a.N+t.2+(1+pf (k.ld a))) l m:=q;refine⟨h.sm.trans w.1,w.2.trans h.g,by dsimp only;omega,by dsimp only;rw[<-Int.add_assoc];exact q,⟨b+(1+pf (k.ld b)),ht,by dsimp only;omega,fun x f d=>?_⟩,fun x f d=>?_,fun p hd g=>?_⟩
  ·dsimp only;rw[n,ao I];exact j x I d
  ·dsimp only;rw[n,ao I];exact h.cq x f d
  ·dsimp only;rcases List.mem_append.1 hd with hd|hd
   ·obtain⟨r1,H⟩:=h.rel p hd g;refine⟨I,fun i A B=>?_⟩
    rw[n,ao I];exact H i A B
   ·rw[List.mem_singleton.1 hd];refine⟨I,fun i A B=>?_⟩
    rw[n,aq I,show a+(s.f a+i-s.f a)=a+i from by omega];exact j (a+i) I I
theorem g6.AO (hl:k.s.ws.length=k.a.N+k.a.O)(hy:k.s.y<=k.a.N)(hg:k.s.g<=k.a.O)(hN:k.a.N<=256)(hO:k.a.O<=1024)(hs:∀a∈k.G,al a=!(s.f a==-1))(hm:m<=k.a.N+k.a.O):hK k s (fun j t=>g6 k al s.f m (k.G.take j) (k.G.drop j) t):=by
 have hz:∀a,0<=(fun a=>pf (k.ld a)) a:=fun a=>(cU _).1;refine⟨fun j t c h i=>?_,fun j t c h=>?_,fun t h=>?_⟩
 ·have e:k.G.drop j=k.G.getD j 0::k.G.drop (j+1):=by rw[List.drop_eq_getElem_cons c,aj,am c];rfl
  have d:k.G.getD j 0∈k.G:=by rw[aj,am c];exact aK c
  generalize k.G.getD j 0=a at e i d⊢;have h:g6 k al s.f m (k.G.take j) (k.G.drop j) t:=h;rw[e] at h;have ha:al a=true:=by rw[hs a d,a6 i];rfl
  obtain⟨b,⟨l,u,v,ht⟩,w,n⟩:=h.tl;have x:=cU (k.ld b)
  have u0:=h.u0;obtain⟨o,p⟩:=h.pos.1 ha;have f:=p.le hz;have f:k.a.N+t.2+(1+pf (k.ld a))<=m:=f;have ea:t.1.ld a=k.ld a:=n a I (by rw[l];omega)
  rw[ea,o];rw[l] at f⊢;omega
 ·have e:k.G.drop j=k.G.getD j 0::k.G.drop (j+1):=by rw[List.drop_eq_getElem_cons c,aj,am c];rfl
  have q:k.G.take (j+1)=k.G.take j++[k.G.getD j 0]:=eY k.G j c 0;have d:k.G.getD j 0∈k.G:=by rw[aj,am c];exact aK c
  have h:g6 k al s.f m (k.G.take j) (k.G.drop j) t:=h;rw[e] at h;have g:=h.step hl hy hg (hs _ d)
  rw[<-q] at g;exact g
 ·have h:g6 k al s.f m (k.G.take k.G.length) (k.G.drop k.G.length) t:=h;have u0:=h.u0;have g:=h.pos.le hz;omega
theorem g6.all (hl:k.s.ws.length=k.a.N+k.a.O)(hy:k.s.y<=k.a.N)(hg:k.s.g<=k.a.O)(hs:∀a∈k.G,al a=!(s.f a==-1)):∀(l D:List Int)(t:bL×Int),(∀a∈l,a∈k.G)->g6 k al s.f m D l t->g6 k al s.f m (D++l) [] (fL (fun _ a=>s.f a) (bL.gR s) t l)
 |[],D,t,_,h=>by rw[List.append_nil];exact h
 |a::l,D,t,c,h=>by
  have e:=h.step hl hy hg (hs a (c a V))
  have d:=g6.all hl hy hg hs l (D++[a]) _ (fun b f=>c b (ay _ f)) e;rw[aU] at d;exact d
structure jG (k:bL)(al:Int->Bool)(f:Int->Int)(m:Int)(D l:List Int)(t:bL):Prop where
 sm:iV k t
 g:t.s.g<=k.a.O
 pos:Pos (fun a=>pf (k.ld a)) al f (k.a.N+t.s.g) l m
 cq:∀x:Int,0<=x->x<k.s.y->t.ld x=k.ld x
 rel:∀c∈D,al c=true->(k.a.N:Int)<=f c/\f c+pf (k.ld c)<k.a.N+t.s.g/\∀i:Int,0<=i->i<=pf (k.ld c)->t.ld (f c+i)=k.ld (c+i)
theorem jG.step (hl:k.s.ws.length=k.a.N+k.a.O)(hy:k.s.y<=k.a.N)(hm:m<=k.a.N+k.a.O){D l:List Int}{a:Int}{t:bL}(h:jG k al s.f m D (a::l) t)(hs:al a=!(s.f a==-1))(h0:0<=a)(L:a+(1+pf (k.ld a))<=k.s.y)(v:pc (k.ld a)=0):jG k al s.f m (D++[a]) l (ey (fun(_:bL) a=>s.f a) (fun k a=>k.cop a) t a):=by
 have hz:∀a,0<=(fun a=>pf (k.ld a)) a:=fun a=>(cU _).1;have N:=cU (k.ld a)
 cases c:al a
 ·rw[c] at hs;have c2:s.f a=-1:=by simpa using hs
  have g:ey (fun(_:bL) a=>s.f a) (fun k a=>k.cop a) t a=t:=by unfold ey;rw[aq c2]
  rw[g];refine⟨h.sm,h.g,(h.pos.2 c).2,h.cq,fun j hd b=>?_⟩
  rcases List.mem_append.1 hd with hd|hd
  ·exact h.rel j hd b
  ·rw[List.mem_singleton.1 hd,c] at b;cases b
 ·rw[c] at hs;have c2:s.f a≠-1:=by simpa using hs.symm
  obtain⟨O,e⟩:=h.pos.1 c;have e:Pos (fun a=>pf (k.ld a)) al s.f (k.a.N+t.s.g+(1+pf (k.ld a))) l m:=e;have P:=e.le hz;have g:ey (fun(_:bL) a=>s.f a) (fun k a=>k.cop a) t a=t.cop a:=by unfold ey;rw[ao c2]
  rw[g];have ea:t.ld a=k.ld a:=h.cq a h0 I;have hN:=h.sm.a;have w:=h.sm.y;have n:=h.sm.len;have A:=h.g;have d:ld t.a.N t.s.y t.s.g t.s.ws a=k.ld a:=ea;have B:e2 t.a.N t.s.y t.s.g a=t.s.y:=by
   unfold e2;have o:hB (0:Int) t.s.y a=true:=by unfold hB;exact a8 ⟨h0,I⟩
   first|rw[aq o]|(simp[o])
  have hc:gw t.a.N t.a.O t.s.y t.s.g t.s.ws a=true:=by unfold gw;rw[d,B];exact a8 ⟨v,I,by rw[hN];omega⟩
  have M:=bP.py (k:=⟨t.a.N,t.a.O,t.s.y,[]⟩) (s:=⟨t.s.g,t.s.ws,fun _=>-1,0,[],[],[]⟩) (by show t.s.ws.length=t.a.N+t.a.O;rw[n,hN];exact hl) (by show t.s.y<=t.a.N;rw[w,hN];exact hy) (by show t.s.g<=t.a.O;rw[hN];exact A) (a:=a) h0 (by show a+1+pf (ld t.a.N t.s.y t.s.g t.s.ws a)<=t.s.y;rw[d];omega) hc;have f:∀x,(t.cop a).ld x=if(k.a.N:Int)+t.s.g<=x/\x<(k.a.N:Int)+t.s.g+(1+pf (k.ld a)) then t.ld (a+(x-(k.a.N+t.s.g))) else t.ld x:=fun x=>by have:=M x;rw[<-hN,<-d];exact this
  have C:(t.cop a).s.g=t.s.g+(1+(pf (k.ld a)).toNat):=by show h9 _ _ _ _ _ _=_;unfold h9;rw[aq hc,d]
  have E:(t.cop a).s.ws.length=t.s.ws.length:=by show(h_ _ _ _ _ _ _).length=_;unfold h_;rw[aq hc,d];refine px _ _ _ ?_;rw[n,hl,hN,a5,List.length_drop,n,hl];omega
  have p:iV t (t.cop a):=⟨rfl,rfl,rfl,E⟩
  generalize t.cop a=F at f C p⊢;have G:(F.s.g:Int)=t.s.g+(1+pf (k.ld a)):=I;refine⟨h.sm.trans p,I,by rw[G,<-Int.add_assoc];exact e,fun x H J=>?_,fun j hd b=>?_⟩
  ·rw[f,ao I];exact h.cq x H J
  ·rcases List.mem_append.1 hd with hd|hd
   ·obtain⟨r0,r1,K⟩:=h.rel j hd b;refine⟨r0,I,fun i q u=>?_⟩
    rw[f,ao I];exact K i q u
   ·rw[List.mem_singleton.1 hd];refine⟨I,I,fun i q u=>?_⟩
    rw[f,aq I,show a+(s.f a+i-(k.a.N+t.s.g))=a+i from by omega];exact h.cq (a+i) I I
theorem jG.all (hl:k.s.ws.length=k.a.N+k.a.O)(hy:k.s.y<=k.a.N)(hm:m<=k.a.N+k.a.O):∀(l D:List Int)(t:bL),(∀a∈l,al a=!(s.f a==-1)/\0<=a/\a+(1+pf (k.ld a))<=k.s.y/\pc (k.ld a)=0)->jG k al s.f m D l t->jG k al s.f m (D++l) [] (t.mL s l)
 |[],D,t,_,h=>by rw[List.append_nil];exact h
 |a::l,D,t,c,h=>by obtain⟨g1,g2,g3,e⟩:=c a V;have f:=h.step hl hy hm g1 g2 g3 e;have d:=jG.all hl hy hm l (D++[a]) _ (fun b g=>c b (ay _ g)) f;rw[aU] at d;exact d
end
structure f8 (k k':bL):Prop where
 a:k'.a=k.a
 y:k'.s.y=k.s.y
 g:k'.s.g=k.s.g
 rs:k'.s.rs=k.s.rs
 Y:k'.Y=k.Y
 G:k'.G=k.G
 len:k'.s.ws.length=k.s.ws.length
theorem f8.refl (k:bL):f8 k k:=⟨rfl,rfl,rfl,rfl,rfl,rfl,rfl⟩
theorem f8.trans {k a b:bL}(h:f8 k a)(j:f8 a b):f8 k b:=⟨j.a.trans h.a,j.y.trans h.y,j.g.trans h.g,j.rs.trans h.rs,j.Y.trans h.Y,j.G.trans h.G,j.len.trans h.len⟩
structure iu (k:bL):Prop where
 l:k.s.ws.length=k.a.N+k.a.O
 y:k.s.y<=k.a.N
 g:k.s.g<=k.a.O
theorem f8.bd {k a:bL}(h:f8 k a)(b:iu k):iu a:=⟨by rw[h.len,h.a];exact b.l,by rw[h.y,h.a];exact b.y,by rw[h.g,h.a];exact b.g⟩
theorem f8.T {k a:bL}(h:f8 k a):a.T=k.T:=by unfold bL.T;rw[h.Y,h.G]
section
variable {k:bL}{s:bX}
theorem mS (k:bL)(p x:Int):f8 k (k.f6 p x):=⟨rfl,rfl,rfl,rfl,rfl,rfl,by
 show(if _ then _ else _:List Int).length=_;split
 ·exact aM
 ·rfl⟩
theorem qb (b:iu k){p:Int}(hp:cO k.a.N k.s.y k.s.g p=true)(x q:Int):(k.f6 p x).ld q=if q=p then x else k.ld q:=by
 have a:=gV hp b.y b.g;have e:(k.f6 p x).ld q=ld k.a.N k.s.y k.s.g (k.s.ws.set p.toNat x) q:=by unfold bL.f6;rw[aq hp];rfl
 rw[e];unfold bL.ld;by_cases c:q=p
 ·rw[aq c,c,dh hp,aj,List.getElem?_set_self (by rw[b.l];omega)];rfl
 ·rw[ao c];cases hq:cO k.a.N k.s.y k.s.g q
  ·unfold ld;rw[hq];rfl
  ·have d:=gV hq b.y b.g;rw[dh hq,dh hq,aj,List.getElem?_set_ne I,aj]
def bL.fO (k:bL)(s:bX)(a i:Int):Int:=if((pk (k.ld a)=3\/pk (k.ld a)=4)/\k.co s (k.ld (a+1))=true)/\(i=0\/(pk (k.ld a)=4/\i=1)) then 3 else k.ld (a+1+i)
structure jc (k:bL)(a:Int):Prop where
 c:pc (k.ld a)=0
 i:∀i,0<=i->i<=pf (k.ld a)->cO k.a.N k.s.y k.s.g (a+i)=true
theorem f8.uo {k b:bL}(h:f8 k b){a:Int}(e:b.ld a=k.ld a)(w:jc k a):jc b a:=⟨by rw[e];exact w.c,fun i d c=>by rw[h.a,h.y,h.g];rw[e] at c;exact w.i i d c⟩
theorem AP (b:iu k){a:Int}(w:jc k a):f8 k (k.brk s a)/\(∀q,(q<=a\/a+pf (k.ld a)<q)->(k.brk s a).ld q=k.ld q)/\∀i,0<=i->i<pf (k.ld a)->(k.brk s a).ld (a+1+i)=k.fO s a i:=by
 unfold bL.brk;by_cases c:(pk (k.ld a)=3\/pk (k.ld a)=4)/\k.co s (k.ld (a+1))=true
 ·rw[aq c];have n:=fV w.c I;have f:=w.i 1 I I;have l:=w.i 2 I I;have d:=qb b f 3;have b1:=(mS k (a+1) 3).bd b;by_cases e:pk (k.ld a)=4
  ·rw[aq e];have g:=qb b1 (p:=a+2) l 3;refine⟨(mS k (a+1) 3).trans (mS _ _ _),fun q hq=>?_,fun i j m=>?_⟩
   ·rw[g,ao I,d,ao I]
   ·unfold bL.fO;rw[g,d];by_cases z:i=0
    ·rw[ao I,aq I,aq ⟨c,ap z⟩]
    ·by_cases o:i=1
     ·rw[aq I,aq ⟨c,an ⟨e,o⟩⟩]
     ·rw[ao I,ao I,ao (fun h=>by omega)]
  ·rw[ao e];refine⟨mS k (a+1) 3,fun q hq=>?_,fun i j m=>?_⟩
   ·rw[d,ao I]
   ·unfold bL.fO;rw[d];by_cases z:i=0
    ·rw[aq I,aq ⟨c,ap z⟩]
    ·rw[ao I,ao (fun h=>by omega)]
 ·rw[ao c];refine⟨f8.refl k,fun q hq=>rfl,fun i j f=>?_⟩
  unfold bL.fO;rw[ao (fun h=>c h.1)]
theorem uq (b:iu k){a:Int}(w:jc k a):∀n:Nat,(n:Int)<=pf (k.ld a)->f8 k (k.fx s a n)/\(∀q,(q<=a\/a+n<q)->(k.fx s a n).ld q=k.ld q)/\∀i:Int,0<=i->i<n->(k.fx s a n).ld (a+1+i)=k.nw s (k.ld (a+1+i))
 |0,_=>⟨f8.refl k,fun _ _=>rfl,fun i d g=>I⟩
 |n+1,m=>by
  obtain⟨c,f,j⟩:=uq b w n I;have b1:=c.bd b;have hi:cO (k.fx s a n).a.N (k.fx s a n).s.y (k.fx s a n).s.g (a+1+n)=true:=by rw[c.a,c.y,c.g,show a+1+(n:Int)=a+(1+n) from by omega];exact w.i _ I I
  have e:=qb b1 hi (k.nw s ((k.fx s a n).ld (a+1+n)))
  have l:k.fx s a (n+1)=(k.fx s a n).f6 (a+1+n) (k.nw s ((k.fx s a n).ld (a+1+n))):=rfl;rw[l];refine⟨c.trans (mS _ _ _),fun q hq=>?_,fun i d g=>?_⟩
  ·rw[e,ao I];exact f q I
  ·rw[e];by_cases z:i=n
   ·rw[aq I,f _ I,z]
   ·rw[ao I];exact j i d I
theorem AQ (b:iu k){a:Int}(w:jc k a):f8 k (k.ij s a)/\(∀q,(q<=a\/a+pf (k.ld a)<q)->(k.ij s a).ld q=k.ld q)/\∀i,0<=i->i<pf (k.ld a)->(k.ij s a).ld (a+1+i)=k.nw s (k.fO s a i):=by
 obtain⟨c,d,f⟩:=AP (s:=s) b w;have hp:=cU (k.ld a)
 have ea:=d a (ap (Int.le_refl _))
 obtain⟨g,j2,b7⟩:=uq (s:=s) (c.bd b) (c.uo ea w) (pf (k.ld a)).toNat (by rw[ea];omega)
 unfold bL.ij;refine⟨c.trans g,fun q hq=>?_,fun i e j=>?_⟩
 ·rw[j2 q I];exact d q hq
 ·rw[b7 i e I,f i e j];exact bL.jy s _ c.Y c.G
structure ka (k0:bL)(s:bX)(D:List Int)(t:bL):Prop where
 st:f8 k0 t
 hd:∀c∈k0.T,t.ld c=k0.ld c
 cL:∀c∈D,s.f c≠-1->∀i,0<=i->i<pf (k0.ld c)->t.ld (c+1+i)=k0.nw s (k0.fO s c i)
 td:∀c∈k0.T,c∉D->∀i,0<=i->i<pf (k0.ld c)->t.ld (c+1+i)=k0.ld (c+1+i)
theorem ka.step {k0:bL}(b:iu k0)(w:∀c∈k0.T,jc k0 c)(v:∀c∈k0.T,∀d∈k0.T,c<d->c+(1+pf (k0.ld c))<=d){D:List Int}{t:bL}(h:ka k0 s D t){a:Int}(ha:a∈k0.T)(hD:a∉D)(A:∀c∈D,c∈k0.T):ka k0 s (D++[a]) (ey (fun(_:bL) a=>s.f a) (fun k a=>k.ij s a) t a):=by
 by_cases c:s.f a=-1
 ·have o:ey (fun(_:bL) a=>s.f a) (fun k a=>k.ij s a) t a=t:=by unfold ey;rw[aq c]
  rw[o];refine⟨h.st,h.hd,fun d hd j=>?_,fun d hd n=>h.td d hd (fun m=>n (aL _ m))⟩
  rcases List.mem_append.1 hd with hd|hd
  ·exact h.cL d hd j
  ·rw[List.mem_singleton.1 hd] at j;exact absurd c j
 ·have o:ey (fun(_:bL) a=>s.f a) (fun k a=>k.ij s a) t a=t.ij s a:=by unfold ey;rw[ao c]
  rw[o];have ea:=h.hd a ha;obtain⟨B,p,x⟩:=AQ (s:=s) (h.st.bd b) (h.st.uo ea (w a ha))
  rw[ea] at p x;have E:=cU (k0.ld a)
  have u:∀d∈k0.T,d≠a->∀i,0<=i->i<=pf (k0.ld d)->(t.ij s a).ld (d+i)=t.ld (d+i):=fun d hd l i g f=>p _ (by
   rcases Int.lt_or_gt_of_ne l with q|q
   ·have:=v d hd a ha q;omega
   ·have:=v a ha d hd q;omega)
  have C:∀i,0<=i->i<pf (k0.ld a)->t.fO s a i=k0.fO s a i:=fun i g f=>by unfold bL.fO bL.co bL.jt;rw[ea,h.st.T];have q0:=h.td a ha hD 0 I I;rw[Int.add_zero] at q0;rw[q0,h.td a ha hD i g f]
  refine⟨h.st.trans B,fun d hd=>?_,fun d hd j i g f=>?_,fun d hd n i g f=>?_⟩
  ·by_cases e:d=a
   ·rw[e,p a (ap (Int.le_refl _))];exact ea
   ·have:=u d hd e 0 I (cU _).1;rw[Int.add_zero] at this
    rw[this];exact h.hd d hd
  ·rcases List.mem_append.1 hd with hd|hd
   ·have l:d≠a:=fun e=>hD (e▸hd)
    have:=u d (A d hd) l (1+i) I I;rw[<-Int.add_assoc] at this
    rw[this];exact h.cL d hd j i g f
   ·have e:=List.mem_singleton.1 hd;rw[e] at f⊢;rw[x i g f,C i g f];exact bL.jy s _ h.st.Y h.st.G
  ·have l:d≠a:=fun e=>n (by rw[e];simp)
   have:=u d hd l (1+i) I I;rw[<-Int.add_assoc] at this
   rw[this];exact h.td d hd (fun m=>n (aL _ m)) i g f
theorem ka.all {k0:bL}(b:iu k0)(w:∀c∈k0.T,jc k0 c)(g:∀c∈k0.T,∀i∈k0.T,c<i->c+(1+pf (k0.ld c))<=i):∀(l D:List Int)(t:bL),(D++l).Nodup->(∀c∈D++l,c∈k0.T)->ka k0 s D t->ka k0 s (D++l) (t.kP s l)
 |[],D,t,_,_,h=>by rw[List.append_nil];exact h
 |a::l,D,t,f,d,h=>by
  have e:D++a::l=(D++[a])++l:=V;have hD:a∉D:=fun m=>(List.nodup_append.1 f).2.2 a m a V rfl;have j:=h.step b w g (d a V) hD (fun c hc=>d c (aL _ hc))
  rw[e] at f d⊢;exact ka.all b w g l (D++[a]) _ f d j
theorem ur (k:bL)(s:bX):∀n,n<=k.s.rs.length->(k.eX s n).a=k.a/\(k.eX s n).Y=k.Y/\(k.eX s n).G=k.G/\(k.eX s n).s.y=k.s.y/\(k.eX s n).s.g=k.s.g/\(k.eX s n).s.ws=k.s.ws/\(k.eX s n).s.rs.length=k.s.rs.length/\∀i,i<k.s.rs.length->(k.eX s n).s.rs.getD i 0=if i<n then k.nw s (k.s.rs.getD i 0) else k.s.rs.getD i 0
 |0,_=>⟨rfl,rfl,rfl,rfl,rfl,rfl,rfl,fun i _=>by rw[ao I];rfl⟩
 |n+1,o=>by
  obtain⟨d,f,g,j,l,m,a,b⟩:=ur k s n I;refine⟨d,f,g,j,l,m,?_,fun i hi=>?_⟩
  ·show(List.set _ _ _).length=_;rw[aM];exact a
  ·show(List.set _ n _).getD i 0=_;by_cases e:i=n
   ·rw[e,aq I,aj,List.getElem?_set_self (by rw[a];omega),b n I,ao I];rfl
   ·rw[aj,List.getElem?_set_ne I,<-aj,b i hi];by_cases c:i<n
    ·rw[aq c,aq I]
    ·rw[ao c,ao I]
theorem oc (b:iu k)(B:k.s.rs.length=12)(C:k.T.Nodup)(w:∀c∈k.T,jc k c)(D:∀c∈k.T,∀j∈k.T,c<j->c+(1+pf (k.ld c))<=j):
 (k.es s).a=k.a/\(k.es s).Y=k.Y/\(k.es s).G=k.G/\(k.es s).s.y=k.s.y/\(k.es s).s.g=k.s.g/\iu (k.es s)/\(k.es s).s.rs.length=12/\(∀i,i<12->(k.es s).s.rs.getD i 0=k.nw s (k.s.rs.getD i 0))/\
 (∀c∈k.T,(k.es s).ld c=k.ld c)/\∀c∈k.T,s.f c≠-1->∀i,0<=i->i<pf (k.ld c)->(k.es s).ld (c+1+i)=k.nw s (k.fO s c i):=by
 obtain⟨d,l,m,f,g,o,u,v⟩:=ur k s 12 I;obtain⟨k0,A⟩:∃k0,k.eX s 12=k0:=⟨_,rfl⟩
 rw[A] at d l m f g o u v;have a:∀x,k0.ld x=k.ld x:=fun x=>by unfold bL.ld;rw[d,f,g,o]
 have e:k0.T=k.T:=by unfold bL.T;rw[l,m]
 have b0:iu k0:=⟨by rw[o,d];exact b.l,by rw[f,d];exact b.y,by rw[g,d];exact b.g⟩
 have w0:∀c∈k0.T,jc k0 c:=fun c hc=>by rw[e] at hc;exact⟨by rw[a];exact(w c hc).c,fun i p n=>by rw[a] at n;rw[d,f,g];exact(w c hc).i i p n⟩
 have key:=ka.all (s:=s) b0 w0 (fun c hc j hd q=>by rw[e] at hc hd;rw[a];exact D c hc j hd q) k0.T [] k0 (by rw[List.nil_append,e];exact C) (fun c hc=>hc) ⟨f8.refl _,fun _ _=>rfl,(fun c hc=>by cases hc),fun _ _ _ _ _ _=>rfl⟩
 rw[List.nil_append] at key;have E:k.es s=k0.kP s k0.T:=by unfold bL.es;rw[A,e]
 rw[E];generalize k0.kP s k0.T=t at key;refine⟨key.st.a.trans d,key.st.Y.trans l,key.st.G.trans m,key.st.y.trans f,key.st.g.trans g,key.st.bd b0,by rw[key.st.rs,u];exact B,fun i hi=>by rw[key.st.rs,v i I,aq hi],fun c hc=>?_,fun c hc F i p n=>?_⟩
 ·rw[key.hd c (by rw[e];exact hc),a]
 ·rw[key.cL c (by rw[e];exact hc) F i p (by rw[a];exact n)];have G:k0.fO s c i=k.fO s c i:=by unfold bL.fO bL.co bL.jt;rw[e,a,a,a]
  rw[G];exact bL.jy s _ l m
end
section
variable {k:bP}{z:C0}{s t:bU}{H K D:List Int}
theorem k3 (k:bP)(s:bU):∀n,(k.cg s n).wk=s.wk/\(k.cg s n).ep=s.ep/\(k.cg s n).nx=s.nx
 |0=>⟨rfl,rfl,rfl⟩
 |n+1=>by
  obtain⟨a,b,c⟩:=k3 k s n;obtain⟨_,d,j2,b7⟩:=kZ k (k.cg s n) ((k.cg s n).rs.getD n 0)
  exact⟨d.trans a,j2.trans b,b7.trans c⟩
theorem dJ.cg (w:dJ k z s H)(h:di k z s H)(n:Nat)(ht:di k z (k.cg s n) K)(p:c5 k s (k.cg s n))(a:∃b,K=H++b):dJ k z (k.cg s n) K:=
 w.go h ht p a (k3 k s n).1 (k3 k s n).2.1
theorem LI.od (c:Int)(M:List Int)(hz:dK (k.l0 z) ((k.N:Int)+z.g) k.N z.G):∀(l:List Int){s:bU}{H D:List Int},LI k z s H D->dJ k z s H->(∀a∈l,a∈z.G\/(k.N:Int)+z.g<=a)->∃i j,LI k z (l.foldl (k.ff ((k.N:Int)+z.g) c M) s) i j/\dJ k z (l.foldl (k.ff ((k.N:Int)+z.g) c M) s) i/\c5 k s (l.foldl (k.ff ((k.N:Int)+z.g) c M) s)/\(∃g,i=H++g)/\(∀a∈D,a∈j)/\∀a∈l,a∈z.G->(fS k.N c a&&M.contains (cN k.N a))=true->a∈j
 |[],s,H,D,h,w,_=>⟨H,D,h,w,c5.refl _ _,⟨[],V⟩,fun _ d=>d,fun a ha=>by cases ha⟩
 |b::l,s,H,D,h,w,hl=>by
  rw[aI];have A:=cU (k.ld s b)
  by_cases f:b∈z.G/\(fS k.N c b&&M.contains (cN k.N b))=true
  ·have v:=h.mi.hd b b (ap ⟨rfl,f.1⟩)
   have B:=(hz.mem b f.1).2.1;have m:k.ff ((k.N:Int)+z.g) c M s b=k.lk s b:=by unfold bP.ff;rw[aq (by rw[v];omega),aq f.2]
   rw[m];obtain⟨C,m1,q,⟨g,t⟩⟩:=h.lk f.1;have w1:=w.lk h.mi (aL H f.1) m1.mi q ⟨g,t⟩
   obtain⟨n,o,p,iU,j2,⟨x,b7⟩,b9,cC⟩:=LI.od c M hz l m1 w1 (fun a ha=>hl a (ay _ ha))
   refine⟨n,o,p,iU,q.trans j2,⟨g++x,by rw[b7,t,aU]⟩,fun a d=>b9 a (ay _ d),fun a ha hg hm=>?_⟩
   rcases List.mem_cons.1 ha with d|d
   ·exact b9 a (by rw[d];simp)
   ·exact cC a d hg hm
  ·have m:k.ff ((k.N:Int)+z.g) c M s b=s:=by
    unfold bP.ff;by_cases u:b∈z.G
    ·split
     ·rw[ao (fun e=>f ⟨u,e⟩)]
     ·rfl
    ·have:=(hl b V).resolve_left u;rw[ao I]
   rw[m];obtain⟨n,o,p,iU,j2,b7,b9,cC⟩:=LI.od c M hz l h w (fun a ha=>hl a (ay _ ha))
   refine⟨n,o,p,iU,j2,b7,b9,fun a ha hg hm=>?_⟩
   rcases List.mem_cons.1 ha with d|d
   ·exact absurd ⟨by rw[<-d];exact hg,by rw[<-d];exact hm⟩ f
   ·exact cC a d hg hm
end
def Rest (k:bP)(z:C0)(D:List Int)(H:List Int)(s:bU):Prop:=∃K,LI k z s K D/\dJ k z s K/\d6 k s/\hB k.N s.g s.nx=false/\∃a,K=H++a
section
variable {k:bP}{z:C0}{D H:List Int}
theorem oe:∀(n:Nat)(t:bU×List bN),CI k t.1->d6 k t.1->CI k (k.cK n t).1/\d6 k (k.cK n t).1
 |0,t,h,a=>⟨h,a⟩
 |n+1,t,h,a=>by
  obtain⟨c1,c2,f⟩:=CI.lb h a (k.O+1)
  obtain⟨b,c,g,i⟩:=CI.kv c1 c2;obtain⟨d,e,_⟩:=CI.wa (s:=((k.kv (k.lb (k.O+1) t.1)).2,t.2)) b c;unfold bP.cK;split
  ·exact oe n ((k.kv (k.lb (k.O+1) t.1)).2,t.2) b c
  ·split
   ·exact oe n _ d e
   ·exact⟨d,e⟩
theorem Rest.sp {t:bU×List bN}{a:List Int}(h:LI k z t.1 a D)(w:dJ k z t.1 a)(b:d6 k t.1)(e:∃c,a=H++c):Rest k z D H (k.sp t).1:=by obtain⟨K,m1,d,_,⟨B,f⟩⟩:=cP.sp (k:=k) (z:=z) (D:=D) t a h w;obtain⟨g,e⟩:=e;exact⟨K,m1,d,(oe _ t h.mi.ci b).2,oa _ t a h w b I,⟨g++B,by rw[f,e,aU]⟩⟩
theorem Rest.ke {t:bU×List bN}(h:Rest k z D H t.1)(x:Int):Rest k z D H (k.ke t x).2.1:=by
 obtain⟨K,m1,c,a,_,⟨d,e⟩⟩:=h;obtain⟨l,f,j2,_,⟨B,b9⟩⟩:=cP.br (k:=k) (z:=z) (D:=D) (s:=t.1) x K m1 c;obtain⟨_,g,i,b⟩:=kZ k t.1 x;have j:d6 k (k.br t.1 x).2:=⟨by rw[g,b];exact a.wk,by rw[i,b];exact a.ep⟩
 exact Rest.sp (t:=((k.br t.1 x).2,t.2)) f j2 j ⟨d++B,by rw[b9,e,aU]⟩
theorem Rest.one {t:bU×List bN}(h:Rest k z D H t.1)(e:bN):Rest k z D H (cm (dE bU) (fun s x=>k.al s.1 x) k.ke t e).2.1:=by
 unfold cm;split
 ·exact h.ke e.2
 ·exact h
theorem Rest.part (l:List bN){t:bU×List bN}(h:Rest k z D H t.1):Rest k z D H (pts (cm (dE bU) (fun s x=>k.al s.1 x) k.ke) t l).2.2.1:=by
 have key:∀(l:List bN)(p:List bN×List bN×(bU×List bN)),Rest k z D H p.2.2.1->Rest k z D H (l.foldl (ec (cm (dE bU) (fun s x=>k.al s.1 x) k.ke)) p).2.2.1:=by
  intro l
  induction l with
  |nil=>exact fun p h=>h
  |cons e l b=>
   intro p hp;rw[aI];refine b _ ?_;have a:=hp.one e;unfold ec;split
   ·exact a
   ·exact a
 exact key l ([],[],t) h
theorem Rest.turn:∀(n:Nat){t:bU×List bN}(a:List bN),Rest k z D H t.1->Rest k z D H (eu (cm (dE bU) (fun s x=>k.al s.1 x) k.ke) n t a).1.1
 |0,t,a,h=>h
 |n+1,t,a,h=>by
  unfold eu;split
  ·exact h.part a
  ·exact Rest.turn n _ (h.part a)
theorem Rest.d_ {t:bU×List bN}(h:Rest k z D H t.1)(r:List bN):Rest k z D H (k.d_ t r).1:=Rest.turn _ _ h
end
end Go.Proofs.YtjpjpjemibgjpaaGreat
