import Derived.Test.YtpkjkjhanlbcoaaGreatJ04
namespace Go.Proofs.YtpkjkjhanlbcoaaGreat
set_option maxRecDepth 100000
set_option maxHeartbeats 2000000
open Tryz
open Go.RowKit W Kp cf oS
theorem sG {P:Prop}(h:P:=by
 have hk:0<l.length->∀b,ad=some b->w'.heap[b.block]?=w.heap[b.block]?:=fun hp b e=>by obtain⟨b0,o0,cs,e0,hb⟩:=h.2 hp;rw[e0] at e;cases e;exact k.h8 _ _ _ _ hb aa aa
 refine⟨h.1.keep k.size hk,fun hp=>?_⟩
 obtain⟨b0,o0,cs,e0,hb⟩:=h.2 hp;exact⟨b0,o0,cs,e0,(hk hp _ e0).trans hb⟩):P:=h
theorem qd {P:Prop}(h:P:=by simp only [World.setCell,Array.getElem?_modify,if_true,((hb1 _ (lt_of_some h.cb) (by rw[h.k1];decide)).trans h.cb),Option.map_some];simp):P:=h
theorem qe {P:Prop}(h:P:=by rw[aG (fun c=>by rcases hnw b c with c|c<;>omega)];exact e):P:=h
theorem xj {P:Prop}(h:P:=by
 by_cases e:b=a
 ·subst e;rw[Maps.atKey_put_same (k:=.int .i64 b) h1.isMap trivial,aI rfl]
 ·rw[Maps.atKey_put_other (by simpa using e),aG e];exact h3 b hb):P:=h
theorem xk {P:Prop}(h:P:=by
 by_cases l:L 8
 ·exact hE l
 ·exact cH h.er (fun b e=>hk b (cn h.er b e).2 (by rw[h.eo b e];decide) (by rw[h.eo b e];exact l))):P:=h
theorem xl {P:Prop}(h:P:=by
 by_cases l:L 5
 ·exact hK l
 ·exact(hk _ (lt_of_some h.cb) (by rw[h.k1];decide) (by rw[h.k1];exact l)).trans h.cb):P:=h
section
variable {k:ce}{s:cj}
theorem CI.sH (h:CI k s){a:Int}(ha:a∈k.T):0<=a/\a<k.y/\dd k.N k.y s.g a=true:=by
 obtain⟨b,c,d⟩:=h.th a ha;have e:=dj (k.ld s a)
 exact⟨b,V,iK b V⟩
theorem ce.nY (hl:s.ws.length=k.N+k.O)(hy:k.y<=k.N)(hg:s.g<=k.O)(a x b:Int):k.ld (k.st s a x) b=if b=a/\dd k.N k.y s.g a=true then x else k.ld s b:=by
 unfold ce.ld ce.st;by_cases ha:dd k.N k.y s.g a=true
 ·have hb:=jr ha hy hg;rw[aI ha];by_cases e:b=a
  ·subst e;rw[aI ⟨rfl,ha⟩,dW ha,j9 _ _ _ _ V,aI rfl]
  ·rw[aG (fun c=>e c.1)];unfold Proofs.YtpkjkjhanlbcoaaGreat.ld;by_cases hi:dd k.N k.y s.g b=true
   ·have d:=jr hi hy hg;rw[aI hi,aI hi,j9 _ _ _ _ V,aG V]
   ·rw[aG hi,aG hi]
 ·rw[aG ha,aG (fun c=>ha c.2)]
theorem ce.nZ {a:Int}(hc:it k.N k.O k.y s.g s.ws a=true):k.cp s a={s with g:=s.g+(1+(pf (k.ld s a)).toNat),ws:=splice s.ws (k.N+s.g) ((s.ws.drop a.toNat).take (1+(pf (k.ld s a)).toNat)),f:=gz s.f a ((k.N+s.g:Nat):Int)}:=by unfold ce.cp jJ jK mM ce.ld;rw[aI hc,aI hc,aI hc]
theorem sI {b:Type}(l m:List b)(t:Nat)(h:t+m.length<=l.length):(splice l t m).length=l.length:=by unfold splice;simp;omega
theorem lj (N y g:Nat)(a:Int):dd N y g a=true↔(0<=a/\a<y)\/((N:Int)<=a/\a<(N:Int)+g):=by unfold dd hB;simp
theorem ce.sJ (hl:s.ws.length=k.N+k.O)(hy:k.y<=k.N)(hg:s.g<=k.O){a:Int}(a0:0<=a)(a1:a+1+pf (k.ld s a)<=k.y)(hc:it k.N k.O k.y s.g s.ws a=true)(b:Int):
 k.ld (k.cp s a) b=if(k.N:Int)+s.g<=b/\b<(k.N:Int)+s.g+(1+pf (k.ld s a)) then k.ld s (a+(b-(k.N+s.g))) else k.ld s b:=by
 obtain⟨g,j,e⟩:=nU hc;have hp:=dj (k.ld s a)
 have e:1+pf (k.ld s a)<=(k.O:Int)-s.g:=e;rw[ce.nZ hc];obtain⟨n,hn⟩:∃n,n=(pf (k.ld s a)).toNat:=⟨_,rfl⟩
 rw[<-hn];have f:∀i:Nat,_=_:=fun i=>p8 s.ws (k.N+s.g) a.toNat (1+n) i V V;by_cases hb:(k.N:Int)+s.g<=b/\b<(k.N:Int)+s.g+(1+pf (k.ld s a))
 ·rw[aI hb];have d:dd k.N k.y (s.g+(1+n)) b=true:=(lj _ _ _ _).2 (aJ ⟨V,V⟩)
  show Proofs.YtpkjkjhanlbcoaaGreat.ld k.N k.y _ _ b=Proofs.YtpkjkjhanlbcoaaGreat.ld k.N k.y s.g s.ws _;rw[dW d,dW ((lj _ _ _ _).2 (aK ⟨V,V⟩)),f,aI V]
  congr 1
  omega
 ·rw[aG hb];show Proofs.YtpkjkjhanlbcoaaGreat.ld k.N k.y _ _ b=Proofs.YtpkjkjhanlbcoaaGreat.ld k.N k.y s.g s.ws b;by_cases hi:dd k.N k.y s.g b=true
  ·have d:dd k.N k.y (s.g+(1+n)) b=true:=(lj _ _ _ _).2 (by rcases(lj _ _ _ _).1 hi with h|h<;>omega)
   rw[dW d,dW hi,f,aG V]
  ·have d:¬dd k.N k.y (s.g+(1+n)) b=true:=fun c=>hi ((lj _ _ _ _).2 (by rcases(lj _ _ _ _).1 c with h|h<;>omega))
   unfold Proofs.YtpkjkjhanlbcoaaGreat.ld;rw[aG hi,aG d]
theorem xm (T:List Int)(f:Int->Int)(a v:Int)(hv:v≠-1):T.filter (fun b=>gz f a v b==-1)=(T.filter (fun b=>f b==-1)).filter (fun b=>!(b==a)):=by
 rw[List.filter_filter]
 congr 1
 funext b
 unfold gz;by_cases e:b=a
 ·simp[e,hv]
 ·simp[e]
theorem oT (g:Int->Nat):∀(l:List Int)(a:Int),l.Nodup->a∈l->((l.filter (fun b=>!(b==a))).map g).sum+g a=(l.map g).sum
 |[],a,_,h=>by simp at h
 |b::l,a,hn,h=>by
  rw[List.nodup_cons] at hn;by_cases e:b=a
  ·subst e;have d:l.filter (fun c=>!(c==b))=l:=List.filter_eq_self.2 (fun c hc=>by
    have:c≠b:=fun e=>hn.1 (e▸hc)
    simp[this])
   rw[List.filter_cons_of_neg Z,d];simp;omega
  ·have hm:a∈l:=by
    rcases List.mem_cons.1 h with h|h
    ·exact absurd h.symm e
    ·exact h
   have f:=oT g l a hn.2 hm;rw[List.filter_cons_of_pos (by simp[e])];simp;omega
theorem sK:∀l:List Int,(l.map (fun _=>1)).sum=l.length
 |[]=>rfl
 |_::l=>by simp[sK l];omega
theorem Ds (l:List Int)(a:Int)(hn:l.Nodup)(h:a∈l):(l.filter (fun b=>!(b==a))).length+1=l.length:=by have:=oT (fun _=>1) l a hn h;rwa [sK,sK] at this
theorem CI.it (h:CI k s){a:Int}(ha:a∈k.T)(b:s.f a=-1):it k.N k.O k.y s.g s.ws a=true:=by
 obtain⟨d,c,f⟩:=h.th a ha;have g:=dj (k.ld s a)
 have hm:a∈k.T.filter (fun a=>s.f a==-1):=List.mem_filter.2 ⟨ha,by simp[b]⟩
 have hs:=oT (fun a=>1+(pf (k.ld s a)).toNat) _ a (h.nd.filter _) hm;have hr:=h.room;have hg:=h.hg;unfold ce.sz at hr;have e:hB 0 (k.y:Int) a=true:=by simp[hB];omega
 unfold Proofs.YtpkjkjhanlbcoaaGreat.it gg;rw[aI e];refine bh ⟨c,?_,?_⟩
 ·show 1+pf (k.ld s a)<=(k.y:Int)-a;omega
 ·show 1+pf (k.ld s a)<=(k.O:Int)-s.g;omega
theorem CI.st (h:CI k s){a:Int}(ha:(k.N:Int)<=a)(x:Int):CI k (k.st s a x):=by
 have hl:∀b∈k.T,k.ld (k.st s a x) b=k.ld s b:=fun b hb=>by have:=h.sH hb;have:=h.hy;rw[ce.nY h.len h.hy h.hg,aG V]
 refine⟨h.hN,h.hN',h.hO,h.hy,h.hg,?_,fun b hb=>by rw[hl b hb];exact h.th b hb,h.nd,?_,h.g8,h.js,h.ix,h.h7,h.tl⟩
 ·unfold ce.st;split
  ·rw[a4];exact h.len
  ·exact h.len
 ·have e:k.sz (k.st s a x)=k.sz s:=by
   unfold ce.sz
   congr 1
   refine List.map_congr_left (fun b hb=>?_)
   rw[hl b (List.mem_filter.1 hb).1]
  rw[e];exact h.room
theorem CI.cp (h:CI k s){a:Int}(ha:a∈k.T)(c:s.f a=-1):CI k (k.cp s a)/\s.g<(k.cp s a).g:=by
 have hc:=h.it ha c;obtain⟨e,i,f⟩:=h.th a ha;have hm:a∈k.T.filter (fun a=>s.f a==-1):=List.mem_filter.2 ⟨ha,by simp[c]⟩
 have hs:=oT (fun a=>1+(pf (k.ld s a)).toNat) _ a (h.nd.filter _) hm;have hr:=h.room;have hg:=h.hg;have hl:∀b∈k.T,k.ld (k.cp s a) b=k.ld s b:=fun b hb=>by have:=h.sH hb;have:=h.hy;rw[ce.sJ h.len h.hy h.hg e f hc,aG V]
 have g:k.T.filter (fun b=>(k.cp s a).f b==-1)=(k.T.filter (fun b=>s.f b==-1)).filter (fun b=>!(b==a)):=by rw[ce.nZ hc];exact xm _ _ _ _ V
 have d:(k.cp s a).g=s.g+(1+(pf (k.ld s a)).toNat):=by rw[ce.nZ hc]
 have j:k.sz (k.cp s a)+(1+(pf (k.ld s a)).toNat)=k.sz s:=by
  unfold ce.sz;rw[g,<-hs]
  congr 2
  refine List.map_congr_left (fun b hb=>?_)
  rw[hl b (List.mem_filter.1 (List.mem_filter.1 hb).1).1]
 refine⟨⟨h.hN,h.hN',h.hO,h.hy,by rw[d];omega,?_,fun b hb=>by rw[hl b hb];exact h.th b hb,h.nd,by rw[d];omega,h.g8,h.js,h.ix,h.h7,h.tl⟩,?_⟩
 ·rw[ce.nZ hc];have:=h.len;have l:=(nU hc).2.2;show(splice s.ws _ _).length=k.N+k.O;rw[sI _ _ _ (by simp;omega)];exact h.len
 ·omega
structure eC (k:ce)(s t:cj):Prop where
 nx:t.nx=s.nx
 wk:t.wk=s.wk
 ep:t.ep=s.ep
 rs:t.rs=s.rs
 g:s.g<=t.g
theorem eC.refl (k:ce)(s:cj):eC k s s:=⟨rfl,rfl,rfl,rfl,aD _⟩
theorem eC.trans {a b c:cj}(h:eC k a b)(j:eC k b c):eC k a c:=⟨j.nx.trans h.nx,j.wk.trans h.wk,j.ep.trans h.ep,j.rs.trans h.rs,aT h.g j.g⟩
theorem ce.mU {x:Int}(h:k.ls s x=true):cY x=true/\cg x∈k.T/\s.f (cg x)=-1:=by unfold ce.ls ce.cK at h;simp at h;exact⟨h.1.1,h.1.2,h.2⟩
theorem CI.br (h:CI k s)(x:Int):CI k (k.br s x).2/\eC k s (k.br s x).2/\(k.ls s x=true->s.g<(k.br s x).2.g):=by
 unfold ce.br;by_cases c:k.ls s x=true
 ·obtain⟨c1,c2,c3⟩:=ce.mU c;obtain⟨b,d⟩:=h.cp c2 c3;rw[aI c];exact⟨b,⟨rfl,rfl,rfl,rfl,by show s.g<=(k.cp s (cg x)).g;omega⟩,fun _=>d⟩
 ·rw[aG c];exact⟨h,eC.refl _ _,fun e=>absurd e c⟩
theorem CI.kf (h:CI k s){a:Int}(ha:(k.N:Int)<=a):CI k (k.kf s a)/\eC k s (k.kf s a):=by obtain⟨c,b,_⟩:=h.br _;exact⟨c.st ha _,⟨b.nx,b.wk,b.ep,b.rs,b.g⟩⟩
theorem CI.fU (h:CI k s){a:Int}(ha:(k.N:Int)<=a):∀n,CI k (k.fU s a n)/\eC k s (k.fU s a n)
 |0=>⟨h,eC.refl _ _⟩
 |n+1=>by obtain⟨b,c⟩:=CI.fU h ha n;obtain⟨d,e⟩:=b.kf (a:=a+1+n) V;exact⟨d,c.trans e⟩
theorem CI.xn (h:CI k s){a:Int}(ha:(k.N:Int)<=a)(c:a<=2000):CI k {s with wk:=s.wk++[a]}:=
 ⟨h.hN,h.hN',h.hO,h.hy,h.hg,h.len,h.th,h.nd,h.room,h.g8,h.js,fun b hb=>by
  rcases List.mem_append.1 hb with hb|hb
  ·exact h.ix b hb
  ·simp at hb;subst hb;exact⟨ha,c⟩,h.h7,h.tl⟩
theorem CI.Dt (h:CI k s){a:Int}(ha:(k.N:Int)<=a)(c:a<=2000):CI k {s with ep:=s.ep++[a]}:=
 ⟨h.hN,h.hN',h.hO,h.hy,h.hg,h.len,h.th,h.nd,h.room,h.g8,h.js,h.ix,fun b hb=>by
  rcases List.mem_append.1 hb with hb|hb
  ·exact h.h7 b hb
  ·simp at hb;subst hb;exact⟨ha,c⟩,h.tl⟩
structure Cl (k:ce)(s t:cj):Prop where
 nx:t.nx=s.nx
 wk:t.wk.length<=s.wk.length+1
 ep:t.ep.length<=s.ep.length+1
 rs:t.rs=s.rs
 g:s.g<=t.g
theorem Cl.of {t:cj}(h:eC k s t):Cl k s t:=⟨h.nx,by rw[h.wk];omega,by rw[h.ep];omega,h.rs,h.g⟩
theorem CI.lk (h:CI k s){a:Int}(ha:(k.N:Int)<=a)(d:a<=2000):CI k (k.lk s a)/\Cl k s (k.lk s a):=by
 unfold ce.lk;split
 ·obtain⟨c,b⟩:=h.fU ha _;exact⟨c,Cl.of b⟩
 ·split
  ·obtain⟨c,b⟩:=(h.xn ha d).kf (a:=a+2) V;exact⟨c,⟨b.nx,by rw[b.wk];simp,by rw[b.ep];simp,b.rs,b.g⟩⟩
  ·split
   ·exact⟨h.Dt ha d,⟨rfl,Z,Z,rfl,aD _⟩⟩
   ·exact⟨h,Cl.of (eC.refl _ _)⟩
theorem CI.kG (h:CI k s)(d:hB k.N s.g s.nx=true):CI k {k.lk s s.nx with nx:=s.nx+(1+pf (k.ld s s.nx))}/\k.mu {k.lk s s.nx with nx:=s.nx+(1+pf (k.ld s s.nx))}<=k.mu s/\s.nx<(k.N:Int)+k.O:=by
 have hb:=jq d;have hg:=h.hg;have e:=dj (k.ld s s.nx)
 have n1:=h.hO;have f:=h.hN';obtain⟨b,c⟩:=h.lk h.g8 V;refine⟨⟨b.hN,b.hN',b.hO,b.hy,b.hg,b.len,b.th,b.nd,b.room,?_,?_,b.ix,b.h7,b.tl⟩,?_,V⟩
 ·show(k.N:Int)<=s.nx+(1+pf _)
  omega
 ·show s.nx+(1+pf _)<=(k.N:Int)+k.O+13;omega
 ·have g:=c.g;have i:=c.ep;unfold ce.mu;show((k.N:Int)+k.O+13-(s.nx+(1+pf _))).toNat+(k.lk s s.nx).ep.length+(k.O-(k.lk s s.nx).g)<=_;omega
theorem ee.kG (h:CI k s)(c:hB k.N s.g s.nx=true)(hb:ee k s):ee k {k.lk s s.nx with nx:=s.nx+(1+pf (k.ld s s.nx))}:=by
 have d:=jq c;have hg:=h.hg;have e:=dj (k.ld s s.nx)
 have n1:=h.hO;have f:=h.hN';obtain⟨g,b⟩:=h.lk h.g8 V;have i:=hb.wk;have j:=hb.ep;have l:=b.wk;have m:=b.ep;constructor
 ·show(k.lk s s.nx).wk.length+((k.N:Int)+k.O+13-(s.nx+(1+pf _))).toNat<=4000;omega
 ·show(k.lk s s.nx).ep.length+((k.N:Int)+k.O+13-(s.nx+(1+pf _))).toNat<=4000;omega
theorem CI.lb (h:CI k s)(hb:ee k s):∀n,CI k (k.lb n s)/\ee k (k.lb n s)/\k.mu (k.lb n s)<=k.mu s:=by
 intro n
 induction n generalizing s with
 |zero=>exact⟨h,hb,aD _⟩
 |succ n b=>
  unfold ce.lb;by_cases c:hB k.N s.g s.nx=true
  ·rw[aI c];obtain⟨d,e,_⟩:=h.kG c;obtain⟨f,g,i⟩:=b d (ee.kG h c hb)
   exact⟨f,g,aT i e⟩
  ·rw[aG c];exact⟨h,hb,aD _⟩
theorem CI.cP {t:List Int×cj}(h:CI k t.2){a:Int}(ha:(k.N:Int)<=a):CI k (k.cP t a).2/\eC k t.2 (k.cP t a).2/\(k.cP t a).1.length<=t.1.length+1/\∀b∈(k.cP t a).1,b∈t.1\/b=a:=by
 unfold ce.cP;split
 ·exact⟨h,eC.refl _ _,Z,fun b hb=>by simpa using hb⟩
 ·obtain⟨c,d⟩:=h.kf (a:=a+1) V;obtain⟨e,f⟩:=c.kf (a:=a+2) V;exact⟨e,d.trans f,Z,fun b hb=>aK hb⟩
theorem aO {α:Type _}(y:α){a:α}{l:List α}:a ∈ l -> a ∈ y :: l:=by intros;apply List.mem_cons_of_mem<;>assumption
theorem CI.du (h:CI k s):∀l:List Int,(∀a∈l,(k.N:Int)<=a)->CI k (k.du s l).2/\eC k s (k.du s l).2/\(k.du s l).1.length<=l.length/\∀b∈(k.du s l).1,b∈l:=by
 have key:∀(l:List Int)(t:List Int×cj),CI k t.2->(∀a∈l,(k.N:Int)<=a)->CI k (l.foldl k.cP t).2/\eC k t.2 (l.foldl k.cP t).2/\(l.foldl k.cP t).1.length<=t.1.length+l.length/\∀b∈(l.foldl k.cP t).1,b∈t.1\/b∈l:=by
  intro l
  induction l with
  |nil=>intro t ht _;exact⟨ht,eC.refl _ _,Z,fun b hb=>aK hb⟩
  |cons a l g=>
   intro t ht hl;obtain⟨c,d,f,e⟩:=CI.cP ht (hl a Z)
   obtain⟨i,j,n,m⟩:=g _ c (fun b hb=>hl b (aO _ hb))
   refine⟨i,d.trans j,by simp only [List.foldl_cons,List.length_cons];omega,fun b hb=>?_⟩
   rcases m b hb with hb|hb
   ·rcases e b hb with hb|hb
    ·exact aK hb
    ·exact aJ (by simp[hb])
   ·exact aJ (aO _ hb)
 intro l hl;obtain⟨c,d,f,e⟩:=key l ([],s) h hl;exact⟨c,d,by show(l.foldl k.cP ([],s)).1.length<=l.length;simpa using f,fun b hb=>by simpa using e b hb⟩
theorem CI.kv (h:CI k s)(hb:ee k s):CI k (k.kv s).2/\ee k (k.kv s).2/\k.mu (k.kv s).2<=k.mu s/\((k.kv s).1=true->k.mu (k.kv s).2<k.mu s):=by
 obtain⟨b,c,f,e⟩:=h.du s.ep (fun a ha=>(h.h7 a ha).1)
 have d:=c.nx;have g:=c.g;have b2:=hb.ep;refine⟨⟨b.hN,b.hN',b.hO,b.hy,b.hg,b.len,b.th,b.nd,b.room,b.g8,b.js,b.ix,fun a ha=>h.h7 a (e a ha),b.tl⟩,⟨?_,?_⟩,?_,fun hk=>?_⟩
 ·show(k.du s s.ep).2.wk.length+(k.N+k.O+13-(k.du s s.ep).2.nx).toNat<=4000;rw[d,c.wk];exact hb.wk
 ·show(k.du s s.ep).1.length+(k.N+k.O+13-(k.du s s.ep).2.nx).toNat<=4000;rw[d];omega
 ·unfold ce.mu;show(k.N+k.O+13-(k.du s s.ep).2.nx).toNat+(k.du s s.ep).1.length+(k.O-(k.du s s.ep).2.g)<=_;rw[d];omega
 ·have hk:(k.du s s.ep).1.length<s.ep.length:=by simpa[ce.kv] using hk
  unfold ce.mu;show(k.N+k.O+13-(k.du s s.ep).2.nx).toNat+(k.du s s.ep).1.length+(k.O-(k.du s s.ep).2.g)<_;omega
theorem eC.mu {t:cj}(h:eC k s t):k.mu t<=k.mu s:=by unfold ce.mu;rw[h.nx,h.ep];have:=h.g;omega
theorem eC.cb {t:cj}(h:eC k s t)(hb:ee k s):ee k t:=⟨by rw[h.wk,h.nx];exact hb.wk,by rw[h.ep,h.nx];exact hb.ep⟩
theorem CI.gI {s:cj×List b7}(h:CI k s.1):∀n,CI k (gI k.al k.br s n).1.1/\eC k s.1 (gI k.al k.br s n).1.1/\(gI k.al k.br s n).1.2.length=s.2.length/\((gI k.al k.br s n).2=true->s.1.g<(gI k.al k.br s n).1.1.g)
 |0=>⟨h,eC.refl _ _,rfl,fun e=>by simp[Proofs.YtpkjkjhanlbcoaaGreat.gI] at e⟩
 |n+1=>by
  obtain⟨d,b,f,g⟩:=CI.gI h n;have e:Proofs.YtpkjkjhanlbcoaaGreat.gI k.al k.br s (n+1)=dB k.al k.br (Proofs.YtpkjkjhanlbcoaaGreat.gI k.al k.br s n) n:=by simp[Proofs.YtpkjkjhanlbcoaaGreat.gI,List.range_succ]
  rw[e];generalize Proofs.YtpkjkjhanlbcoaaGreat.gI k.al k.br s n=t at d b f g⊢;unfold dB;split
  ·exact⟨d,b,f,g⟩
  ·rename_i c;obtain⟨i,j,l⟩:=d.br (t.1.2.getD n (0,0)).2;have hl:k.ls t.1.1 (t.1.2.getD n (0,0)).2=true:=by unfold ce.al at c;simp at c;exact c.1
   refine⟨i,b.trans j,by simp[f],fun _=>?_⟩
   exact Nat.lt_of_le_of_lt b.g (l hl)
theorem CI.wa {s:cj×List b7}(h:CI k s.1)(hb:ee k s.1):CI k (k.wa s).1.1/\ee k (k.wa s).1.1/\(k.wa s).1.2.length=s.2.length/\k.mu (k.wa s).1.1<=k.mu s.1/\((k.wa s).2=true->k.mu (k.wa s).1.1<k.mu s.1):=by
 obtain⟨c,b,d,f⟩:=h.gI _;refine⟨c,b.cb hb,d,b.mu,fun e=>?_⟩
 have g:=f e;have i:=c.hg;show k.mu (Proofs.YtpkjkjhanlbcoaaGreat.gI k.al k.br s s.2.length).1.1<_;unfold ce.mu;rw[b.nx,b.ep];omega
theorem CI.cJ (h:CI k s):∀n,CI k (k.cJ s n)/\(k.cJ s n).nx=s.nx/\(k.cJ s n).wk=s.wk/\(k.cJ s n).ep=s.ep/\s.g<=(k.cJ s n).g/\(k.cJ s n).rs.length=s.rs.length
 |0=>⟨h,rfl,rfl,rfl,aD _,rfl⟩
 |n+1=>by
  obtain⟨d,e,f,g,i,j⟩:=CI.cJ h n;obtain⟨b,c,_⟩:=d.br _;refine⟨⟨b.hN,b.hN',b.hO,b.hy,b.hg,b.len,b.th,b.nd,b.room,b.g8,b.js,b.ix,b.h7,b.tl⟩,c.nx.trans e,c.wk.trans f,c.ep.trans g,aT i c.g,?_⟩
  show((k.br _ _).2.rs.set n _).length=_;rw[a4,c.rs,j]
theorem CI.eF (h:CI k s){a:Int}(ha:(k.N:Int)<=a):CI k (k.eF s a)/\eC k s (k.eF s a):=by
 unfold ce.eF;split
 ·exact⟨h.st V _,⟨rfl,rfl,rfl,rfl,aD _⟩⟩
 ·exact⟨h.st V _,⟨rfl,rfl,rfl,rfl,aD _⟩⟩
theorem CI.gA (h:CI k s){a:Int}(ha:(k.N:Int)<=a):CI k (k.gA s a)/\eC k s (k.gA s a):=
 ⟨(h.st V _).st V _,⟨rfl,rfl,rfl,rfl,aD _⟩⟩
theorem CI.fold (f:cj->Int->cj)(c:∀s a,CI k s->(k.N:Int)<=a->CI k (f s a)/\eC k s (f s a)):∀(l:List Int)(s:cj),CI k s->(∀a∈l,(k.N:Int)<=a)->CI k (l.foldl f s)/\eC k s (l.foldl f s)
 |[],s,h,_=>⟨h,eC.refl _ _⟩
 |a::l,s,h,hl=>by
  obtain⟨d,e⟩:=c s a h (hl a Z)
  obtain⟨g,i⟩:=CI.fold f c l (f s a) d (fun b hb=>hl b (aO _ hb))
  exact⟨g,e.trans i⟩
theorem CI.mw (h:CI k s){l:List Int}(hl:∀a∈l,(k.N:Int)<=a):CI k (k.mw s l)/\eC k s (k.mw s l):=CI.fold k.eF (fun _ _ h ha=>h.eF ha) l s h hl
theorem CI.be (h:CI k s){l:List Int}(hl:∀a∈l,(k.N:Int)<=a):CI k (k.be s l)/\eC k s (k.be s l):=CI.fold k.gA (fun _ _ h ha=>h.gA ha) l s h hl
end
open Go.RowKit W Kp cf
def ef (q:List b7)(g:Int):List Int:=(q.filter (fun e=>e.1==g)).map (·.2)
theorem Du (q:List b7)(g:Int)(j:Nat)(h:j<q.length)(e:(q.getD j (0,0)).1=g):ef (q.take (j+1)) g=ef (q.take j) g++[(q.getD j (0,0)).2]:=by unfold ef;rw[gx q j h (0,0),List.filter_append,List.map_append,List.filter_cons,e];simp
theorem Dv (q:List b7)(g:Int)(j:Nat)(h:j<q.length)(e:¬(q.getD j (0,0)).1=g):ef (q.take (j+1)) g=ef (q.take j) g:=by unfold ef;rw[gx q j h (0,0),List.filter_append,List.map_append,List.filter_cons];rw[aG (by simpa using e)];simp
theorem oU (q:List b7)(g:Int):(ef q g).length<=q.length:=by unfold ef;rw[aW];exact bm _ _
theorem sL (w:ax)(p:Nat)(v0:Value)(a1:Option Addr)(k1:Nat)(q:List b7)(g:Int)(h:w.heap[p]?=some (.cells #[v0,.slice a1 q.length k1] 153 (0,0)))(hp:dv w a1 q)(hm:q.length<=90000):
 Calls prog 252 #[aj p,ah g] w fun e w'=>∃ad cap,e=.returned (.slice ad (ef q g).length cap)/\w'.ownsRow w.heap.size 2 1 (.slice ad (ef q g).length cap) (ef q g).length ((ef q g).map (Value.int .i64))/\Below w.heap.size w w':=by
 obtain⟨C,hi,D,E,F⟩:=info_parts vZ;have c1:w.cell? (aq p 1)=some (.slice a1 q.length k1):=aA h
 have G:=hide hp;clear h hp;go_enter func252,ntmps252;go_wp2_with fail
 go_loopw [5,13] (fun tv iv wr=>∃(j:Nat)(T:List Int)(b:Option Addr)(c:Nat),j<=q.length/\iv=ah j/\ay (T=ef (q.take j) g)/\tv=.slice b T.length c/\wr.ownsRow w.heap.size 2 1 (.slice b T.length c) T.length (T.map (Value.int .i64))/\Below w.heap.size w wr) (fun _ iv _=>q.length-(intOf iv).toNat)
 exact⟨0,[],none,0,aY _,rfl,rfl,rfl,bc _ _ _ _,aH _ _⟩
 ·
   obtain⟨j,T,b,c,d,rfl,f,rfl,l,hb⟩:=hrel;have O:T.length<=90000:=by
    have:=oU (q.take j) g;rw[f.o];simp at this
    omega
   by_cases o:j<q.length
   ·obtain⟨P,Q,H,R,hc⟩:=G.o.below hb V;obtain⟨t,u⟩:=hc j o;clear hc;subst H;have hs:=hb.size;by_cases i:(q.getD j (0,0)).1=g
    ·have m:ay (T++[(q.getD j (0,0)).2]=ef (q.take (j+1)) g):=by show _=_;rw[Du q g j o i,f.o]
     rw[i] at t;generalize (q.getD j (0,0)).2=z at u m;clear i;have s:=ga l (.cells #[.int .i64 g,.int .i64 z] 103)
     have n:=hb.alloc hs (.cells #[.int .i64 g,.int .i64 z] 103)
     go_wp2_with (at_builtin;refine wpList_append_own_at _ rfl _ _ 53 rfl w.heap.size 2 C (ah 0) 1 8 underlying53 hi D E F rfl aa (.slice b T.length c) T.length (T.map (Value.int .i64)) rfl (ga s _) ⟨wr.heap.size+1,0,none⟩ 1 1 [ah z] rfl rfl ?_ ?_ ?_ ?_ ?_ ?_;(intro j I d;match j,d with|0,d=>(simp at d;subst d;simp[Addr.add]));(intro I v;simp at v;subst v;rfl);(unfold maxLen;omega);omega;(simp;omega);intro S J A K _ U;obtain⟨b4,B,L⟩:=eT A (Nat.succ_pos _);subst L)
     have M:J.ownsRow w.heap.size 2 1 (.slice (ak b4) (T++[z]).length B) (T++[z]).length ((T++[z]).map (Value.int .i64)):=by simpa using A
     have N:=(n.alloc n.size _).grown K (by simp;omega) (fun k e=>(cn l k e.symm).1)
     go_wp2_with fail;go_roundw;exact⟨j+1,T++[z],ak b4,B,V,af,m,Z,M,N⟩
     simp[intOf];omega
    ·have m:ay (T=ef (q.take (j+1)) g):=by show _=_;rw[Dv q g j o i,f.o]
     generalize (q.getD j (0,0)).1=x at t i;generalize (q.getD j (0,0)).2=z at u;have s:=ga l (.cells #[.int .i64 x,.int .i64 z] 103)
     have n:=hb.alloc hs (.cells #[.int .i64 x,.int .i64 z] 103)
     go_wp2_with fail;go_roundw;exact⟨j+1,T,b,c,V,af,m,rfl,s,n⟩
     simp[intOf];omega
   ·obtain rfl:j=q.length:=V;rw[bu] at f;go_wp2_with fail;go_ret;rw[<-f.o];exact⟨b,c,rfl,l,hb⟩
structure Kf (B:Nat)(w w':ax):Prop where
 os:w'.os=w.os
 tape:w'.tape=w.tape
 output:w'.output=w.output
 size:w.heap.size<=w'.heap.size
 low:∀k:Nat,k<w.heap.size->k<B->w'.heap[k]?=w.heap[k]?
 h8:∀(k:Nat) cs e m,w.heap[k]?=some (Obj.cells cs e m)->e≠129->e≠107->w'.heap[k]?=w.heap[k]?
section
variable {B:Nat}{w w' w'':ax}
theorem Kf.refl (B:Nat)(w:ax):Kf B w w:=⟨rfl,rfl,rfl,aD _,fun _ _ _=>rfl,fun _ _ _ _ _ _ _=>rfl⟩
theorem Kf.trans (h:Kf B w w')(k:Kf B w' w''):Kf B w w'':=
 ⟨k.os.trans h.os,k.tape.trans h.tape,k.output.trans h.output,aT h.size k.size,fun i hi hb=>(k.low i (aM hi h.size) hb).trans (h.low i hi hb),fun i b e m hi c d=>(k.h8 i b e m ((h.h8 i b e m hi c d).trans hi) c d).trans (h.h8 i b e m hi c d)⟩
theorem Kf.of (h:Below w.heap.size w w'):Kf B w w':=⟨h.os,h.tape,h.output,h.size,fun k hk _=>h.block k hk,fun k _ _ _ hi _ _=>h.block k (lt_of_some hi)⟩
theorem Kf.below (h:Kf B w w')(hB:B<=w.heap.size):Below B w w':=⟨h.os,h.tape,h.output,h.size,fun k hk=>h.low k V hk⟩
theorem Kf.set {pk o:Nat}{b:Array Value}{m:Nat×Nat}{e:TypeId}{v:Value}(hp:w.heap[pk]?=some (.cells b e m))(he:e=129\/e=107)(hB:B<=pk):Kf B w (w.setCell ⟨pk,o,none⟩ v):=
 ⟨rfl,rfl,rfl,by simp[World.setCell],fun k _ hk=>aU _ _ _ _ (fun c=>by have c:k=pk:=c;omega),fun k g i j hk d f=>aU _ _ _ _ (fun c=>by
  rw[c,hp] at hk;simp at hk;rcases he with he|he
  ·exact d (hk.2.1.symm.trans he)
  ·exact f (hk.2.1.symm.trans he))⟩
theorem Kf.grown {row:Option Nat}(g:w.grownBy w' row)(hr:∀k,row=some k->B<=k/\∀b e m,w.heap[k]?=some (.cells b e m)->e=129\/e=107):Kf B w w':=
 ⟨g.os,g.tape,g.output,g.size,fun k hk hb=>g.block k hk (fun e=>by have:=(hr k e.symm).1;omega),fun k b e m hk d f=>g.block k (lt_of_some hk) (fun c=>((hr k c.symm).2 b e m hk).elim d f)⟩
theorem fj.kf {ad:Option Addr}{l:List _}(h:fj w ad l)(k:Kf B w w'):fj w' ad l:=by exact sG
end
structure mV (w:ax)(pw p q N O y g:Nat)(ws:List Int)(sd:Nat)(v0:Value)(a1:Option Addr)(k1:Nat)(Q:List b7):Prop where
 c0:w.cell? (aq pw 0)=some (aj p)
 c2:w.cell? (aq pw 2)=some (aj sd)
 ar:At w p q N O y g ws
 hs:w.heap[sd]?=some (.cells #[v0,.slice a1 Q.length k1] 153 (0,0))
 hp:dv w a1 Q
 hm:Q.length<=90000
theorem mV.low {w0 w:ax}{pw p q N O y g:Nat}{ws:List Int}{sd:Nat}{v0:Value}{a1:Option Addr}{k1:Nat}{Q:List b7}(h:mV w0 pw p q N O y g ws sd v0 a1 k1 Q)(hb:Below w0.heap.size w0 w):mV w pw p q N O y g ws sd v0 a1 k1 Q:=
 ⟨(
  hb.cell (aQ w0 _ h.c0)).trans h.c0,(hb.cell (aQ w0 _ h.c2)).trans h.c2,h.ar.below hb bW,(hb.block sd (lt_of_some h.hs)).trans h.hs,
  h.hp.keep hb.size (fun hp a e=>by obtain⟨d,f,b,c,_⟩:=h.hp hp;rw[b] at e;cases e;exact hb.block _ c),h.hm⟩
def nb (ms:List Int)(a:Int):Int:=if ms.contains a=true then(ms.idxOf a:Int) else-1
theorem Dw {ms:List Int}{a:Int}(hn:a∉ms)(b:Int):nb (ms++[a]) b=if b=a then(ms.length:Int) else nb ms b:=by
 unfold nb;by_cases e:b=a
 ·subst e;rw[aI rfl,aI Z,List.idxOf_append,aG hn];simp
 ·rw[aG e];by_cases c:b∈ms
  ·rw[aI (by simp[c]),aI (by simpa using c),List.idxOf_append,aI c]
  ·rw[aG (by simp[c,e]),aG (by simpa using c)]
theorem Dy {ms:List Int}{a:Int}(hn:a∉ms):nb ms a=-1:=by unfold nb;rw[aG (by simpa using hn)]
theorem Dz {ms:List Int}{a:Int}(h:a∈ms):nb ms a=(ms.idxOf a:Int):=by unfold nb;rw[aI (by simpa using h)]
theorem iM:Maps.Keyed prog 3:=Maps.int_keyed underlying3
theorem lV (w:ax):(zeroValue 3).run prog w=.ok (ah 0) w:=ae
def Nm (w:ax)(ch:Nat)(T ms:List Int):Prop:=
 ∃D:DataW Unit,w.ownsMap prog 3 (plainElem prog 3) ch T.length D/\(∀a:Int,Maps.has D (.int .i64 a)=T.contains a)/\∀a∈T,D.atKey (.int .i64 a) (.lit (.int .i64 0))=.lit (.int .i64 (nb ms a))
theorem Nm.same {w w':ax}{ch:Nat}{T ms:List Int}(h:Nm w ch T ms)(e:w'.heap[ch]?=w.heap[ch]?):Nm w' ch T ms:=by obtain⟨D,b,c,d⟩:=h;exact⟨D,sA b e,c,d⟩
structure Wk (w0 w:ax)(pk ch pw:Nat)(T:List Int)(s:cQ)(vn:Value)(m:List dT):Prop where
 blk:w.heap[pk]?=some (.cells #[aj pw,.map (some ch),vn] 129 (0,0))
 lo:w0.heap.size<=pk/\w0.heap.size<=ch
 mp:Nm w ch T s.1
 row:w.ownsRow w0.heap.size 107 2 vn m.length (nv m)
 nd:hQ m=s.2
 fl:∀x∈m,fj w x.2.1 x.2.2.2
 eH:Below w0.heap.size w0 w
section
variable {w0 w w':ax}{pk ch pw:Nat}{T:List Int}{s:cQ}{vn:Value}{m:List dT}
theorem Wk.below (h:Wk w0 w pk ch pw T s vn m)(hb:Below w.heap.size w w'):Wk w0 w' pk ch pw T s vn m:=by obtain⟨D,o1,c,d⟩:=h.mp;exact⟨(hb.block pk (lt_of_some h.blk)).trans h.blk,h.lo,h.mp.same (hb.block ch o1.lt),cH h.row (fun k hk=>hb.block k (cn h.row k hk).2),h.nd,fun x b=>(h.fl x b).kf (Kf.of (B:=0) hb),h.eH.trans (hb.mono h.eH.size)⟩
theorem Wk.cells (h:Wk w0 w pk ch pw T s vn m):w.cell? (aq pk 0)=some (aj pw)/\w.cell? (aq pk 1)=some (.map (some ch))/\w.cell? (aq pk 2)=some vn/\pk<w.heap.size:=
 ⟨by simp[World.cell?,h.blk],by simp[World.cell?,h.blk],by simp[World.cell?,h.blk],lt_of_some h.blk⟩
theorem Wk.len (h:Wk w0 w pk ch pw T s vn m):m.length=s.2.length:=by rw[<-h.nd];simp[hQ]
end
theorem mW (x:Int)(h:(Lit.int .i64 x).wf=true):plainElem (H:=Unit) prog 3 (.int .i64 x)=some (.lit (.int .i64 x),[]):=plainElem_int underlying3 h
theorem jc {a:Int}(h0:0<=a)(b:a<1152921504606846976):keyOf prog 3 (.int .i64 a)=some (.int .i64 a):=Maps.keyOf_int_mk underlying3 (WalkArith.wf_i64 ⟨V,V⟩)
theorem Nm.add {w w':ax}{ch n:Nat}{T:List Int}{a:Int}{D:DataW Unit}(c:w.ownsMap prog 3 (plainElem prog 3) ch T.length D)(f:∀a:Int,Maps.has D (.int .i64 a)=T.contains a)(g:∀a∈T,D.atKey (.int .i64 a) (.lit (.int .i64 0))=.lit (.int .i64 (nb [] a)))
 (hn:n=T.length+1)(d:w'.ownsMap prog 3 (plainElem prog 3) ch n (D.put (.int .i64 a) (.lit (.int .i64 (-1))))):Nm w' ch (T++[a]) []:=by
 refine⟨_,by rw[hn] at d;simpa using d,fun b=>?_,fun b hb=>?_⟩
 ·by_cases e:b=a
  ·subst e;rw[Maps.has_put_same (k:=.int .i64 b) c.isMap trivial];simp
  ·rw[Maps.has_put_other (by simpa using e),f];simp[e]
 ·by_cases e:b=a
  ·subst e;rw[Maps.atKey_put_same (k:=.int .i64 b) c.isMap trivial];rfl
  ·rw[Maps.atKey_put_other (by simpa using e)];refine g b ?_;rcases List.mem_append.1 hb with hb|hb
   ·exact hb
   ·simp at hb;exact absurd hb e
theorem Nm.put {w w':ax}{ch n:Nat}{T ms:List Int}{a:Int}{D:DataW Unit}(h1:w.ownsMap prog 3 (plainElem prog 3) ch T.length D)(c:∀a:Int,Maps.has D (.int .i64 a)=T.contains a)(h3:∀a∈T,D.atKey (.int .i64 a) (.lit (.int .i64 0))=.lit (.int .i64 (nb ms a)))
 (ha:a∈T)(hm:a∉ms)(d:w'.ownsMap prog 3 (plainElem prog 3) ch n (D.put (.int .i64 a) (.lit (.int .i64 ms.length)))):Nm w' ch T (ms++[a]):=by
 have hs:Maps.size (D.put (.int .i64 a) (.lit (.int .i64 ms.length)))<=T.length:=by rw[Maps.size_put (h1.tidy iM),c,aI (by simpa using ha)];exact h1.size_le
 refine⟨_,(sB d rfl).mono hs,fun b=>?_,fun b hb=>?_⟩
 ·by_cases e:b=a
  ·subst e;rw[Maps.has_put_same (k:=.int .i64 b) h1.isMap trivial];simp[ha]
  ·rw[Maps.has_put_other (by simpa using e),c]
 ·rw[Dw hm];exact xj
section
variable {w:ax}{pw p q N O y g:Nat}{ws:List Int}
theorem n3 (a:Int)(h:a∈ei N y g ws):0<=a/\a<y:=mO _ _ _ h
theorem qf (a:Int)(h:a∈dD N y g ws):(N:Int)<=a/\a<(N:Int)+g:=mO _ _ _ h
theorem ba {α:Type _}(«as» bs cs:List α):«as» ++ bs ++ cs = «as» ++ (bs ++ cs):=List.append_assoc ..
theorem DA (c0:w.cell? (aq pw 0)=some (aj p))(h:At w p q N O y g ws):
 Calls prog 64 #[aj pw] w fun e w'=>∃ai ch,e=.returned (aj ai)/\Wk w w' ai ch pw (ei N y g ws++dD N y g ws) ([],[]) (.slice none 0 0) []:=by
 have bp:=@run_makeMap prog;have al:(ei N y g ws).length<=2000:=iL _ _;have hO:(dD N y g ws).length<=2000:=iL _ _;have hv:=mW (-1) aa;have k1:=h.hN';have br:=h.hy;have bs:=h.hO;have bt:=h.hg;have I:ay (∀a∈ei N y g ws,0<=a/\a<2000):=fun a ha=>by have:=n3 a ha;omega
 have J:ay (∀a∈dD N y g ws,0<=a/\a<2000):=fun a ha=>by have:=qf a ha;omega
 have am:Nm (w.alloc (.map #[] 0)) w.heap.size [] []:=⟨_,(World.ownsMap_made w prog 3 (plainElem (H:=Unit) prog 3)),fun _=>rfl,fun a ha=>by simp at ha⟩
 have n:=(au w (.map #[] 0)).alloc Z (.cells #[.pointer (some ⟨pw,0,none⟩),.map (some w.heap.size),.slice none 0 0] 129)
 have K:=aN (w.alloc (.map #[] 0)) (.cells #[.pointer (some ⟨pw,0,none⟩),.map (some w.heap.size),.slice none 0 0] 129)
 have an:=am.same (w':=(w.alloc (.map #[] 0)).alloc (.cells #[.pointer (some ⟨pw,0,none⟩),.map (some w.heap.size),.slice none 0 0] 129)) (aS _ _ _ Z)
 have aR:=(n.cell (p:=aq pw 0) (aQ w _ c0)).trans c0;have P:=p6 _ (h.below n bW)
 clear am h;generalize ei N y g ws=fV at P al hO I J⊢;generalize dD N y g ws=d at P al hO I J⊢;go_enter func64,ntmps64;go_wp2_with fail;refine P.mono ?_;clear P;rintro e F ⟨v1,v2,rfl,u,v,G⟩
 obtain⟨ao,aV,rfl⟩:=eE u;obtain⟨ap,a0,rfl⟩:=eE v;have a1:=n.trans (G.mono n.size)
 rw[World.size_alloc] at K;have L:=(G.block (w.heap.size+1) Z).trans K;have ar:=an.same (G.block w.heap.size (by simp;omega))
 have M:=gH u;have Q:=gH v;have aB:∀k,some k=(Value.slice ao (fV).length aV).ownBlock->k≠w.heap.size:=fun k e=>by have:=(cn u k e).1;simp at this;omega
 have aF:∀k,some k=(Value.slice ap (d).length a0).ownBlock->k≠w.heap.size:=fun k e=>by have:=(cn v k e).1;simp at this;omega
 have a2:ay (∀s,Fr (fun k=>k=w.heap.size) F s->iI s ao (fV)):=fun s f=>M.keep f.size (fun hp a e=>f.block _ (by obtain⟨b,o,l,hb,_⟩:=M hp;rw[e] at l;cases l;exact hb) (fun c=>by obtain⟨b,cap,l⟩:=eT u hp;cases l;cases e;exact aB _ rfl c))
 have bb:ay (∀s,Fr (fun k=>k=w.heap.size) F s->iI s ap (d)):=fun s f=>Q.keep f.size (fun hp a e=>f.block _ (by obtain⟨b,o,l,hb,_⟩:=Q hp;rw[e] at l;cases l;exact hb) (fun c=>by obtain⟨b,cap,l⟩:=eT v hp;cases l;cases e;exact aF _ rfl c))
 have R:=lt_of_some L;have S:=hide L;clear aB aF M Q u v an K aR n G L;go_wp2_with fail
 go_loopw [24] (fun iv wr=>∃(j:Nat),j<=fV.length/\iv=ah j/\Nm wr w.heap.size (fV.take j) []/\Fr (fun k=>k=w.heap.size) F wr) (fun iv _=>fV.length-(intOf iv).toNat)
 exact⟨0,aY _,rfl,ar,Fr.refl _ _⟩
 ·
   obtain⟨j,bd,rfl,hN,i⟩:=hrel;clear ar;have U:wr.cell? (aq (w.heap.size+1) 1)=some (.map (some w.heap.size)):=by have:=(i.block (w.heap.size+1) R V).trans S.o;simp[World.cell?,this]
   by_cases m:j<fV.length
   ·obtain⟨be,bg,W,n,hc⟩:=a2.o wr i V;have X:=hc j m;subst W;clear hc;have A:fV.getD j 0∈fV:=by rw[aE,aL m];exact a6 m
    have Y:=I.o _ A;have B:=hide (gx fV j m 0)
    clear A;generalize fV.getD j 0=z at X Y B;have bi:=jc (a:=z) V V;obtain⟨D,o1,C,E⟩:=hN;have bl:(fV.take j).length<100000:=by simp;omega
    have t:=g6 o1 C E;clear C E;generalize fV.take j=ab at*;go_wp2_with (first
     |(at_mapUpdate;refine wpList_mapUpdate_own _ rfl _ _ _ 127 rfl 3 3 iM underlying127 (plainElem (H:=Unit) prog 3) w.heap.size ab.length D rfl o1 (by unfold maxLen;omega) _ _ _ rfl rfl bi _ [] hv ?_;intro bn ad ag)
     |go_in)
    go_roundw;exact⟨j+1,V,af,by rw[B.o];exact Nm.add t.o.1 t.o.2.1 t.o.2.2 rfl ad,i.grown ag (fun k e=>aK (by cases e;rfl))⟩
    simp[intOf];omega
   ·obtain rfl:j=fV.length:=V;rw[bu] at hN;clear U;go_wp2_with fail
    go_loopw [36] (fun iv wr=>∃(j:Nat),j<=d.length/\iv=ah j/\Nm wr w.heap.size (fV++d.take j) []/\Fr (fun k=>k=w.heap.size) F wr) (fun iv _=>d.length-(intOf iv).toNat)
    exact⟨0,aY _,rfl,by simpa using hN,i⟩
    ·
      clear hN i;obtain⟨j,bd,rfl,hN,i⟩:=hrel;rename_i bx _ _ _ wr _ _;have U:wr.cell? (aq (w.heap.size+1) 1)=some (.map (some w.heap.size)):=by have:=(i.block (w.heap.size+1) R V).trans S.o;simp[World.cell?,this]
      by_cases m:j<d.length
      ·obtain⟨be,bg,W,n,hc⟩:=bb.o wr i V;have X:=hc j m;subst W;clear hc;have A:d.getD j 0∈d:=by rw[aE,aL m];exact a6 m
       have Y:=J.o _ A;have B:ay (fV++d.take (j+1)=(fV++d.take j)++[d.getD j 0]):=by show _=_;rw[gx d j m 0,ba]
       clear A;generalize d.getD j 0=z at X Y B;obtain⟨D,o1,C,E⟩:=hN;have bl:(fV++d.take j).length<100000:=by simp;omega
       have t:=g6 o1 C E;clear C E;generalize fV++d.take j=ab at*;go_wp2_with (first
        |(at_mapUpdate;refine wpList_mapUpdate_own _ rfl _ _ _ 127 rfl 3 3 iM underlying127 (plainElem (H:=Unit) prog 3) w.heap.size ab.length D rfl o1 (by unfold maxLen;omega) _ _ _ rfl rfl (jc (a:=z) V V) _ [] hv ?_;intro bn ad ag)
        |go_in)
       go_roundw;exact⟨j+1,V,af,by rw[B.o];exact Nm.add t.o.1 t.o.2.1 t.o.2.2 rfl ad,i.grown ag (fun k e=>aK (by cases e;rfl))⟩
       simp[intOf];omega
      ·obtain rfl:j=d.length:=V;rw[bu] at hN;clear U;go_wp2_with fail;go_ret;exact⟨w.heap.size+1,w.heap.size,rfl,(i.block (w.heap.size+1) R V).trans S.o,⟨V,aD _⟩,hN,bc _ _ _ _,rfl,fun x bo=>by simp at bo,a1.trans (i.below V (fun k e=>by have e:=e;omega))⟩
end
structure b8 (F:Nat->Prop)(w:ax)(F':Nat->Prop)(w':ax):Prop where
 fr:Fr F w w'
 sub:∀b,F' b->F b\/w.heap.size<=b
theorem b8.refl (F:Nat->Prop)(w:ax):b8 F w F w:=⟨Fr.refl _ _,fun _ h=>aK h⟩
theorem b8.trans {F d e:Nat->Prop}{w w' f:ax}(h:b8 F w d w')(k:b8 d w' e f):b8 F w e f:=
 ⟨h.fr.trans k.fr h.sub,fun b hb=>(k.sub b hb).elim (h.sub b) (fun c=>aJ (aT h.fr.size c))⟩
theorem b8.of {F:Nat->Prop}{w w':ax}(h:Below w.heap.size w w'):b8 F w F w':=⟨Fr.of h,fun _ h=>aK h⟩
theorem b8.below {F b:Nat->Prop}{w w' c:ax}(h:b8 F w b w')(hb:Below w'.heap.size w' c):b8 F w b c:=h.trans (b8.of hb)
theorem bw {α:Type _}{i:Nat}{l:List α}:(List.take i l).length = Min.min i l.length:=List.length_take ..
theorem sM {w:ax}{base g n cap:Nat}{e:TypeId}{b:List Value}(h:w.ownsRow base e 1 (.slice (ak g) n cap) n b)(m:Nat)(hm:m<=n):w.ownsRow base e 1 (.slice (ak g) m cap) m (b.take m):=by
 obtain⟨l,c⟩:=h;rcases c with⟨hv,_⟩|⟨o,p,d,hv,hb,f,q,i,j,k⟩
 ·simp at hv
 ·obtain⟨rfl,rfl⟩:=hv;refine⟨by rw[bw];omega,aJ ⟨g,cap,d,rfl,hb,f,V,i,j,?_⟩⟩
  rw[<-k,List.take_take]
  congr 1
  omega
theorem sN {w:ax}{base g n cap:Nat}{e:TypeId}{b:List Value}(h:w.ownsRow base e 1 (.slice (ak g) n cap) n b):n<=cap/\cap<=maxLen:=by
 rcases h.2 with⟨hv,_⟩|⟨f,i,j,hv,hb,k,c,d,l,m⟩
 ·simp at hv
 ·obtain⟨rfl,rfl⟩:=hv;exact⟨c,d⟩
def Mp (w:ax)(ch:Nat)(T:List Int)(f:Int->Int):Prop:=
 ∃D:DataW Unit,w.ownsMap prog 3 (plainElem prog 3) ch T.length D/\(∀a:Int,Maps.has D (.int .i64 a)=T.contains a)/\∀a∈T,D.atKey (.int .i64 a) (.lit (.int .i64 0))=.lit (.int .i64 (f a))
theorem Mp.same {w w':ax}{ch:Nat}{T:List Int}{f:Int->Int}(h:Mp w ch T f)(e:w'.heap[ch]?=w.heap[ch]?):Mp w' ch T f:=by obtain⟨D,b,c,d⟩:=h;exact⟨D,sA b e,c,d⟩
theorem Mp.lt {w:ax}{ch:Nat}{T:List Int}{f:Int->Int}(h:Mp w ch T f):ch<w.heap.size:=by obtain⟨D,b,_⟩:=h;exact b.lt
theorem Mp.put {w w':ax}{ch n:Nat}{T:List Int}{f:Int->Int}{a v:Int}{D:DataW Unit}(h1:w.ownsMap prog 3 (plainElem prog 3) ch T.length D)(c:∀a:Int,Maps.has D (.int .i64 a)=T.contains a)(h3:∀a∈T,D.atKey (.int .i64 a) (.lit (.int .i64 0))=.lit (.int .i64 (f a)))
 (ha:a∈T)(d:w'.ownsMap prog 3 (plainElem prog 3) ch n (D.put (.int .i64 a) (.lit (.int .i64 v)))):Mp w' ch T (gz f a v):=by
 have hs:Maps.size (D.put (.int .i64 a) (.lit (.int .i64 v)))<=T.length:=by rw[Maps.size_put (h1.tidy iM),c,aI (by simpa using ha)];exact h1.size_le
 refine⟨_,(sB d rfl).mono hs,fun b=>?_,fun b hb=>?_⟩
 ·by_cases e:b=a
  ·subst e;rw[Maps.has_put_same (k:=.int .i64 b) h1.isMap trivial];simp[ha]
  ·rw[Maps.has_put_other (by simpa using e),c]
 ·unfold gz;exact xj
theorem Mp.add {w w':ax}{ch n:Nat}{T:List Int}{a v:Int}{f:Int->Int}{D:DataW Unit}(c:w.ownsMap prog 3 (plainElem prog 3) ch T.length D)(g:∀a:Int,Maps.has D (.int .i64 a)=T.contains a)(i:∀a∈T,D.atKey (.int .i64 a) (.lit (.int .i64 0))=.lit (.int .i64 (f a)))
 (hv:f a=v)(hn:n=T.length+1)(d:w'.ownsMap prog 3 (plainElem prog 3) ch n (D.put (.int .i64 a) (.lit (.int .i64 v)))):Mp w' ch (T++[a]) f:=by
 refine⟨_,by rw[hn] at d;simpa using d,fun b=>?_,fun b hb=>?_⟩
 ·by_cases e:b=a
  ·subst e;rw[Maps.has_put_same (k:=.int .i64 b) c.isMap trivial];simp
  ·rw[Maps.has_put_other (by simpa using e),g];simp[e]
 ·by_cases e:b=a
  ·subst e;rw[Maps.atKey_put_same (k:=.int .i64 b) c.isMap trivial,hv]
  ·rw[Maps.atKey_put_other (by simpa using e)];refine i b ?_;rcases List.mem_append.1 hb with hb|hb
   ·exact hb
   ·simp at hb;exact absurd hb e
structure gj where
 pk:Nat
 ch:Nat
 pw:Nat
 p:Nat
 q:Nat
 pc:Nat
 cO:Nat
 sd:Nat
 nb:Nat
 c:Int
 M:List Int
structure qg (c:gj)(k:ce)(own:Nat->Nat)(s:cj)(cG cr:Value)(w:ax):Prop where
 ar:At w c.p c.q k.N k.O k.y s.g s.ws
 a1:own c.p=1
 a2:own c.q=1
 cd:Cd w c.pc c.cO k.N c.c c.M
 c1:own c.pc=2
 c2:own c.cO=2
 wd:w.heap[c.pw]?=some (.cells #[aj c.p,aj c.pc,aj c.sd,.slice (ak c.nb) 12 12] 55 (0,0))
 w1:own c.pw=3
 rt:w.heap[c.nb]?=some (.cells (s.rs.map (Value.int .i64)).toArray 2 (0,0))
 rl:s.rs.length=12
 r1:own c.nb=4
 cb:w.heap[c.pk]?=some (.cells #[aj c.pw,.map (some c.ch),ah s.nx,cG,cr] 167 (0,0))
 k1:own c.pk=5
 mp:Mp w c.ch k.T s.f
 m1:own c.ch=6
 wr:w.ownsRow 0 3 1 cG s.wk.length (s.wk.map (Value.int .i64))
 dx:∀b,some b=cG.ownBlock->own b=7
 er:w.ownsRow 0 3 1 cr s.ep.length (s.ep.map (Value.int .i64))
 eo:∀b,some b=cr.ownBlock->own b=8
 lt:∀b,own b≠0->b<w.heap.size
section
variable {c:gj}{k:ce}{own:Nat->Nat}{s:cj}{cG cr:Value}{w w':ax}
theorem qg.but (h:qg c k own s cG cr w)(L:Nat->Prop)(hs:w.heap.size<=w'.heap.size)(hk:∀b,b<w.heap.size->own b≠0->¬L (own b)->w'.heap[b]?=w.heap[b]?)
 (f:L 1->At w' c.p c.q k.N k.O k.y s.g s.ws)(g:L 4->w'.heap[c.nb]?=some (.cells (s.rs.map (Value.int .i64)).toArray 2 (0,0)))(hK:L 5->w'.heap[c.pk]?=some (.cells #[aj c.pw,.map (some c.ch),ah s.nx,cG,cr] 167 (0,0)))
 (hM:L 6->Mp w' c.ch k.T s.f)(i:L 7->w'.ownsRow 0 3 1 cG s.wk.length (s.wk.map (Value.int .i64)))(hE:L 8->w'.ownsRow 0 3 1 cr s.ep.length (s.ep.map (Value.int .i64)))(d:¬L 2)(j:¬L 3):qg c k own s cG cr w' where
 ar:=by
  by_cases l:L 1
  ·exact f l
  ·exact h.ar.same (hk _ h.ar.eL (by rw[h.a1];decide) (by rw[h.a1];exact l)) (hk _ h.ar.eM (by rw[h.a2];decide) (by rw[h.a2];exact l))
 a1:=h.a1
 a2:=h.a2
 cd:=h.cd.same (hk _ h.cd.eL (by rw[h.c1];decide) (by rw[h.c1];exact d)) (hk _ h.cd.eM (by rw[h.c2];decide) (by rw[h.c2];exact d))
 c1:=h.c1
 c2:=h.c2
 wd:=(hk _ (lt_of_some h.wd) (by rw[h.w1];decide) (by rw[h.w1];exact j)).trans h.wd
 w1:=h.w1
 rt:=by
  by_cases l:L 4
  ·exact g l
  ·exact(hk _ (lt_of_some h.rt) (by rw[h.r1];decide) (by rw[h.r1];exact l)).trans h.rt
 rl:=h.rl
 r1:=h.r1
 cb:=by exact xl
 k1:=h.k1
 mp:=by
  by_cases l:L 6
  ·exact hM l
  ·exact h.mp.same (hk _ h.mp.lt (by rw[h.m1];decide) (by rw[h.m1];exact l))
 m1:=h.m1
 wr:=by
  by_cases l:L 7
  ·exact i l
  ·exact cH h.wr (fun b e=>hk b (cn h.wr b e).2 (by rw[h.dx b e];decide) (by rw[h.dx b e];exact l))
 dx:=h.dx
 er:=by exact xk
 eo:=h.eo
 lt:=fun b hb=>aM (h.lt b hb) hs
end
def cutV (c:gj)(k:ce)(cG e:Value):dr cj where
 J F s w:=∃own,qg c k own s cG e w/\∀b,F b↔own b≠0
 lt:=by rintro F s w ⟨own,h,d⟩ b hb;exact h.lt b ((d b).1 hb)
 keep:=by rintro F s w w' ⟨own,h,d⟩ hs hk;exact⟨own,h.but (fun _=>False) hs (fun b _ hb _=>hk b ((d b).2 hb)) False.elim False.elim False.elim False.elim False.elim False.elim id id,d⟩
def d7 (c:gj)(k:ce):dr cj where
 J F s w:=∃cG b,(cutV c k cG b).J F s w
 lt:=by
  rintro F s w ⟨cG,b,h⟩
  exact(cutV c k cG b).lt h
 keep:=by rintro F s w w' ⟨cG,b,h⟩ hs hk;exact⟨cG,b,(cutV c k cG b).keep h hs hk⟩
section
variable {c:gj}{k:ce}{cG cr:Value}{F:Nat->Prop}{s:cj}{w w':ax}
theorem iN (h:(cutV c k cG cr).J F s w):At w c.p c.q k.N k.O k.y s.g s.ws/\∀w' g ws,At w' c.p c.q k.N k.O k.y g ws->c_ c.p c.q w w'->(cutV c k cG cr).J F {s with g:=g,ws:=ws} w'/\b8 F w F w':=by
 obtain⟨own,h,f⟩:=h;refine⟨h.ar,fun w' g ws ha d=>⟨⟨own,?_,f⟩,⟨⟨d.os,d.tape,d.output,d.size,fun b hb hn=>d.block b hb (fun e=>hn ((f b).2 (by rw[e,h.a1];decide))) (fun e=>hn ((f b).2 (by rw[e,h.a2];decide)))⟩,fun _ h=>aK h⟩⟩⟩
 have hb:∀b,b<w.heap.size->own b≠0->¬own b=1->_=_:=fun b hb _ hn=>d.block b hb (fun e=>hn (by rw[e];exact h.a1)) (fun e=>hn (by rw[e];exact h.a2))
 exact {
  ar:=ha,a1:=h.a1,a2:=h.a2,c1:=h.c1,c2:=h.c2,w1:=h.w1,rl:=h.rl,r1:=h.r1,k1:=h.k1,m1:=h.m1,dx:=h.dx,eo:=h.eo,lt:=fun b hb=>aM (h.lt b hb) d.size
  cd:=h.cd.same (hb _ h.cd.eL (by rw[h.c1];decide) (by rw[h.c1];decide)) (hb _ h.cd.eM (by rw[h.c2];decide) (by rw[h.c2];decide))
  wd:=(hb _ (lt_of_some h.wd) (by rw[h.w1];decide) (by rw[h.w1];decide)).trans h.wd
  rt:=(hb _ (lt_of_some h.rt) (by rw[h.r1];decide) (by rw[h.r1];decide)).trans h.rt
  cb:=(hb _ (lt_of_some h.cb) (by rw[h.k1];decide) (by rw[h.k1];decide)).trans h.cb
  mp:=h.mp.same (hb _ h.mp.lt (by rw[h.m1];decide) (by rw[h.m1];decide))
  wr:=cH h.wr (fun b e=>hb b (cn h.wr b e).2 (by rw[h.dx b e];decide) (by rw[h.dx b e];decide))
  er:=cH h.er (fun b e=>hb b (cn h.er b e).2 (by rw[h.eo b e];decide) (by rw[h.eo b e];decide))}
theorem xo (h:(cutV c k cG cr).J F s w):Mp w c.ch k.T s.f/\∀w' f,Mp w' c.ch k.T f->Fr (fun b=>b=c.ch) w w'->(cutV c k cG cr).J F {s with f:=f} w'/\b8 F w F w':=by
 obtain⟨own,h,d⟩:=h;refine⟨h.mp,fun w' f hm fr=>⟨⟨own,?_,d⟩,⟨fr.mono (fun b e=>(d b).2 (by rw[e,h.m1];decide)),fun _ h=>aK h⟩⟩⟩
 have hb:∀b,b<w.heap.size->own b≠6->_=_:=fun b hb hn=>fr.block b hb (fun e=>hn (by rw[e];exact h.m1))
 exact {
  mp:=hm,a1:=h.a1,a2:=h.a2,c1:=h.c1,c2:=h.c2,w1:=h.w1,rl:=h.rl,r1:=h.r1,k1:=h.k1,m1:=h.m1,dx:=h.dx,eo:=h.eo,lt:=fun b hb=>aM (h.lt b hb) fr.size
  ar:=h.ar.same (hb _ h.ar.eL (by rw[h.a1];decide)) (hb _ h.ar.eM (by rw[h.a2];decide))
  cd:=h.cd.same (hb _ h.cd.eL (by rw[h.c1];decide)) (hb _ h.cd.eM (by rw[h.c2];decide))
  wd:=(hb _ (lt_of_some h.wd) (by rw[h.w1];decide)).trans h.wd
  rt:=(hb _ (lt_of_some h.rt) (by rw[h.r1];decide)).trans h.rt
  cb:=(hb _ (lt_of_some h.cb) (by rw[h.k1];decide)).trans h.cb
  wr:=cH h.wr (fun b e=>hb b (cn h.wr b e).2 (by rw[h.dx b e];decide))
  er:=cH h.er (fun b e=>hb b (cn h.er b e).2 (by rw[h.eo b e];decide))}
theorem DB (h:(cutV c k cG cr).J F s w)(i:Nat)(x:Int):(cutV c k cG cr).J F {s with rs:=s.rs.set i x} (w.setCell ⟨c.nb,i,none⟩ (.int .i64 x))/\b8 F w F (w.setCell ⟨c.nb,i,none⟩ (.int .i64 x)):=by
 obtain⟨own,h,d⟩:=h;have fr:Fr (fun b=>b=c.nb) w (w.setCell ⟨c.nb,i,none⟩ (.int .i64 x)):=(Fr.refl _ w).set _ i _ rfl;refine⟨⟨own,?_,d⟩,⟨fr.mono (fun b e=>(d b).2 (by rw[e,h.r1];decide)),fun _ h=>aK h⟩⟩
 have hb:∀b,b<w.heap.size->own b≠4->_=_:=fun b hb hn=>fr.block b hb (fun e=>hn (by rw[e];exact h.r1))
 exact {
  mp:=h.mp.same (hb _ h.mp.lt (by rw[h.m1];decide)),a1:=h.a1,a2:=h.a2,c1:=h.c1,c2:=h.c2,w1:=h.w1,r1:=h.r1,k1:=h.k1,m1:=h.m1,dx:=h.dx,eo:=h.eo,lt:=fun b hb=>aM (h.lt b hb) fr.size
  rl:=by rw[a4];exact h.rl
  ar:=h.ar.same (hb _ h.ar.eL (by rw[h.a1];decide)) (hb _ h.ar.eM (by rw[h.a2];decide))
  cd:=h.cd.same (hb _ h.cd.eL (by rw[h.c1];decide)) (hb _ h.cd.eM (by rw[h.c2];decide))
  wd:=(hb _ (lt_of_some h.wd) (by rw[h.w1];decide)).trans h.wd
  rt:=by simp only [World.setCell,Array.getElem?_modify,if_true,h.rt,Option.map_some];simp[List.map_set]
  cb:=(hb _ (lt_of_some h.cb) (by rw[h.k1];decide)).trans h.cb
  wr:=cH h.wr (fun b e=>hb b (cn h.wr b e).2 (by rw[h.dx b e];decide))
  er:=cH h.er (fun b e=>hb b (cn h.er b e).2 (by rw[h.eo b e];decide))}
theorem d8 (h:(cutV c k cG cr).J F s w):w.cell? (aq c.pk 0)=some (aj c.pw)/\w.cell? (aq c.pk 1)=some (.map (some c.ch))/\w.cell? (aq c.pk 2)=some (ah s.nx)/\w.cell? (aq c.pk 3)=some cG/\w.cell? (aq c.pk 4)=some cr/\
 w.cell? (aq c.pw 0)=some (aj c.p)/\w.cell? (aq c.pw 1)=some (aj c.pc)/\w.cell? (aq c.pw 2)=some (aj c.sd)/\w.cell? (aq c.pw 3)=some (.slice (ak c.nb) 12 12)/\(∀o,w.frozen? (aq c.pk o)=false)/\
 w.ownsRow 0 3 1 cG s.wk.length (s.wk.map (Value.int .i64))/\w.ownsRow 0 3 1 cr s.ep.length (s.ep.map (Value.int .i64))/\Cd w c.pc c.cO k.N c.c c.M/\c.pk<w.heap.size/\c.pw<w.heap.size:=by
 obtain⟨own,h,e⟩:=h;have b:=h.cb;have d:=h.wd;exact⟨by simp[World.cell?,b],by simp[World.cell?,b],by simp[World.cell?,b],by simp[World.cell?,b],by simp[World.cell?,b],by simp[World.cell?,d],by simp[World.cell?,d],by simp[World.cell?,d],by simp[World.cell?,d],fun o=>by simp[World.frozen?,b],h.wr,h.er,h.cd,lt_of_some b,lt_of_some d⟩
theorem xp (h:(cutV c k cG cr).J F s w):s.rs.length=12/\c.nb<w.heap.size/\∀i,i<12->w.cell? (aq c.nb i)=some (ah (s.rs.getD i 0))/\w.frozen? (aq c.nb i)=false:=by
 obtain⟨own,h,b⟩:=h;have hl:=h.rl;refine⟨hl,lt_of_some h.rt,fun i hi=>⟨?_,?_⟩⟩
 ·simp[World.cell?,h.rt,List.getElem?_map,List.getElem?_eq_getElem (show i<s.rs.length by omega),List.getD_eq_getElem?_getD]
 ·simp[World.frozen?,h.rt]
theorem DC (h:(cutV c k cG cr).J F s w):c.pk≠c.ch/\c.pw≠c.ch:=by
 obtain⟨own,h,d⟩:=h;refine⟨fun e=>?_,fun e=>?_⟩
 ·have b:=h.k1;rw[e,h.m1] at b;omega
 ·have b:=h.w1;rw[e,h.m1] at b;omega
theorem sO (h:(cutV c k cG cr).J F s w){v:Value}(hv:w.cell? (aq c.pk 3)=some v\/w.cell? (aq c.pk 4)=some v):some c.pk≠v.ownBlock/\some c.pw≠v.ownBlock:=by
 obtain⟨own,h,f⟩:=h;have d:=h.cb;have hl:∀b,some b=v.ownBlock->own b=7\/own b=8:=fun b e=>by
  rcases hv with hv|hv
  ·simp[World.cell?,d] at hv;subst hv;exact aK (h.dx b e)
  ·simp[World.cell?,d] at hv;subst hv;exact aJ (h.eo b e)
 refine⟨fun e=>?_,fun e=>?_⟩
 ·have:=hl _ e;rw[h.k1] at this
  omega
 ·have:=hl _ e;rw[h.w1] at this
  omega
theorem DD (h:(cutV c k cG cr).J F s w)(n:Int):(cutV c k cG cr).J F {s with nx:=n} (w.setCell ⟨c.pk,2,none⟩ (.int .i64 n))/\b8 F w F (w.setCell ⟨c.pk,2,none⟩ (.int .i64 n)):=by
 obtain⟨own,h,d⟩:=h;have fr:Fr (fun b=>b=c.pk) w (w.setCell ⟨c.pk,2,none⟩ (.int .i64 n)):=(Fr.refl _ w).set _ 2 _ rfl;refine⟨⟨own,?_,d⟩,⟨fr.mono (fun b e=>(d b).2 (by rw[e,h.k1];decide)),fun _ h=>aK h⟩⟩
 have hb:∀b,b<w.heap.size->own b≠5->_=_:=fun b hb hn=>fr.block b hb (fun e=>hn (by rw[e];exact h.k1))
 exact {
  mp:=h.mp.same (hb _ h.mp.lt (by rw[h.m1];decide)),a1:=h.a1,a2:=h.a2,c1:=h.c1,c2:=h.c2,w1:=h.w1,r1:=h.r1,k1:=h.k1,m1:=h.m1,dx:=h.dx,eo:=h.eo,lt:=fun b hb=>aM (h.lt b hb) fr.size
  rl:=h.rl
  ar:=h.ar.same (hb _ h.ar.eL (by rw[h.a1];decide)) (hb _ h.ar.eM (by rw[h.a2];decide))
  cd:=h.cd.same (hb _ h.cd.eL (by rw[h.c1];decide)) (hb _ h.cd.eM (by rw[h.c2];decide))
  wd:=(hb _ (lt_of_some h.wd) (by rw[h.w1];decide)).trans h.wd
  rt:=(hb _ (lt_of_some h.rt) (by rw[h.r1];decide)).trans h.rt
  cb:=by simp only [World.setCell,Array.getElem?_modify,if_true,h.cb,Option.map_some];simp
  wr:=cH h.wr (fun b e=>hb b (cn h.wr b e).2 (by rw[h.dx b e];decide))
  er:=cH h.er (fun b e=>hb b (cn h.er b e).2 (by rw[h.eo b e];decide))}
theorem DE {v0:Value}(h:(cutV c k v0 cr).J F s w){v1:Value}{l:List Int}{w1:ax}(g:Fr (fun b=>some b=v0.ownBlock) w w1)(ho:w1.ownsRow 0 3 1 v1 l.length (l.map (Value.int .i64)))(hn:∀b,some b=v1.ownBlock->some b=v0.ownBlock\/¬F b):
 (cutV c k v1 cr).J (fun b=>F b\/some b=v1.ownBlock) {s with wk:=l} (w1.setCell ⟨c.pk,3,none⟩ v1)/\Fr F w (w1.setCell ⟨c.pk,3,none⟩ v1):=by
 obtain⟨own,h,f⟩:=h;have sz:(w1.setCell ⟨c.pk,3,none⟩ v1).heap.size=w1.heap.size:=by simp[World.setCell]
 have hb1:∀b,b<w.heap.size->own b≠7->_=_:=fun b hb hn=>g.block b hb (fun e=>hn (h.dx b e))
 have hb:∀b,b<w.heap.size->own b≠7->own b≠5->(w1.setCell ⟨c.pk,3,none⟩ v1).heap[b]?=w.heap[b]?:=fun b hb i m=>(aU _ _ _ _ (fun e=>m (by have e:=e;rw[e];exact h.k1))).trans (hb1 b hb i)
 have hnw:∀b,some b=v1.ownBlock->_:=fun b e=>(hn b e).elim (fun e=>aK (h.dx b e)) (fun hl=>aJ (Classical.byContradiction (fun c=>hl ((f b).2 c))))
 have d:∀b j,own b=j->j≠7->j≠0->(if some b=v1.ownBlock then 7 else own b)=j:=fun b j e i h0=>by exact qe
 have n:=fun b e=>(cn ho b e).2;refine⟨⟨fun b=>if some b=v1.ownBlock then 7 else own b,?_,fun b=>?_⟩,?_⟩
 ·exact {
   ar:=h.ar.same (hb _ h.ar.eL (by rw[h.a1];decide) (by rw[h.a1];decide)) (hb _ h.ar.eM (by rw[h.a2];decide) (by rw[h.a2];decide))
   a1:=d _ _ h.a1 aa aa,a2:=d _ _ h.a2 aa aa,c1:=d _ _ h.c1 aa aa,c2:=d _ _ h.c2 aa aa,w1:=d _ _ h.w1 aa aa,r1:=d _ _ h.r1 aa aa,k1:=d _ _ h.k1 aa aa,m1:=d _ _ h.m1 aa aa
   rl:=h.rl
   cd:=h.cd.same (hb _ h.cd.eL (by rw[h.c1];decide) (by rw[h.c1];decide)) (hb _ h.cd.eM (by rw[h.c2];decide) (by rw[h.c2];decide))
   wd:=(hb _ (lt_of_some h.wd) (by rw[h.w1];decide) (by rw[h.w1];decide)).trans h.wd
   rt:=(hb _ (lt_of_some h.rt) (by rw[h.r1];decide) (by rw[h.r1];decide)).trans h.rt
   cb:=by exact qd
   mp:=h.mp.same (hb _ h.mp.lt (by rw[h.m1];decide) (by rw[h.m1];decide))
   wr:=cH ho (fun b e=>aU _ _ _ _ (fun o=>by
    have:=hnw b e;rw[o,h.k1] at this
    omega))
   dx:=fun b e=>by rw[aI e]
   er:=cH h.er (fun b e=>hb b (cn h.er b e).2 (by rw[h.eo b e];decide) (by rw[h.eo b e];decide))
   eo:=fun b e=>d _ _ (h.eo b e) aa aa
   lt:=fun b hb=>by
    rw[sz];by_cases e:some b=v1.ownBlock
    ·exact n b e
    ·rw[aG e] at hb;exact aM (h.lt b hb) g.size}
 ·by_cases e:some b=v1.ownBlock
  ·simp[e]
  ·simp[e,f b]
 ·refine(g.mono (fun b e=>(f b).2 (by rw[h.dx b e];decide))).trans ((Fr.refl (fun b=>b=c.pk) w1).set _ 3 _ rfl) (fun b e=>aK ((f b).2 (by rw[e,h.k1];decide)))
theorem DF {v0:Value}(h:(cutV c k v0 cr).J F s w){v1:Value}{l:List Int}{w1:ax}(f:Fr (fun b=>some b=v0.ownBlock) w w1)(ho:w1.ownsRow 0 3 1 v1 l.length (l.map (Value.int .i64)))(hn:∀b,some b=v1.ownBlock->some b=v0.ownBlock\/w.heap.size<=b):
 ∃d,(cutV c k v1 cr).J d {s with wk:=l} (w1.setCell ⟨c.pk,3,none⟩ v1)/\b8 F w d (w1.setCell ⟨c.pk,3,none⟩ v1):=by
 obtain⟨g,i⟩:=DE h f ho (fun b e=>(hn b e).imp id (fun m hb=>by have:=(cutV c k v0 cr).lt h b hb;omega))
 obtain⟨own,hm,j⟩:=h;exact⟨_,g,i,fun b hb=>hb.elim aK (fun e=>(hn b e).imp (fun e=>(j b).2 (by rw[hm.dx b e];decide)) id)⟩
theorem xq {v0:Value}(h:(cutV c k cG v0).J F s w){v1:Value}{l:List Int}{w1:ax}(g:Fr (fun b=>some b=v0.ownBlock) w w1)(ho:w1.ownsRow 0 3 1 v1 l.length (l.map (Value.int .i64)))(hn:∀b,some b=v1.ownBlock->some b=v0.ownBlock\/¬F b):
 (cutV c k cG v1).J (fun b=>F b\/some b=v1.ownBlock) {s with ep:=l} (w1.setCell ⟨c.pk,4,none⟩ v1)/\Fr F w (w1.setCell ⟨c.pk,4,none⟩ v1):=by
 obtain⟨own,h,f⟩:=h;have sz:(w1.setCell ⟨c.pk,4,none⟩ v1).heap.size=w1.heap.size:=by simp[World.setCell]
 have hb1:∀b,b<w.heap.size->own b≠8->_=_:=fun b hb hn=>g.block b hb (fun e=>hn (h.eo b e))
 have hb:∀b,b<w.heap.size->own b≠8->own b≠5->(w1.setCell ⟨c.pk,4,none⟩ v1).heap[b]?=w.heap[b]?:=fun b hb i m=>(aU _ _ _ _ (fun e=>m (by have e:=e;rw[e];exact h.k1))).trans (hb1 b hb i)
 have hnw:∀b,some b=v1.ownBlock->_:=fun b e=>(hn b e).elim (fun e=>aK (h.eo b e)) (fun hl=>aJ (Classical.byContradiction (fun c=>hl ((f b).2 c))))
 have d:∀b j,own b=j->j≠8->j≠0->(if some b=v1.ownBlock then 8 else own b)=j:=fun b j e i h0=>by exact qe
 have n:=fun b e=>(cn ho b e).2;refine⟨⟨fun b=>if some b=v1.ownBlock then 8 else own b,?_,fun b=>?_⟩,?_⟩
 ·exact {
   ar:=h.ar.same (hb _ h.ar.eL (by rw[h.a1];decide) (by rw[h.a1];decide)) (hb _ h.ar.eM (by rw[h.a2];decide) (by rw[h.a2];decide))
   a1:=d _ _ h.a1 aa aa,a2:=d _ _ h.a2 aa aa,c1:=d _ _ h.c1 aa aa,c2:=d _ _ h.c2 aa aa,w1:=d _ _ h.w1 aa aa,r1:=d _ _ h.r1 aa aa,k1:=d _ _ h.k1 aa aa,m1:=d _ _ h.m1 aa aa
   rl:=h.rl
   cd:=h.cd.same (hb _ h.cd.eL (by rw[h.c1];decide) (by rw[h.c1];decide)) (hb _ h.cd.eM (by rw[h.c2];decide) (by rw[h.c2];decide))
   wd:=(hb _ (lt_of_some h.wd) (by rw[h.w1];decide) (by rw[h.w1];decide)).trans h.wd
   rt:=(hb _ (lt_of_some h.rt) (by rw[h.r1];decide) (by rw[h.r1];decide)).trans h.rt
   cb:=by exact qd
   mp:=h.mp.same (hb _ h.mp.lt (by rw[h.m1];decide) (by rw[h.m1];decide))
   er:=cH ho (fun b e=>aU _ _ _ _ (fun o=>by
    have:=hnw b e;rw[o,h.k1] at this
    omega))
   eo:=fun b e=>by rw[aI e]
   wr:=cH h.wr (fun b e=>hb b (cn h.wr b e).2 (by rw[h.dx b e];decide) (by rw[h.dx b e];decide))
   dx:=fun b e=>d _ _ (h.dx b e) aa aa
   lt:=fun b hb=>by
    rw[sz];by_cases e:some b=v1.ownBlock
    ·exact n b e
    ·rw[aG e] at hb;exact aM (h.lt b hb) g.size}
 ·by_cases e:some b=v1.ownBlock
  ·simp[e]
  ·simp[e,f b]
 ·refine(g.mono (fun b e=>(f b).2 (by rw[h.eo b e];decide))).trans ((Fr.refl (fun b=>b=c.pk) w1).set _ 4 _ rfl) (fun b e=>aK ((f b).2 (by rw[e,h.k1];decide)))
theorem DG {v0:Value}(h:(cutV c k cG v0).J F s w){v1:Value}{l:List Int}{w1:ax}(f:Fr (fun b=>some b=v0.ownBlock) w w1)(ho:w1.ownsRow 0 3 1 v1 l.length (l.map (Value.int .i64)))(hn:∀b,some b=v1.ownBlock->some b=v0.ownBlock\/w.heap.size<=b):
 ∃d,(cutV c k cG v1).J d {s with ep:=l} (w1.setCell ⟨c.pk,4,none⟩ v1)/\b8 F w d (w1.setCell ⟨c.pk,4,none⟩ v1):=by
 obtain⟨g,i⟩:=xq h f ho (fun b e=>(hn b e).imp id (fun m hb=>by have:=(cutV c k cG v0).lt h b hb;omega))
 obtain⟨own,hm,j⟩:=h;exact⟨_,g,i,fun b hb=>hb.elim aK (fun e=>(hn b e).imp (fun e=>(j b).2 (by rw[hm.eo b e];decide)) id)⟩
end
def eV (N y g:Nat)(ws:List Int)(Q:List b7)(a:Int):List Int:=
 if pk (ld N y g ws a)=5 then ef Q (ew 3 a) else(List.range (iu N y g a (pf (ld N y g ws a))).toNat).map (fun i:Nat=>ld N y g ws (a+1+(i:Int)))
theorem DH (N y g:Nat)(ws:List Int)(Q:List b7)(a:Int):(eV N y g ws Q a).length<=Q.length+12:=by
 unfold eV;split
 ·have:=oU Q (ew 3 a)
  omega
 ·have b:iu N y g a (pf (ld N y g ws a))<=12:=by unfold iu;exact Int.le_trans (Int.min_le_left _ _) (dj _).2
  simp;omega
section
variable {w:ax}{pw p q N O y g:Nat}{ws:List Int}{sd:Nat}{v0:Value}{a1:Option Addr}{k1:Nat}{Q:List b7}
theorem DI (h:mV w pw p q N O y g ws sd v0 a1 k1 Q)(c:Nat)(hk:w.cell? (aq c 0)=some (aj pw))(a:Int)(l0:0<=a)(l1:a<=100000):
 Calls prog 244 #[aj c,ah a,ah (pk (ld N y g ws a)),ah (pf (ld N y g ws a))] w fun e w'=>∃ad cap,e=.returned (.slice ad (eV N y g ws Q a).length cap)/\w'.ownsRow w.heap.size 2 1 (.slice ad (eV N y g ws Q a).length cap) (eV N y g ws Q a).length ((eV N y g ws Q a).map (Value.int .i64))/\Below w.heap.size w w':=by
 obtain⟨S,hi,U,W,X⟩:=info_parts vZ;have H:=hide h;have c0:=h.c0;have c2:=h.c2;have C:=aQ w _ c0;have gm:=aQ w _ hk;clear h;by_cases d:pk (ld N y g ws a)=5
 ·have l:eV N y g ws Q a=ef Q (ew 3 a):=by unfold eV;rw[aI d]
  rw[l,d];clear l d;generalize pf (ld N y g ws a)=f;have hd:=(av w).drew;go_enter func244,ntmps244;go_wp2_with fail
  go_region_held3 (fun w'=>w'.cell? (aq c 0)=some (aj pw)/\w'.cell? (aq pw 2)=some (aj sd)) (first|exact⟨hk,c2⟩|exact⟨u0,G⟩|exact⟨Y,ab⟩|go_keep)
   (first
     |(have bd:=b;go_at_call 252;refine(sL _ sd v0 a1 k1 Q (ew 3 a) (H.o.low b).hs (H.o.low b).hp (H.o.low b).hm).mono ?_;rintro e be ⟨ad,cap,rfl,I,t⟩;have bg:=t.size;have Y:=(t.cell (p:=aq c 0) (aM gm u)).trans u0;have ab:=(t.cell (p:=aq pw 2) (aM C u)).trans G)
     |(go_at_call 42;refine(se a _).mono ?_;rintro e bi ⟨rfl,ag⟩;have b:=hd.trans ag;have u:=b.size;have u0:=(b.cell (p:=aq c 0) gm).trans hk;have G:=(b.cell (p:=aq pw 2) C).trans c2))
  go_wp2_with fail;go_ret;exact⟨ad,cap,rfl,eU I (fun k e=>aT u (cn I k e).1),b.trans (t.mono u)⟩
 ·have l:eV N y g ws Q a=(List.range (iu N y g a (pf (ld N y g ws a))).toNat).map (fun i:Nat=>ld N y g ws (a+1+(i:Int))):=by unfold eV;rw[aG d]
  rw[l];have ai:iu N y g a (pf (ld N y g ws a))<=12:=by unfold iu;exact Int.le_trans (Int.min_le_left _ _) (dj _).2
  have v:=wV a (pf (ld N y g ws a)) w c0 H.o.ar l0 l1;clear l;generalize iu N y g a (pf (ld N y g ws a))=st at v ai⊢;generalize pf (ld N y g ws a)=f at v⊢;generalize pk (ld N y g ws a)=kd at d⊢;have al:ay (∀w1 x,Below w.heap.size w w1->_):=fun w1 x hb=>jH x w1 (H.o.low hb).ar;clear H;simp only [List.length_map,List.length_range];go_enter func244,ntmps244;go_wp2_with fail;refine v.mono ?_;clear v;rintro e w1 ⟨rfl,J⟩
  go_wp2_with fail
  go_loopw [9,30] (fun tv iv wr=>∃(j:Nat)(m:Option Addr)(n:Nat),j<=st.toNat/\iv=ah j/\tv=.slice m j n/\wr.ownsRow w.heap.size 2 1 (.slice m j n) j (((List.range j).map (fun i:Nat=>ld N y g ws (a+1+(i:Int)))).map (Value.int .i64))/\Below w.heap.size w wr) (fun _ iv _=>st.toNat-(intOf iv).toNat)
  exact⟨0,none,0,aY _,rfl,rfl,bc _ _ _ _,J⟩
  ·
    obtain⟨j,m,n,o,rfl,rfl,s,hb⟩:=hrel;clear J;by_cases bl:j<st.toNat
    ·have am:=(hb.cell (p:=aq c 0) gm).trans hk;have an:=(hb.cell (p:=aq pw 0) C).trans c0;have ao:(j:Int)<st:=V;have ap:=hb.size;go_wp2_with fail;refine(al.o wr (a+1+(j:Int)) hb).mono ?_;rintro e ar ⟨rfl,D⟩
     have A:=cH s (fun k e=>D.block k (cn s k e).2)
     have E:=hb.trans (D.mono ap)
     have aB:=E.size;have K:(((List.range (j+1)).map (fun i:Nat=>ld N y g ws (a+1+(i:Int)))).map (Value.int .i64))=(((List.range j).map (fun i:Nat=>ld N y g ws (a+1+(i:Int)))).map (Value.int .i64))++[ah (ld N y g ws (a+1+(j:Int)))]:=by simp[List.range_succ]
     have B:=hide K;clear K s hb D am an;generalize ld N y g ws (a+1+(j:Int))=z at B⊢;generalize ((List.range j).map (fun i:Nat=>ld N y g ws (a+1+(i:Int)))).map (Value.int .i64)=L at A B;go_wp2_with (at_builtin;refine wpList_append_own_at _ rfl _ _ 53 rfl w.heap.size 2 S (ah 0) 1 8 underlying53 hi U W X rfl aa (.slice m j n) j L rfl (ga A _) ⟨ar.heap.size,0,none⟩ 1 1 [ah z] rfl rfl ?_ ?_ ?_ ?_ ?_ ?_;(intro j aF o;match j,o with|0,o=>(simp at o;subst o;simp[Addr.add]));(intro aF M;simp at M;subst M;rfl);(unfold maxLen;omega);omega;(simp;omega);intro bn aR F P _ aV;obtain⟨b4,R,a0⟩:=eT F (Nat.succ_pos _);subst a0)
     have a2:aR.ownsRow w.heap.size 2 1 (.slice (ak b4) (j+1) R) (j+1) (((List.range (j+1)).map (fun i:Nat=>ld N y g ws (a+1+(i:Int)))).map (Value.int .i64)):=by rw[B.o];exact F
     have bb:=(E.alloc aB _).grown P (by simp;omega) (fun k e=>(cn A k e.symm).1)
     clear F P aV A E B;go_wp2_with fail;go_roundw;exact⟨j+1,ak b4,R,V,af,rfl,a2,bb⟩
     simp[intOf];omega
    ·obtain rfl:j=st.toNat:=V;have ao:¬((st.toNat:Nat):Int)<st:=V;go_wp2_with fail;go_ret;exact⟨m,n,rfl,by rw[List.map_map] at s;exact s,hb⟩
end
end Go.Proofs.YtpkjkjhanlbcoaaGreat
