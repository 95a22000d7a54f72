import Derived.Test.YtjpjpjemibgjpaaGreatJ13
namespace Go.Proofs.YtjpjpjemibgjpaaGreat
set_option maxRecDepth 100000
set_option maxHeartbeats 2000000
open Tryz
open Go.RowKit W Kp cg oX
theorem ym {P:Prop}(h:P:=by
 have E2:=hide ((o2 a).trans hbt.symm)
 have E3:av (bt=true->_=_):=fun e=>o3 a (by rw[hbt] at e;simpa using e)
 clear o2 o3 hbt iI HJ;go_wp2_with (at_lookup;refine wpList_lookup_own_ok_int _ rfl _ _ 108 rfl 3 3 .i64 iA underlying108 underlying3 (lE _) c.co k.T.length D rfl o1 _ _ rfl yn ?_;intro z hat hwc;rw[E2.o];have E4:=hide (fun e=>by have:=hat.symm.trans (E3.o e);simpa using this);clear hat hwc)
 go_ret2;exact⟨z,rfl,E4.o,hb1⟩):P:=h
theorem qv {P:Prop}(h:P:=by go_ret;rw[E2.o.1,E2.o.2];exact⟨_,by simp[hll],⟨_,_,oY.o.1⟩,⟨oY.o.2,fun b hb=>hb.elim (yp.o b) (fun e=>aI (yq.o b e))⟩⟩):P:=h
theorem qw {P:Prop}(h:P:=by simp only [World.setCell,Array.getElem?_modify,if_true,((hb1 _ (lt_of_some h.cb) (by rw[h.k1];decide)).trans h.cb),Option.map_some];simp):P:=h
theorem qx {P:Prop}(h:P:=by
 go_wp2_with fail;refine P.mono ?_;rintro e w1 ⟨v,rfl,hv,hb1⟩
 have hv:=hv trivial;subst hv;go_wp2;go_ret;exact⟨rfl,hb1⟩):P:=h
theorem ys {P:Prop}(h:P:=by
 go_wp2_with fail;refine P.mono ?_;rintro e w1 ⟨v,rfl,hv,hb1⟩
 have hv:=hv trivial;subst hv;go_wp2_with fail;refine(pP v w1).mono ?_;rintro e w2 ⟨rfl,hb2⟩
 go_wp2;go_ret;exact⟨rfl,hb1.trans (hb2.mono hb1.size)⟩):P:=h
theorem yt {P:Prop}(h:P:=by
 by_cases l:L 8
 ·exact hE l
 ·exact cv h.er (fun b e=>hk b (ce h.er b e).2 (by rw[h.eo b e];decide) (by rw[h.eo b e];exact l))):P:=h
theorem yu {P:Prop}(h:P:=by
 go_wp2_with fail;refine P.mono ?_;rintro e w1 ⟨rfl,hb1⟩
 go_wp2_with fail;go_ret2;exact⟨0,rfl,fun h=>by simp at h,hb1⟩):P:=h
theorem yx {P:Prop}(h:P:=by
 by_cases l:L 5
 ·exact hK l
 ·exact(hk _ (lt_of_some h.cb) (by rw[h.k1];decide) (by rw[h.k1];exact l)).trans h.cb):P:=h
section
variable {k:ca}{s:ch}
theorem CI.tu (h:CI k s){a:Int}(ha:a∈k.T):0<=a/\a<k.y/\da k.N k.y s.g a=true:=by
 obtain⟨b,c,d⟩:=h.th a ha;have e:=di (k.ld s a)
 exact⟨b,V,ih b V⟩
theorem ca.nL (hl:s.ws.length=k.N+k.O)(hy:k.y<=k.N)(hg:s.g<=k.O)(a x b:Int):k.ld (k.st s a x) b=if b=a/\da k.N k.y s.g a=true then x else k.ld s b:=by
 unfold ca.ld ca.st;by_cases ha:da k.N k.y s.g a=true
 ·have d:=jd ha hy hg;rw[aH ha];by_cases e:b=a
  ·subst e;rw[aH ⟨rfl,ha⟩,dX ha,jS _ _ _ _ V,aH rfl]
  ·rw[aE (fun c=>e c.1)];unfold Proofs.YtjpjpjemibgjpaaGreat.ld;by_cases hi:da k.N k.y s.g b=true
   ·have f:=jd hi hy hg;rw[aH hi,aH hi,jS _ _ _ _ V,aE V]
   ·rw[aE hi,aE hi]
 ·rw[aE ha,aE (fun c=>ha c.2)]
theorem ca.nM {a:Int}(hc:ib k.N k.O k.y s.g s.ws a=true):k.cp s a={s with g:=s.g+(1+(pf (k.ld s a)).toNat),ws:=splice s.ws (k.N+s.g) ((s.ws.drop a.toNat).take (1+(pf (k.ld s a)).toNat)),f:=gq s.f a ((k.N+s.g:Nat):Int)}:=by unfold ca.cp ju jv mn ca.ld;rw[aH hc,aH hc,aH hc]
theorem tx {b:Type}(l m:List b)(t:Nat)(h:t+m.length<=l.length):(splice l t m).length=l.length:=by unfold splice;simp;omega
theorem k7 (N y g:Nat)(a:Int):da N y g a=true↔(0<=a/\a<y)\/((N:Int)<=a/\a<(N:Int)+g):=by unfold da hB;simp
theorem ca.tz (hl:s.ws.length=k.N+k.O)(hy:k.y<=k.N)(hg:s.g<=k.O){a:Int}(a0:0<=a)(a1:a+1+pf (k.ld s a)<=k.y)(hc:ib k.N k.O k.y s.g s.ws a=true)(b:Int):
 k.ld (k.cp s a) b=if(k.N:Int)+s.g<=b/\b<(k.N:Int)+s.g+(1+pf (k.ld s a)) then k.ld s (a+(b-(k.N+s.g))) else k.ld s b:=by
 obtain⟨l,m,e⟩:=nn hc;have hp:=di (k.ld s a)
 have e:1+pf (k.ld s a)<=(k.O:Int)-s.g:=e;rw[ca.nM hc];obtain⟨n,j⟩:∃n,n=(pf (k.ld s a)).toNat:=⟨_,rfl⟩
 rw[<-j];have f:∀i:Nat,_=_:=fun i=>qt s.ws (k.N+s.g) a.toNat (1+n) i V V;by_cases g:(k.N:Int)+s.g<=b/\b<(k.N:Int)+s.g+(1+pf (k.ld s a))
 ·rw[aH g];have d:da k.N k.y (s.g+(1+n)) b=true:=(k7 _ _ _ _).2 (aI ⟨V,V⟩)
  show Proofs.YtjpjpjemibgjpaaGreat.ld k.N k.y _ _ b=Proofs.YtjpjpjemibgjpaaGreat.ld k.N k.y s.g s.ws _;rw[dX d,dX ((k7 _ _ _ _).2 (aJ ⟨V,V⟩)),f,aH V]
  congr 1
  omega
 ·rw[aE g];show Proofs.YtjpjpjemibgjpaaGreat.ld k.N k.y _ _ b=Proofs.YtjpjpjemibgjpaaGreat.ld k.N k.y s.g s.ws b;by_cases hi:da k.N k.y s.g b=true
  ·have d:da k.N k.y (s.g+(1+n)) b=true:=(k7 _ _ _ _).2 (by rcases(k7 _ _ _ _).1 hi with h|h<;>omega)
   rw[dX d,dX hi,f,aE V]
  ·have d:¬da k.N k.y (s.g+(1+n)) b=true:=fun c=>hi ((k7 _ _ _ _).2 (by rcases(k7 _ _ _ _).1 c with h|h<;>omega))
   unfold Proofs.YtjpjpjemibgjpaaGreat.ld;rw[aE hi,aE d]
theorem yy (T:List Int)(f:Int->Int)(a v:Int)(c:v≠-1):T.filter (fun b=>gq f a v b==-1)=(T.filter (fun b=>f b==-1)).filter (fun b=>!(b==a)):=by
 rw[List.filter_filter]
 congr 1
 funext b
 unfold gq;by_cases e:b=a
 ·simp[e,c]
 ·simp[e]
theorem oZ (g:Int->Nat):∀(l:List Int)(a:Int),l.Nodup->a∈l->((l.filter (fun b=>!(b==a))).map g).sum+g a=(l.map g).sum
 |[],a,_,h=>by simp at h
 |b::l,a,d,h=>by
  rw[List.nodup_cons] at d;by_cases e:b=a
  ·subst e;have f:l.filter (fun c=>!(c==b))=l:=List.filter_eq_self.2 (fun c hc=>by
    have:c≠b:=fun e=>d.1 (e▸hc)
    simp[this])
   rw[List.filter_cons_of_neg Z,f];simp;omega
  ·have hm:a∈l:=by
    rcases List.mem_cons.1 h with h|h
    ·exact absurd h.symm e
    ·exact h
   have i:=oZ g l a d.2 hm;rw[List.filter_cons_of_pos (by simp[e])];simp;omega
theorem tA:∀l:List Int,(l.map (fun _=>1)).sum=l.length
 |[]=>rfl
 |_::l=>by simp[tA l];omega
theorem Fe (l:List Int)(a:Int)(c:l.Nodup)(h:a∈l):(l.filter (fun b=>!(b==a))).length+1=l.length:=by have:=oZ (fun _=>1) l a c h;rwa [tA,tA] at this
theorem CI.ib (h:CI k s){a:Int}(ha:a∈k.T)(b:s.f a=-1):ib k.N k.O k.y s.g s.ws a=true:=by
 obtain⟨f,c,g⟩:=h.th a ha;have i:=di (k.ld s a)
 have hm:a∈k.T.filter (fun a=>s.f a==-1):=List.mem_filter.2 ⟨ha,by simp[b]⟩
 have hs:=oZ (fun a=>1+(pf (k.ld s a)).toNat) _ a (h.nd.filter _) hm;have d:=h.room;have hg:=h.hg;unfold ca.sz at d;have e:hB 0 (k.y:Int) a=true:=by simp[hB];omega
 unfold Proofs.YtjpjpjemibgjpaaGreat.ib f8;rw[aH e];refine bm ⟨c,?_,?_⟩
 ·show 1+pf (k.ld s a)<=(k.y:Int)-a;omega
 ·show 1+pf (k.ld s a)<=(k.O:Int)-s.g;omega
theorem CI.st (h:CI k s){a:Int}(ha:(k.N:Int)<=a)(x:Int):CI k (k.st s a x):=by
 have hl:∀b∈k.T,k.ld (k.st s a x) b=k.ld s b:=fun b c=>by have:=h.tu c;have:=h.hy;rw[ca.nL h.len h.hy h.hg,aE V]
 refine⟨h.hN,h.hN',h.hO,h.hy,h.hg,?_,fun b c=>by rw[hl b c];exact h.th b c,h.nd,?_,h.gT,h.gB,h.ij,h.g_,h.tl⟩
 ·unfold ca.st;split
  ·rw[aX];exact h.len
  ·exact h.len
 ·have e:k.sz (k.st s a x)=k.sz s:=by
   unfold ca.sz
   congr 1
   refine List.map_congr_left (fun b c=>?_)
   rw[hl b (List.mem_filter.1 c).1]
  rw[e];exact h.room
theorem CI.cp (h:CI k s){a:Int}(ha:a∈k.T)(d:s.f a=-1):CI k (k.cp s a)/\s.g<(k.cp s a).g:=by
 have hc:=h.ib ha d;obtain⟨f,j,g⟩:=h.th a ha;have hm:a∈k.T.filter (fun a=>s.f a==-1):=List.mem_filter.2 ⟨ha,by simp[d]⟩
 have hs:=oZ (fun a=>1+(pf (k.ld s a)).toNat) _ a (h.nd.filter _) hm;have l:=h.room;have hg:=h.hg;have hl:∀b∈k.T,k.ld (k.cp s a) b=k.ld s b:=fun b c=>by have:=h.tu c;have:=h.hy;rw[ca.tz h.len h.hy h.hg f g hc,aE V]
 have i:k.T.filter (fun b=>(k.cp s a).f b==-1)=(k.T.filter (fun b=>s.f b==-1)).filter (fun b=>!(b==a)):=by rw[ca.nM hc];exact yy _ _ _ _ V
 have e:(k.cp s a).g=s.g+(1+(pf (k.ld s a)).toNat):=by rw[ca.nM hc]
 have m:k.sz (k.cp s a)+(1+(pf (k.ld s a)).toNat)=k.sz s:=by
  unfold ca.sz;rw[i,<-hs]
  congr 2
  refine List.map_congr_left (fun b c=>?_)
  rw[hl b (List.mem_filter.1 (List.mem_filter.1 c).1).1]
 refine⟨⟨h.hN,h.hN',h.hO,h.hy,by rw[e];omega,?_,fun b c=>by rw[hl b c];exact h.th b c,h.nd,by rw[e];omega,h.gT,h.gB,h.ij,h.g_,h.tl⟩,?_⟩
 ·rw[ca.nM hc];have:=h.len;have n:=(nn hc).2.2;show(splice s.ws _ _).length=k.N+k.O;rw[tx _ _ _ (by simp;omega)];exact h.len
 ·omega
structure eB (k:ca)(s t:ch):Prop where
 nx:t.nx=s.nx
 wk:t.wk=s.wk
 ep:t.ep=s.ep
 rs:t.rs=s.rs
 g:s.g<=t.g
theorem eB.refl (k:ca)(s:ch):eB k s s:=⟨rfl,rfl,rfl,rfl,aA _⟩
theorem eB.trans {a b c:ch}(h:eB k a b)(j:eB k b c):eB k a c:=⟨j.nx.trans h.nx,j.wk.trans h.wk,j.ep.trans h.ep,j.rs.trans h.rs,aP h.g j.g⟩
theorem ca.mN {x:Int}(h:k.ls s x=true):cX x=true/\cf x∈k.T/\s.f (cf x)=-1:=by unfold ca.ls ca.cK at h;simp at h;exact⟨h.1.1,h.1.2,h.2⟩
theorem CI.br (h:CI k s)(x:Int):CI k (k.br s x).2/\eB k s (k.br s x).2/\(k.ls s x=true->s.g<(k.br s x).2.g):=by
 unfold ca.br;by_cases c:k.ls s x=true
 ·obtain⟨c1,c2,c3⟩:=ca.mN c;obtain⟨b,d⟩:=h.cp c2 c3;rw[aH c];exact⟨b,⟨rfl,rfl,rfl,rfl,by show s.g<=(k.cp s (cf x)).g;omega⟩,fun _=>d⟩
 ·rw[aE c];exact⟨h,eB.refl _ _,fun e=>absurd e c⟩
theorem CI.kf (h:CI k s){a:Int}(ha:(k.N:Int)<=a):CI k (k.kf s a)/\eB k s (k.kf s a):=by obtain⟨c,b,_⟩:=h.br _;exact⟨c.st ha _,⟨b.nx,b.wk,b.ep,b.rs,b.g⟩⟩
theorem CI.fP (h:CI k s){a:Int}(ha:(k.N:Int)<=a):∀n,CI k (k.fP s a n)/\eB k s (k.fP s a n)
 |0=>⟨h,eB.refl _ _⟩
 |n+1=>by obtain⟨b,c⟩:=CI.fP h ha n;obtain⟨d,e⟩:=b.kf (a:=a+1+n) V;exact⟨d,c.trans e⟩
theorem CI.yz (h:CI k s){a:Int}(ha:(k.N:Int)<=a)(d:a<=2000):CI k {s with wk:=s.wk++[a]}:=
 ⟨h.hN,h.hN',h.hO,h.hy,h.hg,h.len,h.th,h.nd,h.room,h.gT,h.gB,fun b c=>by
  rcases List.mem_append.1 c with c|c
  ·exact h.ij b c
  ·simp at c;subst c;exact⟨ha,d⟩,h.g_,h.tl⟩
theorem CI.Ff (h:CI k s){a:Int}(ha:(k.N:Int)<=a)(d:a<=2000):CI k {s with ep:=s.ep++[a]}:=
 ⟨h.hN,h.hN',h.hO,h.hy,h.hg,h.len,h.th,h.nd,h.room,h.gT,h.gB,h.ij,fun b c=>by
  rcases List.mem_append.1 c with c|c
  ·exact h.g_ b c
  ·simp at c;subst c;exact⟨ha,d⟩,h.tl⟩
structure Cl (k:ca)(s t:ch):Prop where
 nx:t.nx=s.nx
 wk:t.wk.length<=s.wk.length+1
 ep:t.ep.length<=s.ep.length+1
 rs:t.rs=s.rs
 g:s.g<=t.g
theorem Cl.of {t:ch}(h:eB k s t):Cl k s t:=⟨h.nx,by rw[h.wk];omega,by rw[h.ep];omega,h.rs,h.g⟩
theorem CI.lk (h:CI k s){a:Int}(ha:(k.N:Int)<=a)(d:a<=2000):CI k (k.lk s a)/\Cl k s (k.lk s a):=by
 unfold ca.lk;split
 ·obtain⟨c,b⟩:=h.fP ha _;exact⟨c,Cl.of b⟩
 ·split
  ·obtain⟨c,b⟩:=(h.yz ha d).kf (a:=a+2) V;exact⟨c,⟨b.nx,by rw[b.wk];simp,by rw[b.ep];simp,b.rs,b.g⟩⟩
  ·split
   ·exact⟨h.Ff ha d,⟨rfl,Z,Z,rfl,aA _⟩⟩
   ·exact⟨h,Cl.of (eB.refl _ _)⟩
theorem CI.kE (h:CI k s)(d:hB k.N s.g s.nx=true):CI k {k.lk s s.nx with nx:=s.nx+(1+pf (k.ld s s.nx))}/\k.mu {k.lk s s.nx with nx:=s.nx+(1+pf (k.ld s s.nx))}<=k.mu s/\s.nx<(k.N:Int)+k.O:=by
 have e:=jc d;have hg:=h.hg;have f:=di (k.ld s s.nx)
 have n1:=h.hO;have g:=h.hN';obtain⟨b,c⟩:=h.lk h.gT V;refine⟨⟨b.hN,b.hN',b.hO,b.hy,b.hg,b.len,b.th,b.nd,b.room,?_,?_,b.ij,b.g_,b.tl⟩,?_,V⟩
 ·show(k.N:Int)<=s.nx+(1+pf _)
  omega
 ·show s.nx+(1+pf _)<=(k.N:Int)+k.O+13;omega
 ·have i:=c.g;have j:=c.ep;unfold ca.mu;show((k.N:Int)+k.O+13-(s.nx+(1+pf _))).toNat+(k.lk s s.nx).ep.length+(k.O-(k.lk s s.nx).g)<=_;omega
theorem ei.kE (h:CI k s)(d:hB k.N s.g s.nx=true)(b:ei k s):ei k {k.lk s s.nx with nx:=s.nx+(1+pf (k.ld s s.nx))}:=by
 have e:=jc d;have hg:=h.hg;have f:=di (k.ld s s.nx)
 have n1:=h.hO;have g:=h.hN';obtain⟨i,c⟩:=h.lk h.gT V;have j:=b.wk;have l:=b.ep;have m:=c.wk;have n:=c.ep;constructor
 ·show(k.lk s s.nx).wk.length+((k.N:Int)+k.O+13-(s.nx+(1+pf _))).toNat<=4000;omega
 ·show(k.lk s s.nx).ep.length+((k.N:Int)+k.O+13-(s.nx+(1+pf _))).toNat<=4000;omega
theorem CI.lb (h:CI k s)(b:ei k s):∀n,CI k (k.lb n s)/\ei k (k.lb n s)/\k.mu (k.lb n s)<=k.mu s:=by
 intro n
 induction n generalizing s with
 |zero=>exact⟨h,b,aA _⟩
 |succ n d=>
  unfold ca.lb;by_cases c:hB k.N s.g s.nx=true
  ·rw[aH c];obtain⟨e,f,_⟩:=h.kE c;obtain⟨g,i,j⟩:=d e (ei.kE h c b)
   exact⟨g,i,aP j f⟩
  ·rw[aE c];exact⟨h,b,aA _⟩
theorem CI.cO {t:List Int×ch}(h:CI k t.2){a:Int}(ha:(k.N:Int)<=a):CI k (k.cO t a).2/\eB k t.2 (k.cO t a).2/\(k.cO t a).1.length<=t.1.length+1/\∀b∈(k.cO t a).1,b∈t.1\/b=a:=by
 unfold ca.cO;split
 ·exact⟨h,eB.refl _ _,Z,fun b c=>by simpa using c⟩
 ·obtain⟨d,e⟩:=h.kf (a:=a+1) V;obtain⟨f,g⟩:=d.kf (a:=a+2) V;exact⟨f,e.trans g,Z,fun b c=>aJ c⟩
theorem CI.dx (h:CI k s):∀l:List Int,(∀a∈l,(k.N:Int)<=a)->CI k (k.dx s l).2/\eB k s (k.dx s l).2/\(k.dx s l).1.length<=l.length/\∀b∈(k.dx s l).1,b∈l:=by
 have key:∀(l:List Int)(t:List Int×ch),CI k t.2->(∀a∈l,(k.N:Int)<=a)->CI k (l.foldl k.cO t).2/\eB k t.2 (l.foldl k.cO t).2/\(l.foldl k.cO t).1.length<=t.1.length+l.length/\∀b∈(l.foldl k.cO t).1,b∈t.1\/b∈l:=by
  intro l
  induction l with
  |nil=>intro t ht _;exact⟨ht,eB.refl _ _,Z,fun b c=>aJ c⟩
  |cons a l i=>
   intro t ht hl;obtain⟨d,e,g,f⟩:=CI.cO ht (hl a Z)
   obtain⟨j,m,o,n⟩:=i _ d (fun b c=>hl b (aO _ c))
   refine⟨j,e.trans m,by simp only [List.foldl_cons,List.length_cons];omega,fun b c=>?_⟩
   rcases n b c with c|c
   ·rcases f b c with c|c
    ·exact aJ c
    ·exact aI (by simp[c])
   ·exact aI (aO _ c)
 intro l hl;obtain⟨d,e,g,f⟩:=key l ([],s) h hl;exact⟨d,e,by show(l.foldl k.cO ([],s)).1.length<=l.length;simpa using g,fun b c=>by simpa using f b c⟩
theorem CI.kv (h:CI k s)(e:ei k s):CI k (k.kv s).2/\ei k (k.kv s).2/\k.mu (k.kv s).2<=k.mu s/\((k.kv s).1=true->k.mu (k.kv s).2<k.mu s):=by
 obtain⟨b,c,g,f⟩:=h.dx s.ep (fun a ha=>(h.g_ a ha).1)
 have d:=c.nx;have i:=c.g;have b2:=e.ep;refine⟨⟨b.hN,b.hN',b.hO,b.hy,b.hg,b.len,b.th,b.nd,b.room,b.gT,b.gB,b.ij,fun a ha=>h.g_ a (f a ha),b.tl⟩,⟨?_,?_⟩,?_,fun hk=>?_⟩
 ·show(k.dx s s.ep).2.wk.length+(k.N+k.O+13-(k.dx s s.ep).2.nx).toNat<=4000;rw[d,c.wk];exact e.wk
 ·show(k.dx s s.ep).1.length+(k.N+k.O+13-(k.dx s s.ep).2.nx).toNat<=4000;rw[d];omega
 ·unfold ca.mu;show(k.N+k.O+13-(k.dx s s.ep).2.nx).toNat+(k.dx s s.ep).1.length+(k.O-(k.dx s s.ep).2.g)<=_;rw[d];omega
 ·have hk:(k.dx s s.ep).1.length<s.ep.length:=by simpa[ca.kv] using hk
  unfold ca.mu;show(k.N+k.O+13-(k.dx s s.ep).2.nx).toNat+(k.dx s s.ep).1.length+(k.O-(k.dx s s.ep).2.g)<_;omega
theorem eB.mu {t:ch}(h:eB k s t):k.mu t<=k.mu s:=by unfold ca.mu;rw[h.nx,h.ep];have:=h.g;omega
theorem eB.cb {t:ch}(h:eB k s t)(b:ei k s):ei k t:=⟨by rw[h.wk,h.nx];exact b.wk,by rw[h.ep,h.nx];exact b.ep⟩
theorem CI.gC {s:ch×List bZ}(h:CI k s.1):∀n,CI k (gC k.al k.br s n).1.1/\eB k s.1 (gC k.al k.br s n).1.1/\(gC k.al k.br s n).1.2.length=s.2.length/\((gC k.al k.br s n).2=true->s.1.g<(gC k.al k.br s n).1.1.g)
 |0=>⟨h,eB.refl _ _,rfl,fun e=>by simp[Proofs.YtjpjpjemibgjpaaGreat.gC] at e⟩
 |n+1=>by
  obtain⟨d,b,f,g⟩:=CI.gC h n;have e:Proofs.YtjpjpjemibgjpaaGreat.gC k.al k.br s (n+1)=dB k.al k.br (Proofs.YtjpjpjemibgjpaaGreat.gC k.al k.br s n) n:=by simp[Proofs.YtjpjpjemibgjpaaGreat.gC,List.range_succ]
  rw[e];generalize Proofs.YtjpjpjemibgjpaaGreat.gC k.al k.br s n=t at d b f g⊢;unfold dB;split
  ·exact⟨d,b,f,g⟩
  ·rename_i c;obtain⟨i,j,l⟩:=d.br (t.1.2.getD n (0,0)).2;have hl:k.ls t.1.1 (t.1.2.getD n (0,0)).2=true:=by unfold ca.al at c;simp at c;exact c.1
   refine⟨i,b.trans j,by simp[f],fun _=>?_⟩
   exact Nat.lt_of_le_of_lt b.g (l hl)
theorem CI.wa {s:ch×List bZ}(h:CI k s.1)(d:ei k s.1):CI k (k.wa s).1.1/\ei k (k.wa s).1.1/\(k.wa s).1.2.length=s.2.length/\k.mu (k.wa s).1.1<=k.mu s.1/\((k.wa s).2=true->k.mu (k.wa s).1.1<k.mu s.1):=by
 obtain⟨c,b,f,g⟩:=h.gC _;refine⟨c,b.cb d,f,b.mu,fun e=>?_⟩
 have i:=g e;have j:=c.hg;show k.mu (Proofs.YtjpjpjemibgjpaaGreat.gC k.al k.br s s.2.length).1.1<_;unfold ca.mu;rw[b.nx,b.ep];omega
theorem CI.cJ (h:CI k s):∀n,CI k (k.cJ s n)/\(k.cJ s n).nx=s.nx/\(k.cJ s n).wk=s.wk/\(k.cJ s n).ep=s.ep/\s.g<=(k.cJ s n).g/\(k.cJ s n).rs.length=s.rs.length
 |0=>⟨h,rfl,rfl,rfl,aA _,rfl⟩
 |n+1=>by
  obtain⟨d,e,f,g,i,j⟩:=CI.cJ h n;obtain⟨b,c,_⟩:=d.br _;refine⟨⟨b.hN,b.hN',b.hO,b.hy,b.hg,b.len,b.th,b.nd,b.room,b.gT,b.gB,b.ij,b.g_,b.tl⟩,c.nx.trans e,c.wk.trans f,c.ep.trans g,aP i c.g,?_⟩
  show((k.br _ _).2.rs.set n _).length=_;rw[aX,c.rs,j]
theorem CI.eF (h:CI k s){a:Int}(ha:(k.N:Int)<=a):CI k (k.eF s a)/\eB k s (k.eF s a):=by
 unfold ca.eF;split
 ·exact⟨h.st V _,⟨rfl,rfl,rfl,rfl,aA _⟩⟩
 ·exact⟨h.st V _,⟨rfl,rfl,rfl,rfl,aA _⟩⟩
theorem CI.gt (h:CI k s){a:Int}(ha:(k.N:Int)<=a):CI k (k.gt s a)/\eB k s (k.gt s a):=
 ⟨(h.st V _).st V _,⟨rfl,rfl,rfl,rfl,aA _⟩⟩
theorem CI.fold (f:ch->Int->ch)(c:∀s a,CI k s->(k.N:Int)<=a->CI k (f s a)/\eB k s (f s a)):∀(l:List Int)(s:ch),CI k s->(∀a∈l,(k.N:Int)<=a)->CI k (l.foldl f s)/\eB k s (l.foldl f s)
 |[],s,h,_=>⟨h,eB.refl _ _⟩
 |a::l,s,h,hl=>by
  obtain⟨d,e⟩:=c s a h (hl a Z)
  obtain⟨g,i⟩:=CI.fold f c l (f s a) d (fun b j=>hl b (aO _ j))
  exact⟨g,e.trans i⟩
theorem CI.mw (h:CI k s){l:List Int}(hl:∀a∈l,(k.N:Int)<=a):CI k (k.mw s l)/\eB k s (k.mw s l):=CI.fold k.eF (fun _ _ h ha=>h.eF ha) l s h hl
theorem CI.be (h:CI k s){l:List Int}(hl:∀a∈l,(k.N:Int)<=a):CI k (k.be s l)/\eB k s (k.be s l):=CI.fold k.gt (fun _ _ h ha=>h.gt ha) l s h hl
end
open Go.RowKit W Kp cg
def Mp (w:au)(co:Nat)(T:List Int)(f:Int->Int):Prop:=
 ∃D:DataW Unit,w.ownsMap prog 3 (plainElem prog 3) co T.length D/\(∀a:Int,Maps.has D (.int .i64 a)=T.contains a)/\∀a∈T,D.atKey (.int .i64 a) (.lit (.int .i64 0))=.lit (.int .i64 (f a))
theorem Mp.same {w w':au}{co:Nat}{T:List Int}{f:Int->Int}(h:Mp w co T f)(e:w'.heap[co]?=w.heap[co]?):Mp w' co T f:=by obtain⟨D,b,c,d⟩:=h;exact⟨D,sg b e,c,d⟩
theorem Mp.lt {w:au}{co:Nat}{T:List Int}{f:Int->Int}(h:Mp w co T f):co<w.heap.size:=by obtain⟨D,b,_⟩:=h;exact b.lt
theorem Mp.put {w w':au}{co n:Nat}{T:List Int}{f:Int->Int}{a v:Int}{D:DataW Unit}(h1:w.ownsMap prog 3 (plainElem prog 3) co T.length D)(c:∀a:Int,Maps.has D (.int .i64 a)=T.contains a)(h3:∀a∈T,D.atKey (.int .i64 a) (.lit (.int .i64 0))=.lit (.int .i64 (f a)))
 (ha:a∈T)(d:w'.ownsMap prog 3 (plainElem prog 3) co n (D.put (.int .i64 a) (.lit (.int .i64 v)))):Mp w' co T (gq f a v):=by
 have hs:Maps.size (D.put (.int .i64 a) (.lit (.int .i64 v)))<=T.length:=by rw[Maps.size_put (h1.tidy iA),c,aH (by simpa using ha)];exact h1.size_le
 refine⟨_,(si d rfl).mono hs,fun b=>?_,fun b hb=>?_⟩
 ·by_cases e:b=a
  ·subst e;rw[Maps.has_put_same (k:=.int .i64 b) h1.isMap trivial];simp[ha]
  ·rw[Maps.has_put_other (by simpa using e),c]
 ·unfold gq;exact wQ
theorem Mp.add {w w':au}{co n:Nat}{T:List Int}{a v:Int}{f:Int->Int}{D:DataW Unit}(d:w.ownsMap prog 3 (plainElem prog 3) co T.length D)(i:∀a:Int,Maps.has D (.int .i64 a)=T.contains a)(j:∀a∈T,D.atKey (.int .i64 a) (.lit (.int .i64 0))=.lit (.int .i64 (f a)))
 (l:f a=v)(m:n=T.length+1)(g:w'.ownsMap prog 3 (plainElem prog 3) co n (D.put (.int .i64 a) (.lit (.int .i64 v)))):Mp w' co (T++[a]) f:=by
 refine⟨_,by rw[m] at g;simpa using g,fun b=>?_,fun b c=>?_⟩
 ·by_cases e:b=a
  ·subst e;rw[Maps.has_put_same (k:=.int .i64 b) d.isMap trivial];simp
  ·rw[Maps.has_put_other (by simpa using e),i];simp[e]
 ·by_cases e:b=a
  ·subst e;rw[Maps.atKey_put_same (k:=.int .i64 b) d.isMap trivial,l]
  ·rw[Maps.atKey_put_other (by simpa using e)];refine j b ?_;rcases List.mem_append.1 c with c|c
   ·exact c
   ·simp at c;exact absurd c e
structure gb where
 pk:Nat
 co:Nat
 pw:Nat
 p:Nat
 q:Nat
 pc:Nat
 cM:Nat
 sd:Nat
 nb:Nat
 c:Int
 M:List Int
structure qy (c:gb)(k:ca)(own:Nat->Nat)(s:ch)(cA cr:Value)(w:au):Prop where
 ar:At w c.p c.q k.N k.O k.y s.g s.ws
 a1:own c.p=1
 a2:own c.q=1
 cd:Cd w c.pc c.cM k.N c.c c.M
 c1:own c.pc=2
 c2:own c.cM=2
 wd:w.heap[c.pw]?=some (.cells #[aj c.p,aj c.pc,aj c.sd,.slice (ak c.nb) 12 12] 55 (0,0))
 w1:own c.pw=3
 rt:w.heap[c.nb]?=some (.cells (s.rs.map (Value.int .i64)).toArray 2 (0,0))
 rl:s.rs.length=12
 r1:own c.nb=4
 cb:w.heap[c.pk]?=some (.cells #[aj c.pw,.map (some c.co),ah s.nx,cA,cr] 143 (0,0))
 k1:own c.pk=5
 mp:Mp w c.co k.T s.f
 m1:own c.co=6
 wr:w.ownsRow 0 3 1 cA s.wk.length (s.wk.map (Value.int .i64))
 dz:∀b,some b=cA.ownBlock->own b=7
 er:w.ownsRow 0 3 1 cr s.ep.length (s.ep.map (Value.int .i64))
 eo:∀b,some b=cr.ownBlock->own b=8
 lt:∀b,own b≠0->b<w.heap.size
section
variable {c:gb}{k:ca}{own:Nat->Nat}{s:ch}{cA cr:Value}{w w':au}
theorem qy.but (h:qy c k own s cA cr w)(L:Nat->Prop)(hs:w.heap.size<=w'.heap.size)(hk:∀b,b<w.heap.size->own b≠0->¬L (own b)->w'.heap[b]?=w.heap[b]?)
 (f:L 1->At w' c.p c.q k.N k.O k.y s.g s.ws)(g:L 4->w'.heap[c.nb]?=some (.cells (s.rs.map (Value.int .i64)).toArray 2 (0,0)))(hK:L 5->w'.heap[c.pk]?=some (.cells #[aj c.pw,.map (some c.co),ah s.nx,cA,cr] 143 (0,0)))
 (hM:L 6->Mp w' c.co k.T s.f)(i:L 7->w'.ownsRow 0 3 1 cA s.wk.length (s.wk.map (Value.int .i64)))(hE:L 8->w'.ownsRow 0 3 1 cr s.ep.length (s.ep.map (Value.int .i64)))(d:¬L 2)(j:¬L 3):qy c k own s cA cr w' where
 ar:=by
  by_cases l:L 1
  ·exact f l
  ·exact h.ar.same (hk _ h.ar.eJ (by rw[h.a1];decide) (by rw[h.a1];exact l)) (hk _ h.ar.eK (by rw[h.a2];decide) (by rw[h.a2];exact l))
 a1:=h.a1
 a2:=h.a2
 cd:=h.cd.same (hk _ h.cd.eJ (by rw[h.c1];decide) (by rw[h.c1];exact d)) (hk _ h.cd.eK (by rw[h.c2];decide) (by rw[h.c2];exact d))
 c1:=h.c1
 c2:=h.c2
 wd:=(hk _ (lt_of_some h.wd) (by rw[h.w1];decide) (by rw[h.w1];exact j)).trans h.wd
 w1:=h.w1
 rt:=by
  by_cases l:L 4
  ·exact g l
  ·exact(hk _ (lt_of_some h.rt) (by rw[h.r1];decide) (by rw[h.r1];exact l)).trans h.rt
 rl:=h.rl
 r1:=h.r1
 cb:=by exact yx
 k1:=h.k1
 mp:=by
  by_cases l:L 6
  ·exact hM l
  ·exact h.mp.same (hk _ h.mp.lt (by rw[h.m1];decide) (by rw[h.m1];exact l))
 m1:=h.m1
 wr:=by
  by_cases l:L 7
  ·exact i l
  ·exact cv h.wr (fun b e=>hk b (ce h.wr b e).2 (by rw[h.dz b e];decide) (by rw[h.dz b e];exact l))
 dz:=h.dz
 er:=by exact yt
 eo:=h.eo
 lt:=fun b m=>aM (h.lt b m) hs
end
def cutV (c:gb)(k:ca)(cA f:Value):dP ch where
 J F s w:=∃own,qy c k own s cA f w/\∀b,F b↔own b≠0
 lt:=by rintro F s w ⟨own,h,d⟩ b e;exact h.lt b ((d b).1 e)
 keep:=by rintro F s w w' ⟨own,h,d⟩ hs hk;exact⟨own,h.but (fun _=>False) hs (fun b _ e _=>hk b ((d b).2 e)) False.elim False.elim False.elim False.elim False.elim False.elim id id,d⟩
def d_ (c:gb)(k:ca):dP ch where
 J F s w:=∃cA b,(cutV c k cA b).J F s w
 lt:=by
  rintro F s w ⟨cA,b,h⟩
  exact(cutV c k cA b).lt h
 keep:=by rintro F s w w' ⟨cA,b,h⟩ hs hk;exact⟨cA,b,(cutV c k cA b).keep h hs hk⟩
section
variable {c:gb}{k:ca}{cA cr:Value}{F:Nat->Prop}{s:ch}{w w':au}
theorem iD (h:(cutV c k cA cr).J F s w):At w c.p c.q k.N k.O k.y s.g s.ws/\∀w' g ws,At w' c.p c.q k.N k.O k.y g ws->c7 c.p c.q w w'->(cutV c k cA cr).J F {s with g:=g,ws:=ws} w'/\b_ F w F w':=by
 obtain⟨own,h,j⟩:=h;refine⟨h.ar,fun w' g ws ha f=>⟨⟨own,?_,j⟩,⟨⟨f.os,f.tape,f.output,f.size,fun b d i=>f.block b d (fun e=>i ((j b).2 (by rw[e,h.a1];decide))) (fun e=>i ((j b).2 (by rw[e,h.a2];decide)))⟩,fun _ h=>aJ h⟩⟩⟩
 have d:∀b,b<w.heap.size->own b≠0->¬own b=1->_=_:=fun b d _ i=>f.block b d (fun e=>i (by rw[e];exact h.a1)) (fun e=>i (by rw[e];exact h.a2))
 exact {
  ar:=ha,a1:=h.a1,a2:=h.a2,c1:=h.c1,c2:=h.c2,w1:=h.w1,rl:=h.rl,r1:=h.r1,k1:=h.k1,m1:=h.m1,dz:=h.dz,eo:=h.eo,lt:=fun b d=>aM (h.lt b d) f.size
  cd:=h.cd.same (d _ h.cd.eJ (by rw[h.c1];decide) (by rw[h.c1];decide)) (d _ h.cd.eK (by rw[h.c2];decide) (by rw[h.c2];decide))
  wd:=(d _ (lt_of_some h.wd) (by rw[h.w1];decide) (by rw[h.w1];decide)).trans h.wd
  rt:=(d _ (lt_of_some h.rt) (by rw[h.r1];decide) (by rw[h.r1];decide)).trans h.rt
  cb:=(d _ (lt_of_some h.cb) (by rw[h.k1];decide) (by rw[h.k1];decide)).trans h.cb
  mp:=h.mp.same (d _ h.mp.lt (by rw[h.m1];decide) (by rw[h.m1];decide))
  wr:=cv h.wr (fun b e=>d b (ce h.wr b e).2 (by rw[h.dz b e];decide) (by rw[h.dz b e];decide))
  er:=cv h.er (fun b e=>d b (ce h.er b e).2 (by rw[h.eo b e];decide) (by rw[h.eo b e];decide))}
theorem yA (h:(cutV c k cA cr).J F s w):Mp w c.co k.T s.f/\∀w' f,Mp w' c.co k.T f->Fr (fun b=>b=c.co) w w'->(cutV c k cA cr).J F {s with f:=f} w'/\b_ F w F w':=by
 obtain⟨own,h,g⟩:=h;refine⟨h.mp,fun w' f hm fr=>⟨⟨own,?_,g⟩,⟨fr.mono (fun b e=>(g b).2 (by rw[e,h.m1];decide)),fun _ h=>aJ h⟩⟩⟩
 have d:∀b,b<w.heap.size->own b≠6->_=_:=fun b d i=>fr.block b d (fun e=>i (by rw[e];exact h.m1))
 exact {
  mp:=hm,a1:=h.a1,a2:=h.a2,c1:=h.c1,c2:=h.c2,w1:=h.w1,rl:=h.rl,r1:=h.r1,k1:=h.k1,m1:=h.m1,dz:=h.dz,eo:=h.eo,lt:=fun b d=>aM (h.lt b d) fr.size
  ar:=h.ar.same (d _ h.ar.eJ (by rw[h.a1];decide)) (d _ h.ar.eK (by rw[h.a2];decide))
  cd:=h.cd.same (d _ h.cd.eJ (by rw[h.c1];decide)) (d _ h.cd.eK (by rw[h.c2];decide))
  wd:=(d _ (lt_of_some h.wd) (by rw[h.w1];decide)).trans h.wd
  rt:=(d _ (lt_of_some h.rt) (by rw[h.r1];decide)).trans h.rt
  cb:=(d _ (lt_of_some h.cb) (by rw[h.k1];decide)).trans h.cb
  wr:=cv h.wr (fun b e=>d b (ce h.wr b e).2 (by rw[h.dz b e];decide))
  er:=cv h.er (fun b e=>d b (ce h.er b e).2 (by rw[h.eo b e];decide))}
theorem Fg (h:(cutV c k cA cr).J F s w)(i:Nat)(x:Int):(cutV c k cA cr).J F {s with rs:=s.rs.set i x} (w.setCell ⟨c.nb,i,none⟩ (.int .i64 x))/\b_ F w F (w.setCell ⟨c.nb,i,none⟩ (.int .i64 x)):=by
 obtain⟨own,h,f⟩:=h;have fr:Fr (fun b=>b=c.nb) w (w.setCell ⟨c.nb,i,none⟩ (.int .i64 x)):=(Fr.refl _ w).set _ i _ rfl;refine⟨⟨own,?_,f⟩,⟨fr.mono (fun b e=>(f b).2 (by rw[e,h.r1];decide)),fun _ h=>aJ h⟩⟩
 have d:∀b,b<w.heap.size->own b≠4->_=_:=fun b d g=>fr.block b d (fun e=>g (by rw[e];exact h.r1))
 exact {
  mp:=h.mp.same (d _ h.mp.lt (by rw[h.m1];decide)),a1:=h.a1,a2:=h.a2,c1:=h.c1,c2:=h.c2,w1:=h.w1,r1:=h.r1,k1:=h.k1,m1:=h.m1,dz:=h.dz,eo:=h.eo,lt:=fun b d=>aM (h.lt b d) fr.size
  rl:=by rw[aX];exact h.rl
  ar:=h.ar.same (d _ h.ar.eJ (by rw[h.a1];decide)) (d _ h.ar.eK (by rw[h.a2];decide))
  cd:=h.cd.same (d _ h.cd.eJ (by rw[h.c1];decide)) (d _ h.cd.eK (by rw[h.c2];decide))
  wd:=(d _ (lt_of_some h.wd) (by rw[h.w1];decide)).trans h.wd
  rt:=by simp only [World.setCell,Array.getElem?_modify,if_true,h.rt,Option.map_some];simp[List.map_set]
  cb:=(d _ (lt_of_some h.cb) (by rw[h.k1];decide)).trans h.cb
  wr:=cv h.wr (fun b e=>d b (ce h.wr b e).2 (by rw[h.dz b e];decide))
  er:=cv h.er (fun b e=>d b (ce h.er b e).2 (by rw[h.eo b e];decide))}
theorem eb (h:(cutV c k cA cr).J F s w):w.cell? (am c.pk 0)=some (aj c.pw)/\w.cell? (am c.pk 1)=some (.map (some c.co))/\w.cell? (am c.pk 2)=some (ah s.nx)/\w.cell? (am c.pk 3)=some cA/\w.cell? (am c.pk 4)=some cr/\
 w.cell? (am c.pw 0)=some (aj c.p)/\w.cell? (am c.pw 1)=some (aj c.pc)/\w.cell? (am c.pw 2)=some (aj c.sd)/\w.cell? (am c.pw 3)=some (.slice (ak c.nb) 12 12)/\(∀o,w.frozen? (am c.pk o)=false)/\
 w.ownsRow 0 3 1 cA s.wk.length (s.wk.map (Value.int .i64))/\w.ownsRow 0 3 1 cr s.ep.length (s.ep.map (Value.int .i64))/\Cd w c.pc c.cM k.N c.c c.M/\c.pk<w.heap.size/\c.pw<w.heap.size:=by
 obtain⟨own,h,e⟩:=h;have b:=h.cb;have d:=h.wd;exact⟨by simp[World.cell?,b],by simp[World.cell?,b],by simp[World.cell?,b],by simp[World.cell?,b],by simp[World.cell?,b],by simp[World.cell?,d],by simp[World.cell?,d],by simp[World.cell?,d],by simp[World.cell?,d],fun o=>by simp[World.frozen?,b],h.wr,h.er,h.cd,lt_of_some b,lt_of_some d⟩
theorem yC (h:(cutV c k cA cr).J F s w):s.rs.length=12/\c.nb<w.heap.size/\∀i,i<12->w.cell? (am c.nb i)=some (ah (s.rs.getD i 0))/\w.frozen? (am c.nb i)=false:=by
 obtain⟨own,h,b⟩:=h;have hl:=h.rl;refine⟨hl,lt_of_some h.rt,fun i hi=>⟨?_,?_⟩⟩
 ·simp[World.cell?,h.rt,List.getElem?_map,List.getElem?_eq_getElem (show i<s.rs.length by omega),List.getD_eq_getElem?_getD]
 ·simp[World.frozen?,h.rt]
theorem Fh (h:(cutV c k cA cr).J F s w):c.pk≠c.co/\c.pw≠c.co:=by
 obtain⟨own,h,d⟩:=h;refine⟨fun e=>?_,fun e=>?_⟩
 ·have b:=h.k1;rw[e,h.m1] at b;omega
 ·have b:=h.w1;rw[e,h.m1] at b;omega
theorem tC (h:(cutV c k cA cr).J F s w){v:Value}(d:w.cell? (am c.pk 3)=some v\/w.cell? (am c.pk 4)=some v):some c.pk≠v.ownBlock/\some c.pw≠v.ownBlock:=by
 obtain⟨own,h,g⟩:=h;have f:=h.cb;have hl:∀b,some b=v.ownBlock->own b=7\/own b=8:=fun b e=>by
  rcases d with d|d
  ·simp[World.cell?,f] at d;subst d;exact aJ (h.dz b e)
  ·simp[World.cell?,f] at d;subst d;exact aI (h.eo b e)
 refine⟨fun e=>?_,fun e=>?_⟩
 ·have:=hl _ e;rw[h.k1] at this
  omega
 ·have:=hl _ e;rw[h.w1] at this
  omega
theorem Fi (h:(cutV c k cA cr).J F s w)(n:Int):(cutV c k cA cr).J F {s with nx:=n} (w.setCell ⟨c.pk,2,none⟩ (.int .i64 n))/\b_ F w F (w.setCell ⟨c.pk,2,none⟩ (.int .i64 n)):=by
 obtain⟨own,h,f⟩:=h;have fr:Fr (fun b=>b=c.pk) w (w.setCell ⟨c.pk,2,none⟩ (.int .i64 n)):=(Fr.refl _ w).set _ 2 _ rfl;refine⟨⟨own,?_,f⟩,⟨fr.mono (fun b e=>(f b).2 (by rw[e,h.k1];decide)),fun _ h=>aJ h⟩⟩
 have d:∀b,b<w.heap.size->own b≠5->_=_:=fun b d g=>fr.block b d (fun e=>g (by rw[e];exact h.k1))
 exact {
  mp:=h.mp.same (d _ h.mp.lt (by rw[h.m1];decide)),a1:=h.a1,a2:=h.a2,c1:=h.c1,c2:=h.c2,w1:=h.w1,r1:=h.r1,k1:=h.k1,m1:=h.m1,dz:=h.dz,eo:=h.eo,lt:=fun b d=>aM (h.lt b d) fr.size
  rl:=h.rl
  ar:=h.ar.same (d _ h.ar.eJ (by rw[h.a1];decide)) (d _ h.ar.eK (by rw[h.a2];decide))
  cd:=h.cd.same (d _ h.cd.eJ (by rw[h.c1];decide)) (d _ h.cd.eK (by rw[h.c2];decide))
  wd:=(d _ (lt_of_some h.wd) (by rw[h.w1];decide)).trans h.wd
  rt:=(d _ (lt_of_some h.rt) (by rw[h.r1];decide)).trans h.rt
  cb:=by simp only [World.setCell,Array.getElem?_modify,if_true,h.cb,Option.map_some];simp
  wr:=cv h.wr (fun b e=>d b (ce h.wr b e).2 (by rw[h.dz b e];decide))
  er:=cv h.er (fun b e=>d b (ce h.er b e).2 (by rw[h.eo b e];decide))}
theorem Fj {v0:Value}(h:(cutV c k v0 cr).J F s w){v1:Value}{l:List Int}{w1:au}(i:Fr (fun b=>some b=v0.ownBlock) w w1)(n:w1.ownsRow 0 3 1 v1 l.length (l.map (Value.int .i64)))(m:∀b,some b=v1.ownBlock->some b=v0.ownBlock\/¬F b):
 (cutV c k v1 cr).J (fun b=>F b\/some b=v1.ownBlock) {s with wk:=l} (w1.setCell ⟨c.pk,3,none⟩ v1)/\Fr F w (w1.setCell ⟨c.pk,3,none⟩ v1):=by
 obtain⟨own,h,g⟩:=h;have sz:(w1.setCell ⟨c.pk,3,none⟩ v1).heap.size=w1.heap.size:=by simp[World.setCell]
 have hb1:∀b,b<w.heap.size->own b≠7->_=_:=fun b d m=>i.block b d (fun e=>m (h.dz b e))
 have d:∀b,b<w.heap.size->own b≠7->own b≠5->(w1.setCell ⟨c.pk,3,none⟩ v1).heap[b]?=w.heap[b]?:=fun b d o p=>(aN _ _ _ _ (fun e=>p (by have e:=e;rw[e];exact h.k1))).trans (hb1 b d o)
 have hnw:∀b,some b=v1.ownBlock->_:=fun b e=>(m b e).elim (fun e=>aJ (h.dz b e)) (fun hl=>aI (Classical.byContradiction (fun c=>hl ((g b).2 c))))
 have f:∀b j,own b=j->j≠7->j≠0->(if some b=v1.ownBlock then 7 else own b)=j:=fun b j e o h0=>by exact oo
 have q:=fun b e=>(ce n b e).2;refine⟨⟨fun b=>if some b=v1.ownBlock then 7 else own b,?_,fun b=>?_⟩,?_⟩
 ·exact {
   ar:=h.ar.same (d _ h.ar.eJ (by rw[h.a1];decide) (by rw[h.a1];decide)) (d _ h.ar.eK (by rw[h.a2];decide) (by rw[h.a2];decide))
   a1:=f _ _ h.a1 aa aa,a2:=f _ _ h.a2 aa aa,c1:=f _ _ h.c1 aa aa,c2:=f _ _ h.c2 aa aa,w1:=f _ _ h.w1 aa aa,r1:=f _ _ h.r1 aa aa,k1:=f _ _ h.k1 aa aa,m1:=f _ _ h.m1 aa aa
   rl:=h.rl
   cd:=h.cd.same (d _ h.cd.eJ (by rw[h.c1];decide) (by rw[h.c1];decide)) (d _ h.cd.eK (by rw[h.c2];decide) (by rw[h.c2];decide))
   wd:=(d _ (lt_of_some h.wd) (by rw[h.w1];decide) (by rw[h.w1];decide)).trans h.wd
   rt:=(d _ (lt_of_some h.rt) (by rw[h.r1];decide) (by rw[h.r1];decide)).trans h.rt
   cb:=by exact qw
   mp:=h.mp.same (d _ h.mp.lt (by rw[h.m1];decide) (by rw[h.m1];decide))
   wr:=cv n (fun b e=>aN _ _ _ _ (fun t=>by
    have:=hnw b e;rw[t,h.k1] at this
    omega))
   dz:=fun b e=>by rw[aH e]
   er:=cv h.er (fun b e=>d b (ce h.er b e).2 (by rw[h.eo b e];decide) (by rw[h.eo b e];decide))
   eo:=fun b e=>f _ _ (h.eo b e) aa aa
   lt:=fun b d=>by
    rw[sz];by_cases e:some b=v1.ownBlock
    ·exact q b e
    ·rw[aE e] at d;exact aM (h.lt b d) i.size}
 ·by_cases e:some b=v1.ownBlock
  ·simp[e]
  ·simp[e,g b]
 ·refine(i.mono (fun b e=>(g b).2 (by rw[h.dz b e];decide))).trans ((Fr.refl (fun b=>b=c.pk) w1).set _ 3 _ rfl) (fun b e=>aJ ((g b).2 (by rw[e,h.k1];decide)))
theorem Fk {v0:Value}(h:(cutV c k v0 cr).J F s w){v1:Value}{l:List Int}{w1:au}(i:Fr (fun b=>some b=v0.ownBlock) w w1)(j:w1.ownsRow 0 3 1 v1 l.length (l.map (Value.int .i64)))(f:∀b,some b=v1.ownBlock->some b=v0.ownBlock\/w.heap.size<=b):
 ∃g,(cutV c k v1 cr).J g {s with wk:=l} (w1.setCell ⟨c.pk,3,none⟩ v1)/\b_ F w g (w1.setCell ⟨c.pk,3,none⟩ v1):=by
 obtain⟨m,n⟩:=Fj h i j (fun b e=>(f b e).imp id (fun p d=>by have:=(cutV c k v0 cr).lt h b d;omega))
 obtain⟨own,hm,o⟩:=h;exact⟨_,m,n,fun b d=>d.elim aJ (fun e=>(f b e).imp (fun e=>(o b).2 (by rw[hm.dz b e];decide)) id)⟩
theorem yD {v0:Value}(h:(cutV c k cA v0).J F s w){v1:Value}{l:List Int}{w1:au}(i:Fr (fun b=>some b=v0.ownBlock) w w1)(n:w1.ownsRow 0 3 1 v1 l.length (l.map (Value.int .i64)))(m:∀b,some b=v1.ownBlock->some b=v0.ownBlock\/¬F b):
 (cutV c k cA v1).J (fun b=>F b\/some b=v1.ownBlock) {s with ep:=l} (w1.setCell ⟨c.pk,4,none⟩ v1)/\Fr F w (w1.setCell ⟨c.pk,4,none⟩ v1):=by
 obtain⟨own,h,g⟩:=h;have sz:(w1.setCell ⟨c.pk,4,none⟩ v1).heap.size=w1.heap.size:=by simp[World.setCell]
 have hb1:∀b,b<w.heap.size->own b≠8->_=_:=fun b d m=>i.block b d (fun e=>m (h.eo b e))
 have d:∀b,b<w.heap.size->own b≠8->own b≠5->(w1.setCell ⟨c.pk,4,none⟩ v1).heap[b]?=w.heap[b]?:=fun b d o p=>(aN _ _ _ _ (fun e=>p (by have e:=e;rw[e];exact h.k1))).trans (hb1 b d o)
 have hnw:∀b,some b=v1.ownBlock->_:=fun b e=>(m b e).elim (fun e=>aJ (h.eo b e)) (fun hl=>aI (Classical.byContradiction (fun c=>hl ((g b).2 c))))
 have f:∀b j,own b=j->j≠8->j≠0->(if some b=v1.ownBlock then 8 else own b)=j:=fun b j e o h0=>by exact oo
 have q:=fun b e=>(ce n b e).2;refine⟨⟨fun b=>if some b=v1.ownBlock then 8 else own b,?_,fun b=>?_⟩,?_⟩
 ·exact {
   ar:=h.ar.same (d _ h.ar.eJ (by rw[h.a1];decide) (by rw[h.a1];decide)) (d _ h.ar.eK (by rw[h.a2];decide) (by rw[h.a2];decide))
   a1:=f _ _ h.a1 aa aa,a2:=f _ _ h.a2 aa aa,c1:=f _ _ h.c1 aa aa,c2:=f _ _ h.c2 aa aa,w1:=f _ _ h.w1 aa aa,r1:=f _ _ h.r1 aa aa,k1:=f _ _ h.k1 aa aa,m1:=f _ _ h.m1 aa aa
   rl:=h.rl
   cd:=h.cd.same (d _ h.cd.eJ (by rw[h.c1];decide) (by rw[h.c1];decide)) (d _ h.cd.eK (by rw[h.c2];decide) (by rw[h.c2];decide))
   wd:=(d _ (lt_of_some h.wd) (by rw[h.w1];decide) (by rw[h.w1];decide)).trans h.wd
   rt:=(d _ (lt_of_some h.rt) (by rw[h.r1];decide) (by rw[h.r1];decide)).trans h.rt
   cb:=by exact qw
   mp:=h.mp.same (d _ h.mp.lt (by rw[h.m1];decide) (by rw[h.m1];decide))
   er:=cv n (fun b e=>aN _ _ _ _ (fun t=>by
    have:=hnw b e;rw[t,h.k1] at this
    omega))
   eo:=fun b e=>by rw[aH e]
   wr:=cv h.wr (fun b e=>d b (ce h.wr b e).2 (by rw[h.dz b e];decide) (by rw[h.dz b e];decide))
   dz:=fun b e=>f _ _ (h.dz b e) aa aa
   lt:=fun b d=>by
    rw[sz];by_cases e:some b=v1.ownBlock
    ·exact q b e
    ·rw[aE e] at d;exact aM (h.lt b d) i.size}
 ·by_cases e:some b=v1.ownBlock
  ·simp[e]
  ·simp[e,g b]
 ·refine(i.mono (fun b e=>(g b).2 (by rw[h.eo b e];decide))).trans ((Fr.refl (fun b=>b=c.pk) w1).set _ 4 _ rfl) (fun b e=>aJ ((g b).2 (by rw[e,h.k1];decide)))
theorem Fl {v0:Value}(h:(cutV c k cA v0).J F s w){v1:Value}{l:List Int}{w1:au}(i:Fr (fun b=>some b=v0.ownBlock) w w1)(j:w1.ownsRow 0 3 1 v1 l.length (l.map (Value.int .i64)))(f:∀b,some b=v1.ownBlock->some b=v0.ownBlock\/w.heap.size<=b):
 ∃g,(cutV c k cA v1).J g {s with ep:=l} (w1.setCell ⟨c.pk,4,none⟩ v1)/\b_ F w g (w1.setCell ⟨c.pk,4,none⟩ v1):=by
 obtain⟨m,n⟩:=yD h i j (fun b e=>(f b e).imp id (fun p d=>by have:=(cutV c k cA v0).lt h b d;omega))
 obtain⟨own,hm,o⟩:=h;exact⟨_,m,n,fun b d=>d.elim aJ (fun e=>(f b e).imp (fun e=>(o b).2 (by rw[hm.eo b e];decide)) id)⟩
end
theorem tD {x:Int}(h:cX x=true):0<=cf x/\cf x<1152921504606846976:=by rw[lv x h];unfold cX at h;simp at h;exact wV x h.2
section
variable {c:gb}{k:ca}{cA cr:Value}{F:Nat->Prop}{s:ch}{w:au}
theorem yE (h:(cutV c k cA cr).J F s w)(x:Int):
 Calls prog 181 #[aj c.pk,ah x] w fun e w'=>∃v,e=.returned (.tuple #[ah v,.bool (k.cK x)])/\(k.cK x=true->v=s.f (cf x))/\Below w.heap.size w w':=by
 have HJ:=hide h;have P:=na x w;cases ha:cX x
 ·rw[ha] at P;have b:k.cK x=false:=by unfold ca.cK;rw[ha];rfl
  rw[b];go_enter func181,ntmps181;exact yu
 ·have b:k.cK x=k.T.contains (cf x):=by unfold ca.cK;rw[ha];rfl
  have d:=tD ha;rw[b];rw[ha] at P;generalize cf x=a at P d⊢;have yn:=iZ d.1 d.2;obtain⟨bt,hbt⟩:∃bt,bt=k.T.contains a:=⟨_,rfl⟩
  rw[<-hbt];go_enter func181,ntmps181;go_wp2_with fail;refine P.mono ?_;clear P;rintro e w1 ⟨rfl,hb1⟩
  have iI:=(cutV c k cA cr).below HJ.o hb1;obtain⟨c0,c1,_⟩:=eb iI;obtain⟨⟨D,o1,o2,o3⟩,_⟩:=yA iI;exact ym
theorem nN (h:(cutV c k cA cr).J F s w)(x:Int):
 Calls prog 156 #[aj c.pk,ah x] w fun e w'=>e=.returned (.bool (k.ls s x))/\Below w.heap.size w w':=by
 have P:=yE h x;cases hy:k.cK x
 ·have b:k.ls s x=false:=by unfold ca.ls;rw[hy];rfl
  rw[b];rw[hy] at P;go_enter func156,ntmps156;go_wp2_with fail;refine P.mono ?_;rintro e w1 ⟨v,rfl,_,hb1⟩
  go_wp2;go_ret;exact⟨rfl,hb1⟩
 ·have b:k.ls s x=(s.f (cf x)==-1):=by unfold ca.ls;rw[hy];rfl
  rw[b];rw[hy] at P;go_enter func156,ntmps156;exact qx
theorem qz (h:(cutV c k cA cr).J F s w)(x:Int):
 Calls prog 157 #[aj c.pk,ah x] w fun e w'=>e=.returned (ah (k.nw s x))/\Below w.heap.size w w':=by
 have P:=yE h x;cases hy:k.cK x
 ·have b:k.nw s x=x:=by unfold ca.nw;rw[hy];simp
  rw[b];rw[hy] at P;go_enter func157,ntmps157;go_wp2_with fail;refine P.mono ?_;rintro e w1 ⟨v,rfl,_,hb1⟩
  exact lB
 ·rw[hy] at P;by_cases d:s.f (cf x)=-1
  ·have b:k.nw s x=x:=by unfold ca.nw;rw[hy,d];simp
   rw[b];rw[d] at P;go_enter func157,ntmps157;exact qx
  ·have b:k.nw s x=ew 3 (s.f (cf x)):=by unfold ca.nw;rw[hy,aH (by simp[d])]
   rw[b];generalize s.f (cf x)=a at P d⊢;go_enter func157,ntmps157;exact ys
theorem qA (h:(cutV c k cA cr).J F s w)(j:CI k s)(x:Int):
 Calls prog 149 #[aj c.pk,ah x] w fun e w'=>e=.returned (ah (k.br s x).1)/\(cutV c k cA cr).J F (k.br s x).2 w'/\b_ F w F w':=by
 have q:av ((cutV c k cA cr).J F s w):=h;have P:=nN h x;clear h;cases hl:k.ls s x
 ·have n:k.br s x=(k.nw s x,s):=by unfold ca.br;rw[hl];rfl
  rw[n];rw[hl] at P;go_enter func149,ntmps149;go_wp2_with fail;refine P.mono ?_;clear P;rintro e w1 ⟨rfl,d⟩
  have H:=(cutV c k cA cr).below q.o d;have I:=qz H x;clear H;go_wp2_with fail;refine I.mono ?_;rintro e o ⟨rfl,l⟩
  have i:=d.trans (l.mono d.size)
  clear I d l;go_wp2_with fail;go_ret;exact⟨rfl,(cutV c k cA cr).below q.o i,b_.of i⟩
 ·have n:k.br s x=(k.nw (k.cp s (cf x)) x,k.cp s (cf x)):=by unfold ca.br;rw[aH hl]
  rw[n];obtain⟨l1,l2,ap⟩:=ca.mN hl;have J:=tD l1;have u:=na x;rw[hl] at P;rw[l1] at u;have K:=iZ J.1 J.2;have E:av (k.cp s (cf x)={s with g:=ju k.N k.O k.y s.g s.ws (cf x),ws:=jv k.N k.O k.y s.g s.ws (cf x),f:=gq s.f (cf x) (mn k.N k.O k.y s.g s.ws (cf x))}):=rfl;have n1:=j.hN';have a0:=j.hO;have a1:=j.hg;have a2:=j.tl;have L:(Lit.int .i64 (mn k.N k.O k.y s.g s.ws (cf x))).wf=true:=by
   unfold mn;split
   ·exact WalkArith.wf_i64 ⟨V,V⟩
   ·decide
  have M:=my _ L;generalize k.cp s (cf x)=s2 at E⊢;clear j n hl l1 ap L;generalize cf x=a at*;go_enter func149,ntmps149;go_wp2_with fail;refine P.mono ?_;clear P;rintro e w1 ⟨rfl,d⟩
  go_wp2_with fail;refine(u w1).mono ?_;rintro e o ⟨rfl,l⟩
  have i:=d.trans (l.mono d.size)
  have v:=(cutV c k cA cr).below q.o i;obtain⟨c0,c1,_,_,_,c5,_⟩:=eb v;have N:=(cutV c k cA cr).below v (aD _ o).drew;obtain⟨ar,O⟩:=iD N;have A:av (_/\_):=⟨i,O⟩
  have C:=wy a o.drew ar;clear d l i u O N v;go_wp2_with fail
  go_region_held3 (fun w'=>w'.cell? (am c.pk 0)=some (aj c.pw)/\w'.cell? (am c.pk 1)=some (.map (some c.co))/\w'.cell? (am c.pw 0)=some (aj c.p)) (go_keep)
   (first
     |(go_at_call 132;refine C.mono ?_;clear C;rintro e w3 ⟨rfl,Q,R⟩;obtain⟨p,S⟩:=A.o.2 w3 _ _ Q R;obtain⟨U,W,_,_,_,X,_⟩:=eb p;obtain⟨n4,ax⟩:=Fh p;obtain⟨⟨D,o1,Y,ab⟩,hM⟩:=yA p;obtain⟨B,aB,ad,m⟩:=o1.update (t:=108) (e:=3) iA underlying108 (by unfold maxLen;omega) K M;have aF:=m.cell U (by simpa using n4);have aR:=m.cell W (by simpa using n4);have aT:=m.cell X (by simpa using ax);obtain⟨ag,ai⟩:=hM B _ (Mp.put o1 Y ab l2 ad) ((Fr.refl _ w3).grown m (fun b e=>aJ (by cases e;rfl)));have G:av ((cutV c k cA cr).J F s2 B/\b_ F w F B):=⟨(by rw[E.o];exact ag),(((b_.of A.o.1).below (aD _ o).drew).trans S).trans ai⟩;clear Q R p S o1 Y ab hM ad m ag ai))
  clear aF aR aT U W X aB c0 c1 c5 E M K A;go_wp2_with fail;refine(qz G.o.1 x).mono ?_;rintro e a3 ⟨rfl,al⟩
  go_wp2_with fail;go_ret;exact⟨rfl,(cutV c k cA cr).below G.o.1 al,G.o.2.below al⟩
theorem qB (h:(cutV c k cA cr).J F s w)(m:CI k s)(a:Int):
 Calls prog 180 #[aj c.pk,ah a] w fun e w'=>e=.returned (.tuple #[])/\(cutV c k cA cr).J F (k.kf s a) w'/\b_ F w F w':=by
 have d:=(cutV c k cA cr).below h (aD _ w).drew;obtain⟨c0,_,_,_,_,c5,_⟩:=eb h;obtain⟨n,_⟩:=iD d;have L:=jr a w.drew n;have H:av (CI k s):=m;have o:av ((cutV c k cA cr).J F s w.drew):=d;have E:av (k.kf s a=k.st (k.br s (k.ld s a)).2 a (k.br s (k.ld s a)).1):=rfl;have p:ld k.N k.y s.g s.ws a=k.ld s a:=rfl;rw[p] at L;generalize k.kf s a=s2 at E⊢;generalize k.ld s a=x at E L;clear h m d n p;go_enter func180,ntmps180
 go_region_held3 (fun w'=>w'.cell? (am c.pk 0)=some (aj c.pw)/\w'.cell? (am c.pw 0)=some (aj c.p)) (go_keep)
  (first
    |(go_at_call 73;refine L.mono ?_;clear L;rintro e w3 ⟨rfl,q⟩;have f:=(cutV c k cA cr).below o.o q;obtain⟨t,_,_,_,_,u,_⟩:=eb f;have v:av ((cutV c k cA cr).J F s w3/\b_ F w F w3):=⟨f,(b_.of (aD _ w).drew).below q⟩;clear f o)
    |(go_at_call 149;refine(qA v.o.1 H.o x).mono ?_;rintro e I ⟨rfl,g,A⟩;obtain⟨t,_,_,_,_,u,_⟩:=eb g;obtain⟨B,b⟩:=iD g;have i:av (_/\_/\_):=⟨v.o.2.trans A,B,b⟩;clear g A B b)
    |(go_at_call 68;refine(kk a (k.br s x).1 I i.o.2.1).mono ?_;rintro e j ⟨rfl,b,C⟩;obtain⟨l,D⟩:=i.o.2.2 j _ _ b C;obtain⟨t,_,_,_,_,u,_⟩:=eb l;have G:av ((cutV c k cA cr).J F s2 j/\b_ F w F j):=⟨(by rw[E.o];exact l),i.o.1.trans D⟩;clear b C l D))
 go_wp2_with fail;go_end0;exact⟨rfl,G.o.1,G.o.2⟩
end
section
variable {c:gb}{k:ca}{F:Nat->Prop}{s:ch}{w:au}
theorem Fp {a:Int}(h:pk (k.ld s a)=1\/pk (k.ld s a)=2):k.lk s a=k.fP s a (pf (k.ld s a)).toNat:=by unfold ca.lk;rw[aH h]
theorem Fq {a:Int}(h:pk (k.ld s a)=3):k.lk s a=k.kf {s with wk:=s.wk++[a]} (a+2):=by unfold ca.lk;rw[aE V,aH h]
theorem Fs {a:Int}(h:pk (k.ld s a)=4):k.lk s a={s with ep:=s.ep++[a]}:=by unfold ca.lk;rw[aE V,aE V,aH h]
theorem Ft {a:Int}(d:pk (k.ld s a)≠1)(e:pk (k.ld s a)≠2)(b:pk (k.ld s a)≠3)(c:pk (k.ld s a)≠4):k.lk s a=s:=by unfold ca.lk;rw[aE V,aE b,aE c]
theorem yF (h:(d_ c k).J F s w)(l:CI k s)(a:Int)(a0:(k.N:Int)<=a)(a1:a<=2000)(hk:pk (k.ld s a)=1\/pk (k.ld s a)=2):
 Calls prog 152 #[aj c.pk,ah a] w fun e w'=>∃o,e=.returned (ah (1+pf (k.ld s a)))/\(d_ c k).J o (k.lk s a) w'/\b_ F w o w':=by
 rw[Fp hk];obtain⟨cA,b,h⟩:=h;obtain⟨c0,_,_,_,_,c5,_⟩:=eb h;obtain⟨p,_⟩:=iD h;have L:=fY a w p;have t:ld k.N k.y s.g s.ws a=k.ld s a:=rfl;rw[t] at L;have hp:=di (k.ld s a)
 have D:av (CI k s):=l;have d:av ((cutV c k cA b).J F s w):=h;clear p l h t;generalize pf (k.ld s a)=n at L hp⊢;obtain⟨m,rfl⟩:∃m:Nat,n=m:=⟨n.toNat,V⟩
 rw[Int.toNat_natCast];have hm:m<=12:=V;generalize pc (k.ld s a)=q at L;have E:(0:Int)<=k.N:=V;rcases hk with hk|hk
 all_goals
  rw[hk] at L;clear hk;go_enter func152,ntmps152;go_wp2_with fail;refine L.mono ?_;clear L;rintro e w1 ⟨rfl,f⟩
  have u:=(cutV c k cA b).below d.o f;have v:b_ F w F w1:=b_.of f;clear d f c0 c5;go_wp2_with fail
  go_loopw [27] (fun iv wr=>∃(j:Nat),j<=m/\iv=ah j/\(cutV c k cA b).J F (k.fP s a j) wr/\b_ F w F wr) (fun iv _=>m-(intOf iv).toNat)
  case atStart=>exact⟨0,aS _,rfl,u,v⟩
  case round=>
   clear u v;obtain⟨j,G,rfl,g,i⟩:=hrel;by_cases H:j<m
   ·have d:av ((cutV c k cA b).J F (k.fP s a j) wr/\b_ F w F wr):=⟨g,i⟩
    clear g i;go_wp2_with fail;refine(qB d.o.1 (D.o.fP a0 j).1 (a+1+j)).mono ?_;rintro e x ⟨rfl,A,B⟩
    have C:av ((cutV c k cA b).J F (k.fP s a (j+1)) x/\b_ F w F x):=⟨A,d.o.2.trans B⟩
    clear A B d;go_wp2_with fail;go_roundw
    case rel=>exact⟨j+1,V,af,C.o.1,C.o.2⟩
    case measure=>simp[intOf];omega
   ·obtain rfl:j=m:=V;go_wp2_with fail;go_ret;exact⟨F,rfl,⟨cA,b,g⟩,i⟩
theorem Fu (h:(d_ c k).J F s w)(a:Int)(b:pk (k.ld s a)≠1)(d:pk (k.ld s a)≠2)(f:pk (k.ld s a)≠3)(g:pk (k.ld s a)≠4):
 Calls prog 152 #[aj c.pk,ah a] w fun e w'=>∃j,e=.returned (ah (1+pf (k.ld s a)))/\(d_ c k).J j (k.lk s a) w'/\b_ F w j w':=by
 rw[Ft b d f g];obtain⟨cA,i,h⟩:=h;obtain⟨c0,_,_,_,_,c5,_⟩:=eb h;obtain⟨l,_⟩:=iD h;have L:=fY a w l;have m:ld k.N k.y s.g s.ws a=k.ld s a:=rfl;rw[m] at L;have hp:=di (k.ld s a)
 have p:av ((cutV c k cA i).J F s w):=h;clear l h m;generalize pf (k.ld s a)=n at L hp⊢;generalize pc (k.ld s a)=q at L;generalize pk (k.ld s a)=kd at L b d f g;have t:(kd==1)=false:=by simpa using b
 have u:(kd==2)=false:=by simpa using d
 have v:(kd==3)=false:=by simpa using f
 have x:(kd==4)=false:=by simpa using g
 go_enter func152,ntmps152;go_wp2_with fail;refine L.mono ?_;clear L;rintro e w1 ⟨rfl,o⟩
 go_wp2_with fail;go_ret;exact⟨F,rfl,⟨cA,i,(cutV c k cA i).below p.o o⟩,b_.of o⟩
theorem Fw (h:(d_ c k).J F s w)(a:Int)(Y:s.ep.length<=10000)(i:pk (k.ld s a)=4):
 Calls prog 152 #[aj c.pk,ah a] w fun e w'=>∃d,e=.returned (ah (1+pf (k.ld s a)))/\(d_ c k).J d (k.lk s a) w'/\b_ F w d w':=by
 rw[Fs i];obtain⟨J,hi,K,M,N⟩:=info_parts jQ;obtain⟨cA,t,h⟩:=h;obtain⟨c0,_,_,_,_,c5,_⟩:=eb h;obtain⟨v,_⟩:=iD h;have L:=fY a w v;have x:ld k.N k.y s.g s.ws a=k.ld s a:=rfl;rw[x] at L;have hp:=di (k.ld s a)
 have A:av ((cutV c k cA t).J F s w):=h;clear v h x;rw[i] at L;generalize pf (k.ld s a)=n at L hp⊢;generalize pc (k.ld s a)=q at L;clear i;go_enter func152,ntmps152;go_wp2_with fail;refine L.mono ?_;clear L;rintro e w1 ⟨rfl,m⟩
 have f:=(cutV c k cA t).below A.o m;obtain⟨ab,_,_,ad,B,ag,_,_,_,C,_,er,_,lk,_⟩:=eb f;obtain⟨O,_⟩:=tC f (aI B)
 obtain⟨o,p,rfl⟩:=dQ er;have P:=C 4;have D:av ((cutV c k cA (.slice o s.ep.length p)).J F s w1/\b_ F w F w1):=⟨f,b_.of m⟩
 clear f c0 c5 m A C;go_wp2_with (at_builtin;refine wpList_append_own_at _ rfl _ _ 96 rfl 0 3 J (ah 0) 1 8 underlying96 hi K M N rfl aa (.slice o s.ep.length p) s.ep.length (s.ep.map (Value.int .i64)) rfl (f6 er _) ⟨w1.heap.size,0,none⟩ 1 1 [ah a] rfl rfl ?_ ?_ ?_ ?_ ?_ ?_;(intro j u g;match j,g with|0,g=>(simp at g;subst g;simp[Addr.add]));(intro u E;simp at E;subst E;rfl);(unfold maxLen;omega);(first|omega|simp);(first|omega|(simp;done)|(simp;omega));intro ai al G H _ Q;obtain⟨b4,R,S⟩:=dW G (Nat.succ_pos _);subst S;have I:=(H.block c.pk (by simp;omega) O).trans (a4 _ _ _ lk);have ap:=(aU (a:=⟨c.pk,4,none⟩) I).trans B;have ar:=(World.frozen?_of_block (a:=⟨c.pk,4,none⟩) I).trans P)
 go_ret;obtain⟨d,U,W⟩:=Fl D.o.1 (((Fr.refl _ w1).alloc _).grown H (fun b e=>aJ e.symm)) (v1:=.slice (ak b4) (s.ep.length+1) R) (l:=s.ep++[a]) (by simpa using G) (fun b e=>by
  have X:some b4=(Value.slice o s.ep.length p).ownBlock\/b4=w1.heap.size+1:=Q.imp id (fun e=>by simpa[Value.ownBlock] using e)
  simp[Value.ownBlock] at e;subst e;exact X.imp id (fun e=>by omega))
 exact⟨d,rfl,⟨_,_,U⟩,D.o.2.trans W⟩
theorem Fx (h:(d_ c k).J F s w)(C:CI k s)(a:Int)(a0:(k.N:Int)<=a)(a1:a<=2000)(aR:s.wk.length<=10000)(i:pk (k.ld s a)=3):
 Calls prog 152 #[aj c.pk,ah a] w fun e w'=>∃d,e=.returned (ah (1+pf (k.ld s a)))/\(d_ c k).J d (k.lk s a) w'/\b_ F w d w':=by
 rw[Fq i];obtain⟨S,hi,U,W,X⟩:=info_parts jQ;obtain⟨cA,m,h⟩:=h;obtain⟨c0,_,_,_,_,c5,_⟩:=eb h;obtain⟨D,_⟩:=iD h;have L:=fY a w D;have E:ld k.N k.y s.g s.ws a=k.ld s a:=rfl;rw[E] at L;have hp:=di (k.ld s a)
 have G:av ((cutV c k cA m).J F s w):=h;have Y:av (CI k {s with wk:=s.wk++[a]}):=C.yz a0 a1;clear D h E C;rw[i] at L;generalize pf (k.ld s a)=n at L hp⊢;generalize pc (k.ld s a)=q at L;clear i;have aT:(0:Int)<=k.N:=V;go_enter func152,ntmps152;go_wp2_with fail;refine L.mono ?_;clear L;rintro e w1 ⟨rfl,o⟩
 have f:=(cutV c k cA m).below G.o o;obtain⟨ab,_,_,p,ad,ag,_,_,_,H,er,_,_,lk,_⟩:=eb f;obtain⟨ai,_⟩:=tC f (aJ p)
 obtain⟨t,v,rfl⟩:=dQ er;have al:=H 3;have I:av ((cutV c k (.slice t s.wk.length v) m).J F s w1/\b_ F w F w1):=⟨f,b_.of o⟩
 clear f c0 c5 o G H ad;go_wp2_with (at_builtin;refine wpList_append_own_at _ rfl _ _ 96 rfl 0 3 S (ah 0) 1 8 underlying96 hi U W X rfl aa (.slice t s.wk.length v) s.wk.length (s.wk.map (Value.int .i64)) rfl (f6 er _) ⟨w1.heap.size,0,none⟩ 1 1 [ah a] rfl rfl ?_ ?_ ?_ ?_ ?_ ?_;(intro j u g;match j,g with|0,g=>(simp at g;subst g;simp[Addr.add]));(intro u J;simp at J;subst J;rfl);(unfold maxLen;omega);(first|omega|simp);(first|omega|(simp;done)|(simp;omega));intro aV a2 x A _ K;obtain⟨b4,ap,ar⟩:=dW x (Nat.succ_pos _);subst ar;have B:=(A.block c.pk (by simp;omega) ai).trans (a4 _ _ _ lk);have ax:=(aU (a:=⟨c.pk,3,none⟩) B).trans p;have aB:=(World.frozen?_of_block (a:=⟨c.pk,3,none⟩) B).trans al)
 obtain⟨d,M,N⟩:=Fk I.o.1 (((Fr.refl _ w1).alloc _).grown A (fun b e=>aJ e.symm)) (v1:=.slice (ak b4) (s.wk.length+1) ap) (l:=s.wk++[a]) (by simpa using x) (fun b e=>by
  have aF:some b4=(Value.slice t s.wk.length v).ownBlock\/b4=w1.heap.size+1:=K.imp id (fun e=>by simpa[Value.ownBlock] using e)
  simp[Value.ownBlock] at e;subst e;exact aF.imp id (fun e=>by omega))
 have O:av (_/\_):=⟨M,I.o.2.trans N⟩
 refine(qB O.o.1 Y.o (a+2)).mono ?_;clear M N ax aB B x A K ab p ag er;rintro e a3 ⟨rfl,P,Q⟩
 have R:av (_/\_):=⟨P,O.o.2.trans Q⟩
 clear P Q;go_wp2_with fail;go_ret;exact⟨d,rfl,⟨_,_,R.o.1⟩,R.o.2⟩
theorem yG (h:(d_ c k).J F s w)(b:CI k s)(a:Int)(a0:(k.N:Int)<=a)(a1:a<=2000)(l:s.wk.length<=10000)(m:s.ep.length<=10000):
 Calls prog 152 #[aj c.pk,ah a] w fun e w'=>∃d,e=.returned (ah (1+pf (k.ld s a)))/\(d_ c k).J d (k.lk s a) w'/\b_ F w d w':=by
 by_cases f:pk (k.ld s a)=1
 ·exact yF h b a a0 a1 (aJ f)
 by_cases g:pk (k.ld s a)=2
 ·exact yF h b a a0 a1 (aI g)
 by_cases i:pk (k.ld s a)=3
 ·exact Fx h b a a0 a1 l i
 by_cases j:pk (k.ld s a)=4
 ·exact Fw h a m j
 exact Fu h a f g i j
def qC (w:au)(p:Nat):Int:=match w.cell? (am p 2) with
 |some (.int _ v)=>v
 |_=>0
theorem tE {p:Nat}{v:Int}(h:w.cell? (am p 2)=some (ah v)):qC w p=v:=by unfold qC;rw[h]
theorem Fy (h:(d_ c k).J F s w)(f:CI k s)(hB:ei k s):
 Calls prog 153 #[aj c.pk] w fun e w'=>∃x,e=.returned (.tuple #[])/\(d_ c k).J x (k.lb (k.O+1) s) w'/\b_ F w x w':=by
 have N:av (CI k s/\ei k s):=⟨f,hB⟩
 have n0:=f.hO;have n1:=f.hN';have ar:=f.gT;clear f hB;go_enter func153,ntmps153;go_wp2_with fail
 go_loopw [] (fun wr=>∃(n:Nat)(d:Nat->Prop)(s1:ch),(d_ c k).J d s1 wr/\av (CI k s1/\ei k s1)/\b_ F w d wr/\av (k.lb n s1=k.lb (k.O+1) s)/\(k.N:Int)+k.O-s1.nx<n) (fun wr=>(2000-qC wr c.pk).toNat)
 case atStart=>exact⟨k.O+1,F,s,h,N,b_.refl _ _,rfl,V⟩
 case round=>
  obtain⟨n,d,s1,⟨cA,g,j⟩,b,A,l,ax⟩:=hrel;obtain⟨c0,_,c2,_,_,c5,_,_,_,B,_⟩:=eb j;have O:=tE c2;have P:=B 2;obtain⟨C,_⟩:=iD ((cutV c k cA g).below j (aD _ wr).drew)
  have L:=mf s1.nx wr.drew C;have o:av ((cutV c k cA g).J d s1 wr/\b_ F w d wr):=⟨j,A⟩
  clear j A C B;go_wp2_with fail
  go_region_held3 (fun w'=>w'.cell? (am c.pk 0)=some (aj c.pw)/\w'.cell? (am c.pk 2)=some (ah s1.nx)/\w'.cell? (am c.pw 0)=some (aj c.p)) (go_keep)
   (first
     |(go_at_call 71;refine L.mono ?_;clear L;rintro e w3 ⟨rfl,D⟩;have p:=(cutV c k cA g).below ((cutV c k cA g).below o.o.1 (aD _ wr).drew) D;obtain⟨Q,_,R,_,_,S,_,_,_,E,_⟩:=eb p;have U:=E 2;have i:av ((d_ c k).J d s1 w3/\b_ F w d w3):=⟨⟨cA,g,p⟩,(o.o.2.below (aD _ wr).drew).below D⟩;clear p o E c0 c2 c5 P))
  cases hb:hB k.N s1.g s1.nx
  ·go_wp2_with fail;go_end0;have e:k.lb n s1=s1:=by
    cases n with
    |zero=>rfl
    |succ n=>unfold ca.lb;rw[hb];rfl
   rw[<-l.o,e];exact⟨d,rfl,i.o.1,i.o.2⟩
  ·have b1:=jc hb;have b2:=b.o.1.hg;have b3:=b.o.1.gT;have b4:=b.o.2.wk;have b5:=b.o.2.ep;obtain⟨n,rfl⟩:∃m,n=m+1:=⟨n-1,V⟩
   have hp:=di (k.ld s1 s1.nx)
   have W:av (k.lb n {k.lk s1 s1.nx with nx:=s1.nx+(1+pf (k.ld s1 s1.nx))}=k.lb (k.O+1) s):=by
    have:=l.o;unfold ca.lb at this
    rw[aH hb] at this
    exact this
   have X:av (CI k {k.lk s1 s1.nx with nx:=s1.nx+(1+pf (k.ld s1 s1.nx))}/\ei k {k.lk s1 s1.nx with nx:=s1.nx+(1+pf (k.ld s1 s1.nx))}):=⟨(b.o.1.kE hb).1,ei.kE b.o.1 hb b.o.2⟩
   have Y:=(b.o.1.lk (a:=s1.nx) b3 V).2.nx;have L:=yG ((d_ c k).below i.o.1 (aD _ w3).drew) b.o.1 s1.nx b3 V V V;generalize pf (k.ld s1 s1.nx)=m at*;generalize k.lk s1 s1.nx=s2 at*;clear hb b4 b5 l;have aB:IntKind.i64.wrap (s1.nx+(1+m))=s1.nx+(1+m):=by rw[bu];omega
   go_wp2_with fail
   go_region_with (go_at_call 152;refine L.mono ?_;rintro e G ⟨q,rfl,⟨ab,ad,t⟩,H⟩;obtain⟨ag,_,I,_,_,ai,_,_,_,J,_⟩:=eb t;rw[Y] at I;have v2:=J 2;have u:av ((cutV c k ab ad).J q s2 G/\b_ F w q G):=⟨t,(i.o.2.below (aD _ w3).drew).trans H⟩;clear t H J)
   all_goals
    obtain⟨v,K⟩:=Fi u.o.1 (s1.nx+(1+m))
    obtain⟨_,_,al,_⟩:=eb v;have ap:=tE al;have M:av (_/\_):=⟨v,u.o.2.trans K⟩
    clear v K u ag I ai v2 L Q R S U i;go_wp2_with fail;go_roundw
    case rel=>exact⟨n,q,_,⟨_,_,M.o.1⟩,X,M.o.2,W,by show(k.N:Int)+k.O-(s1.nx+(1+m))<n;omega⟩
    case measure=>
     rw[ap,O];show(2000-(s1.nx+(1+m))).toNat<_;omega
end
section
variable {c:gb}{k:ca}{F:Nat->Prop}{s:ch}{w:au}
theorem Fz (h:(d_ c k).J F s w)(Q:CI k s)(hB:ei k s):
 Calls prog 154 #[aj c.pk] w fun e w'=>∃aB,e=.returned (.bool (k.kv s).1)/\(d_ c k).J aB (k.kv s).2 w'/\b_ F w aB w':=by
 obtain⟨bt,hi,bx,bY,bZ⟩:=info_parts jQ;obtain⟨cA,b9,h⟩:=h;obtain⟨c0,_,_,_,c4,c5,_,_,_,cb,_,er,_,lk,_⟩:=eb h;obtain⟨cc,_⟩:=tC h (aI c4)
 obtain⟨b0,m,rfl⟩:=dQ er;have aF:=hide Q;have cd:=hide h;have cf:=hB.ep;have aR:=Q.g_;have aT:=hide aR;have aV:av (k.kv s=(decide ((k.dx s s.ep).1.length<s.ep.length),{(k.dx s s.ep).2 with ep:=(k.dx s s.ep).1})):=rfl;have cg:(0:Int)<=k.N:=V;clear Q hB aR;go_enter func154,ntmps154;go_wp2_with fail
 go_loopw [3,12] (fun vr iv wr=>∃(j:Nat)(R:List Int)(s1:ch)(ar:Option Addr)(d:Nat)(g:Nat->Prop),j<=s.ep.length/\iv=ah j/\av (k.dx s (s.ep.take j)=(R,s1))/\vr=.slice ar R.length d/\wr.ownsRow w.heap.size 3 1 (.slice ar R.length d) R.length (R.map (Value.int .i64))/\(cutV c k cA (.slice b0 s.ep.length m)).J g s1 wr/\b_ F w g wr/\av (∀b,some b=(Value.slice ar R.length d).ownBlock->¬g b)/\av (CI k s1/\eB k s s1)) (fun _ iv _=>s.ep.length-(intOf iv).toNat)
 exact⟨0,[],s,none,0,F,aS _,rfl,rfl,rfl,a7 _ _ _ _,h,b_.refl _ _,fun b e=>by simp[Value.ownBlock] at e,⟨aF.o,eB.refl _ _⟩⟩
 ·
   obtain⟨j,R,s1,ar,d,g,A,rfl,B,rfl,i,p,n,C,D⟩:=hrel;obtain⟨a0,_,_,_,a1,a2,_,_,_,S,_,E,_,ci,_⟩:=eb p;have a3:=S 4;have b1:=D.o.2.ep;rw[b1] at E;have cj:R.length<=10000:=by have G:=(aF.o.dx (s.ep.take j) (fun a ha=>(aT.o a (bE ha)).1)).2.2.1;rw[B.o] at G;simp at G;omega
   by_cases K:j<s.ep.length
   ·obtain⟨q,t,b2,ck,hc⟩:=gO E V;have U:=hc j K;subst b2;have bb:s.ep.getD j 0∈s.ep:=by rw[aC,aG K];exact a6 K
    have b3:=aT.o _ bb;have W:av (k.dx s (s.ep.take (j+1))=k.cO (R,s1) (s.ep.getD j 0)):=by
     show _=_;rw[fz s.ep j K 0];unfold ca.dx;rw[List.foldl_append];have:=B.o;unfold ca.dx at this
     rw[this];rfl
    generalize s.ep.getD j 0=a at U b3 W;obtain⟨bd,_⟩:=iD p;have L:=jr (a+1) wr bd;have be:ld k.N k.y s1.g s1.ws (a+1)=k.ld s1 (a+1):=rfl;rw[be] at L;have o:=dC p n;have cl:=n.fr.size;have b5:av (∀b,some b=(Value.slice ar R.length d).ownBlock->b<wr.heap.size):=fun b e=>(ce i b e).2;clear hc bb p n bd be S;cases hls:k.ls s1 (k.ld s1 (a+1))
    ·have X:av (k.dx s (s.ep.take (j+1))=(R,k.kf (k.kf s1 (a+1)) (a+2))):=by show _=_;rw[W.o];unfold ca.cO;rw[hls];rfl
     generalize k.ld s1 (a+1)=x at L hls;go_wp2_with fail;refine L.mono ?_;clear L;rintro e w1 ⟨rfl,f⟩
     have P:=nN ((cutV c k cA (.slice (some ⟨q,t,none⟩) s.ep.length m)).below o.o.1 f) x;rw[hls] at P;clear U a0 a2 a1 a3 E;go_wp2_with fail;refine P.mono ?_;clear P;rintro e bg ⟨rfl,H⟩
     have hb:=f.trans (H.mono f.size)
     clear f H;go_wp2_with fail;refine(qB ((cutV c k cA (.slice (some ⟨q,t,none⟩) s.ep.length m)).below o.o.1 hb) D.o.1 (a+1)).mono ?_;rintro e w3 ⟨rfl,bi,bl⟩
     obtain⟨I,J⟩:=D.o.1.kf (a:=a+1) V;have v:=jp bi ((b_.of hb).trans bl) I J;clear bi bl I J hb;go_wp2_with fail;refine(qB v.o.1 v.o.2.2.1 (a+2)).mono ?_;rintro e Y ⟨rfl,M,N⟩
     obtain⟨I,J⟩:=v.o.2.2.1.kf (a:=a+2) V;have ab:=v.o.2.1.trans N;have O:=jp M (o.o.2.trans ab) I ((D.o.2.trans v.o.2.2.2).trans J)
     have ad:=gH i ab.fr (fun b e=>C.o b e)
     clear M N I J ab i v;go_wp2_with fail;go_roundw;exact⟨j+1,R,_,ar,d,g,V,af,X,rfl,ad,O.o.1,O.o.2.1,C,⟨O.o.2.2.1,O.o.2.2.2⟩⟩
     simp[intOf];omega
    ·have X:av (k.dx s (s.ep.take (j+1))=(R++[a],s1)):=by show _=_;rw[W.o];unfold ca.cO;rw[aH hls]
     generalize k.ld s1 (a+1)=x at L hls;go_wp2_with fail;refine L.mono ?_;clear L;rintro e w1 ⟨rfl,f⟩
     have P:=nN ((cutV c k cA (.slice (some ⟨q,t,none⟩) s.ep.length m)).below o.o.1 f) x;rw[hls] at P;clear U a0 a2 a1 a3 E;go_wp2_with fail;refine P.mono ?_;clear P;rintro e bg ⟨rfl,H⟩
     have hb:=f.trans (H.mono f.size)
     have ag:=cv i (fun b e=>hb.block b (b5.o b e))
     have cm:=hb.size;clear f H;go_wp2_with (at_builtin;refine wpList_append_own_at _ rfl _ _ 96 rfl w.heap.size 3 bt (ah 0) 1 8 underlying96 hi bx bY bZ rfl aa (.slice ar R.length d) R.length (R.map (Value.int .i64)) rfl (f6 ag _) ⟨bg.heap.size,0,none⟩ 1 1 [ah a] rfl rfl ?_ ?_ ?_ ?_ ?_ ?_;(intro j u A;match j,A with|0,A=>(simp at A;subst A;simp[Addr.add]));(intro u bn;simp at bn;subst bn;rfl);(unfold maxLen;omega);omega;(simp;omega);intro cn Y ai al _ bo;obtain⟨b4,ap,b6⟩:=dW ai (Nat.succ_pos _);subst b6)
     have ad:Y.ownsRow w.heap.size 3 1 (.slice (ak b4) (R++[a]).length ap) (R++[a]).length ((R++[a]).map (Value.int .i64)):=by simpa using ai
     have ax:=(cutV c k cA (.slice (some ⟨q,t,none⟩) s.ep.length m)).below o.o.1 hb;have M:=pQ (cutV c k cA (.slice (some ⟨q,t,none⟩) s.ep.length m)) ax al (fun b e=>C.o b e)
     have N:b_ F w g Y:=⟨((o.o.2.below hb).fr.alloc _).grown al (fun b e=>aI (ce ag b e.symm).1),o.o.2.sub⟩
     have b7:av (∀b,some b=(Value.slice (ak b4) (R++[a]).length ap).ownBlock->¬g b):=fun b e bp=>by
      have b8:=bo.imp id (fun e=>by simpa[Value.ownBlock] using e)
      simp[Value.ownBlock] at e;subst e;rcases b8 with e|e
      ·exact C.o _ e bp
      ·have:=(cutV c k cA (.slice (some ⟨q,t,none⟩) s.ep.length m)).lt ax _ bp;omega
     clear ax ai al bo ag i hb;go_wp2_with fail;go_roundw;exact⟨j+1,R++[a],s1,ak b4,ap,g,V,af,X,Z,ad,M,N,b7,D⟩
     simp[intOf];omega
   ·obtain rfl:j=s.ep.length:=V;rw[a_] at B;obtain⟨br,bs⟩:=yD p (v1:=.slice ar R.length d) (l:=R) (Fr.refl _ wr) (d7 i (fun _ _=>aS _)) (fun b e=>aI (C.o b e))
    have oY:=dC br (n.fr.trans bs n.sub)
    have yq:av (∀b,some b=(Value.slice ar R.length d).ownBlock->w.heap.size<=b):=fun b e=>(ce i b e).1;have yp:=hide n.sub;have E2:av ((k.kv s).1=decide (R.length<s.ep.length)/\(k.kv s).2={s1 with ep:=R}):=by have G:=aV.o;rw[B.o] at G;rw[G];exact⟨rfl,rfl⟩
    clear br bs p n i E B aV S;by_cases hll:R.length<s.ep.length
    ·go_wp2_with fail;exact qv
    ·go_wp2_with fail;exact qv
end
theorem qD {w:au}{base size n g cap:Nat}{e:TypeId}{xs:List Value}(h:w.ownsRow base e size (.slice (ak g) n cap) n xs)(i:Nat)(u:Value):(w.setCell ⟨g,i,none⟩ u).ownsRow base e size (.slice (ak g) n cap) n (xs.set i u):=by exact vg
theorem yH:∀(l:List bZ)(i:Nat)(g z:Int),ev (l.set i (g,z))=((ev l).set (i*2) (ah g)).set (i*2+1) (ah z)
 |[],_,_,_=>rfl
 |e::l,0,g,z=>by simp[ev]
 |e::l,i+1,g,z=>by
  have b:ev (e::l)=ah e.1::ah e.2::ev l:=by simp[ev]
  have c:ev ((e::l).set (i+1) (g,z))=ah e.1::ah e.2::ev (l.set i (g,z)):=by simp[ev]
  rw[b,c,(yH l i g z),show(i+1)*2=i*2+1+1 by omega];simp
theorem yI {K:Type}(o:dP K)(p:Nat)(vr:Value):qu (c9 o p vr) where
 yf:=by
  rintro F s w ⟨B,G,H,C,c,j,l,d,m,n,t⟩ w1 q a1 c1 D x;have d:F p:=d;have lp:=lt_of_some c;have f:∀k,k≠p->(w1.setCell ⟨p,1,none⟩ (.slice a1 q.length c1)).heap[k]?=w1.heap[k]?:=fun k hk=>aN _ _ _ _ hk;have hs:(w1.setCell ⟨p,1,none⟩ (.slice a1 q.length c1)).heap.size=w1.heap.size:=by simp[World.setCell]
  have P:=D.size;refine⟨B,a1,c1,o.keep (o.below C D) (by show w1.heap.size<=(w1.setCell ⟨p,1,none⟩ _).heap.size;rw[hs];exact aA _) (fun k h=>f k (fun e=>m (by rw[<-e];exact h))),?_,d7 (cv x (fun k e=>f k (by have:=(ce x k e).1;omega))) (fun _ _=>aS _),fun k h=>aJ (l k h),aJ d,m,fun k e=>?_,fun k h=>?_⟩
  ·have L:=(D.block p lp).trans c;show(w1.setCell ⟨p,1,none⟩ _).heap[p]?=_;simp only [World.setCell,Array.getElem?_modify,if_true,L,Option.map_some];simp;rfl
  ·exact⟨aI e,fun h=>by have Q:=t k (l k h);have:=(ce x k e).1;omega⟩
  ·show k<(w1.setCell ⟨p,1,none⟩ _).heap.size;rw[hs];rcases h with h|h
   ·have:=t k h;omega
   ·exact(ce x k h).2
 yh:=by
  rintro F s w ⟨B,M,E,C,c,j,l,d,m,n,t⟩ G H hp i hi g z;have hp:w.heap[p]?=some (.cells #[vr,.slice G s.2.length H] 128 (0,0)):=hp;have hi:i<s.2.length:=hi;have he:=c.symm.trans hp;obtain⟨rfl,rfl⟩:=he;obtain⟨b,rfl⟩:∃b,M=some _:=by
   rcases j.2 with⟨_,h0⟩|⟨N,R,O,I,_⟩
   ·omega
   ·simp at I;exact⟨N,I.1⟩
  obtain⟨O,A⟩:=dZ j b rfl;have J:b≠p:=fun e=>by rw[e,c] at A;simp at A
  have f:∀(u v:Value) k,k≠b->((w.setCell ⟨b,0+i*2,none⟩ u).setCell ⟨b,0+i*2+1,none⟩ v).heap[k]?=w.heap[k]?:=fun u v k hk=>(aN _ _ _ _ hk).trans (aN _ _ _ _ hk)
  have hs:∀(u v:Value),((w.setCell ⟨b,0+i*2,none⟩ u).setCell ⟨b,0+i*2+1,none⟩ v).heap.size=w.heap.size:=fun u v=>by simp[World.setCell]
  refine⟨b,0,rfl,(n b rfl).1,J,by simp[World.frozen?,A],by simp[World.frozen?,A],B,ak b,E,o.keep C (by rw[hs];exact aA _) (fun k h=>f _ _ k (fun e=>(n b rfl).2 (by rw[<-e];exact h))),?_,?_,l,d,m,?_,?_⟩
  ·show((w.setCell _ _).setCell _ _).heap[p]?=some (.cells #[vr,.slice (ak b) (s.2.set i (g,z)).length E] 128 (0,0))
   rw[aX];exact(f _ _ p (Ne.symm J)).trans c
  ·show((w.setCell _ _).setCell _ _).ownsRow 0 83 2 (.slice (ak b) (s.2.set i (g,z)).length E) (s.2.set i (g,z)).length (ev (s.2.set i (g,z)))
   rw[aX,yH,bF];exact qD (qD j (i*2) _) _ _
  ·intro k e;exact n k e
  ·intro k h;rw[hs];exact t k h
end Go.Proofs.YtjpjpjemibgjpaaGreat
