import Derived.Test.YtjpjpjemibgjpaaGreatJ16
import Derived.Test.YtjpjpjemibgjpaaGreatJ06
import Derived.Test.YtjpjpjemibgjpaaGreatJ07
import Derived.Test.YtjpjpjemibgjpaaGreatJ01
import Derived.Test.YtjpjpjemibgjpaaGreatJ00
import Derived.Test.YtjpjpjemibgjpaaGreatJ05
namespace Go.Proofs.YtjpjpjemibgjpaaGreat
open Tryz
open Go.RowKit W Kp bY mx
section
variable {k:bP}{s:bU}
theorem CI.pv (h:CI k s){a:Int}(ha:a∈k.T):0<=a/\a<k.y/\cO k.N k.y s.g a=true:=by
 obtain⟨b,c,d⟩:=h.th a ha;have e:=cU (k.ld s a)
 exact⟨b,I,gM b I⟩
theorem bP.lF (hl:s.ws.length=k.N+k.O)(hy:k.y<=k.N)(hg:s.g<=k.O)(a x b:Int):k.ld (k.st s a x) b=if b=a/\cO k.N k.y s.g a=true then x else k.ld s b:=by
 unfold bP.ld bP.st;dsimp only;by_cases ha:cO k.N k.y s.g a=true
 ·have d:=gV (O:=k.O) ha hy hg;rw[aq ha];by_cases e:b=a
  ·subst e;rw[aq ⟨rfl,ha⟩,dh ha,i1 _ _ _ _ I,aq rfl]
  ·rw[ao (fun c=>e c.1)];unfold Proofs.YtjpjpjemibgjpaaGreat.ld;by_cases hi:cO k.N k.y s.g b=true
   ·have f:=gV (O:=k.O) hi hy hg;rw[aq hi,aq hi,i1 _ _ _ _ I,ao I]
   ·rw[ao hi,ao hi]
 ·rw[ao ha,ao (fun c=>ha c.2)]
theorem bP.lG {a:Int}(hc:gw k.N k.O k.y s.g s.ws a=true):k.cp s a={s with g:=s.g+(1+(pf (k.ld s a)).toNat),ws:=splice s.ws (k.N+s.g) ((s.ws.drop a.toNat).take (1+(pf (k.ld s a)).toNat)),f:=fe s.f a ((k.N+s.g:Nat):Int)}:=by unfold bP.cp h9 h_ kt bP.ld;rw[aq hc,aq hc,aq hc]
theorem px {a:Type}(l m:List a)(t:Nat)(h:t+m.length<=l.length):(splice l t m).length=l.length:=by unfold splice;simp;omega
theorem ih (N y g:Nat)(a:Int):cO N y g a=true↔(0<=a/\a<y)\/((N:Int)<=a/\a<(N:Int)+g):=by unfold cO hB;simp
theorem bP.py (hl:s.ws.length=k.N+k.O)(hy:k.y<=k.N)(hg:s.g<=k.O){a:Int}(m:0<=a)(a1:a+1+pf (k.ld s a)<=k.y)(hc:gw k.N k.O k.y s.g s.ws a=true)(b:Int):
 k.ld (k.cp s a) b=if(k.N:Int)+s.g<=b/\b<(k.N:Int)+s.g+(1+pf (k.ld s a)) then k.ld s (a+(b-(k.N+s.g))) else k.ld s b:=by
 obtain⟨o,p,e⟩:=lv hc;have hp:=cU (k.ld s a)
 have e:1+pf (k.ld s a)<=(k.O:Int)-s.g:=e;rw[bP.lG hc];obtain⟨n,j⟩:∃n,n=(pf (k.ld s a)).toNat:=⟨_,rfl⟩
 rw[<-j];have f:∀i:Nat,(splice s.ws (k.N+s.g) ((s.ws.drop a.toNat).take (1+n))).getD i 0=if k.N+s.g<=i/\i<k.N+s.g+(1+n) then s.ws.getD (a.toNat+i-(k.N+s.g)) 0 else s.ws.getD i 0:=fun i=>nE s.ws (k.N+s.g) a.toNat (1+n) i I I
 by_cases g:(k.N:Int)+s.g<=b/\b<(k.N:Int)+s.g+(1+pf (k.ld s a))
 ·rw[aq g];have d:cO k.N k.y (s.g+(1+n)) b=true:=(ih _ _ _ _).2 (an ⟨I,I⟩)
  have l:cO k.N k.y s.g (a+(b-(k.N+s.g)))=true:=(ih _ _ _ _).2 (ap ⟨I,I⟩)
  show Proofs.YtjpjpjemibgjpaaGreat.ld k.N k.y (s.g+(1+n)) (splice s.ws (k.N+s.g) ((s.ws.drop a.toNat).take (1+n))) b=Proofs.YtjpjpjemibgjpaaGreat.ld k.N k.y s.g s.ws (a+(b-(k.N+s.g)))
  rw[dh d,dh l,f,aq I]
  congr 1
  omega
 ·rw[ao g];show Proofs.YtjpjpjemibgjpaaGreat.ld k.N k.y (s.g+(1+n)) (splice s.ws (k.N+s.g) ((s.ws.drop a.toNat).take (1+n))) b=Proofs.YtjpjpjemibgjpaaGreat.ld k.N k.y s.g s.ws b;by_cases hi:cO k.N k.y s.g b=true
  ·have d:cO k.N k.y (s.g+(1+n)) b=true:=(ih _ _ _ _).2 (by rcases(ih _ _ _ _).1 hi with h|h<;>omega)
   have q:=gV (O:=k.O) hi hy hg;rw[dh d,dh hi,f,ao I]
  ·have d:¬cO k.N k.y (s.g+(1+n)) b=true:=fun c=>hi ((ih _ _ _ _).2 (by rcases(ih _ _ _ _).1 c with h|h<;>omega))
   unfold Proofs.YtjpjpjemibgjpaaGreat.ld;rw[ao hi,ao d]
theorem sI (T:List Int)(f:Int->Int)(a v:Int)(c:v≠-1):T.filter (fun b=>fe f a v b==-1)=(T.filter (fun b=>f b==-1)).filter (fun b=>!(b==a)):=by
 rw[List.filter_filter]
 congr 1
 funext b
 unfold fe;by_cases e:b=a
 ·simp[e,c]
 ·simp[e]
theorem my (g:Int->Nat):∀(l:List Int)(a:Int),l.Nodup->a∈l->((l.filter (fun b=>!(b==a))).map g).sum+g a=(l.map g).sum
 |[],a,_,h=>by simp at h
 |b::l,a,d,h=>by
  rw[List.nodup_cons] at d;by_cases e:b=a
  ·subst e;have f:l.filter (fun c=>!(c==b))=l:=List.filter_eq_self.2 (fun c hc=>by
    have:c≠b:=fun e=>d.1 (e▸hc)
    simp[this])
   rw[List.filter_cons_of_neg V,f];simp;omega
  ·have hm:a∈l:=by
    rcases List.mem_cons.1 h with h|h
    ·exact absurd h.symm e
    ·exact h
   have i:=my g l a d.2 hm;rw[List.filter_cons_of_pos (by simp[e])];simp;omega
theorem pz:∀l:List Int,(l.map (fun _=>1)).sum=l.length
 |[]=>rfl
 |_::l=>by simp[pz l];omega
theorem x7 (l:List Int)(a:Int)(c:l.Nodup)(h:a∈l):(l.filter (fun b=>!(b==a))).length+1=l.length:=by have:=my (fun _=>1) l a c h;rwa [pz,pz] at this
theorem CI.gw (h:CI k s){a:Int}(ha:a∈k.T)(b:s.f a=-1):gw k.N k.O k.y s.g s.ws a=true:=by
 obtain⟨f,c,g⟩:=h.th a ha;have i:=cU (k.ld s a)
 have hm:a∈k.T.filter (fun a=>s.f a==-1):=List.mem_filter.2 ⟨ha,by simp[b]⟩
 have hs:=my (fun a=>1+(pf (k.ld s a)).toNat) _ a (h.nd.filter _) hm;have d:=h.room;have hg:=h.hg;unfold bP.sz at d;have e:hB 0 (k.y:Int) a=true:=by simp[hB];omega
 unfold Proofs.YtjpjpjemibgjpaaGreat.gw e2;rw[aq e];refine a8 ⟨c,?_,?_⟩
 ·show 1+pf (k.ld s a)<=(k.y:Int)-a;omega
 ·show 1+pf (k.ld s a)<=(k.O:Int)-s.g;omega
theorem CI.st (h:CI k s){a:Int}(ha:(k.N:Int)<=a)(x:Int):CI k (k.st s a x):=by
 have hl:∀b∈k.T,k.ld (k.st s a x) b=k.ld s b:=fun b c=>by have:=h.pv c;have:=h.hy;rw[bP.lF h.len h.hy h.hg,ao I]
 refine⟨h.hN,h.hN',h.hO,h.hy,h.hg,?_,fun b c=>by rw[hl b c];exact h.th b c,h.nd,?_,h.f5,h.gC,h.gN,h.gD,h.tl⟩
 ·unfold bP.st;dsimp only;split
  ·rw[aM];exact h.len
  ·exact h.len
 ·have e:k.sz (k.st s a x)=k.sz s:=by
   unfold bP.sz
   congr 1
   refine List.map_congr_left (fun b c=>?_)
   rw[hl b (List.mem_filter.1 c).1]
  rw[e];exact h.room
theorem CI.cp (h:CI k s){a:Int}(ha:a∈k.T)(e:s.f a=-1):CI k (k.cp s a)/\s.g<(k.cp s a).g:=by
 have hc:=h.gw ha e;obtain⟨g,l,i⟩:=h.th a ha;have m:=cU (k.ld s a)
 have hm:a∈k.T.filter (fun a=>s.f a==-1):=List.mem_filter.2 ⟨ha,by simp[e]⟩
 have hs:=my (fun a=>1+(pf (k.ld s a)).toNat) _ a (h.nd.filter _) hm;have n:=h.room;have hg:=h.hg;have hl:∀b∈k.T,k.ld (k.cp s a) b=k.ld s b:=fun b c=>by have:=h.pv c;have:=h.hy;rw[bP.py h.len h.hy h.hg g i hc,ao I]
 have j:k.T.filter (fun b=>(k.cp s a).f b==-1)=(k.T.filter (fun b=>s.f b==-1)).filter (fun b=>!(b==a)):=by rw[bP.lG hc];exact sI _ _ _ _ I
 have d:(k.cp s a).g=s.g+(1+(pf (k.ld s a)).toNat):=by rw[bP.lG hc]
 have o:k.sz (k.cp s a)+(1+(pf (k.ld s a)).toNat)=k.sz s:=by
  unfold bP.sz;rw[j,<-hs]
  congr 2
  refine List.map_congr_left (fun b c=>?_)
  rw[hl b (List.mem_filter.1 (List.mem_filter.1 c).1).1]
 refine⟨⟨h.hN,h.hN',h.hO,h.hy,by rw[d];omega,?_,fun b c=>by rw[hl b c];exact h.th b c,h.nd,by rw[d];omega,h.f5,h.gC,h.gN,h.gD,h.tl⟩,?_⟩
 ·rw[bP.lG hc];have:=h.len;have f:=(lv hc).2.2;have f:1+pf (k.ld s a)<=(k.O:Int)-s.g:=f;show(splice s.ws (k.N+s.g) ((s.ws.drop a.toNat).take (1+(pf (k.ld s a)).toNat))).length=k.N+k.O;rw[px _ _ _ (by simp;omega)];exact h.len
 ·rw[d];omega
structure d9 (k:bP)(s t:bU):Prop where
 nx:t.nx=s.nx
 wk:t.wk=s.wk
 ep:t.ep=s.ep
 rs:t.rs=s.rs
 g:s.g<=t.g
theorem d9.refl (k:bP)(s:bU):d9 k s s:=⟨rfl,rfl,rfl,rfl,ak _⟩
theorem d9.trans {a b c:bU}(h:d9 k a b)(j:d9 k b c):d9 k a c:=⟨j.nx.trans h.nx,j.wk.trans h.wk,j.ep.trans h.ep,j.rs.trans h.rs,az h.g j.g⟩
theorem bP.kI {x:Int}(h:k.ls s x=true):cI x=true/\bQ x∈k.T/\s.f (bQ x)=-1:=by unfold bP.ls bP.cq at h;simp at h;exact⟨h.1.1,h.1.2,h.2⟩
theorem CI.br (h:CI k s)(x:Int):CI k (k.br s x).2/\d9 k s (k.br s x).2/\(k.ls s x=true->s.g<(k.br s x).2.g):=by
 unfold bP.br;by_cases c:k.ls s x=true
 ·obtain⟨c1,c2,a⟩:=bP.kI c;obtain⟨b,d⟩:=h.cp c2 a;rw[aq c];exact⟨b,⟨rfl,rfl,rfl,rfl,by show s.g<=(k.cp s (bQ x)).g;omega⟩,fun _=>d⟩
 ·rw[ao c];exact⟨h,d9.refl _ _,fun e=>absurd e c⟩
theorem CI.kf (h:CI k s){a:Int}(ha:(k.N:Int)<=a):CI k (k.kf s a)/\d9 k s (k.kf s a):=by
 obtain⟨c,b,_⟩:=h.br (k.ld s a)
 exact⟨c.st ha _,⟨b.nx,b.wk,b.ep,b.rs,b.g⟩⟩
theorem CI.eW (h:CI k s){a:Int}(ha:(k.N:Int)<=a):∀n,CI k (k.eW s a n)/\d9 k s (k.eW s a n)
 |0=>⟨h,d9.refl _ _⟩
 |n+1=>by obtain⟨b,c⟩:=CI.eW h ha n;obtain⟨d,e⟩:=b.kf (a:=a+1+n) I;exact⟨d,c.trans e⟩
theorem CI.sJ (h:CI k s){a:Int}(ha:(k.N:Int)<=a)(d:a<=2000):CI k {s with wk:=s.wk++[a]}:=
 ⟨h.hN,h.hN',h.hO,h.hy,h.hg,h.len,h.th,h.nd,h.room,h.f5,h.gC,fun b c=>by
  rcases List.mem_append.1 c with c|c
  ·exact h.gN b c
  ·simp at c;subst c;exact⟨ha,d⟩,h.gD,h.tl⟩
theorem CI.x8 (h:CI k s){a:Int}(ha:(k.N:Int)<=a)(d:a<=2000):CI k {s with ep:=s.ep++[a]}:=
 ⟨h.hN,h.hN',h.hO,h.hy,h.hg,h.len,h.th,h.nd,h.room,h.f5,h.gC,h.gN,fun b c=>by
  rcases List.mem_append.1 c with c|c
  ·exact h.gD b c
  ·simp at c;subst c;exact⟨ha,d⟩,h.tl⟩
structure Cl (k:bP)(s t:bU):Prop where
 nx:t.nx=s.nx
 wk:t.wk.length<=s.wk.length+1
 ep:t.ep.length<=s.ep.length+1
 rs:t.rs=s.rs
 g:s.g<=t.g
theorem Cl.of {t:bU}(h:d9 k s t):Cl k s t:=⟨h.nx,by rw[h.wk];omega,by rw[h.ep];omega,h.rs,h.g⟩
theorem CI.lk (h:CI k s){a:Int}(ha:(k.N:Int)<=a)(d:a<=2000):CI k (k.lk s a)/\Cl k s (k.lk s a):=by
 unfold bP.lk;split
 ·obtain⟨c,b⟩:=h.eW ha (pf (k.ld s a)).toNat;exact⟨c,Cl.of b⟩
 ·split
  ·obtain⟨c,b⟩:=(h.sJ ha d).kf (a:=a+2) I;exact⟨c,⟨b.nx,by rw[b.wk];simp,by rw[b.ep];simp,b.rs,b.g⟩⟩
  ·split
   ·exact⟨h.x8 ha d,⟨rfl,V,V,rfl,ak _⟩⟩
   ·exact⟨h,Cl.of (d9.refl _ _)⟩
theorem CI.i4 (h:CI k s)(d:hB k.N s.g s.nx=true):CI k {k.lk s s.nx with nx:=s.nx+(1+pf (k.ld s s.nx))}/\k.mu {k.lk s s.nx with nx:=s.nx+(1+pf (k.ld s s.nx))}<=k.mu s/\s.nx<(k.N:Int)+k.O:=by
 have e:=hR d;have hg:=h.hg;have f:=cU (k.ld s s.nx)
 have n1:=h.hO;have g:=h.hN';obtain⟨b,c⟩:=h.lk (a:=s.nx) h.f5 I;refine⟨⟨b.hN,b.hN',b.hO,b.hy,b.hg,b.len,b.th,b.nd,b.room,?_,?_,b.gN,b.gD,b.tl⟩,?_,I⟩
 ·show(k.N:Int)<=s.nx+(1+pf (k.ld s s.nx))
  omega
 ·show s.nx+(1+pf (k.ld s s.nx))<=(k.N:Int)+k.O+13;omega
 ·have i:=c.g;have j:=c.ep;unfold bP.mu;show((k.N:Int)+k.O+13-(s.nx+(1+pf (k.ld s s.nx)))).toNat+(k.lk s s.nx).ep.length+(k.O-(k.lk s s.nx).g)<=_;omega
theorem d6.i4 (h:CI k s)(d:hB k.N s.g s.nx=true)(b:d6 k s):d6 k {k.lk s s.nx with nx:=s.nx+(1+pf (k.ld s s.nx))}:=by
 have e:=hR d;have hg:=h.hg;have f:=cU (k.ld s s.nx)
 have n1:=h.hO;have g:=h.hN';obtain⟨i,c⟩:=h.lk (a:=s.nx) h.f5 I;have j:=b.wk;have l:=b.ep;have m:=c.wk;have n:=c.ep;constructor
 ·show(k.lk s s.nx).wk.length+((k.N:Int)+k.O+13-(s.nx+(1+pf (k.ld s s.nx)))).toNat<=4000;omega
 ·show(k.lk s s.nx).ep.length+((k.N:Int)+k.O+13-(s.nx+(1+pf (k.ld s s.nx)))).toNat<=4000;omega
theorem CI.lb (h:CI k s)(a:d6 k s):∀n,CI k (k.lb n s)/\d6 k (k.lb n s)/\k.mu (k.lb n s)<=k.mu s:=by
 intro n
 induction n generalizing s with
 |zero=>exact⟨h,a,ak _⟩
 |succ n b=>
  unfold bP.lb;by_cases c:hB k.N s.g s.nx=true
  ·rw[aq c];obtain⟨d,e,_⟩:=h.i4 c;obtain⟨f,g,i⟩:=b d (d6.i4 h c a)
   exact⟨f,g,az i e⟩
  ·rw[ao c];exact⟨h,a,ak _⟩
theorem CI.cr {t:List Int×bU}(h:CI k t.2){a:Int}(ha:(k.N:Int)<=a):CI k (k.cr t a).2/\d9 k t.2 (k.cr t a).2/\(k.cr t a).1.length<=t.1.length+1/\∀b∈(k.cr t a).1,b∈t.1\/b=a:=by
 unfold bP.cr;split
 ·exact⟨h,d9.refl _ _,V,fun b c=>by simpa using c⟩
 ·obtain⟨d,e⟩:=h.kf (a:=a+1) I;obtain⟨f,g⟩:=d.kf (a:=a+2) I;exact⟨f,e.trans g,V,fun b c=>ap c⟩
theorem CI.c4 (h:CI k s):∀l:List Int,(∀a∈l,(k.N:Int)<=a)->CI k (k.c4 s l).2/\d9 k s (k.c4 s l).2/\(k.c4 s l).1.length<=l.length/\∀b∈(k.c4 s l).1,b∈l:=by
 have key:∀(l:List Int)(t:List Int×bU),CI k t.2->(∀a∈l,(k.N:Int)<=a)->CI k (l.foldl k.cr t).2/\d9 k t.2 (l.foldl k.cr t).2/\(l.foldl k.cr t).1.length<=t.1.length+l.length/\∀b∈(l.foldl k.cr t).1,b∈t.1\/b∈l:=by
  intro l
  induction l with
  |nil=>intro t ht _;exact⟨ht,d9.refl _ _,V,fun b c=>ap c⟩
  |cons a l i=>
   intro t ht hl;obtain⟨d,e,g,f⟩:=CI.cr ht (hl a V)
   obtain⟨j,m,o,n⟩:=i (k.cr t a) d (fun b c=>hl b (ay _ c))
   refine⟨j,e.trans m,by simp only [List.foldl_cons,List.length_cons];omega,fun b c=>?_⟩
   rcases n b c with c|c
   ·rcases f b c with c|c
    ·exact ap c
    ·exact an (by simp[c])
   ·exact an (ay _ c)
 intro l hl;obtain⟨d,e,g,f⟩:=key l ([],s) h hl;exact⟨d,e,by show(l.foldl k.cr ([],s)).1.length<=l.length;simpa using g,fun b c=>by simpa using f b c⟩
theorem CI.kv (h:CI k s)(e:d6 k s):CI k (k.kv s).2/\d6 k (k.kv s).2/\k.mu (k.kv s).2<=k.mu s/\((k.kv s).1=true->k.mu (k.kv s).2<k.mu s):=by
 obtain⟨b,d,i,f⟩:=h.c4 s.ep (fun a ha=>(h.gD a ha).1)
 have c:=d.nx;have j:=d.g;have b1:=e.wk;have b2:=e.ep;have g:=d.wk;refine⟨⟨b.hN,b.hN',b.hO,b.hy,b.hg,b.len,b.th,b.nd,b.room,b.f5,b.gC,b.gN,fun a ha=>h.gD a (f a ha),b.tl⟩,⟨?_,?_⟩,?_,fun hk=>?_⟩
 ·show(k.c4 s s.ep).2.wk.length+(k.N+k.O+13-(k.c4 s s.ep).2.nx).toNat<=4000;rw[c,g];exact b1
 ·show(k.c4 s s.ep).1.length+(k.N+k.O+13-(k.c4 s s.ep).2.nx).toNat<=4000;rw[c];omega
 ·unfold bP.mu;show(k.N+k.O+13-(k.c4 s s.ep).2.nx).toNat+(k.c4 s s.ep).1.length+(k.O-(k.c4 s s.ep).2.g)<=_;rw[c];omega
 ·have hk:(k.c4 s s.ep).1.length<s.ep.length:=by simpa[bP.kv] using hk
  unfold bP.mu;show(k.N+k.O+13-(k.c4 s s.ep).2.nx).toNat+(k.c4 s s.ep).1.length+(k.O-(k.c4 s s.ep).2.g)<_;rw[c];omega
theorem d9.mu {t:bU}(h:d9 k s t):k.mu t<=k.mu s:=by unfold bP.mu;rw[h.nx,h.ep];have:=h.g;omega
theorem d9.cb {t:bU}(h:d9 k s t)(a:d6 k s):d6 k t:=⟨by rw[h.wk,h.nx];exact a.wk,by rw[h.ep,h.nx];exact a.ep⟩
theorem CI.fF {s:bU×List bN}(h:CI k s.1):∀n,CI k (fF k.al k.br s n).1.1/\d9 k s.1 (fF k.al k.br s n).1.1/\(fF k.al k.br s n).1.2.length=s.2.length/\((fF k.al k.br s n).2=true->s.1.g<(fF k.al k.br s n).1.1.g)
 |0=>⟨h,d9.refl _ _,rfl,fun e=>by simp[Proofs.YtjpjpjemibgjpaaGreat.fF] at e⟩
 |n+1=>by
  obtain⟨b,a,d,f⟩:=CI.fF h n;have e:Proofs.YtjpjpjemibgjpaaGreat.fF k.al k.br s (n+1)=dt k.al k.br (Proofs.YtjpjpjemibgjpaaGreat.fF k.al k.br s n) n:=by simp[Proofs.YtjpjpjemibgjpaaGreat.fF,List.range_succ]
  rw[e];generalize Proofs.YtjpjpjemibgjpaaGreat.fF k.al k.br s n=t at b a d f⊢;unfold dt;split
  ·exact⟨b,a,d,f⟩
  ·rename_i c;obtain⟨g,i,j⟩:=b.br (t.1.2.getD n (0,0)).2;have hl:k.ls t.1.1 (t.1.2.getD n (0,0)).2=true:=by unfold bP.al at c;simp at c;exact c.1
   refine⟨g,a.trans i,by simp[d],fun _=>?_⟩
   exact Nat.lt_of_le_of_lt a.g (j hl)
theorem CI.wa {s:bU×List bN}(h:CI k s.1)(c:d6 k s.1):CI k (k.wa s).1.1/\d6 k (k.wa s).1.1/\(k.wa s).1.2.length=s.2.length/\k.mu (k.wa s).1.1<=k.mu s.1/\((k.wa s).2=true->k.mu (k.wa s).1.1<k.mu s.1):=by
 obtain⟨b,a,d,f⟩:=h.fF s.2.length;refine⟨b,a.cb c,d,a.mu,fun e=>?_⟩
 have g:=f e;have i:=b.hg;show k.mu (Proofs.YtjpjpjemibgjpaaGreat.fF k.al k.br s s.2.length).1.1<_;unfold bP.mu;rw[a.nx,a.ep];omega
theorem CI.cg (h:CI k s):∀n,CI k (k.cg s n)/\(k.cg s n).nx=s.nx/\(k.cg s n).wk=s.wk/\(k.cg s n).ep=s.ep/\s.g<=(k.cg s n).g/\(k.cg s n).rs.length=s.rs.length
 |0=>⟨h,rfl,rfl,rfl,ak _,rfl⟩
 |n+1=>by
  obtain⟨c,d,e,f,g,i⟩:=CI.cg h n;obtain⟨a,b,_⟩:=c.br ((k.cg s n).rs.getD n 0)
  refine⟨⟨a.hN,a.hN',a.hO,a.hy,a.hg,a.len,a.th,a.nd,a.room,a.f5,a.gC,a.gN,a.gD,a.tl⟩,b.nx.trans d,b.wk.trans e,b.ep.trans f,az g b.g,?_⟩
  show((k.br (k.cg s n) ((k.cg s n).rs.getD n 0)).2.rs.set n _).length=_;rw[aM,b.rs,i]
theorem CI.ex (h:CI k s){a:Int}(ha:(k.N:Int)<=a):CI k (k.ex s a)/\d9 k s (k.ex s a):=by
 unfold bP.ex;split
 ·exact⟨h.st I _,⟨rfl,rfl,rfl,rfl,ak _⟩⟩
 ·exact⟨h.st I _,⟨rfl,rfl,rfl,rfl,ak _⟩⟩
theorem CI.gg (h:CI k s){a:Int}(ha:(k.N:Int)<=a):CI k (k.gg s a)/\d9 k s (k.gg s a):=
 ⟨(h.st (a:=a+1) I _).st I _,⟨rfl,rfl,rfl,rfl,ak _⟩⟩
theorem CI.fold (f:bU->Int->bU)(c:∀s a,CI k s->(k.N:Int)<=a->CI k (f s a)/\d9 k s (f s a)):∀(l:List Int)(s:bU),CI k s->(∀a∈l,(k.N:Int)<=a)->CI k (l.foldl f s)/\d9 k s (l.foldl f s)
 |[],s,h,_=>⟨h,d9.refl _ _⟩
 |a::l,s,h,hl=>by
  obtain⟨d,e⟩:=c s a h (hl a V)
  obtain⟨g,i⟩:=CI.fold f c l (f s a) d (fun b j=>hl b (ay _ j))
  exact⟨g,e.trans i⟩
theorem CI.mw (h:CI k s){l:List Int}(hl:∀a∈l,(k.N:Int)<=a):CI k (k.mw s l)/\d9 k s (k.mw s l):=CI.fold k.ex (fun _ _ h ha=>h.ex ha) l s h hl
end
open Go.RowKit W Kp bY
def Mp (w:World)(bW:Nat)(T:List Int)(f:Int->Int):Prop:=
 ∃D:DataW Unit,w.ownsMap prog 3 (plainElem prog 3) bW T.length D/\(∀a:Int,Maps.has D (.int .i64 a)=T.contains a)/\∀a∈T,D.atKey (.int .i64 a) (.lit (.int .i64 0))=.lit (.int .i64 (f a))
theorem Mp.same {w w':World}{bW:Nat}{T:List Int}{f:Int->Int}(h:Mp w bW T f)(e:w'.heap[bW]?=w.heap[bW]?):Mp w' bW T f:=by obtain⟨D,a,b,c⟩:=h;exact⟨D,o6 a e,b,c⟩
theorem Mp.lt {w:World}{bW:Nat}{T:List Int}{f:Int->Int}(h:Mp w bW T f):bW<w.heap.size:=by obtain⟨D,a,_⟩:=h;exact a.lt
theorem Mp.put {w w':World}{bW n:Nat}{T:List Int}{f:Int->Int}{a v:Int}{D:DataW Unit}(c:w.ownsMap prog 3 (plainElem prog 3) bW T.length D)(d:∀a:Int,Maps.has D (.int .i64 a)=T.contains a)(g:∀a∈T,D.atKey (.int .i64 a) (.lit (.int .i64 0))=.lit (.int .i64 (f a)))
 (ha:a∈T)(i:w'.ownsMap prog 3 (plainElem prog 3) bW n (D.put (.int .i64 a) (.lit (.int .i64 v)))):Mp w' bW T (fe f a v):=by
 have hs:Maps.size (D.put (.int .i64 a) (.lit (.int .i64 v)))<=T.length:=by rw[Maps.size_put (c.tidy gz),d,aq (by simpa using ha)];exact c.size_le
 refine⟨_,(o7 i rfl).mono hs,fun b=>?_,fun b j=>?_⟩
 ·by_cases e:b=a
  ·subst e;rw[Maps.has_put_same (k:=.int .i64 b) c.isMap trivial];simp[ha]
  ·rw[Maps.has_put_other (by simpa using e),d]
 ·unfold fe;by_cases e:b=a
  ·subst e;rw[Maps.atKey_put_same (k:=.int .i64 b) c.isMap trivial,aq rfl]
  ·rw[Maps.atKey_put_other (by simpa using e),ao e];exact g b j
theorem Mp.add {w w':World}{bW n:Nat}{T:List Int}{a v:Int}{f:Int->Int}{D:DataW Unit}(d:w.ownsMap prog 3 (plainElem prog 3) bW T.length D)(i:∀a:Int,Maps.has D (.int .i64 a)=T.contains a)(j:∀a∈T,D.atKey (.int .i64 a) (.lit (.int .i64 0))=.lit (.int .i64 (f a)))
 (l:f a=v)(m:n=T.length+1)(g:w'.ownsMap prog 3 (plainElem prog 3) bW n (D.put (.int .i64 a) (.lit (.int .i64 v)))):Mp w' bW (T++[a]) f:=by
 refine⟨_,by rw[m] at g;simpa using g,fun b=>?_,fun b c=>?_⟩
 ·by_cases e:b=a
  ·subst e;rw[Maps.has_put_same (k:=.int .i64 b) d.isMap trivial];simp
  ·rw[Maps.has_put_other (by simpa using e),i];simp[e]
 ·by_cases e:b=a
  ·subst e;rw[Maps.atKey_put_same (k:=.int .i64 b) d.isMap trivial,l]
  ·rw[Maps.atKey_put_other (by simpa using e)];refine j b ?_;rcases List.mem_append.1 c with c|c
   ·exact c
   ·simp at c;exact absurd c e
structure fs where
 pk:Nat
 bW:Nat
 pw:Nat
 p:Nat
 q:Nat
 pc:Nat
 ct:Nat
 sd:Nat
 nb:Nat
 c:Int
 M:List Int
structure nG (c:fs)(k:bP)(own:Nat->Nat)(s:bU)(ch bO:Value)(w:World):Prop where
 ar:At w c.p c.q k.N k.O k.y s.g s.ws
 a1:own c.p=1
 a2:own c.q=1
 cd:Cd w c.pc c.ct k.N c.c c.M
 c1:own c.pc=2
 c2:own c.ct=2
 wd:w.heap[c.pw]?=some (.cells #[af c.p,af c.pc,af c.sd,.slice (ag c.nb) 12 12] 55 (0,0))
 w1:own c.pw=3
 rt:w.heap[c.nb]?=some (.cells (s.rs.map (Value.int .i64)).toArray 2 (0,0))
 rl:s.rs.length=12
 r1:own c.nb=4
 cb:w.heap[c.pk]?=some (.cells #[af c.pw,.map (some c.bW),ae s.nx,ch,bO] 143 (0,0))
 k1:own c.pk=5
 mp:Mp w c.bW k.T s.f
 m1:own c.bW=6
 wr:w.ownsRow 0 3 1 ch s.wk.length (s.wk.map (Value.int .i64))
 de:∀b,some b=ch.ownBlock->own b=7
 er:w.ownsRow 0 3 1 bO s.ep.length (s.ep.map (Value.int .i64))
 eo:∀b,some b=bO.ownBlock->own b=8
 lt:∀b,own b≠0->b<w.heap.size
section
variable {c:fs}{k:bP}{own:Nat->Nat}{s:bU}{ch bO:Value}{w w':World}
theorem nG.but (h:nG c k own s ch bO w)(L:Nat->Prop)(hs:w.heap.size<=w'.heap.size)(hk:∀b,b<w.heap.size->own b≠0->¬L (own b)->w'.heap[b]?=w.heap[b]?)
 (d:L 1->At w' c.p c.q k.N k.O k.y s.g s.ws)(f:L 4->w'.heap[c.nb]?=some (.cells (s.rs.map (Value.int .i64)).toArray 2 (0,0)))(g:L 5->w'.heap[c.pk]?=some (.cells #[af c.pw,.map (some c.bW),ae s.nx,ch,bO] 143 (0,0)))
 (hM:L 6->Mp w' c.bW k.T s.f)(i:L 7->w'.ownsRow 0 3 1 ch s.wk.length (s.wk.map (Value.int .i64)))(j:L 8->w'.ownsRow 0 3 1 bO s.ep.length (s.ep.map (Value.int .i64)))(a:¬L 2)(m:¬L 3):nG c k own s ch bO w' where
 ar:=by
  by_cases l:L 1
  ·exact d l
  ·exact h.ar.same (hk _ h.ar.ee (by rw[h.a1];decide) (by rw[h.a1];exact l)) (hk _ h.ar.ef (by rw[h.a2];decide) (by rw[h.a2];exact l))
 a1:=h.a1
 a2:=h.a2
 cd:=h.cd.same (hk _ h.cd.ee (by rw[h.c1];decide) (by rw[h.c1];exact a)) (hk _ h.cd.ef (by rw[h.c2];decide) (by rw[h.c2];exact a))
 c1:=h.c1
 c2:=h.c2
 wd:=(hk _ (lt_of_some h.wd) (by rw[h.w1];decide) (by rw[h.w1];exact m)).trans h.wd
 w1:=h.w1
 rt:=by
  by_cases l:L 4
  ·exact f l
  ·exact(hk _ (lt_of_some h.rt) (by rw[h.r1];decide) (by rw[h.r1];exact l)).trans h.rt
 rl:=h.rl
 r1:=h.r1
 cb:=by
  by_cases l:L 5
  ·exact g l
  ·exact(hk _ (lt_of_some h.cb) (by rw[h.k1];decide) (by rw[h.k1];exact l)).trans h.cb
 k1:=h.k1
 mp:=by
  by_cases l:L 6
  ·exact hM l
  ·exact h.mp.same (hk _ h.mp.lt (by rw[h.m1];decide) (by rw[h.m1];exact l))
 m1:=h.m1
 wr:=by
  by_cases l:L 7
  ·exact i l
  ·exact ca h.wr (fun b e=>hk b (bR h.wr b e).2 (by rw[h.de b e];decide) (by rw[h.de b e];exact l))
 de:=h.de
 er:=by
  by_cases l:L 8
  ·exact j l
  ·exact ca h.er (fun b e=>hk b (bR h.er b e).2 (by rw[h.eo b e];decide) (by rw[h.eo b e];exact l))
 eo:=h.eo
 lt:=fun b n=>av (h.lt b n) hs
end
def cutV (c:fs)(k:bP)(ch bO:Value):dB bU where
 J F s w:=∃own,nG c k own s ch bO w/\∀b,F b↔own b≠0
 lt:=by rintro F s w ⟨own,h,a⟩ b d;exact h.lt b ((a b).1 d)
 keep:=by rintro F s w w' ⟨own,h,a⟩ hs hk;exact⟨own,h.but (fun _=>False) hs (fun b _ d _=>hk b ((a b).2 d)) False.elim False.elim False.elim False.elim False.elim False.elim id id,a⟩
def dq (c:fs)(k:bP):dB bU where
 J F s w:=∃ch bO,(cutV c k ch bO).J F s w
 lt:=by
  rintro F s w ⟨ch,bO,h⟩
  exact(cutV c k ch bO).lt h
 keep:=by rintro F s w w' ⟨ch,bO,h⟩ hs hk;exact⟨ch,bO,(cutV c k ch bO).keep h hs hk⟩
section
variable {c:fs}{k:bP}{ch bO:Value}{F:Nat->Prop}{s:bU}{w w':World}
theorem gO (h:(cutV c k ch bO).J F s w):At w c.p c.q k.N k.O k.y s.g s.ws/\∀w' g ws,At w' c.p c.q k.N k.O k.y g ws->cY c.p c.q w w'->(cutV c k ch bO).J F {s with g:=g,ws:=ws} w'/\bM F w F w':=by
 obtain⟨own,h,i⟩:=h;refine⟨h.ar,fun w' g ws ha d=>⟨⟨own,?_,i⟩,⟨⟨d.os,d.tape,d.output,d.size,fun b a f=>d.block b a (fun e=>f ((i b).2 (by rw[e,h.a1];decide))) (fun e=>f ((i b).2 (by rw[e,h.a2];decide)))⟩,fun _ h=>ap h⟩⟩⟩
 have a:∀b,b<w.heap.size->own b≠0->¬own b=1->w'.heap[b]?=w.heap[b]?:=fun b a _ f=>d.block b a (fun e=>f (by rw[e];exact h.a1)) (fun e=>f (by rw[e];exact h.a2))
 exact {
  ar:=ha,a1:=h.a1,a2:=h.a2,c1:=h.c1,c2:=h.c2,w1:=h.w1,rl:=h.rl,r1:=h.r1,k1:=h.k1,m1:=h.m1,de:=h.de,eo:=h.eo,lt:=fun b a=>av (h.lt b a) d.size
  cd:=h.cd.same (a _ h.cd.ee (by rw[h.c1];decide) (by rw[h.c1];decide)) (a _ h.cd.ef (by rw[h.c2];decide) (by rw[h.c2];decide))
  wd:=(a _ (lt_of_some h.wd) (by rw[h.w1];decide) (by rw[h.w1];decide)).trans h.wd
  rt:=(a _ (lt_of_some h.rt) (by rw[h.r1];decide) (by rw[h.r1];decide)).trans h.rt
  cb:=(a _ (lt_of_some h.cb) (by rw[h.k1];decide) (by rw[h.k1];decide)).trans h.cb
  mp:=h.mp.same (a _ h.mp.lt (by rw[h.m1];decide) (by rw[h.m1];decide))
  wr:=ca h.wr (fun b e=>a b (bR h.wr b e).2 (by rw[h.de b e];decide) (by rw[h.de b e];decide))
  er:=ca h.er (fun b e=>a b (bR h.er b e).2 (by rw[h.eo b e];decide) (by rw[h.eo b e];decide))}
theorem sK (h:(cutV c k ch bO).J F s w):Mp w c.bW k.T s.f/\∀w' f,Mp w' c.bW k.T f->Fr (fun b=>b=c.bW) w w'->(cutV c k ch bO).J F {s with f:=f} w'/\bM F w F w':=by
 obtain⟨own,h,d⟩:=h;refine⟨h.mp,fun w' f hm fr=>⟨⟨own,?_,d⟩,⟨fr.mono (fun b e=>(d b).2 (by rw[e,h.m1];decide)),fun _ h=>ap h⟩⟩⟩
 have a:∀b,b<w.heap.size->own b≠6->w'.heap[b]?=w.heap[b]?:=fun b a g=>fr.block b a (fun e=>g (by rw[e];exact h.m1))
 exact {
  mp:=hm,a1:=h.a1,a2:=h.a2,c1:=h.c1,c2:=h.c2,w1:=h.w1,rl:=h.rl,r1:=h.r1,k1:=h.k1,m1:=h.m1,de:=h.de,eo:=h.eo,lt:=fun b a=>av (h.lt b a) fr.size
  ar:=h.ar.same (a _ h.ar.ee (by rw[h.a1];decide)) (a _ h.ar.ef (by rw[h.a2];decide))
  cd:=h.cd.same (a _ h.cd.ee (by rw[h.c1];decide)) (a _ h.cd.ef (by rw[h.c2];decide))
  wd:=(a _ (lt_of_some h.wd) (by rw[h.w1];decide)).trans h.wd
  rt:=(a _ (lt_of_some h.rt) (by rw[h.r1];decide)).trans h.rt
  cb:=(a _ (lt_of_some h.cb) (by rw[h.k1];decide)).trans h.cb
  wr:=ca h.wr (fun b e=>a b (bR h.wr b e).2 (by rw[h.de b e];decide))
  er:=ca h.er (fun b e=>a b (bR h.er b e).2 (by rw[h.eo b e];decide))}
theorem x9 (h:(cutV c k ch bO).J F s w)(i:Nat)(x:Int):(cutV c k ch bO).J F {s with rs:=s.rs.set i x} (w.setCell ⟨c.nb,i,none⟩ (.int .i64 x))/\bM F w F (w.setCell ⟨c.nb,i,none⟩ (.int .i64 x)):=by
 obtain⟨own,h,d⟩:=h;have fr:Fr (fun b=>b=c.nb) w (w.setCell ⟨c.nb,i,none⟩ (.int .i64 x)):=(Fr.refl _ w).set _ i _ rfl;refine⟨⟨own,?_,d⟩,⟨fr.mono (fun b e=>(d b).2 (by rw[e,h.r1];decide)),fun _ h=>ap h⟩⟩
 have a:∀b,b<w.heap.size->own b≠4->(w.setCell ⟨c.nb,i,none⟩ (.int .i64 x)).heap[b]?=w.heap[b]?:=fun b a f=>fr.block b a (fun e=>f (by rw[e];exact h.r1))
 exact {
  mp:=h.mp.same (a _ h.mp.lt (by rw[h.m1];decide)),a1:=h.a1,a2:=h.a2,c1:=h.c1,c2:=h.c2,w1:=h.w1,r1:=h.r1,k1:=h.k1,m1:=h.m1,de:=h.de,eo:=h.eo,lt:=fun b a=>av (h.lt b a) fr.size
  rl:=by rw[aM];exact h.rl
  ar:=h.ar.same (a _ h.ar.ee (by rw[h.a1];decide)) (a _ h.ar.ef (by rw[h.a2];decide))
  cd:=h.cd.same (a _ h.cd.ee (by rw[h.c1];decide)) (a _ h.cd.ef (by rw[h.c2];decide))
  wd:=(a _ (lt_of_some h.wd) (by rw[h.w1];decide)).trans h.wd
  rt:=by have hq:=h.rt;simp only [World.setCell,Array.getElem?_modify,if_true,hq,Option.map_some];simp[List.map_set]
  cb:=(a _ (lt_of_some h.cb) (by rw[h.k1];decide)).trans h.cb
  wr:=ca h.wr (fun b e=>a b (bR h.wr b e).2 (by rw[h.de b e];decide))
  er:=ca h.er (fun b e=>a b (bR h.er b e).2 (by rw[h.eo b e];decide))}
theorem dL (h:(cutV c k ch bO).J F s w):w.cell? (ah c.pk 0)=some (af c.pw)/\w.cell? (ah c.pk 1)=some (.map (some c.bW))/\w.cell? (ah c.pk 2)=some (ae s.nx)/\w.cell? (ah c.pk 3)=some ch/\w.cell? (ah c.pk 4)=some bO/\
 w.cell? (ah c.pw 0)=some (af c.p)/\w.cell? (ah c.pw 1)=some (af c.pc)/\w.cell? (ah c.pw 2)=some (af c.sd)/\w.cell? (ah c.pw 3)=some (.slice (ag c.nb) 12 12)/\(∀o,w.frozen? (ah c.pk o)=false)/\
 w.ownsRow 0 3 1 ch s.wk.length (s.wk.map (Value.int .i64))/\w.ownsRow 0 3 1 bO s.ep.length (s.ep.map (Value.int .i64))/\Cd w c.pc c.ct k.N c.c c.M/\c.pk<w.heap.size/\c.pw<w.heap.size:=by
 obtain⟨own,h,d⟩:=h;have a:=h.cb;have b:=h.wd;exact⟨by simp[World.cell?,a],by simp[World.cell?,a],by simp[World.cell?,a],by simp[World.cell?,a],by simp[World.cell?,a],by simp[World.cell?,b],by simp[World.cell?,b],by simp[World.cell?,b],by simp[World.cell?,b],fun o=>by simp[World.frozen?,a],h.wr,h.er,h.cd,lt_of_some a,lt_of_some b⟩
theorem sL (h:(cutV c k ch bO).J F s w):s.rs.length=12/\c.nb<w.heap.size/\∀i,i<12->w.cell? (ah c.nb i)=some (ae (s.rs.getD i 0))/\w.frozen? (ah c.nb i)=false:=by
 obtain⟨own,h,a⟩:=h;have hl:=h.rl;refine⟨hl,lt_of_some h.rt,fun i hi=>⟨?_,?_⟩⟩
 ·simp[World.cell?,h.rt,List.getElem?_map,List.getElem?_eq_getElem (show i<s.rs.length by omega),List.getD_eq_getElem?_getD]
 ·simp[World.frozen?,h.rt]
theorem x_ (h:(cutV c k ch bO).J F s w):c.pk≠c.bW/\c.pw≠c.bW:=by
 obtain⟨own,h,b⟩:=h;refine⟨fun e=>?_,fun e=>?_⟩
 ·have a:=h.k1;rw[e,h.m1] at a;omega
 ·have a:=h.w1;rw[e,h.m1] at a;omega
theorem pA (h:(cutV c k ch bO).J F s w){v:Value}(a:w.cell? (ah c.pk 3)=some v\/w.cell? (ah c.pk 4)=some v):some c.pk≠v.ownBlock/\some c.pw≠v.ownBlock:=by
 obtain⟨own,h,f⟩:=h;have d:=h.cb;have hl:∀b,some b=v.ownBlock->own b=7\/own b=8:=fun b e=>by
  rcases a with a|a
  ·simp[World.cell?,d] at a;subst a;exact ap (h.de b e)
  ·simp[World.cell?,d] at a;subst a;exact an (h.eo b e)
 refine⟨fun e=>?_,fun e=>?_⟩
 ·have:=hl _ e;rw[h.k1] at this
  omega
 ·have:=hl _ e;rw[h.w1] at this
  omega
theorem ya (h:(cutV c k ch bO).J F s w)(n:Int):(cutV c k ch bO).J F {s with nx:=n} (w.setCell ⟨c.pk,2,none⟩ (.int .i64 n))/\bM F w F (w.setCell ⟨c.pk,2,none⟩ (.int .i64 n)):=by
 obtain⟨own,h,d⟩:=h;have fr:Fr (fun b=>b=c.pk) w (w.setCell ⟨c.pk,2,none⟩ (.int .i64 n)):=(Fr.refl _ w).set _ 2 _ rfl;refine⟨⟨own,?_,d⟩,⟨fr.mono (fun b e=>(d b).2 (by rw[e,h.k1];decide)),fun _ h=>ap h⟩⟩
 have a:∀b,b<w.heap.size->own b≠5->(w.setCell ⟨c.pk,2,none⟩ (.int .i64 n)).heap[b]?=w.heap[b]?:=fun b a f=>fr.block b a (fun e=>f (by rw[e];exact h.k1))
 exact {
  mp:=h.mp.same (a _ h.mp.lt (by rw[h.m1];decide)),a1:=h.a1,a2:=h.a2,c1:=h.c1,c2:=h.c2,w1:=h.w1,r1:=h.r1,k1:=h.k1,m1:=h.m1,de:=h.de,eo:=h.eo,lt:=fun b a=>av (h.lt b a) fr.size
  rl:=h.rl
  ar:=h.ar.same (a _ h.ar.ee (by rw[h.a1];decide)) (a _ h.ar.ef (by rw[h.a2];decide))
  cd:=h.cd.same (a _ h.cd.ee (by rw[h.c1];decide)) (a _ h.cd.ef (by rw[h.c2];decide))
  wd:=(a _ (lt_of_some h.wd) (by rw[h.w1];decide)).trans h.wd
  rt:=(a _ (lt_of_some h.rt) (by rw[h.r1];decide)).trans h.rt
  cb:=by have hq:=h.cb;simp only [World.setCell,Array.getElem?_modify,if_true,hq,Option.map_some];simp
  wr:=ca h.wr (fun b e=>a b (bR h.wr b e).2 (by rw[h.de b e];decide))
  er:=ca h.er (fun b e=>a b (bR h.er b e).2 (by rw[h.eo b e];decide))}
theorem yc {v0:Value}(h:(cutV c k v0 bO).J F s w){v1:Value}{l:List Int}{w1:World}(g:Fr (fun b=>some b=v0.ownBlock) w w1)(n:w1.ownsRow 0 3 1 v1 l.length (l.map (Value.int .i64)))(i:∀b,some b=v1.ownBlock->some b=v0.ownBlock\/¬F b):
 (cutV c k v1 bO).J (fun b=>F b\/some b=v1.ownBlock) {s with wk:=l} (w1.setCell ⟨c.pk,3,none⟩ v1)/\Fr F w (w1.setCell ⟨c.pk,3,none⟩ v1):=by
 obtain⟨own,h,f⟩:=h;have sz:(w1.setCell ⟨c.pk,3,none⟩ v1).heap.size=w1.heap.size:=by simp[World.setCell]
 have o:∀b,b<w.heap.size->own b≠7->w1.heap[b]?=w.heap[b]?:=fun b a i=>g.block b a (fun e=>i (h.de b e))
 have a:∀b,b<w.heap.size->own b≠7->own b≠5->(w1.setCell ⟨c.pk,3,none⟩ v1).heap[b]?=w.heap[b]?:=fun b a p t=>(Below.heap_setCell _ _ _ _ (fun e=>t (by have e:b=c.pk:=e;rw[e];exact h.k1))).trans (o b a p)
 have q:∀b,some b=v1.ownBlock->own b=7\/own b=0:=fun b e=>(i b e).elim (fun e=>ap (h.de b e)) (fun hl=>an (Classical.byContradiction (fun c=>hl ((f b).2 c))))
 have d:∀b j,own b=j->j≠7->j≠0->(if some b=v1.ownBlock then 7 else own b)=j:=fun b j e p h0=>by rw[ao (fun c=>by rcases q b c with c|c<;>omega)];exact e
 have u:=fun b e=>(bR n b e).2;refine⟨⟨fun b=>if some b=v1.ownBlock then 7 else own b,?_,fun b=>?_⟩,?_⟩
 ·exact {
   ar:=h.ar.same (a _ h.ar.ee (by rw[h.a1];decide) (by rw[h.a1];decide)) (a _ h.ar.ef (by rw[h.a2];decide) (by rw[h.a2];decide))
   a1:=d _ _ h.a1 Z Z,a2:=d _ _ h.a2 Z Z,c1:=d _ _ h.c1 Z Z,c2:=d _ _ h.c2 Z Z,w1:=d _ _ h.w1 Z Z,r1:=d _ _ h.r1 Z Z,k1:=d _ _ h.k1 Z Z,m1:=d _ _ h.m1 Z Z
   rl:=h.rl
   cd:=h.cd.same (a _ h.cd.ee (by rw[h.c1];decide) (by rw[h.c1];decide)) (a _ h.cd.ef (by rw[h.c2];decide) (by rw[h.c2];decide))
   wd:=(a _ (lt_of_some h.wd) (by rw[h.w1];decide) (by rw[h.w1];decide)).trans h.wd
   rt:=(a _ (lt_of_some h.rt) (by rw[h.r1];decide) (by rw[h.r1];decide)).trans h.rt
   cb:=by have hq:=(o _ (lt_of_some h.cb) (by rw[h.k1];decide)).trans h.cb;simp only [World.setCell,Array.getElem?_modify,if_true,hq,Option.map_some];simp
   mp:=h.mp.same (a _ h.mp.lt (by rw[h.m1];decide) (by rw[h.m1];decide))
   wr:=ca n (fun b e=>Below.heap_setCell _ _ _ _ (fun m=>by
    have m:b=c.pk:=m;have:=q b e;rw[m,h.k1] at this
    omega))
   de:=fun b e=>by rw[aq e]
   er:=ca h.er (fun b e=>a b (bR h.er b e).2 (by rw[h.eo b e];decide) (by rw[h.eo b e];decide))
   eo:=fun b e=>d _ _ (h.eo b e) Z Z
   lt:=fun b a=>by
    rw[sz];by_cases e:some b=v1.ownBlock
    ·exact u b e
    ·rw[ao e] at a;exact av (h.lt b a) g.size}
 ·by_cases e:some b=v1.ownBlock
  ·simp[e]
  ·simp[e,f b]
 ·refine(g.mono (fun b e=>(f b).2 (by rw[h.de b e];decide))).trans ((Fr.refl (fun b=>b=c.pk) w1).set _ 3 _ rfl) (fun b e=>ap ((f b).2 (by rw[e,h.k1];decide)))
theorem yd {v0:Value}(h:(cutV c k v0 bO).J F s w){v1:Value}{l:List Int}{w1:World}(g:Fr (fun b=>some b=v0.ownBlock) w w1)(i:w1.ownsRow 0 3 1 v1 l.length (l.map (Value.int .i64)))(d:∀b,some b=v1.ownBlock->some b=v0.ownBlock\/w.heap.size<=b):
 ∃f,(cutV c k v1 bO).J f {s with wk:=l} (w1.setCell ⟨c.pk,3,none⟩ v1)/\bM F w f (w1.setCell ⟨c.pk,3,none⟩ v1):=by
 obtain⟨j,m⟩:=yc h g i (fun b e=>(d b e).imp id (fun o a=>by have:=(cutV c k v0 bO).lt h b a;omega))
 obtain⟨own,hm,n⟩:=h;exact⟨_,j,m,fun b a=>a.elim ap (fun e=>(d b e).imp (fun e=>(n b).2 (by rw[hm.de b e];decide)) id)⟩
theorem sM {v0:Value}(h:(cutV c k ch v0).J F s w){v1:Value}{l:List Int}{w1:World}(g:Fr (fun b=>some b=v0.ownBlock) w w1)(n:w1.ownsRow 0 3 1 v1 l.length (l.map (Value.int .i64)))(i:∀b,some b=v1.ownBlock->some b=v0.ownBlock\/¬F b):
 (cutV c k ch v1).J (fun b=>F b\/some b=v1.ownBlock) {s with ep:=l} (w1.setCell ⟨c.pk,4,none⟩ v1)/\Fr F w (w1.setCell ⟨c.pk,4,none⟩ v1):=by
 obtain⟨own,h,f⟩:=h;have sz:(w1.setCell ⟨c.pk,4,none⟩ v1).heap.size=w1.heap.size:=by simp[World.setCell]
 have o:∀b,b<w.heap.size->own b≠8->w1.heap[b]?=w.heap[b]?:=fun b a i=>g.block b a (fun e=>i (h.eo b e))
 have a:∀b,b<w.heap.size->own b≠8->own b≠5->(w1.setCell ⟨c.pk,4,none⟩ v1).heap[b]?=w.heap[b]?:=fun b a p t=>(Below.heap_setCell _ _ _ _ (fun e=>t (by have e:b=c.pk:=e;rw[e];exact h.k1))).trans (o b a p)
 have q:∀b,some b=v1.ownBlock->own b=8\/own b=0:=fun b e=>(i b e).elim (fun e=>ap (h.eo b e)) (fun hl=>an (Classical.byContradiction (fun c=>hl ((f b).2 c))))
 have d:∀b j,own b=j->j≠8->j≠0->(if some b=v1.ownBlock then 8 else own b)=j:=fun b j e p h0=>by rw[ao (fun c=>by rcases q b c with c|c<;>omega)];exact e
 have u:=fun b e=>(bR n b e).2;refine⟨⟨fun b=>if some b=v1.ownBlock then 8 else own b,?_,fun b=>?_⟩,?_⟩
 ·exact {
   ar:=h.ar.same (a _ h.ar.ee (by rw[h.a1];decide) (by rw[h.a1];decide)) (a _ h.ar.ef (by rw[h.a2];decide) (by rw[h.a2];decide))
   a1:=d _ _ h.a1 Z Z,a2:=d _ _ h.a2 Z Z,c1:=d _ _ h.c1 Z Z,c2:=d _ _ h.c2 Z Z,w1:=d _ _ h.w1 Z Z,r1:=d _ _ h.r1 Z Z,k1:=d _ _ h.k1 Z Z,m1:=d _ _ h.m1 Z Z
   rl:=h.rl
   cd:=h.cd.same (a _ h.cd.ee (by rw[h.c1];decide) (by rw[h.c1];decide)) (a _ h.cd.ef (by rw[h.c2];decide) (by rw[h.c2];decide))
   wd:=(a _ (lt_of_some h.wd) (by rw[h.w1];decide) (by rw[h.w1];decide)).trans h.wd
   rt:=(a _ (lt_of_some h.rt) (by rw[h.r1];decide) (by rw[h.r1];decide)).trans h.rt
   cb:=by have hq:=(o _ (lt_of_some h.cb) (by rw[h.k1];decide)).trans h.cb;simp only [World.setCell,Array.getElem?_modify,if_true,hq,Option.map_some];simp
   mp:=h.mp.same (a _ h.mp.lt (by rw[h.m1];decide) (by rw[h.m1];decide))
   er:=ca n (fun b e=>Below.heap_setCell _ _ _ _ (fun m=>by
    have m:b=c.pk:=m;have:=q b e;rw[m,h.k1] at this
    omega))
   eo:=fun b e=>by rw[aq e]
   wr:=ca h.wr (fun b e=>a b (bR h.wr b e).2 (by rw[h.de b e];decide) (by rw[h.de b e];decide))
   de:=fun b e=>d _ _ (h.de b e) Z Z
   lt:=fun b a=>by
    rw[sz];by_cases e:some b=v1.ownBlock
    ·exact u b e
    ·rw[ao e] at a;exact av (h.lt b a) g.size}
 ·by_cases e:some b=v1.ownBlock
  ·simp[e]
  ·simp[e,f b]
 ·refine(g.mono (fun b e=>(f b).2 (by rw[h.eo b e];decide))).trans ((Fr.refl (fun b=>b=c.pk) w1).set _ 4 _ rfl) (fun b e=>ap ((f b).2 (by rw[e,h.k1];decide)))
theorem ye {v0:Value}(h:(cutV c k ch v0).J F s w){v1:Value}{l:List Int}{w1:World}(g:Fr (fun b=>some b=v0.ownBlock) w w1)(i:w1.ownsRow 0 3 1 v1 l.length (l.map (Value.int .i64)))(d:∀b,some b=v1.ownBlock->some b=v0.ownBlock\/w.heap.size<=b):
 ∃f,(cutV c k ch v1).J f {s with ep:=l} (w1.setCell ⟨c.pk,4,none⟩ v1)/\bM F w f (w1.setCell ⟨c.pk,4,none⟩ v1):=by
 obtain⟨j,m⟩:=sM h g i (fun b e=>(d b e).imp id (fun o a=>by have:=(cutV c k ch v0).lt h b a;omega))
 obtain⟨own,hm,n⟩:=h;exact⟨_,j,m,fun b a=>a.elim ap (fun e=>(d b e).imp (fun e=>(n b).2 (by rw[hm.eo b e];decide)) id)⟩
end
end Go.Proofs.YtjpjpjemibgjpaaGreat
