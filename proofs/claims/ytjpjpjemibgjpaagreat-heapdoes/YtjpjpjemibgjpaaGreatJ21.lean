import Derived.Test.YtjpjpjemibgjpaaGreatJ20
namespace Go.Proofs.YtjpjpjemibgjpaaGreat
open Go.RowKit W Kp cg
theorem uh {P:Prop}(h:P:=by
 obtain⟨u1,u2,u3,_⟩:=hlen;rw[q1] at u1;rw[q2] at u2;rw[q3] at u3;have u1:(S.s.s2 a).wk.length<=0+(G++H1).length:=u1;have u2:(S.s.s2 a).ep.length<=0+(G++H1).length:=u2;have u3:=u3;have o1:=hb.o1;refine⟨?_,?_⟩
 ·rw[u3];show(S.s.s2 a).wk.length+((a.N:Int)+a.O+13-((a.N:Int)+S.s.g)).toNat<=4000;omega
 ·rw[u3];show(S.s.s2 a).ep.length+((a.N:Int)+a.O+13-((a.N:Int)+S.s.g)).toNat<=4000;omega):P:=h
theorem zU {P:Prop}(h:P:=by
 unfold ca.ga;by_cases hG:b∈z.G
 ·split
  ·rw[aE (fun e=>jm ⟨hG,e⟩)]
  ·rfl
 ·have:=(hl b Z).resolve_left hG;rw[aE V]):P:=h
theorem zV {P:Prop}(h:P:=by
 rcases List.mem_append.1 hd with hd|hd
 ·exact h.rel d hd hal
 ·rw[List.mem_singleton.1 hd,c] at hal;cases hal):P:=h
theorem zW (ws:List Int)(t f n i:Nat)(b:t+n<=ws.length)(d:f+n<=ws.length):
 (splice ws t ((ws.drop f).take n)).getD i 0=if t<=i/\i<t+n then ws.getD (f+i-t) 0 else ws.getD i 0:=by
 exact ya
theorem Ho (k:b8)(hl:k.s.ws.length=k.a.N+k.a.O)(hy:k.s.y<=k.a.N)(hg:k.s.g<=k.a.O)(t f n:Nat)(t0:k.a.N<=t)(b:t+n<=k.a.N+k.s.g)(d:k.a.N<=f)(g:f+n<=k.a.N+k.s.g)(x:Int):
 (k.k_ t f n).ld x=if(t:Int)<=x/\x<(t:Int)+n then k.ld (f+(x-t)) else k.ld x:=by
 have e:(k.k_ t f n).ld x=ld k.a.N k.s.y k.s.g (splice k.s.ws t ((k.s.ws.drop f).take n)) x:=rfl;rw[e];unfold b8.ld;by_cases c:(t:Int)<=x/\x<(t:Int)+n
 ·rw[aH c,dX (g9 V V),dX (g9 V V),zW _ _ _ _ _ V V,aH V]
  congr 1
  omega
 ·rw[aE c];cases hb:da k.a.N k.s.y k.s.g x
  ·unfold ld;rw[hb];rfl
  ·have i:=(k7 _ _ _ _).1 hb;rw[dX hb,dX hb,zW _ _ _ _ _ V V,aE V]
structure kg (k k':b8):Prop where
 a:k'.a=k.a
 y:k'.s.y=k.s.y
 rs:k'.s.rs=k.s.rs
 len:k'.s.ws.length=k.s.ws.length
theorem kg.refl (k:b8):kg k k:=⟨rfl,rfl,rfl,rfl⟩
theorem kg.trans {k b c:b8}(h:kg k b)(j:kg b c):kg k c:=⟨j.a.trans h.a,j.y.trans h.y,j.rs.trans h.rs,j.len.trans h.len⟩
structure i6 (k:b8)(al:Int->Bool)(f:Int->Int)(m:Int)(D l:List Int)(t:b8×Int):Prop where
 sm:kg k t.1
 g:t.1.s.g=k.s.g
 u0:0<=t.2
 pos:Pos (fun a=>pf (k.ld a)) al f (k.a.N+t.2) l m
 tl:∃b:Int,d5 k.ld (k.a.N+k.s.g) b l/\k.a.N+t.2<=b/\∀x:Int,b<=x->x<k.a.N+k.s.g->t.1.ld x=k.ld x
 cK:∀x:Int,0<=x->x<k.s.y->t.1.ld x=k.ld x
 rel:∀c∈D,al c=true->f c+pf (k.ld c)<k.a.N+t.2/\∀i:Int,0<=i->i<=pf (k.ld c)->t.1.ld (f c+i)=k.ld (c+i)
section
variable {k:b8}{al:Int->Bool}{s:ct}{m:Int}
theorem i6.step (hl:k.s.ws.length=k.a.N+k.a.O)(hy:k.s.y<=k.a.N)(hg:k.s.g<=k.a.O){D l:List Int}{a:Int}{t:b8×Int}(h:i6 k al s.f m D (a::l) t)(hs:al a=!(s.f a==-1)):i6 k al s.f m (D++[a]) l (e6 (fun _ a=>s.f a) (b8.iU s) t a):=by
 obtain⟨b,⟨e,G,H,ht⟩,I,j⟩:=h.tl;have J:=di (k.ld b)
 have u0:=h.u0;cases c:al a
 ·rw[c] at hs;have c2:s.f a=-1:=by simpa using hs
  have o:e6 (fun _ a=>s.f a) (b8.iU s) t a=t:=by unfold e6;rw[aH c2]
  rw[o];refine⟨h.sm,h.g,h.u0,(h.pos.2 c).2,⟨b+(1+pf (k.ld b)),ht,V,fun x g f=>j x V f⟩,h.cK,fun d hd hal=>?_⟩
  exact zV
 ·rw[c] at hs;have c2:s.f a≠-1:=by simpa using hs.symm
  obtain⟨K,A⟩:=h.pos.1 c;have o:e6 (fun _ a=>s.f a) (b8.iU s) t a=b8.iU s t a:=by unfold e6;rw[aE c2]
  rw[o];have B:b8.iU s t a=(t.1.k_ (s.f a).toNat a.toNat (1+(pf (k.ld a)).toNat),t.2+(1+pf (k.ld a))):=by unfold b8.iU;rw[(j a V (by rw[e];omega))]
  have hz:pf (k.ld a)=pf (k.ld b):=by rw[e]
  have hN:=h.sm.a;have p:=h.g;have q:=h.sm.len;have M:=Ho t.1 (by rw[q,hN];exact hl) (by rw[h.sm.y,hN];exact hy) (by rw[p,hN];exact hg) (s.f a).toNat a.toNat (1+(pf (k.ld a)).toNat) (by rw[hN];omega) (by rw[hN,p];omega) (by rw[hN];omega) (by rw[hN,p];omega)
  have u:kg t.1 (t.1.k_ (s.f a).toNat a.toNat (1+(pf (k.ld a)).toNat))/\(t.1.k_ (s.f a).toNat a.toNat (1+(pf (k.ld a)).toNat)).s.g=t.1.s.g:=by
   refine⟨⟨rfl,rfl,rfl,?_⟩,rfl⟩
   refine tx _ _ _ ?_;rw[q,hl,bf,List.length_drop,q,hl];omega
  rw[B];generalize t.1.k_ (s.f a).toNat a.toNat _=C at M u⊢;have n:∀x,C.ld x=if s.f a<=x/\x<s.f a+(1+pf (k.ld a)) then t.1.ld (a+(x-s.f a)) else t.1.ld x:=fun x=>by rw[M x];have g:((s.f a).toNat:Int)=s.f a:=V;have f:(a.toNat:Int)=a:=V;have E:((1+(pf (k.ld a)).toNat:Nat):Int)=1+pf (k.ld a):=V;rw[g,f,E]
  refine⟨h.sm.trans u.1,u.2.trans h.g,V,by rw[<-Int.add_assoc];exact A,⟨b+(1+pf (k.ld b)),ht,V,fun x g f=>?_⟩,fun x g f=>?_,fun d hd hal=>?_⟩
  ·rw[n,aE V];exact j x V f
  ·rw[n,aE V];exact h.cK x g f
  ·rcases List.mem_append.1 hd with hd|hd
   ·obtain⟨r1,F⟩:=h.rel d hd hal;refine⟨V,fun i v w=>?_⟩
    rw[n,aE V];exact F i v w
   ·rw[List.mem_singleton.1 hd];refine⟨V,fun i v w=>?_⟩
    rw[n,aH V,show a+(s.f a+i-s.f a)=a+i from by omega];exact j (a+i) V V
theorem i6.qW (hl:k.s.ws.length=k.a.N+k.a.O)(hy:k.s.y<=k.a.N)(hg:k.s.g<=k.a.O)(hN:k.a.N<=256)(hO:k.a.O<=1024)(hs:∀a∈k.G,al a=!(s.f a==-1))(hm:m<=k.a.N+k.a.O):il k s (fun j t=>i6 k al s.f m (k.G.take j) (k.G.drop j) t):=by
 have hz:∀a,0<=(fun a=>pf (k.ld a)) a:=fun a=>(di _).1;refine⟨fun j t c h i=>?_,fun j t c h=>?_,fun t h=>?_⟩
 ·have e:k.G.drop j=k.G.getD j 0::k.G.drop (j+1):=by rw[List.drop_eq_getElem_cons c,aC,aG c];rfl
  have d:k.G.getD j 0∈k.G:=by rw[aC,aG c];exact a6 c
  generalize k.G.getD j 0=a at e i d⊢;have h:i6 k al s.f m (k.G.take j) (k.G.drop j) t:=h;rw[e] at h;have ha:al a=true:=by rw[hs a d,beq_false_of_ne i];rfl
  obtain⟨b,⟨l,q,u,ht⟩,v,n⟩:=h.tl;have w:=di (k.ld b)
  have u0:=h.u0;obtain⟨o,p⟩:=h.pos.1 ha;have f:=p.le hz;have f:=f;rw[(n a V (by rw[l];omega)),o];rw[l] at f⊢;omega
 ·have e:k.G.drop j=k.G.getD j 0::k.G.drop (j+1):=by rw[List.drop_eq_getElem_cons c,aC,aG c];rfl
  have d:k.G.getD j 0∈k.G:=by rw[aC,aG c];exact a6 c
  have h:i6 k al s.f m (k.G.take j) (k.G.drop j) t:=h;rw[e] at h;have g:=h.step hl hy hg (hs _ d)
  rw[<-(fz k.G j c 0)] at g;exact g
 ·have h:=h;have u0:=h.u0;have g:=h.pos.le hz;omega
theorem i6.all (hl:k.s.ws.length=k.a.N+k.a.O)(hy:k.s.y<=k.a.N)(hg:k.s.g<=k.a.O)(hs:∀a∈k.G,al a=!(s.f a==-1)):∀(l D:List Int)(t:b8×Int),(∀a∈l,a∈k.G)->i6 k al s.f m D l t->i6 k al s.f m (D++l) [] (gJ (fun _ a=>s.f a) (b8.iU s) t l)
 |[],D,t,_,h=>by rw[List.append_nil];exact h
 |a::l,D,t,c,h=>by
  have d:=i6.all hl hy hg hs l _ _ (fun b e=>c b (aO _ e)) (h.step hl hy hg (hs a (c a Z)))
  rw[bj] at d;exact d
structure lh (k:b8)(al:Int->Bool)(f:Int->Int)(m:Int)(D l:List Int)(t:b8):Prop where
 sm:kg k t
 g:t.s.g<=k.a.O
 pos:Pos (fun a=>pf (k.ld a)) al f (k.a.N+t.s.g) l m
 cK:∀x:Int,0<=x->x<k.s.y->t.ld x=k.ld x
 rel:∀c∈D,al c=true->(k.a.N:Int)<=f c/\f c+pf (k.ld c)<k.a.N+t.s.g/\∀i:Int,0<=i->i<=pf (k.ld c)->t.ld (f c+i)=k.ld (c+i)
theorem lh.step (hl:k.s.ws.length=k.a.N+k.a.O)(hy:k.s.y<=k.a.N)(hm:m<=k.a.N+k.a.O){D l:List Int}{a:Int}{t:b8}(h:lh k al s.f m D (a::l) t)(hs:al a=!(s.f a==-1))(h0:0<=a)(I:a+(1+pf (k.ld a))<=k.s.y)(u:pc (k.ld a)=0):lh k al s.f m (D++[a]) l (e6 (fun(_:b8) a=>s.f a) (fun k a=>k.cop a) t a):=by
 have hz:∀a,0<=(fun a=>pf (k.ld a)) a:=fun a=>(di _).1;have J:=di (k.ld a)
 cases c:al a
 ·rw[c] at hs;have c2:s.f a=-1:=by simpa using hs
  have g:e6 (fun(_:b8) a=>s.f a) (fun k a=>k.cop a) t a=t:=by unfold e6;rw[aH c2]
  rw[g];refine⟨h.sm,h.g,(h.pos.2 c).2,h.cK,fun d hd hal=>?_⟩
  exact zV
 ·rw[c] at hs;have c2:s.f a≠-1:=by simpa using hs.symm
  obtain⟨K,e⟩:=h.pos.1 c;have e:Pos (fun a=>pf (k.ld a)) al s.f (k.a.N+t.s.g+(1+pf (k.ld a))) l m:=e;have L:=e.le hz;have g:e6 (fun(_:b8) a=>s.f a) (fun k a=>k.cop a) t a=t.cop a:=by unfold e6;rw[aE c2]
  rw[g];have hN:=h.sm.a;have v:=h.sm.y;have j:=h.sm.len;have b:ld t.a.N t.s.y t.s.g t.s.ws a=k.ld a:=h.cK a h0 V;have w:f8 t.a.N t.s.y t.s.g a=t.s.y:=by
   unfold f8;have n:hB (0:Int) t.s.y a=true:=by unfold hB;exact bm ⟨h0,V⟩
   first|rw[aH n]|(simp[n])
  have hc:ib t.a.N t.a.O t.s.y t.s.g t.s.ws a=true:=by unfold ib;rw[b,w];exact bm ⟨u,V,by rw[hN];omega⟩
  have M:=ca.tz (k:=⟨t.a.N,t.a.O,t.s.y,[]⟩) (s:=⟨t.s.g,t.s.ws,fun _=>-1,0,[],[],[]⟩) (by rw[j,hN];exact hl) (by rw[v,hN];exact hy) (by rw[hN];exact h.g) (a:=a) h0 (by show a+1+pf (ld t.a.N t.s.y t.s.g t.s.ws a)<=t.s.y;rw[b];omega) hc;have f:∀x,(t.cop a).ld x=if(k.a.N:Int)+t.s.g<=x/\x<(k.a.N:Int)+t.s.g+(1+pf (k.ld a)) then t.ld (a+(x-(k.a.N+t.s.g))) else t.ld x:=fun x=>by have:=M x;rw[<-hN,<-b];exact this
  have A:(t.cop a).s.g=t.s.g+(1+(pf (k.ld a)).toNat):=by show ju _ _ _ _ _ _=_;unfold ju;rw[aH hc,b]
  have B:(t.cop a).s.ws.length=t.s.ws.length:=by show(jv _ _ _ _ _ _).length=_;unfold jv;rw[aH hc,b];refine tx _ _ _ ?_;rw[j,hl,hN,bf,List.length_drop,j,hl];omega
  have o:kg t (t.cop a):=⟨rfl,rfl,rfl,B⟩
  generalize t.cop a=C at f A o⊢;have E:(C.s.g:Int)=t.s.g+(1+pf (k.ld a)):=V;refine⟨h.sm.trans o,V,by rw[E,<-Int.add_assoc];exact e,fun x F G=>?_,fun d hd hal=>?_⟩
  ·rw[f,aE V];exact h.cK x F G
  ·rcases List.mem_append.1 hd with hd|hd
   ·obtain⟨r0,r1,H⟩:=h.rel d hd hal;refine⟨r0,V,fun i p q=>?_⟩
    rw[f,aE V];exact H i p q
   ·rw[List.mem_singleton.1 hd];refine⟨V,V,fun i p q=>?_⟩
    rw[f,aH V,show a+(s.f a+i-(k.a.N+t.s.g))=a+i from by omega];exact h.cK (a+i) V V
theorem lh.all (hl:k.s.ws.length=k.a.N+k.a.O)(hy:k.s.y<=k.a.N)(hm:m<=k.a.N+k.a.O):∀(l D:List Int)(t:b8),(∀a∈l,al a=!(s.f a==-1)/\0<=a/\a+(1+pf (k.ld a))<=k.s.y/\pc (k.ld a)=0)->lh k al s.f m D l t->lh k al s.f m (D++l) [] (t.pj s l)
 |[],D,t,_,h=>by rw[List.append_nil];exact h
 |a::l,D,t,c,h=>by
  obtain⟨g1,g2,g3,e⟩:=c a Z;have d:=lh.all hl hy hm l _ _ (fun b f=>c b (aO _ f)) (h.step hl hy hm g1 g2 g3 e)
  rw[bj] at d;exact d
end
structure gV (k k':b8):Prop where
 a:k'.a=k.a
 y:k'.s.y=k.s.y
 g:k'.s.g=k.s.g
 rs:k'.s.rs=k.s.rs
 Y:k'.Y=k.Y
 G:k'.G=k.G
 len:k'.s.ws.length=k.s.ws.length
theorem gV.refl (k:b8):gV k k:=⟨rfl,rfl,rfl,rfl,rfl,rfl,rfl⟩
theorem gV.trans {k b c:b8}(h:gV k b)(j:gV b c):gV k c:=⟨j.a.trans h.a,j.y.trans h.y,j.g.trans h.g,j.rs.trans h.rs,j.Y.trans h.Y,j.G.trans h.G,j.len.trans h.len⟩
structure jI (k:b8):Prop where
 l:k.s.ws.length=k.a.N+k.a.O
 y:k.s.y<=k.a.N
 g:k.s.g<=k.a.O
theorem gV.bd {k c:b8}(h:gV k c)(b:jI k):jI c:=⟨by rw[h.len,h.a];exact b.l,by rw[h.y,h.a];exact b.y,by rw[h.g,h.a];exact b.g⟩
theorem gV.T {k b:b8}(h:gV k b):b.T=k.T:=by unfold b8.T;rw[h.Y,h.G]
section
variable {k:b8}{s:ct}
theorem pr (k:b8)(p x:Int):gV k (k.hJ p x):=⟨rfl,rfl,rfl,rfl,rfl,rfl,by
 show(if _ then _ else _:List Int).length=_;split
 ·exact aX
 ·rfl⟩
theorem ui (b:jI k){p:Int}(hp:da k.a.N k.s.y k.s.g p=true)(x q:Int):(k.hJ p x).ld q=if q=p then x else k.ld q:=by
 have d:=jd hp b.y b.g;have e:(k.hJ p x).ld q=ld k.a.N k.s.y k.s.g (k.s.ws.set p.toNat x) q:=by unfold b8.hJ;rw[aH hp];rfl
 rw[e];unfold b8.ld;by_cases c:q=p
 ·rw[aH c,c,dX hp,aC,List.getElem?_set_self (by rw[b.l];omega)];rfl
 ·rw[aE c];cases hq:da k.a.N k.s.y k.s.g q
  ·unfold ld;rw[hq];rfl
  ·have f:=jd hq b.y b.g;rw[dX hq,dX hq,aC,List.getElem?_set_ne V,aC]
def b8.h7 (k:b8)(s:ct)(a i:Int):Int:=if((pk (k.ld a)=3\/pk (k.ld a)=4)/\k.cQ s (k.ld (a+1))=true)/\(i=0\/(pk (k.ld a)=4/\i=1)) then 3 else k.ld (a+1+i)
structure kJ (k:b8)(a:Int):Prop where
 c:pc (k.ld a)=0
 i:∀i,0<=i->i<=pf (k.ld a)->da k.a.N k.s.y k.s.g (a+i)=true
theorem gV.zX {k b:b8}(h:gV k b){a:Int}(e:b.ld a=k.ld a)(w:kJ k a):kJ b a:=⟨by rw[e];exact w.c,fun i d c=>by rw[h.a,h.y,h.g];rw[e] at c;exact w.i i d c⟩
theorem Hp (b:jI k){a:Int}(w:kJ k a):gV k (k.brk s a)/\(∀q,(q<=a\/a+pf (k.ld a)<q)->(k.brk s a).ld q=k.ld q)/\∀i,0<=i->i<pf (k.ld a)->(k.brk s a).ld (a+1+i)=k.h7 s a i:=by
 unfold b8.brk;by_cases c:(pk (k.ld a)=3\/pk (k.ld a)=4)/\k.cQ s (k.ld (a+1))=true
 ·rw[aH c];have m:=hY w.c V;have f:=w.i 1 V V;have d:=ui b f 3;by_cases e:pk (k.ld a)=4
  ·rw[aH e];have g:=ui ((pr k (a+1) 3).bd b) (w.i 2 V V) 3;refine⟨(pr k (a+1) 3).trans (pr _ _ _),fun q hq=>?_,fun i j l=>?_⟩
   ·rw[g,aE V,d,aE V]
   ·unfold b8.h7;rw[g,d];by_cases z:i=0
    ·rw[aE V,aH V,aH ⟨c,aJ z⟩]
    ·by_cases o:i=1
     ·rw[aH V,aH ⟨c,aI ⟨e,o⟩⟩]
     ·rw[aE V,aE V,aE (fun h=>by omega)]
  ·rw[aE e];refine⟨pr k (a+1) 3,fun q hq=>?_,fun i j l=>?_⟩
   ·rw[d,aE V]
   ·unfold b8.h7;rw[d];by_cases z:i=0
    ·rw[aH V,aH ⟨c,aJ z⟩]
    ·rw[aE V,aE (fun h=>by omega)]
 ·rw[aE c];refine⟨gV.refl k,fun q hq=>rfl,fun i j f=>?_⟩
  unfold b8.h7;rw[aE (fun h=>c h.1)]
theorem zY (b:jI k){a:Int}(w:kJ k a):∀n:Nat,(n:Int)<=pf (k.ld a)->gV k (k.gE s a n)/\(∀q,(q<=a\/a+n<q)->(k.gE s a n).ld q=k.ld q)/\∀i:Int,0<=i->i<n->(k.gE s a n).ld (a+1+i)=k.nw s (k.ld (a+1+i))
 |0,_=>⟨gV.refl k,fun _ _=>rfl,fun i d g=>V⟩
 |n+1,m=>by
  obtain⟨c,f,j⟩:=zY b w n V;have hi:da (k.gE s a n).a.N (k.gE s a n).s.y (k.gE s a n).s.g (a+1+n)=true:=by rw[c.a,c.y,c.g,show a+1+(n:Int)=a+(1+n) from by omega];exact w.i _ V V
  have e:=ui (c.bd b) hi (k.nw s ((k.gE s a n).ld (a+1+n)))
  have l:k.gE s a (n+1)=(k.gE s a n).hJ (a+1+n) (k.nw s ((k.gE s a n).ld (a+1+n))):=rfl;rw[l];refine⟨c.trans (pr _ _ _),fun q hq=>?_,fun i d g=>?_⟩
  ·rw[e,aE V];exact f q V
  ·rw[e];by_cases z:i=n
   ·rw[aH V,f _ V,z]
   ·rw[aE V];exact j i d V
theorem Hq (b:jI k){a:Int}(w:kJ k a):gV k (k.jD s a)/\(∀q,(q<=a\/a+pf (k.ld a)<q)->(k.jD s a).ld q=k.ld q)/\∀i,0<=i->i<pf (k.ld a)->(k.jD s a).ld (a+1+i)=k.nw s (k.h7 s a i):=by
 obtain⟨c,d,f⟩:=Hp b w;have hp:=di (k.ld a)
 have ea:=d a (aJ (Int.le_refl _))
 obtain⟨g,j2,cy⟩:=zY (c.bd b) (c.zX ea w) (pf (k.ld a)).toNat (by rw[ea];omega)
 unfold b8.jD;refine⟨c.trans g,fun q hq=>?_,fun i e j=>?_⟩
 ·rw[j2 q V];exact d q hq
 ·rw[cy i e V,f i e j];exact b8.j8 s _ c.Y c.G
structure lY (k0:b8)(s:ct)(D:List Int)(t:b8):Prop where
 st:gV k0 t
 hd:∀c∈k0.T,t.ld c=k0.ld c
 dv:∀c∈D,s.f c≠-1->∀i,0<=i->i<pf (k0.ld c)->t.ld (c+1+i)=k0.nw s (k0.h7 s c i)
 td:∀c∈k0.T,c∉D->∀i,0<=i->i<pf (k0.ld c)->t.ld (c+1+i)=k0.ld (c+1+i)
theorem lY.step {k0:b8}(b:jI k0)(w:∀c∈k0.T,kJ k0 c)(ap:∀c∈k0.T,∀d∈k0.T,c<d->c+(1+pf (k0.ld c))<=d){D:List Int}{t:b8}(h:lY k0 s D t){a:Int}(ha:a∈k0.T)(hD:a∉D)(x:∀c∈D,c∈k0.T):lY k0 s (D++[a]) (e6 (fun(_:b8) a=>s.f a) (fun k a=>k.jD s a) t a):=by
 by_cases c:s.f a=-1
 ·have o:e6 (fun(_:b8) a=>s.f a) (fun k a=>k.jD s a) t a=t:=by unfold e6;rw[aH c]
  rw[o];refine⟨h.st,h.hd,fun d hd j=>?_,fun d hd n=>h.td d hd (fun m=>n (aZ _ m))⟩
  rcases List.mem_append.1 hd with hd|hd
  ·exact h.dv d hd j
  ·rw[List.mem_singleton.1 hd] at j;exact absurd c j
 ·have o:e6 (fun(_:b8) a=>s.f a) (fun k a=>k.jD s a) t a=t.jD s a:=by unfold e6;rw[aE c]
  rw[o];have ea:=h.hd a ha;obtain⟨A,p,v⟩:=Hq (h.st.bd b) (h.st.zX ea (w a ha))
  rw[ea] at p v;have u:∀d∈k0.T,d≠a->∀i,0<=i->i<=pf (k0.ld d)->(t.jD s a).ld (d+i)=t.ld (d+i):=fun d hd l i g f=>p _ (by
   rcases Int.lt_or_gt_of_ne l with q|q
   ·have:=ap d hd a ha q;omega
   ·have:=ap a ha d hd q;omega)
  have B:∀i,0<=i->i<pf (k0.ld a)->t.h7 s a i=k0.h7 s a i:=fun i g f=>by unfold b8.h7 b8.cQ b8.jt;rw[ea,h.st.T];have q0:=h.td a ha hD 0 V V;rw[Int.add_zero] at q0;rw[q0,h.td a ha hD i g f]
  refine⟨h.st.trans A,fun d hd=>?_,fun d hd j i g f=>?_,fun d hd n i g f=>?_⟩
  ·by_cases e:d=a
   ·rw[e,p a (aJ (Int.le_refl _))];exact ea
   ·have:=u d hd e 0 V (di _).1;rw[Int.add_zero] at this
    rw[this];exact h.hd d hd
  ·rcases List.mem_append.1 hd with hd|hd
   ·have l:d≠a:=fun e=>hD (e▸hd)
    have:=u d (x d hd) l (1+i) V V;rw[<-Int.add_assoc] at this
    rw[this];exact h.dv d hd j i g f
   ·have e:=List.mem_singleton.1 hd;rw[e] at f⊢;rw[v i g f,B i g f];exact b8.j8 s _ h.st.Y h.st.G
  ·have l:d≠a:=fun e=>n (by rw[e];simp)
   have:=u d hd l (1+i) V V;rw[<-Int.add_assoc] at this
   rw[this];exact h.td d hd (fun m=>n (aZ _ m)) i g f
theorem lY.all {k0:b8}(b:jI k0)(w:∀c∈k0.T,kJ k0 c)(ap:∀c∈k0.T,∀g∈k0.T,c<g->c+(1+pf (k0.ld c))<=g):∀(l D:List Int)(t:b8),(D++l).Nodup->(∀c∈D++l,c∈k0.T)->lY k0 s D t->lY k0 s (D++l) (t.nR s l)
 |[],D,t,_,_,h=>by rw[List.append_nil];exact h
 |a::l,D,t,f,d,h=>by
  have e:D++a::l=(D++[a])++l:=Z;have hD:_:=fun m=>(List.nodup_append.1 f).2.2 a m a Z rfl;have i:=h.step b w ap (d a Z) hD (fun c hc=>d c (aZ _ hc))
  rw[e] at f d⊢;exact lY.all b w ap l _ _ f d i
theorem zZ (k:b8)(s:ct):∀n,n<=k.s.rs.length->(k.fK s n).a=k.a/\(k.fK s n).Y=k.Y/\(k.fK s n).G=k.G/\(k.fK s n).s.y=k.s.y/\(k.fK s n).s.g=k.s.g/\(k.fK s n).s.ws=k.s.ws/\(k.fK s n).s.rs.length=k.s.rs.length/\∀i,i<k.s.rs.length->(k.fK s n).s.rs.getD i 0=if i<n then k.nw s (k.s.rs.getD i 0) else k.s.rs.getD i 0
 |0,_=>⟨rfl,rfl,rfl,rfl,rfl,rfl,rfl,fun i _=>ac⟩
 |n+1,p=>by
  obtain⟨f,g,j,l,m,o,b,c⟩:=zZ k s n V;refine⟨f,g,j,l,m,o,?_,fun i hi=>?_⟩
  ·show(List.set _ _ _).length=_;rw[aX];exact b
  ·show(List.set _ n _).getD i 0=_;by_cases e:i=n
   ·rw[e,aH V,aC,List.getElem?_set_self (by rw[b];omega),c n V,aE V];rfl
   ·rw[aC,List.getElem?_set_ne V,<-aC,c i hi];by_cases d:i<n
    ·rw[aH d,aH V]
    ·rw[aE d,aE V]
theorem pt (b:jI k)(C:k.s.rs.length=12)(D:k.T.Nodup)(w:∀c∈k.T,kJ k c)(ap:∀c∈k.T,∀l∈k.T,c<l->c+(1+pf (k.ld c))<=l):
 (k.eW s).a=k.a/\(k.eW s).Y=k.Y/\(k.eW s).G=k.G/\(k.eW s).s.y=k.s.y/\(k.eW s).s.g=k.s.g/\jI (k.eW s)/\(k.eW s).s.rs.length=12/\(∀i,i<12->(k.eW s).s.rs.getD i 0=k.nw s (k.s.rs.getD i 0))/\
 (∀c∈k.T,(k.eW s).ld c=k.ld c)/\∀c∈k.T,s.f c≠-1->∀i,0<=i->i<pf (k.ld c)->(k.eW s).ld (c+1+i)=k.nw s (k.h7 s c i):=by
 obtain⟨e,m,n,g,j,p,u,v⟩:=zZ k s 12 V;obtain⟨k0,A⟩:∃k0,k.fK s 12=k0:=⟨_,rfl⟩
 rw[A] at e m n g j p u v;have d:∀x,k0.ld x=k.ld x:=fun x=>by unfold b8.ld;rw[e,g,j,p]
 have f:k0.T=k.T:=by unfold b8.T;rw[m,n]
 have B:jI k0:=⟨by rw[p,e];exact b.l,by rw[g,e];exact b.y,by rw[j,e];exact b.g⟩
 have w0:∀c∈k0.T,kJ k0 c:=fun c hc=>by rw[f] at hc;exact⟨by rw[d];exact(w c hc).c,fun i t o=>by rw[d] at o;rw[e,g,j];exact(w c hc).i i t o⟩
 have key:=lY.all (s:=s) B w0 (fun c hc l hd q=>by rw[f] at hc hd;rw[d];exact ap c hc l hd q) k0.T [] k0 (by rw[List.nil_append,f];exact D) (fun c hc=>hc) ⟨gV.refl _,fun _ _=>rfl,(fun c hc=>by cases hc),fun _ _ _ _ _ _=>rfl⟩
 have E:k.eW s=k0.nR s k0.T:=by unfold b8.eW;rw[A,f]
 rw[E];refine⟨key.st.a.trans e,key.st.Y.trans m,key.st.G.trans n,key.st.y.trans g,key.st.g.trans j,key.st.bd B,by rw[key.st.rs,u];exact C,fun i hi=>by rw[key.st.rs,v i V,aH hi],fun c hc=>?_,fun c hc F i t o=>?_⟩
 ·rw[key.hd c (by rw[f];exact hc),d]
 ·rw[key.dv c (by rw[f];exact hc) F i t (by rw[d];exact o)];have G:k0.h7 s c i=k.h7 s c i:=by unfold b8.h7 b8.cQ b8.jt;rw[f,d,d,d]
  rw[G];exact b8.j8 s _ m n
end
section
variable {k:ca}{z:C0}{s t:ch}{H K D:List Int}
theorem lj (k:ca)(s:ch):∀n,(k.cJ s n).wk=s.wk/\(k.cJ s n).ep=s.ep/\(k.cJ s n).nx=s.nx
 |0=>⟨rfl,rfl,rfl⟩
 |n+1=>by obtain⟨b,c,d⟩:=lj k s n;obtain⟨_,e,j2,cy⟩:=lX k _ _;exact⟨e.trans b,j2.trans c,cy.trans d⟩
theorem dL.cJ (w:dL k z s H)(h:dE k z s H)(n:Nat)(ht:dE k z (k.cJ s n) K)(p:df k s (k.cJ s n))(b:∃c,K=H++c):dL k z (k.cJ s n) K:=
 w.go h ht p b (lj k s n).1 (lj k s n).2.1
theorem LI.pu (c:Int)(M:List Int)(hz:d5 (k.l0 z) ((k.N:Int)+z.g) k.N z.G):∀(l:List Int){s:ch}{H D:List Int},LI k z s H D->dL k z s H->(∀a∈l,a∈z.G\/(k.N:Int)+z.g<=a)->∃g i,LI k z (l.foldl (k.ga ((k.N:Int)+z.g) c M) s) g i/\dL k z (l.foldl (k.ga ((k.N:Int)+z.g) c M) s) g/\df k s (l.foldl (k.ga ((k.N:Int)+z.g) c M) s)/\(∃f,g=H++f)/\(∀a∈D,a∈i)/\∀a∈l,a∈z.G->(fQ k.N c a&&M.contains (cN k.N a))=true->a∈i
 |[],s,H,D,h,w,_=>⟨H,D,h,w,df.refl _ _,⟨[],Z⟩,fun _ d=>d,fun a ha=>by cases ha⟩
 |b::l,s,H,D,h,w,hl=>by
  rw[a8];have u:=di (k.ld s b)
  by_cases jm:b∈z.G/\(fQ k.N c b&&M.contains (cN k.N b))=true
  ·have v:=(hz.mem b jm.1).2.1;have j:k.ga ((k.N:Int)+z.g) c M s b=k.lk s b:=by unfold ca.ga;rw[aH (by rw[(h.mi.hd b b (aJ ⟨rfl,jm.1⟩))];omega),aH jm.2]
   rw[j];obtain⟨x,m1,p,⟨f,q⟩⟩:=h.lk jm.1;obtain⟨m,n,o,kc,j2,⟨t,cy⟩,cz,dG⟩:=LI.pu c M hz l m1 (w.lk h.mi (aZ H jm.1) m1.mi p ⟨f,q⟩) (fun a ha=>hl a (aO _ ha))
   refine⟨m,n,o,kc,p.trans j2,⟨f++t,by rw[cy,q,bj]⟩,fun a d=>cz a (aO _ d),fun a ha hg hm=>?_⟩
   rcases List.mem_cons.1 ha with d|d
   ·exact cz a (by rw[d];simp)
   ·exact dG a d hg hm
  ·have j:k.ga ((k.N:Int)+z.g) c M s b=s:=by exact zU
   rw[j];obtain⟨m,n,o,kc,j2,cy,cz,dG⟩:=LI.pu c M hz l h w (fun a ha=>hl a (aO _ ha))
   refine⟨m,n,o,kc,j2,cy,cz,fun a ha hg hm=>?_⟩
   rcases List.mem_cons.1 ha with d|d
   ·exact absurd ⟨by rw[<-d];exact hg,by rw[<-d];exact hm⟩ jm
   ·exact dG a d hg hm
end
def Rest (k:ca)(z:C0)(D:List Int)(H:List Int)(s:ch):Prop:=∃K,LI k z s K D/\dL k z s K/\ei k s/\hB k.N s.g s.nx=false/\∃b,K=H++b
section
variable {k:ca}{z:C0}{D H:List Int}
theorem pv:∀(n:Nat)(t:ch×List bZ),CI k t.1->ei k t.1->CI k (k.cV n t).1/\ei k (k.cV n t).1
 |0,t,h,b=>⟨h,b⟩
 |n+1,t,h,b=>by
  obtain⟨c1,c2,c3⟩:=CI.lb h b (k.O+1)
  obtain⟨c,d,g,i⟩:=CI.kv c1 c2;obtain⟨e,f,_⟩:=CI.wa (s:=((k.kv _).2,t.2)) c d;unfold ca.cV;split
  ·exact pv n ((k.kv _).2,t.2) c d
  ·split
   ·exact pv n _ e f
   ·exact⟨e,f⟩
theorem Rest.sp {t:ch×List bZ}{b:List Int}(h:LI k z t.1 b D)(w:dL k z t.1 b)(c:ei k t.1)(e:∃d,b=H++d):Rest k z D H (k.sp t).1:=by obtain⟨K,m1,f,_,⟨B,g⟩⟩:=cW.sp t b h w;obtain⟨A,e⟩:=e;exact⟨K,m1,f,(pv _ t h.mi.ci c).2,qV _ t b h w c V,⟨A++B,by rw[g,e,bj]⟩⟩
theorem Rest.ke {t:ch×List bZ}(h:Rest k z D H t.1)(x:Int):Rest k z D H (k.ke t x).2.1:=by
 obtain⟨K,m1,d,b,_,⟨A,e⟩⟩:=h;obtain⟨l,f,j2,_,⟨B,cz⟩⟩:=cW.br x K m1 d;obtain⟨_,g,i,c⟩:=lX k t.1 x;have j:ei k (k.br t.1 x).2:=⟨by rw[g,c];exact b.wk,by rw[i,c];exact b.ep⟩
 exact Rest.sp f j2 j ⟨A++B,by rw[cz,e,bj]⟩
theorem Rest.one {t:ch×List bZ}(h:Rest k z D H t.1)(e:bZ):Rest k z D H (cm (dK ch) (fun s x=>k.al s.1 x) k.ke t e).2.1:=by
 unfold cm;split
 ·exact h.ke e.2
 ·exact h
theorem Rest.part (l:List bZ){t:ch×List bZ}(h:Rest k z D H t.1):Rest k z D H (pts (cm (dK ch) (fun s x=>k.al s.1 x) k.ke) t l).2.2.1:=by
 have key:∀(l:List bZ)(p:List bZ×List bZ×(ch×List bZ)),Rest k z D H p.2.2.1->Rest k z D H (l.foldl (ej (cm (dK ch) (fun s x=>k.al s.1 x) k.ke)) p).2.2.1:=by
  intro l
  induction l with
  |nil=>exact fun p h=>h
  |cons e l c=>
   intro p hp;refine c _ ?_;have b:=hp.one e;unfold ej;split
   ·exact b
   ·exact b
 exact key l ([],[],t) h
theorem Rest.turn:∀(n:Nat){t:ch×List bZ}(b:List bZ),Rest k z D H t.1->Rest k z D H (eD (cm (dK ch) (fun s x=>k.al s.1 x) k.ke) n t b).1.1
 |0,t,b,h=>h
 |n+1,t,b,h=>by
  unfold eD;split
  ·exact h.part b
  ·exact Rest.turn n _ (h.part b)
theorem Rest.eO {t:ch×List bZ}(h:Rest k z D H t.1)(r:List bZ):Rest k z D H (k.eO t r).1:=Rest.turn _ _ h
end
section
variable {k:ca}{z:C0}{s:ch}{H D:List Int}
theorem LI.fy (h:LI k z s H D)
 (hz:∀v,(v∈k.T\/v∈z.G)->∀i,0<=i->i<pf (k.l0 z v)->cX (k.l0 z (v+1+i))=true->cf (k.l0 z (v+1+i))∈k.T\/cf (k.l0 z (v+1+i))∈z.G)
 {b:Int}(c:b∈z.G++H){i:Int}(i0:0<=i)(i1:i<pf (k.ld s b))(ha:cX (k.ld s (b+1+i))=true)(hy:k.cK (k.ld s (b+1+i))=false):cf (k.ld s (b+1+i))∈z.G++H:=by
 obtain⟨a,o⟩:=h.mi.from c;rw[(h.mi.hd a b o)] at i1;have hm:=h.mi.fd a b o i i0 i1;have zH:a∈k.T\/a∈z.G:=by
  rcases o with⟨e,d⟩|⟨d,_⟩
  ·exact aI (by rw[e];exact d)
  ·exact aJ d
 exact zG
theorem dE.nZ (h:dE k z s H){x:Int}(b:cf x∈z.G++H):k.cK x=false:=by
 unfold ca.cK;have e:k.T.contains (cf x)=false:=by
  cases hc:k.T.contains (cf x)
  ·rfl
  ·exact absurd (by simpa using hc) (h.ci.zA (h.bd b).1)
 rw[e,Bool.and_false]
theorem z3 (k:ca):∀(n:Nat)(s:ch),(k.lb n s).rs=s.rs
 |0,s=>rfl
 |n+1,s=>by
  unfold ca.lb;split
  ·exact(z3 k n _).trans (qP k s s.nx).2
  ·rfl
theorem z4 (k:ca):∀(l:List Int)(t:List Int×ch),(l.foldl k.cO t).2.rs=t.2.rs
 |[],t=>rfl
 |a::l,t=>by
  refine(z4 k l _).trans ?_;unfold ca.cO;split
  ·rfl
  ·exact(jG ..).2.2.2.trans (jG ..).2.2.2
theorem Hr (k:ca)(s:ch):(k.kv s).2.rs=s.rs:=z4 k s.ep ([],s)
theorem z5 (k:ca):∀(l:List Nat)(t:(ch×List bZ)×Bool),(l.foldl (dB k.al k.br) t).1.1.rs=t.1.1.rs
 |[],t=>rfl
 |a::l,t=>by
  refine(z5 k l _).trans ?_;unfold dB;split
  ·rfl
  ·exact(lX ..).1
theorem qX (k:ca):∀(n:Nat)(t:ch×List bZ),(k.cV n t).1.rs=t.1.rs
 |0,t=>rfl
 |n+1,t=>by
  have b:(k.kv (k.lb (k.O+1) t.1)).2.rs=t.1.rs:=(Hr ..).trans (z3 ..)
  have c:(k.wa ((k.kv (k.lb (k.O+1) t.1)).2,t.2)).1.1.rs=t.1.rs:=(z5 k _ (((k.kv _).2,t.2),false)).trans b;unfold ca.cV;split
  ·exact(qX k n _).trans b
  ·split
   ·exact(qX k n _).trans c
   ·exact c
theorem Hs (k:ca)(t:ch×List bZ)(x:Int):(k.ke t x).2.1.rs=t.1.rs:=(qX ..).trans (lX ..).1
theorem Ht (k:ca)(t:ch×List bZ)(e:bZ):(cm (dK ch) (fun s x=>k.al s.1 x) k.ke t e).2.1.rs=t.1.rs:=by
 unfold cm;split
 ·exact Hs k t e.2
 ·rfl
theorem z6 (k:ca)(l:List bZ)(t:ch×List bZ):(pts (cm (dK ch) (fun s x=>k.al s.1 x) k.ke) t l).2.2.1.rs=t.1.rs:=by
 have key:∀(l:List bZ)(p:List bZ×List bZ×(ch×List bZ)),(l.foldl (ej (cm (dK ch) (fun s x=>k.al s.1 x) k.ke)) p).2.2.1.rs=p.2.2.1.rs:=by
  intro l
  induction l with
  |nil=>exact fun p=>rfl
  |cons e l c=>
   intro p;refine(c _).trans ?_;have b:=Ht k p.2.2 e;unfold ej;split
   ·exact b
   ·exact b
 exact key l ([],[],t)
theorem z7 (k:ca):∀(n:Nat)(t:ch×List bZ)(b:List bZ),(eD (cm (dK ch) (fun s x=>k.al s.1 x) k.ke) n t b).1.1.rs=t.1.rs
 |0,t,b=>rfl
 |n+1,t,b=>by
  unfold eD;split
  ·exact z6 k b t
  ·exact(z7 k n _ _).trans (z6 k b t)
theorem Hu (k:ca)(t:ch×List bZ)(r:List bZ):(k.eO t r).1.rs=t.1.rs:=z7 k _ _ _
theorem qY (k:ca)(e c:Int)(M:List Int):∀(l:List Int)(s:ch),(l.foldl (k.ga e c M) s).wk.length<=s.wk.length+l.length/\(l.foldl (k.ga e c M) s).ep.length<=s.ep.length+l.length/\(l.foldl (k.ga e c M) s).nx=s.nx/\(l.foldl (k.ga e c M) s).rs=s.rs
 |[],s=>⟨aA _,aA _,rfl,rfl⟩
 |b::l,s=>by
  rw[a8];obtain⟨o,p,f,g⟩:=qY k e c M l _;have key:(k.ga e c M s b).wk.length<=s.wk.length+1/\(k.ga e c M s b).ep.length<=s.ep.length+1/\(k.ga e c M s b).nx=s.nx/\(k.ga e c M s b).rs=s.rs:=by
   unfold ca.ga;split
   ·split
    ·obtain⟨w1,i⟩:=zT k s b;obtain⟨n1,j⟩:=qP k s b;refine⟨?_,?_,n1,j⟩
     ·rcases w1 with d|⟨_,d⟩
      ·rw[d];omega
      ·rw[d,aW];simp
     ·rcases i with d|⟨_,d⟩
      ·rw[d];omega
      ·rw[d,aW];simp
    ·exact⟨Nat.le_succ _,Nat.le_succ _,rfl,rfl⟩
   ·exact⟨Nat.le_succ _,Nat.le_succ _,rfl,rfl⟩
  obtain⟨k1,q,m,n⟩:=key;simp only [List.length_cons];exact⟨V,V,f.trans m,g.trans n⟩
end
theorem n3 {N O y g:Nat}{ws Y G:List Int}(h:d6 N y g ws Y G)(hN:N<=256)(hy:y<=N)(hO:O<=1024)(hg:g<=O):mQ N y g ws=Y:=by unfold mQ;rw[(h.lists hN hy hO hg).1];exact List.filter_eq_self.2 (fun x b=>bm (by have:=(h.ty.mem x b).2.1;omega))
def ec.z0 (s:ec)(G:List Int):C0:=⟨s.g,s.ws,G⟩
theorem LI.start {a:Wc}{s:ec}{Y G:List Int}(h:d6 a.N s.y s.g s.ws Y G)(hN:16<=a.N)(hN':a.N<=256)(hO:a.O<=1024)(hy:s.y<=a.N)(hg:s.g<=a.O)(hl:s.ws.length=a.N+a.O)(f:s.y<=a.O-s.g):LI (s.k0 a) (s.z0 G) (s.s0 a) [] []:=by
 have g:(s.k0 a).T=Y:=n3 h hN' hy hO hg;refine⟨⟨CI.start hN hN' hO hy hg hl f,aA _,?_,fun b c=>(h.io b c).2,fun _ _ _=>rfl,fun a _ e=>absurd rfl e,fun a _ b _ e=>absurd rfl e,fun b c=>(by cases c),fun b c=>(by cases c),fun a b o=>?_,fun a b o i j k=>?_⟩,aI rfl,fun b c=>(by cases c),fun b c=>(by cases c),fun b c=>(by cases c)⟩
 ·rw[g,List.append_nil];exact h
 ·rcases o with⟨e,_⟩|⟨_,e,d⟩
  ·rw[e];rfl
  ·exact absurd e.symm d
 ·rcases o with⟨e,_⟩|⟨_,e,d⟩
  ·rw[e];exact aJ rfl
  ·exact absurd e.symm d
theorem dL.start (a:Wc)(s:ec)(G:List Int):dL (s.k0 a) (s.z0 G) (s.s0 a) []:=⟨fun b c=>(by cases c),fun b c=>(by cases c)⟩
structure px (a:Wc)(S:ck)(G K D:List Int):Prop where
 li:LI (S.s.k0 a) (S.s.z0 G) (S.s4 a) K D
 we:dL (S.s.k0 a) (S.s.z0 G) (S.s4 a) K
 he:hB a.N (S.s4 a).g (S.s4 a).nx=false
 hz:∀v,(v∈(S.s.k0 a).T\/v∈G)->∀i,0<=i->i<pf ((S.s.k0 a).l0 (S.s.z0 G) v)->cX ((S.s.k0 a).l0 (S.s.z0 G) (v+1+i))=true->cf ((S.s.k0 a).l0 (S.s.z0 G) (v+1+i))∈(S.s.k0 a).T\/cf ((S.s.k0 a).l0 (S.s.z0 G) (v+1+i))∈G
 hc:∀v∈G,v∉D->∀i,0<=i->i<pf ((S.s.k0 a).l0 (S.s.z0 G) v)->(S.s.k0 a).cK ((S.s.k0 a).l0 (S.s.z0 G) (v+1+i))=false
 rl:(S.s4 a).rs.length=12
 z8:∀i,i<12->(S.s.k0 a).cK ((S.s4 a).rs.getD i 0)=false
 rm:∀i,i<12->(S.s.k0 a).ml (S.s4 a) (S.s.rs.getD i 0) ((S.s4 a).rs.getD i 0)
section
variable {a:Wc}{S:ck}{Y G:List Int}
theorem qZ (h:em a S.s Y G)(hb:cI a S.s)(u:S.s.y<=a.O-S.s.g):∃K D,px a S G K D:=by
 have o:(S.s.k0 a).T=Y:=n3 h.inv.full hb.n1 hb.y1 hb.o1 hb.g1;have p:=LI.start h.inv.full hb.n0 hb.n1 hb.o1 hb.y1 hb.g1 hb.l1 u;obtain⟨H1,e,A,⟨X,C⟩,l1,y1,_,m1⟩:=p.cJ 12 (by show 12<=S.s.rs.length;rw[hb.r1];exact aA _)
 have q:dw a.N S.s.y (S.s.s1 a).g (S.s.s1 a).ws=G++H1:=(e.mi.full.lists hb.n1 hb.y1 hb.o1 e.mi.ci.hg).2;have E:(S.s.s1 a).nx=((S.s.k0 a).N:Int)+(S.s.z0 G).g:=(lj _ _ 12).2.2;have F:d5 ((S.s.k0 a).l0 (S.s.z0 G)) (((S.s.k0 a).N:Int)+(S.s.z0 G).g) (S.s.k0 a).N (S.s.z0 G).G:=h.inv.full.ee;obtain⟨c,f,j,k,s,⟨ab,ad⟩,_,hD⟩:=LI.pu (dU a.O) S.s.M F (G++H1) e ((dL.start a S.s G).cJ p.mi 12 e.mi A ⟨_,C⟩) (fun x H=>(List.mem_append.1 H).imp id (fun I=>e.mi.hlo x I))
 have J:(G++H1).foldl ((S.s.k0 a).ga (((S.s.k0 a).N:Int)+(S.s.z0 G).g) (dU a.O) S.s.M) ((S.s.k0 a).cJ (S.s.s0 a) 12)=S.s.s2 a:=by unfold ec.s2 ca.lm;rw[q,E];rfl
 have hlen:=qY (S.s.k0 a) (((S.s.k0 a).N:Int)+(S.s.z0 G).g) (dU a.O) S.s.M (G++H1) ((S.s.k0 a).cJ (S.s.s0 a) 12)
 rw[J] at j k s hlen;have ag:(G++H1).length<=2000:=by rw[<-q];exact iz _ _
 obtain⟨q1,q2,q3⟩:=lj _ _ 12;have cb:ei (S.s.k0 a) (S.s.s2 a):=by exact uh
 have L:Rest (S.s.k0 a) (S.s.z0 G) f c (S.t3 a).1:=by
  have key:∀s2:ch,LI (S.s.k0 a) (S.s.z0 G) s2 c f->dL (S.s.k0 a) (S.s.z0 G) s2 c->ei (S.s.k0 a) s2->_:=fun s2 l w b=>Rest.sp (t:=(s2,S.q)) l w b ⟨[],(List.append_nil _).symm⟩
  exact key _ j k cb
 have M:Rest (S.s.k0 a) (S.s.z0 G) f c (S.s4 a):=by exact L.eO S.r
 obtain⟨K,N,O,_,he,⟨B,ai⟩⟩:=M;have m:(S.s4 a).rs=(S.s.s1 a).rs:=by unfold ck.s4;rw[Hu];unfold ck.t3 ca.sp;rw[qX];exact hlen.2.2.2
 have iL:df (S.s.k0 a) (S.s.s1 a) (S.s4 a):=by
  have key:∀s2:ch,LI (S.s.k0 a) (S.s.z0 G) s2 c f->dL (S.s.k0 a) (S.s.z0 G) s2 c->df (S.s.k0 a) s2 ((S.s.k0 a).eO ((S.s.k0 a).sp (s2,S.q)) S.r).1:=fun s2 l w=>by obtain⟨Q,g,R,U,_⟩:=cW.sp (s2,S.q) c l w;obtain⟨al,_,_,cy,_⟩:=cW.eO _ S.r Q g R;exact U.trans cy
  exact s.trans (key _ j k)
 refine⟨K,f,N,O,he,fun v d i n g ha=>?_,fun v d W i n g=>?_,?_,fun i hi=>?_,fun i hi=>?_⟩
 ·rw[o] at d⊢;exact h.inv.fd v d i n g ha
 ·cases hc:(S.s.k0 a).cK _
  ·rfl
  ·exfalso;unfold ca.cK at hc;rw[ba,o] at hc;exact W (hD v (aZ _ d) d (h.cd v d i n g hc.1 (List.contains_iff_mem.1 hc.2)))
 ·rw[m];exact l1.trans hb.r1
 ·rw[m];exact y1 i hi
 ·rw[m];exact iL.ml (m1 i hi)
theorem px.root {K D:List Int}(c:px a S G K D)(h:em a S.s Y G)(b:cI a S.s):∀x∈(S.s4 a).rs,jH (S.s.k0 a) (G++K) x:=fun x l ha=>by
 have m:(S.s.k0 a).T=Y:=n3 h.inv.full b.n1 b.y1 b.o1 b.g1;obtain⟨i,hi,e⟩:=List.mem_iff_getElem.1 l;have d:i<12:=by rw[<-c.rl];exact hi
 have o:(S.s4 a).rs.getD i 0=x:=by rw[aC,aG hi,e];rfl
 have hy:=c.z8 i d;have hm:=c.rm i d;rw[o] at hy hm;refine⟨hy,?_⟩
 rcases hm with p|⟨g1,g2,g3⟩
 ·have f:S.s.rs.getD i 0∈S.s.rs:=by
   have hl:i<S.s.rs.length:=by rw[b.r1];exact d
   rw[aC,aG hl];exact a6 hl
  rw[<-p] at f;rcases h.inv.rt x f ha with g|g
  ·unfold ca.cK at hy;rw[ha,m] at hy;simp at hy;exact absurd g hy
  ·exact aZ _ g
 ·have q:cf (S.s.rs.getD i 0)∈(S.s.k0 a).T:=by unfold ca.cK at g1;rw[ba] at g1;simpa using g1.2
  have j:=c.li.mi.fh _ q g2;have s:=c.li.mi.iV j;have hN:=b.n1;have hO:=b.o1;have hg:=c.li.mi.ci.hg;have t:(S.s.k0 a).N=a.N:=rfl;have u:(S.s.k0 a).O=a.O:=rfl;obtain⟨n,k⟩:∃n:Nat,(S.s4 a).f (cf (S.s.rs.getD i 0))=n:=⟨((S.s4 a).f (cf (S.s.rs.getD i 0))).toNat,V⟩
  rw[g3,k,(mU n V).2,<-k];exact bc _ j
theorem px.done {K D:List Int}(c:px a S G K D)(h:em a S.s Y G)(d:cI a S.s):hX a.N 0 (S.s6 a).g (S.s6 a).ws [] (G++K) (S.s6 a).rs:=by
 have ci:=c.li.mi.ci;have v:gG (S.s.k0 a) (G++K) (fun b i=>(i=0/\b∈(S.s4 a).wk)\/((i=0\/i=1)/\b∈(S.s4 a).ep)) (S.s4 a):=by
  refine⟨c.li.mi.full,ci.len,ci.hy,ci.hg,fun b d i l m=>?_,fun b d i l m hy ha=>⟨hy,c.li.fy c.hz d l m ha hy⟩⟩
  cases ha:cX _
  ·exact aJ (fun e=>by rw[ha] at e;cases e)
  ·rcases c.li.fields c.he c.hz c.hc d l m ha with t|⟨g,f,w⟩|⟨g,f⟩
   ·exact aJ (fun _=>⟨c.li.mi.nZ t,t⟩)
   ·exact aI (aJ ⟨f,w⟩)
   ·have F:=hY (c.li.mi.bd d).2.2 (aI (aI g))
    exact aI (aI ⟨V,f⟩)
 obtain⟨n,k5,g5,o,k⟩:=gG.mw d.n1 d.o1 _ v (fun x j=>c.we.wk x j) (fun x j A=>bc _ (c.li.mi.fh x j A))
 have n:gG (S.s.k0 a) (G++K) _ (S.s5 a):=n;have k:(S.s5 a).ep=(S.s4 a).ep:=k;have o:(S.s5 a).rs=(S.s4 a).rs:=o;have k5:∀b∈G++K,(S.s.k0 a).ld (S.s5 a) b=(S.s.k0 a).ld (S.s4 a) b:=k5;obtain⟨q,k6,H,s⟩:=gG.be (S.s5 a).ep n (fun x j=>by rw[k] at j;obtain⟨q1,B⟩:=c.we.ep x j;exact⟨q1,by rw[k5 x q1];exact B⟩)
 have s:(S.s6 a).rs=(S.s5 a).rs:=s;have q:=q.imp (fun b i p=>by
  obtain⟨⟨C,E⟩,u⟩:=p;rw[k] at u;rcases C with⟨g,f⟩|⟨g,f⟩
  ·exact E ⟨f,g⟩
  ·exact u ⟨f,g⟩)
 exact q.done (by rw[s,o];exact c.root h d)
theorem em.cut (h:em a S.s Y G)(b:cI a S.s):∃d e,em a (S.cut a).s d e:=by
 unfold ck.cut;cases hf:S.full a
 ·have f:S.s.y<=a.O-S.s.g:=by exact qL
  obtain⟨K,D,c⟩:=qZ h b f;rw[aE Z];exact⟨[],G++K,c.done h b,fun v _ i _ _ _ hy=>by cases hy⟩
 ·exact⟨Y,G,h⟩
end
open W
def i7 (b:Int->Int->Prop):List Int->List Int->Prop
 |[],[]=>True
 |x::l,c::d=>b x c/\i7 b l d
 |_,_=>False
theorem i7.of {c:Int->Int->Prop}:∀{l b:List Int},l.length=b.length->(∀i,i<l.length->c (l.getD i 0) (b.getD i 0))->i7 c l b
 |[],[],_,_=>trivial
 |[],d::b,h,_=>by simp at h
 |x::l,[],h,_=>by simp at h
 |x::l,d::b,h,hi=>⟨by simpa using hi 0 Z,i7.of (by simpa using h) (fun i e=>by
  have:=hi (i+1) (by simpa using e)
  simpa using this)⟩
def ll (R:Int->Prop)(f:Int->Int)(x b:Int):Prop:=(dk x=3/\dk b=3/\R (dv x)/\dv b=f (dv x))\/(dk x≠3/\dk b=dk x/\dv b=dv x)
structure py (R:Int->Prop)(f:Int->Int)(T:List Int)(kd:Int->Int)(sh:Int->List Int)(T':List Int)(kd':Int->Int)(sh':Int->List Int):Prop where
 q6:∀a,R a->a∈T
 q7:∀a,R a->f a∈T'
 inj:∀a b,R a->R b->f a=f b->a=b
 kd:∀a,R a->kd' (f a)=kd a
 sh:∀a,R a->i7 (ll R f) (sh a) (sh' (f a))
structure Bs (R:Int->Prop)(f:Int->Int)(T T':List Int)(s s':cL):Prop where
 ok:eX T s
 ok':eX T' s'
 ms:s'.1=s.1.map f
 nd:s'.2=s.2
 rs:∀a∈s.1,R a
section
variable {R:Int->Prop}{f:Int->Int}{T T':List Int}{kd kd':Int->Int}{sh sh':Int->List Int}
theorem z9 (inj:∀a b,R a->R b->f a=f b->a=b){d:Int}(hd:R d):∀l:List Int,(∀a∈l,R a)->(l.map f).idxOf (f d)=l.idxOf d
 |[],_=>rfl
 |x::l,h=>by
  rw[List.map_cons,List.idxOf_cons,List.idxOf_cons,z9 inj hd l (fun a ha=>h a (aO _ ha))];by_cases e:x=d
  ·rw[e,beq_self_eq_true,beq_self_eq_true]
  ·have g:_:=fun c=>e (inj x d (h x List.mem_cons_self) hd c)
   rw[beq_false_of_ne e,beq_false_of_ne g]
theorem uj (inj:∀a b,R a->R b->f a=f b->a=b){d:Int}(hd:R d){l:List Int}(h:∀a∈l,R a):f d∈l.map f↔d∈l:=by
 refine⟨fun c=>?_,fun c=>List.mem_map_of_mem c⟩
 obtain⟨x,e,g⟩:=List.mem_map.1 c;rw[<-inj x d (h x e) hd g];exact e
def uk (R:Int->Prop)(f:Int->Int)(T T':List Int)(n c:Nat)(M d:cL->Int->cL):Prop:=
 ∀s b a,Bs R f T T' s b->R a->a∉s.1->T.length<=s.1.length+n->T'.length<=b.1.length+c->Bs R f T T' (M s a) (d b (f a))
theorem Hv (B:py R f T kd sh T' kd' sh'){n l:Nat}{M j:cL->Int->cL}(hM:uk R f T T' n l M j){s d:cL}(h:Bs R f T T' s d)(m:T.length<=s.1.length+n)(o:T'.length<=d.1.length+l){x k:Int}(p:ll R f x k):
 (dr M T s x).1=(dr j T' d k).1/\Bs R f T T' (dr M T s x).2 (dr j T' d k).2:=by
 unfold dr;rcases p with⟨g,i,b,q⟩|⟨g,i,b⟩
 ·rw[aH g,aH i,aH (List.contains_iff_mem.2 (B.q6 _ b)),q,aH (List.contains_iff_mem.2 (B.q7 _ b))];have hm:=uj B.inj b h.rs;rw[<-h.ms] at hm;by_cases c:dv x∈s.1
  ·rw[aH (List.contains_iff_mem.2 c),aH (List.contains_iff_mem.2 (hm.2 c))];refine⟨?_,h⟩
   rw[h.ms,z9 B.inj b s.1 h.rs]
  ·rw[aE (fun e=>c (List.contains_iff_mem.1 e)),aE (fun e=>c (hm.1 (List.contains_iff_mem.1 e)))];refine⟨?_,hM s d (dv x) h b c m o⟩
   rw[h.ms,aQ]
 ·rw[aE g,aE (by rw[i];exact g),i,b];exact⟨rfl,h⟩
theorem ul (B:py R f T kd sh T' kd' sh'){n g:Nat}{M c:cL->Int->cL}(i:ki T kd sh n M)(j:ki T' kd' sh' g c)(hM:uk R f T T' n g M c):∀(l d:List Int)(r b:List (Int×Int)×cL),i7 (ll R f) l d->r.1=b.1->Bs R f T T' r.2 b.2->T.length<=r.2.1.length+n->T'.length<=b.2.1.length+g->
 (l.foldl (fun r x=>(r.1++[(dr M T r.2 x).1],(dr M T r.2 x).2)) r).1=(d.foldl (fun r x=>(r.1++[(dr c T' r.2 x).1],(dr c T' r.2 x).2)) b).1/\Bs R f T T' (l.foldl (fun r x=>(r.1++[(dr M T r.2 x).1],(dr M T r.2 x).2)) r).2 (d.foldl (fun r x=>(r.1++[(dr c T' r.2 x).1],(dr c T' r.2 x).2)) b).2
 |[],[],r,b,_,e,h,_,_=>⟨e,h⟩
 |[],k::d,r,b,hw,_,_,_,_=>absurd hw (by simp[i7])
 |x::l,[],r,b,hw,_,_,_,_=>absurd hw (by simp[i7])
 |x::l,k::d,r,b,hw,e,h,m,o=>by obtain⟨w1,p⟩:=hw;obtain⟨q,s⟩:=Hv B hM h m o w1;have g1:=(pM i h.ok m x).le;have g2:=(pM j h.ok' o k).le;rw[a8,a8];exact ul B i j hM l d _ _ p (by rw[e,q]) s (by dsimp only;omega) (by dsimp only;omega)
theorem z_ (B:py R f T kd sh T' kd' sh'):∀n d:Nat,uk R f T T' n d (met T kd sh n) (met T' kd' sh' d)
 |0,_=>fun s b a h ha e l _=>by have:=h.ok.lt (B.q6 a ha) e;omega
 |n+1,0=>fun s b a h ha e _ m=>by
  have:=h.ok'.lt (B.q7 a ha) (fun c=>e ((uj B.inj ha h.rs).1 (by rw[<-h.ms];exact c)))
  omega
 |n+1,d+1=>fun s b a h ha e l m=>by
  have o:_:=fun c=>e ((uj B.inj ha h.rs).1 (by rw[<-h.ms];exact c))
  have p:Bs R f T T' (s.1++[a],s.2++[(kd a,[])]) (b.1++[f a],b.2++[(kd' (f a),[])]):=⟨h.ok.more (B.q6 a ha) e _,h.ok'.more (B.q7 a ha) o _,by rw[h.ms];simp,by rw[h.nd,B.kd a ha],fun c hc=>by
   rcases List.mem_append.1 hc with g|g
   ·exact h.rs c g
   ·rw[bD] at g;rw[g];exact ha⟩
  obtain⟨i,j⟩:=ul B (jb n) (jb d) (z_ B n d) (sh a) _ ([],(s.1++[a],s.2++[(kd a,[])])) ([],(b.1++[f a],b.2++[(kd' (f a),[])])) (B.sh a ha) rfl p (by simp;omega) (by simp;omega)
  refine⟨(jb (n+1) s a h.ok (B.q6 a ha) e l).ok,(jb (d+1) b (f a) h.ok' (B.q7 a ha) o m).ok,j.ms,?_,j.rs⟩
  have k:=j.nd;show(c_ _ T' (b.1++[f a],b.2++[(kd' (f a),[])]) _).2.2.set _ (kd' (f a),(c_ _ T' (b.1++[f a],b.2++[(kd' (f a),[])]) _).1)=(c_ _ T (s.1++[a],s.2++[(kd a,[])]) (sh a)).2.2.set _ (kd a,(c_ _ T (s.1++[a],s.2++[(kd a,[])]) (sh a)).1)
  have i:(c_ (met T kd sh n) T (s.1++[a],s.2++[(kd a,[])]) (sh a)).1=(c_ (met T' kd' sh' d) T' (b.1++[f a],b.2++[(kd' (f a),[])]) (sh' (f a))).1:=i;have k:(c_ (met T' kd' sh' d) T' (b.1++[f a],b.2++[(kd' (f a),[])]) (sh' (f a))).2.2=(c_ (met T kd sh n) T (s.1++[a],s.2++[(kd a,[])]) (sh a)).2.2:=k;rw[k,<-i,B.kd a ha,h.ms,aQ]
theorem Hw (B:py R f T kd sh T' kd' sh'){l c:List Int}(hl:i7 (ll R f) l c){n b:Nat}(e:T.length<=n)(g:T'.length<=b):(c_ (met T kd sh n) T ([],[]) l).1=(c_ (met T' kd' sh' b) T' ([],[]) c).1/\(c_ (met T' kd' sh' b) T' ([],[]) c).2.2=(c_ (met T kd sh n) T ([],[]) l).2.2/\(c_ (met T' kd' sh' b) T' ([],[]) c).2.1=(c_ (met T kd sh n) T ([],[]) l).2.1.map f:=by
 obtain⟨i,d⟩:=ul B (jb n) (jb b) (z_ B n b) l c ([],([],[])) ([],([],[])) hl rfl ⟨eX.start T,eX.start T',rfl,rfl,fun a ha=>by cases ha⟩ (by simpa using e) (by simpa using g)
 exact⟨i,d.nd,d.ms⟩
end
theorem Hx {x:Int}(h:dk x=3):cX x=true:=by
 unfold cX;have h0:dc x=0:=by
  unfold dk at h;split at h
  ·assumption
  ·omega
 rw[h,h0];rfl
theorem um {x:Int}(h:cX x=true):dk x=3:=by unfold cX at h;rw[ba] at h;simpa using h.2
section
variable {a:Wc}{S:ck}{Y G K D:List Int}
end
theorem Pos.same {z g:Int->Int}{al i:Int->Bool}{f j:Int->Int}:∀{l:List Int}{n m:Int},(∀a∈l,z a=g a/\al a=i a/\f a=j a)->Pos z al f n l m->Pos g i j n l m
 |[],n,m,_,h=>h
 |a::l,n,m,he,h=>by
  obtain⟨q,k,o⟩:=he a Z;have p:∀{n m:Int},Pos z al f n l m->_:=fun h=>Pos.same (fun b s=>he b (aO _ s)) h;refine⟨fun c=>?_,fun c=>?_⟩
  ·obtain⟨d,e⟩:=h.1 (by rw[k];exact c)
   rw[<-o,<-q];exact⟨d,p e⟩
  ·obtain⟨d,e⟩:=h.2 (by rw[k];exact c)
   rw[<-o];exact⟨d,p e⟩
structure lZ (a:Wc)(s:ec)(T:List Int)(j:ct)(s':ec):Prop where
 y:s'.y=0
 M:s'.M=[]
 rl:s'.rs.length=12
 g:s'.g<=a.O
 l:s'.ws.length=a.N+a.O
 pos:Pos (fun c=>pf (ld a.N s.y s.g s.ws c)) (fun c=>!(j.f c==-1)) j.f a.N T (a.N+s'.g)
 rs:∀i,i<12->s'.rs.getD i 0=(s.j0 a).nw j (s.rs.getD i 0)
 hd:∀c∈T,j.f c≠-1->ld a.N 0 s'.g s'.ws (j.f c)=ld a.N s.y s.g s.ws c
 fd:∀c∈T,j.f c≠-1->∀i,0<=i->i<pf (ld a.N s.y s.g s.ws c)->ld a.N 0 s'.g s'.ws (j.f c+1+i)=(s.j0 a).nw j ((s.j0 a).h7 j c i)
section
variable {a:Wc}{s:ec}{Y G:List Int}
theorem kK (h:d6 a.N s.y s.g s.ws Y G)(b:cI a s):(s.j0 a).Y=Y/\(s.j0 a).G=G/\(s.j0 a).T=G++Y:=by
 have d:(s.j0 a).Y=Y:=by show ed _ _=Y;rw[(h.lists b.n1 b.y1 b.o1 b.g1).1];exact qM (fun x c=>bz (by have:=(h.ty.mem x c).2.1;omega))
 have e:(s.j0 a).G=G:=by show ed _ _=G;rw[(h.lists b.n1 b.y1 b.o1 b.g1).2];exact qM (fun x c=>bz (by have:=(h.ee.mem x c).2.1;omega))
 exact⟨d,e,by unfold b8.T;rw[d,e]⟩
theorem n5 (h:d6 a.N s.y s.g s.ws Y G)(f:cI a s):∀c∈(s.j0 a).T,kJ (s.j0 a) c:=fun c hc=>by
 obtain⟨m,n,g⟩:=kK h f;rw[g] at hc;rcases List.mem_append.1 hc with d|d
 ·obtain⟨j,k,e⟩:=h.ee.mem c d;exact⟨e,fun i l b=>g9 (by show(a.N:Int)<=_;omega) (by have b:i<=pf (ld a.N s.y s.g s.ws c):=b;show c+i<(a.N:Int)+s.g;omega)⟩
 ·obtain⟨j,k,e⟩:=h.ty.mem c d;exact⟨e,fun i l b=>ih V (by have b:i<=pf (ld a.N s.y s.g s.ws c):=b;show c+i<(s.y:Int);omega)⟩
theorem pz (h:d6 a.N s.y s.g s.ws Y G)(d:cI a s):∀c∈(s.j0 a).T,∀b∈(s.j0 a).T,c<b->c+(1+pf ((s.j0 a).ld c))<=b:=fun c hc b hd q=>by
 obtain⟨i,j,e⟩:=kK h d;rw[e] at hc hd;show c+(1+pf (ld a.N s.y s.g s.ws c))<=b;have hy:=d.y1;rcases List.mem_append.1 hc with hc|hc<;>rcases List.mem_append.1 hd with hd|hd
 ·exact h.ee.apart c hc b hd q
 ·have f:=(h.ee.mem c hc).1;have g:=(h.ty.mem b hd).2.1;have:=di (ld a.N s.y s.g s.ws b)
  omega
 ·have f:=(h.ty.mem c hc).2.1;have g:=(h.ee.mem b hd).1;omega
 ·exact h.ty.apart c hc b hd q
theorem Hy (h:d6 a.N s.y s.g s.ws Y G)(f:cI a s)(cy:ct)(hm:((s.j0 a).pl cy).2<=a.N+a.O):
 lZ a s (G++Y) ((s.j0 a).pl cy).1 (((s.j0 a).eW ((s.j0 a).pl cy).1).sl ((s.j0 a).pl cy).1).s/\((((s.j0 a).eW ((s.j0 a).pl cy).1).sl ((s.j0 a).pl cy).1).s.g:Int)=((s.j0 a).pl cy).2-a.N/\
 (∀c∈G++Y,((s.j0 a).pl cy).1.f c=-1↔cy.f c=-1)/\(∃F,il ((s.j0 a).eW ((s.j0 a).pl cy).1) ((s.j0 a).pl cy).1 F/\F 0 ((s.j0 a).eW ((s.j0 a).pl cy).1,0)):=by
 obtain⟨W,X,o⟩:=kK h f;have ew:=n5 h f;have ab:=pz h f;have K:=(cU.start (s:=s) f.n1 f.o1 f.y1 f.g1).nd;have hz:∀c,0<=(fun c=>pf ((s.j0 a).ld c)) c:=fun c=>(di _).1;obtain⟨k,hk⟩:∃k,s.j0 a=k:=⟨_,rfl⟩
 have I:k.a=a:=by rw[<-hk];rfl
 have p:k.s=s:=by rw[<-hk];rfl
 have w:∀x,k.ld x=ld a.N s.y s.g s.ws x:=fun x=>by rw[<-hk];rfl
 have bo:jI k:=⟨by rw[p,I];exact f.l1,by rw[p,I];exact f.y1,by rw[p,I];exact f.g1⟩
 obtain⟨t,_,_,_⟩:=pn (s.j0 a) (fun c=>!(cy.f c==-1)) (s.j0 a).T (cy,a.N) K (fun c _=>rfl)
 have t:Pos (fun c=>pf ((s.j0 a).ld c)) (fun c=>!(cy.f c==-1)) ((s.j0 a).pl cy).1.f a.N (s.j0 a).T ((s.j0 a).pl cy).2:=t;rw[hk] at W X o ew ab K hz t hm⊢;obtain⟨j,ad⟩:∃j,(k.pl cy).1=j:=⟨_,rfl⟩
 obtain⟨m,L⟩:∃m,(k.pl cy).2=m:=⟨_,rfl⟩
 rw[ad,L] at t;rw[L] at hm;rw[ad,L];have C:∀c∈k.T,(!(cy.f c==-1))=!(j.f c==-1):=fun c hc=>by
  cases q:(!(cy.f c==-1))
  ·rw[t.no c hc q];rfl
  ·have:=(t.bd hz c hc q).1;rw[beq_false_of_ne V];rfl
 have P:=t.same (fun c hc=>⟨rfl,C c hc,rfl⟩)
 have bp:∀c∈k.T,j.f c=-1↔cy.f c=-1:=fun c hc=>by
  have:=C c hc;constructor
  ·intro q;rw[q] at this
   simpa using this
  ·intro q;rw[q] at this
   simpa using this.symm
 obtain⟨ag,ai,t3,al,ap,g,ar,ax,D,aB⟩:=pt (s:=j) bo (by rw[p];exact f.r1) K ew ab;obtain⟨k5,br⟩:∃k5,k.eW j=k5:=⟨_,rfl⟩
 rw[br] at ag ai t3 al ap g ar ax D aB⊢;have M:∀c∈k.T,pf (k5.ld c)=pf (k.ld c):=fun c hc=>by rw[D c hc]
 have e:=ag.trans I;have N:=t3.trans X;have J:∀c,c∈G\/c∈Y->c∈k.T:=fun c hc=>by rw[o];exact List.mem_append.2 hc
 rw[o] at P;obtain⟨O,bs,bt⟩:=P.app;have aF:Pos (fun c=>pf (k5.ld c)) (fun c=>!(j.f c==-1)) j.f (k5.a.N+(0:Int)) G O:=by rw[e,Int.add_zero];exact bs.same (fun c hc=>⟨(M c (J c (aJ hc))).symm,rfl,rfl⟩)
 have aR:=bt.same (fun c hc=>⟨(M c (J c (aI hc))).symm,rfl,rfl⟩)
 have aT:∀c,0<=(fun c=>pf (k5.ld c)) c:=fun c=>(di _).1;have b7:=aR.le aT;have aV:i6 k5 (fun c=>!(j.f c==-1)) j.f O [] G (k5,0):=by
  refine⟨kg.refl _,rfl,Int.le_refl _,aF,⟨a.N,?_,by rw[e];dsimp only;omega,fun _ _ _=>rfl⟩,fun _ _ _=>rfl,fun c hc=>by cases hc⟩
  rw[e,ap,p];exact h.ee.heads (fun x a0=>by rw[D x (J x (aJ a0)),w])
 have a1:∀c∈k5.G,(fun c=>!(j.f c==-1)) c=!(j.f c==-1):=fun _ _=>rfl;have l:=i6.all g.l g.y g.g a1 G [] (k5,0) (fun c hc=>by rw[N];exact hc) aV;have Q:=l.pos;have a2:k5.lg j k5.G=gJ (fun _ a=>j.f a) (b8.iU j) (k5,0) G:=by unfold b8.lg;rw[N]
 obtain⟨u,bx⟩:∃u,gJ (fun _ a=>j.f a) (b8.iU j) (k5,0) G=u:=⟨_,rfl⟩
 rw[bx] at l Q a2;have u0:=l.u0;rw[e] at Q;have bY:=g.g;have a3:=g.y;rw[e] at bY a3;obtain⟨k1,bb⟩:∃k1,k5.sl1 j=k1:=⟨_,rfl⟩
 have A:k1=u.1.ar u.1.s.y u.2.toNat u.1.s.ws:=by rw[<-bb];unfold b8.sl1;rw[a2]
 have g1:(k1.s.g:Int)=u.2:=by rw[A];show(u.2.toNat:Int)=_;omega
 have R:=l.sm.a;have S:=l.sm.y;have bd:∀x:Int,(0<=x/\x<k5.s.y)\/((a.N:Int)<=x/\x<a.N+u.2/\x<a.N+k5.s.g)->k1.ld x=u.1.ld x:=fun x a0=>by
  have v:da u.1.a.N u.1.s.y u.1.s.g x=true:=by rw[R,S,l.g,e];exact(k7 _ _ _ _).2 V
  have bZ:da u.1.a.N u.1.s.y u.2.toNat x=true:=by rw[R,S,e];exact(k7 _ _ _ _).2 V
  rw[A];show ld u.1.a.N u.1.s.y u.2.toNat u.1.s.ws x=ld u.1.a.N u.1.s.y u.1.s.g u.1.s.ws x;rw[dX v,dX bZ]
 obtain⟨b,b0,b1,_⟩:=l.tl;have b2:_=_:=b0;rw[e] at b1 b2;have C0:lh k5 (fun c=>!(j.f c==-1)) j.f m G Y k1:=by
  refine⟨⟨by rw[A];exact R,by rw[A];exact S,by rw[A];exact l.sm.rs,by rw[A];exact l.sm.len⟩,by rw[e];omega,?_,fun x be bg=>?_,fun c hc C=>?_⟩
  ·rw[e,g1,Q];exact aR
  ·rw[bd x (aJ ⟨be,bg⟩)];exact l.cK x be bg
  ·obtain⟨r1,bi⟩:=l.rel c hc C;have r3:=(aF.bd aT c hc C).1;rw[e] at r1 r3⊢;refine⟨V,V,fun i E v=>?_⟩
   rw[bd _ (aI ⟨V,V,V⟩)];exact bi i E v
 have n:=lh.all (s:=j) g.l g.y (by rw[e];exact hm) Y G k1 (fun c hc=>by
  have U:=J c (aI hc)
  obtain⟨q1,b3,q3⟩:=h.ty.mem c hc;rw[D c U,w,al,p];exact⟨rfl,q1,b3,q3⟩) C0
 obtain⟨d,bl⟩:∃d,k1.pj j Y=d:=⟨_,rfl⟩
 rw[bl] at n;have b4:k5.sl2 j=d:=by unfold b8.sl2;rw[bb,(ai.trans W)];exact bl
 have bn:(k5.sl j).s=⟨0,d.s.g,d.s.ws,[],d.s.rs⟩:=by unfold b8.sl;rw[b4];rfl
 have b5:(a.N:Int)+d.s.g=m:=by
  have:=n.pos;rw[e] at this
  exact this
 have b6:d.s.y<=a.N:=by rw[n.sm.y];exact a3
 have rel:∀c∈G++Y,j.f c≠-1->(a.N:Int)<=j.f c/\∀i,0<=i->i<=pf (k.ld c)->ld a.N 0 d.s.g d.s.ws (j.f c+i)=k5.ld (c+i):=fun c hc B=>by
  have U:c∈k.T:=by rw[o];exact hc
  obtain⟨r1,bi,r3⟩:=n.rel c hc (by rw[beq_false_of_ne B];rfl)
  rw[e] at r1;refine⟨r1,fun i E v=>?_⟩
  rw[ug (y:=d.s.y) V b6,<-r3 i E (by rw[M c U];exact v)];show ld a.N d.s.y d.s.g d.s.ws _=ld d.a.N d.s.y d.s.g d.s.ws _;rw[(n.sm.a.trans e)]
 refine⟨?_,?_,fun c hc=>bp c (by rw[o];exact hc),⟨_,(i6.qW (m:=O) g.l g.y g.g (by rw[e];exact f.n1) (by rw[e];exact f.o1) a1 (by rw[e];omega)),?_⟩⟩
 ·rw[bn];refine⟨rfl,rfl,?_,?_,?_,?_,fun i hi=>?_,fun c hc B=>?_,fun c hc B i E v=>?_⟩
  ·show d.s.rs.length=12;rw[n.sm.rs];exact ar
  ·show d.s.g<=a.O;omega
  ·show d.s.ws.length=a.N+a.O;rw[n.sm.len,g.l,e]
  ·show Pos _ _ _ _ _ _;rw[b5];exact P.same (fun c hc=>⟨by rw[w],rfl,rfl⟩)
  ·show d.s.rs.getD i 0=_;rw[n.sm.rs,ax i hi,p,hk]
  ·have H:=(rel c hc B).2 0 V (di _).1;rw[Int.add_zero,Int.add_zero,D c (by rw[o];exact hc),w] at H;exact H
  ·have H:=(rel c hc B).2 (1+i) V (by rw[w];omega)
   rw[<-Int.add_assoc,<-Int.add_assoc,aB c (by rw[o];exact hc) B i E (by rw[w];exact v),<-hk] at H;exact H
 ·rw[bn];show(d.s.g:Int)=m-a.N;omega
 ·rw[List.take_zero,List.drop_zero,N];exact aV
end
section
variable {T:List Int}{kd:Int->Int}{sh:Int->List Int}
end
theorem Hz {N y g:Nat}{ws Y G:List Int}(h:d6 N y g ws Y G)(hy:y<=N)(Q:List bZ){c:Int}(hc:c∈Y\/c∈G)(d:pk (ld N y g ws c)≠5):(∀i:Nat,i<(eN N y g ws Q c).length->(eN N y g ws Q c).getD i 0=ld N y g ws (c+1+(i:Int)))/\(∀i:Nat,(i:Int)<pf (ld N y g ws c)->ld N y g ws (c+1+(i:Int))∈eN N y g ws Q c):=by
 have hl:=zE h hy Q hc d;have key:∀i:Nat,i<(eN N y g ws Q c).length->(eN N y g ws Q c).getD i 0=ld N y g ws (c+1+(i:Int)):=fun i hi=>by unfold eN at hi⊢;rw[aE d] at hi⊢;rw[aC,aG hi];simp
 refine⟨key,fun i hi=>?_⟩
 have b:i<(eN N y g ws Q c).length:=V;rw[<-key i b,aC,aG b];exact a6 b
section
variable {a:Wc}{s:ec}{Y G:List Int}
theorem HD {k:b8}{j:ct}{x:Int}(i:cX x=true->cf x∈k.T/\j.f (cf x)≠-1)(l:∀c∈k.T,j.f c≠-1->0<=j.f c/\j.f c<1000000):ll (fun c=>c∈k.T/\j.f c≠-1) j.f x (k.nw j x)/\(cX (k.nw j x)=true->∃c∈k.T,j.f c≠-1/\cf (k.nw j x)=j.f c):=by
 cases ha:cX x
 ·have e:k.nw j x=x:=by unfold b8.nw b8.jt;rw[ha];rfl
  rw[e];refine⟨aI ⟨fun b=>?_,rfl,rfl⟩,fun b=>?_⟩
  ·rw[Hx b] at ha;cases ha
  ·rw[ha] at b;cases b
 ·obtain⟨d,f⟩:=i ha;have e:k.nw j x=ew 3 (j.f (cf x)):=by unfold b8.nw b8.jt;rw[ha,List.contains_iff_mem.2 d,beq_false_of_ne f];rfl
  obtain⟨o,b1⟩:=l _ d f;obtain⟨n,m⟩:∃n:Nat,j.f (cf x)=n:=⟨(j.f (cf x)).toNat,V⟩
  obtain⟨w1,g⟩:=mU n V;rw[<-m,<-e] at w1 g;refine⟨aJ ⟨um ha,um w1,⟨by rw[<-lv x ha];exact d,by rw[<-lv x ha];exact f⟩,?_⟩,fun _=>⟨cf x,d,f,g⟩⟩
  rw[<-lv x ha,<-lv _ w1];exact g
end
def ct.lf (j:ct)(T:List Int):List Int:=(T.filter (fun c=>!(j.f c==-1))).map j.f
section
variable {a:Wc}{s s':ec}{Y G:List Int}{j:ct}
theorem lZ.bd (g:lZ a s (G++Y) j s'):∀c∈G++Y,j.f c≠-1->(a.N:Int)<=j.f c/\j.f c+(1+pf (ld a.N s.y s.g s.ws c))<=a.N+s'.g:=fun c hc b=>g.pos.bd (fun c=>(di _).1) c hc (by rw[beq_false_of_ne b];rfl)
theorem un {T:List Int}{x:Int}:x∈j.lf T↔∃c∈T,j.f c≠-1/\j.f c=x:=by
 unfold ct.lf;rw[List.mem_map];constructor
 ·rintro⟨c,b,d⟩
  obtain⟨e,f⟩:=List.mem_filter.1 b;exact⟨c,e,by simpa using f,d⟩
 ·rintro⟨c,b,d,e⟩
  exact⟨c,List.mem_filter.2 ⟨b,by rw[beq_false_of_ne d];rfl⟩,e⟩
theorem lZ.full (g:lZ a s (G++Y) j s')(h:d6 a.N s.y s.g s.ws Y G):d6 a.N 0 s'.g s'.ws [] (j.lf (G++Y)):=by
 refine⟨rfl,g.pos.ua (fun c=>(di _).1) (fun c hc d=>?_)⟩
 have e:j.f c≠-1:=by simpa using d
 rw[g.hd c hc e];refine⟨?_,rfl⟩
 rcases List.mem_append.1 hc with b|b
 ·exact(h.ee.mem c b).2.2
 ·exact(h.ty.mem c b).2.2
end
section
variable {a:Wc}{S:ck}{Y G:List Int}
end
section
variable {c:ka}{F:Nat->Prop}{S:ck×cj}{w:au}
end
section
variable {c:ka}{F:Nat->Prop}{S:ck×cj}{w:au}{j:Nat}
theorem Aa:cX 2=false:=aa
end
section
variable {a:Wc}{s:ec}{Y G:List Int}
end
section
variable {k:b8}{s:ct}
theorem cZ.nw {X:Int->Prop}(h:cZ k X s)(x:Int):k.nw s x=x:=by
 unfold b8.nw;split
 ·rename_i c;rw[ba] at c;have b:s.f (cf x)≠-1:=by simpa using c.2
  have ha:cX x=true:=by have q:=c.1;unfold b8.jt at q;rw[ba] at q;exact q.1
  have h0:dc x=0:=by have q:=ha;unfold cX at q;rw[ba] at q;simpa using q.1
  rw[h.self _ (nV c.1) b,lv x ha];have q:=(uX x h0).2;rw[um ha] at q;exact q
 ·rfl
theorem uo {t:ct×List bZ}{r:List bZ}(h:∀e∈r,k.al t.1 e.2=true):k.tS t r=t:=by
 have e:r.filter (fun e=>!k.al t.1 e.2)=[]:=by rw[List.filter_eq_nil_iff];intro e he;rw[h e he];simp
 show fi (dK ct) (fun s x=>k.al s.1 x) k.co t r=t;unfold fi;rw[e];rfl
end
section
variable {a:Wc}{S:ck}{Y G:List Int}
theorem q8 (c:cU (S.s.j0 a) gF):∀e∈S.r3 a,(S.s.j0 a).al (S.cy a) e.2=true:=by obtain⟨d,f,_⟩:=nW c;intro e he;obtain⟨b,g,i⟩:=List.mem_map.1 he;rw[<-i];show(S.s.j0 a).al (S.cy a) ((S.s.j0 a).nw (S.cy a) b.2)=true;rw[(d.jE.nw b.2)];exact zs f (List.mem_filter.1 (List.mem_filter.1 g).1).2
structure Ab (a:Wc)(s:ec)(T:List Int)(j:ct):Prop where
 rt:∀i,i<12->cX (s.rs.getD i 0)=true->cf (s.rs.getD i 0)∈T/\j.f (cf (s.rs.getD i 0))≠-1
 fd:∀c∈T,j.f c≠-1->∀i,0<=i->i<pf (ld a.N s.y s.g s.ws c)->cX ((s.j0 a).h7 j c i)=true->cf ((s.j0 a).h7 j c i)∈T/\j.f (cf ((s.j0 a).h7 j c i))≠-1
theorem lZ.inv {s d:ec}{j:ct}(g:lZ a s (G++Y) j d)(h:em a s Y G)(b:cI a s)(al:Ab a s (G++Y) j):em a d [] (j.lf (G++Y))/\cI a d:=by
 obtain⟨_,_,k⟩:=kK h.inv.full b;have hN:=b.n1;have hO:=b.o1;have w:=g.g;have o:∀c∈(s.j0 a).T,j.f c≠-1->0<=j.f c/\j.f c<1000000:=fun c hc p=>by
  rw[k] at hc;have:=g.bd c hc p;have:=di (ld a.N s.y s.g s.ws c)
  omega
 have key:∀x,(cX x=true->cf x∈G++Y/\j.f (cf x)≠-1)->cX ((s.j0 a).nw j x)=true->cf ((s.j0 a).nw j x)∈j.lf (G++Y):=fun x l ha=>by obtain⟨_,q⟩:=HD (fun ha=>by rw[k];exact l ha) o;obtain⟨c,c1,c2,c3⟩:=q ha;rw[k] at c1;exact un.2 ⟨c,c1,c2,c3.symm⟩
 refine⟨⟨?_,fun v _ i _ _ _ hy=>by cases hy⟩,⟨b.n0,b.n1,b.o1,by rw[g.y];exact aS _,g.g,g.l,g.rl⟩⟩
 rw[g.y];refine⟨(g.full h.inv.full),fun x l ha=>?_,fun v t i m f ha=>?_⟩
 ·obtain⟨i,hi,e⟩:=List.mem_iff_getElem.1 l;have u:d.rs.getD i 0=x:=by rw[aC,aG hi,e];rfl
  have n:i<12:=by rw[<-g.rl];exact hi
  rw[<-u,g.rs i n] at ha⊢;exact aI (key _ (al.rt i n) ha)
 ·obtain⟨c,c1,c2,c3⟩:=un.1 (t.resolve_left Z)
  rw[<-c3] at f ha⊢;rw[g.hd c c1 c2] at f;rw[g.fd c c1 c2 i m f] at ha⊢;exact aI (key _ (al.fd c c1 c2 i m f) ha)
structure HE (a:Wc)(S:ck)(Y G:List Int)(j:ct):Prop where
 gc:lZ a S.s (G++Y) j (S.dA a).s
 al:Ab a S.s (G++Y) j
 g:((S.dA a).s.g:Int)=S.n4 a
 iff:∀c∈G++Y,j.f c=-1↔(S.cy a).f c=-1
 j:S.cz a=j
theorem l4 (h:em a S.s Y G)(b:cI a S.s)(v:S.fD a=false):(∃F,il (S.k5 a) (S.dG a) F/\F 0 (S.k5 a,0))/\HE a S Y G (S.cz a)/\S.dG a=S.cz a:=by
 have k:=cU.start b.n1 b.o1 b.y1 b.g1;obtain⟨l,X,J⟩:=nW (S:=S) k;obtain⟨l1,l2,f⟩:=kK h.inv.full b;have hm:((S.s.j0 a).pl (S.cy a)).2<=a.N+a.O:=by
  have:=of_decide_eq_false v;unfold ck.n4 at this
  omega
 obtain⟨g1,g2,g3,m⟩:=Hy h.inv.full b (S.cy a) hm;have K:((S.s.j0 a).pl (S.cy a)).1=S.cz a:=rfl;rw[K] at g1 g2 g3 m;have w:(S.s.j0 a).eW (S.cz a)=S.k5 a:=rfl;rw[w] at g1 g2 m;have L:(S.k5 a).T=(S.s.j0 a).T:=by
  obtain⟨_,A,t3,_⟩:=pt ⟨b.l1,b.y1,b.g1⟩ b.r1 k.nd (n5 h.inv.full b) (pz h.inv.full b)
  rw[w] at A t3;unfold b8.T;rw[A,t3]
 have B:∀x,(S.s.j0 a).cQ (S.cz a) x=(S.s.j0 a).cQ (S.cy a) x:=fun x=>by
  cases hj:(S.s.j0 a).jt x
  ·unfold b8.cQ;rw[hj];rfl
  ·have C:=nV hj;rw[f] at C;have q:=g3 _ C;unfold b8.cQ;by_cases c:(S.cy a).f (cf x)=-1
   ·rw[c,q.2 c]
   ·rw[beq_false_of_ne c,beq_false_of_ne (fun M=>c (q.1 M))]
 have D:S.dG a=S.cz a:=by
  have q:(S.k5 a).tS (S.cz a,S.q3 a) (S.r3 a)=(S.cz a,S.q3 a):=uo (fun e he=>by
   have q1:=q8 (S:=S) k e he;unfold b8.al at q1⊢;have E:(S.k5 a).cQ (S.cz a) e.2=(S.s.j0 a).cQ (S.cz a) e.2:=by unfold b8.cQ b8.jt;rw[L]
   rw[E,B];exact q1)
  unfold ck.dG;rw[q]
 have N:(S.k5 a).sl (S.cz a)=S.k6 a:=by unfold ck.k6;rw[D]
 rw[N] at g1 g2;have H:(S.dA a).s=(S.k6 a).s:=by unfold ck.dA;rw[v,aE Z]
 have I:∀x,cX x=true->cf x∈G++Y->(S.s.j0 a).cQ (S.cy a) x=false->(S.cz a).f (cf x)≠-1:=fun x ha hm hj=>by
  have O:(S.s.j0 a).jt x=true:=by unfold b8.jt;rw[ha,f,List.contains_iff_mem.2 hm];rfl
  rw[b8.pm O] at hj;exact fun e=>hj ((g3 _ hm).1 e)
 rw[D];refine⟨m,⟨by rw[H];exact g1,⟨fun i hi ha=>?_,fun c hc P i n p ha=>?_⟩,by rw[H];exact g2,g3,rfl⟩,rfl⟩
 ·have Q:S.s.rs.getD i 0∈S.s.rs:=by rw[aC,aG (by rw[b.r1];exact hi)];exact a6 _
  have d:=List.mem_append.2 (h.inv.rt _ Q ha).symm;exact⟨d,I _ ha d (J i hi)⟩
 ·have s:pc (ld a.N S.s.y S.s.g S.s.ws c)=0:=(n5 h.inv.full b c (by rw[f];exact hc)).c;have R:c∈(S.s.j0 a).T:=by rw[f];exact hc
  have U:_:=fun e=>P ((g3 c hc).2 e)
  have hM:mS (S.s.j0 a) (S.cy a) c:=by
   rcases l.jE.cmp c R U with q|q|q
   ·rw[l.td] at q;cases q
   ·exact absurd q id
   ·exact q
  have mem:∀i,0<=i->i<pf (ld a.N S.s.y S.s.g S.s.ws c)->cX (ld a.N S.s.y S.s.g S.s.ws (c+1+i))=true->_:=fun i n p ha=>List.mem_append.2 (h.inv.fd c (List.mem_append.1 hc).symm i n p ha).symm;unfold b8.h7 at ha⊢;rw[B] at ha⊢;by_cases cb:((pk ((S.s.j0 a).ld c)=3\/pk ((S.s.j0 a).ld c)=4)/\(S.s.j0 a).cQ (S.cy a) ((S.s.j0 a).ld (c+1))=true)/\(i=0\/(pk ((S.s.j0 a).ld c)=4/\i=1))
  ·rw[aH cb] at ha;exact absurd ha aa
  ·rw[aE cb] at ha⊢;have ha:=ha;have d:=mem i n p ha;refine⟨d,I _ ha d ?_⟩
   by_cases t:pk ((S.s.j0 a).ld c)=1\/pk ((S.s.j0 a).ld c)=2
   ·have q:=hM.p t i.toNat (by show(i.toNat:Int)<pf (ld a.N S.s.y S.s.g S.s.ws c);omega)
    rwa [show((i.toNat:Nat):Int)=i from by omega] at q
   ·by_cases g:pk ((S.s.j0 a).ld c)=3
    ·have W:=hY s (aI (aJ g))
     by_cases z:i=0
     ·cases hl:(S.s.j0 a).cQ (S.cy a) ((S.s.j0 a).ld (c+1))
      ·rw[z,Int.add_zero];exact hl
      ·exact absurd ⟨⟨aJ g,hl⟩,aJ z⟩ cb
     ·have o:i=1:=V;rw[o,show c+1+1=c+2 from by omega];exact hM.w g
    ·by_cases j:pk ((S.s.j0 a).ld c)=4
     ·have W:=hY s (aI (aI j))
      have u:(S.s.j0 a).cQ (S.cy a) ((S.s.j0 a).ld (c+1))=false:=by
       cases hl:(S.s.j0 a).cQ (S.cy a) _
       ·rfl
       ·exact absurd ⟨⟨aI j,hl⟩,V⟩ cb
      by_cases z:i=0
      ·rw[z,Int.add_zero];exact u
      ·have o:i=1:=V;rw[o,show c+1+1=c+2 from by omega];rcases hM.e j with q|q
       ·rw[l.ep c q] at u;cases u
       ·exact q
     ·have q1:=zB s;have E:pf (ld a.N S.s.y S.s.g S.s.ws c)=0:=by
       have q3:pk (ld a.N S.s.y S.s.g S.s.ws c)≠1/\pk (ld a.N S.s.y S.s.g S.s.ws c)≠2/\pk (ld a.N S.s.y S.s.g S.s.ws c)≠3/\pk (ld a.N S.s.y S.s.g S.s.ws c)≠4:=⟨fun e=>t (aJ e),fun e=>t (aI e),g,j⟩
       omega
      omega
theorem HG (a:Wc)(S:ck):(S.dA a).r.length+(S.dA a).q.length<=S.r.length+S.q.length:=by
 unfold ck.dA;split
 ·exact aA _
 ·have b:(S.j2 a).2.length=S.q.length:=pd _ _ _;have c:(S.r3 a).length+(S.q3 a).length<=S.r.length+(S.j2 a).2.length:=qR (dK ct) (fun s x=>(S.s.j0 a).al s.1 x) _ (fun s x=>(S.s.j0 a).nw s.1 x) (fun s x=>qI _ s x) (S.j2 a) S.r;have d:((S.k5 a).tR (S.cz a,S.q3 a) (S.r3 a)).length+((S.k5 a).hP (S.cz a,S.q3 a) (S.r3 a)).length<=(S.r3 a).length+(S.q3 a).length:=qR (dK ct) (fun s x=>(S.k5 a).al s.1 x) _ (fun s x=>(S.k5 a).nw s.1 x) (fun _ _=>rfl) (S.cz a,S.q3 a) (S.r3 a)
  dsimp only;omega
theorem em.dA (h:em a S.s Y G)(c:cI a S.s):(S.fD a=false->∃F,il (S.k5 a) (S.dG a) F/\F 0 (S.k5 a,0))/\(∃d e,em a (S.dA a).s d e)/\(S.dA a).s.M.length<=S.s.M.length:=by
 refine⟨fun b=>(l4 h c b).1,?_⟩
 cases b:S.fD a
 ·obtain⟨_,g,_⟩:=l4 h c b;obtain⟨f,_⟩:=g.gc.inv h c g.al;exact⟨⟨[],_,f⟩,by rw[g.gc.M];exact aS _⟩
 ·have i:S.dA a=S:=by unfold ck.dA;rw[aH b]
  rw[i];exact⟨⟨Y,G,h⟩,aA _⟩
end
end Go.Proofs.YtjpjpjemibgjpaaGreat
