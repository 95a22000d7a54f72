import Derived.Test.YtpkjkjhanlbcoaaGreatJ23
namespace Go.Proofs.YtpkjkjhanlbcoaaGreat
open Go.RowKit W Kp cf
theorem y3 {P:Prop}(h:P:=by
 rcases hm with e|⟨g1,g2,g3⟩
 ·rw[e] at ha hy⊢;rcases hz a y4 i i0 i1 ha with d|d
  ·unfold ce.cK at hy;rw[ha] at hy;simp at hy;exact absurd d hy
  ·exact aY _ d
 ·have hT:cg (k.l0 z (a+1+i))∈k.T:=by unfold ce.cK at g1;rw[a_] at g1;simpa using g1.2
  have hH:=h.mi.fh _ hT g2;have hbd:=h.mi.i7 hH;have hN:=h.mi.ci.hN';have hO:=h.mi.ci.hO;have hg:=h.mi.ci.hg;obtain⟨n,hn⟩:∃n:Nat,s.f (cg (k.l0 z (a+1+i)))=n:=⟨(s.f (cg (k.l0 z (a+1+i)))).toNat,V⟩
  rw[g3,hn,(m6 n V).2,<-hn];exact a9 _ hH):P:=h
theorem y5 {P:Prop}(h:P:=by
 unfold ce.gh;by_cases hG:b∈z.G
 ·split
  ·rw[aG (fun e=>jA ⟨hG,e⟩)]
  ·rfl
 ·have:=(hl b Z).resolve_left hG;rw[aG V]):P:=h
theorem y6 {P:Prop}(h:P:=by
 rcases List.mem_append.1 hd with hd|hd
 ·exact h.rel d hd hal
 ·rw[List.mem_singleton.1 hd,c] at hal;cases hal):P:=h
section
variable {k:ce}{z:C0}{s:cj}{H D:List Int}
theorem LI.fields (h:LI k z s H D)(he:hB k.N s.g s.nx=false)
 (hz:∀v,(v∈k.T\/v∈z.G)->∀i,0<=i->i<pf (k.l0 z v)->cY (k.l0 z (v+1+i))=true->cg (k.l0 z (v+1+i))∈k.T\/cg (k.l0 z (v+1+i))∈z.G)
 (hc:∀v∈z.G,v∉D->∀i,0<=i->i<pf (k.l0 z v)->k.cK (k.l0 z (v+1+i))=false)
 {b:Int}(hb:b∈z.G++H){i:Int}(i0:0<=i)(i1:i<pf (k.ld s b))(ha:cY (k.ld s (b+1+i))=true):
 cg (k.ld s (b+1+i))∈z.G++H\/(pk (k.ld s b)=3/\i=0/\b∈s.wk)\/(pk (k.ld s b)=4/\b∈s.ep):=by
 obtain⟨a,o⟩:=h.mi.from hb;have f:=h.mi.hd a b o;rw[f] at i1;have hm:=h.mi.fd a b o i i0 i1;have y4:a∈k.T\/a∈z.G:=by
  rcases o with⟨e,d⟩|⟨d,_⟩
  ·exact aJ (by rw[e];exact d)
  ·exact aK d
 have l:s.nx=(k.N:Int)+s.g:=by
  rcases h.bo with d|d
  ·have m:=h.mi.i7 d;unfold hB at he;have:=of_decide_eq_false he;omega
  ·exact d
 have key:k.cK (k.ld s (b+1+i))=false->cg (k.ld s (b+1+i))∈z.G++H:=fun hy=>by exact y3
 rcases List.mem_append.1 hb with d|d
 ·by_cases g:b∈D
  ·rcases h.ld b g i i0 (by rw[f];exact i1) with c|c|c
   ·exact aK (key c)
   ·exact aJ (aK c)
   ·exact aJ (aJ c)
  ·have ea:a=b:=by
    rcases o with⟨e,_⟩|⟨o1,j,p⟩
    ·exact e
    ·have m:=h.mi.hlo b (by rw[<-j];exact h.mi.fh a o1 (by rw[j];exact p))
     have q:=h.mi.kJ b d;omega
   subst ea;have hy:=hc a d g i i0 i1;refine aK (key ?_)
   rcases hm with e|⟨g1,_⟩
   ·rw[e];exact hy
   ·rw[hy] at g1;cases g1
 ·rcases h.lo b d (by rw[l];exact(h.mi.i7 d).2) i i0 (by rw[f];exact i1) with c|c|c
  ·exact aK (key c)
  ·exact aJ (aK c)
  ·exact aJ (aJ c)
end
def jU (k:ce)(G:List Int)(x:Int):Prop:=cY x=true->k.cK x=false/\cg x∈G
structure gM (k:ce)(G:List Int)(P:Int->Int->Prop)(s:cj):Prop where
 full:d5 k.N k.y s.g s.ws k.T G
 len:s.ws.length=k.N+k.O
 hy:k.y<=k.N
 hg:s.g<=k.O
 fd:∀b∈G,∀i,0<=i->i<pf (k.ld s b)->jU k G (k.ld s (b+1+i))\/P b i
 fy:∀b∈G,∀i,0<=i->i<pf (k.ld s b)->k.cK (k.ld s (b+1+i))=false->jU k G (k.ld s (b+1+i))
section
variable {k:ce}{G:List Int}{P:Int->Int->Prop}{s:cj}
theorem gM.st (h:gM k G P s){b i v:Int}(hb:b∈G)(g:0<=i)(l:i<pf (k.ld s b))(hv:jU k G v):gM k G (fun c j=>P c j/\¬(c=b/\j=i)) (k.st s (b+1+i) v)/\∀c∈G,k.ld (k.st s (b+1+i) v) c=k.ld s c:=by
 have hi:=jS h.full (aJ hb) g l;have u:=ju hi h.hy h.hg;obtain⟨n,hk⟩:=h.full.set h.len h.hy h.hg (aJ hb) g l;have e:k.st s (b+1+i) v={s with ws:=s.ws.set (b+1+i).toNat v}:=by unfold ce.st;rw[aI hi]
 have f:∀c∈G,k.ld (k.st s (b+1+i) v) c=k.ld s c:=fun c hc=>by rw[e];exact hk c (aJ hc)
 have hld:∀c∈G,∀j,0<=j->j<pf (k.ld s c)->k.ld (k.st s (b+1+i) v) (c+1+j)=if(b+1+i).toNat=(c+1+j).toNat then v else k.ld s (c+1+j):=fun c hc j j0 d=>by
  have m:=jS h.full (aJ hc) j0 d;rw[e];show ld k.N k.y s.g _ _=if _ then v else ld k.N k.y s.g s.ws _
  have hl:=h.len;rw[dW m,dW m,j_ _ _ _ _ V]
 refine⟨⟨by rw[e];exact n,by rw[e];show(List.set _ _ _).length=_;rw[a4];exact h.len,h.hy,by rw[e];exact h.hg,fun c hc j j0 d=>?_,fun c hc j j0 d=>?_⟩,f⟩
 ·rw[f c hc] at d;rw[hld c hc j j0 d];by_cases q:(b+1+i).toNat=(c+1+j).toNat
  ·rw[aI q];exact aK hv
  ·rw[aG q];exact(h.fd c hc j j0 d).imp id (fun p=>⟨p,fun⟨o,t⟩=>q (by rw[o,t])⟩)
 ·rw[f c hc] at d;rw[hld c hc j j0 d];by_cases q:(b+1+i).toNat=(c+1+j).toNat
  ·rw[aI q];exact fun _=>hv
  ·rw[aG q];exact h.fy c hc j j0 d
theorem gM.imp {Q:Int->Int->Prop}(h:gM k G P s)(hp:∀b i,P b i->Q b i):gM k G Q s:=⟨h.full,h.len,h.hy,h.hg,fun b hb i c d=>(h.fd b hb i c d).imp id (hp b i),h.fy⟩
theorem jU.gone:jU k G 3:=fun h=>absurd h aa
theorem gM.told (h:gM k G P s)(hN:k.N<=256)(hO:k.O<=1024){n:Int}(hn:n∈G):jU k G (ew 3 n):=fun _=>by
 have hb:=h.full.io n hn;have hg:=h.hg;have hy:=h.hy;obtain⟨m,rfl⟩:∃m:Nat,n=m:=⟨n.toNat,V⟩
 obtain⟨c,b⟩:=m6 m V;refine⟨?_,by rw[b];exact hn⟩
 unfold ce.cK;rw[c,b];cases hc:k.T.contains (m:Int)
 ·rfl
 ·have d:(m:Int)∈k.T:=by simpa using hc
  have:=h.full.ix _ d;omega
theorem gM.mw (hN:k.N<=256)(hO:k.O<=1024):∀(l:List Int){P:Int->Int->Prop}{s:cj},gM k G P s->(∀a∈l,a∈G/\pk (k.ld s a)=3)->(∀a∈k.T,s.f a≠-1->s.f a∈G)->gM k G (fun b i=>P b i/\¬(b∈l/\i=0)) (l.foldl k.eF s)/\(∀c∈G,k.ld (l.foldl k.eF s) c=k.ld s c)/\(l.foldl k.eF s).g=s.g/\(l.foldl k.eF s).rs=s.rs/\(l.foldl k.eF s).ep=s.ep
 |[],P,s,h,_,_=>⟨h.imp (fun b i p=>⟨p,fun⟨d,_⟩=>by cases d⟩),fun _ _=>rfl,rfl,rfl,rfl⟩
 |a::l,P,s,h,hl,g=>by
  rw[a8];obtain⟨ha,o⟩:=hl a Z;have j:=ii (h.full.ec.mem a ha).2.2 (aJ (aK o))
  have j:pf (k.ld s a)=2:=j;have m:a+1+0=a+1:=V;have fy:=h.fy a ha 0 V V;rw[m] at fy;obtain⟨v,ev,hv⟩:∃v,k.eF s a=k.st s (a+1) v/\jU k G v:=by
   unfold ce.eF;cases hls:k.ls s _
   ·refine⟨k.nw s _,by rw[aG Z],?_⟩
    cases hy:k.cK _
    ·have e:k.nw s (k.ld s (a+1))=k.ld s (a+1):=by unfold ce.nw;rw[hy];rfl
     rw[e];exact fy hy
    ·unfold ce.ls at hls;rw[hy,Bool.true_and] at hls;have e:k.nw s (k.ld s (a+1))=ew 3 (s.f (cg (k.ld s (a+1)))):=by unfold ce.nw;rw[hy,hls];rfl
     rw[e];unfold ce.cK at hy;rw[a_] at hy;exact h.told hN hO (g _ (by simpa using hy.2) (by simpa using hls))
   ·exact⟨3,by rw[aI rfl],jU.gone⟩
  obtain⟨m1,f⟩:=h.st ha (i:=0) V V hv;rw[m] at m1 f;rw[ev];obtain⟨q,j2,cA,cE,dC⟩:=gM.mw hN hO l m1 (fun c hc=>by
   obtain⟨n1,t⟩:=hl c (aO _ hc)
   exact⟨n1,by rw[f c n1];exact t⟩) g
  refine⟨q.imp (fun b i ⟨⟨u,w⟩,x⟩=>⟨u,fun⟨A,n⟩=>?_⟩),fun c hc=>(j2 c hc).trans (f c hc),cA,cE,dC⟩
  rcases List.mem_cons.1 A with d|d
  ·exact w ⟨d,n⟩
  ·exact x ⟨d,n⟩
end
section
variable {k:ce}{G:List Int}
theorem gM.be:∀(l:List Int){P:Int->Int->Prop}{s:cj},gM k G P s->(∀a∈l,a∈G/\pk (k.ld s a)=4)->gM k G (fun b i=>P b i/\¬(b∈l/\(i=0\/i=1))) (l.foldl k.gA s)/\(∀c∈G,k.ld (l.foldl k.gA s) c=k.ld s c)/\(l.foldl k.gA s).g=s.g/\(l.foldl k.gA s).rs=s.rs
 |[],P,s,h,_=>⟨h.imp (fun b i p=>⟨p,fun⟨d,_⟩=>by cases d⟩),fun _ _=>rfl,rfl,rfl⟩
 |a::l,P,s,h,hl=>by
  obtain⟨ha,j⟩:=hl a Z;have B:pf (k.ld s a)=2:=ii (h.full.ec.mem a ha).2.2 (aJ (aJ j))
  have m:a+1+0=a+1:=V;have n:a+1+1=a+2:=V;obtain⟨m1,f⟩:=h.st ha (i:=0) (v:=3) V V jU.gone;rw[m] at m1 f;obtain⟨n1,g⟩:=m1.st ha (i:=1) (v:=3) V (by rw[f a ha];omega) jU.gone;rw[n] at n1 g;obtain⟨o,j2,cA,cE⟩:=gM.be l n1 (fun c hc=>by
   obtain⟨q1,q⟩:=hl c (aO _ hc)
   exact⟨q1,by rw[g c q1,f c q1];exact q⟩)
  refine⟨o.imp (fun b i ⟨⟨⟨t,u⟩,w⟩,x⟩=>⟨t,fun⟨A,e⟩=>?_⟩),fun c hc=>((j2 c hc).trans (g c hc)).trans (f c hc),cA,cE⟩
  rcases List.mem_cons.1 A with d|d
  ·rcases e with e|e
   ·exact u ⟨d,e⟩
   ·exact w ⟨d,e⟩
  ·exact x ⟨d,e⟩
theorem tP {N y g:Nat}{ws:List Int}{a:Int}(ha:(N:Int)<=a)(hy:y<=N):ld N 0 g ws a=ld N y g ws a:=by
 have e:dd N 0 g a=dd N y g a:=by unfold dd hB;have b:decide ((0:Int)<=a/\a<0+(y:Int))=false:=bq V;rw[(bq V),b]
 unfold ld;rw[e]
theorem gM.done {s:cj}{rs:List Int}(h:gM k G (fun _ _=>False) s)(hr:∀x∈rs,jU k G x):ih k.N 0 s.g s.ws [] G rs:=by
 have io:=h.full.io;have eq:∀a,(k.N:Int)<=a->ld k.N 0 s.g s.ws a=ld k.N k.y s.g s.ws a:=fun a ha=>tP ha h.hy;refine⟨⟨by simpa using d4.done,h.full.ec.heads (fun x c=>eq x (io x c).1)⟩,fun x c ha=>aJ (hr x c ha).2,fun v hv i e d ha=>?_⟩
 rcases hv with b|b
 ·cases b
 ·have hv:=io v b;rw[eq v hv.1] at d;rw[eq (v+1+i) V] at ha⊢;exact aJ (((h.fd v b i e d).resolve_right id) ha).2
end
theorem y7 (ws:List Int)(t f n i:Nat)(b:t+n<=ws.length)(d:f+n<=ws.length):
 (splice ws t ((ws.drop f).take n)).getD i 0=if t<=i/\i<t+n then ws.getD (f+i-t) 0 else ws.getD i 0:=by
 exact wN
theorem Gf (k:b9)(hl:k.s.ws.length=k.a.N+k.a.O)(hy:k.s.y<=k.a.N)(hg:k.s.g<=k.a.O)(t f n:Nat)(t0:k.a.N<=t)(b:t+n<=k.a.N+k.s.g)(d:k.a.N<=f)(g:f+n<=k.a.N+k.s.g)(x:Int):
 (k.lz t f n).ld x=if(t:Int)<=x/\x<(t:Int)+n then k.ld (f+(x-t)) else k.ld x:=by
 have e:(k.lz t f n).ld x=ld k.a.N k.s.y k.s.g (splice k.s.ws t ((k.s.ws.drop f).take n)) x:=rfl;rw[e];unfold b9.ld;by_cases c:(t:Int)<=x/\x<(t:Int)+n
 ·rw[aI c,dW (hZ V V),dW (hZ V V),y7 _ _ _ _ _ V V,aI V]
  congr 1
  omega
 ·rw[aG c];cases hb:dd k.a.N k.s.y k.s.g x
  ·unfold ld;rw[hb];rfl
  ·have i:=(ll _ _ _ _).1 hb;rw[dW hb,dW hb,y7 _ _ _ _ _ V V,aG V]
structure kt (k k':b9):Prop where
 a:k'.a=k.a
 y:k'.s.y=k.s.y
 rs:k'.s.rs=k.s.rs
 len:k'.s.ws.length=k.s.ws.length
theorem kt.refl (k:b9):kt k k:=⟨rfl,rfl,rfl,rfl⟩
theorem kt.trans {k b c:b9}(h:kt k b)(j:kt b c):kt k c:=⟨j.a.trans h.a,j.y.trans h.y,j.rs.trans h.rs,j.len.trans h.len⟩
structure jk (k:b9)(al:Int->Bool)(f:Int->Int)(m:Int)(D l:List Int)(t:b9×Int):Prop where
 sm:kt k t.1
 g:t.1.s.g=k.s.g
 u0:0<=t.2
 pos:Pos (fun a=>pf (k.ld a)) al f (k.a.N+t.2) l m
 tl:∃b:Int,d4 k.ld (k.a.N+k.s.g) b l/\k.a.N+t.2<=b/\∀x:Int,b<=x->x<k.a.N+k.s.g->t.1.ld x=k.ld x
 cK:∀x:Int,0<=x->x<k.s.y->t.1.ld x=k.ld x
 rel:∀c∈D,al c=true->f c+pf (k.ld c)<k.a.N+t.2/\∀i:Int,0<=i->i<=pf (k.ld c)->t.1.ld (f c+i)=k.ld (c+i)
section
variable {k:b9}{al:Int->Bool}{s:cu}{m:Int}
theorem jk.step (hl:k.s.ws.length=k.a.N+k.a.O)(hy:k.s.y<=k.a.N)(hg:k.s.g<=k.a.O){D l:List Int}{a:Int}{t:b9×Int}(h:jk k al s.f m D (a::l) t)(hs:al a=!(s.f a==-1)):jk k al s.f m (D++[a]) l (e_ (fun _ a=>s.f a) (b9.i6 s) t a):=by
 obtain⟨b,⟨e,G,H,ht⟩,hb,j⟩:=h.tl;have I:=dj (k.ld b)
 have u0:=h.u0;cases c:al a
 ·rw[c] at hs;have c2:s.f a=-1:=by simpa using hs
  have o:e_ (fun _ a=>s.f a) (b9.i6 s) t a=t:=by unfold e_;rw[aI c2]
  rw[o];refine⟨h.sm,h.g,h.u0,(h.pos.2 c).2,⟨b+(1+pf (k.ld b)),ht,V,fun x g f=>j x V f⟩,h.cK,fun d hd hal=>?_⟩
  exact y6
 ·rw[c] at hs;have c2:s.f a≠-1:=by simpa using hs.symm
  obtain⟨J,A⟩:=h.pos.1 c;have o:e_ (fun _ a=>s.f a) (b9.i6 s) t a=b9.i6 s t a:=by unfold e_;rw[aG c2]
  rw[o];have B:b9.i6 s t a=(t.1.lz (s.f a).toNat a.toNat (1+(pf (k.ld a)).toNat),t.2+(1+pf (k.ld a))):=by unfold b9.i6;rw[(j a V (by rw[e];omega))]
  have hz:pf (k.ld a)=pf (k.ld b):=by rw[e]
  have hN:=h.sm.a;have p:=h.g;have q:=h.sm.len;have M:=Gf t.1 (by rw[q,hN];exact hl) (by rw[h.sm.y,hN];exact hy) (by rw[p,hN];exact hg) (s.f a).toNat a.toNat (1+(pf (k.ld a)).toNat) (by rw[hN];omega) (by rw[hN,p];omega) (by rw[hN];omega) (by rw[hN,p];omega)
  have u:kt t.1 (t.1.lz (s.f a).toNat a.toNat (1+(pf (k.ld a)).toNat))/\(t.1.lz (s.f a).toNat a.toNat (1+(pf (k.ld a)).toNat)).s.g=t.1.s.g:=by
   refine⟨⟨rfl,rfl,rfl,?_⟩,rfl⟩
   refine sC _ _ _ ?_;rw[q,hl,bw,List.length_drop,q,hl];omega
  rw[B];generalize t.1.lz (s.f a).toNat a.toNat _=C at M u⊢;have n:∀x,C.ld x=if s.f a<=x/\x<s.f a+(1+pf (k.ld a)) then t.1.ld (a+(x-s.f a)) else t.1.ld x:=fun x=>by rw[M x];have g:((s.f a).toNat:Int)=s.f a:=V;have f:(a.toNat:Int)=a:=V;have E:((1+(pf (k.ld a)).toNat:Nat):Int)=1+pf (k.ld a):=V;rw[g,f,E]
  refine⟨h.sm.trans u.1,u.2.trans h.g,V,by rw[<-Int.add_assoc];exact A,⟨b+(1+pf (k.ld b)),ht,V,fun x g f=>?_⟩,fun x g f=>?_,fun d hd hal=>?_⟩
  ·rw[n,aG V];exact j x V f
  ·rw[n,aG V];exact h.cK x g f
  ·rcases List.mem_append.1 hd with hd|hd
   ·obtain⟨r1,F⟩:=h.rel d hd hal;refine⟨V,fun i v w=>?_⟩
    rw[n,aG V];exact F i v w
   ·rw[List.mem_singleton.1 hd];refine⟨V,fun i v w=>?_⟩
    rw[n,aI V,show a+(s.f a+i-s.f a)=a+i from by omega];exact j (a+i) V V
theorem jk.qI (hl:k.s.ws.length=k.a.N+k.a.O)(hy:k.s.y<=k.a.N)(hg:k.s.g<=k.a.O)(hN:k.a.N<=256)(hO:k.a.O<=1024)(hs:∀a∈k.G,al a=!(s.f a==-1))(hm:m<=k.a.N+k.a.O):iD k s (fun j t=>jk k al s.f m (k.G.take j) (k.G.drop j) t):=by
 have hz:∀a,0<=(fun a=>pf (k.ld a)) a:=fun a=>(dj _).1;refine⟨fun j t c h i=>?_,fun j t c h=>?_,fun t h=>?_⟩
 ·have e:k.G.drop j=k.G.getD j 0::k.G.drop (j+1):=by rw[List.drop_eq_getElem_cons c,aE,aL c];rfl
  have d:k.G.getD j 0∈k.G:=by rw[aE,aL c];exact a6 c
  generalize k.G.getD j 0=a at e i d⊢;have h:jk k al s.f m (k.G.take j) (k.G.drop j) t:=h;rw[e] at h;have ha:al a=true:=by rw[hs a d,beq_false_of_ne i];rfl
  obtain⟨b,⟨l,q,u,ht⟩,hb,n⟩:=h.tl;have v:=dj (k.ld b)
  have u0:=h.u0;obtain⟨o,p⟩:=h.pos.1 ha;have f:=p.le hz;have f:=f;rw[(n a V (by rw[l];omega)),o];rw[l] at f⊢;omega
 ·have e:k.G.drop j=k.G.getD j 0::k.G.drop (j+1):=by rw[List.drop_eq_getElem_cons c,aE,aL c];rfl
  have d:k.G.getD j 0∈k.G:=by rw[aE,aL c];exact a6 c
  have h:jk k al s.f m (k.G.take j) (k.G.drop j) t:=h;rw[e] at h;have g:=h.step hl hy hg (hs _ d)
  rw[<-(gx k.G j c 0)] at g;exact g
 ·have h:=h;have u0:=h.u0;have g:=h.pos.le hz;omega
theorem jk.all (hl:k.s.ws.length=k.a.N+k.a.O)(hy:k.s.y<=k.a.N)(hg:k.s.g<=k.a.O)(hs:∀a∈k.G,al a=!(s.f a==-1)):∀(l D:List Int)(t:b9×Int),(∀a∈l,a∈k.G)->jk k al s.f m D l t->jk k al s.f m (D++l) [] (gU (fun _ a=>s.f a) (b9.i6 s) t l)
 |[],D,t,_,h=>by rw[List.append_nil];exact h
 |a::l,D,t,c,h=>by
  have d:=jk.all hl hy hg hs l _ _ (fun b hb=>c b (aO _ hb)) (h.step hl hy hg (hs a (c a Z)))
  rw[ba] at d;exact d
structure lB (k:b9)(al:Int->Bool)(f:Int->Int)(m:Int)(D l:List Int)(t:b9):Prop where
 sm:kt k t
 g:t.s.g<=k.a.O
 pos:Pos (fun a=>pf (k.ld a)) al f (k.a.N+t.s.g) l m
 cK:∀x:Int,0<=x->x<k.s.y->t.ld x=k.ld x
 rel:∀c∈D,al c=true->(k.a.N:Int)<=f c/\f c+pf (k.ld c)<k.a.N+t.s.g/\∀i:Int,0<=i->i<=pf (k.ld c)->t.ld (f c+i)=k.ld (c+i)
theorem lB.step (hl:k.s.ws.length=k.a.N+k.a.O)(hy:k.s.y<=k.a.N)(hm:m<=k.a.N+k.a.O){D l:List Int}{a:Int}{t:b9}(h:lB k al s.f m D (a::l) t)(hs:al a=!(s.f a==-1))(h0:0<=a)(I:a+(1+pf (k.ld a))<=k.s.y)(u:pc (k.ld a)=0):lB k al s.f m (D++[a]) l (e_ (fun(_:b9) a=>s.f a) (fun k a=>k.cop a) t a):=by
 have hz:∀a,0<=(fun a=>pf (k.ld a)) a:=fun a=>(dj _).1;have J:=dj (k.ld a)
 cases c:al a
 ·rw[c] at hs;have c2:s.f a=-1:=by simpa using hs
  have g:e_ (fun(_:b9) a=>s.f a) (fun k a=>k.cop a) t a=t:=by unfold e_;rw[aI c2]
  rw[g];refine⟨h.sm,h.g,(h.pos.2 c).2,h.cK,fun d hd hal=>?_⟩
  exact y6
 ·rw[c] at hs;have c2:s.f a≠-1:=by simpa using hs.symm
  obtain⟨K,e⟩:=h.pos.1 c;have e:Pos (fun a=>pf (k.ld a)) al s.f (k.a.N+t.s.g+(1+pf (k.ld a))) l m:=e;have L:=e.le hz;have g:e_ (fun(_:b9) a=>s.f a) (fun k a=>k.cop a) t a=t.cop a:=by unfold e_;rw[aG c2]
  rw[g];have hN:=h.sm.a;have v:=h.sm.y;have j:=h.sm.len;have b:ld t.a.N t.s.y t.s.g t.s.ws a=k.ld a:=h.cK a h0 V;have w:gg t.a.N t.s.y t.s.g a=t.s.y:=by
   unfold gg;have n:hB (0:Int) t.s.y a=true:=by unfold hB;exact bh ⟨h0,V⟩
   first|rw[aI n]|(simp[n])
  have hc:iu t.a.N t.a.O t.s.y t.s.g t.s.ws a=true:=by unfold iu;rw[b,w];exact bh ⟨u,V,by rw[hN];omega⟩
  have M:=ce.sD (k:=⟨t.a.N,t.a.O,t.s.y,[]⟩) (s:=⟨t.s.g,t.s.ws,fun _=>-1,0,[],[],[]⟩) (by rw[j,hN];exact hl) (by rw[v,hN];exact hy) (by rw[hN];exact h.g) (a:=a) h0 (by show a+1+pf (ld t.a.N t.s.y t.s.g t.s.ws a)<=t.s.y;rw[b];omega) hc;have f:∀x,(t.cop a).ld x=if(k.a.N:Int)+t.s.g<=x/\x<(k.a.N:Int)+t.s.g+(1+pf (k.ld a)) then t.ld (a+(x-(k.a.N+t.s.g))) else t.ld x:=fun x=>by have:=M x;rw[<-hN,<-b];exact this
  have A:(t.cop a).s.g=t.s.g+(1+(pf (k.ld a)).toNat):=by show jL _ _ _ _ _ _=_;unfold jL;rw[aI hc,b]
  have B:(t.cop a).s.ws.length=t.s.ws.length:=by show(jM _ _ _ _ _ _).length=_;unfold jM;rw[aI hc,b];refine sC _ _ _ ?_;rw[j,hl,hN,bw,List.length_drop,j,hl];omega
  have o:kt t (t.cop a):=⟨rfl,rfl,rfl,B⟩
  generalize t.cop a=C at f A o⊢;have E:(C.s.g:Int)=t.s.g+(1+pf (k.ld a)):=V;refine⟨h.sm.trans o,V,by rw[E,<-Int.add_assoc];exact e,fun x F G=>?_,fun d hd hal=>?_⟩
  ·rw[f,aG V];exact h.cK x F G
  ·rcases List.mem_append.1 hd with hd|hd
   ·obtain⟨r0,r1,H⟩:=h.rel d hd hal;refine⟨r0,V,fun i p q=>?_⟩
    rw[f,aG V];exact H i p q
   ·rw[List.mem_singleton.1 hd];refine⟨V,V,fun i p q=>?_⟩
    rw[f,aI V,show a+(s.f a+i-(k.a.N+t.s.g))=a+i from by omega];exact h.cK (a+i) V V
theorem lB.all (hl:k.s.ws.length=k.a.N+k.a.O)(hy:k.s.y<=k.a.N)(hm:m<=k.a.N+k.a.O):∀(l D:List Int)(t:b9),(∀a∈l,al a=!(s.f a==-1)/\0<=a/\a+(1+pf (k.ld a))<=k.s.y/\pc (k.ld a)=0)->lB k al s.f m D l t->lB k al s.f m (D++l) [] (t.pj s l)
 |[],D,t,_,h=>by rw[List.append_nil];exact h
 |a::l,D,t,c,h=>by
  obtain⟨g1,g2,g3,g4⟩:=c a Z;have d:=lB.all hl hy hm l _ _ (fun b hb=>c b (aO _ hb)) (h.step hl hy hm g1 g2 g3 g4)
  rw[ba] at d;exact d
end
structure hI (k k':b9):Prop where
 a:k'.a=k.a
 y:k'.s.y=k.s.y
 g:k'.s.g=k.s.g
 rs:k'.s.rs=k.s.rs
 Y:k'.Y=k.Y
 G:k'.G=k.G
 len:k'.s.ws.length=k.s.ws.length
theorem hI.refl (k:b9):hI k k:=⟨rfl,rfl,rfl,rfl,rfl,rfl,rfl⟩
theorem hI.trans {k b c:b9}(h:hI k b)(j:hI b c):hI k c:=⟨j.a.trans h.a,j.y.trans h.y,j.g.trans h.g,j.rs.trans h.rs,j.Y.trans h.Y,j.G.trans h.G,j.len.trans h.len⟩
structure jV (k:b9):Prop where
 l:k.s.ws.length=k.a.N+k.a.O
 y:k.s.y<=k.a.N
 g:k.s.g<=k.a.O
theorem hI.bd {k c:b9}(h:hI k c)(b:jV k):jV c:=⟨by rw[h.len,h.a];exact b.l,by rw[h.y,h.a];exact b.y,by rw[h.g,h.a];exact b.g⟩
theorem hI.T {k b:b9}(h:hI k b):b.T=k.T:=by unfold b9.T;rw[h.Y,h.G]
section
variable {k:b9}{s:cu}
theorem po (k:b9)(p x:Int):hI k (k.hD p x):=⟨rfl,rfl,rfl,rfl,rfl,rfl,by
 show(if _ then _ else _:List Int).length=_;split
 ·exact a4
 ·rfl⟩
theorem tT (b:jV k){p:Int}(hp:dd k.a.N k.s.y k.s.g p=true)(x q:Int):(k.hD p x).ld q=if q=p then x else k.ld q:=by
 have hb:=ju hp b.y b.g;have e:(k.hD p x).ld q=ld k.a.N k.s.y k.s.g (k.s.ws.set p.toNat x) q:=by unfold b9.hD;rw[aI hp];rfl
 rw[e];unfold b9.ld;by_cases c:q=p
 ·rw[aI c,c,dW hp,aE,List.getElem?_set_self (by rw[b.l];omega)];rfl
 ·rw[aG c];cases hq:dd k.a.N k.s.y k.s.g q
  ·unfold ld;rw[hq];rfl
  ·have d:=ju hq b.y b.g;rw[dW hq,dW hq,aE,List.getElem?_set_ne V,aE]
def b9.ij (k:b9)(s:cu)(a i:Int):Int:=if((pk (k.ld a)=3\/pk (k.ld a)=4)/\k.cS s (k.ld (a+1))=true)/\(i=0\/(pk (k.ld a)=4/\i=1)) then 3 else k.ld (a+1+i)
structure kN (k:b9)(a:Int):Prop where
 c:pc (k.ld a)=0
 i:∀i,0<=i->i<=pf (k.ld a)->dd k.a.N k.s.y k.s.g (a+i)=true
theorem hI.y8 {k b:b9}(h:hI k b){a:Int}(e:b.ld a=k.ld a)(w:kN k a):kN b a:=⟨by rw[e];exact w.c,fun i d c=>by rw[h.a,h.y,h.g];rw[e] at c;exact w.i i d c⟩
theorem Gg (b:jV k){a:Int}(w:kN k a):hI k (k.brk s a)/\(∀q,(q<=a\/a+pf (k.ld a)<q)->(k.brk s a).ld q=k.ld q)/\∀i,0<=i->i<pf (k.ld a)->(k.brk s a).ld (a+1+i)=k.ij s a i:=by
 unfold b9.brk;by_cases c:(pk (k.ld a)=3\/pk (k.ld a)=4)/\k.cS s (k.ld (a+1))=true
 ·rw[aI c];have m:=ii w.c V;have f:=w.i 1 V V;have d:=tT b f 3;by_cases e:pk (k.ld a)=4
  ·rw[aI e];have g:=tT ((po k (a+1) 3).bd b) (w.i 2 V V) 3;refine⟨(po k (a+1) 3).trans (po _ _ _),fun q hq=>?_,fun i j l=>?_⟩
   ·rw[g,aG V,d,aG V]
   ·unfold b9.ij;rw[g,d];by_cases z:i=0
    ·rw[aG V,aI V,aI ⟨c,aK z⟩]
    ·by_cases o:i=1
     ·rw[aI V,aI ⟨c,aJ ⟨e,o⟩⟩]
     ·rw[aG V,aG V,aG (fun h=>by omega)]
  ·rw[aG e];refine⟨po k (a+1) 3,fun q hq=>?_,fun i j l=>?_⟩
   ·rw[d,aG V]
   ·unfold b9.ij;rw[d];by_cases z:i=0
    ·rw[aI V,aI ⟨c,aK z⟩]
    ·rw[aG V,aG (fun h=>by omega)]
 ·rw[aG c];refine⟨hI.refl k,fun q hq=>rfl,fun i j f=>?_⟩
  unfold b9.ij;rw[aG (fun h=>c h.1)]
theorem y9 (b:jV k){a:Int}(w:kN k a):∀n:Nat,(n:Int)<=pf (k.ld a)->hI k (k.gK s a n)/\(∀q,(q<=a\/a+n<q)->(k.gK s a n).ld q=k.ld q)/\∀i:Int,0<=i->i<n->(k.gK s a n).ld (a+1+i)=k.nw s (k.ld (a+1+i))
 |0,_=>⟨hI.refl k,fun _ _=>rfl,fun i d g=>V⟩
 |n+1,hn=>by
  obtain⟨c,f,j⟩:=y9 b w n V;have hi:dd (k.gK s a n).a.N (k.gK s a n).s.y (k.gK s a n).s.g (a+1+n)=true:=by rw[c.a,c.y,c.g,show a+1+(n:Int)=a+(1+n) from by omega];exact w.i _ V V
  have e:=tT (c.bd b) hi (k.nw s ((k.gK s a n).ld (a+1+n)))
  have l:k.gK s a (n+1)=(k.gK s a n).hD (a+1+n) (k.nw s ((k.gK s a n).ld (a+1+n))):=rfl;rw[l];refine⟨c.trans (po _ _ _),fun q hq=>?_,fun i d g=>?_⟩
  ·rw[e,aG V];exact f q V
  ·rw[e];by_cases z:i=n
   ·rw[aI V,f _ V,z]
   ·rw[aG V];exact j i d V
theorem Gh (b:jV k){a:Int}(w:kN k a):hI k (k.jQ s a)/\(∀q,(q<=a\/a+pf (k.ld a)<q)->(k.jQ s a).ld q=k.ld q)/\∀i,0<=i->i<pf (k.ld a)->(k.jQ s a).ld (a+1+i)=k.nw s (k.ij s a i):=by
 obtain⟨c,d,f⟩:=Gg b w;have hp:=dj (k.ld a)
 have ea:=d a (aK (Int.le_refl _))
 obtain⟨g,j2,cA⟩:=y9 (c.bd b) (c.y8 ea w) (pf (k.ld a)).toNat (by rw[ea];omega)
 unfold b9.jQ;refine⟨c.trans g,fun q hq=>?_,fun i e j=>?_⟩
 ·rw[j2 q V];exact d q hq
 ·rw[cA i e V,f i e j];exact b9.km s _ c.Y c.G
structure l9 (k0:b9)(s:cu)(D:List Int)(t:b9):Prop where
 st:hI k0 t
 hd:∀c∈k0.T,t.ld c=k0.ld c
 de:∀c∈D,s.f c≠-1->∀i,0<=i->i<pf (k0.ld c)->t.ld (c+1+i)=k0.nw s (k0.ij s c i)
 td:∀c∈k0.T,c∉D->∀i,0<=i->i<pf (k0.ld c)->t.ld (c+1+i)=k0.ld (c+1+i)
theorem l9.step {k0:b9}(b:jV k0)(w:∀c∈k0.T,kN k0 c)(ap:∀c∈k0.T,∀d∈k0.T,c<d->c+(1+pf (k0.ld c))<=d){D:List Int}{t:b9}(h:l9 k0 s D t){a:Int}(ha:a∈k0.T)(n:a∉D)(x:∀c∈D,c∈k0.T):l9 k0 s (D++[a]) (e_ (fun(_:b9) a=>s.f a) (fun k a=>k.jQ s a) t a):=by
 by_cases c:s.f a=-1
 ·have o:e_ (fun(_:b9) a=>s.f a) (fun k a=>k.jQ s a) t a=t:=by unfold e_;rw[aI c]
  rw[o];refine⟨h.st,h.hd,fun d hd j=>?_,fun d hd hn=>h.td d hd (fun m=>hn (aY _ m))⟩
  rcases List.mem_append.1 hd with hd|hd
  ·exact h.de d hd j
  ·rw[List.mem_singleton.1 hd] at j;exact absurd c j
 ·have o:e_ (fun(_:b9) a=>s.f a) (fun k a=>k.jQ s a) t a=t.jQ s a:=by unfold e_;rw[aG c]
  rw[o];have ea:=h.hd a ha;obtain⟨A,p,v⟩:=Gh (h.st.bd b) (h.st.y8 ea (w a ha))
  rw[ea] at p v;have u:∀d∈k0.T,d≠a->∀i,0<=i->i<=pf (k0.ld d)->(t.jQ s a).ld (d+i)=t.ld (d+i):=fun d hd l i g f=>p _ (by
   rcases Int.lt_or_gt_of_ne l with q|q
   ·have:=ap d hd a ha q;omega
   ·have:=ap a ha d hd q;omega)
  have B:∀i,0<=i->i<pf (k0.ld a)->t.ij s a i=k0.ij s a i:=fun i g f=>by unfold b9.ij b9.cS b9.jt;rw[ea,h.st.T];have q0:=h.td a ha n 0 V V;rw[Int.add_zero] at q0;rw[q0,h.td a ha n i g f]
  refine⟨h.st.trans A,fun d hd=>?_,fun d hd j i g f=>?_,fun d hd hn i g f=>?_⟩
  ·by_cases e:d=a
   ·rw[e,p a (aK (Int.le_refl _))];exact ea
   ·have:=u d hd e 0 V (dj _).1;rw[Int.add_zero] at this
    rw[this];exact h.hd d hd
  ·rcases List.mem_append.1 hd with hd|hd
   ·have l:d≠a:=fun e=>n (e▸hd)
    have:=u d (x d hd) l (1+i) V V;rw[<-Int.add_assoc] at this
    rw[this];exact h.de d hd j i g f
   ·have e:=List.mem_singleton.1 hd;rw[e] at f⊢;rw[v i g f,B i g f];exact b9.km s _ h.st.Y h.st.G
  ·have l:d≠a:=fun e=>hn (by rw[e];simp)
   have:=u d hd l (1+i) V V;rw[<-Int.add_assoc] at this
   rw[this];exact h.td d hd (fun m=>hn (aY _ m)) i g f
theorem l9.all {k0:b9}(b:jV k0)(w:∀c∈k0.T,kN k0 c)(ap:∀c∈k0.T,∀f∈k0.T,c<f->c+(1+pf (k0.ld c))<=f):∀(l D:List Int)(t:b9),(D++l).Nodup->(∀c∈D++l,c∈k0.T)->l9 k0 s D t->l9 k0 s (D++l) (t.ob s l)
 |[],D,t,_,_,h=>by rw[List.append_nil];exact h
 |a::l,D,t,hn,d,h=>by
  have e:D++a::l=(D++[a])++l:=Z;have g:_:=fun m=>(List.nodup_append.1 hn).2.2 a m a Z rfl;have i:=h.step b w ap (d a Z) g (fun c hc=>d c (aY _ hc))
  rw[e] at hn d⊢;exact l9.all b w ap l _ _ hn d i
theorem y_ (k:b9)(s:cu):∀n,n<=k.s.rs.length->(k.fQ s n).a=k.a/\(k.fQ s n).Y=k.Y/\(k.fQ s n).G=k.G/\(k.fQ s n).s.y=k.s.y/\(k.fQ s n).s.g=k.s.g/\(k.fQ s n).s.ws=k.s.ws/\(k.fQ s n).s.rs.length=k.s.rs.length/\∀i,i<k.s.rs.length->(k.fQ s n).s.rs.getD i 0=if i<n then k.nw s (k.s.rs.getD i 0) else k.s.rs.getD i 0
 |0,_=>⟨rfl,rfl,rfl,rfl,rfl,rfl,rfl,fun i _=>ac⟩
 |n+1,hn=>by
  obtain⟨f,g,j,l,m,o,b,c⟩:=y_ k s n V;refine⟨f,g,j,l,m,o,?_,fun i hi=>?_⟩
  ·show(List.set _ _ _).length=_;rw[a4];exact b
  ·show(List.set _ n _).getD i 0=_;by_cases e:i=n
   ·rw[e,aI V,aE,List.getElem?_set_self (by rw[b];omega),c n V,aG V];rfl
   ·rw[aE,List.getElem?_set_ne V,<-aE,c i hi];by_cases d:i<n
    ·rw[aI d,aI V]
    ·rw[aG d,aG V]
theorem pr (b:jV k)(hr:k.s.rs.length=12)(hn:k.T.Nodup)(w:∀c∈k.T,kN k c)(ap:∀c∈k.T,∀l∈k.T,c<l->c+(1+pf (k.ld c))<=l):
 (k.e3 s).a=k.a/\(k.e3 s).Y=k.Y/\(k.e3 s).G=k.G/\(k.e3 s).s.y=k.s.y/\(k.e3 s).s.g=k.s.g/\jV (k.e3 s)/\(k.e3 s).s.rs.length=12/\(∀i,i<12->(k.e3 s).s.rs.getD i 0=k.nw s (k.s.rs.getD i 0))/\
 (∀c∈k.T,(k.e3 s).ld c=k.ld c)/\∀c∈k.T,s.f c≠-1->∀i,0<=i->i<pf (k.ld c)->(k.e3 s).ld (c+1+i)=k.nw s (k.ij s c i):=by
 obtain⟨e,m,n,g,j,p,u,v⟩:=y_ k s 12 V;obtain⟨k0,A⟩:∃k0,k.fQ s 12=k0:=⟨_,rfl⟩
 rw[A] at e m n g j p u v;have d:∀x,k0.ld x=k.ld x:=fun x=>by unfold b9.ld;rw[e,g,j,p]
 have f:k0.T=k.T:=by unfold b9.T;rw[m,n]
 have B:jV k0:=⟨by rw[p,e];exact b.l,by rw[g,e];exact b.y,by rw[j,e];exact b.g⟩
 have w0:∀c∈k0.T,kN k0 c:=fun c hc=>by rw[f] at hc;exact⟨by rw[d];exact(w c hc).c,fun i t o=>by rw[d] at o;rw[e,g,j];exact(w c hc).i i t o⟩
 have key:=l9.all (s:=s) B w0 (fun c hc l hd q=>by rw[f] at hc hd;rw[d];exact ap c hc l hd q) k0.T [] k0 (by rw[List.nil_append,f];exact hn) (fun c hc=>hc) ⟨hI.refl _,fun _ _=>rfl,(fun c hc=>by cases hc),fun _ _ _ _ _ _=>rfl⟩
 have C:k.e3 s=k0.ob s k0.T:=by unfold b9.e3;rw[A,f]
 rw[C];refine⟨key.st.a.trans e,key.st.Y.trans m,key.st.G.trans n,key.st.y.trans g,key.st.g.trans j,key.st.bd B,by rw[key.st.rs,u];exact hr,fun i hi=>by rw[key.st.rs,v i V,aI hi],fun c hc=>?_,fun c hc D i t o=>?_⟩
 ·rw[key.hd c (by rw[f];exact hc),d]
 ·rw[key.de c (by rw[f];exact hc) D i t (by rw[d];exact o)];have E:k0.ij s c i=k.ij s c i:=by unfold b9.ij b9.cS b9.jt;rw[f,d,d,d]
  rw[E];exact b9.km s _ m n
end
section
variable {k:ce}{z:C0}{s t:cj}{H K D:List Int}
theorem lC (k:ce)(s:cj):∀n,(k.cJ s n).wk=s.wk/\(k.cJ s n).ep=s.ep/\(k.cJ s n).nx=s.nx
 |0=>⟨rfl,rfl,rfl⟩
 |n+1=>by obtain⟨b,c,d⟩:=lC k s n;obtain⟨_,e,j2,cA⟩:=l8 k _ _;exact⟨e.trans b,j2.trans c,cA.trans d⟩
theorem dL.cJ (w:dL k z s H)(h:dE k z s H)(n:Nat)(ht:dE k z (k.cJ s n) K)(p:dh k s (k.cJ s n))(b:∃c,K=H++c):dL k z (k.cJ s n) K:=
 w.go h ht p b (lC k s n).1 (lC k s n).2.1
theorem LI.pt (c:Int)(M:List Int)(hz:d4 (k.l0 z) ((k.N:Int)+z.g) k.N z.G):∀(l:List Int){s:cj}{H D:List Int},LI k z s H D->dL k z s H->(∀a∈l,a∈z.G\/(k.N:Int)+z.g<=a)->∃g i,LI k z (l.foldl (k.gh ((k.N:Int)+z.g) c M) s) g i/\dL k z (l.foldl (k.gh ((k.N:Int)+z.g) c M) s) g/\dh k s (l.foldl (k.gh ((k.N:Int)+z.g) c M) s)/\(∃f,g=H++f)/\(∀a∈D,a∈i)/\∀a∈l,a∈z.G->(fZ k.N c a&&M.contains (cN k.N a))=true->a∈i
 |[],s,H,D,h,w,_=>⟨H,D,h,w,dh.refl _ _,⟨[],Z⟩,fun _ d=>d,fun a ha=>by cases ha⟩
 |b::l,s,H,D,h,w,hl=>by
  rw[a8];have u:=dj (k.ld s b)
  by_cases jA:b∈z.G/\(fZ k.N c b&&M.contains (cN k.N b))=true
  ·have hb:=(hz.mem b jA.1).2.1;have j:k.gh ((k.N:Int)+z.g) c M s b=k.lk s b:=by unfold ce.gh;rw[aI (by rw[(h.mi.hd b b (aK ⟨rfl,jA.1⟩))];omega),aI jA.2]
   rw[j];obtain⟨v,m1,p,⟨f,q⟩⟩:=h.lk jA.1;obtain⟨m,n,o,ks,j2,⟨t,cA⟩,cE,dC⟩:=LI.pt c M hz l m1 (w.lk h.mi (aY H jA.1) m1.mi p ⟨f,q⟩) (fun a ha=>hl a (aO _ ha))
   refine⟨m,n,o,ks,p.trans j2,⟨f++t,by rw[cA,q,ba]⟩,fun a d=>cE a (aO _ d),fun a ha hg hm=>?_⟩
   rcases List.mem_cons.1 ha with d|d
   ·exact cE a (by rw[d];simp)
   ·exact dC a d hg hm
  ·have j:k.gh ((k.N:Int)+z.g) c M s b=s:=by exact y5
   rw[j];obtain⟨m,n,o,ks,j2,cA,cE,dC⟩:=LI.pt c M hz l h w (fun a ha=>hl a (aO _ ha))
   refine⟨m,n,o,ks,j2,cA,cE,fun a ha hg hm=>?_⟩
   rcases List.mem_cons.1 ha with d|d
   ·exact absurd ⟨by rw[<-d];exact hg,by rw[<-d];exact hm⟩ jA
   ·exact dC a d hg hm
end
def Rest (k:ce)(z:C0)(D:List Int)(H:List Int)(s:cj):Prop:=∃K,LI k z s K D/\dL k z s K/\ee k s/\hB k.N s.g s.nx=false/\∃b,K=H++b
section
variable {k:ce}{z:C0}{D H:List Int}
theorem pu:∀(n:Nat)(t:cj×List b7),CI k t.1->ee k t.1->CI k (k.cW n t).1/\ee k (k.cW n t).1
 |0,t,h,hb=>⟨h,hb⟩
 |n+1,t,h,hb=>by
  obtain⟨c1,c2,c3⟩:=CI.lb h hb (k.O+1)
  obtain⟨b,c,f,g⟩:=CI.kv c1 c2;obtain⟨d,e,_⟩:=CI.wa (s:=((k.kv _).2,t.2)) b c;unfold ce.cW;split
  ·exact pu n ((k.kv _).2,t.2) b c
  ·split
   ·exact pu n _ d e
   ·exact⟨d,e⟩
theorem Rest.sp {t:cj×List b7}{b:List Int}(h:LI k z t.1 b D)(w:dL k z t.1 b)(hb:ee k t.1)(e:∃c,b=H++c):Rest k z D H (k.sp t).1:=by obtain⟨K,m1,d,_,⟨B,f⟩⟩:=cX.sp t b h w;obtain⟨A,e⟩:=e;exact⟨K,m1,d,(pu _ t h.mi.ci hb).2,qH _ t b h w hb V,⟨A++B,by rw[f,e,ba]⟩⟩
theorem Rest.ke {t:cj×List b7}(h:Rest k z D H t.1)(x:Int):Rest k z D H (k.ke t x).2.1:=by
 obtain⟨K,m1,d,b,_,⟨A,e⟩⟩:=h;obtain⟨j,f,j2,_,⟨B,cE⟩⟩:=cX.br x K m1 d;obtain⟨_,g,i,c⟩:=l8 k t.1 x;have hb:ee k (k.br t.1 x).2:=⟨by rw[g,c];exact b.wk,by rw[i,c];exact b.ep⟩
 exact Rest.sp f j2 hb ⟨A++B,by rw[cE,e,ba]⟩
theorem Rest.one {t:cj×List b7}(h:Rest k z D H t.1)(e:b7):Rest k z D H (cm (dI cj) (fun s x=>k.al s.1 x) k.ke t e).2.1:=by
 unfold cm;split
 ·exact h.ke e.2
 ·exact h
theorem Rest.part (l:List b7){t:cj×List b7}(h:Rest k z D H t.1):Rest k z D H (pts (cm (dI cj) (fun s x=>k.al s.1 x) k.ke) t l).2.2.1:=by
 have key:∀(l:List b7)(p:List b7×List b7×(cj×List b7)),Rest k z D H p.2.2.1->Rest k z D H (l.foldl (eh (cm (dI cj) (fun s x=>k.al s.1 x) k.ke)) p).2.2.1:=by
  intro l
  induction l with
  |nil=>exact fun p h=>h
  |cons e l c=>
   intro p hp;refine c _ ?_;have b:=hp.one e;unfold eh;split
   ·exact b
   ·exact b
 exact key l ([],[],t) h
theorem Rest.turn:∀(n:Nat){t:cj×List b7}(b:List b7),Rest k z D H t.1->Rest k z D H (eB (cm (dI cj) (fun s x=>k.al s.1 x) k.ke) n t b).1.1
 |0,t,b,h=>h
 |n+1,t,b,h=>by
  unfold eB;split
  ·exact h.part b
  ·exact Rest.turn n _ (h.part b)
theorem Rest.eW {t:cj×List b7}(h:Rest k z D H t.1)(r:List b7):Rest k z D H (k.eW t r).1:=Rest.turn _ _ h
end
end Go.Proofs.YtpkjkjhanlbcoaaGreat
