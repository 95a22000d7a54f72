import Derived.Test.YtjpjpjemibgjpaaGreatJ40
import Derived.Test.YtjpjpjemibgjpaaGreatJ33
import Derived.Test.YtjpjpjemibgjpaaGreatJ26
import Derived.Test.YtjpjpjemibgjpaaGreatJ38
import Derived.Test.YtjpjpjemibgjpaaGreatJ29
import Derived.Test.YtjpjpjemibgjpaaGreatJ02
import Derived.Test.YtjpjpjemibgjpaaGreatJ00
import Derived.Test.YtjpjpjemibgjpaaGreatJ19
import Derived.Test.YtjpjpjemibgjpaaGreatJ01
import Derived.Test.YtjpjpjemibgjpaaGreatJ03
import Derived.Test.YtjpjpjemibgjpaaGreatJ05
import Derived.Test.YtjpjpjemibgjpaaGreatJ07
namespace Go.Proofs.YtjpjpjemibgjpaaGreat
open Go.RowKit W Kp bY
section
variable {a:Wc}{S:bZ}{W:b_}{m:Nat->Int}{Y G D:List Int}
theorem cj.Bn (h:cj a S W m Y G)(b:cG a S.s){i:Nat}(hi:cv W.T i)(d:m i∈G):(W.T.getD i t0).2.2.1=true:=by
 cases c:(W.T.getD i t0).2.2.1
 ·exact absurd d (h.iA b (h.gp _ hi c))
 ·rfl
theorem hQ.start (b:cj a S W m Y G)(d:cG a S.s)(bl:S.s.y<=a.O-S.s.g){g:List Bool->List Bool}(hg:e_ W.T W.wt g):∃D,mZ a S G D/\hQ a S W m G D (S.t3 a) (W.c0 g false) []:=by
 have h:=b.kv;have al:(S.s.k0 a).T=Y:=b.eE d;have L:=LI.start h.inv.full d.n0 d.n1 d.o1 d.y1 d.g1 d.l1 bl;have bn:=dJ.start a S.s G;have ar:12<=(S.s.s0 a).rs.length:=by show 12<=S.s.rs.length;rw[d.r1];exact ak _
 obtain⟨n,s,bo,⟨bY,bp⟩,l1,y1,_,m1⟩:=L.cg 12 ar;have br:=bn.cg L.mi 12 s.mi bo ⟨_,bp⟩
 have ax:c8 a.N S.s.y (S.s.s1 a).g (S.s.s1 a).ws=G++n:=(s.mi.full.lists (O:=a.O) d.n1 d.y1 d.o1 s.mi.ci.hg).2;have bs:(S.s.s1 a).nx=((S.s.k0 a).N:Int)+(S.s.z0 G).g:=(k3 (S.s.k0 a) (S.s.s0 a) 12).2.2;have aB:dK ((S.s.k0 a).l0 (S.s.z0 G)) (((S.s.k0 a).N:Int)+(S.s.z0 G).g) (S.s.k0 a).N (S.s.z0 G).G:=h.inv.full.dN;have hlo:∀x∈G++n,x∈(S.s.z0 G).G\/((S.s.k0 a).N:Int)+(S.s.z0 G).g<=x:=fun x bx=>(List.mem_append.1 bx).imp id (fun o=>s.mi.hlo x o)
 obtain⟨M,A,N,aF,aR,⟨bZ,b0⟩,_,hD⟩:=LI.od (dx a.O) S.s.M aB (G++n) s br hlo;have bL:(G++n).foldl ((S.s.k0 a).ff (((S.s.k0 a).N:Int)+(S.s.z0 G).g) (dx a.O) S.s.M) ((S.s.k0 a).cg (S.s.s0 a) 12)=S.s.s2 a:=by unfold dT.s2 bP.lm;rw[ax,bs];rfl
 have aT:=qc (S.s.k0 a) (((S.s.k0 a).N:Int)+(S.s.z0 G).g) (dx a.O) S.s.M (G++n) ((S.s.k0 a).cg (S.s.s0 a) 12)
 have H:=b.first false;have aV:=hg _ H.len H.al;obtain⟨n1,a0⟩:=hg.ok b.iv H;have a1:eF W.T W.wt (b8 (W.c0 g false)):=aV.cl;have J:∀i,cv W.T i->(W.T.getD i t0).2.2.1=true->b8 (W.c0 g false) i:=fun i hi q=>a0 i ((kB _ _ _ _).2 ⟨hi.1,ap ⟨q,hi.2,rfl⟩⟩)
 have a2:∀v∈W.rs,v.1=3->b8 (W.c0 g false) v.2.toNat:=fun v f p=>a0 _ ((kB _ _ _ _).2 ⟨((b.rv v f).t p).2.1,an ⟨v,f,p,rfl⟩⟩)
 have a3:=b.u3 d a1 J;have bM:cQ (S.s.k0 a) (f_ W m (b8 (W.c0 g false))) (S.s.s0 a):=fun _ _ P=>absurd rfl P;have bN:=cQ.cg L bM (fun i hi hy=>by
  have hi:i<12:=by rw[<-d.r1];exact hi
  obtain⟨er,f⟩:=b.root hi;have er:(S.s.s0 a).rs.getD i 0=wv m (W.rs.getD i (0,0)):=er;rw[er] at hy⊢;obtain⟨p,ev⟩:=b.oy d f hy;rw[ev];exact⟨_,(f.t p).2,rfl,a2 _ (getD_in (by rw[b.rl];exact hi)) p⟩) 12 ar
 have bb:=cQ.lm a3 (dx a.O) S.s.M aB (G++n) s hlo bN;rw[bL] at N aF aR aT bb;have b1:(G++n).length<=2000:=by rw[<-ax];exact gx _ _
 obtain⟨q1,bO,q3⟩:=k3 (S.s.k0 a) (S.s.s0 a) 12;have cb:d6 (S.s.k0 a) (S.s.s2 a):=by
  obtain⟨Q,R,B,_⟩:=aT;rw[q1] at Q;rw[bO] at R;rw[q3] at B;have Q:(S.s.s2 a).wk.length<=0+(G++n).length:=Q;have R:(S.s.s2 a).ep.length<=0+(G++n).length:=R;have B:(S.s.s2 a).nx=(a.N:Int)+S.s.g:=B;have o1:=d.o1;refine⟨?_,?_⟩
  ·rw[B];show(S.s.s2 a).wk.length+((a.N:Int)+a.O+13-((a.N:Int)+S.s.g)).toNat<=4000;omega
  ·rw[B];show(S.s.s2 a).ep.length+((a.N:Int)+a.O+13-((a.N:Int)+S.s.g)).toNat<=4000;omega
 have bd:mZ a S G A:=fun v f bQ i bR bS=>by
  cases hc:(S.s.k0 a).cq ((S.s.k0 a).l0 (S.s.z0 G) (v+1+i))
  ·rfl
  ·exfalso;unfold bP.cq at hc;rw[aQ,al] at hc;have hm:=h.cd v f i bR bS hc.1 (List.contains_iff_mem.1 hc.2)
   exact bQ (hD v (aL _ f) f hm)
 have bT:S.q=(W.wt++[]).map (we m):=by rw[List.append_nil];exact b.wt
 have be:ez (S.s.k0 a) (S.s.s2 a) ((W.wt++[]).map (we m)) S.q:=by rw[<-bT];exact ez.refl _ _
 have U:=b.u4 d a1 J (C:=[]) (fun e he=>(by cases he)) N.mi be;have key:∀s2:bU,LI (S.s.k0 a) (S.s.z0 G) s2 M A->dJ (S.s.k0 a) (S.s.z0 G) s2 M->d6 (S.s.k0 a) s2->ez (S.s.k0 a) s2 ((W.wt++[]).map (we m)) S.q->cQ (S.s.k0 a) (f_ W m (b8 (W.c0 g false))) s2->jg (S.s.k0 a) (f_ W m (b8 (W.c0 g false))) S.q->
  iY (S.s.k0 a) (S.s.z0 G) A ((W.wt++[]).map (we m)) ((S.s.k0 a).sp (s2,S.q))/\c5 (S.s.k0 a) s2 ((S.s.k0 a).sp (s2,S.q)).1/\cQ (S.s.k0 a) (f_ W m (b8 (W.c0 g false))) ((S.s.k0 a).sp (s2,S.q)).1:=fun s2 l w c e sn U=>by
  obtain⟨u,E⟩:=iY.sp (t:=(s2,S.q)) l w c e;exact⟨u,E,(cQ.cK a3 _ (s2,S.q) M l w U sn).1⟩
 obtain⟨u,E,X⟩:=key _ N aF cb be bb U;have u:iY (S.s.k0 a) (S.s.z0 G) A ((W.wt++[]).map (we m)) (S.t3 a):=u;have E:c5 (S.s.k0 a) (S.s.s2 a) (S.t3 a).1:=E;have X:cQ (S.s.k0 a) (f_ W m (b8 (W.c0 g false))) (S.t3 a).1:=X;refine⟨A,bd,u,n1,fun i hi=>⟨fun P=>?_,fun bV=>?_⟩,fun e he=>(by cases he),a2,J⟩
 ·rcases b.mem hi with w1|w1
  ·rcases(b.iC d _ hi).1 P with o|o
   ·exact absurd o (b.iA d w1)
   ·exact(b.ki hi).1 (X _ (by rw[al];exact w1) o)
  ·exact J i hi (b.Bn d hi w1)
 ·have bW:=b.qy d bd u qz;refine(aV.lt _ bW (fun j bg=>?_) i bV).2;have K:=H.al j bg;refine⟨K,?_⟩
  obtain⟨_,ad⟩:=(kB _ _ _ _).1 bg;rcases ad with⟨ad,_,_⟩|⟨v,f,p,e⟩
  ·exact(b.iC d _ K).2 (ap (b.old j K ad))
  ·obtain⟨k,hk,eR⟩:=List.mem_iff_getElem.1 f;have ai:k<12:=by rw[<-b.rl];exact hk
   obtain⟨er,bX⟩:=b.root ai;have ev:W.rs.getD k (0,0)=v:=by rw[aj,am hk,eR];rfl
   rw[ev] at er bX;have F:cv W.T v.2.toNat:=by rw[e];exact K
   refine ou (aR.trans E) ?_;rw[<-e];rcases b.mem F with w1|w1
   ·have hy:=(b.lW d F).2 w1;have hm:=m1 k ai;have er:(S.s.s0 a).rs.getD k 0=wv m v:=er;rw[er,fW p] at hm;rcases hm with o|⟨_,bi,_⟩
    ·have:=y1 k ai;rw[o,hy] at this
     cases this
    ·rw[(b.word d F).2.2] at bi;exact(b.iC d _ F).2 (an bi)
   ·exact(b.iC d _ F).2 (ap w1)
theorem hQ.settled (b:cj a S W m Y G)(c:cG a S.s)(hc:mZ a S G D){g:List Bool->List Bool}(hg:e_ W.T W.wt g)(h0:hQ a S W m G D (S.t3 a) (W.c0 g false) []):hQ a S W m G D (S.s4 a,((S.s.k0 a).d_ (S.t3 a) S.r).2) (W.cR g false).1 (W.cR g false).2.1:=by
 have hs:=hQ.qx b c hc hg;have d:S.r.filter (fun e=>!(S.s.k0 a).al (S.t3 a).1 e.2)=(W.rg.filter (fun e=>!cn (W.c0 g false) e.2)).map (we m):=by rw[b.rg];exact jJ _ _ _ W.rg (fun e he=>by show(!(S.s.k0 a).al (S.t3 a).1 (ew 3 (m e.2.toNat)))=_;rw[h0.is (b.gv e he).h])
 obtain⟨f,_⟩:=hs.turns (W.rg.length+1) (W.rg.filter (fun e=>!cn (W.c0 g false) e.2)) (S.t3 a) (W.c0 g false) [] (fun e he=>(List.mem_filter.1 he).1) h0;have i:eu (cm (dE bU) (fun s x=>(S.s.k0 a).al s.1 x) (S.s.k0 a).ke) ((S.r.filter (fun e=>!(S.s.k0 a).al (S.t3 a).1 e.2)).length+1) (S.t3 a) (S.r.filter (fun e=>!(S.s.k0 a).al (S.t3 a).1 e.2))=eu (cm (dE bU) (fun s x=>(S.s.k0 a).al s.1 x) (S.s.k0 a).ke) (W.rg.length+1) (S.t3 a) ((W.rg.filter (fun e=>!cn (W.c0 g false) e.2)).map (we m)):=by rw[d];have hl:=aY (fun e=>!cn (W.c0 g false) e.2) W.rg;exact qs _ _ _ _ _ (by rw[aE];omega) (by rw[aE];omega)
 have j:(S.s.k0 a).d_ (S.t3 a) S.r=(eu (cm (dE bU) (fun s x=>(S.s.k0 a).al s.1 x) (S.s.k0 a).ke) (W.rg.length+1) (S.t3 a) ((W.rg.filter (fun e=>!cn (W.c0 g false) e.2)).map (we m))).1:=by rw[<-i];rfl
 have k:(S.s4 a,((S.s.k0 a).d_ (S.t3 a) S.r).2)=(S.s.k0 a).d_ (S.t3 a) S.r:=rfl;rw[k,j];exact f
end
section
variable {k:bP}{z:C0}{s t:bU}{H D:List Int}
def bP.ch (k:bP)(s:bU)(x:Int):Int:=if k.ls s x=true then 3 else k.nw s x
theorem u5 {s t:bU}(a:t.f=s.f)(x:Int):k.ls t x=k.ls s x/\k.nw t x=k.nw s x:=by unfold bP.ls bP.nw;rw[a];exact⟨rfl,rfl⟩
def Fo (k:bP)(s:bU):Prop:=∀a∈k.T,s.f a≠-1->(k.N:Int)<=s.f a/\s.f a<1000000
theorem di.cV (h:di k z s H):Fo k s:=fun a ha b=>by
 have c:=h.hu (h.fh a ha b)
 have n1:=h.ci.hN';have d:=h.ci.hO;have e:=h.ci.hg;exact⟨c.1,I⟩
theorem lX {x:Int}(h:k.cq x=false):k.nw s x=x:=by unfold bP.nw;rw[h];simp
theorem oz {x:Int}(h:k.cq x=true)(a:s.f (bQ x)≠-1):k.nw s x=ew 3 (s.f (bQ x)):=by unfold bP.nw;rw[h,aq (by simp[a])]
theorem Bo (ci:CI k s)(cV:Fo k s){x:Int}(h:k.ls s x=false):k.cq (k.nw s x)=false:=by
 cases c:k.cq x
 ·rw[lX c];exact c
 ·have a:s.f (bQ x)≠-1:=fun e=>by unfold bP.ls at h;rw[c,e] at h;simp at h
  rw[oz c a];obtain⟨b1,b2⟩:=cV _ (k_ c) a;exact kU ci b1 b2
theorem Bp:k.cq 3=false:=by unfold bP.cq;rw[show cI 3=false by decide];rfl
theorem u6 (ci:CI k s)(cV:Fo k s)(x:Int):k.cq (k.ch s x)=false:=by
 unfold bP.ch;cases c:k.ls s x
 ·rw[ao V];exact Bo ci cV c
 ·rw[aq rfl];exact Bp
theorem Bq {x:Int}(h:k.cq x=false):k.ch s x=x:=by unfold bP.ch bP.ls;rw[h,Bool.false_and,ao V];exact lX h
theorem Br (k:bP)(s:bU)(a:Int):k.ex s a=k.st s (a+1) (k.ch s (k.ld s (a+1))):=by unfold bP.ex bP.ch;split<;>rfl
theorem qA (k:bP)(s:bU)(a x:Int):(k.st s a x).ws.length=s.ws.length:=by
 unfold bP.st;dsimp only;split
 ·rw[aM]
 ·rfl
theorem qB (hl:s.ws.length=k.N+k.O)(hy:k.y<=k.N)(hg:s.g<=k.O)(i:∀x,k.cq (k.ch s x)=false):∀(l:List Int)(t:bU),t.f=s.f->t.g=s.g->t.ws.length=s.ws.length->(∀c∈l,cO k.N k.y s.g (c+1)=true)->
 (l.foldl k.ex t).f=s.f/\(l.foldl k.ex t).g=s.g/\(l.foldl k.ex t).ws.length=s.ws.length/\(l.foldl k.ex t).ep=t.ep/\(l.foldl k.ex t).rs=t.rs/\∀p,k.ld (l.foldl k.ex t) p=if p-1∈l then k.ch s (k.ld t p) else k.ld t p
 |[],t,b,d,f,_=>⟨b,d,f,rfl,rfl,fun p=>V⟩
 |c::l,t,b,d,f,hi=>by
  have vt:∀x,k.ch t x=k.ch s x:=fun x=>by unfold bP.ch;rw[(u5 b x).1,(u5 b x).2]
  have j:=bP.lF (k:=k) (s:=t) (f.trans hl) hy (by rw[d];exact hg) (c+1) (k.ch t (k.ld t (c+1)))
  have hc:=hi c V;rw[aI,Br];have m:(k.st t (c+1) (k.ch t (k.ld t (c+1)))).ws.length=s.ws.length:=(qA _ _ _ _).trans f;obtain⟨n,o,u,v,w,A⟩:=qB hl hy hg i l (k.st t (c+1) (k.ch t (k.ld t (c+1)))) b d m (fun x B=>hi x (ay _ B))
  refine⟨n,o,u,v,w,fun p=>?_⟩
  rw[A p];have hp:=j p;rw[d] at hp;by_cases e:p=c+1
  ·have g:p-1∈c::l:=by rw[e];simp
   rw[aq ⟨e,hc⟩] at hp;rw[hp,aq g,vt,e];split
   ·exact Bq (i _)
   ·rfl
  ·have g:(p-1∈c::l)↔p-1∈l:=by rw[List.mem_cons];exact⟨fun a=>a.resolve_left (fun q=>e I),an⟩
   rw[ao (fun q=>e q.1)] at hp;rw[hp];by_cases a:p-1∈l
   ·rw[aq a,aq (g.2 a)]
   ·rw[ao a,ao (fun q=>a (g.1 q))]
theorem qC (hy:k.y<=k.N):∀(l:List Int)(t:bU),t.ws.length=k.N+k.O->t.g<=k.O->(∀c∈l,cO k.N k.y t.g (c+1)=true/\cO k.N k.y t.g (c+2)=true)->
 (l.foldl k.gg t).rs=t.rs/\(l.foldl k.gg t).g=t.g/\∀p,k.ld (l.foldl k.gg t) p=if p-1∈l\/p-2∈l then 3 else k.ld t p
 |[],t,_,_,_=>⟨rfl,rfl,fun p=>V⟩
 |c::l,t,f,b,hi=>by
  obtain⟨c1,c2⟩:=hi c V;have s1:=bP.lF (k:=k) (s:=t) f hy b (c+1) 3;have l1:(k.st t (c+1) 3).ws.length=k.N+k.O:=(qA _ _ _ _).trans f;have s2:=bP.lF (k:=k) (s:=k.st t (c+1) 3) l1 hy b (c+2) 3;have l2:(k.st (k.st t (c+1) 3) (c+2) 3).ws.length=k.N+k.O:=(qA _ _ _ _).trans l1;rw[aI];obtain⟨g,i,j⟩:=qC hy l (k.st (k.st t (c+1) 3) (c+2) 3) l2 b (fun x m=>hi x (ay _ m))
  refine⟨g,i,fun p=>?_⟩
  have n:k.gg t c=k.st (k.st t (c+1) 3) (c+2) 3:=rfl;rw[n,j p,s2 p,s1 p];have g1:(k.st t (c+1) 3).g=t.g:=rfl;rw[g1];by_cases a:p-1∈l\/p-2∈l
  ·rw[aq a,aq (a.imp (ay _) (ay _))]
  ·rw[ao a];by_cases d:p=c+2
   ·rw[aq ⟨d,c2⟩,aq (an (by rw[d];simp))]
   ·rw[ao (fun q=>d q.1)];by_cases e:p=c+1
    ·rw[aq ⟨e,c1⟩,aq (ap (by rw[e];simp))]
    ·rw[ao (fun q=>e q.1),ao];rintro(q|q)
     ·rcases List.mem_cons.1 q with q|q
      ·omega
      ·exact a (ap q)
     ·rcases List.mem_cons.1 q with q|q
      ·omega
      ·exact a (an q)
theorem u7 (ci:CI k s)(cV:Fo k s){a x:Int}(h:k.ml s a x):k.nw s x=k.nw s a:=by
 rcases h with e|⟨y1,b,c⟩
 ·rw[e]
 ·rw[oz y1 b,c];obtain⟨b1,b2⟩:=cV _ (k_ y1) b;exact lX (kU ci b1 b2)
theorem u8 {a x:Int}(h:k.ml s a x)(hy:k.cq x=false):x=k.nw s a:=by
 rcases h with e|⟨y1,b,c⟩
 ·rw[e] at hy;rw[lX hy,e]
 ·rw[oz y1 b,c]
theorem Bt (li:LI k z s H D)(w:dJ k z s H){a b i:Int}(o:k.or z s a b)(O:0<=i)(E:i<pf (k.l0 z a)):
 k.ld (k.be (k.mw s s.wk) (k.mw s s.wk).ep) (b+1+i)=if b∈s.ep then 3 else if b∈s.wk/\i=0 then k.ch s (k.ld s (b+1+i)) else k.ld s (b+1+i):=by
 have ci:=li.mi.ci;have cV:=li.mi.cV;have full:=li.mi.full;have m:=li.mi.mem o;have F:=li.mi.hd a b o;have G:=full.dN.mem b m;have P:i<pf (k.ld s b):=by rw[F];exact E
 have J:∀c∈s.wk,cO k.N k.y s.g (c+1)=true:=fun c hc=>by
  obtain⟨q1,f⟩:=w.wk c hc;have q3:=li.mi.bd q1;have:=fV q3.2.2 (an (ap f))
  exact eK I I
 have K:∀c∈s.ep,cO k.N k.y s.g (c+1)=true/\cO k.N k.y s.g (c+2)=true:=fun c hc=>by
  obtain⟨q1,f⟩:=w.ep c hc;have q3:=li.mi.bd q1;have:=fV q3.2.2 (an (an f))
  exact⟨eK I I,eK I I⟩
 obtain⟨m1,g,n,t,_,u⟩:=qB (s:=s) ci.len ci.hy ci.hg (u6 ci cV) s.wk s rfl rfl rfl J;have t:(k.mw s s.wk).ep=s.ep:=t;have g:(k.mw s s.wk).g=s.g:=g;have n:(k.mw s s.wk).ws.length=s.ws.length:=n;obtain⟨_,_,b3⟩:=qC ci.hy s.ep (k.mw s s.wk) (by rw[n];exact ci.len) (by rw[g];exact ci.hg) (by rw[g];exact K)
 have b3:∀p,k.ld (k.be (k.mw s s.wk) s.ep) p=if p-1∈s.ep\/p-2∈s.ep then 3 else k.ld (k.mw s s.wk) p:=b3
 have u:∀p,k.ld (k.mw s s.wk) p=if p-1∈s.wk then k.ch s (k.ld s p) else k.ld s p:=u
 rw[t,b3,u];have v:∀j,0<=j->j<pf (k.ld s b)->b+1+j∉z.G++H:=fun j j0 L=>full.dN.field m j0 L;have q1:∀l:List Int,(∀c∈l,c∈z.G++H)->((b+1+i)-1∈l↔(b∈l/\i=0)):=fun l hl=>by
  constructor
  ·intro d;by_cases e:i=0
   ·subst e;have:b+1+0-1=b:=I;rw[this] at d;exact⟨d,rfl⟩
   ·exfalso;have:b+1+i-1=b+1+(i-1):=I;rw[this] at d;exact v (i-1) I I (hl _ d)
  ·rintro⟨d,e⟩
   subst e;have:b+1+0-1=b:=I;rw[this];exact d
 have f:(b+1+i)-2∈s.ep↔(b∈s.ep/\i=1):=by
  constructor
  ·intro d;obtain⟨r1,M⟩:=w.ep _ d;by_cases e:i=1
   ·subst e;have:b+1+1-2=b:=I;rw[this] at d;exact⟨d,rfl⟩
   ·exfalso;by_cases N:i=0
    ·subst N;have r3:=li.mi.bd r1;have Q:=fV r3.2.2 (an (an M))
     have x:=full.dN.apart _ r1 b m I;have x:b+1+0-2+(1+pf (k.ld s (b+1+0-2)))<=b:=x;omega
    ·have:b+1+i-2=b+1+(i-2):=I;rw[this] at r1;exact v (i-2) I I r1
  ·rintro⟨d,e⟩
   subst e;have:b+1+1-2=b:=I;rw[this];exact d
 have A:=q1 s.ep (fun c hc=>(w.ep c hc).1)
 have B:=q1 s.wk (fun c hc=>(w.wk c hc).1)
 by_cases c:b∈s.ep
 ·have C:=fV G.2.2 (an (an (w.ep b c).2))
  have C:pf (k.ld s b)=2:=C;rw[aq c,aq];rcases(show i=0\/i=1 by omega) with e|e
  ·exact ap (A.2 ⟨c,e⟩)
  ·exact an (f.2 ⟨c,e⟩)
 ·rw[ao c,ao (fun q=>q.elim (fun q=>c (A.1 q).1) (fun q=>c (f.1 q).1))];by_cases d:b∈s.wk/\i=0
  ·rw[aq d,aq (B.2 d)]
  ·rw[ao d,ao (fun q=>d (B.1 q))]
theorem Bu (li:LI k z s H D)(w:dJ k z s H){a b:Int}(o:k.or z s a b):k.ld (k.be (k.mw s s.wk) (k.mw s s.wk).ep) b=k.l0 z a/\(k.be (k.mw s s.wk) (k.mw s s.wk).ep).rs=s.rs:=by
 have ci:=li.mi.ci;have cV:=li.mi.cV;have full:=li.mi.full;have u:=li.mi.mem o;have v:=li.mi.hd a b o;have x:∀c∈s.wk,cO k.N k.y s.g (c+1)=true:=fun c hc=>by
  obtain⟨q1,i⟩:=w.wk c hc;have q3:=li.mi.bd q1;have:=fV q3.2.2 (an (ap i))
  exact eK I I
 have A:∀c∈s.ep,cO k.N k.y s.g (c+1)=true/\cO k.N k.y s.g (c+2)=true:=fun c hc=>by
  obtain⟨q1,i⟩:=w.ep c hc;have q3:=li.mi.bd q1;have:=fV q3.2.2 (an (an i))
  exact⟨eK I I,eK I I⟩
 obtain⟨m1,f,j,l,m,n⟩:=qB (s:=s) ci.len ci.hy ci.hg (u6 ci cV) s.wk s rfl rfl rfl x;have l:(k.mw s s.wk).ep=s.ep:=l;have f:(k.mw s s.wk).g=s.g:=f;have j:(k.mw s s.wk).ws.length=s.ws.length:=j;have m:(k.mw s s.wk).rs=s.rs:=m;obtain⟨b1,_,b3⟩:=qC ci.hy s.ep (k.mw s s.wk) (by rw[j];exact ci.len) (by rw[f];exact ci.hg) (by rw[f];exact A)
 have b1:(k.be (k.mw s s.wk) s.ep).rs=(k.mw s s.wk).rs:=b1;have b3:∀p,k.ld (k.be (k.mw s s.wk) s.ep) p=if p-1∈s.ep\/p-2∈s.ep then 3 else k.ld (k.mw s s.wk) p:=b3
 have n:∀p,k.ld (k.mw s s.wk) p=if p-1∈s.wk then k.ch s (k.ld s p) else k.ld s p:=n
 have no:∀c,c∈z.G++H->pf (k.ld s c)=2->∀g:Int,(g=1\/g=2)->b-g≠c:=fun c hc B g hd e=>by have t:=full.dN.apart c hc b u I;have t:c+(1+pf (k.ld s c))<=b:=t;omega
 rw[l,b3,n];refine⟨?_,b1.trans m⟩
 rw[ao,ao,v]
 ·intro q;obtain⟨r1,d⟩:=w.wk _ q;exact no _ r1 (fV (li.mi.bd r1).2.2 (an (ap d))) 1 (ap rfl) rfl
 ·rintro(q|q)
  ·obtain⟨r1,d⟩:=w.ep _ q;exact no _ r1 (fV (li.mi.bd r1).2.2 (an (an d))) 1 (ap rfl) rfl
  ·obtain⟨r1,d⟩:=w.ep _ q;exact no _ r1 (fV (li.mi.bd r1).2.2 (an (an d))) 2 (an rfl) rfl
end
theorem oA {L:List Bool}{i:Nat}{t:cE}(b:L.getD i false=true)(a:t.1=3\/t.1=4->t.2.1.length=2):(e3 L i t).2.1.length=t.2.1.length/\(e3 L i t).1=t.1/\(e3 L i t).2.2=(true,t.2.2.2):=by
 unfold e3;rw[aq b];refine⟨?_,rfl,rfl⟩
 dsimp only;split
 ·rename_i c;rw[a (an c.1)];rfl
 ·split
  ·rename_i c;rw[a (ap c.1)];rfl
  ·rfl
theorem u9 {L:List Bool}{i:Nat}{t:cE}(a:L.getD i false=false):e3 L i t=(t.1,[],t.2.2.1,true):=by unfold e3;rw[a,ao V]
theorem kj {L:List Bool}{i:Nat}{t:cE}(d:L.getD i false=true)(c:t.1=3\/t.1=4->t.2.1.length=2){k:Nat}(hk:k<t.2.1.length):
 (e3 L i t).2.1.getD k (0,0)=if((t.1=3\/t.1=4)/\dl L (t.2.1.getD 0 (0,0))=false)/\(k=0\/(t.1=4/\k=1)) then(2,0) else t.2.1.getD k (0,0):=by
 unfold e3;rw[aq d];dsimp only;by_cases a:t.1=4/\dl L (t.2.1.getD 0 (0,0))=false
 ·rw[aq a,aq ⟨⟨an a.1,a.2⟩,by
   have:=c (an a.1);have:k=0\/k=1:=I
   exact this.imp id (fun e=>⟨a.1,e⟩)⟩]
  have:=c (an a.1)
  rcases(show k=0\/k=1 by omega) with e|e<;>subst e<;>rfl
 ·rw[ao a];by_cases b:t.1=3/\dl L (t.2.1.getD 0 (0,0))=false
  ·rw[aq b];have:=c (ap b.1)
   rcases(show k=0\/k=1 by omega) with e|e
   ·subst e;rw[aq ⟨⟨ap b.1,b.2⟩,ap rfl⟩];rfl
   ·subst e;rw[ao (fun q=>by
     rcases q.2 with f|f
     ·omega
     ·have:=b.1;omega)]
    rfl
  ·rw[ao b,ao (fun q=>q.1.1.elim (fun e=>b ⟨e,q.1.2⟩) (fun e=>a ⟨e,q.1.2⟩))]
structure oC (a:Wc)(S:bZ)(W:b_)(m:Nat->Int)(B L:List Bool)(C:List bN)(S':bZ)(m':Nat->Int)(G':List Int):Prop where
 kv:d3 a S'.s [] G'
 ok:fp W.T L
 cl:eF W.T W.wt (b8 L)
 up:∀i,b8 B i->b8 L i
 rr:∀v∈W.rs,v.1=3->b8 L v.2.toNat
 cc:∀e∈C,e∈W.rg/\b8 L e.2.toNat
 rs:S'.s.rs=W.rs.map (wv m')
 pl:∀i,b8 L i->m' i∈G'
 inj:∀i j,b8 L i->b8 L j->m' i=m' j->i=j
 e8:∀v∈G',∃i,b8 L i/\m' i=v
 hd:∀i,b8 L i->ld a.N S'.s.y S'.s.g S'.s.ws (m' i)=ld a.N S.s.y S.s.g S.s.ws (m i)
 fd:∀i,b8 L i->∀k:Nat,k<(W.T.getD i t0).2.1.length->ld a.N S'.s.y S'.s.g S'.s.ws (m' i+1+k)=wv m' ((e3 L i (W.T.getD i t0)).2.1.getD k (0,0))
 rg:S'.r=(W.rg.filter (fun e=>cn B e.2&&cn L e.1)).map (we m')
 wt:S'.q=((W.wt++C).filter (fun e=>cn L e.1)).map (we m')
section
variable {a:Wc}{S S':bZ}{W:b_}{m m':Nat->Int}{Y G G':List Int}{B L:List Bool}{C:List bN}
theorem u_ {L:List Bool}{v:Int×Int}(a:v.1=3):dl L v=L.getD v.2.toNat false:=by unfold dl;rw[a];rfl
theorem Bv {L:List Bool}{v:Int×Int}(a:v.1≠3):dl L v=true:=by
 unfold dl;have:(v.1==3)=false:=by simpa using a
 rw[this];rfl
theorem cj.led (h:cj a S W m Y G)(ok:fp W.T L)(cl:eF W.T W.wt (b8 L)){i:Nat}(hi:b8 L i){k:Nat}(hk:k<(W.T.getD i t0).2.1.length)(b:((e3 L i (W.T.getD i t0)).2.1.getD k (0,0)).1=3):b8 L ((e3 L i (W.T.getD i t0)).2.1.getD k (0,0)).2.toNat:=by
 have al:=ok.al i hi;have g:(W.T.getD i t0).1=3\/(W.T.getD i t0).1=4->(W.T.getD i t0).2.1.length=2:=fun c=>h.two al (an c)
 rw[kj hi g hk] at b⊢;split at b
 ·exact absurd b Z
 ·rename_i c;rw[ao c];have n:(W.T.getD i t0).2.1.getD k (0,0)∈(W.T.getD i t0).2.1:=getD_in hk;have o:=lY _ _ (h.hd i al).1;by_cases k12:(W.T.getD i t0).1=1\/(W.T.getD i t0).1=2
  ·exact cl i al.1 hi _ (ap ⟨k12,n⟩) b
  by_cases j:(W.T.getD i t0).1=3
  ·have l2:=g (ap j)
   rcases(show k=0\/k=1 by omega) with e|e
   ·subst e;have:dl L ((W.T.getD i t0).2.1.getD 0 (0,0))=true:=by
     cases d:dl L ((W.T.getD i t0).2.1.getD 0 (0,0))
     ·exact absurd ⟨⟨ap j,d⟩,ap rfl⟩ c
     ·rfl
    exact ly this b
   ·subst e;exact cl i al.1 hi _ (an (ap ⟨j,rfl⟩)) b
  by_cases f:(W.T.getD i t0).1=4
  ·have l2:=g (an f)
   have l:dl L ((W.T.getD i t0).2.1.getD 0 (0,0))=true:=by
    cases d:dl L ((W.T.getD i t0).2.1.getD 0 (0,0))
    ·exact absurd ⟨⟨an f,d⟩,by
      rcases(show k=0\/k=1 by omega) with e|e
      ·exact ap e
      ·exact an ⟨f,e⟩⟩ c
    ·rfl
   rcases(show k=0\/k=1 by omega) with e|e
   ·subst e;exact ly l b
   ·subst e;exact cl i al.1 hi _ (an (an (ap ⟨f,ly l,rfl⟩))) b
  ·omega
theorem oC.done (h:cj a S W m Y G)(c:oC a S W m B L C S' m' G'):cj a S' ⟨dz L W.T W.T.length,W.rs,W.rg.filter (fun e=>cn B e.2&&cn L e.1),(W.wt++C).filter (fun e=>cn L e.1)⟩ m' [] G':=by
 have o:∀j,j<W.T.length->(dz L W.T W.T.length).getD j t0=e3 L j (W.T.getD j t0):=fun j s=>by rw[o_ L W.T W.T.length j bJ s,aq s]
 have f:∀i,b8 L i->((W.T.getD i t0).1=3\/(W.T.getD i t0).1=4->(W.T.getD i t0).2.1.length=2):=fun i hi q=>h.two (c.ok.al i hi) (an q)
 have al:∀j,cv (dz L W.T W.T.length) j↔b8 L j:=fun j=>by
  unfold cv;rw[iH];constructor
  ·rintro⟨t,f⟩
   rw[o j t] at f;unfold b8;cases d:L.getD j false
   ·rw[u9 d] at f;cases f
   ·rfl
  ·intro b;have ha:=c.ok.al j b;refine⟨ha.1,?_⟩
   rw[o j ha.1,(oA b (f j b)).2.2];exact ha.2
 have p:∀j,b8 L j->((dz L W.T W.T.length).getD j t0).2.1.length=(W.T.getD j t0).2.1.length/\((dz L W.T W.T.length).getD j t0).1=(W.T.getD j t0).1/\((dz L W.T W.T.length).getD j t0).2.2.1=true:=fun j b=>by
  have ha:=c.ok.al j b;obtain⟨q1,l,q3⟩:=oA b (f j b)
  rw[o j ha.1,q3];exact⟨q1,l,rfl⟩
 have x:∀v,d4 W.T v->(v.1=3->b8 L v.2.toNat)->d4 (dz L W.T W.T.length) v:=fun v g b=>⟨fun e=>⟨(g.t e).1,(al _).2 (b e)⟩,g.o⟩
 have w:∀e,gI W.T e->b8 L e.1.toNat->b8 L e.2.toNat->gI (dz L W.T W.T.length) e:=fun e he t f=>⟨he.g0,(al _).2 t,by rw[(p _ t).2.1];exact he.k,he.h0,(al _).2 f⟩
 exact
 {
  kv:=c.kv,rl:=h.rl,rv:=fun v g=>x v (h.rv v g) (c.rr v g)
  fv:=fun i hi v g=>by
   have b:=(al i).1 hi;have ha:=c.ok.al i b;have g:v∈((dz L W.T W.T.length).getD i t0).2.1:=g;rw[o i ha.1] at g;obtain⟨k,hk,e⟩:=List.mem_iff_getElem.1 g;have ev:(e3 L i (W.T.getD i t0)).2.1.getD k (0,0)=v:=by rw[aj,am hk,e];rfl
   rw[(oA b (f i b)).1] at hk;refine⟨fun n=>?_,fun n=>?_⟩
   ·have hl:=h.led c.ok c.cl b hk (by rw[ev];exact n)
    rw[ev] at hl;refine⟨?_,(al _).2 hl⟩
    rw[kj b (f i b) hk] at ev;split at ev
    ·rw[<-ev] at n;exact absurd n Z
    ·rw[<-ev] at n⊢;exact((h.fv i ha _ (getD_in hk)).t n).1
   ·rw[kj b (f i b) hk] at ev;split at ev
    ·rw[<-ev];decide
    ·rw[<-ev] at n⊢;exact(h.fv i ha _ (getD_in hk)).o n
  rs:=c.rs
  gp:=fun i hi e=>by have e:((dz L W.T W.T.length).getD i t0).2.2.1=false:=e;rw[(p i ((al i).1 hi)).2.2] at e;cases e
  old:=fun i hi _=>c.pl i ((al i).1 hi)
  inj:=fun i j hi s e=>c.inj i j ((al i).1 hi) ((al j).1 s) e
  e8:=fun v g=>by
   rcases g with d|d
   ·cases d
   ·obtain⟨i,hi,e⟩:=c.e8 v d;exact⟨i,(al i).2 hi,e⟩
  hd:=fun i hi=>by have b:=(al i).1 hi;show hc ((dz L W.T W.T.length).getD i t0).1 ((dz L W.T W.T.length).getD i t0).2.1.length=0/\ld a.N S'.s.y S'.s.g S'.s.ws (m' i)=hw ((dz L W.T W.T.length).getD i t0).1 ((dz L W.T W.T.length).getD i t0).2.1.length;rw[(p i b).1,(p i b).2.1,c.hd i b];exact h.hd i (c.ok.al i b)
  fd:=fun i hi k hk=>by
   have b:=(al i).1 hi;have hk:k<((dz L W.T W.T.length).getD i t0).2.1.length:=hk;rw[(p i b).1] at hk;show ld a.N S'.s.y S'.s.g S'.s.ws (m' i+1+k)=wv m' (((dz L W.T W.T.length).getD i t0).2.1.getD k (0,0))
   rw[o i (c.ok.al i b).1];exact c.fd i b k hk
  rg:=c.rg
  gv:=fun e he=>by obtain⟨q1,l⟩:=List.mem_filter.1 he;rw[aQ] at l;exact w e (h.gv e q1) l.2 (c.up _ l.1)
  wt:=c.wt
  de:=fun e he=>by
   obtain⟨q1,l⟩:=List.mem_filter.1 he;rcases List.mem_append.1 q1 with d|d
   ·have u:=h.de e d;exact w e u l (c.cl _ u.g.1 l (3,e.2) (an (an (an ⟨u.k,e,d,by have:=u.g0;omega,rfl⟩))) rfl)
   ·obtain⟨A,D⟩:=c.cc e d;exact w e (h.gv e A) l D
  tl:=fun i=>by
   show((dz L W.T W.T.length).getD i t0).2.1.length<=12;by_cases hi:i<W.T.length
   ·rw[o i hi];cases d:L.getD i false
    ·rw[u9 d];simp
    ·rw[(oA d (f i d)).1];exact h.tl i
   ·rw[aj,List.getElem?_eq_none (by rw[iH];omega)];simp[t0]}
end
section
variable {a:Wc}{S:bZ}
end
section
variable {a:Wc}{S:bZ}{W:b_}{m:Nat->Int}{Y G:List Int}
theorem Bw (h:d3 a S.s Y G)(b:cG a S.s)(j:S.e5 a=false):(S.cW a).r=((S.r.filter (fun e=>(S.s.j0 a).al (S.j2 a).1 e.2)).filter (fun e=>(S.s.j0 a).al (S.b7 a) e.1)).map (fun e=>((S.s.j0 a).nw (S.b9 a) e.1,(S.s.j0 a).nw (S.b9 a) e.2)):=by
 have f:cu (S.s.j0 a) dw:=cu.start b.n1 b.o1 b.y1 b.g1;obtain⟨l,w,A⟩:=mO (S:=S) f;obtain⟨_,l2,n⟩:=h4 h.inv.full b;obtain⟨_,g,B⟩:=mX h b j;obtain⟨_,d,t3,_⟩:=oc (s:=S.b9 a) (k:=S.s.j0 a) ⟨b.l1,b.y1,b.g1⟩ b.r1 f.nd (mV h.inv.full b) (om h.inv.full b)
 have d:(S.k5 a).Y=(S.s.j0 a).Y:=d;have t3:(S.k5 a).G=(S.s.j0 a).G:=t3;have o:(S.k5 a).T=(S.s.j0 a).T:=by unfold bL.T;rw[d,t3]
 have i:∀x,(S.k5 a).al (S.b9 a) x=(S.s.j0 a).al (S.b7 a) x:=fun x=>by
  have q0:(S.k5 a).co (S.b9 a) x=(S.s.j0 a).co (S.b9 a) x:=by unfold bL.co bL.jt;rw[o]
  unfold bL.al;rw[q0];cases hj:(S.s.j0 a).jt x
  ·unfold bL.co;rw[hj];rfl
  ·have m:=mN hj;rw[n] at m;have q:=g.iff _ m;unfold bL.co;rw[hj,Bool.true_and,Bool.true_and];by_cases c:(S.b7 a).f (bQ x)=-1
   ·rw[c,q.2 c]
   ·rw[a6 c,a6 (fun p=>c (q.1 p))]
 have r3:S.r3 a=(S.r.filter (fun e=>(S.s.j0 a).al (S.j2 a).1 e.2)).filter (fun e=>(S.s.j0 a).al (S.b7 a) e.1):=by
  show(((S.r.filter (fun e=>(S.s.j0 a).al (S.j2 a).1 e.2)).filter (fun e=>(S.s.j0 a).al (S.b7 a) e.1)).map fun e=>((S.s.j0 a).nw (S.b7 a) e.1,(S.s.j0 a).nw (S.b7 a) e.2))=_;have:(fun e:bN=>((S.s.j0 a).nw (S.b7 a) e.1,(S.s.j0 a).nw (S.b7 a) e.2))=id:=by
   funext e
   rw[l.iQ.nw,l.iQ.nw];rfl
  rw[this,List.map_id]
 have t:(S.k5 a).tS (S.b9 a,S.q3 a) (S.r3 a)=(S.b9 a,S.q3 a):=qk (fun e he=>by show(S.k5 a).al (S.b9 a) e.2=true;rw[i];exact ot (S:=S) f e he)
 unfold bZ.cW;rw[j,ao V];show el (dE bX) (fun s x=>(S.k5 a).al s.1 x) (S.k5 a).bW (fun s x=>(S.k5 a).nw s.1 x) (S.b9 a,S.q3 a) (S.r3 a)=_;unfold el;have e:eH (dE bX) (fun s x=>(S.k5 a).al s.1 x) (S.k5 a).bW (S.b9 a,S.q3 a) (S.r3 a)=(S.b9 a,S.q3 a):=t;rw[e];show(((S.r3 a).filter (fun e=>(S.k5 a).al (S.b9 a) e.2)).filter (fun e=>(S.k5 a).al (S.b9 a) e.1)).map (fun e=>((S.k5 a).nw (S.b9 a) e.1,(S.k5 a).nw (S.b9 a) e.2))=_;have u:(S.r3 a).filter (fun e=>(S.k5 a).al (S.b9 a) e.2)=S.r3 a:=List.filter_eq_self.2 (fun e he=>by rw[i];exact ot (S:=S) f e he)
 have v:(S.r3 a).filter (fun e=>(S.k5 a).al (S.b9 a) e.1)=S.r3 a:=List.filter_eq_self.2 (fun e he=>by rw[i];rw[r3] at he;exact(List.mem_filter.1 he).2)
 rw[u,v,r3];refine List.map_congr_left (fun e _=>?_)
 rw[bL.jy (k:=S.k5 a) (k0:=S.s.j0 a) _ _ d t3,bL.jy (k:=S.k5 a) (k0:=S.s.j0 a) _ _ d t3]
theorem cj.n4 (d:cj a S W m Y G)(b:cG a S.s){g:List Bool->List Bool}(hg:e_ W.T W.wt g):S.n4 a=f2 W.T (W.cR g true).1 W.T.length:=by
 have n:cu (S.s.j0 a) dw:=cu.start b.n1 b.o1 b.y1 b.g1;have hs:=Rg.settled d b hg;obtain⟨o,_⟩:=lQ (S.s.j0 a) (fun c=>!((S.b7 a).f c==-1)) (S.s.j0 a).T (S.b7 a,(a.N:Int)) n.nd (fun _ _=>rfl)
 have k:=o.sum (fun c=>(cU _).1)
 have k:(eD (hv (ld a.N S.s.y S.s.g S.s.ws)) ((S.s.j0 a).T.filter (fun c=>!((S.b7 a).f c==-1))):Int)=S.n4 a:=k;rw[qq,<-k,qp (m:=m) (f:=hv (ld a.N S.s.y S.s.g S.s.ws)) (l:=(S.s.j0 a).T.filter (fun c=>!((S.b7 a).f c==-1))) (fun i _ hp=>d.size (hs.ok.al i hp)) (n.nd.filter _) (fun i j _ _ hp hq e=>d.inj i j (hs.ok.al i hp) (hs.ok.al j hq) e) (fun v=>?_)];rw[List.mem_filter];constructor
 ·rintro⟨p,q⟩
  obtain⟨i,hi,rfl⟩:=d.qw b p;exact⟨i,hi.1,(hs.fg i hi).1 (by simpa using q),rfl⟩
 ·rintro⟨i,_,hp,rfl⟩
  have hi:=hs.ok.al i hp;exact⟨d.memT b hi,by simpa using(hs.fg i hi).2 hp⟩
theorem cj.vd (b:cj a S W m Y G)(c:cG a S.s){g:List Bool->List Bool}(hg:e_ W.T W.wt g):S.e5 a=W.cF g a.O true:=by unfold bZ.e5 b_.cF;rw[b.n4 c hg];simp
theorem cj.gG (b:cj a S W m Y G)(c:cG a S.s){g:List Bool->List Bool}(hg:e_ W.T W.wt g):S.gG a=W.g9 g a.O true:=by unfold bZ.gG b_.g9;rw[b.vd c hg]
theorem cj.m0 (b:cj a S W m Y G)(d:cG a S.s){j:bX}{v:Int×Int}(e:d4 W.T v)(f:v.1=3->j.f (m v.2.toNat)≠-1):(S.s.j0 a).nw j (wv m v)=wv (fun i=>j.f (m i)) v:=by
 unfold bL.nw;rw[b.jt d e];by_cases c:v.1=3
 ·rw[(b.vt d e c).2,c,aq (by simp[f c]),fW c]
 ·rw[ao (by simp[c]),iz c,iz c]
theorem qD {b:Type}(c:b){l a:List b}(h:l.length=a.length)(he:∀i,i<l.length->l.getD i c=a.getD i c):l=a:=by
 refine List.ext_getElem h (fun i d e=>?_)
 have:=he i d;rwa [aj,am d,aj,am e] at this
theorem qE {m:Nat->Int}:wv m (2,0)=3:=by rw[iz Z];decide
theorem cj.Bx (b:cj a S W m Y G)(d:cG a S.s){g:List Bool->List Bool}(hg:e_ W.T W.wt g)(H:S.e5 a=false):
 oC a S W m (W.c0 g true) (W.cR g true).1 (W.cR g true).2.1 (S.cW a) (fun i=>(S.b9 a).f (m i)) ((S.b9 a).lf (G++Y)):=by
 have ad:cu (S.s.j0 a) dw:=cu.start d.n1 d.o1 d.y1 d.g1;have hs:=Rg.settled b d hg;have h0:=Rg.start b d hg;obtain⟨_,J,_⟩:=mX b.kv d H;obtain⟨s1,s2,aV⟩:=mO (S:=S) ad;have M:=b.T d;have t:∀{i:Nat},cv W.T i->m i∈G++Y:=fun hi=>by rw[<-M];exact b.memT d hi
 have K:∀i,cv W.T i->((S.b9 a).f (m i)≠-1↔b8 (W.cR g true).1 i):=fun i hi=>by rw[<-hs.fg i hi];exact not_congr (J.iff _ (t hi))
 have o:∀i,b8 (W.cR g true).1 i->(S.b9 a).f (m i)≠-1:=fun i f=>(K i (hs.ok.al i f)).2 f;have D:eF W.T W.wt (b8 (W.cR g true).1):=by
  have hc:=b.marked d hs.cL (fun x ai=>by rw[hs.q];exact List.mem_map_of_mem (aL _ ai))
  intro i hi al v A p;have N:∀j,b8 (W.cR g true).1 j->cv W.T j/\(S.b7 a).f (m j)≠-1:=fun j s=>⟨hs.ok.al j s,(hs.fg j (hs.ok.al j s)).2 s⟩
  obtain⟨q1,l⟩:=hc i hi (N i al) v (A.mono N) p;exact(hs.fg _ q1).1 l
 have O:∀i,b8 (W.c0 g true) i->b8 (W.cR g true).1 i:=fun i hi=>by have ha:=h0.ok.al i hi;have P:=(h0.fg i ha).2 hi;refine(hs.fg i ha).1 ?_;show(S.b7 a).f (m i)≠-1;rw[s2.f _ P];exact P
 have u:∀i,b8 (W.cR g true).1 i->((W.T.getD i t0).1=3\/(W.T.getD i t0).1=4->(W.T.getD i t0).2.1.length=2):=fun i hi q=>b.two (hs.ok.al i hi) (an q)
 have Q:∀e,gI W.T e->b8 (W.cR g true).1 e.1.toNat->b8 (W.cR g true).1 e.2.toNat->((S.s.j0 a).nw (S.b9 a) (we m e).1,(S.s.j0 a).nw (S.b9 a) (we m e).2)=we (fun i=>(S.b9 a).f (m i)) e:=fun e he ar u=>by
  have q1:=b.m0 d (j:=S.b9 a) (v:=(3,e.1)) ⟨fun _=>⟨he.g0,he.g⟩,fun c=>absurd rfl c⟩ (fun _=>o _ ar)
  have l:=b.m0 d (j:=S.b9 a) (v:=(3,e.2)) ⟨fun _=>⟨he.h0,he.h⟩,fun c=>absurd rfl c⟩ (fun _=>o _ u)
  rw[fW rfl,fW rfl] at q1 l;unfold we;exact Prod.ext q1 l
 have gc:=J.gc;have R:(S.cW a).s.y=0:=gc.y;refine
 {
  kv:=(gc.inv b.kv d J.al).1,ok:=hs.ok,cl:=D,up:=O,rr:=hs.r,cc:=hs.c
  rs:=?_,pl:=fun i f=>?_,inj:=fun i j hi s e=>?_,e8:=fun v A=>?_,hd:=fun i f=>?_,fd:=fun i f k hk=>?_,rg:=?_,wt:=?_}
 ·refine qD 0 (by rw[aE,b.rl];exact gc.rl) (fun i hi=>?_)
  have hi:i<12:=by rw[gc.rl] at hi;exact hi
  obtain⟨er,A⟩:=b.root hi;rw[gc.rs i hi,er,iX (wv (fun i=>(S.b9 a).f (m i))) W.rs i (0,0) 0 (by rw[b.rl];exact hi)];exact b.m0 d A (fun p=>o _ (hs.r _ (getD_in (by rw[b.rl];exact hi)) p))
 ·exact List.mem_map.2 ⟨m i,List.mem_filter.2 ⟨t (hs.ok.al i f),by simpa using o i f⟩,rfl⟩
 ·have:=gc.pos.inj (fun c=>(cU _).1) (m i) (t (hs.ok.al i hi)) (m j) (t (hs.ok.al j s)) (by simpa using o i hi) (by simpa using o j s) e;exact b.inj i j (hs.ok.al i hi) (hs.ok.al j s) this
 ·obtain⟨c,hc,rfl⟩:=List.mem_map.1 A;obtain⟨q1,l⟩:=List.mem_filter.1 hc;rw[<-M] at q1;obtain⟨i,hi,rfl⟩:=b.qw d q1;exact⟨i,(K i hi).1 (by simpa using l),rfl⟩
 ·rw[R];exact gc.hd _ (t (hs.ok.al i f)) (o i f)
 ·have ha:=hs.ok.al i f;obtain⟨ax,aF,_⟩:=b.parts ha;rw[R,gc.fd _ (t ha) (o i f) k (Int.natCast_nonneg k) (by rw[aF];omega),kj f (u i f) hk];unfold bL.fO;have aR:pk ((S.s.j0 a).ld (m i))=(W.T.getD i t0).1:=ax;rw[aR];have U:(S.s.j0 a).ld (m i+1+k)=wv m ((W.T.getD i t0).2.1.getD k (0,0)):=b.fd i ha k hk;have key:(W.T.getD i t0).1=3\/(W.T.getD i t0).1=4->((S.s.j0 a).co (S.b9 a) ((S.s.j0 a).ld (m i+1))=true↔dl (W.cR g true).1 ((W.T.getD i t0).2.1.getD 0 (0,0))=false):=fun q=>by
   have l2:=u i f q;have aT:(S.s.j0 a).ld (m i+1)=wv m ((W.T.getD i t0).2.1.getD 0 (0,0)):=by
    have:=b.fd i ha 0 I;show ld a.N S.s.y S.s.g S.s.ws (m i+1)=_;rw[<-this]
    congr 1
    omega
   have L:=b.fv i ha _ (getD_in (x:=((0,0):Int×Int)) (show 0<(W.T.getD i t0).2.1.length by omega))
   rw[aT];by_cases B:((W.T.getD i t0).2.1.getD 0 (0,0)).1=3
   ·have q1:=b.lV d (S.b9 a) L B;have l:=K _ (L.t B).2;rw[u_ B];constructor
    ·intro n;cases e:(W.cR g true).1.getD ((W.T.getD i t0).2.1.getD 0 (0,0)).2.toNat false
     ·rfl
     ·rw[q1.2 (l.2 e)] at n;cases n
    ·intro n;cases e:(S.s.j0 a).co (S.b9 a) (wv m ((W.T.getD i t0).2.1.getD 0 (0,0)))
     ·have:=l.1 (q1.1 e)
      unfold b8 at this
      rw[n] at this
      cases this
     ·rfl
   ·rw[Bv B];have:(S.s.j0 a).co (S.b9 a) (wv m ((W.T.getD i t0).2.1.getD 0 (0,0)))=false:=by
     unfold bL.co;rw[b.jt d L];have:(((W.T.getD i t0).2.1.getD 0 (0,0)).1==3)=false:=by simpa using B
     rw[this];rfl
    rw[this];simp
  by_cases cb:((W.T.getD i t0).1=3\/(W.T.getD i t0).1=4)/\dl (W.cR g true).1 ((W.T.getD i t0).2.1.getD 0 (0,0))=false
  ·by_cases C:k=0\/((W.T.getD i t0).1=4/\k=1)
   ·rw[aq ⟨⟨cb.1,(key cb.1).2 cb.2⟩,C.imp (fun e=>by omega) (fun e=>⟨e.1,I⟩)⟩,aq ⟨cb,C⟩,qE];unfold bL.nw bL.jt;rw[show cI 3=false by decide,Bool.false_and,Bool.false_and,ao V]
   ·rw[ao (fun q=>C (q.2.imp (fun e=>by omega) (fun e=>⟨e.1,I⟩))),ao (fun q=>C q.2),U];refine b.m0 d (b.fv i ha _ (getD_in hk)) (fun p=>o _ ?_)
    have hl:=b.led hs.ok D f hk;rw[kj f (u i f) hk,ao (fun q=>C q.2)] at hl;exact hl p
  ·rw[ao (fun q=>cb ⟨q.1.1,(key q.1.1).1 q.1.2⟩),ao (fun q=>cb q.1),U];refine b.m0 d (b.fv i ha _ (getD_in hk)) (fun p=>o _ ?_)
   have hl:=b.led hs.ok D f hk;rw[kj f (u i f) hk,ao (fun q=>cb q.1)] at hl;exact hl p
 ·rw[Bw b.kv d H,b.rg,List.filter_filter];rw[jJ (we m) _ (fun e=>cn (W.c0 g true) e.2&&cn (W.cR g true).1 e.1) W.rg (fun e he=>by have q1:=Rg.is b d h0 (b.gv e he).h;have l:=Rg.is b d hs (b.gv e he).g;have q1:(S.s.j0 a).al (S.j2 a).1 (we m e).2=cn (W.c0 g true) e.2:=q1;have l:(S.s.j0 a).al (S.b7 a) (we m e).1=cn (W.cR g true).1 e.1:=l;rw[q1,l,Bool.and_comm]),List.map_map];refine List.map_congr_left (fun e he=>?_)
  obtain⟨E,w⟩:=List.mem_filter.1 he;rw[aQ] at w;exact Q e (b.gv e E) w.2 (O _ w.1)
 ·rw[Bg b.kv d H];have eq:((S.s.j0 a).d_ (S.j2 a) S.r).2=(W.wt++(W.cR g true).2.1).map (we m):=hs.q;have X:∀e∈W.wt++(W.cR g true).2.1,gI W.T e:=fun e he=>by
   rcases List.mem_append.1 he with n|n
   ·exact b.de e n
   ·exact b.gv e (hs.c e n).1
  rw[eq,jJ (we m) _ (fun e=>cn (W.cR g true).1 e.1) _ (fun e he=>Rg.is b d hs (X e he).g),List.map_map];refine List.map_congr_left (fun e he=>?_)
  obtain⟨E,w⟩:=List.mem_filter.1 he;have F:=X e E;refine Q e F w ?_;rcases List.mem_append.1 E with n|n
  ·exact D _ F.g.1 w (3,e.2) (an (an (an ⟨F.k,e,n,by have:=F.g0;omega,rfl⟩))) rfl
  ·exact(hs.c e n).2
theorem cj.cW (b:cj a S W m Y G)(c:cG a S.s){g:List Bool->List Bool}(hg:e_ W.T W.wt g):∃d e f,cj a (S.cW a) (W.cut g a.O true) d e f:=by
 unfold b_.cut;rw[<-b.vd c hg];cases hf:S.e5 a
 ·rw[ao V];exact⟨_,_,_,(b.Bx c hg hf).done b⟩
 ·rw[aq rfl];refine⟨m,Y,G,?_⟩
  unfold bZ.cW;rw[hf,aq rfl];exact b
end
end Go.Proofs.YtjpjpjemibgjpaaGreat
