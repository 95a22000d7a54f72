import Derived.Test.YtpkjkjhanlbcoaaGreatJ23
namespace Go.Proofs.YtpkjkjhanlbcoaaGreat
set_option maxRecDepth 100000
set_option maxHeartbeats 2000000
open Go.RowKit W Kp cf
theorem Bb {P:Prop}(h:P:=by
 refine List.map_congr_left (fun e he=>?_)
 obtain⟨z1,z2⟩:=List.mem_filter.1 he;have h5:=hE e z1;refine vi e h5 z2 ?_;rcases List.mem_append.1 z1 with d|d
 ·exact hcl _ h5.g.1 z2 (3,e.2) (aJ (aJ (aJ ⟨h5.k,e,d,by have:=h5.g0;omega,rfl⟩))) rfl
 ·exact(hs.c e d).2):P:=h
theorem Bd {P:Prop}(h:P:=by
 obtain⟨q1,q2⟩:=w.ep c hc;have q3:=li.mi.bd q1;have:=ih q3.2.2 (aJ (aJ q2))
 exact⟨hY V V,hY V V⟩):P:=h
theorem Be {P:Prop}(h:P:=by
 refine List.map_congr_left (fun e he=>?_)
 obtain⟨z1,z2⟩:=List.mem_filter.1 he;rw[a_] at z2;exact vi e (hR.gv e z1) z2.2 (hup _ z2.1)):P:=h
theorem Bf {P:Prop}(h:P:=by
 obtain⟨q1,q2⟩:=w.wk c hc;have q3:=li.mi.bd q1;have:=ih q3.2.2 (aJ (aK q2))
 exact hY V V):P:=h
section
variable {a:Wc}{S:cq}{W:ck}{m:Nat->Int}{Y G D:List Int}
theorem cy.Kr (h:cy a S W m Y G)(hb:cI a S.s){i:Nat}(hi:cv W.T i)(b:m i∈G):(W.T.getD i t0).2.2.1=true:=by
 cases c:(W.T.getD i t0).2.2.1
 ·exact absurd b (h.jZ hb (h.ik _ hi c))
 ·rfl
theorem jo.start (b:cy a S W m Y G)(hb:cI a S.s)(hr:S.s.y<=a.O-S.s.g){g:List Bool->List Bool}(hg:dR W.T W.wt g):∃D,pP a S G D/\jo a S W m G D (S.t3 a) (W.c0 g false) []:=by
 have h:=b.kv;have M:=b.fV hb;have B:=LI.start h.inv.full hb.n0 hb.n1 hb.o1 hb.y1 hb.g1 hb.l1 hr;have N:12<=(S.s.s0 a).rs.length:=by show 12<=S.s.rs.length;rw[hb.r1];exact aD _
 obtain⟨H1,n,ar,⟨bn,aB⟩,l1,y1,_,m1⟩:=B.cJ 12 N;have O:dD a.N S.s.y (S.s.s1 a).g (S.s.s1 a).ws=G++H1:=(n.mi.full.lists hb.n1 hb.y1 hb.o1 n.mi.ci.hg).2;have aF:(S.s.s1 a).nx=((S.s.k0 a).N:Int)+(S.s.z0 G).g:=(lB (S.s.k0 a) (S.s.s0 a) 12).2.2;have Q:d4 ((S.s.k0 a).l0 (S.s.z0 G)) (((S.s.k0 a).N:Int)+(S.s.z0 G).g) (S.s.k0 a).N (S.s.z0 G).G:=h.inv.full.ec;have hlo:∀x∈G++H1,x∈(S.s.z0 G).G\/((S.s.k0 a).N:Int)+(S.s.z0 G).g<=x:=fun x aR=>(List.mem_append.1 aR).imp id (fun d=>n.mi.hlo x d)
 obtain⟨C,s,E,R,U,⟨bo,bp⟩,_,aV⟩:=LI.pt (dF a.O) S.s.M Q (G++H1) n ((dL.start a S.s G).cJ B.mi 12 n.mi ar ⟨_,aB⟩) hlo;have a0:(G++H1).foldl ((S.s.k0 a).gh (((S.s.k0 a).N:Int)+(S.s.z0 G).g) (dF a.O) S.s.M) ((S.s.k0 a).cJ (S.s.s0 a) 12)=S.s.s2 a:=by unfold d9.s2 ce.lm;rw[O,aF];rfl
 have hlen:=qO (S.s.k0 a) (((S.s.k0 a).N:Int)+(S.s.z0 G).g) (dF a.O) S.s.M (G++H1) ((S.s.k0 a).cJ (S.s.s0 a) 12)
 have u:=b.first false;have X:=hg _ u.len u.al;obtain⟨n1,ab⟩:=hg.ok b.iv u;have ad:=X.cl;have ho:∀i,cv W.T i->(W.T.getD i t0).2.2.1=true->_:=fun i hi q=>ab i ((kt _ _ _ _).2 ⟨hi.1,aK ⟨q,hi.2,rfl⟩⟩)
 have ag:_:=fun v hv f=>ab _ ((kt _ _ _ _).2 ⟨((b.rv v hv).t f).2.1,aJ ⟨v,hv,f,rfl⟩⟩)
 have ai:=b.A_ hb ad ho;have a1:c9 (S.s.k0 a) (hL W m (ct (W.c0 g false))) (S.s.s0 a):=fun _ _ F=>absurd rfl F;have a2:=c9.cJ B a1 (fun i hi hy=>by
  have hi:i<12:=by rw[<-hb.r1];exact hi
  obtain⟨er,hv⟩:=b.root hi;have er:(S.s.s0 a).rs.getD i 0=wv m (W.rs.getD i (0,0)):=er;rw[er] at hy⊢;obtain⟨f,ev⟩:=b.rL hb hv hy;rw[ev];exact⟨_,(hv.t f).2,rfl,ag _ (getD_in (by rw[b.rl];exact hi)) f⟩) 12 N
 have al:=c9.lm ai (dF a.O) S.s.M Q (G++H1) n hlo a2;rw[a0] at E R U hlen al;have br:(G++H1).length<=2000:=by rw[<-O];exact iL _ _
 obtain⟨q1,q2,q3⟩:=lB _ _ 12;have cb:ee (S.s.k0 a) (S.s.s2 a):=by exact t4
 have am:pP a S G s:=fun v hv bb i bd be=>by
  cases hc:(S.s.k0 a).cK _
  ·rfl
  ·exfalso;unfold ce.cK at hc;rw[a_,M] at hc;have hm:=h.cd v hv i bd be hc.1 (List.contains_iff_mem.1 hc.2)
   exact bb (aV v (aX _ hv) hv hm)
 have bg:S.q=(W.wt++[]).map (we m):=by rw[List.append_nil];exact b.wt
 have an:fi (S.s.k0 a) (S.s.s2 a) ((W.wt++[]).map (we m)) S.q:=by rw[<-bg];exact fi.refl _ _
 have H:=b.Ba hb ad ho (fun e he=>(by cases he)) E.mi an;have key:∀s2:cj,LI (S.s.k0 a) (S.s.z0 G) s2 C s->dL (S.s.k0 a) (S.s.z0 G) s2 C->ee (S.s.k0 a) s2->fi (S.s.k0 a) s2 ((W.wt++[]).map (we m)) S.q->c9 (S.s.k0 a) (hL W m (ct (W.c0 g false))) s2->kU (S.s.k0 a) (hL W m (ct (W.c0 g false))) S.q->
  kV (S.s.k0 a) (S.s.z0 G) s ((W.wt++[]).map (we m)) ((S.s.k0 a).sp (s2,S.q))/\dh (S.s.k0 a) s2 ((S.s.k0 a).sp (s2,S.q)).1/\c9 (S.s.k0 a) (hL W m (ct (W.c0 g false))) ((S.s.k0 a).sp (s2,S.q)).1:=fun s2 l w c e sn H=>by
  obtain⟨o,I⟩:=kV.sp (t:=(s2,S.q)) l w c e;exact⟨o,I,(c9.cW ai _ (s2,S.q) C l w H sn).1⟩
 obtain⟨o,I,J⟩:=key _ E R cb an al H;have o:=o;have J:c9 (S.s.k0 a) (hL W m (ct (W.c0 g false))) (S.t3 a).1:=J;refine⟨s,am,o,n1,fun i hi=>⟨fun F=>?_,fun bi=>?_⟩,fun e he=>(by cases he),ag,ho⟩
 ·rcases b.mem hi with w1|w1
  ·rcases(b.j6 hb _ hi).1 F with d|d
   ·exact absurd d (b.jZ hb w1)
   ·exact(b.mG hi).1 (J _ (by rw[M];exact w1) d)
  ·exact ho i hi (b.Kr hb hi w1)
 ·refine(X.lt _ (b.vg hb am o vh) (fun j ao=>?_) i bi).2;have A:=u.al j ao;refine⟨A,?_⟩
  obtain⟨_,K⟩:=(kt _ _ _ _).1 ao;rcases K with⟨K,_,_⟩|⟨v,hv,f,e⟩
  ·exact(b.j6 hb _ A).2 (aK (b.old j A K))
  ·obtain⟨k,hk,e6⟩:=List.mem_iff_getElem.1 hv;have L:k<12:=by rw[<-b.rl];exact hk
   obtain⟨er,bl⟩:=b.root L;have ev:W.rs.getD k (0,0)=v:=by rw[aE,aL hk,e6];rfl
   rw[ev] at er bl;have p:cv W.T v.2.toNat:=by rw[e];exact A
   refine pA (U.trans I) ?_;rw[<-e];rcases b.mem p with w1|w1
   ·have hm:=m1 k L;have er:(S.s.s0 a).rs.getD k 0=wv m v:=er;rw[er,il f] at hm;rcases hm with d|⟨_,ap,_⟩
    ·have:=y1 k L;rw[d,((b.oC hb p).2 w1)] at this
     cases this
    ·rw[(b.word hb p).2.2] at ap;exact(b.j6 hb _ p).2 (aJ ap)
   ·exact(b.j6 hb _ p).2 (aK w1)
theorem jo.settled (b:cy a S W m Y G)(hb:cI a S.s)(hc:pP a S G D){g:List Bool->List Bool}(hg:dR W.T W.wt g)(h0:jo a S W m G D (S.t3 a) (W.c0 g false) []):jo a S W m G D (S.s4 a,((S.s.k0 a).eW (S.t3 a) S.r).2) (W.cR g false).1 (W.cR g false).2.1:=by
 have c:S.r.filter (fun e=>!(S.s.k0 a).al (S.t3 a).1 e.2)=(W.rg.filter (fun e=>!cL (W.c0 g false) e.2)).map (we m):=by rw[b.rg];exact lH _ _ _ W.rg (fun e he=>by show(!(S.s.k0 a).al _ (ew 3 (m e.2.toNat)))=_;rw[h0.is (b.gv e he).h])
 obtain⟨d,_⟩:=(jo.vf b hb hc hg).turns _ (W.rg.filter (fun e=>!cL _ e.2)) (S.t3 a) _ [] (fun e he=>(List.mem_filter.1 he).1) h0;have f:eB (cm (dI cj) (fun s x=>(S.s.k0 a).al s.1 x) (S.s.k0 a).ke) ((S.r.filter (fun e=>!(S.s.k0 a).al (S.t3 a).1 e.2)).length+1) (S.t3 a) (S.r.filter (fun e=>!(S.s.k0 a).al (S.t3 a).1 e.2))=eB (cm (dI cj) (fun s x=>(S.s.k0 a).al s.1 x) (S.s.k0 a).ke) (W.rg.length+1) (S.t3 a) ((W.rg.filter (fun e=>!cL (W.c0 g false) e.2)).map (we m)):=by rw[c];have hl:=bm (fun e=>!cL (W.c0 g false) e.2) W.rg;exact rA _ _ _ _ _ V (by rw[aW];omega)
 have i:(S.s.k0 a).eW (S.t3 a) S.r=(eB (cm (dI cj) (fun s x=>(S.s.k0 a).al s.1 x) (S.s.k0 a).ke) (W.rg.length+1) (S.t3 a) ((W.rg.filter (fun e=>!cL (W.c0 g false) e.2)).map (we m))).1:=by rw[<-f];rfl
 have j:(S.s4 a,((S.s.k0 a).eW (S.t3 a) S.r).2)=(S.s.k0 a).eW (S.t3 a) S.r:=rfl;rw[j,i];exact d
end
section
variable {k:ce}{z:C0}{s t:cj}{H D:List Int}
def ce.cG (k:ce)(s:cj)(x:Int):Int:=if k.ls s x=true then 3 else k.nw s x
theorem Bg {s t:cj}(b:t.f=s.f)(x:Int):k.ls t x=k.ls s x/\k.nw t x=k.nw s x:=by unfold ce.ls ce.nw;rw[b];exact⟨rfl,rfl⟩
def Fo (k:ce)(s:cj):Prop:=∀a∈k.T,s.f a≠-1->(k.N:Int)<=s.f a/\s.f a<1000000
theorem dE.eR (h:dE k z s H):Fo k s:=fun a ha b=>by
 have hb:=h.i5 (h.fh a ha b)
 have n1:=h.ci.hN';have c:=h.ci.hO;have d:=h.ci.hg;exact⟨hb.1,V⟩
theorem oD {x:Int}(h:k.cK x=false):k.nw s x=x:=by unfold ce.nw;rw[h];simp
theorem rM {x:Int}(h:k.cK x=true)(b:s.f (cg x)≠-1):k.nw s x=ew 3 (s.f (cg x)):=by unfold ce.nw;rw[h,aI (by simp[b])]
theorem Ks (ci:CI k s)(eR:Fo k s){x:Int}(h:k.ls s x=false):k.cK (k.nw s x)=false:=by
 cases c:k.cK x
 ·rw[oD c];exact c
 ·have b:s.f (cg x)≠-1:=fun e=>by unfold ce.ls at h;rw[c,e] at h;simp at h
  rw[rM c b];obtain⟨b1,b2⟩:=eR _ (nD c) b;exact m9 ci b1 b2
theorem Kt:k.cK 3=false:=by unfold ce.cK;rw[show cY 3=false by decide];rfl
theorem Bh (ci:CI k s)(eR:Fo k s)(x:Int):k.cK (k.cG s x)=false:=by
 unfold ce.cG;cases c:k.ls s x
 ·rw[aG Z];exact Ks ci eR c
 ·exact Kt
theorem Ku {x:Int}(h:k.cK x=false):k.cG s x=x:=by unfold ce.cG ce.ls;rw[h,Bool.false_and,aG Z];exact oD h
theorem Kw (k:ce)(s:cj)(a:Int):k.eF s a=k.st s (a+1) (k.cG s (k.ld s (a+1))):=by unfold ce.eF ce.cG;split<;>rfl
theorem vj (k:ce)(s:cj)(a x:Int):(k.st s a x).ws.length=s.ws.length:=by
 unfold ce.st;split
 ·rw[a4]
 ·rfl
theorem vk (hl:s.ws.length=k.N+k.O)(hy:k.y<=k.N)(hg:s.g<=k.O)(hv:∀x,k.cK (k.cG s x)=false):∀(l:List Int)(t:cj),t.f=s.f->t.g=s.g->t.ws.length=s.ws.length->(∀c∈l,dd k.N k.y s.g (c+1)=true)->
 (l.foldl k.eF t).f=s.f/\(l.foldl k.eF t).g=s.g/\(l.foldl k.eF t).ws.length=s.ws.length/\(l.foldl k.eF t).ep=t.ep/\(l.foldl k.eF t).rs=t.rs/\∀p,k.ld (l.foldl k.eF t) p=if p-1∈l then k.cG s (k.ld t p) else k.ld t p
 |[],t,d,f,g,_=>⟨d,f,g,rfl,rfl,fun p=>Z⟩
 |c::l,t,d,f,g,hi=>by
  have vt:∀x,k.cG t x=k.cG s x:=fun x=>by unfold ce.cG;rw[(Bg d x).1,(Bg d x).2]
  rw[a8,Kw];obtain⟨j,m,n,o,u,v⟩:=vk hl hy hg hv l (k.st t (c+1) (k.cG t (k.ld t (c+1)))) d f ((vj _ _ _ _).trans g) (fun x w=>hi x (aO _ w))
  refine⟨j,m,n,o,u,fun p=>?_⟩
  rw[v p];have hp:=ce.nY (g.trans hl) hy (by rw[f];exact hg) (c+1) (k.cG t (k.ld t (c+1))) p;rw[f] at hp;by_cases e:p=c+1
  ·have i:p-1∈c::l:=by rw[e];simp
   rw[aI ⟨e,(hi c Z)⟩] at hp;rw[hp,aI i,vt,e];split
   ·exact Ku (hv _)
   ·rfl
  ·have i:(p-1∈c::l)↔p-1∈l:=by rw[List.mem_cons];exact⟨fun b=>b.resolve_left (fun q=>e V),aJ⟩
   rw[aG (fun q=>e q.1)] at hp;rw[hp];by_cases b:p-1∈l
   ·rw[aI b,aI (i.2 b)]
   ·rw[aG b,aG (fun q=>b (i.1 q))]
theorem vl (hy:k.y<=k.N):∀(l:List Int)(t:cj),t.ws.length=k.N+k.O->t.g<=k.O->(∀c∈l,dd k.N k.y t.g (c+1)=true/\dd k.N k.y t.g (c+2)=true)->
 (l.foldl k.gA t).rs=t.rs/\(l.foldl k.gA t).g=t.g/\∀p,k.ld (l.foldl k.gA t) p=if p-1∈l\/p-2∈l then 3 else k.ld t p
 |[],t,_,_,_=>⟨rfl,rfl,fun p=>Z⟩
 |c::l,t,g,d,hi=>by
  obtain⟨c1,c2⟩:=hi c Z;have l1:(k.st t (c+1) 3).ws.length=k.N+k.O:=(vj _ _ _ _).trans g;rw[a8];obtain⟨i,j,m⟩:=vl hy l _ ((vj _ _ _ _).trans l1) d (fun x n=>hi x (aO _ n))
  refine⟨i,j,fun p=>?_⟩
  have o:k.gA t c=k.st (k.st t (c+1) 3) (c+2) 3:=rfl;rw[o,m p,(ce.nY l1 hy d (c+2) 3) p,(ce.nY g hy d (c+1) 3) p];have g1:(k.st t (c+1) 3).g=t.g:=rfl;by_cases b:p-1∈l\/p-2∈l
  ·rw[aI b,aI (b.imp (aO _) (aO _))]
  ·rw[aG b];by_cases e:p=c+2
   ·rw[aI ⟨e,c2⟩,aI (aJ (by rw[e];simp))]
   ·rw[aG (fun q=>e q.1)];by_cases f:p=c+1
    ·rw[aI ⟨f,c1⟩,aI (aK (by rw[f];simp))]
    ·rw[aG (fun q=>f q.1),aG];rintro(q|q)
     ·rcases List.mem_cons.1 q with q|q
      ·omega
      ·exact b (aK q)
     ·rcases List.mem_cons.1 q with q|q
      ·omega
      ·exact b (aJ q)
theorem Bj (ci:CI k s)(eR:Fo k s){b x:Int}(h:k.ml s b x):k.nw s x=k.nw s b:=by
 rcases h with e|⟨y1,c,d⟩
 ·rw[e]
 ·rw[rM y1 c,d];obtain⟨b1,b2⟩:=eR _ (nD y1) c;exact oD (m9 ci b1 b2)
theorem Bk {b x:Int}(h:k.ml s b x)(hy:k.cK x=false):x=k.nw s b:=by
 rcases h with e|⟨y1,c,d⟩
 ·rw[e] at hy;rw[oD hy,e]
 ·rw[rM y1 c,d]
theorem Kx (li:LI k z s H D)(w:dL k z s H){a b i:Int}(o:k.or z s a b)(J:0<=i)(B:i<pf (k.l0 z a)):
 k.ld (k.be (k.mw s s.wk) (k.mw s s.wk).ep) (b+1+i)=if b∈s.ep then 3 else if b∈s.wk/\i=0 then k.cG s (k.ld s (b+1+i)) else k.ld s (b+1+i):=by
 have ci:=li.mi.ci;have full:=li.mi.full;have hb:=li.mi.mem o;have K:i<pf (k.ld s b):=by rw[(li.mi.hd a b o)];exact B
 have C:∀c∈s.wk,dd k.N k.y s.g (c+1)=true:=fun c hc=>by exact Bf
 have E:∀c∈s.ep,dd k.N k.y s.g (c+1)=true/\dd k.N k.y s.g (c+2)=true:=fun c hc=>by exact Bd
 obtain⟨m1,f,g,m,_,n⟩:=vk ci.len ci.hy ci.hg (Bh ci li.mi.eR) s.wk s rfl rfl rfl C;have m:(k.mw s s.wk).ep=s.ep:=m;have f:(k.mw s s.wk).g=s.g:=f;have g:(k.mw s s.wk).ws.length=s.ws.length:=g;obtain⟨_,_,b3⟩:=vl ci.hy s.ep _ (by rw[g];exact ci.len) (by rw[f];exact ci.hg) (by rw[f];exact E)
 have b3:∀p,k.ld (k.be (k.mw s s.wk) s.ep) p=if p-1∈s.ep\/p-2∈s.ep then 3 else k.ld (k.mw s s.wk) p:=b3
 have n:∀p,k.ld (k.mw s s.wk) p=if p-1∈s.wk then k.cG s (k.ld s p) else k.ld s p:=n
 rw[m,b3,n];have t:∀j,0<=j->j<pf (k.ld s b)->_:=fun j j0 F=>full.ec.field hb j0 F;have q1:∀l:List Int,(∀c∈l,c∈z.G++H)->((b+1+i)-1∈l↔(b∈l/\i=0)):=fun l hl=>by
  constructor
  ·intro d;by_cases e:i=0
   ·subst e;have:b+1+0-1=b:=V;rw[this] at d;exact⟨d,rfl⟩
   ·exfalso;have:b+1+i-1=b+1+(i-1):=V;rw[this] at d;exact t (i-1) V V (hl _ d)
  ·rintro⟨d,e⟩
   subst e;have:b+1+0-1=b:=V;rw[this];exact d
 have q2:(b+1+i)-2∈s.ep↔(b∈s.ep/\i=1):=by
  constructor
  ·intro d;obtain⟨r1,G⟩:=w.ep _ d;by_cases e:i=1
   ·subst e;have:b+1+1-2=b:=V;rw[this] at d;exact⟨d,rfl⟩
   ·exfalso;by_cases I:i=0
    ·subst I;have L:=ih (li.mi.bd r1).2.2 (aJ (aJ G))
     have u:=full.ec.apart _ r1 b hb V;have u:b+1+0-2+(1+pf (k.ld s (b+1+0-2)))<=b:=u;omega
    ·have:b+1+i-2=b+1+(i-2):=V;rw[this] at r1;exact t (i-2) V V r1
  ·rintro⟨d,e⟩
   subst e;have:b+1+1-2=b:=V;rw[this];exact d
 have v:=q1 s.ep (fun c hc=>(w.ep c hc).1)
 have x:=q1 s.wk (fun c hc=>(w.wk c hc).1)
 by_cases c:b∈s.ep
 ·have A:=ih (full.ec.mem b hb).2.2 (aJ (aJ (w.ep b c).2))
  have A:pf (k.ld s b)=2:=A;rw[aI c,aI];rcases(show i=0\/i=1 by omega) with e|e
  ·exact aK (v.2 ⟨c,e⟩)
  ·exact aJ (q2.2 ⟨c,e⟩)
 ·rw[aG c,aG (fun q=>q.elim (fun q=>c (v.1 q).1) (fun q=>c (q2.1 q).1))];by_cases d:b∈s.wk/\i=0
  ·rw[aI d,aI (x.2 d)]
  ·rw[aG d,aG (fun q=>d (x.1 q))]
theorem Ky (li:LI k z s H D)(w:dL k z s H){a b:Int}(o:k.or z s a b):k.ld (k.be (k.mw s s.wk) (k.mw s s.wk).ep) b=k.l0 z a/\(k.be (k.mw s s.wk) (k.mw s s.wk).ep).rs=s.rs:=by
 have ci:=li.mi.ci;have n:∀c∈s.wk,dd k.N k.y s.g (c+1)=true:=fun c hc=>by exact Bf
 have t:∀c∈s.ep,dd k.N k.y s.g (c+1)=true/\dd k.N k.y s.g (c+2)=true:=fun c hc=>by exact Bd
 obtain⟨m1,f,i,j,u,l⟩:=vk ci.len ci.hy ci.hg (Bh ci li.mi.eR) s.wk s rfl rfl rfl n;have j:(k.mw s s.wk).ep=s.ep:=j;have f:(k.mw s s.wk).g=s.g:=f;have i:(k.mw s s.wk).ws.length=s.ws.length:=i;obtain⟨b1,_,b3⟩:=vl ci.hy s.ep _ (by rw[i];exact ci.len) (by rw[f];exact ci.hg) (by rw[f];exact t)
 have b3:∀p,k.ld (k.be (k.mw s s.wk) s.ep) p=if p-1∈s.ep\/p-2∈s.ep then 3 else k.ld (k.mw s s.wk) p:=b3
 have l:∀p,k.ld (k.mw s s.wk) p=if p-1∈s.wk then k.cG s (k.ld s p) else k.ld s p:=l
 have no:∀c,c∈z.G++H->pf (k.ld s c)=2->∀g:Int,(g=1\/g=2)->b-g≠c:=fun c hc v g hd e=>by have m:=li.mi.full.ec.apart c hc b (li.mi.mem o) V;have m:c+(1+pf (k.ld s c))<=b:=m;omega
 rw[j,b3,l];refine⟨?_,b1.trans u⟩
 rw[aG,aG,(li.mi.hd a b o)]
 ·intro q;obtain⟨r1,d⟩:=w.wk _ q;exact no _ r1 (ih (li.mi.bd r1).2.2 (aJ (aK d))) 1 (aK rfl) rfl
 ·rintro(q|q)
  ·obtain⟨r1,d⟩:=w.ep _ q;exact no _ r1 (ih (li.mi.bd r1).2.2 (aJ (aJ d))) 1 (aK rfl) rfl
  ·obtain⟨r1,d⟩:=w.ep _ q;exact no _ r1 (ih (li.mi.bd r1).2.2 (aJ (aJ d))) 2 (aJ rfl) rfl
end
theorem rN {L:List Bool}{i:Nat}{t:cD}(d:L.getD i false=true)(b:t.1=3\/t.1=4->t.2.1.length=2):(fz L i t).2.1.length=t.2.1.length/\(fz L i t).1=t.1/\(fz L i t).2.2=(true,t.2.2.2):=by
 unfold fz;rw[aI d];refine⟨?_,rfl,rfl⟩
 split
 ·rename_i c;rw[b (aJ c.1)];rfl
 ·split
  ·rename_i c;rw[b (aK c.1)];rfl
  ·rfl
theorem Bl {L:List Bool}{i:Nat}{t:cD}(b:L.getD i false=false):fz L i t=(t.1,[],t.2.2.1,true):=by unfold fz;rw[b,aG Z]
theorem mH {L:List Bool}{i:Nat}{t:cD}(c:L.getD i false=true)(b:t.1=3\/t.1=4->t.2.1.length=2){k:Nat}(hk:k<t.2.1.length):
 (fz L i t).2.1.getD k (0,0)=if((t.1=3\/t.1=4)/\dH L (t.2.1.getD 0 (0,0))=false)/\(k=0\/(t.1=4/\k=1)) then(2,0) else t.2.1.getD k (0,0):=by
 unfold fz;rw[aI c];by_cases c4:t.1=4/\dH L (t.2.1.getD 0 (0,0))=false
 ·rw[aI c4,aI ⟨⟨aJ c4.1,c4.2⟩,by
   have:=b (aJ c4.1);have:k=0\/k=1:=V
   exact this.imp id (fun e=>⟨c4.1,e⟩)⟩]
  have:=b (aJ c4.1)
  rcases(show k=0\/k=1 by omega) with e|e<;>subst e<;>rfl
 ·rw[aG c4];by_cases c3:t.1=3/\dH L (t.2.1.getD 0 (0,0))=false
  ·rw[aI c3];have:=b (aK c3.1)
   rcases(show k=0\/k=1 by omega) with e|e
   ·subst e;rw[aI ⟨⟨aK c3.1,c3.2⟩,aK rfl⟩];rfl
   ·subst e;rw[aG (fun q=>by
     rcases q.2 with d|d
     ·omega
     ·have:=c3.1;omega)]
    rfl
  ·rw[aG c3,aG (fun q=>q.1.1.elim (fun e=>c3 ⟨e,q.1.2⟩) (fun e=>c4 ⟨e,q.1.2⟩))]
structure rO (a:Wc)(S:cq)(W:ck)(m:Nat->Int)(B L:List Bool)(C:List b7)(S':cq)(m':Nat->Int)(G':List Int):Prop where
 kv:el a S'.s [] G'
 ok:gD W.T L
 cl:gX W.T W.wt (ct L)
 up:∀i,ct B i->ct L i
 rr:∀v∈W.rs,v.1=3->ct L v.2.toNat
 cc:∀e∈C,e∈W.rg/\ct L e.2.toNat
 rs:S'.s.rs=W.rs.map (wv m')
 pl:∀i,ct L i->m' i∈G'
 inj:∀i j,ct L i->ct L j->m' i=m' j->i=j
 f4:∀v∈G',∃i,ct L i/\m' i=v
 hd:∀i,ct L i->ld a.N S'.s.y S'.s.g S'.s.ws (m' i)=ld a.N S.s.y S.s.g S.s.ws (m i)
 fd:∀i,ct L i->∀k:Nat,k<(W.T.getD i t0).2.1.length->ld a.N S'.s.y S'.s.g S'.s.ws (m' i+1+k)=wv m' ((fz L i (W.T.getD i t0)).2.1.getD k (0,0))
 rg:S'.r=(W.rg.filter (fun e=>cL B e.2&&cL L e.1)).map (we m')
 wt:S'.q=((W.wt++C).filter (fun e=>cL L e.1)).map (we m')
section
variable {a:Wc}{S S':cq}{W:ck}{m m':Nat->Int}{Y G G':List Int}{B L:List Bool}{C:List b7}
theorem Bm {L:List Bool}{v:Int×Int}(b:v.1=3):dH L v=L.getD v.2.toNat false:=by unfold dH;rw[b];rfl
theorem Kz {L:List Bool}{v:Int×Int}(b:v.1≠3):dH L v=true:=by
 unfold dH;have:(v.1==3)=false:=by simpa using b
 rw[this];rfl
theorem cy.led (h:cy a S W m Y G)(ok:gD W.T L)(cl:gX W.T W.wt (ct L)){i:Nat}(hi:ct L i){k:Nat}(hk:k<(W.T.getD i t0).2.1.length)(b:((fz L i (W.T.getD i t0)).2.1.getD k (0,0)).1=3):ct L ((fz L i (W.T.getD i t0)).2.1.getD k (0,0)).2.toNat:=by
 have al:=ok.al i hi;have j:(W.T.getD i t0).1=3\/(W.T.getD i t0).1=4->_=_:=fun c=>h.two al (aJ c)
 rw[mH hi j hk] at b⊢;split at b
 ·exact absurd b aa
 ·rename_i c;rw[aG c];have o:=oF _ _ (h.hd i al).1;by_cases n:(W.T.getD i t0).1=1\/(W.T.getD i t0).1=2
  ·exact cl i al.1 hi _ (aK ⟨n,(getD_in hk)⟩) b
  by_cases f:(W.T.getD i t0).1=3
  ·have l2:=j (aK f)
   rcases(show k=0\/k=1 by omega) with e|e
   ·subst e;have:dH L ((W.T.getD i t0).2.1.getD 0 (0,0))=true:=by
     cases d:dH L _
     ·exact absurd ⟨⟨aK f,d⟩,aK rfl⟩ c
     ·rfl
    exact ng this b
   ·subst e;exact cl i al.1 hi _ (aJ (aK ⟨f,rfl⟩)) b
  by_cases g:(W.T.getD i t0).1=4
  ·have l:dH L ((W.T.getD i t0).2.1.getD 0 (0,0))=true:=by
    cases d:dH L _
    ·exact absurd ⟨⟨aJ g,d⟩,by
      rcases(show k=0\/k=1 by omega) with e|e
      ·exact aK e
      ·exact aJ ⟨g,e⟩⟩ c
    ·rfl
   rcases(show k=0\/k=1 by omega) with e|e
   ·subst e;exact ng l b
   ·subst e;exact cl i al.1 hi _ (aJ (aJ (aK ⟨g,ng l,rfl⟩))) b
  ·omega
theorem rO.done (h:cy a S W m Y G)(c:rO a S W m B L C S' m' G'):cy a S' ⟨f6 L W.T W.T.length,W.rs,W.rg.filter (fun e=>cL B e.2&&cL L e.1),(W.wt++C).filter (fun e=>cL L e.1)⟩ m' [] G':=by
 have gt:∀j,j<W.T.length->(f6 L W.T W.T.length).getD j t0=fz L j (W.T.getD j t0):=fun j o=>by rw[q7 L W.T W.T.length j bW o,aI o]
 have f:∀i,ct L i->((W.T.getD i t0).1=3\/(W.T.getD i t0).1=4->_=_):=fun i hi q=>h.two (c.ok.al i hi) (aJ q)
 have al:∀j,cv (f6 L W.T W.T.length) j↔ct L j:=fun j=>by
  unfold cv;rw[jB];constructor
  ·rintro⟨p,f⟩
   rw[gt j p] at f;unfold ct;cases d:L.getD j false
   ·rw[Bl d] at f;cases f
   ·rfl
  ·intro b;have ha:=c.ok.al j b;refine⟨ha.1,?_⟩
   rw[gt j ha.1,(rN b (f j b)).2.2];exact ha.2
 have n:∀j,ct L j->((f6 L W.T W.T.length).getD j t0).2.1.length=(W.T.getD j t0).2.1.length/\((f6 L W.T W.T.length).getD j t0).1=(W.T.getD j t0).1/\((f6 L W.T W.T.length).getD j t0).2.2.1=true:=fun j b=>by
  have ha:=c.ok.al j b;obtain⟨q1,g,q3⟩:=rN b (f j b)
  rw[gt j ha.1,q3];exact⟨q1,g,rfl⟩
 have u:∀v,dM W.T v->(v.1=3->ct L v.2.toNat)->dM (f6 L W.T W.T.length) v:=fun v hv b=>⟨fun e=>⟨(hv.t e).1,(al _).2 (b e)⟩,hv.o⟩
 have t:∀e,iF W.T e->ct L e.1.toNat->ct L e.2.toNat->iF (f6 L W.T W.T.length) e:=fun e he p f=>⟨he.g0,(al _).2 p,by rw[(n _ p).2.1];exact he.k,he.h0,(al _).2 f⟩
 exact
 {
  kv:=c.kv,rl:=h.rl,rv:=fun v hv=>u v (h.rv v hv) (c.rr v hv)
  fv:=fun i hi v hv=>by
   have b:=(al i).1 hi;have ha:=c.ok.al i b;have hv:=hv;rw[gt i ha.1] at hv;obtain⟨k,hk,e⟩:=List.mem_iff_getElem.1 hv;have ev:(fz L i (W.T.getD i t0)).2.1.getD k (0,0)=v:=by rw[aE,aL hk,e];rfl
   rw[(rN b (f i b)).1] at hk;refine⟨fun l=>?_,fun l=>?_⟩
   ·have hl:=h.led c.ok c.cl b hk (by rw[ev];exact l)
    rw[ev] at hl;refine⟨?_,(al _).2 hl⟩
    rw[mH b (f i b) hk] at ev;split at ev
    ·rw[<-ev] at l;exact absurd l aa
    ·rw[<-ev] at l⊢;exact((h.fv i ha _ (getD_in hk)).t l).1
   ·rw[mH b (f i b) hk] at ev;split at ev
    ·rw[<-ev];decide
    ·rw[<-ev] at l⊢;exact(h.fv i ha _ (getD_in hk)).o l
  rs:=c.rs
  ik:=fun i hi e=>by have e:=e;rw[(n i ((al i).1 hi)).2.2] at e;cases e
  old:=fun i hi _=>c.pl i ((al i).1 hi)
  inj:=fun i j hi o e=>c.inj i j ((al i).1 hi) ((al j).1 o) e
  f4:=fun v hv=>by
   rcases hv with d|d
   ·cases d
   ·obtain⟨i,hi,e⟩:=c.f4 v d;exact⟨i,(al i).2 hi,e⟩
  hd:=fun i hi=>by have b:=(al i).1 hi;show hc _ _=0/\ld a.N S'.s.y S'.s.g S'.s.ws (m' i)=hw _ _;rw[(n i b).1,(n i b).2.1,c.hd i b];exact h.hd i (c.ok.al i b)
  fd:=fun i hi k hk=>by have b:=(al i).1 hi;have hk:=hk;rw[(n i b).1] at hk;show ld a.N S'.s.y S'.s.g S'.s.ws _=wv m' _;rw[gt i (c.ok.al i b).1];exact c.fd i b k hk
  rg:=c.rg
  gv:=fun e he=>by obtain⟨q1,g⟩:=List.mem_filter.1 he;rw[a_] at g;exact t e (h.gv e q1) g.2 (c.up _ g.1)
  wt:=c.wt
  dx:=fun e he=>by
   obtain⟨q1,g⟩:=List.mem_filter.1 he;rcases List.mem_append.1 q1 with d|d
   ·have s:=h.dx e d;exact t e s g (c.cl _ s.g.1 g (3,e.2) (aJ (aJ (aJ ⟨s.k,e,d,by have:=s.g0;omega,rfl⟩))) rfl)
   ·obtain⟨w,x⟩:=c.cc e d;exact t e (h.gv e w) g x
  tl:=fun i=>by
   show((f6 L W.T W.T.length).getD i t0).2.1.length<=12;by_cases hi:i<W.T.length
   ·rw[gt i hi];cases d:L.getD i false
    ·rw[Bl d];simp
    ·rw[(rN d (f i d)).1];exact h.tl i
   ·rw[aE,List.getElem?_eq_none (by rw[jB];omega)];simp[t0]}
end
section
variable {a:Wc}{S:cq}
end
section
variable {a:Wc}{S:cq}{W:ck}{m:Nat->Int}{Y G:List Int}
theorem KB (h:el a S.s Y G)(hb:cI a S.s)(l:S.fM a=false):(S.dy a).r=((S.r.filter (fun e=>(S.s.j0 a).al (S.j2 a).1 e.2)).filter (fun e=>(S.s.j0 a).al (S.cA a) e.1)).map (fun e=>((S.s.j0 a).nw (S.cE a) e.1,(S.s.j0 a).nw (S.cE a) e.2)):=by
 have i:=cV.start hb.n1 hb.o1 hb.y1 hb.g1;obtain⟨d1,p,t⟩:=oh (S:=S) i;obtain⟨_,l2,l3⟩:=kN h.inv.full hb;obtain⟨_,g,u⟩:=l_ h hb l;obtain⟨_,b,t3,_⟩:=pr (s:=S.cE a) (k:=S.s.j0 a) ⟨hb.l1,hb.y1,hb.g1⟩ hb.r1 i.nd (oq h.inv.full hb) (py h.inv.full hb)
 have b:(S.k5 a).Y=(S.s.j0 a).Y:=b;have t3:(S.k5 a).G=(S.s.j0 a).G:=t3;have zi:(S.k5 a).T=(S.s.j0 a).T:=by unfold b9.T;rw[b,t3]
 have j:∀x,(S.k5 a).al (S.cE a) x=(S.s.j0 a).al (S.cA a) x:=fun x=>by exact zf
 have r3:S.r3 a=(S.r.filter (fun e=>(S.s.j0 a).al (S.j2 a).1 e.2)).filter (fun e=>(S.s.j0 a).al (S.cA a) e.1):=by show(((S.r.filter (fun e=>(S.s.j0 a).al _ e.2)).filter (fun e=>(S.s.j0 a).al (S.cA a) e.1)).map fun e=>((S.s.j0 a).nw (S.cA a) e.1,(S.s.j0 a).nw (S.cA a) e.2))=_;exact zk
 have m:(S.k5 a).tS (S.cE a,S.q3 a) (S.r3 a)=(S.cE a,S.q3 a):=t_ (fun e he=>by rw[j];exact qS i e he)
 unfold cq.dy;rw[l,aG Z];show eO (dI cu) (fun s x=>(S.k5 a).al s.1 x) _ (fun s x=>(S.k5 a).nw s.1 x) (S.cE a,S.q3 a) (S.r3 a)=_;unfold eO;have e:ft (dI cu) (fun s x=>(S.k5 a).al s.1 x) (S.k5 a).ch (S.cE a,S.q3 a) (S.r3 a)=(S.cE a,S.q3 a):=m;rw[e];show(((S.r3 a).filter (fun e=>(S.k5 a).al (S.cE a) e.2)).filter (fun e=>(S.k5 a).al (S.cE a) e.1)).map (fun e=>((S.k5 a).nw (S.cE a) e.1,(S.k5 a).nw (S.cE a) e.2))=_;have n:(S.r3 a).filter (fun e=>(S.k5 a).al (S.cE a) e.2)=S.r3 a:=List.filter_eq_self.2 (fun e he=>by rw[j];exact qS (S:=S) i e he)
 have o:(S.r3 a).filter (fun e=>(S.k5 a).al (S.cE a) e.1)=S.r3 a:=List.filter_eq_self.2 (fun e he=>by rw[j];rw[r3] at he;exact(List.mem_filter.1 he).2)
 rw[n,o,r3];refine List.map_congr_left (fun e _=>?_)
 rw[b9.kl _ _ b t3,b9.kl _ _ b t3]
theorem cy.n4 (b:cy a S W m Y G)(hb:cI a S.s){g:List Bool->List Bool}(hg:dR W.T W.wt g):S.n4 a=iD W.T (W.cR g true).1 W.T.length:=by
 have f:=cV.start hb.n1 hb.o1 hb.y1 hb.g1;have hs:=Rg.settled b hb hg;obtain⟨k,_⟩:=pn (S.s.j0 a) (fun c=>!((S.cA a).f c==-1)) _ (S.cA a,(a.N:Int)) f.nd (fun _ _=>rfl)
 have d:=k.sum (fun c=>(dj _).1)
 have d:(gn (na (ld a.N S.s.y S.s.g S.s.ws)) ((S.s.j0 a).T.filter (fun c=>!((S.cA a).f c==-1))):Int)=S.n4 a:=d;rw[uY,<-d,uX (fun i _ hp=>b.size (hs.ok.al i hp)) (f.nd.filter _) (fun i j _ _ hp hq e=>b.inj i j (hs.ok.al i hp) (hs.ok.al j hq) e) (fun v=>?_)];rw[List.mem_filter];constructor
 ·rintro⟨l,n⟩
  obtain⟨i,hi,rfl⟩:=b.vd hb l;exact⟨i,hi.1,(hs.fX i hi).1 (by simpa using n),rfl⟩
 ·rintro⟨i,_,hp,rfl⟩
  have hi:=hs.ok.al i hp;exact⟨b.memT hb hi,by simpa using(hs.fX i hi).2 hp⟩
theorem cy.Bn (b:cy a S W m Y G)(hb:cI a S.s){g:List Bool->List Bool}(hg:dR W.T W.wt g):S.fM a=W.cF g a.O true:=by unfold cq.fM ck.cF;rw[b.n4 hb hg];simp
theorem cy.ie (b:cy a S W m Y G)(hb:cI a S.s){g:List Bool->List Bool}(hg:dR W.T W.wt g):S.ie a=W.gN g a.O true:=by unfold cq.ie ck.gN;rw[b.Bn hb hg]
theorem cy.pQ (b:cy a S W m Y G)(hb:cI a S.s){j:cu}{v:Int×Int}(hv:dM W.T v)(d:v.1=3->j.f (m v.2.toNat)≠-1):(S.s.j0 a).nw j (wv m v)=wv (fun i=>j.f (m i)) v:=by
 unfold b9.nw;rw[b.jt hb hv];by_cases c:v.1=3
 ·rw[(b.vt hb hv c).2,c,aI (by simp[d c]),il c]
 ·rw[aG (by simp[c]),jm c,jm c]
theorem vm {c:Type}(d:c){l b:List c}(h:l.length=b.length)(he:∀i,i<l.length->l.getD i d=b.getD i d):l=b:=by
 refine List.ext_getElem h (fun i e f=>?_)
 have:=he i e;rwa [aE,aL e,aE,aL f] at this
theorem vo {m:Nat->Int}:wv m (2,0)=3:=by rw[jm aa];decide
theorem cy.KC (hR:cy a S W m Y G)(hb:cI a S.s){g:List Bool->List Bool}(hg:dR W.T W.wt g)(u:S.fM a=false):
 rO a S W m (W.c0 g true) (W.cR g true).1 (W.cR g true).2.1 (S.dy a) (fun i=>(S.cE a).f (m i)) ((S.cE a).lf (G++Y)):=by
 have hs:=Rg.settled hR hb hg;have h0:=Rg.start hR hb hg;obtain⟨_,w,_⟩:=l_ hR.kv hb u;obtain⟨s1,s2,Q⟩:=oh (S:=S) (cV.start hb.n1 hb.o1 hb.y1 hb.g1)
 have C:=hR.T hb;have p:∀{i:Nat},cv W.T i->m i∈G++Y:=fun hi=>by rw[<-C];exact hR.memT hb hi
 have A:∀i,cv W.T i->((S.cE a).f (m i)≠-1↔ct (W.cR g true).1 i):=fun i hi=>by rw[<-hs.fX i hi];exact not_congr (w.iff _ (p hi))
 have l:∀i,ct (W.cR g true).1 i->_:=fun i b=>(A i (hs.ok.al i b)).2 b;have hcl:gX W.T W.wt (ct (W.cR g true).1):=by
  have hc:=hR.marked hb hs.de (fun x I=>by rw[hs.q];exact List.mem_map_of_mem (aX _ I))
  intro i hi J v hv n;have D:∀j,ct (W.cR g true).1 j->_/\_:=fun j o=>⟨hs.ok.al j o,(hs.fX j (hs.ok.al j o)).2 o⟩
  obtain⟨q1,f⟩:=hc i hi (D i J) v (hv.mono D) n;exact(hs.fX _ q1).1 f
 have hup:∀i,ct (W.c0 g true) i->ct (W.cR g true).1 i:=fun i hi=>by have ha:=h0.ok.al i hi;have E:=(h0.fX i ha).2 hi;refine(hs.fX i ha).1 ?_;rw[s2.f _ E];exact E
 have s:∀i,ct (W.cR g true).1 i->((W.T.getD i t0).1=3\/(W.T.getD i t0).1=4->_=_):=fun i hi q=>hR.two (hs.ok.al i hi) (aJ q)
 have vi:∀e,iF W.T e->ct (W.cR g true).1 e.1.toNat->ct (W.cR g true).1 e.2.toNat->((S.s.j0 a).nw (S.cE a) (we m e).1,(S.s.j0 a).nw (S.cE a) (we m e).2)=we (fun i=>(S.cE a).f (m i)) e:=fun e he K s=>by
  have q1:=hR.pQ hb (j:=S.cE a) (v:=(3,e.1)) ⟨fun _=>⟨he.g0,he.g⟩,fun c=>absurd rfl c⟩ (fun _=>l _ K)
  have f:=hR.pQ hb (j:=S.cE a) (v:=(3,e.2)) ⟨fun _=>⟨he.h0,he.h⟩,fun c=>absurd rfl c⟩ (fun _=>l _ s)
  exact Prod.ext q1 f
 have gc:=w.gc;have F:(S.dy a).s.y=0:=gc.y;refine
 {
  kv:=(gc.inv hR.kv hb w.al).1,ok:=hs.ok,cl:=hcl,up:=hup,rr:=hs.r,cc:=hs.c
  rs:=?_,pl:=fun i b=>?_,inj:=fun i j hi o e=>?_,f4:=fun v hv=>?_,hd:=fun i b=>?_,fd:=fun i b k hk=>?_,rg:=?_,wt:=?_}
 ·refine vm 0 (by rw[aW,hR.rl];exact gc.rl) (fun i hi=>?_)
  have hi:i<12:=by rw[gc.rl] at hi;exact hi
  obtain⟨er,hv⟩:=hR.root hi;rw[gc.rs i hi,er,jY (wv (fun i=>(S.cE a).f (m i))) W.rs i (0,0) 0 (by rw[hR.rl];exact hi)];exact hR.pQ hb hv (fun n=>l _ (hs.r _ (getD_in (by rw[hR.rl];exact hi)) n))
 ·exact List.mem_map.2 ⟨m i,List.mem_filter.2 ⟨p (hs.ok.al i b),by simpa using l i b⟩,rfl⟩
 ·have:=gc.pos.inj (fun c=>(dj _).1) (m i) (p (hs.ok.al i hi)) (m j) (p (hs.ok.al j o)) (by simpa using l i hi) (by simpa using l j o) e;exact hR.inj i j (hs.ok.al i hi) (hs.ok.al j o) this
 ·obtain⟨c,hc,rfl⟩:=List.mem_map.1 hv;obtain⟨q1,f⟩:=List.mem_filter.1 hc;rw[<-C] at q1;obtain⟨i,hi,rfl⟩:=hR.vd hb q1;exact⟨i,(A i hi).1 (by simpa using f),rfl⟩
 ·rw[F];exact gc.hd _ (p (hs.ok.al i b)) (l i b)
 ·have ha:=hs.ok.al i b;obtain⟨L,M,_⟩:=hR.parts ha;rw[F,gc.fd _ (p ha) (l i b) k (Int.natCast_nonneg k) (by rw[M];omega),mH b (s i b) hk];unfold b9.ii;have N:pk ((S.s.j0 a).ld (m i))=(W.T.getD i t0).1:=L;rw[N];have H:(S.s.j0 a).ld (m i+1+k)=wv m ((W.T.getD i t0).2.1.getD k (0,0)):=hR.fd i ha k hk;have key:(W.T.getD i t0).1=3\/(W.T.getD i t0).1=4->((S.s.j0 a).cS (S.cE a) ((S.s.j0 a).ld (m i+1))=true↔dH (W.cR g true).1 ((W.T.getD i t0).2.1.getD 0 (0,0))=false):=fun q=>by
   have O:(S.s.j0 a).ld (m i+1)=wv m ((W.T.getD i t0).2.1.getD 0 (0,0)):=by
    have:=hR.fd i ha 0 V;show ld a.N S.s.y S.s.g S.s.ws (m i+1)=_;rw[<-this]
    congr 1
    omega
   have B:=hR.fv i ha _ (getD_in (x:=((0,0):Int×Int)) (show 0<(W.T.getD i t0).2.1.length by omega))
   rw[O];by_cases c3:((W.T.getD i t0).2.1.getD 0 (0,0)).1=3
   ·have q1:=hR.oA hb (S.cE a) B c3;have f:=A _ (B.t c3).2;rw[Bm c3];constructor
    ·intro d;cases e:(W.cR g true).1.getD _ false
     ·rfl
     ·rw[q1.2 (f.2 e)] at d;cases d
    ·intro d;cases e:(S.s.j0 a).cS (S.cE a) _
     ·have:=f.1 (q1.1 e)
      unfold ct at this
      rw[d] at this
      cases this
     ·rfl
   ·rw[Kz c3];have:(S.s.j0 a).cS (S.cE a) (wv m ((W.T.getD i t0).2.1.getD 0 (0,0)))=false:=by
     unfold b9.cS;rw[hR.jt hb B];have:(((W.T.getD i t0).2.1.getD 0 (0,0)).1==3)=false:=by simpa using c3
     rw[this];rfl
    rw[this];simp
  by_cases cb:((W.T.getD i t0).1=3\/(W.T.getD i t0).1=4)/\dH (W.cR g true).1 ((W.T.getD i t0).2.1.getD 0 (0,0))=false
  ·by_cases t:k=0\/((W.T.getD i t0).1=4/\k=1)
   ·rw[aI ⟨⟨cb.1,(key cb.1).2 cb.2⟩,t.imp (fun e=>by omega) (fun e=>⟨e.1,V⟩)⟩,aI ⟨cb,t⟩,vo];unfold b9.nw b9.jt;rw[show cY 3=false by decide,Bool.false_and,Bool.false_and,aG Z]
   ·rw[aG (fun q=>t (q.2.imp (fun e=>by omega) (fun e=>⟨e.1,V⟩))),aG (fun q=>t q.2),H];refine hR.pQ hb (hR.fv i ha _ (getD_in hk)) (fun n=>l _ ?_)
    have hl:=hR.led hs.ok hcl b hk;rw[mH b (s i b) hk,aG (fun q=>t q.2)] at hl;exact hl n
  ·rw[aG (fun q=>cb ⟨q.1.1,(key q.1.1).1 q.1.2⟩),aG (fun q=>cb q.1),H];refine hR.pQ hb (hR.fv i ha _ (getD_in hk)) (fun n=>l _ ?_)
   have hl:=hR.led hs.ok hcl b hk;rw[mH b (s i b) hk,aG (fun q=>cb q.1)] at hl;exact hl n
 ·rw[KB hR.kv hb u,hR.rg,List.filter_filter];rw[lH (we m) _ (fun e=>cL (W.c0 g true) e.2&&cL (W.cR g true).1 e.1) W.rg (fun e he=>by have q1:=Rg.is hR hb h0 (hR.gv e he).h;have f:=Rg.is hR hb hs (hR.gv e he).g;have q1:(S.s.j0 a).al (S.j2 a).1 (we m e).2=cL (W.c0 g true) e.2:=q1;have f:(S.s.j0 a).al (S.cA a) (we m e).1=cL (W.cR g true).1 e.1:=f;rw[q1,f,Bool.and_comm]),List.map_map];exact Be
 ·rw[zv hR.kv hb u];have hE:∀e∈W.wt++(W.cR g true).2.1,iF W.T e:=fun e he=>by
   rcases List.mem_append.1 he with d|d
   ·exact hR.dx e d
   ·exact hR.gv e (hs.c e d).1
  rw[hs.q,lH (we m) _ (fun e=>cL (W.cR g true).1 e.1) _ (fun e he=>Rg.is hR hb hs (hE e he).g),List.map_map];exact Bb
theorem cy.dy (b:cy a S W m Y G)(hb:cI a S.s){g:List Bool->List Bool}(hg:dR W.T W.wt g):∃c d e,cy a (S.dy a) (W.cut g a.O true) c d e:=by
 unfold ck.cut;rw[<-b.Bn hb hg];cases hf:S.fM a
 ·rw[aG Z];exact⟨_,_,_,(b.KC hb hg hf).done b⟩
 ·refine⟨m,Y,G,?_⟩
  unfold cq.dy;rw[hf,aI rfl];exact b
end
theorem Bo (k:ce):∀(l:List Int)(s:cj),(l.foldl k.eF s).rs=s.rs
 |[],_=>rfl
 |x::l,s=>by rw[a8,Bo k l];unfold ce.eF;split<;>rfl
theorem Bp (k:ce):∀(l:List Int)(s:cj),(l.foldl k.gA s).rs=s.rs
 |[],_=>rfl
 |x::l,s=>by rw[a8,Bp k l];rfl
theorem fi.told {k:ce}{s:cj}(ci:CI k s)(eR:Fo k s){q0 q:List b7}(h:fi k s q0 q)(p:Int->Bool):(q.filter (fun e=>p e.1)).map (fun e=>(k.nw s e.1,k.nw s e.2))=(q0.filter (fun e=>p e.1)).map (fun e=>(k.nw s e.1,k.nw s e.2)):=by
 have c:q.map (fun e=>(e.1,k.nw s e.2))=q0.map (fun e=>(e.1,k.nw s e.2)):=by
  refine vm (0,0) (by rw[aW,aW,h.len]) (fun n hn=>?_)
  rw[aW] at hn;have b:n<q0.length:=by rw[<-h.len];exact hn
  obtain⟨d,f⟩:=h.eq n b;rw[jY (fun e:b7=>(e.1,k.nw s e.2)) q n (0,0) (0,0) hn,jY (fun e:b7=>(e.1,k.nw s e.2)) q0 n (0,0) (0,0) b,d,Bj ci eR f]
 have key:∀l:List b7,(l.filter (fun e=>p e.1)).map (fun e=>(k.nw s e.1,k.nw s e.2))=((l.map (fun e=>(e.1,k.nw s e.2))).filter (fun e=>p e.1)).map (fun e=>(k.nw s e.1,e.2)):=fun l=>by rw[lH (fun e:b7=>(e.1,k.nw s e.2)) (fun e=>p e.1) (fun e=>p e.1) l (fun _ _=>rfl),List.map_map];rfl
 rw[key q,key q0,c]
section
variable {a:Wc}{S:cq}{W:ck}{m:Nat->Int}{Y G:List Int}
def f9 (a:Wc)(S:cq)(m:Nat->Int)(G:List Int)(i:Nat):Int:=if m i∈G then m i else(S.s4 a).f (m i)
theorem cy.KD (hR:cy a S W m Y G)(hb:cI a S.s)(hr:S.s.y<=a.O-S.s.g){g:List Bool->List Bool}(hg:dR W.T W.wt g):
 ∃K,rO a S W m (W.c0 g false) (W.cR g false).1 (W.cR g false).2.1 ⟨⟨0,(S.s6 a).g,(S.s6 a).ws,[],(S.s6 a).rs⟩,(S.s.k0 a).sR (S.t3 a) S.r,(S.s.k0 a).jd (S.t3 a) S.r⟩ (f9 a S m G) (G++K):=by
 obtain⟨D,hc,h0⟩:=jo.start hR hb hr hg;have hs:=jo.settled hR hb hc hg h0;obtain⟨K,li,E⟩:=hs.de.li;have li:=li;have E:=E;obtain⟨am,b4,c⟩:=qP hR.kv hb hr;have aR:am=K:=by have l2:=(c.li.mi.full.lists (O:=a.O) hb.n1 hb.y1 hb.o1 c.li.mi.ci.hg).2;have ab:=((li.mi.full.lists (O:=a.O) hb.n1 hb.y1 hb.o1 li.mi.ci.hg).2).symm.trans l2;exact(List.append_cancel_left ab).symm
 subst aR;refine⟨am,?_⟩
 have ci:=li.mi.ci;have eR:=li.mi.eR;have R:=hR.fV hb;have hz:∀v,(v∈(S.s.k0 a).T\/v∈(S.s.z0 G).G)->∀i,0<=i->i<pf ((S.s.k0 a).l0 (S.s.z0 G) v)->cY ((S.s.k0 a).l0 (S.s.z0 G) (v+1+i))=true->cg ((S.s.k0 a).l0 (S.s.z0 G) (v+1+i))∈(S.s.k0 a).T\/cg ((S.s.k0 a).l0 (S.s.z0 G) (v+1+i))∈(S.s.z0 G).G:=fun v hv i a0 I ha=>by rw[R] at hv⊢;exact hR.kv.inv.fd v hv i a0 I ha
 have fX:=hs.fX;have ok:=hs.ok;have J:∀i,ct (W.cR g false).1 i->(S.s.k0 a).or (S.s.z0 G) (S.s4 a) (m i) (f9 a S m G i):=fun i b=>by
  have ha:=ok.al i b;unfold f9;by_cases d:m i∈G
  ·rw[aI d];exact aK ⟨rfl,d⟩
  ·rw[aG d];have hy:=(hR.mem ha).resolve_right d;exact aJ ⟨by rw[R];exact hy,rfl,((hR.j6 hb _ ha).1 ((fX i ha).2 b)).resolve_left d⟩
 have hcl:gX W.T W.wt (ct (W.cR g false).1):=by
  intro i hi bb v hv l;have an:∀j,ct (W.cR g false).1 j->_/\_:=fun j F=>⟨ok.al j F,(fX j (ok.al j F)).2 F⟩
  obtain⟨q1,s⟩:=hR.vg hb hc hs.de vh i hi (an i bb) v (hv.mono an) l;exact(fX _ q1).1 s
 have bd:dh (S.s.k0 a) (S.t3 a).1 (S.s4 a):=by obtain⟨be,ab,bg⟩:=h0.de.li;obtain⟨_,_,_,cA,_⟩:=cX.eW (k:=S.s.k0 a) (z:=S.s.z0 G) (D:=D) (S.t3 a) S.r be ab bg;exact cA
 have hup:∀i,ct (W.c0 g false) i->ct (W.cR g false).1 i:=fun i hi=>by have ha:=h0.ok.al i hi;exact(fX i ha).1 (pA bd ((h0.fX i ha).2 hi))
 have B:∀i,ct (W.cR g false).1 i->((W.T.getD i t0).1=3\/(W.T.getD i t0).1=4->_=_):=fun i hi q=>hR.two (ok.al i hi) (aJ q)
 have L:∀v,dM W.T v->(v.1=3->ct (W.cR g false).1 v.2.toNat)->(S.s.k0 a).nw (S.s4 a) (wv m v)=wv (f9 a S m G) v:=fun v hv b=>by
  by_cases l:v.1=3
  ·have ha:=(hv.t l).2;rw[il l,il l];unfold f9;by_cases d:m v.2.toNat∈G
   ·rw[aI d];refine oD ?_;rw[Bool.eq_false_iff];intro hy;exact hR.jZ hb ((hR.oC hb ha).1 hy) d
   ·rw[aG d];have hy:=(hR.mem ha).resolve_right d;have e:=(hR.word hb ha).2.2;rw[rM ((hR.oC hb ha).2 hy) (by rw[e];exact((hR.j6 hb _ ha).1 ((fX _ ha).2 (b l))).resolve_left d),e]
  ·rw[jm l,jm l];refine oD ?_;unfold ce.cK;rw[(nF _ _ (hv.o l)).1];have:(v.1==3)=false:=by simpa using l
   rw[this];rfl
 have vi:∀e,iF W.T e->ct (W.cR g false).1 e.1.toNat->ct (W.cR g false).1 e.2.toNat->((S.s.k0 a).nw (S.s4 a) (we m e).1,(S.s.k0 a).nw (S.s4 a) (we m e).2)=we (f9 a S m G) e:=fun e he bi B=>by
  have q1:=L (3,e.1) ⟨fun _=>⟨he.g0,he.g⟩,fun c=>absurd rfl c⟩ (fun _=>bi)
  have s:=L (3,e.2) ⟨fun _=>⟨he.h0,he.h⟩,fun c=>absurd rfl c⟩ (fun _=>B)
  rw[il rfl,il rfl] at q1 s;unfold we;exact Prod.ext q1 s
 have lo:∀{p:Int},(a.N:Int)<=p->ld a.N 0 (S.s6 a).g (S.s6 a).ws p=(S.s.k0 a).ld ((S.s.k0 a).be ((S.s.k0 a).mw (S.s4 a) (S.s4 a).wk) ((S.s.k0 a).mw (S.s4 a) (S.s4 a).wk).ep) p:=fun hp=>tZ hp hb.y1;refine
 {
  kv:=⟨c.done hR.kv hb,fun v _ i _ _ _ hy=>(by cases hy)⟩,ok:=ok,cl:=hcl,up:=hup,rr:=hs.r,cc:=hs.c
  rs:=?_,pl:=fun i b=>li.mi.mem (J i b),inj:=fun i j hi F e=>?_,f4:=fun v hv=>?_,hd:=fun i b=>?_,fd:=fun i b k hk=>?_,rg:=?_,wt:=?_}
 ·have bl:(S.s6 a).rs=(S.s4 a).rs:=(Bp _ _ _).trans (Bo _ _ _)
  show(S.s6 a).rs=_;rw[bl];refine vm 0 (by rw[aW,hR.rl];exact c.rl) (fun i hi=>?_)
  have hi:i<12:=by rw[c.rl] at hi;exact hi
  obtain⟨er,hv⟩:=hR.root hi;have hm:=c.rm i hi;rw[er] at hm;rw[Bk hm (c.zq i hi),jY (wv (f9 a S m G)) W.rs i (0,0) 0 (by rw[hR.rl];exact hi)];exact L _ hv (hs.r _ (getD_in (by rw[hR.rl];exact hi)))
 ·have o1:=J i hi;have ao:=J j F;rw[<-e] at ao;refine hR.inj i j (ok.al i hi) (ok.al j F) ?_;rcases o1 with⟨a1,a2⟩|⟨a1,a2,M⟩<;>rcases ao with⟨b1,b2⟩|⟨b1,b2,b3⟩
  ·exact a1.trans b1.symm
  ·have q1:=li.mi.kI _ a2;have s:=li.mi.hlo _ (li.mi.fh _ b1 (by rw[b2];exact b3))
   rw[b2] at s;omega
  ·have q1:=li.mi.kI _ b2;have s:=li.mi.hlo _ (li.mi.fh _ a1 (by rw[a2];exact M))
   rw[a2] at s;omega
  ·exact li.mi.inj _ a1 _ b1 (by rw[a2];exact M) (a2.trans b2.symm)
 ·obtain⟨x,o⟩:=li.mi.from hv;have hm:x∈Y\/x∈G:=by
   have:=uZ o;rw[R] at this
   exact this
  obtain⟨i,hi,rfl⟩:=hR.f4 x hm;have b:ct (W.cR g false).1 i:=(fX i hi).1 ((hR.j6 hb _ hi).2 (by
   rcases o with⟨a1,a2⟩|⟨a1,a2,M⟩
   ·exact aK (by rw[a1];exact a2)
   ·exact aJ (by rw[a2];exact M)))
  refine⟨i,b,?_⟩
  unfold f9;rcases o with⟨a1,a2⟩|⟨a1,a2,M⟩
  ·rw[aI (by rw[a1];exact a2)];exact a1
  ·rw[R] at a1;rw[aG (hR.jZ hb a1)];exact a2
 ·have o:=J i b;have bn:=li.mi.bd (li.mi.mem o)
  show ld a.N 0 (S.s6 a).g (S.s6 a).ws (f9 a S m G i)=_;rw[lo bn.1];exact(Ky li E o).1
 ·have o:=J i b;have ha:=ok.al i b;obtain⟨ad,N,_⟩:=hR.parts ha;have Q:(S.s.k0 a).ld (S.s4 a) (f9 a S m G i)=ld a.N S.s.y S.s.g S.s.ws (m i):=li.mi.hd _ _ o;have I:(k:Int)<pf ((S.s.k0 a).l0 (S.s.z0 G) (m i)):=by
   show(k:Int)<pf (ld a.N S.s.y S.s.g S.s.ws (m i))
   rw[N];omega
  have bo:(k:Int)<pf ((S.s.k0 a).ld (S.s4 a) (f9 a S m G i)):=by rw[Q,N];omega
  have U:∀n,n<(W.T.getD i t0).2.1.length->(S.s.k0 a).l0 (S.s.z0 G) (m i+1+n)=wv m ((W.T.getD i t0).2.1.getD n (0,0)):=fun n hn=>hR.fd i ha n hn;have ag:=li.mi.fd (m i) _ o k (Int.natCast_nonneg k) I;rw[U k hk] at ag;have ap:=hR.fv i ha _ (getD_in (x:=((0,0):Int×Int)) hk)
  show ld a.N 0 (S.s6 a).g (S.s6 a).ws (f9 a S m G i+1+k)=_;have hN:(a.N:Int)<=f9 a S m G i:=(li.mi.bd (li.mi.mem o)).1;rw[lo V,Kx li E o (Int.natCast_nonneg k) I,mH b (B i b) hk];have lost:(W.T.getD i t0).1=3\/(W.T.getD i t0).1=4->(dH (W.cR g false).1 ((W.T.getD i t0).2.1.getD 0 (0,0))=false↔(S.s.k0 a).ls (S.s4 a) (wv m ((W.T.getD i t0).2.1.getD 0 (0,0)))=true):=fun q=>by
   have l2:=B i b q;have ai:=hR.fv i ha _ (getD_in (x:=((0,0):Int×Int)) (show 0<(W.T.getD i t0).2.1.length by omega))
   constructor
   ·intro d;obtain⟨ar,bp⟩:=mc d;have br:=(ai.t ar).2;have:¬(S.s.k0 a).al (S.s4 a) (ew 3 (m ((W.T.getD i t0).2.1.getD 0 (0,0)).2.toNat))=true:=fun w=>by
     have:=(fX _ br).1 w;unfold ct at this
     rw[bp] at this
     cases this
    rw[il ar];unfold ce.al at this
    simpa using this
   ·intro d;obtain⟨t,_⟩:=hR.rL hb ai (mF d)
    rw[il t] at d;rw[Bm t];cases w:(W.cR g false).1.getD ((W.T.getD i t0).2.1.getD 0 (0,0)).2.toNat false
    ·rfl
    ·have:=(fX _ (ai.t t).2).2 w;unfold ce.al at this
     rw[d] at this
     cases this
  have met:(W.T.getD i t0).1=3\/(W.T.getD i t0).1=4->(S.s.k0 a).ls (S.s4 a) (wv m ((W.T.getD i t0).2.1.getD 0 (0,0)))=true->(S.s.k0 a).ld (S.s4 a) (f9 a S m G i+1+0)=wv m ((W.T.getD i t0).2.1.getD 0 (0,0))/\((W.T.getD i t0).1=3->f9 a S m G i∈(S.s4 a).wk)/\((W.T.getD i t0).1=4->f9 a S m G i∈(S.s4 a).ep):=fun q d=>by
   have l2:=B i b q;have al:(0:Int)<pf ((S.s.k0 a).l0 (S.s.z0 G) (m i)):=by
    show(0:Int)<pf (ld a.N S.s.y S.s.g S.s.ws (m i))
    rw[N];omega
   have j2:(0:Int)<pf ((S.s.k0 a).ld (S.s4 a) (f9 a S m G i)):=by rw[Q,N];omega
   have aF:=li.mi.fd (m i) _ o 0 (Int.le_refl 0) al;have ex:(S.s.k0 a).l0 (S.s.z0 G) (m i+1+0)=wv m ((W.T.getD i t0).2.1.getD 0 (0,0)):=U 0 V;rw[ex] at aF;have A:(S.s.k0 a).ld (S.s4 a) (f9 a S m G i+1+0)=wv m ((W.T.getD i t0).2.1.getD 0 (0,0)):=by
    rcases aF with w|⟨_,w,_⟩
    ·exact w
    ·exact absurd (ce.mU d).2.2 w
   have f:=li.fields hs.de.he hz hc (li.mi.mem o) (Int.le_refl 0) j2 (by rw[A];exact(ce.mU d).1)
   rw[Q,ad] at f;refine⟨A,fun t=>?_,fun C=>?_⟩
   ·rcases f with w|⟨_,_,w⟩|⟨w,_⟩
    ·have:=li.mi.om w;rw[A,mF d] at this
     cases this
    ·exact w
    ·omega
   ·rcases f with w|⟨w,_,_⟩|⟨_,w⟩
    ·have:=li.mi.om w;rw[A,mF d] at this
     cases this
    ·omega
    ·exact w
  by_cases H:f9 a S m G i∈(S.s4 a).ep
  ·have C:(W.T.getD i t0).1=4:=by
    have:=(E.ep _ H).2;rw[Q,ad] at this
    exact this
   have l2:=B i b (aJ C)
   have u:=hs.de.ep _ H;have u:=u;have al:(0:Int)<pf ((S.s.k0 a).l0 (S.s.z0 G) (m i)):=by
    show(0:Int)<pf (ld a.N S.s.y S.s.g S.s.ws (m i))
    rw[N];omega
   have bs:f9 a S m G i+1+0=f9 a S m G i+1:=V;rw[<-bs] at u;have ea:=li.mi.rK o (Int.le_refl 0) al (mF u)
   have ex:(S.s.k0 a).l0 (S.s.z0 G) (m i+1+0)=wv m ((W.T.getD i t0).2.1.getD 0 (0,0)):=U 0 V;rw[ea,ex] at u;rw[aI H,aI ⟨⟨aJ C,(lost (aJ C)).2 u⟩,by
    rcases(show k=0\/k=1 by omega) with e|e
    ·exact aK e
    ·exact aJ ⟨C,e⟩⟩,vo]
  ·rw[aG H];by_cases X:f9 a S m G i∈(S.s4 a).wk/\(k:Int)=0
   ·obtain⟨hw,b5⟩:=X;have t:(W.T.getD i t0).1=3:=by
     have:=(E.wk _ hw).2;rw[Q,ad] at this
     exact this
    have e6:k=0:=V;subst e6;rw[aI ⟨hw,rfl⟩];cases u:dH (W.cR g false).1 ((W.T.getD i t0).2.1.getD 0 (0,0))
    ·have q:=(lost (aK t)).1 u;have A:=(met (aK t) q).1;have A:(S.s.k0 a).ld (S.s4 a) (f9 a S m G i+1+((0:Nat):Int))=wv m ((W.T.getD i t0).2.1.getD 0 (0,0)):=A;rw[aI ⟨⟨aK t,rfl⟩,aK rfl⟩,vo,A];unfold ce.cG;rw[aI q]
    ·rw[aG (fun q=>by have:=q.1.2;simp at this)];have bt:(S.s.k0 a).ls (S.s4 a) ((S.s.k0 a).ld (S.s4 a) (f9 a S m G i+1+((0:Nat):Int)))=false:=by rw[Bool.eq_false_iff];intro w;rw[(li.mi.rK o (Int.natCast_nonneg 0) I (mF w)),U 0 hk] at w;rw[(lost (aK t)).2 w] at u;cases u
     unfold ce.cG;rw[bt,aG Z,Bj ci eR ag];refine L _ ap (fun l=>?_)
     exact ng u l
   ·rw[aG X];have bx:(S.s.k0 a).cK ((S.s.k0 a).ld (S.s4 a) (f9 a S m G i+1+k))=false:=by
     cases hab:cY ((S.s.k0 a).ld (S.s4 a) (f9 a S m G i+1+k))
     ·unfold ce.cK;rw[hab];rfl
     ·rcases li.fields hs.de.he hz hc (li.mi.mem o) (Int.natCast_nonneg k) bo hab with w|⟨_,w1,bY⟩|⟨_,w⟩
      ·exact li.mi.om w
      ·exact absurd ⟨bY,w1⟩ X
      ·exact absurd w H
    have nb:¬((((W.T.getD i t0).1=3\/(W.T.getD i t0).1=4)/\dH (W.cR g false).1 ((W.T.getD i t0).2.1.getD 0 (0,0))=false)/\(k=0\/((W.T.getD i t0).1=4/\k=1))):=by
     rintro⟨⟨q1,s⟩,q3⟩
     obtain⟨_,bZ,b0⟩:=met q1 ((lost q1).1 s)
     rcases q1 with t|C
     ·rcases q3 with e|⟨e,_⟩
      ·exact X ⟨bZ t,V⟩
      ·omega
     ·exact H (b0 C)
    rw[aG nb,Bk ag bx];refine L _ ap (fun l=>?_)
    have hl:=hR.led ok hcl b hk;rw[mH b (B i b) hk,aG nb] at hl;exact hl l
 ·show(((S.r.filter (fun e=>(S.s.k0 a).al (S.t3 a).1 e.2)).filter (fun e=>(S.s.k0 a).al (S.s4 a) e.1)).map (fun e=>((S.s.k0 a).nw (S.s4 a) e.1,(S.s.k0 a).nw (S.s4 a) e.2)))=_;rw[hR.rg,List.filter_filter];rw[lH (we m) _ (fun e=>cL (W.c0 g false) e.2&&cL (W.cR g false).1 e.1) W.rg (fun e he=>by have q1:(S.s.k0 a).al (S.t3 a).1 (we m e).2=cL (W.c0 g false) e.2:=h0.is (hR.gv e he).h;have s:(S.s.k0 a).al (S.s4 a) (we m e).1=cL (W.cR g false).1 e.1:=hs.is (hR.gv e he).g;rw[q1,s,Bool.and_comm]),List.map_map];exact Be
 ·show((((S.s.k0 a).eW (S.t3 a) S.r).2.filter (fun e=>(S.s.k0 a).al (S.s4 a) e.1)).map (fun e=>((S.s.k0 a).nw (S.s4 a) e.1,(S.s.k0 a).nw (S.s4 a) e.2)))=_;rw[hs.de.q.told ci eR ((S.s.k0 a).al (S.s4 a))];have hE:∀e∈W.wt++(W.cR g false).2.1,iF W.T e:=fun e he=>by
   rcases List.mem_append.1 he with d|d
   ·exact hR.dx e d
   ·exact hR.gv e (hs.c e d).1
  rw[lH (we m) _ (fun e=>cL (W.cR g false).1 e.1) _ (fun e he=>hs.is (hE e he).g),List.map_map];exact Bb
theorem cy.Bq (d:cy a S W m Y G)(hb:cI a S.s){g:List Bool->List Bool}(hg:dR W.T W.wt g):S.full a=W.cF g a.O false:=by
 have b:=d.us hb;have e:=hb.g1;unfold cq.full ck.cF;rw[b];by_cases c:a.O-S.s.g<S.s.y
 ·rw[bh c,bh (show(a.O:Int)-(S.s.g:Int)<(S.s.y:Int) by omega)];rfl
 ·rw[bq c,bq (show¬(a.O:Int)-(S.s.g:Int)<(S.s.y:Int) by omega)];obtain⟨D,hc,h0⟩:=jo.start d hb V hg;have f:fT (fun i=>(W.cR g false).1.getD i false) (iG W.T) W.T.length<=fT (fun i=>jn W.T i||oB W.T i) (iG W.T) W.T.length:=A4 _ (fun i hi hp=>by unfold jn oB;rw[((jo.settled d hb hc hg h0).ok.al i hp).2];cases (W.T.getD i t0).2.2.1<;>rfl)
  have j:=A6 (R:=fun i=>jn W.T i||oB W.T i) (z:=iG W.T) W.T.length (fun i _=>⟨rfl,by unfold jn oB;cases (W.T.getD i t0).2.2.2<;>cases (W.T.getD i t0).2.2.1<;>rfl⟩)
  rw[A8] at b;have k:=congrArg Prod.fst b;have l:=congrArg Prod.snd b;rw[bq (by rw[(uY W.T (W.cR g false).1 W.T.length)];omega)];rfl
theorem cy.Br (b:cy a S W m Y G)(hb:cI a S.s){g:List Bool->List Bool}(hg:dR W.T W.wt g):S.code a=W.gN g a.O false:=by unfold cq.code ck.gN;rw[b.Bq hb hg]
theorem cy.cut (b:cy a S W m Y G)(hb:cI a S.s){g:List Bool->List Bool}(hg:dR W.T W.wt g):∃d e f,cy a (S.cut a) (W.cut g a.O false) d e f:=by
 unfold ck.cut;rw[<-b.Bq hb hg];cases hf:S.full a
 ·rw[aG Z];have hr:S.s.y<=a.O-S.s.g:=by exact qr
  obtain⟨K,c⟩:=b.KD hb hr hg;unfold cq.cut;rw[hf,aG Z];exact⟨_,_,_,c.done b⟩
 ·refine⟨m,Y,G,?_⟩
  unfold cq.cut;rw[hf,aI rfl];exact b
end
theorem Bt (rs:List Int)(y:Nat)(ws:List Int)(rl:List Nat):∀k,(iz rs y ws rl k).length=ws.length
 |0=>rfl
 |k+1=>by show((iz rs y ws rl k).set _ _).length=_;rw[a4];exact Bt rs y ws rl k
theorem rP (rs:List Int)(y:Nat)(ws:List Int)(rl:List Nat):∀k,y+k<ws.length->∀q,(iz rs y ws rl k).getD q 0=if y+1<=q/\q<y+1+k then rs.getD (rl.getD (q-y-1) 0) 0 else ws.getD q 0
 |0,_,q=>by rw[aG V];rfl
 |k+1,h,q=>by
  show((iz rs y ws rl k).set _ _).getD q 0=_;rw[pO _ _ _ _ _ (by rw[Bt];omega),rP rs y ws rl k V q];by_cases c:y+1+k=q
  ·rw[aI c,aI V,show q-y-1=k by omega]
  ·rw[aG c];by_cases b:y+1<=q/\q<y+1+k
   ·rw[aI b,aI V]
   ·rw[aG b,aG V]
theorem KE (W:ck)(g:gO)(b_ bZ m:Int):(W.room g b_ bZ m).2.rs=W.rs:=by
 unfold ck.room;split
 ·rfl
 ·unfold ck.cut;split<;>rfl
section
variable {a:Wc}{S:cq}{W:ck}{m:Nat->Int}{Y G:List Int}{j:Nat}{g:gO}
theorem cy.made (h:cy a S W m Y G)(hb:cI a S.s){kd:Int}{rl:List Nat}(hk:hc kd rl.length=0)(hr:S.s.y+1+rl.length<=a.N)(g:∀q∈rl,q<12):
 cy a (S.put a kd rl) {W with T:=W.T++[(kd,rl.map (fun q=>W.rs.getD q (0,0)),false,false)]} (nB m W.T.length S.s.y) (Y++[(S.s.y:Int)]) G:=by
 have p:=uc h.kv hb hk hr rl.length bW
 have c:(rl.map (fun q=>W.rs.getD q (0,0))).length=rl.length:=aW ..;have hl:=hb.l1;have i:iJ a.N S.s.y kd rl.length=true:=by unfold iJ;simp;omega
 have d:fq a.N S.s.y kd rl.length S.s.ws=fC S.s.ws S.s.y (hw kd rl.length) rl.length:=by unfold fq;rw[aI i];rfl
 have e:(fq a.N S.s.y kd rl.length S.s.ws).length=S.s.ws.length:=by rw[d,ub]
 have b:S.s.y+rl.length<S.s.ws.length:=V;have keep:∀q:Int,((0<=q/\q<S.s.y)\/((a.N:Int)<=q/\q<a.N+S.s.g))->ld a.N (S.s.y+1+rl.length) S.s.g (iz S.s.rs S.s.y (fq a.N S.s.y kd rl.length S.s.ws) rl rl.length) q=ld a.N S.s.y S.s.g S.s.ws q:=fun q hq=>by
  rcases hq with⟨q0,q1⟩|⟨q0,q1⟩
  ·rw[dW (iK q0 V),dW (iK q0 q1),rP _ _ _ _ _ (by rw[e];exact b),aG V,d,k7 _ _ _ _ _ b,aG V,aG V]
  ·rw[dW (hY q0 q1),dW (hY q0 q1),rP _ _ _ _ _ (by rw[e];exact b),aG V,d,k7 _ _ _ _ _ b,aG V,aG V]
 refine h.new (by rw[c];exact hk) (fun v hv=>?_) rfl hr p.k (by rw[c];exact p.p) (fun k hk=>?_) p.h (fun v hv k hk=>?_)
 ·obtain⟨q,hq,rfl⟩:=List.mem_map.1 hv;exact(h.root (g q hq)).2
 ·rw[c] at hk;show ld a.N (S.s.y+1+rl.length) S.s.g (iz S.s.rs S.s.y (fq a.N S.s.y kd rl.length S.s.ws) rl rl.length) _=_;rw[dW (iK V V),rP _ _ _ _ _ (by rw[e];exact b),aI V,jY (fun q=>W.rs.getD q (0,0)) rl k 0 (0,0) hk,<-(h.root (g _ (getD_in hk))).1,show((S.s.y:Int)+1+k).toNat-S.s.y-1=k by omega]
 ·exact keep _ (hv.imp (fun f=>m6 h.kv.inv.full f (Int.natCast_nonneg k) hk) (fun f=>m7 h.kv.inv.full f (Int.natCast_nonneg k) hk))
theorem cy.KF (h:cy a S W m Y G)(hb:cI a S.s)(hg:∀T wt,e4 T wt->dR T wt (g T wt))(mm:Int):(S.room a mm).1=(W.room g a.N a.O mm).1/\∃e f i,cy a (S.room a mm).2 (W.room g a.N a.O mm).2 e f i:=by
 have b:=hg _ _ h.iv;unfold cq.room ck.room;rw[h.us hb];by_cases c:mm<=(a.N:Int)-S.s.y
 ·rw[aI c,aI c];exact⟨rfl,m,Y,G,h⟩
 ·rw[aG c,aG c];by_cases d:(S.s.y:Int)<=(a.O:Int)-S.s.g
  ·rw[aI d,bq V];exact⟨h.Br hb b,h.cut hb b⟩
  ·rw[aG d,bh V];exact⟨h.ie hb b,h.dy hb b⟩
def mI (a:Wc)(t:Int×Int×cq)(b:(Int×Int)×Int×ck):Prop:=t.2.1=b.2.1/\∃c d e,cy a t.2.2 b.2.2 c d e/\(t.2.1=0->t.1=wv c b.1/\dM b.2.2.T b.1)
theorem cy.grown (h:cy a S W m Y G)(ok:dV a S j)(hb:cI a S.s)(hg:∀T wt,e4 T wt->dR T wt (g T wt)){kd:Int}{rl:List Nat}(hk:hc kd rl.length=0)(i:∀q∈rl,q<12):mI a (S.bZ a kd rl) (W.bZ g a.N a.O kd (rl.map (fun q=>W.rs.getD q (0,0)))):=by
 obtain⟨b,k,l,n,f⟩:=h.KF hb hg _;obtain⟨ok',o,hr,_⟩:=ok.room hb _;have hl:=iS kd rl.length hk;unfold mI cq.bZ ck.bZ;rw[aW];by_cases c:(S.room a (1+rl.length)).1=0
 ·rw[aI c,aI (b.symm.trans c)];rw[<-(KE W g a.N a.O (1+rl.length))];refine⟨rfl,_,_,_,(f.made o hk (by have:=hr c V;omega) i),fun _=>⟨?_,⟨fun _=>⟨by dsimp only;omega,?_⟩,fun e=>absurd rfl e⟩⟩⟩
  ·rw[il rfl];unfold nB;simp
  ·have:=(A2 (t:=(kd,rl.map (fun q=>(W.room g a.N a.O (1+rl.length)).2.rs.getD q (0,0)),false,false)) rfl (W.room g a.N a.O (1+rl.length)).2.T.length).2 (aJ rfl)
   simpa[ck.put] using this
 ·rw[aG c,aG (fun d=>c (b.trans d))];exact⟨b,k,l,n,f,fun d=>absurd d c⟩
theorem cy.kx (h:cy a S W m Y G)(hb:cI a S.s){v:Int×Int}(hv:dM W.T v):(S.kx a (wv m v)=5↔iE W.T v=true)/\((S.ex a (wv m v)=0/\S.kx a (wv m v)≠5)↔jC W.T v=true)/\(S.ex a (wv m v)=0↔v.1=3)/\(v.1≠3->S.ex a (wv m v)=2)/\(v.1=3->S.fx a (wv m v)=((W.T.getD v.2.toNat t0).2.1.length:Int)):=by
 rw[q8,jD];unfold cq.kx cq.ex cq.fx;rw[h.tB hb hv];by_cases c:v.1=3
 ·have d:(v.1==3)=true:=by simpa using c
  obtain⟨e,f,g⟩:=h.parts (hv.t c).2;rw[d,aI rfl,aI rfl,aI rfl,(h.vt hb hv c).2,e,f,g];exact⟨⟨fun b=>⟨c,b⟩,fun b=>b.2⟩,⟨fun b=>⟨c,b.2⟩,fun b=>⟨rfl,b.2⟩⟩,⟨fun _=>c,fun _=>rfl⟩,fun b=>absurd c b,fun _=>rfl⟩
 ·have d:(v.1==3)=false:=by simpa using c
  rw[d,aG Z,aG Z,aG Z];exact⟨⟨fun b=>absurd b aa,fun b=>absurd b.1 c⟩,⟨fun b=>absurd b.1 aa,fun b=>absurd b.1 c⟩,⟨fun b=>absurd b aa,fun b=>absurd b c⟩,fun _=>rfl,fun b=>absurd b c⟩
theorem cy.Bu (h:cy a S W m Y G){A:Nat}(d:A<12)(I:Int):W.fc (W.rs.getD A (0,0)) I=W.gc A I:=by
 obtain⟨_,hv⟩:=h.root d;unfold ck.fc ck.gc ck.th;by_cases c:(W.rs.getD A (0,0)).1=3
 ·rw[aI c];by_cases c5:(W.T.getD (W.rs.getD A (0,0)).2.toNat t0).1=5
  ·rw[aG (fun b=>(jD.1 b).2 c5),aI (aJ (show(W.T.getD (W.rs.getD A (0,0)).2.toNat (0,[],false,false)).1=5 from c5))]
  ·have e:¬((W.rs.getD A (0,0)).2<0\/(W.T.getD (W.rs.getD A (0,0)).2.toNat (0,[],false,false)).1=5):=fun b=>b.elim (fun b=>absurd (hv.t c).1 V) c5;rw[aI (jD.2 ⟨c,c5⟩),aG e];rfl
 ·rw[aG c,aG (fun b=>c (jD.1 b).1),aI (aK aa)]
theorem cy.cO (h:cy a S W m Y G)(hb:cI a S.s){v:Int×Int}(hv:dM W.T v)(g:v.1=3):dO (wv m v) S.q=dO v.2 W.wt:=by
 unfold dO;rw[h.wt,List.findIdx_map];have b:∀e∈W.wt,((we m e).1==wv m v)=(e.1==v.2):=fun e he=>by
  have ho:=h.dx e he;have i:dM W.T (3,e.1):=⟨fun _=>⟨ho.g0,ho.g⟩,fun d=>absurd rfl d⟩
  have f:(we m e).1=wv m (3,e.1):=ac;rw[f];by_cases c:e.1=v.2
  ·have:((3,e.1):Int×Int)=v:=by rw[<-g,c]
   rw[this,c];simp
  ·have n1:_:=fun d=>c (by have:=h.A1 hb i hv d;rw[<-this])
   rw[beq_eq_false_iff_ne.2 n1,beq_eq_false_iff_ne.2 c]
 generalize W.wt=l at b
 induction l with
 |nil=>rfl
 |cons e l j=>
  rw[List.findIdx_cons,List.findIdx_cons];have f:((fun e=>e.1==wv m v)∘we m) e=(e.1==v.2):=b e List.mem_cons_self;rw[f,j (fun x k=>b x (aO _ k))]
theorem cy.popped (h:cy a S W m Y G)(hb:cI a S.s){v:Int×Int}(hv:dM W.T v):mI a (S.pop a (wv m v)) (W.pop v):=by
 obtain⟨k1,_⟩:=h.kx hb hv;unfold mI cq.pop ck.pop;by_cases c:iE W.T v=true
 ·rw[aI (k1.2 c),aI c,h.cO hb hv (q8.1 c).1];have f:S.q.length=W.wt.length:=by rw[h.wt,aW]
  rw[f];generalize dO v.2 W.wt=i;by_cases b:i<W.wt.length
  ·rw[aI b,aI b];have ho:=h.dx _ (getD_in (x:=(0,0)) b)
   refine⟨rfl,m,Y,G,?_,fun _=>⟨?_,⟨fun _=>⟨ho.h0,ho.h⟩,fun e=>absurd rfl e⟩⟩⟩
   ·have d:=h.beside (q:=W.wt.take i++W.wt.drop (i+1)) h.gv (fun e he=>h.dx e ((List.mem_append.1 he).elim (fun b=>List.mem_of_mem_take b) (fun b=>List.mem_of_mem_drop b)))
    rw[List.map_append,List.map_take,List.map_drop,<-h.rg,<-h.wt] at d;exact d
   ·show(S.q.getD i (0,0)).2=wv m (3,(W.wt.getD i (0,0)).2)
    rw[h.wt,jY (we m) W.wt i (0,0) (0,0) b,il rfl];rfl
  ·rw[aG b,aG b];exact⟨rfl,m,Y,G,h,fun e=>absurd (show(4:Int)=0 from e) aa⟩
 ·rw[aG (fun b=>c (k1.1 b)),aG c];exact⟨rfl,m,Y,G,h,fun e=>absurd (show(2:Int)=0 from e) aa⟩
theorem cy.KG (h:cy a S W m Y G)(hb:cI a S.s){v:Int×Int}(hv:dM W.T v):mI a (S.len a (wv m v)) (if jC W.T v=true then((1,((W.T.getD v.2.toNat t0).2.1.length:Int)),0,W) else((0,0),2,W)):=by
 obtain⟨_,b,_,_,k5⟩:=h.kx hb hv;unfold mI cq.len;by_cases c:jC W.T v=true
 ·have hl:=h.tl v.2.toNat;have ev:vc 1 ((W.T.getD v.2.toNat t0).2.1.length:Int)=0:=by generalize (W.T.getD v.2.toNat t0).2.1.length=n at hl;have:∀n:Fin 13,vc 1 ((n.val:Nat):Int)=0:=aa;exact this ⟨n,V⟩
  rw[aI (b.2 c),aI c,k5 (jD.1 c).1];exact⟨ev,m,Y,G,h,fun _=>⟨by rw[jm (show(1:Int)≠3 by decide)],dM.of aa ev⟩⟩
 ·rw[aG (fun d=>c (b.1 d)),aG c];exact⟨rfl,m,Y,G,h,fun e=>absurd (show(2:Int)=0 from e) aa⟩
theorem cy.got (h:cy a S W m Y G)(hb:cI a S.s){A:Nat}(b:A<12)(I:Int):mI a ((if ej a.N S.s.y S.s.g S.s.ws (S.s.rs.getD A 0) I=0 then ld a.N S.s.y S.s.g S.s.ws (cg (S.s.rs.getD A 0)+1+I) else 0),ej a.N S.s.y S.s.g S.s.ws (S.s.rs.getD A 0) I,S)
 ((if W.fc (W.rs.getD A (0,0)) I=0 then(W.T.getD (W.rs.getD A (0,0)).2.toNat t0).2.1.getD I.toNat (0,0) else(0,0)),W.fc (W.rs.getD A (0,0)) I,W):=by
 have code:=h.code hb b I;rw[h.Bu b];refine⟨code,m,Y,G,h,fun e=>?_⟩
 have c:=e;obtain⟨er,hv⟩:=h.root b;obtain⟨d,i,t3,g⟩:=m4 c;rw[er,h.tB hb hv] at d;have c3:(W.rs.getD A (0,0)).1=3:=by simpa using d
 obtain⟨z,al⟩:=hv.t c3;rw[er,(h.vt hb hv c3).2,h.kv.inv.full.stands hb.y1 (h.mem al),(h.parts al).2.1] at g;have hB:I.toNat<(W.T.getD (W.rs.getD A (0,0)).2.toNat t0).2.1.length:=V;have f:=h.fd _ al I.toNat hB;rw[Int.toNat_of_nonneg t3] at f;rw[aI c,aI (code.symm.trans c),er,(h.vt hb hv c3).2];exact⟨f,h.fv _ al _ (getD_in hB)⟩
end
section
variable {a:Wc}{S:cq}{W:ck}{m:Nat->Int}{Y G:List Int}{j:Nat}{g:gO}
def nE (a:Wc)(t:Int×cq)(b:Int×ck):Prop:=t.1=b.1/\∃c d e,cy a t.2 b.2 c d e
theorem cy.KH (h:cy a S W m Y G)(hb:cI a S.s){v b:Int×Int}(hv:dM W.T v)(g:dM W.T b):nE a (S.reg a (wv m v) (wv m b)) (W.reg v b):=by
 obtain⟨_,_,j,l,_⟩:=h.kx hb hv;obtain⟨k1,_⟩:=h.kx hb g;have n:S.r.length+S.q.length=W.rg.length+W.wt.length:=by rw[h.rg,h.wt,aW,aW]
 unfold nE cq.reg ck.reg;rw[n];by_cases c:v.1=3
 ·rw[aI (j.2 c)];by_cases d:iE W.T b=true
  ·rw[aI (k1.2 d),aI (show v.1=3/\iE W.T b=true from⟨c,d⟩)];by_cases f:24<=W.rg.length+W.wt.length
   ·rw[aI f,aI f];exact⟨rfl,m,Y,G,h⟩
   ·rw[aG f,aG f];obtain⟨i,o⟩:=q8.1 d;have p:iF W.T (b.2,v.2):=⟨(g.t i).1,(g.t i).2,o,(hv.t c).1,(hv.t c).2⟩
    have k:=h.beside (fun e he=>by
     rcases List.mem_append.1 he with q|q
     ·exact h.gv e q
     ·rw[List.mem_singleton.1 q];exact p) h.dx
    have s:(W.rg++[(b.2,v.2)]).map (we m)=S.r++[(wv m b,wv m v)]:=by rw[List.map_append,<-h.rg,il c,il i];rfl
    rw[s,<-h.wt] at k;exact⟨rfl,m,Y,G,k⟩
  ·rw[aG (fun q=>d (k1.1 q)),aG (fun q=>d q.2)];exact⟨rfl,m,Y,G,h⟩
 ·rw[aG (fun q=>c (j.1 q)),aG (fun q=>c q.1),l c];exact⟨rfl,m,Y,G,h⟩
theorem cy.KI (h:cy a S W m Y G)(hb:cI a S.s){A B:Nat}(b:A<12)(hB:B<12)(I:Int):nE a (ej a.N S.s.y S.s.g S.s.ws (S.s.rs.getD A 0) I,S.set a (S.s.rs.getD A 0) I (S.s.rs.getD B 0)) (W.set (W.rs.getD A (0,0)) I (W.rs.getD B (0,0))):=by
 have code:=h.code hb b I;unfold nE ck.set cq.set;rw[h.Bu b];refine⟨code,m,Y,G,?_⟩
 by_cases c0:W.gc A I=0
 ·rw[aI c0];have c:=code.trans c0;obtain⟨er,hv⟩:=h.root b;obtain⟨g,i⟩:=h.root hB;obtain⟨d,l,t3,f⟩:=m4 c;rw[er,h.tB hb hv] at d;have c3:(W.rs.getD A (0,0)).1=3:=by simpa using d
  obtain⟨z,al⟩:=hv.t c3;rw[er,(h.vt hb hv c3).2,h.kv.inv.full.stands hb.y1 (h.mem al),(h.parts al).2.1] at f;have hw:ge a.N S.s.y S.s.g S.s.ws (S.s.rs.getD A 0) I (S.s.rs.getD B 0)=S.s.ws.set (m (W.rs.getD A (0,0)).2.toNat+1+(I.toNat:Nat)).toNat (wv m (W.rs.getD B (0,0))):=by unfold ge;rw[aI c,er,(h.vt hb hv c3).2,g];rw[aI (jR h.kv.inv.full (h.mem al) t3 (by rw[(h.parts al).2.1];exact f)),Int.toNat_of_nonneg t3]
  exact h.store hb al V i hw (h.kv.set hb A B b I hB)
 ·rw[aG c0];have c:_:=fun e=>c0 (code.symm.trans e)
  obtain⟨j,k⟩:=oi c;rw[j,k];exact h
theorem KJ (n:Nat)(h:n<=12):hc 2 (n:Int)=0:=by have:∀n:Fin 13,hc 2 ((n.val:Nat):Int)=0:=aa;exact this ⟨n,V⟩
theorem cy.rt (h:cy a S W m Y G)(ok:dV a S j)(hb:cI a S.s)(hg:∀T wt,e4 T wt->dR T wt (g T wt)){k R A B n:Int}(I:Int)(p:dJ k R A B n=0):mI a (S.rt a k A.toNat B.toNat I n) (W.rt g a.N a.O k A.toNat B.toNat I n):=by
 have b:c8 k=3\/c8 k=6\/c8 k=7->A.toNat<12:=fun s=>by have:=lu p s;omega
 have hB:c8 k=6\/c8 k=7->B.toNat<12:=fun s=>by have:=lZ p s;omega
 have two:∀q∈[A.toNat,B.toNat],c8 k=7->q<12:=fun q hq s=>by simp at hq;omega
 unfold cq.rt ck.rt;by_cases d:k=1
 ·rw[aI d,aI d];subst d;have ev:=AX p;exact⟨ev,m,Y,G,h,fun _=>⟨by rw[jm (show(1:Int)≠3 by decide)],dM.of aa ev⟩⟩
 rw[aG d,aG d];by_cases e:k=3
 ·rw[aI e,aI e];subst e;obtain⟨er,hv⟩:=h.root (b aa)
  exact⟨rfl,m,Y,G,h,fun _=>⟨er,hv⟩⟩
 rw[aG e,aG e];by_cases u:k=4
 ·subst u;exact h.grown ok hb hg (show hc 1 2=0 by decide) (fun q hq=>two q hq aa)
 rw[aG u,aG u];by_cases v:k=5
 ·subst v;have hn:=AW p;have:=h.grown ok hb hg (kd:=2) (rl:=List.replicate n.toNat A.toNat) (by rw[List.length_replicate];exact KJ _ V) (fun q hq=>by rw[List.eq_of_mem_replicate hq];exact b aa)
  rw[List.map_replicate] at this
  exact this
 rw[aG v,aG v];by_cases w:k=6
 ·subst w;exact h.grown ok hb hg (show hc 3 2=0 by decide) (fun q hq=>two q hq aa)
 rw[aG w,aG w];by_cases x:k=7
 ·subst x;exact h.grown ok hb hg (show hc 4 2=0 by decide) (fun q hq=>two q hq aa)
 rw[aG x,aG x];by_cases t:k=8
 ·rw[aI t,aI t];exact h.grown ok hb hg aa (fun q hq=>by cases hq)
 rw[aG t,aG t];by_cases f:k=10
 ·rw[aI f,aI f];subst f;obtain⟨er,hv⟩:=h.root (b aa)
  rw[er];exact h.popped hb hv
 rw[aG f,aG f];by_cases i:k=11
 ·rw[aI i,aI i];subst i;exact h.got hb (b aa) I
 rw[aG i,aG i];by_cases l:k=13
 ·rw[aI l,aI l];subst l;obtain⟨er,hv⟩:=h.root (b aa)
  rw[er];exact h.KG hb hv
 rw[aG l,aG l];by_cases o:k=14
 ·rw[aI o,aI o];subst o;obtain⟨er,hv⟩:=h.root (b aa)
  obtain⟨C,D⟩:=h.root (hB aa)
  rw[er,C];by_cases c:W.rs.getD A.toNat (0,0)=W.rs.getD B.toNat (0,0)
  ·rw[aI (by rw[c]),aI c];exact⟨rfl,m,Y,G,h,fun _=>⟨by rw[jm (show(1:Int)≠3 by decide)],dM.of aa aa⟩⟩
  ·rw[aG (fun E=>c (h.A1 hb hv D E)),aG c];exact⟨rfl,m,Y,G,h,fun _=>⟨by rw[jm (show(1:Int)≠3 by decide)],dM.of aa aa⟩⟩
 rw[aG o,aG o];exact⟨rfl,m,Y,G,h,fun _=>⟨by rw[jm (show(0:Int)≠3 by decide),Kn],dM.nil _⟩⟩
theorem cy.hds (h:cy a S W m Y G)(ok:dV a S j)(hb:cI a S.s)(hg:∀T wt,e4 T wt->dR T wt (g T wt))(k R A B I n:Int):nE a (S.hd a k R A B I n) (W.ij g a.N a.O k R A B I n):=by
 have f:=hg _ _ h.iv;unfold cq.hd ck.ij;by_cases b:dJ k R A B n=0
 ·rw[aI b,aI b];have p:c8 k=3\/c8 k=6\/c8 k=7->A.toNat<12:=fun l=>by have:=lu b l;omega
  have hB:c8 k=6\/c8 k=7->B.toNat<12:=fun l=>by have:=lZ b l;omega
  by_cases d:k=9
  ·rw[aI d,aI d];subst d;obtain⟨er,hv⟩:=h.root (p aa)
   obtain⟨E,F⟩:=h.root (hB aa)
   rw[er,E];exact h.KH hb hv F
  rw[aG d,aG d];by_cases e:k=12
  ·rw[aI e,aI e];subst e;exact h.KI hb (p aa) (hB aa) I
  rw[aG e,aG e];by_cases i:k=15
  ·rw[aI i,aI i];exact⟨h.Br hb f,h.cut hb f⟩
  rw[aG i,aG i];by_cases e16:k=16
  ·rw[aI e16,aI e16];exact⟨h.ie hb f,h.dy hb f⟩
  rw[aG e16,aG e16];have ht:=h.rt ok hb hg I b;obtain⟨o1,q,_⟩:=ok.rt hb A.toNat B.toNat I (uT b)
  generalize S.rt a k A.toNat B.toNat I n=t at*;generalize W.rt g a.N a.O k A.toNat B.toNat I n=H at*;obtain⟨x,cd,J⟩:=t;obtain⟨v,K,L⟩:=H;obtain⟨s,u,w,C,o,D⟩:=ht;dsimp only at s o D q⊢;subst s;by_cases c:cd=0
  ·rw[aI c,aI c];obtain⟨ex,hv⟩:=D c;subst ex;exact⟨rfl,u,w,C,o.put q R.toNat hv⟩
  ·rw[aG c,aG c];exact⟨rfl,u,w,C,o⟩
 ·rw[aG b,aG b];exact⟨rfl,m,Y,G,h⟩
end
section
variable {B:Nat}{w w' w'':ax}
end
section
variable {w0 w w':ax}{mb bb vb fb:Nat}{s:cQ}{va vn vr:Value}{m:List dT}
end
section
variable {w0 w:ax}{mb bb vb fb:Nat}{s:cQ}{va vn vr:Value}{m:List dT}
end
section
variable {w0 w3 wr:ax}{mb bb vb fb:Nat}{vr va vn:Value}{m1 m':List dT}{P:List (Int×Int)×cQ}{la:Option Addr}{lc:Nat}
end
section
variable {rp rb:Nat}{b_ bZ:Int}{F:Nat->Prop}{s:ck}{w:ax}
end
namespace pR
def begins (n:Nat):Code->Bool
 |.region m _ _=>m==n
 |.seq a _=>begins n a
 |_=>false
def find (n:Nat):Code->Option Code
 |.seq a b=>match begins n a with
  |true=>some (.seq a b)
  |false=>match find n a with
   |some c=>some c
   |none=>find n b
 |.cond _ a b=>match find n a with
  |some c=>some c
  |none=>find n b
 |.block _ c=>find n c
 |.loop c=>find n c
 |.scope c=>find n c
 |_=>none
theorem gy {c:Type}(l:List c)(i:Nat)(a b:c):(l.set i a).set i b=l.set i b:=Z
section
variable {rp rb:Nat}{b_ bZ:Int}{F F':Nat->Prop}{s:ck}{w wr:ax}{Kk:Option Addr}{ci j:Nat}{L:List Bool}
end
section
variable {rp rb:Nat}{b_ bZ:Int}{F:Nat->Prop}{s:ck}{w:ax}
end
end pR
namespace dU
def begins:=pR.begins
abbrev find:=pR.find
section
variable {w0 w3 wb:ax}{mb bb vb fb:Nat}{vr:Value}
end
end dU
namespace pR
section
variable {rp rb:Nat}{b_ bZ:Int}{F:Nat->Prop}{s:ck}{w:ax}
end
end pR
namespace dU
section
variable {w0 w3 wb:ax}{mb bb vb fb:Nat}{vr:Value}
end
end dU
namespace dU
section
variable {w0 w:ax}{mb bb vb fb rp:Nat}{s:cQ}{va vn vr:Value}{m:List dT}{T:List cD}{wt:List b7}{n':Nat}
end
end dU
namespace dU
section
variable {w:ax}{rp:Nat}{T:List cD}{wt:List b7}{l:List (Int×Int)}{ra:Option Addr}{rc:Nat}
end
end dU
end Go.Proofs.YtpkjkjhanlbcoaaGreat
