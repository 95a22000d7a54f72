import Derived.Test.YtpkjkjhanlbcoaaGreatJ22
namespace Go.Proofs.YtpkjkjhanlbcoaaGreat
open Go.RowKit W Kp ck
theorem Bq {P:Prop}(h:P:=by
 refine List.map_congr_left (fun e he=>?_)
 obtain⟨z1,z2⟩:=List.mem_filter.1 he;have h5:=hE e z1;refine vu e h5 z2 ?_;rcases List.mem_append.1 z1 with d|d
 ·exact hcl _ h5.g.1 z2 (3,e.2) (aL (aL (aL ⟨h5.k,e,d,by have:=h5.g0;omega,rfl⟩))) rfl
 ·exact(hs.c e d).2):P:=h
theorem Br {P:Prop}(h:P:=by
 obtain⟨q1,q2⟩:=w.ep c hc;have q3:=li.mi.bd q1;have:=iz q3.2.2 (aL (aL q2))
 exact⟨hD aa aa,hD aa aa⟩):P:=h
theorem Bt {P:Prop}(h:P:=by
 refine List.map_congr_left (fun e he=>?_)
 obtain⟨z1,z2⟩:=List.mem_filter.1 he;rw[bv] at z2;exact vu e (hR.gv e z1) z2.2 (hup _ z2.1)):P:=h
theorem Bu {P:Prop}(h:P:=by
 obtain⟨q1,q2⟩:=w.wk c hc;have q3:=li.mi.bd q1;have:=iz q3.2.2 (aL (aM q2))
 exact hD aa aa):P:=h
section
variable {a:Wc}{S:cv}{W:cn}{m:Nat->Int}{Y G:List Int}
theorem cD.T (h:cD a S W m Y G)(hb:cM a S.s):(S.s.j0 a).T=G++Y:=(k3 h.kv.inv.full hb).2.2
theorem cD.memT (h:cD a S W m Y G)(hb:cM a S.s){i:Nat}(hi:cz W.T i):m i∈(S.s.j0 a).T:=(h.T hb▸(by grind [mem]))
theorem cD.vv (h:cD a S W m Y G)(hb:cM a S.s){c:Int}(hc:c∈(S.s.j0 a).T):∃i,cz W.T i/\m i=c:=by
 rw[h.T hb] at hc
 grind [gh]
theorem cD.jt (h:cD a S W m Y G)(hb:cM a S.s){v:Int×Int}(hv:dG W.T v):(S.s.j0 a).jt (wv m v)=(v.1==3):=by
 unfold cf.jt;rw[h.vj hb hv];by_cases c:v.1=3
 ·rw[(h.vt hb hv c).2,c,List.contains_iff_mem.2 (h.memT hb (hv.t c).2)];rfl
 grind
theorem cD.kG (h:cD a S W m Y G)(hb:cM a S.s){i:Nat}(hi:cz W.T i):(S.s.j0 a).jt (ew 3 (m i))=true/\cq (ew 3 (m i))=m i:=by grind [word,memT,cf.jt]
theorem cD.al (h:cD a S W m Y G)(hb:cM a S.s)(s:cy){i:Nat}(hi:cz W.T i):(S.s.j0 a).al s (ew 3 (m i))=true↔s.f (m i)≠-1:=by grind [kG,cf.al,cf.cX]
theorem cD.oK (h:cD a S W m Y G)(hb:cM a S.s)(s:cy){v:Int×Int}(hv:dG W.T v)(b:v.1=3):(S.s.j0 a).cX s (wv m v)=false↔s.f (m v.2.toNat)≠-1:=by rw[iP b,<-h.al hb s (hv.t b).2];unfold cf.al;simp
theorem cD.marked (h:cD a S W m Y G)(hb:cM a S.s){s:cy}{q:List ce}(g:fN (S.s.j0 a) s q)(hq:∀e∈W.wt,we m e∈q):hP W.T W.wt (fun i=>cz W.T i/\s.f (m i)≠-1):=by
 intro i _ p v hv d;obtain⟨hi,j⟩:=p;have hk:nh (S.s.j0 a) s (m i):=by
  rcases g.j9.cmp _ (h.memT hb hi) j with c|c|c
  all_goals grind [fN.td]
 obtain⟨l,x,_⟩:=h.parts hi;have l:pk ((S.s.j0 a).ld (m i))=(W.T.getD i t0).1:=l;rcases hv with⟨c,hm⟩|⟨c,e⟩|⟨c,B,e⟩|⟨c,f,he,F,N⟩
 ·obtain⟨k,ab,_,t⟩:=h.field hi hm;have b:=h.fv i hi v hm;refine⟨(b.t d).2,(h.oK hb s b d).1 ?_⟩
  have:=hk.p aa k (by show(k:Int)<pf (ld a.N S.s.y S.s.g S.s.ws (m i));omega)
  have e:(S.s.j0 a).ld (m i+1+k)=wv m v:=t
  grind
 ·have hl:=h.two hi aa;have hm:v∈(W.T.getD i t0).2.1:=(by grind)
  have b:=h.fv i hi v hm;refine⟨(b.t d).2,(h.oK hb s b d).1 ?_⟩
  have:=hk.w aa;have u:(S.s.j0 a).ld (m i+2)=wv m v:=by
   have:=h.fd i hi 1 aa;rw[<-e] at this
   show ld a.N S.s.y S.s.g S.s.ws (m i+2)=_
   grind
  grind
 ·have hl:=h.two hi aa;have hm:v∈(W.T.getD i t0).2.1:=by simp_all
  have b:=h.fv i hi v hm;refine⟨(b.t d).2,(h.oK hb s b d).1 ?_⟩
  have u:(S.s.j0 a).ld (m i+2)=wv m v:=by
   have:=h.fd i hi 1 aa;rw[<-e] at this
   show ld a.N S.s.y S.s.g S.s.ws (m i+2)=_
   grind
  have fU:(S.s.j0 a).ld (m i+1)=wv m ((W.T.getD i t0).2.1.getD 0 (0,0)):=by
   have:=h.fd i hi 0 aa;show ld a.N S.s.y S.s.g S.s.ws (m i+1)=_
   grind
  rcases hk.e aa with n|n
  ·have ad:=g.ep _ n
   grind [fv,jt,oK,cf.cX]
  grind
 ·have o:=h.dB f he;have ag:f.1.toNat=i:=aa;have w:v.2.toNat=f.2.toNat:=by grind
  rw[w];refine⟨o.h,(h.al hb s o.h).1 ?_⟩
  rcases g.wq _ (hq f he) with c|c
  ·exact c
  ·exfalso;have:=(h.al hb s hi).2 j;have c:(S.s.j0 a).al s (ew 3 (m f.1.toNat))=false:=c
   grind
def ie (W:cn)(m:Nat->Int)(X:Nat->Prop)(c:Int):Prop:=∃i,cz W.T i/\m i=c/\X i
theorem cD.mP (h:cD a S W m Y G){X:Nat->Prop}{i:Nat}(hi:cz W.T i):ie W m X (m i)↔X i:=
 ⟨fun⟨j,c,e,b⟩=>(h.inj j i c hi e▸b),fun b=>⟨i,hi,rfl,b⟩⟩
theorem cD.closed (h:cD a S W m Y G)(hb:cM a S.s){X:Nat->Prop}(u:hP W.T W.wt X)(hr:∀v∈W.rs,v.1=3->X v.2.toNat):nt (S.s.j0 a) (ie W m X)/\pF (S.s.j0 a) (ie W m X) (W.wt.map (we m)):=by
 have key:∀{i:Nat}{v:Int×Int},cz W.T i->X i->dG W.T v->jg W.T W.wt X i v->(S.s.j0 a).jt (wv m v)=true->ie W m X (cq (wv m v)):=fun {i v} hi f hv hk d=>by
  rw[h.jt hb hv] at d;have g:v.1=3:=by simpa using d
  rw[(h.vt hb hv g).2];exact⟨_,(hv.t g).2,rfl,u i hi.1 f v hk g⟩
 have fl:∀{i:Nat},cz W.T i->∀k:Nat,(k:Int)<pf ((S.s.j0 a).ld (m i))->k<(W.T.getD i t0).2.1.length:=fun {i} hi k hk=>by have hk:(k:Int)<pf (ld a.N S.s.y S.s.g S.s.ws (m i)):=hk;rw[(h.parts hi).2.1] at hk;omega
 have kd:∀{i:Nat},cz W.T i->pk ((S.s.j0 a).ld (m i))=(W.T.getD i t0).1:=fun {i} hi=>(h.parts hi).1;have p:∀{i:Nat},cz W.T i->(W.T.getD i t0).2.1.length=2->(S.s.j0 a).ld (m i+2)=wv m ((W.T.getD i t0).2.1.getD 1 (0,0))/\(S.s.j0 a).ld (m i+1)=wv m ((W.T.getD i t0).2.1.getD 0 (0,0)):=fun {i} hi hl=>by
  constructor
  ·show ld a.N S.s.y S.s.g S.s.ws (m i+2)=_;rw[<-(h.fd i hi 1 aa)]
   congr 1
   omega
  ·show ld a.N S.s.y S.s.g S.s.ws (m i+1)=_;rw[<-(h.fd i hi 0 aa)]
   congr 1
   omega
 refine⟨⟨fun i hi d=>?_,fun c hc n hk i hi d=>?_,fun c hc n hk d=>?_,fun c hc n hk w d=>?_⟩,fun e he hg d=>?_⟩
 ·obtain⟨er,hv⟩:=h.root hi;have er:(S.s.j0 a).s.rs.getD i 0=wv m (W.rs.getD i (0,0)):=er;rw[er] at d⊢;rw[h.jt hb hv] at d;have g:(W.rs.getD i (0,0)).1=3:=by simpa using d
  rw[(h.vt hb hv g).2];exact⟨_,(hv.t g).2,rfl,hr _ (getD_in ((h.rl▸hi))) g⟩
 ·obtain⟨j,b,rfl,f⟩:=n;have hl:=fl b i hi;have F:(S.s.j0 a).ld (m j+1+i)=wv m ((W.T.getD j t0).2.1.getD i (0,0)):=h.fd j b i hl;rw[F] at d⊢;rw[kd b] at hk;exact key b f (h.fv j b _ (getD_in hl)) (aM ⟨hk,getD_in hl⟩) d
 ·obtain⟨j,b,rfl,f⟩:=n;rw[kd b] at hk;have hl:=h.two b (aL (aM hk))
  rw[(p b hl).1] at d⊢;exact key b f (h.fv j b _ (getD_in aa)) (aL (aM ⟨hk,rfl⟩)) d
 ·obtain⟨j,b,rfl,f⟩:=n;rw[kd b] at hk;have hl:=h.two b (aL (aL hk))
  rw[(p b hl).1] at d⊢;rw[(p b hl).2] at w;have s:=h.fv j b _ (getD_in (x:=((0,0):Int×Int)) (show 0<(W.T.getD j t0).2.1.length by omega))
  refine key b f (h.fv j b _ (getD_in aa)) (aL (aL (aM ⟨hk,fun t=>?_,rfl⟩))) d;have q:=w (by rw[h.jt hb s];simpa using t)
  rw[(h.vt hb s t).2] at q;exact(h.mP (s.t t).2).1 q
 ·obtain⟨o,B,rfl⟩:=List.mem_map.1 he;have l:=h.dB o B;obtain⟨g1,g2⟩:=h.kG hb l.g;obtain⟨ab,N⟩:=h.kG hb l.h;have q:=hg g1;have q:ie W m X (cq (ew 3 (m o.1.toNat))):=q;rw[g2] at q;show ie W m X (cq (ew 3 (m o.2.toNat)))
  rw[N];exact⟨_,l.h,rfl,u _ l.g.1 ((h.mP l.g).1 q) (3,o.2) (aL (aL (aL ⟨l.k,o,B,by have:=l.g0;omega,rfl⟩))) rfl⟩
structure Rg (a:Wc)(S:cv)(W:cn)(m:Nat->Int)(t:cy×List ce)(L:List Bool)(C:List ce):Prop where
 dm:fN (S.s.j0 a) t.1 t.2
 sn:dK (S.s.j0 a) (fun _=>True) t.1
 ok:gH W.T L
 gd:∀i,cz W.T i->(t.1.f (m i)≠-1↔cw L i)
 q:t.2=(W.wt++C).map (we m)
 c:∀e∈C,e∈W.rg/\cw L e.2.toNat
 r:∀v∈W.rs,v.1=3->cw L v.2.toNat
theorem Rg.is (c:cD a S W m Y G)(hb:cM a S.s){t:cy×List ce}{L:List Bool}{C:List ce}(h:Rg a S W m t L C){x:Int}(b:cz W.T x.toNat):(S.s.j0 a).al t.1 (ew 3 (m x.toNat))=cV L x:=by
 unfold cV;have d:=c.al hb t.1 b;have e:=h.gd _ b
 grind [cw]
theorem Rg.vx (b:cD a S W m Y G)(hb:cM a S.s){g:List Bool->List Bool}(hg:dL W.T W.wt g):nJ (S.s.j0 a).fO g (we m) W.rg (Rg a S W m):=by
 refine⟨fun t L C e h he hn=>?_,fun t L C e h he hy=>?_⟩
 ·have d:=b.gv e he;rw[<-Rg.is b hb h d.g] at hn;exact m4 (o:=dU cy) (is:=fun s x=>(S.s.j0 a).al s.1 x) (kp:=(S.s.j0 a).ke) (s:=t) (e:=we m e) hn
 ·have d:=b.gv e he;rw[<-Rg.is b hb h d.g] at hy;obtain⟨k1,ap,p,ar⟩:=h.dm.j9.ke (t:=t) (ew 3 (m e.2.toNat))
  have u:(S.s.j0 a).fO t (we m e)=(true,(((S.s.j0 a).ke t (ew 3 (m e.2.toNat))).2.1,t.2++[we m e])):=by refine(m5 (o:=dU cy) (is:=fun s x=>(S.s.j0 a).al s.1 x) (kp:=(S.s.j0 a).ke) (s:=t) (e:=we m e) hy).trans ?_;show(true,(((S.s.j0 a).ke t (ew 3 (m e.2.toNat))).2.1,((S.s.j0 a).ke t (ew 3 (m e.2.toNat))).2.2++[we m e]))=_;rw[p]
  have w:=(h.dm.cm (we m e)).1;rw[u] at w;rw[u];obtain⟨o1,aB,aF⟩:=h.ok.put d.h;have B:=hg _ o1.len o1.al;obtain⟨n1,ad,ag⟩:=h.ok.fG hg b.iv d.h;have f:=ag;obtain⟨c1,c2⟩:=b.closed hb B.cl (fun v hv F=>f _ (h.r v hv F))
  have c3:pF (S.s.j0 a) (ie W m (cw (fG g L e.2))) t.2:=by
   rw[h.q,List.map_append];intro x k;rcases List.mem_append.1 k with l|l
   ·exact c2 x l
   ·obtain⟨n,ai,rfl⟩:=List.mem_map.1 l;obtain⟨al,am⟩:=h.c n ai;have N:=b.gv n al;intro _ _;show ie W m _ (cq (ew 3 (m n.2.toNat)))
    rw[(b.kG hb N.h).2];exact⟨_,N.h,rfl,f _ am⟩
  have s0:dK (S.s.j0 a) (ie W m (cw (fG g L e.2))) t.1:=⟨fun c hc ab=>by obtain⟨i,hi,rfl⟩:=b.vv hb hc;exact⟨i,hi,rfl,f i (by grind [gd])⟩,h.sn.ea⟩
  have s1:=dK.ke c1 c3 s0 h.dm.j9 (ew 3 (m e.2.toNat)) (fun _=>by rw[(b.kG hb d.h).2];exact⟨_,d.h,rfl,ad⟩)
  refine⟨rfl,w,⟨fun _ _ _=>trivial,s1.ea⟩,n1,fun i hi=>⟨fun ab=>?_,fun an=>?_⟩,?_,fun x k=>?_,fun v hv F=>(by grind [r])⟩
  ·exact(b.mP hi).1 (s1.snd _ (b.memT hb hi) ab)
  ·have ao:=b.marked hb k1 (fun x k=>by
    rw[p,h.q]
    grind)
   refine(B.lt _ ao (fun j aR=>?_) i an).2
   grind [gH.al,gd,dP.f,cD.al,cw]
  ·grind [q]
  grind [c]
theorem Rg.start (b:cD a S W m Y G)(hb:cM a S.s){g:List Bool->List Bool}(hg:dL W.T W.wt g):Rg a S W m (S.j2 a) (W.c0 g true) []:=by
 have o:=c8.start hb.n1 hb.o1 hb.y1 hb.g1;obtain⟨m1,_,F⟩:=(de.start o).cO 12;obtain⟨c,N,l⟩:=de.sp (t:=((S.s.j0 a).cO g6 12,S.q)) m1;have l:(S.j2 a).2=S.q:=l;have d:=b.first true;have p:=hg _ d.len d.al;obtain⟨n1,ab⟩:=hg.ok b.iv d;have hr:_:=fun v hv f=>ab _ ((kI _ _ _ _).2 ⟨((b.rv v hv).t f).2.1,aL ⟨v,hv,f,rfl⟩⟩)
 obtain⟨c1,c2⟩:=b.closed hb p.cl hr;rw[<-b.wt] at c2;have cO:∀n,n<=12->dK (S.s.j0 a) (ie W m (cw (W.c0 g true))) ((S.s.j0 a).cO g6 n):=fun n=>by
  induction n with
  |zero=>
   intro _;show dK _ _ g6;exact⟨fun _ _ q=>absurd rfl q,fun _ ha=>by simp[g6] at ha⟩
  |succ n ad=>
   intro hn;obtain⟨m1,_⟩:=(de.start (X:=fun _=>False) o).cO n;exact(ad aa).ma _ (c1.rt n aa) (m1.ma _).2.1
 have s1:dK (S.s.j0 a) (ie W m (cw (W.c0 g true))) (S.j2 a).1:=dK.c9 c1 _ ((S.s.j0 a).cO g6 12,S.q) c2 (cO 12 aa) m1;have c:fN (S.s.j0 a) (S.j2 a).1 (S.j2 a).2:=c;refine⟨c,⟨fun _ _ _=>trivial,s1.ea⟩,n1,fun i hi=>⟨fun q=>(b.mP hi).1 (by grind [dK.snd,cD.memT]),fun ag=>?_⟩,?_,fun e he=>(by grind),hr⟩
 ·refine(p.lt _ (b.marked hb c (fun x al=>by rw[l,b.wt];grind)) (fun j s=>?_) i ag).2;refine⟨d.al j s,?_⟩
  obtain⟨_,u⟩:=(kI _ _ _ _).1 s;rcases u with⟨_,_,u⟩|⟨v,hv,f,e⟩
  ·grind
  ·obtain⟨k,hk,fU⟩:=List.mem_iff_getElem.1 hv;have w:k<12:=(b.rl▸hk)
   obtain⟨er,B⟩:=b.root w;have ai:W.rs.getD k (0,0)=v:=by simp_all
   rw[ai] at er B;have j0:=F k w;have er:(S.s.j0 a).s.rs.getD k 0=wv m v:=er;rw[er] at j0;rw[<-e];exact(b.oK hb _ B f).1 (N.cX j0)
 grind [cD.wt]
theorem Rg.settled (b:cD a S W m Y G)(hb:cM a S.s){g:List Bool->List Bool}(hg:dL W.T W.wt g):Rg a S W m (S.cH a,((S.s.j0 a).e_ (S.j2 a) S.r).2) (W.cR g true).1 (W.cR g true).2.1:=by
 have h0:=Rg.start b hb hg;have j:S.r.filter (fun e=>!(S.s.j0 a).al (S.j2 a).1 e.2)=(W.rg.filter (fun e=>!cV (W.c0 g true) e.2)).map (we m):=by
  rw[b.rg];exact lS _ _ _ W.rg (fun e he=>by
   show(!(S.s.j0 a).al _ (ew 3 (m e.2.toNat)))=_
   grind [is,gq.h,cD.gv])
 obtain⟨c,_⟩:=(Rg.vx b hb hg).turns _ (W.rg.filter (fun e=>!cV _ e.2)) (S.j2 a) _ [] (fun e he=>(by grind)) h0;have d:eK (S.s.j0 a).fO ((S.r.filter (fun e=>!(S.s.j0 a).al (S.j2 a).1 e.2)).length+1) (S.j2 a) (S.r.filter (fun e=>!(S.s.j0 a).al (S.j2 a).1 e.2))=eK (S.s.j0 a).fO (W.rg.length+1) (S.j2 a) ((W.rg.filter (fun e=>!cV (W.c0 g true) e.2)).map (we m)):=by grind [rH]
 have f:(S.s.j0 a).e_ (S.j2 a) S.r=(eK (S.s.j0 a).fO (W.rg.length+1) (S.j2 a) ((W.rg.filter (fun e=>!cV (W.c0 g true) e.2)).map (we m))).1:=by rw[<-d];rfl
 have i:(S.cH a,((S.s.j0 a).e_ (S.j2 a) S.r).2)=(S.s.j0 a).e_ (S.j2 a) S.r:=rfl;rw[i,f];exact c
end
section
variable {a:Wc}{S:cv}{W:cn}{m:Nat->Int}{Y G D:List Int}
theorem cD.f_ (h:cD a S W m Y G)(hb:cM a S.s):(S.s.k0 a).T=Y:=oC h.kv.inv.full hb.n1 hb.y1 hb.o1 hb.g1
theorem cD.kO (h:cD a S W m Y G)(hb:cM a S.s){v:Int}(b:v∈Y):v∉G:=fun c=>by have q1:=h.kv.inv.full.iH v b;have d:=h.kv.inv.full.io v c;have:=hb.y1;omega
theorem cD.oL (h:cD a S W m Y G)(hb:cM a S.s){i:Nat}(hi:cz W.T i):(S.s.k0 a).cP (ew 3 (m i))=true↔m i∈Y:=by grind [word,f_,cj.cP]
theorem cD.rR (h:cD a S W m Y G)(hb:cM a S.s){v:Int×Int}(hv:dG W.T v)(hy:(S.s.k0 a).cP (wv m v)=true):v.1=3/\cq (wv m v)=m v.2.toNat:=by grind [vj,vt,cj.cP]
theorem cD.kj (h:cD a S W m Y G)(hb:cM a S.s)(s:cr){i:Nat}(hi:cz W.T i):(S.s.k0 a).al s (ew 3 (m i))=true↔(m i∈G\/s.f (m i)≠-1):=by grind [oL,word,mem,kO,cj.al,cj.ls]
theorem cD.KF (h:cD a S W m Y G)(hb:cM a S.s){s:cr}{i:Nat}(hi:cz W.T i)(hs:(S.s.k0 a).al s (ew 3 (m i))=true):∃b,(S.s.k0 a).or (S.s.z0 G) s (m i) b:=by
 rcases(h.kj hb s hi).1 hs with c|c
 ·exact⟨m i,aM ⟨rfl,c⟩⟩
 ·rcases h.mem hi with e|e
  ·exact⟨s.f (m i),aL ⟨(h.f_ hb▸e),rfl,c⟩⟩
  ·exact⟨m i,aM ⟨rfl,e⟩⟩
def pW (a:Wc)(S:cv)(G D:List Int):Prop:=∀v∈G,v∉D->∀i,0<=i->i<pf ((S.s.k0 a).l0 (S.s.z0 G) v)->(S.s.k0 a).cP ((S.s.k0 a).l0 (S.s.z0 G) (v+1+i))=false
theorem cD.vy (h:cD a S W m Y G)(hb:cM a S.s)(hc:pW a S G D){q0:List ce}{t:cr×List ce}(d:lq (S.s.k0 a) (S.s.z0 G) D q0 t)(hq:∀e∈W.wt,∃n,n<q0.length/\q0.getD n (0,0)=we m e):
 hP W.T W.wt (fun i=>cz W.T i/\(S.s.k0 a).al t.1 (ew 3 (m i))=true):=by
 obtain⟨H,li,bb⟩:=d.li;have hz:∀v,(v∈(S.s.k0 a).T\/v∈(S.s.z0 G).G)->∀i,0<=i->i<pf ((S.s.k0 a).l0 (S.s.z0 G) v)->dd ((S.s.k0 a).l0 (S.s.z0 G) (v+1+i))=true->cq ((S.s.k0 a).l0 (S.s.z0 G) (v+1+i))∈(S.s.k0 a).T\/cq ((S.s.k0 a).l0 (S.s.z0 G) (v+1+i))∈(S.s.z0 G).G:=fun v hv i al g ha=>by rw[h.f_ hb] at hv⊢;exact h.kv.inv.fd v hv i al g ha
 have told:∀{q x:Int}{j:Nat},cz W.T j->q=ew 3 (m j)->(S.s.k0 a).ml t.1 q x->(S.s.k0 a).al t.1 x=true->(S.s.k0 a).al t.1 (ew 3 (m j))=true:=fun {q x j} w B hm bd=>by
  rcases hm with e|⟨_,p,_⟩
  ·simp_all
  ·rw[B,(h.word hb w).2.2] at p;exact(h.kj hb t.1 w).2 (aL p)
 intro i _ am v hv s;obtain⟨hi,hs⟩:=am;obtain⟨b,o⟩:=h.KF hb hi hs;have B:(S.s.k0 a).ld t.1 b=ld a.N S.s.y S.s.g S.s.ws (m i):=li.mi.hd _ _ o;obtain⟨be,bg,_⟩:=h.parts hi;have bi:∀{n:Nat},n<(W.T.getD i t0).2.1.length->((W.T.getD i t0).2.1.getD n (0,0)).1=3->¬((W.T.getD i t0).1=3/\n=0)->¬((W.T.getD i t0).1=4/\b∈t.1.ep)->(S.s.k0 a).al t.1 (ew 3 (m ((W.T.getD i t0).2.1.getD n (0,0)).2.toNat))=true:=fun {n} hn F n1 bl=>by
  have u:=h.fv i hi _ (getD_in (x:=((0,0):Int×Int)) hn)
  have an:=(u.t F).2;have N:(S.s.k0 a).l0 (S.s.z0 G) (m i+1+n)=ew 3 (m ((W.T.getD i t0).2.1.getD n (0,0)).2.toNat):=(h.fd i hi n hn).trans (iP F)
  have g:(n:Int)<pf ((S.s.k0 a).l0 (S.s.z0 G) (m i)):=by
   show(n:Int)<pf (ld a.N S.s.y S.s.g S.s.ws (m i))
   omega
  have ab:=li.mi.fd (m i) b o n (Int.natCast_nonneg n) g;refine told an N ab ?_;rcases ab with e|⟨y1,p,ao⟩
  ·rw[N] at e;have ha:dd ((S.s.k0 a).ld t.1 (b+1+n))=true:=(by grind [word])
   have ap:(n:Int)<pf ((S.s.k0 a).ld t.1 b):=by simp_all
   rcases li.fields d.he hz hc (li.mi.mem o) (Int.natCast_nonneg n) ap ha with c|⟨c1,c2,_⟩|⟨c1,c2⟩
   ·exact q_ (li.mi.pB c)
   all_goals grind
  ·have ar:=li.mi.je (li.mi.fh _ (nP y1) p)
   have bn:=li.mi.ci.hN';have bo:=li.mi.ci.hO;have bp:=li.mi.ci.hg;rw[ao];exact q_ (nr li.mi.ci ar.1 aa)
 rcases hv with⟨c,hm⟩|⟨c,e⟩|⟨c,aF,e⟩|⟨c,k,he,br,aR⟩
 ·obtain⟨n,hn,en,_⟩:=h.field hi hm;have u:=h.fv i hi v hm;refine⟨(u.t s).2,?_⟩
  grind
 ·have hl:=h.two hi (aL (aM c))
  have hm:v∈(W.T.getD i t0).2.1:=by simp_all
  refine⟨((h.fv i hi v hm).t s).2,?_⟩
  grind
 ·have hl:=h.two hi (aL (aL c))
  have hm:v∈(W.T.getD i t0).2.1:=by simp_all
  refine⟨((h.fv i hi v hm).t s).2,?_⟩
  have ad:=h.fv i hi _ (getD_in (x:=((0,0):Int×Int)) (show 0<(W.T.getD i t0).2.1.length by omega))
  have bs:b∉t.1.ep:=fun a0=>by
   have a1:b+1+0=b+1:=aa;have g:(0:Int)<pf ((S.s.k0 a).l0 (S.s.z0 G) (m i)):=by
    show(0:Int)<pf (ld a.N S.s.y S.s.g S.s.ws (m i))
    omega
   have f:=d.ep b a0;rw[<-a1] at f;have fU:(S.s.k0 a).l0 (S.s.z0 G) (m i+1+0)=wv m ((W.T.getD i t0).2.1.getD 0 (0,0)):=h.fd i hi 0 aa;rw[(li.mi.rQ o (Int.le_refl 0) g (mO f)),fU] at f;obtain⟨ag,a2⟩:=h.rR hb ad (mO f)
   have q1:=(cj.m7 f).2.2;have l:=(cj.m7 f).2.1;rw[a2] at q1 l;rw[h.f_ hb] at l;rcases(h.kj hb t.1 (ad.t ag).2).1 (aF ag).2 with w1|w1
   all_goals grind [kO]
  grind
 ·have ai:=h.dB k he;have bt:k.1.toNat=i:=aa;have a3:v.2.toNat=k.2.toNat:=by rw[aR]
  rw[a3];refine⟨ai.h,?_⟩
  obtain⟨n,hn,en⟩:=hq k he;obtain⟨q1,l⟩:=d.q.eq n hn;rw[en] at q1 l;have ba:t.2.getD n (0,0)∈t.2:=getD_in ((d.q.len▸hn))
  refine told ai.h rfl l ?_;rcases d.wq _ ba with w1|w1
  ·exact w1
  ·exfalso;have q1:(t.2.getD n (0,0)).1=ew 3 (m k.1.toNat):=q1
   grind
theorem cD.Bv (h:cD a S W m Y G)(hb:cM a S.s){X:Nat->Prop}(q:hP W.T W.wt X)(ho:∀i,cz W.T i->(W.T.getD i t0).2.2.1=true->X i):lj (S.s.k0 a) (S.s.z0 G) (ie W m X):=by
 have key:∀{i:Nat}{v:Int×Int},cz W.T i->X i->dG W.T v->jg W.T W.wt X i v->(S.s.k0 a).cP (wv m v)=true->ie W m X (cq (wv m v)):=fun {i v} hi g hv hk f=>by obtain⟨o,e⟩:=h.rR hb hv f;rw[e];exact⟨_,(hv.t o).2,rfl,q i hi.1 g v hk o⟩
 have kd:∀{i:Nat},cz W.T i->pk ((S.s.k0 a).l0 (S.s.z0 G) (m i))=(W.T.getD i t0).1/\pf ((S.s.k0 a).l0 (S.s.z0 G) (m i))=(W.T.getD i t0).2.1.length:=fun {i} hi=>⟨(h.parts hi).1,(h.parts hi).2.1⟩
 have s:∀{i:Nat},cz W.T i->∀{n:Nat},n<(W.T.getD i t0).2.1.length->(S.s.k0 a).l0 (S.s.z0 G) (m i+1+n)=wv m ((W.T.getD i t0).2.1.getD n (0,0)):=fun {i} hi {n} hn=>h.fd i hi n hn;refine⟨fun b p=>?_,fun c _ k hk i hi f=>?_,fun c _ k hk f=>?_,fun c _ k hk t f=>?_⟩
 ·obtain⟨i,hi,e⟩:=h.gh b (aL p)
  refine⟨i,hi,e,ho i hi ?_⟩
  cases c:(W.T.getD i t0).2.2.1
  ·exact absurd (e▸p) (h.kO hb (h.iC i hi c))
  ·rfl
 ·obtain⟨j,d,rfl,g⟩:=k;rw[(kd d).2] at hi;have hl:i<(W.T.getD j t0).2.1.length:=aa;rw[s d hl] at f⊢;rw[(kd d).1] at hk;exact key d g (by grind [fv]) (aM ⟨hk,getD_in hl⟩) f
 ·obtain⟨j,d,rfl,g⟩:=k;rw[(kd d).1] at hk;have hl:=h.two d aa;have l:(S.s.k0 a).l0 (S.s.z0 G) (m j+1+1)=wv m ((W.T.getD j t0).2.1.getD 1 (0,0)):=(by grind)
  rw[l] at f⊢;exact key d g (by grind [fv]) (aL (aM ⟨hk,rfl⟩)) f
 ·obtain⟨j,d,rfl,g⟩:=k;rw[(kd d).1] at hk;have hl:=h.two d aa;have l:(S.s.k0 a).l0 (S.s.z0 G) (m j+1+1)=wv m ((W.T.getD j t0).2.1.getD 1 (0,0)):=(by grind)
  have u:(S.s.k0 a).l0 (S.s.z0 G) (m j+1+0)=wv m ((W.T.getD j t0).2.1.getD 0 (0,0)):=(by grind)
  rw[l] at f⊢;rw[u] at t;have w:=h.fv j d _ (getD_in (x:=((0,0):Int×Int)) (show 0<(W.T.getD j t0).2.1.length by omega))
  refine key d g (by grind [fv]) (aL (aL (aM ⟨hk,fun B=>?_,rfl⟩))) f;have F:=(w.t B).2;rcases h.mem F with w1|w1
  ·grind [oL,iP,mP,vt]
  grind [kO,iC]
theorem cD.Bw (h:cD a S W m Y G)(hb:cM a S.s){X:Nat->Prop}(g:hP W.T W.wt X)(ho:∀i,cz W.T i->(W.T.getD i t0).2.2.1=true->X i){C:List ce}(x:∀e∈C,e∈W.rg/\X e.2.toNat){s:cr}{H:List Int}(mi:dF (S.s.k0 a) (S.s.z0 G) s H){q:List ce}(hq:fB (S.s.k0 a) s ((W.wt++C).map (we m)) q):ll (S.s.k0 a) (ie W m X) q:=by
 intro e he hg hy;obtain⟨n,hn,en⟩:=List.mem_iff_getElem.1 he;have j:q.getD n (0,0)=e:=by simp_all
 have k:n<((W.wt++C).map (we m)).length:=(hq.len▸hn)
 obtain⟨q1,f⟩:=hq.eq n k;have l:n<(W.wt++C).length:=by simp_all
 rw[j,lh (we m) (W.wt++C) n (0,0) (0,0) l] at q1 f;have o:(W.wt++C).getD n (0,0)∈W.wt++C:=(by grind)
 generalize (W.wt++C).getD n (0,0)=b at*;have c:gq W.T b:=by grind [dB,gv]
 have p:e.2=ew 3 (m b.2.toNat):=by
  rcases f with d|⟨y1,t,u⟩
  ·exact d
  ·have v:=mi.je (mi.fh _ (nP y1) t)
   have B:=mi.ci.hN';have F:=mi.ci.hO;have N:=mi.ci.hg;rw[u,nr mi.ci v.1 aa] at hy
   grind
 have ab:e.1=ew 3 (m b.1.toNat):=q1;rw[p,(h.word hb c.h).2.2];refine⟨_,c.h,rfl,?_⟩
 rcases List.mem_append.1 o with d|d
 ·have w:X b.1.toNat:=by
   rcases h.mem c.g with w1|w1
   ·grind [oL,gq.g,mP,word]
   grind [gq.g,kO,iC]
  exact g _ c.g.1 w (3,b.2) (aL (aL (aL ⟨c.k,b,d,by have:=c.g0;omega,rfl⟩))) rfl
 grind
structure jA (a:Wc)(S:cv)(W:cn)(m:Nat->Int)(G D:List Int)(t:cr×List ce)(L:List Bool)(C:List ce):Prop where
 dm:lq (S.s.k0 a) (S.s.z0 G) D ((W.wt++C).map (we m)) t
 ok:gH W.T L
 gd:∀i,cz W.T i->((S.s.k0 a).al t.1 (ew 3 (m i))=true↔cw L i)
 c:∀e∈C,e∈W.rg/\cw L e.2.toNat
 r:∀v∈W.rs,v.1=3->cw L v.2.toNat
 o:∀i,cz W.T i->(W.T.getD i t0).2.2.1=true->cw L i
theorem jA.is {t:cr×List ce}{L:List Bool}{C:List ce}(h:jA a S W m G D t L C){x:Int}(d:cz W.T x.toNat):(S.s.k0 a).al t.1 (ew 3 (m x.toNat))=cV L x:=by
 unfold cV;have b:=h.gd _ d;cases c:L.getD x.toNat false
 ·rw[Bool.eq_false_iff];intro e;rw[b.1 e] at c
  grind
 ·exact b.2 c
theorem vz {C:List ce}:∀e∈W.wt,∃n,n<((W.wt++C).map (we m)).length/\((W.wt++C).map (we m)).getD n (0,0)=we m e:=fun e he=>by
 obtain⟨n,hn,en⟩:=List.mem_iff_getElem.1 he;refine⟨n,by grind,?_⟩
 grind
theorem jA.vx (b:cD a S W m Y G)(hb:cM a S.s)(hc:pW a S G D){g:List Bool->List Bool}(hg:dL W.T W.wt g):nJ (cm (dU cr) (fun s x=>(S.s.k0 a).al s.1 x) (S.s.k0 a).ke) g (we m) W.rg (jA a S W m G D):=by
 refine⟨fun t L C e h he hn=>?_,fun t L C e h he hy=>?_⟩
 ·have f:=b.gv e he;rw[<-h.is f.g] at hn;exact m4 hn
 ·have f:=b.gv e he;rw[<-h.is f.g] at hy;obtain⟨k1,N,ab,ad,k5⟩:=h.dm.ke _;rw[(m5 (s:=t) hy)];obtain⟨o1,ap,ar⟩:=h.ok.put f.h;have p:=hg _ o1.len o1.al;obtain⟨n1,u,ag⟩:=h.ok.fG hg b.iv f.h;have w:=p.cl;have l:=ag;have ho:∀i,cz W.T i->(W.T.getD i t0).2.2.1=true->_:=fun i hi q=>l i (h.o i hi q)
  obtain⟨H,li,ai⟩:=h.dm.li;have s0:dj (S.s.k0 a) (ie W m (cw (fG g L e.2))) t.1:=fun c B o=>by
   rw[b.f_ hb] at B;obtain⟨i,hi,rfl⟩:=b.gh c (aM B)
   exact⟨i,hi,rfl,l i ((h.gd i hi).1 ((b.kj hb t.1 hi).2 (aL o)))⟩
  obtain⟨s1,_⟩:=dj.ke (b.Bv hb w ho) li ai (b.Bw hb w ho (fun x k=>⟨(h.c x k).1,l _ (h.c x k).2⟩) li.mi h.dm.q) s0 _ (fun _=>by rw[(b.word hb f.h).2.2];exact⟨_,f.h,rfl,u⟩)
  have al:(W.wt++(C++[e])).map (we m)=(W.wt++C).map (we m)++[we m e]:=by rw[<-bw,List.map_append];rfl
  refine⟨rfl,⟨k1.li,k1.cb,fun x k=>?_,k1.he,k1.ep,?_⟩,n1,fun i hi=>⟨fun o=>?_,fun am=>?_⟩,fun x k=>?_,fun v hv an=>l _ (h.r v hv an),ho⟩
  ·rcases List.mem_append.1 k with d|d
   ·exact k1.wq x d
   ·rw[List.mem_singleton.1 d];exact aM (q_ ad)
  ·rw[al];exact k1.q.snoc rfl (ab _ (aM rfl))
  ·rcases(b.kj hb _ hi).1 o with d|d
   ·refine ho i hi ?_;cases c:(W.T.getD i t0).2.2.1
    ·exact absurd d (b.kO hb (b.iC _ hi c))
    ·rfl
   ·rcases b.mem hi with w1|w1
    ·exact(b.mP hi).1 (s1 _ (by rw[b.f_ hb];exact w1) d)
    ·refine ho i hi ?_;cases c:(W.T.getD i t0).2.2.1
     ·exact absurd w1 (b.kO hb (b.iC _ hi c))
     ·rfl
  ·refine(p.lt _ (b.vy hb hc k1 vz) (fun j n=>?_) i am).2;have F:=o1.al j n;refine⟨F,?_⟩
   unfold cw at n;rw[nA _ _ _ (by rw[h.ok.len];exact f.h.1)] at n;split at n
   ·rename_i ao;rw[<-ao];exact k5
   ·exact pG N ((h.gd j F).2 n)
  ·rcases List.mem_append.1 k with d|d
   ·exact⟨(h.c x d).1,l _ (h.c x d).2⟩
   ·rw[List.mem_singleton.1 d];exact⟨he,u⟩
theorem cD.KG (h:cD a S W m Y G)(hb:cM a S.s){i:Nat}(hi:cz W.T i)(b:m i∈G):(W.T.getD i t0).2.2.1=true:=by
 cases c:(W.T.getD i t0).2.2.1
 ·exact absurd b (h.kO hb (h.iC _ hi c))
 ·rfl
theorem jA.start (b:cD a S W m Y G)(hb:cM a S.s)(hr:S.s.y<=a.O-S.s.g){g:List Bool->List Bool}(hg:dL W.T W.wt g):∃D,pW a S G D/\jA a S W m G D (S.t3 a) (W.c0 g false) []:=by
 have h:=b.kv;have bg:=b.f_ hb;have B:=LI.start h.inv.full hb.n0 hb.n1 hb.o1 hb.y1 hb.g1 hb.l1 hr;have ao:12<=(S.s.s0 a).rs.length:=by show 12<=S.s.rs.length;rw[hb.r1];exact aG _
 obtain⟨H1,n,bi,⟨b5,bl⟩,l1,y1,_,m1⟩:=B.cO 12 ao;have ap:dH a.N S.s.y (S.s.s1 a).g (S.s.s1 a).ws=G++H1:=(n.mi.full.lists hb.n1 hb.y1 hb.o1 n.mi.ci.hg).2;have bn:(S.s.s1 a).nx=((S.s.k0 a).N:Int)+(S.s.z0 G).g:=(lO (S.s.k0 a) (S.s.s0 a) 12).2.2;have ar:eb ((S.s.k0 a).l0 (S.s.z0 G)) (((S.s.k0 a).N:Int)+(S.s.z0 G).g) (S.s.k0 a).N (S.s.z0 G).G:=h.inv.full.es;have hlo:∀x∈G++H1,x∈(S.s.z0 G).G\/((S.s.k0 a).N:Int)+(S.s.z0 G).g<=x:=fun x bo=>(List.mem_append.1 bo).imp id (fun d=>n.mi.hlo x d)
 obtain⟨F,s,N,aB,aF,⟨b6,b9⟩,_,bp⟩:=LI.pz (dJ a.O) S.s.M ar (G++H1) n ((dQ.start a S.s G).cO B.mi 12 n.mi bi ⟨_,bl⟩) hlo;have br:(G++H1).foldl ((S.s.k0 a).gB (((S.s.k0 a).N:Int)+(S.s.z0 G).g) (dJ a.O) S.s.M) ((S.s.k0 a).cO (S.s.s0 a) 12)=S.s.s2 a:=by unfold ej.s2 cj.lm;rw[ap,bn];rfl
 have hlen:=qY (S.s.k0 a) (((S.s.k0 a).N:Int)+(S.s.z0 G).g) (dJ a.O) S.s.M (G++H1) ((S.s.k0 a).cO (S.s.s0 a) 12)
 have u:=b.first false;have aR:=hg _ u.len u.al;obtain⟨n1,aV⟩:=hg.ok b.iv u;have a0:=aR.cl;have ho:∀i,cz W.T i->(W.T.getD i t0).2.2.1=true->_:=fun i hi q=>aV i ((kI _ _ _ _).2 ⟨hi.1,aM ⟨q,hi.2,rfl⟩⟩)
 have a1:_:=fun v hv f=>aV _ ((kI _ _ _ _).2 ⟨((b.rv v hv).t f).2.1,aL ⟨v,hv,f,rfl⟩⟩)
 have a2:=b.Bv hb a0 ho;have bs:dj (S.s.k0 a) (ie W m (cw (W.c0 g false))) (S.s.s0 a):=fun _ _ ab=>absurd rfl ab;have bt:=dj.cO B bs (fun i hi hy=>by
  have hi:i<12:=(hb.r1▸hi)
  obtain⟨er,hv⟩:=b.root hi;have er:(S.s.s0 a).rs.getD i 0=wv m (W.rs.getD i (0,0)):=er;rw[er] at hy⊢;obtain⟨f,ev⟩:=b.rR hb hv hy;rw[ev];exact⟨_,(hv.t f).2,rfl,a1 _ (getD_in ((b.rl▸hi))) f⟩) 12 ao
 have a3:=dj.lm a2 (dJ a.O) S.s.M ar (G++H1) n hlo bt;rw[br] at N aB aF hlen a3;have ca:(G++H1).length<=2000:=(ap▸iX _ _)
 obtain⟨q1,q2,q3⟩:=lO _ _ 12;have cb:eg (S.s.k0 a) (S.s.s2 a):=by exact t8
 have ba:pW a S G s:=fun v hv bx i b0 b1=>by
  cases hc:(S.s.k0 a).cP _
  ·rfl
  ·exfalso;unfold cj.cP at hc;rw[bv,bg] at hc;have hm:=h.cd v hv i b0 b1 hc.1 (List.contains_iff_mem.1 hc.2)
   exact bx (bp v (bk _ hv) hv hm)
 have b2:S.q=(W.wt++[]).map (we m):=by rw[List.append_nil];exact b.wt
 have bb:fB (S.s.k0 a) (S.s.s2 a) ((W.wt++[]).map (we m)) S.q:=(b2▸fB.refl _ _)
 have ad:=b.Bw hb a0 ho (fun e he=>(by cases he)) N.mi bb;have key:∀s2:cr,LI (S.s.k0 a) (S.s.z0 G) s2 F s->dQ (S.s.k0 a) (S.s.z0 G) s2 F->eg (S.s.k0 a) s2->fB (S.s.k0 a) s2 ((W.wt++[]).map (we m)) S.q->dj (S.s.k0 a) (ie W m (cw (W.c0 g false))) s2->ll (S.s.k0 a) (ie W m (cw (W.c0 g false))) S.q->
  lq (S.s.k0 a) (S.s.z0 G) s ((W.wt++[]).map (we m)) ((S.s.k0 a).sp (s2,S.q))/\da (S.s.k0 a) s2 ((S.s.k0 a).sp (s2,S.q)).1/\dj (S.s.k0 a) (ie W m (cw (W.c0 g false))) ((S.s.k0 a).sp (s2,S.q)).1:=fun s2 l w c e sn ad=>by
  obtain⟨o,ag⟩:=lq.sp (t:=(s2,S.q)) l w c e;exact⟨o,ag,(dj.c9 a2 _ (s2,S.q) F l w ad sn).1⟩
 obtain⟨o,ag,ai⟩:=key _ N aB cb bb a3 ad;have o:=o;have ai:dj (S.s.k0 a) (ie W m (cw (W.c0 g false))) (S.t3 a).1:=ai;refine⟨s,ba,o,n1,fun i hi=>⟨fun ab=>?_,fun b3=>?_⟩,fun e he=>(by cases he),a1,ho⟩
 ·rcases b.mem hi with w1|w1
  ·rcases(b.kj hb _ hi).1 ab with d|d
   ·exact absurd d (b.kO hb w1)
   ·exact(b.mP hi).1 (ai _ (by simp_all) d)
  ·exact ho i hi (b.KG hb hi w1)
 ·refine(aR.lt _ (b.vy hb ba o vz) (fun j bd=>?_) i b3).2;have al:=u.al j bd;refine⟨al,?_⟩
  obtain⟨_,am⟩:=(kI _ _ _ _).1 bd;rcases am with⟨am,_,_⟩|⟨v,hv,f,e⟩
  ·exact(b.kj hb _ al).2 (aM (b.old j al am))
  ·obtain⟨k,hk,fU⟩:=List.mem_iff_getElem.1 hv;have an:k<12:=(b.rl▸hk)
   obtain⟨er,b4⟩:=b.root an;have ev:W.rs.getD k (0,0)=v:=by simp_all
   rw[ev] at er b4;have p:cz W.T v.2.toNat:=by simp_all
   refine pG (aF.trans ag) ?_;rw[<-e];rcases b.mem p with w1|w1
   ·have hm:=m1 k an;have er:(S.s.s0 a).rs.getD k 0=wv m v:=er;rw[er,iP f] at hm;rcases hm with d|⟨_,be,_⟩
    ·have:=y1 k an;rw[d,((b.oL hb p).2 w1)] at this
     cases this
    ·rw[(b.word hb p).2.2] at be;exact(b.kj hb _ p).2 (aL be)
   ·exact(b.kj hb _ p).2 (aM w1)
theorem jA.settled (b:cD a S W m Y G)(hb:cM a S.s)(hc:pW a S G D){g:List Bool->List Bool}(hg:dL W.T W.wt g)(h0:jA a S W m G D (S.t3 a) (W.c0 g false) []):jA a S W m G D (S.s4 a,((S.s.k0 a).e_ (S.t3 a) S.r).2) (W.cR g false).1 (W.cR g false).2.1:=by
 have c:S.r.filter (fun e=>!(S.s.k0 a).al (S.t3 a).1 e.2)=(W.rg.filter (fun e=>!cV (W.c0 g false) e.2)).map (we m):=by rw[b.rg];exact lS _ _ _ W.rg (fun e he=>by show(!(S.s.k0 a).al _ (ew 3 (m e.2.toNat)))=_;rw[h0.is (b.gv e he).h])
 obtain⟨d,_⟩:=(jA.vx b hb hc hg).turns _ (W.rg.filter (fun e=>!cV _ e.2)) (S.t3 a) _ [] (fun e he=>(List.mem_filter.1 he).1) h0;have f:eK (cm (dU cr) (fun s x=>(S.s.k0 a).al s.1 x) (S.s.k0 a).ke) ((S.r.filter (fun e=>!(S.s.k0 a).al (S.t3 a).1 e.2)).length+1) (S.t3 a) (S.r.filter (fun e=>!(S.s.k0 a).al (S.t3 a).1 e.2))=eK (cm (dU cr) (fun s x=>(S.s.k0 a).al s.1 x) (S.s.k0 a).ke) (W.rg.length+1) (S.t3 a) ((W.rg.filter (fun e=>!cV (W.c0 g false) e.2)).map (we m)):=by rw[c];have hl:=bA (fun e=>!cV (W.c0 g false) e.2) W.rg;exact rH _ _ _ _ _ aa (by rw[aZ];omega)
 have i:(S.s.k0 a).e_ (S.t3 a) S.r=(eK (cm (dU cr) (fun s x=>(S.s.k0 a).al s.1 x) (S.s.k0 a).ke) (W.rg.length+1) (S.t3 a) ((W.rg.filter (fun e=>!cV (W.c0 g false) e.2)).map (we m))).1:=by rw[<-f];rfl
 have j:(S.s4 a,((S.s.k0 a).e_ (S.t3 a) S.r).2)=(S.s.k0 a).e_ (S.t3 a) S.r:=rfl;rw[j,i];exact d
end
section
variable {k:cj}{z:C0}{s t:cr}{H D:List Int}
def cj.cK (k:cj)(s:cr)(x:Int):Int:=if k.ls s x=true then 3 else k.nw s x
theorem Bx {s t:cr}(b:t.f=s.f)(x:Int):k.ls t x=k.ls s x/\k.nw t x=k.nw s x:=by unfold cj.ls cj.nw;rw[b];exact⟨rfl,rfl⟩
def Fo (k:cj)(s:cr):Prop:=∀a∈k.T,s.f a≠-1->(k.N:Int)<=s.f a/\s.f a<1000000
theorem dF.e3 (h:dF k z s H):Fo k s:=fun a ha b=>by
 have hb:=h.je (h.fh a ha b)
 have n1:=h.ci.hN';have c:=h.ci.hO;have d:=h.ci.hg;exact⟨hb.1,aa⟩
theorem oM {x:Int}(h:k.cP x=false):k.nw s x=x:=by unfold cj.nw;rw[h];simp
theorem rS {x:Int}(h:k.cP x=true)(b:s.f (cq x)≠-1):k.nw s x=ew 3 (s.f (cq x)):=by unfold cj.nw;rw[h,aK (by simp[b])]
theorem KH (ci:CI k s)(e3:Fo k s){x:Int}(h:k.ls s x=false):k.cP (k.nw s x)=false:=by
 cases c:k.cP x
 ·rw[oM c];exact c
 ·have b:s.f (cq x)≠-1:=fun e=>by unfold cj.ls at h;rw[c,e] at h;simp at h
  rw[rS c b];obtain⟨b1,b2⟩:=e3 _ (nP c) b;exact nr ci b1 b2
theorem KI:k.cP 3=false:=by unfold cj.cP;rw[show dd 3=false by decide];rfl
theorem By (ci:CI k s)(e3:Fo k s)(x:Int):k.cP (k.cK s x)=false:=by
 unfold cj.cK;cases c:k.ls s x
 ·rw[aI ac];exact KH ci e3 c
 ·exact KI
theorem KJ {x:Int}(h:k.cP x=false):k.cK s x=x:=by unfold cj.cK cj.ls;rw[h,Bool.false_and,aI ac];exact oM h
theorem KK (k:cj)(s:cr)(a:Int):k.eO s a=k.st s (a+1) (k.cK s (k.ld s (a+1))):=by unfold cj.eO cj.cK;split<;>rfl
theorem vA (k:cj)(s:cr)(a x:Int):(k.st s a x).ws.length=s.ws.length:=by
 unfold cj.st;split
 ·rw[bf]
 ·rfl
theorem vB (hl:s.ws.length=k.N+k.O)(hy:k.y<=k.N)(hg:s.g<=k.O)(hv:∀x,k.cP (k.cK s x)=false):∀(l:List Int)(t:cr),t.f=s.f->t.g=s.g->t.ws.length=s.ws.length->(∀c∈l,dt k.N k.y s.g (c+1)=true)->
 (l.foldl k.eO t).f=s.f/\(l.foldl k.eO t).g=s.g/\(l.foldl k.eO t).ws.length=s.ws.length/\(l.foldl k.eO t).ep=t.ep/\(l.foldl k.eO t).rs=t.rs/\∀p,k.ld (l.foldl k.eO t) p=if p-1∈l then k.cK s (k.ld t p) else k.ld t p
 |[],t,b,d,f,_=>⟨b,d,f,rfl,rfl,fun p=>ac⟩
 |c::l,t,b,d,f,hi=>by
  have vt:∀x,k.cK t x=k.cK s x:=fun x=>by unfold cj.cK;rw[(Bx b x).1,(Bx b x).2]
  rw[a9,KK];obtain⟨j,m,n,o,u,v⟩:=vB hl hy hg hv l (k.st t (c+1) (k.cK t (k.ld t (c+1)))) b d ((vA _ _ _ _).trans f) (fun x w=>hi x (aX _ w))
  refine⟨j,m,n,o,u,fun p=>?_⟩
  rw[v p];have hp:=cj.n_ (f.trans hl) hy aa (c+1) (k.cK t (k.ld t (c+1))) p;rw[d] at hp;by_cases e:p=c+1
  ·have g:p-1∈c::l:=by rw[e];simp
   rw[aK ⟨e,(hi c ac)⟩] at hp;rw[hp,aK g,vt,e];split
   ·exact KJ (hv _)
   ·rfl
  ·have g:(p-1∈c::l)↔p-1∈l:=by rw[List.mem_cons];exact⟨fun i=>i.resolve_left (fun q=>e aa),aL⟩
   rw[aI (fun q=>e q.1)] at hp;rw[hp];by_cases i:p-1∈l
   ·simp_all
   ·simp_all
theorem vC (hy:k.y<=k.N):∀(l:List Int)(t:cr),t.ws.length=k.N+k.O->t.g<=k.O->(∀c∈l,dt k.N k.y t.g (c+1)=true/\dt k.N k.y t.g (c+2)=true)->
 (l.foldl k.gP t).rs=t.rs/\(l.foldl k.gP t).g=t.g/\∀p,k.ld (l.foldl k.gP t) p=if p-1∈l\/p-2∈l then 3 else k.ld t p
 |[],t,_,_,_=>⟨rfl,rfl,fun p=>ac⟩
 |c::l,t,e,d,hi=>by
  obtain⟨c1,c2⟩:=hi c ac;have l1:(k.st t (c+1) 3).ws.length=k.N+k.O:=(vA _ _ _ _).trans e;rw[a9];obtain⟨f,g,i⟩:=vC hy l _ ((vA _ _ _ _).trans l1) d (fun x j=>hi x (aX _ j))
  refine⟨f,g,fun p=>?_⟩
  have m:k.gP t c=k.st (k.st t (c+1) 3) (c+2) 3:=rfl;rw[m,i p,(cj.n_ l1 hy d (c+2) 3) p,(cj.n_ e hy d (c+1) 3) p];have g1:(k.st t (c+1) 3).g=t.g:=rfl;by_cases b:p-1∈l\/p-2∈l
  ·rw[aK b,aK (b.imp (aX _) (aX _))]
  ·rw[aI b];by_cases n:p=c+2
   ·simp_all
   ·rw[aI (fun q=>n q.1)];by_cases o:p=c+1
    ·simp_all
    ·rw[aI (fun q=>o q.1),aI];rintro(q|q)
     ·rcases List.mem_cons.1 q with q|q
      ·omega
      ·exact b (aM q)
     ·rcases List.mem_cons.1 q with q|q
      ·omega
      ·exact b (aL q)
theorem Bz (ci:CI k s)(e3:Fo k s){b x:Int}(h:k.ml s b x):k.nw s x=k.nw s b:=by
 rcases h with e|⟨y1,c,d⟩
 ·rw[e]
 ·rw[rS y1 c,d];obtain⟨b1,b2⟩:=e3 _ (nP y1) c;exact oM (nr ci b1 b2)
theorem BA {b x:Int}(h:k.ml s b x)(hy:k.cP x=false):x=k.nw s b:=by
 rcases h with e|⟨y1,c,d⟩
 ·rw[e] at hy;rw[oM hy,e]
 ·rw[rS y1 c,d]
theorem KL (li:LI k z s H D)(w:dQ k z s H){a b i:Int}(o:k.or z s a b)(S:0<=i)(v:i<pf (k.l0 z a)):
 k.ld (k.be (k.mw s s.wk) (k.mw s s.wk).ep) (b+1+i)=if b∈s.ep then 3 else if b∈s.wk/\i=0 then k.cK s (k.ld s (b+1+i)) else k.ld s (b+1+i):=by
 have ci:=li.mi.ci;have full:=li.mi.full;have hb:=li.mi.mem o;have W:i<pf (k.ld s b):=((li.mi.hd a b o)▸v)
 have x:∀c∈s.wk,dt k.N k.y s.g (c+1)=true:=fun c hc=>by exact Bu
 have ab:∀c∈s.ep,dt k.N k.y s.g (c+1)=true/\dt k.N k.y s.g (c+2)=true:=fun c hc=>by exact Br
 obtain⟨m1,f,g,m,_,n⟩:=vB ci.len ci.hy ci.hg (By ci li.mi.e3) s.wk s rfl rfl rfl x;have m:(k.mw s s.wk).ep=s.ep:=m;have f:(k.mw s s.wk).g=s.g:=f;have g:(k.mw s s.wk).ws.length=s.ws.length:=g;obtain⟨_,_,b3⟩:=vC ci.hy s.ep _ ((g▸ci.len)) ((f▸ci.hg)) (by simp_all)
 have b3:∀p,k.ld (k.be (k.mw s s.wk) s.ep) p=if p-1∈s.ep\/p-2∈s.ep then 3 else k.ld (k.mw s s.wk) p:=b3
 have n:∀p,k.ld (k.mw s s.wk) p=if p-1∈s.wk then k.cK s (k.ld s p) else k.ld s p:=n
 rw[m,b3,n];have q:∀j,0<=j->j<pf (k.ld s b)->_:=fun j j0 B=>full.es.field hb j0 B;have q1:∀l:List Int,(∀c∈l,c∈z.G++H)->((b+1+i)-1∈l↔(b∈l/\i=0)):=fun l hl=>by
  constructor
  ·intro d;by_cases e:i=0
   ·simp_all
   ·exfalso;have:b+1+i-1=b+1+(i-1):=aa;rw[this] at d;exact q (i-1) aa aa (hl _ d)
  ·simp_all
 have q2:(b+1+i)-2∈s.ep↔(b∈s.ep/\i=1):=by
  constructor
  ·intro d;obtain⟨r1,F⟩:=w.ep _ d;by_cases e:i=1
   ·subst e;have:b+1+1-2=b:=aa;rw[this] at d;exact⟨d,rfl⟩
   ·exfalso;by_cases N:i=0
    ·subst N;have ad:=iz (li.mi.bd r1).2.2 (aL (aL F))
     have t:=full.es.apart _ r1 b hb aa;have t:b+1+0-2+(1+pf (k.ld s (b+1+0-2)))<=b:=t;omega
    ·have:b+1+i-2=b+1+(i-2):=aa;rw[this] at r1;exact q (i-2) aa aa r1
  ·rintro⟨d,e⟩
   subst e;have:b+1+1-2=b:=aa;rw[this];exact d
 have ag:=q1 s.ep (fun c hc=>(w.ep c hc).1)
 have ai:=q1 s.wk (fun c hc=>(w.wk c hc).1)
 by_cases c:b∈s.ep
 ·have u:=iz (full.es.mem b hb).2.2 (aL (aL (w.ep b c).2))
  have u:pf (k.ld s b)=2:=u;rw[aK c,aK];rcases(show i=0\/i=1 by omega) with e|e
  ·simp_all
  ·simp_all
 ·simp_all
theorem KM (li:LI k z s H D)(w:dQ k z s H){a b:Int}(o:k.or z s a b):k.ld (k.be (k.mw s s.wk) (k.mw s s.wk).ep) b=k.l0 z a/\(k.be (k.mw s s.wk) (k.mw s s.wk).ep).rs=s.rs:=by
 have ci:=li.mi.ci;have n:∀c∈s.wk,dt k.N k.y s.g (c+1)=true:=fun c hc=>by exact Bu
 have u:∀c∈s.ep,dt k.N k.y s.g (c+1)=true/\dt k.N k.y s.g (c+2)=true:=fun c hc=>by exact Br
 obtain⟨m1,g,i,j,t,l⟩:=vB ci.len ci.hy ci.hg (By ci li.mi.e3) s.wk s rfl rfl rfl n;have j:(k.mw s s.wk).ep=s.ep:=j;have g:(k.mw s s.wk).g=s.g:=g;have i:(k.mw s s.wk).ws.length=s.ws.length:=i;obtain⟨b1,_,b3⟩:=vC ci.hy s.ep _ ((i▸ci.len)) ((g▸ci.hg)) (by simp_all)
 have b3:∀p,k.ld (k.be (k.mw s s.wk) s.ep) p=if p-1∈s.ep\/p-2∈s.ep then 3 else k.ld (k.mw s s.wk) p:=b3
 have l:∀p,k.ld (k.mw s s.wk) p=if p-1∈s.wk then k.cK s (k.ld s p) else k.ld s p:=l
 have no:∀c,c∈z.G++H->pf (k.ld s c)=2->∀f:Int,(f=1\/f=2)->b-f≠c:=fun c hc v f hd e=>by have m:=li.mi.full.es.apart c hc b (li.mi.mem o) aa;have m:c+(1+pf (k.ld s c))<=b:=m;omega
 rw[j,b3,l];refine⟨?_,b1.trans t⟩
 rw[aI,aI,(li.mi.hd a b o)]
 ·intro q;obtain⟨r1,d⟩:=w.wk _ q;exact no _ r1 (iz (li.mi.bd r1).2.2 (aL (aM d))) 1 (aM rfl) rfl
 ·rintro(q|q)
  ·obtain⟨r1,d⟩:=w.ep _ q;exact no _ r1 (iz (li.mi.bd r1).2.2 (aL (aL d))) 1 (aM rfl) rfl
  ·obtain⟨r1,d⟩:=w.ep _ q;exact no _ r1 (iz (li.mi.bd r1).2.2 (aL (aL d))) 2 (aL rfl) rfl
end
theorem rU {L:List Bool}{i:Nat}{t:cI}(b:L.getD i false=true)(c:t.1=3\/t.1=4->t.2.1.length=2):(fH L i t).2.1.length=t.2.1.length/\(fH L i t).1=t.1/\(fH L i t).2.2=(true,t.2.2.2):=by
 unfold fH;rw[aK b];refine⟨?_,rfl,rfl⟩
 split
 ·simp_all
 ·split
  ·simp_all
  ·rfl
theorem BB {L:List Bool}{i:Nat}{t:cI}(b:L.getD i false=false):fH L i t=(t.1,[],t.2.2.1,true):=by unfold fH;rw[b,aI ac]
theorem mQ {L:List Bool}{i:Nat}{t:cI}(c:L.getD i false=true)(b:t.1=3\/t.1=4->t.2.1.length=2){k:Nat}(hk:k<t.2.1.length):
 (fH L i t).2.1.getD k (0,0)=if((t.1=3\/t.1=4)/\d6 L (t.2.1.getD 0 (0,0))=false)/\(k=0\/(t.1=4/\k=1)) then(2,0) else t.2.1.getD k (0,0):=by
 unfold fH;rw[aK c];by_cases c4:t.1=4/\d6 L (t.2.1.getD 0 (0,0))=false
 ·rw[aK c4,aK ⟨⟨aL c4.1,c4.2⟩,aa⟩];have:=b (aL c4.1)
  rcases(show k=0\/k=1 by omega) with e|e<;>subst e<;>rfl
 ·rw[aI c4];by_cases c3:t.1=3/\d6 L (t.2.1.getD 0 (0,0))=false
  ·rw[aK c3];have:=b (aM c3.1)
   rcases(show k=0\/k=1 by omega) with e|e
   ·simp_all
   ·simp_all
  ·rw[aI c3,aI (fun q=>q.1.1.elim (fun e=>c3 ⟨e,q.1.2⟩) (fun e=>c4 ⟨e,q.1.2⟩))]
structure rV (a:Wc)(S:cv)(W:cn)(m:Nat->Int)(B L:List Bool)(C:List ce)(S':cv)(m':Nat->Int)(G':List Int):Prop where
 kv:eE a S'.s [] G'
 ok:gH W.T L
 cl:hP W.T W.wt (cw L)
 up:∀i,cw B i->cw L i
 rr:∀v∈W.rs,v.1=3->cw L v.2.toNat
 cc:∀e∈C,e∈W.rg/\cw L e.2.toNat
 rs:S'.s.rs=W.rs.map (wv m')
 pl:∀i,cw L i->m' i∈G'
 inj:∀i j,cw L i->cw L j->m' i=m' j->i=j
 gh:∀v∈G',∃i,cw L i/\m' i=v
 hd:∀i,cw L i->ld a.N S'.s.y S'.s.g S'.s.ws (m' i)=ld a.N S.s.y S.s.g S.s.ws (m i)
 fd:∀i,cw L i->∀k:Nat,k<(W.T.getD i t0).2.1.length->ld a.N S'.s.y S'.s.g S'.s.ws (m' i+1+k)=wv m' ((fH L i (W.T.getD i t0)).2.1.getD k (0,0))
 rg:S'.r=(W.rg.filter (fun e=>cV B e.2&&cV L e.1)).map (we m')
 wt:S'.q=((W.wt++C).filter (fun e=>cV L e.1)).map (we m')
section
variable {a:Wc}{S S':cv}{W:cn}{m m':Nat->Int}{Y G G':List Int}{B L:List Bool}{C:List ce}
theorem BC {L:List Bool}{v:Int×Int}(b:v.1=3):d6 L v=L.getD v.2.toNat false:=by unfold d6;rw[b];rfl
theorem KN {L:List Bool}{v:Int×Int}(b:v.1≠3):d6 L v=true:=by
 unfold d6;have:(v.1==3)=false:=by simpa using b
 rw[this];rfl
theorem cD.led (h:cD a S W m Y G)(ok:gH W.T L)(cl:hP W.T W.wt (cw L)){i:Nat}(hi:cw L i){k:Nat}(hk:k<(W.T.getD i t0).2.1.length)(b:((fH L i (W.T.getD i t0)).2.1.getD k (0,0)).1=3):cw L ((fH L i (W.T.getD i t0)).2.1.getD k (0,0)).2.toNat:=by
 have al:=ok.al i hi;have f:(W.T.getD i t0).1=3\/(W.T.getD i t0).1=4->_=_:=fun c=>h.two al (aL c)
 rw[mQ hi f hk] at b⊢;split at b
 ·omega
 ·rename_i c;rw[aI c];have o:=oQ _ _ (h.hd i al).1;by_cases n:(W.T.getD i t0).1=1\/(W.T.getD i t0).1=2
  ·exact cl i al.1 hi _ (aM ⟨n,(getD_in hk)⟩) b
  by_cases g:(W.T.getD i t0).1=3
  ·have l2:=f (aM g)
   rcases(show k=0\/k=1 by omega) with e|e
   ·subst e;have:d6 L ((W.T.getD i t0).2.1.getD 0 (0,0))=true:=by simp_all
    exact nz this b
   ·subst e;exact cl i al.1 hi _ (aL (aM ⟨g,rfl⟩)) b
  by_cases j:(W.T.getD i t0).1=4
  ·have l:d6 L ((W.T.getD i t0).2.1.getD 0 (0,0))=true:=by
    cases d:d6 L _
    ·exact absurd ⟨⟨aL j,d⟩,aa⟩ c
    ·rfl
   rcases(show k=0\/k=1 by omega) with e|e
   ·subst e;exact nz l b
   ·subst e;exact cl i al.1 hi _ (aL (aL (aM ⟨j,nz l,rfl⟩))) b
  ·omega
theorem rV.done (h:cD a S W m Y G)(c:rV a S W m B L C S' m' G'):cD a S' ⟨gj L W.T W.T.length,W.rs,W.rg.filter (fun e=>cV B e.2&&cV L e.1),(W.wt++C).filter (fun e=>cV L e.1)⟩ m' [] G':=by
 have gt:∀j,j<W.T.length->(gj L W.T W.T.length).getD j t0=fH L j (W.T.getD j t0):=fun j n=>by rw[rh L W.T W.T.length j b7 n,aK n]
 have f:∀i,cw L i->((W.T.getD i t0).1=3\/(W.T.getD i t0).1=4->_=_):=fun i hi q=>h.two (c.ok.al i hi) (aL q)
 have al:∀j,cz (gj L W.T W.T.length) j↔cw L j:=fun j=>by
  unfold cz;rw[jK];constructor
  ·rintro⟨o,f⟩
   rw[gt j o] at f;unfold cw;cases d:L.getD j false
   ·rw[BB d] at f;cases f
   ·rfl
  ·intro b;have ha:=c.ok.al j b;refine⟨ha.1,?_⟩
   rw[gt j ha.1,(rU b (f j b)).2.2];exact ha.2
 have p:∀j,cw L j->((gj L W.T W.T.length).getD j t0).2.1.length=(W.T.getD j t0).2.1.length/\((gj L W.T W.T.length).getD j t0).1=(W.T.getD j t0).1/\((gj L W.T W.T.length).getD j t0).2.2.1=true:=fun j b=>by
  have ha:=c.ok.al j b;obtain⟨q1,g,q3⟩:=rU b (f j b)
  rw[gt j ha.1,q3];exact⟨q1,g,rfl⟩
 have u:∀v,dG W.T v->(v.1=3->cw L v.2.toNat)->dG (gj L W.T W.T.length) v:=fun v hv b=>⟨fun e=>⟨(hv.t e).1,(al _).2 (b e)⟩,hv.o⟩
 have t:∀e,gq W.T e->cw L e.1.toNat->cw L e.2.toNat->gq (gj L W.T W.T.length) e:=fun e he o f=>⟨he.g0,(al _).2 o,((p _ o).2.1▸he.k),he.h0,(al _).2 f⟩
 exact
 {
  kv:=c.kv,rl:=h.rl,rv:=fun v hv=>u v (h.rv v hv) (c.rr v hv)
  fv:=fun i hi v hv=>by
   have b:=(al i).1 hi;have ha:=c.ok.al i b;have hv:=hv;rw[gt i ha.1] at hv;obtain⟨k,hk,e⟩:=List.mem_iff_getElem.1 hv;have ev:(fH L i (W.T.getD i t0)).2.1.getD k (0,0)=v:=by rw[aJ,aN hk,e];rfl
   rw[(rU b (f i b)).1] at hk;refine⟨fun l=>?_,fun l=>?_⟩
   ·have hl:=h.led c.ok c.cl b hk (by simp_all)
    rw[ev] at hl;refine⟨?_,(al _).2 hl⟩
    rw[mQ b (f i b) hk] at ev;split at ev
    ·rw[<-ev] at l;exact absurd l ae
    ·rw[<-ev] at l⊢;exact((h.fv i ha _ (getD_in hk)).t l).1
   ·rw[mQ b (f i b) hk] at ev;split at ev
    ·rw[<-ev];decide
    ·rw[<-ev] at l⊢;exact(h.fv i ha _ (getD_in hk)).o l
  rs:=c.rs
  iC:=fun i hi e=>by simp_all
  old:=fun i hi _=>c.pl i ((al i).1 hi)
  inj:=fun i j hi n e=>c.inj i j ((al i).1 hi) ((al j).1 n) e
  gh:=fun v hv=>by
   rcases hv with d|d
   ·cases d
   ·obtain⟨i,hi,e⟩:=c.gh v d;exact⟨i,(al i).2 hi,e⟩
  hd:=fun i hi=>by have b:=(al i).1 hi;show hc _ _=0/\ld a.N S'.s.y S'.s.g S'.s.ws (m' i)=hw _ _;rw[(p i b).1,(p i b).2.1,c.hd i b];exact h.hd i (c.ok.al i b)
  fd:=fun i hi k hk=>by have b:=(al i).1 hi;have hk:=hk;rw[(p i b).1] at hk;show ld a.N S'.s.y S'.s.g S'.s.ws _=wv m' _;rw[gt i (c.ok.al i b).1];exact c.fd i b k hk
  rg:=c.rg
  gv:=fun e he=>by obtain⟨q1,g⟩:=List.mem_filter.1 he;rw[bv] at g;exact t e (h.gv e q1) g.2 (c.up _ g.1)
  wt:=c.wt
  dB:=fun e he=>by
   obtain⟨q1,g⟩:=List.mem_filter.1 he;rcases List.mem_append.1 q1 with d|d
   ·have s:=h.dB e d;exact t e s g (c.cl _ s.g.1 g (3,e.2) (aL (aL (aL ⟨s.k,e,d,by have:=s.g0;omega,rfl⟩))) rfl)
   ·obtain⟨w,x⟩:=c.cc e d;exact t e (h.gv e w) g x
  tl:=fun i=>by
   show((gj L W.T W.T.length).getD i t0).2.1.length<=12;by_cases hi:i<W.T.length
   ·rw[gt i hi];cases d:L.getD i false
    ·rw[BB d];simp
    ·rw[(rU d (f i d)).1];exact h.tl i
   ·rw[aJ,List.getElem?_eq_none (by rw[jK];omega)];simp[t0]}
end
section
variable {a:Wc}{S:cv}{W:cn}{m:Nat->Int}{Y G:List Int}
theorem KO (h:eE a S.s Y G)(hb:cM a S.s)(j:S.fX a=false):(S.dD a).r=((S.r.filter (fun e=>(S.s.j0 a).al (S.j2 a).1 e.2)).filter (fun e=>(S.s.j0 a).al (S.cH a) e.1)).map (fun e=>((S.s.j0 a).nw (S.cJ a) e.1,(S.s.j0 a).nw (S.cJ a) e.2)):=by
 have i:=c8.start hb.n1 hb.o1 hb.y1 hb.g1;obtain⟨d1,p,t⟩:=ox (S:=S) i;obtain⟨_,l2,l3⟩:=k3 h.inv.full hb;obtain⟨_,g,u⟩:=mA h hb j;obtain⟨_,b,t3,_⟩:=py (s:=S.cJ a) (k:=S.s.j0 a) ⟨hb.l1,hb.y1,hb.g1⟩ hb.r1 i.nd (oD h.inv.full hb) (pE h.inv.full hb)
 have b:(S.k5 a).Y=(S.s.j0 a).Y:=b;have t3:(S.k5 a).G=(S.s.j0 a).G:=t3;have zJ:(S.k5 a).T=(S.s.j0 a).T:=by unfold cf.T;rw[b,t3]
 have l:∀x,(S.k5 a).al (S.cJ a) x=(S.s.j0 a).al (S.cH a) x:=fun x=>by exact zI
 have r3:S.r3 a=(S.r.filter (fun e=>(S.s.j0 a).al (S.j2 a).1 e.2)).filter (fun e=>(S.s.j0 a).al (S.cH a) e.1):=by show(((S.r.filter (fun e=>(S.s.j0 a).al _ e.2)).filter (fun e=>(S.s.j0 a).al (S.cH a) e.1)).map fun e=>((S.s.j0 a).nw (S.cH a) e.1,(S.s.j0 a).nw (S.cH a) e.2))=_;exact zK
 have m:(S.k5 a).tS (S.cJ a,S.q3 a) (S.r3 a)=(S.cJ a,S.q3 a):=ui (fun e he=>by rw[l];exact q8 i e he)
 unfold cv.dD;rw[j,aI ac];show eV (dU cy) (fun s x=>(S.k5 a).al s.1 x) _ (fun s x=>(S.k5 a).nw s.1 x) (S.cJ a,S.q3 a) (S.r3 a)=_;unfold eV;have e:fE (dU cy) (fun s x=>(S.k5 a).al s.1 x) (S.k5 a).ct (S.cJ a,S.q3 a) (S.r3 a)=(S.cJ a,S.q3 a):=m;rw[e];show(((S.r3 a).filter (fun e=>(S.k5 a).al (S.cJ a) e.2)).filter (fun e=>(S.k5 a).al (S.cJ a) e.1)).map (fun e=>((S.k5 a).nw (S.cJ a) e.1,(S.k5 a).nw (S.cJ a) e.2))=_;have n:(S.r3 a).filter (fun e=>(S.k5 a).al (S.cJ a) e.2)=S.r3 a:=List.filter_eq_self.2 (fun e he=>by rw[l];exact q8 (S:=S) i e he)
 have o:(S.r3 a).filter (fun e=>(S.k5 a).al (S.cJ a) e.1)=S.r3 a:=List.filter_eq_self.2 (fun e he=>by simp_all)
 rw[n,o,r3];refine List.map_congr_left (fun e _=>?_)
 rw[cf.kC _ _ b t3,cf.kC _ _ b t3]
theorem cD.n4 (b:cD a S W m Y G)(hb:cM a S.s){g:List Bool->List Bool}(hg:dL W.T W.wt g):S.n4 a=iN W.T (W.cR g true).1 W.T.length:=by
 have f:=c8.start hb.n1 hb.o1 hb.y1 hb.g1;have hs:=Rg.settled b hb hg;obtain⟨k,_⟩:=pv (S.s.j0 a) (fun c=>!((S.cH a).f c==-1)) _ (S.cH a,(a.N:Int)) f.nd (fun _ _=>rfl)
 have d:=k.sum (fun c=>(dr _).1)
 have d:(g7 (ns (ld a.N S.s.y S.s.g S.s.ws)) ((S.s.j0 a).T.filter (fun c=>!((S.cH a).f c==-1))):Int)=S.n4 a:=d;rw[vm,<-d,vl (fun i _ hp=>b.size (hs.ok.al i hp)) (f.nd.filter _) (fun i j _ _ hp hq e=>b.inj i j (hs.ok.al i hp) (hs.ok.al j hq) e) (fun v=>?_)];rw[List.mem_filter];constructor
 ·rintro⟨l,n⟩
  obtain⟨i,hi,rfl⟩:=b.vv hb l;exact⟨i,hi.1,(hs.gd i hi).1 (by simpa using n),rfl⟩
 ·rintro⟨i,_,hp,rfl⟩
  have hi:=hs.ok.al i hp;exact⟨b.memT hb hi,by simpa using(hs.gd i hi).2 hp⟩
theorem cD.BD (b:cD a S W m Y G)(hb:cM a S.s){g:List Bool->List Bool}(hg:dL W.T W.wt g):S.fX a=W.cF g a.O true:=by unfold cv.fX cn.cF;rw[b.n4 hb hg];simp
theorem cD.iM (b:cD a S W m Y G)(hb:cM a S.s){g:List Bool->List Bool}(hg:dL W.T W.wt g):S.iM a=W.g9 g a.O true:=by unfold cv.iM cn.g9;rw[b.BD hb hg]
theorem cD.pX (b:cD a S W m Y G)(hb:cM a S.s){j:cy}{v:Int×Int}(hv:dG W.T v)(d:v.1=3->j.f (m v.2.toNat)≠-1):(S.s.j0 a).nw j (wv m v)=wv (fun i=>j.f (m i)) v:=by
 unfold cf.nw;rw[b.jt hb hv];by_cases c:v.1=3
 ·rw[(b.vt hb hv c).2,c,aK (by simp[d c]),iP c]
 ·rw[aI (by simp[c]),mM c,mM c]
theorem vD {c:Type}(d:c){l b:List c}(h:l.length=b.length)(he:∀i,i<l.length->l.getD i d=b.getD i d):l=b:=by
 refine List.ext_getElem h (fun i e f=>?_)
 have:=he i e;rwa [aJ,aN e,aJ,aN f] at this
theorem vE {m:Nat->Int}:wv m (2,0)=3:=by rw[mM ae];decide
theorem cD.KP (hR:cD a S W m Y G)(hb:cM a S.s){g:List Bool->List Bool}(hg:dL W.T W.wt g)(u:S.fX a=false):
 rV a S W m (W.c0 g true) (W.cR g true).1 (W.cR g true).2.1 (S.dD a) (fun i=>(S.cJ a).f (m i)) ((S.cJ a).lf (G++Y)):=by
 have hs:=Rg.settled hR hb hg;have h0:=Rg.start hR hb hg;obtain⟨_,w,_⟩:=mA hR.kv hb u;obtain⟨s1,s2,aR⟩:=ox (S:=S) (c8.start hb.n1 hb.o1 hb.y1 hb.g1)
 have N:=hR.T hb;have o:∀{i:Nat},cz W.T i->m i∈G++Y:=fun hi=>(N▸hR.memT hb hi)
 have B:∀i,cz W.T i->((S.cJ a).f (m i)≠-1↔cw (W.cR g true).1 i):=fun i hi=>by rw[<-hs.gd i hi];exact not_congr (w.iff _ (o hi))
 have l:∀i,cw (W.cR g true).1 i->_:=fun i b=>(B i (hs.ok.al i b)).2 b;have hcl:hP W.T W.wt (cw (W.cR g true).1):=by
  have hc:=hR.marked hb hs.dm (fun x al=>(hs.q▸List.mem_map_of_mem (bk _ al)))
  intro i hi am v hv n;have ab:∀j,cw (W.cR g true).1 j->_/\_:=fun j p=>⟨hs.ok.al j p,(hs.gd j (hs.ok.al j p)).2 p⟩
  obtain⟨q1,f⟩:=hc i hi (ab i am) v (hv.mono ab) n;exact(hs.gd _ q1).1 f
 have hup:∀i,cw (W.c0 g true) i->cw (W.cR g true).1 i:=fun i hi=>by have ha:=h0.ok.al i hi;have ad:=(h0.gd i ha).2 hi;refine(hs.gd i ha).1 ?_;rw[s2.f _ ad];exact ad
 have s:∀i,cw (W.cR g true).1 i->((W.T.getD i t0).1=3\/(W.T.getD i t0).1=4->_=_):=fun i hi q=>hR.two (hs.ok.al i hi) (aL q)
 have vu:∀e,gq W.T e->cw (W.cR g true).1 e.1.toNat->cw (W.cR g true).1 e.2.toNat->((S.s.j0 a).nw (S.cJ a) (we m e).1,(S.s.j0 a).nw (S.cJ a) (we m e).2)=we (fun i=>(S.cJ a).f (m i)) e:=fun e he an s=>by
  have q1:=hR.pX hb (j:=S.cJ a) (v:=(3,e.1)) ⟨fun _=>⟨he.g0,he.g⟩,fun c=>absurd rfl c⟩ (fun _=>l _ an)
  have f:=hR.pX hb (j:=S.cJ a) (v:=(3,e.2)) ⟨fun _=>⟨he.h0,he.h⟩,fun c=>absurd rfl c⟩ (fun _=>l _ s)
  exact Prod.ext q1 f
 have gc:=w.gc;have ag:(S.dD a).s.y=0:=gc.y;refine
 {
  kv:=(gc.inv hR.kv hb w.al).1,ok:=hs.ok,cl:=hcl,up:=hup,rr:=hs.r,cc:=hs.c
  rs:=?_,pl:=fun i b=>?_,inj:=fun i j hi p e=>?_,gh:=fun v hv=>?_,hd:=fun i b=>?_,fd:=fun i b k hk=>?_,rg:=?_,wt:=?_}
 ·refine vD 0 (by rw[aZ,hR.rl];exact gc.rl) (fun i hi=>?_)
  have hi:i<12:=by rw[gc.rl] at hi;exact hi
  obtain⟨er,hv⟩:=hR.root hi;rw[gc.rs i hi,er,lh (wv (fun i=>(S.cJ a).f (m i))) W.rs i (0,0) 0 ((hR.rl▸hi))];exact hR.pX hb hv (fun n=>l _ (hs.r _ (getD_in ((hR.rl▸hi))) n))
 ·exact List.mem_map.2 ⟨m i,List.mem_filter.2 ⟨o (hs.ok.al i b),by simp_all⟩,rfl⟩
 ·have:=gc.pos.inj (fun c=>(dr _).1) (m i) (o (hs.ok.al i hi)) (m j) (o (hs.ok.al j p)) (by simp_all) (by simp_all) e;exact hR.inj i j (hs.ok.al i hi) (hs.ok.al j p) this
 ·obtain⟨c,hc,rfl⟩:=List.mem_map.1 hv;obtain⟨q1,f⟩:=List.mem_filter.1 hc;rw[<-N] at q1;obtain⟨i,hi,rfl⟩:=hR.vv hb q1;exact⟨i,(B i hi).1 (by simpa using f),rfl⟩
 ·rw[ag];exact gc.hd _ (o (hs.ok.al i b)) (l i b)
 ·have ha:=hs.ok.al i b;obtain⟨ao,ap,_⟩:=hR.parts ha;rw[ag,gc.fd _ (o ha) (l i b) k (Int.natCast_nonneg k) (by rw[ap];omega),mQ b (s i b) hk];unfold cf.iA;have ar:pk ((S.s.j0 a).ld (m i))=(W.T.getD i t0).1:=ao;rw[ar];have ai:(S.s.j0 a).ld (m i+1+k)=wv m ((W.T.getD i t0).2.1.getD k (0,0)):=hR.fd i ha k hk;have key:(W.T.getD i t0).1=3\/(W.T.getD i t0).1=4->((S.s.j0 a).cX (S.cJ a) ((S.s.j0 a).ld (m i+1))=true↔d6 (W.cR g true).1 ((W.T.getD i t0).2.1.getD 0 (0,0))=false):=fun q=>by
   have aF:(S.s.j0 a).ld (m i+1)=wv m ((W.T.getD i t0).2.1.getD 0 (0,0)):=by
    have:=hR.fd i ha 0 aa;show ld a.N S.s.y S.s.g S.s.ws (m i+1)=_;rw[<-this]
    congr 1
    omega
   have F:=hR.fv i ha _ (getD_in (x:=((0,0):Int×Int)) (show 0<(W.T.getD i t0).2.1.length by omega))
   rw[aF];by_cases c3:((W.T.getD i t0).2.1.getD 0 (0,0)).1=3
   ·have q1:=hR.oK hb (S.cJ a) F c3;have f:=B _ (F.t c3).2;rw[BC c3];constructor
    ·intro d;cases e:(W.cR g true).1.getD _ false
     ·rfl
     ·rw[q1.2 (f.2 e)] at d;cases d
    ·intro d;cases e:(S.s.j0 a).cX (S.cJ a) _
     ·have:=f.1 (q1.1 e)
      unfold cw at this
      rw[d] at this
      cases this
     ·rfl
   ·rw[KN c3];have:(S.s.j0 a).cX (S.cJ a) (wv m ((W.T.getD i t0).2.1.getD 0 (0,0)))=false:=by
     unfold cf.cX;rw[hR.jt hb F];have:(((W.T.getD i t0).2.1.getD 0 (0,0)).1==3)=false:=by simpa using c3
     rw[this];rfl
    rw[this];simp
  by_cases cb:((W.T.getD i t0).1=3\/(W.T.getD i t0).1=4)/\d6 (W.cR g true).1 ((W.T.getD i t0).2.1.getD 0 (0,0))=false
  ·by_cases t:k=0\/((W.T.getD i t0).1=4/\k=1)
   ·rw[aK ⟨⟨cb.1,(key cb.1).2 cb.2⟩,t.imp (fun e=>by omega) (fun e=>⟨e.1,aa⟩)⟩,aK ⟨cb,t⟩,vE];unfold cf.nw cf.jt;rw[show dd 3=false by decide,Bool.false_and,Bool.false_and,aI ac]
   ·rw[aI (fun q=>t (q.2.imp (fun e=>by omega) (fun e=>⟨e.1,aa⟩))),aI (fun q=>t q.2),ai];refine hR.pX hb (hR.fv i ha _ (getD_in hk)) (fun n=>l _ ?_)
    have hl:=hR.led hs.ok hcl b hk;rw[mQ b (s i b) hk,aI (fun q=>t q.2)] at hl;exact hl n
  ·rw[aI (fun q=>cb ⟨q.1.1,(key q.1.1).1 q.1.2⟩),aI (fun q=>cb q.1),ai];refine hR.pX hb (hR.fv i ha _ (getD_in hk)) (fun n=>l _ ?_)
   have hl:=hR.led hs.ok hcl b hk;rw[mQ b (s i b) hk,aI (fun q=>cb q.1)] at hl;exact hl n
 ·rw[KO hR.kv hb u,hR.rg,List.filter_filter];rw[lS (we m) _ (fun e=>cV (W.c0 g true) e.2&&cV (W.cR g true).1 e.1) W.rg (fun e he=>by have q1:=Rg.is hR hb h0 (hR.gv e he).h;have f:=Rg.is hR hb hs (hR.gv e he).g;have q1:(S.s.j0 a).al (S.j2 a).1 (we m e).2=cV (W.c0 g true) e.2:=q1;have f:(S.s.j0 a).al (S.cH a) (we m e).1=cV (W.cR g true).1 e.1:=f;rw[q1,f,Bool.and_comm]),List.map_map];exact Bt
 ·rw[zN hR.kv hb u];have hE:∀e∈W.wt++(W.cR g true).2.1,gq W.T e:=fun e he=>by
   rcases List.mem_append.1 he with d|d
   ·exact hR.dB e d
   ·exact hR.gv e (hs.c e d).1
  rw[hs.q,lS (we m) _ (fun e=>cV (W.cR g true).1 e.1) _ (fun e he=>Rg.is hR hb hs (hE e he).g),List.map_map];exact Bq
theorem cD.dD (b:cD a S W m Y G)(hb:cM a S.s){g:List Bool->List Bool}(hg:dL W.T W.wt g):∃c d e,cD a (S.dD a) (W.cut g a.O true) c d e:=by
 unfold cn.cut;rw[<-b.BD hb hg];cases hf:S.fX a
 ·rw[aI ac];exact⟨_,_,_,(b.KP hb hg hf).done b⟩
 ·refine⟨m,Y,G,?_⟩
  unfold cv.dD;rw[hf,aK rfl];exact b
end
theorem BE (k:cj):∀(l:List Int)(s:cr),(l.foldl k.eO s).rs=s.rs
 |[],_=>rfl
 |x::l,s=>by rw[a9,BE k l];unfold cj.eO;split<;>rfl
theorem BF (k:cj):∀(l:List Int)(s:cr),(l.foldl k.gP s).rs=s.rs
 |[],_=>rfl
 |x::l,s=>by rw[a9,BF k l];rfl
theorem fB.told {k:cj}{s:cr}(ci:CI k s)(e3:Fo k s){q0 q:List ce}(h:fB k s q0 q)(p:Int->Bool):(q.filter (fun e=>p e.1)).map (fun e=>(k.nw s e.1,k.nw s e.2))=(q0.filter (fun e=>p e.1)).map (fun e=>(k.nw s e.1,k.nw s e.2)):=by
 have c:q.map (fun e=>(e.1,k.nw s e.2))=q0.map (fun e=>(e.1,k.nw s e.2)):=by
  refine vD (0,0) (by rw[aZ,aZ,h.len]) (fun n hn=>?_)
  rw[aZ] at hn;have b:n<q0.length:=(h.len▸hn)
  obtain⟨d,f⟩:=h.eq n b;rw[lh (fun e:ce=>(e.1,k.nw s e.2)) q n (0,0) (0,0) hn,lh (fun e:ce=>(e.1,k.nw s e.2)) q0 n (0,0) (0,0) b,d,Bz ci e3 f]
 have key:∀l:List ce,(l.filter (fun e=>p e.1)).map (fun e=>(k.nw s e.1,k.nw s e.2))=((l.map (fun e=>(e.1,k.nw s e.2))).filter (fun e=>p e.1)).map (fun e=>(k.nw s e.1,e.2)):=fun l=>by rw[lS (fun e:ce=>(e.1,k.nw s e.2)) (fun e=>p e.1) (fun e=>p e.1) l (fun _ _=>rfl),List.map_map];rfl
 rw[key q,key q0,c]
section
variable {a:Wc}{S:cv}{W:cn}{m:Nat->Int}{Y G:List Int}
def gu (a:Wc)(S:cv)(m:Nat->Int)(G:List Int)(i:Nat):Int:=if m i∈G then m i else(S.s4 a).f (m i)
theorem cD.KQ (hR:cD a S W m Y G)(hb:cM a S.s)(hr:S.s.y<=a.O-S.s.g){g:List Bool->List Bool}(hg:dL W.T W.wt g):
 ∃K,rV a S W m (W.c0 g false) (W.cR g false).1 (W.cR g false).2.1 ⟨⟨0,(S.s6 a).g,(S.s6 a).ws,[],(S.s6 a).rs⟩,(S.s.k0 a).sR (S.t3 a) S.r,(S.s.k0 a).jq (S.t3 a) S.r⟩ (gu a S m G) (G++K):=by
 obtain⟨D,hc,h0⟩:=jA.start hR hb hr hg;have hs:=jA.settled hR hb hc hg h0;obtain⟨K,li,N⟩:=hs.dm.li;have li:=li;have N:=N;obtain⟨bd,ch,c⟩:=qZ hR.kv hb hr;have bp:bd=K:=by have l2:=(c.li.mi.full.lists (O:=a.O) hb.n1 hb.y1 hb.o1 c.li.mi.ci.hg).2;have aF:=((li.mi.full.lists (O:=a.O) hb.n1 hb.y1 hb.o1 li.mi.ci.hg).2).symm.trans l2;exact(List.append_cancel_left aF).symm
 subst bp;refine⟨bd,?_⟩
 have ci:=li.mi.ci;have e3:=li.mi.e3;have ao:=hR.f_ hb;have hz:∀v,(v∈(S.s.k0 a).T\/v∈(S.s.z0 G).G)->∀i,0<=i->i<pf ((S.s.k0 a).l0 (S.s.z0 G) v)->dd ((S.s.k0 a).l0 (S.s.z0 G) (v+1+i))=true->cq ((S.s.k0 a).l0 (S.s.z0 G) (v+1+i))∈(S.s.k0 a).T\/cq ((S.s.k0 a).l0 (S.s.z0 G) (v+1+i))∈(S.s.z0 G).G:=fun v hv i br ai ha=>by rw[ao] at hv⊢;exact hR.kv.inv.fd v hv i br ai ha
 have gd:=hs.gd;have ok:=hs.ok;have al:∀i,cw (W.cR g false).1 i->(S.s.k0 a).or (S.s.z0 G) (S.s4 a) (m i) (gu a S m G i):=fun i b=>by
  have ha:=ok.al i b;unfold gu;by_cases d:m i∈G
  ·rw[aK d];exact aM ⟨rfl,d⟩
  ·rw[aI d];have hy:=(hR.mem ha).resolve_right d;exact aL ⟨by rw[ao];exact hy,rfl,((hR.kj hb _ ha).1 ((gd i ha).2 b)).resolve_left d⟩
 have hcl:hP W.T W.wt (cw (W.cR g false).1):=by
  intro i hi bs v hv l;have be:∀j,cw (W.cR g false).1 j->_/\_:=fun j ab=>⟨ok.al j ab,(gd j (ok.al j ab)).2 ab⟩
  obtain⟨q1,s⟩:=hR.vy hb hc hs.dm vz i hi (be i bs) v (hv.mono be) l;exact(gd _ q1).1 s
 have bt:da (S.s.k0 a) (S.t3 a).1 (S.s4 a):=by obtain⟨bx,aF,b0⟩:=h0.dm.li;obtain⟨_,_,_,cH,_⟩:=c_.e_ (k:=S.s.k0 a) (z:=S.s.z0 G) (D:=D) (S.t3 a) S.r bx aF b0;exact cH
 have hup:∀i,cw (W.c0 g false) i->cw (W.cR g false).1 i:=fun i hi=>by have ha:=h0.ok.al i hi;exact(gd i ha).1 (pG bt ((h0.gd i ha).2 hi))
 have F:∀i,cw (W.cR g false).1 i->((W.T.getD i t0).1=3\/(W.T.getD i t0).1=4->_=_):=fun i hi q=>hR.two (ok.al i hi) (aL q)
 have am:∀v,dG W.T v->(v.1=3->cw (W.cR g false).1 v.2.toNat)->(S.s.k0 a).nw (S.s4 a) (wv m v)=wv (gu a S m G) v:=fun v hv b=>by
  by_cases l:v.1=3
  ·have ha:=(hv.t l).2;rw[iP l,iP l];unfold gu;by_cases d:m v.2.toNat∈G
   ·rw[aK d];refine oM ?_;rw[Bool.eq_false_iff];intro hy;exact hR.kO hb ((hR.oL hb ha).1 hy) d
   ·rw[aI d];have hy:=(hR.mem ha).resolve_right d;have e:=(hR.word hb ha).2.2;rw[rS ((hR.oL hb ha).2 hy) (by rw[e];exact((hR.kj hb _ ha).1 ((gd _ ha).2 (b l))).resolve_left d),e]
  ·rw[mM l,mM l];refine oM ?_;unfold cj.cP;rw[(nR _ _ (hv.o l)).1];have:(v.1==3)=false:=by simpa using l
   rw[this];rfl
 have vu:∀e,gq W.T e->cw (W.cR g false).1 e.1.toNat->cw (W.cR g false).1 e.2.toNat->((S.s.k0 a).nw (S.s4 a) (we m e).1,(S.s.k0 a).nw (S.s4 a) (we m e).2)=we (gu a S m G) e:=fun e he b4 F=>by
  have q1:=am (3,e.1) ⟨fun _=>⟨he.g0,he.g⟩,fun c=>absurd rfl c⟩ (fun _=>b4)
  have s:=am (3,e.2) ⟨fun _=>⟨he.h0,he.h⟩,fun c=>absurd rfl c⟩ (fun _=>F)
  rw[iP rfl,iP rfl] at q1 s;unfold we;exact Prod.ext q1 s
 have lo:∀{p:Int},(a.N:Int)<=p->ld a.N 0 (S.s6 a).g (S.s6 a).ws p=(S.s.k0 a).ld ((S.s.k0 a).be ((S.s.k0 a).mw (S.s4 a) (S.s4 a).wk) ((S.s.k0 a).mw (S.s4 a) (S.s4 a).wk).ep) p:=fun hp=>ub hp hb.y1;refine
 {
  kv:=⟨c.done hR.kv hb,fun v _ i _ _ _ hy=>(by cases hy)⟩,ok:=ok,cl:=hcl,up:=hup,rr:=hs.r,cc:=hs.c
  rs:=?_,pl:=fun i b=>li.mi.mem (al i b),inj:=fun i j hi ab e=>?_,gh:=fun v hv=>?_,hd:=fun i b=>?_,fd:=fun i b k hk=>?_,rg:=?_,wt:=?_}
 ·have b5:(S.s6 a).rs=(S.s4 a).rs:=(BF _ _ _).trans (BE _ _ _)
  show(S.s6 a).rs=_;rw[b5];refine vD 0 (by rw[aZ,hR.rl];exact c.rl) (fun i hi=>?_)
  have hi:i<12:=by rw[c.rl] at hi;exact hi
  obtain⟨er,hv⟩:=hR.root hi;have hm:=c.rm i hi;rw[er] at hm;rw[BA hm (c.zF i hi),lh (wv (gu a S m G)) W.rs i (0,0) 0 (by rw[hR.rl];exact hi)];exact am _ hv (hs.r _ (getD_in (by rw[hR.rl];exact hi)))
 ·have o1:=al i hi;have bg:=al j ab;rw[<-e] at bg;refine hR.inj i j (ok.al i hi) (ok.al j ab) ?_;rcases o1 with⟨a1,a2⟩|⟨a1,a2,ap⟩<;>rcases bg with⟨b1,b2⟩|⟨b1,b2,b3⟩
  ·exact a1.trans b1.symm
  ·have q1:=li.mi.kV _ a2;have s:=li.mi.hlo _ (li.mi.fh _ b1 (by rw[b2];exact b3))
   rw[b2] at s;omega
  ·have q1:=li.mi.kV _ b2;have s:=li.mi.hlo _ (li.mi.fh _ a1 (by rw[a2];exact ap))
   rw[a2] at s;omega
  ·exact li.mi.inj _ a1 _ b1 (by rw[a2];exact ap) (a2.trans b2.symm)
 ·obtain⟨x,o⟩:=li.mi.from hv;have hm:x∈Y\/x∈G:=by
   have:=vo o;rw[ao] at this
   exact this
  obtain⟨i,hi,rfl⟩:=hR.gh x hm;have b:cw (W.cR g false).1 i:=(gd i hi).1 ((hR.kj hb _ hi).2 (by
   rcases o with⟨a1,a2⟩|⟨a1,a2,ap⟩
   ·exact aM (by rw[a1];exact a2)
   ·omega))
  refine⟨i,b,?_⟩
  unfold gu;rcases o with⟨a1,a2⟩|⟨a1,a2,ap⟩
  ·rw[aK (by rw[a1];exact a2)];exact a1
  ·rw[ao] at a1;rw[aI (hR.kO hb a1)];exact a2
 ·have o:=al i b;have b6:=li.mi.bd (li.mi.mem o)
  show ld a.N 0 (S.s6 a).g (S.s6 a).ws (gu a S m G i)=_;rw[lo b6.1];exact(KM li N o).1
 ·have o:=al i b;have ha:=ok.al i b;obtain⟨aR,a0,_⟩:=hR.parts ha;have an:(S.s.k0 a).ld (S.s4 a) (gu a S m G i)=ld a.N S.s.y S.s.g S.s.ws (m i):=li.mi.hd _ _ o;have ai:(k:Int)<pf ((S.s.k0 a).l0 (S.s.z0 G) (m i)):=by
   show(k:Int)<pf (ld a.N S.s.y S.s.g S.s.ws (m i))
   rw[a0];omega
  have b9:(k:Int)<pf ((S.s.k0 a).ld (S.s4 a) (gu a S m G i)):=by rw[an,a0];omega
  have ar:∀n,n<(W.T.getD i t0).2.1.length->(S.s.k0 a).l0 (S.s.z0 G) (m i+1+n)=wv m ((W.T.getD i t0).2.1.getD n (0,0)):=fun n hn=>hR.fd i ha n hn;have a3:=li.mi.fd (m i) _ o k (Int.natCast_nonneg k) ai;rw[ar k hk] at a3;have bi:=hR.fv i ha _ (getD_in (x:=((0,0):Int×Int)) hk)
  show ld a.N 0 (S.s6 a).g (S.s6 a).ws (gu a S m G i+1+k)=_;have hN:(a.N:Int)<=gu a S m G i:=(li.mi.bd (li.mi.mem o)).1;rw[lo aa,KL li N o (Int.natCast_nonneg k) ai,mQ b (F i b) hk];have lost:(W.T.getD i t0).1=3\/(W.T.getD i t0).1=4->(d6 (W.cR g false).1 ((W.T.getD i t0).2.1.getD 0 (0,0))=false↔(S.s.k0 a).ls (S.s4 a) (wv m ((W.T.getD i t0).2.1.getD 0 (0,0)))=true):=fun q=>by
   have l2:=F i b q;have ba:=hR.fv i ha _ (getD_in (x:=((0,0):Int×Int)) (show 0<(W.T.getD i t0).2.1.length by omega))
   constructor
   ·intro d;obtain⟨bl,ca⟩:=ny d;have cb:=(ba.t bl).2;have:¬(S.s.k0 a).al (S.s4 a) (ew 3 (m ((W.T.getD i t0).2.1.getD 0 (0,0)).2.toNat))=true:=fun w=>by
     have:=(gd _ cb).1 w;unfold cw at this
     rw[ca] at this
     cases this
    rw[iP bl];unfold cj.al at this
    simpa using this
   ·intro d;obtain⟨u,_⟩:=hR.rR hb ba (mO d)
    rw[iP u] at d;rw[BC u];cases w:(W.cR g false).1.getD ((W.T.getD i t0).2.1.getD 0 (0,0)).2.toNat false
    ·rfl
    ·have:=(gd _ (ba.t u).2).2 w;unfold cj.al at this
     rw[d] at this
     cases this
  have met:(W.T.getD i t0).1=3\/(W.T.getD i t0).1=4->(S.s.k0 a).ls (S.s4 a) (wv m ((W.T.getD i t0).2.1.getD 0 (0,0)))=true->(S.s.k0 a).ld (S.s4 a) (gu a S m G i+1+0)=wv m ((W.T.getD i t0).2.1.getD 0 (0,0))/\((W.T.getD i t0).1=3->gu a S m G i∈(S.s4 a).wk)/\((W.T.getD i t0).1=4->gu a S m G i∈(S.s4 a).ep):=fun q d=>by
   have l2:=F i b q;have bb:(0:Int)<pf ((S.s.k0 a).l0 (S.s.z0 G) (m i)):=aa;have j2:(0:Int)<pf ((S.s.k0 a).ld (S.s4 a) (gu a S m G i)):=by rw[an,a0];omega
   have bn:=li.mi.fd (m i) _ o 0 (Int.le_refl 0) bb;have ex:(S.s.k0 a).l0 (S.s.z0 G) (m i+1+0)=wv m ((W.T.getD i t0).2.1.getD 0 (0,0)):=ar 0 aa;rw[ex] at bn;have B:(S.s.k0 a).ld (S.s4 a) (gu a S m G i+1+0)=wv m ((W.T.getD i t0).2.1.getD 0 (0,0)):=by
    rcases bn with w|⟨_,w,_⟩
    ·exact w
    ·exact absurd (cj.m7 d).2.2 w
   have f:=li.fields hs.dm.he hz hc (li.mi.mem o) (Int.le_refl 0) j2 ((B▸(cj.m7 d).1))
   rw[an,aR] at f;refine⟨B,fun u=>?_,fun ad=>?_⟩
   ·rcases f with w|⟨_,_,w⟩|⟨w,_⟩
    ·have:=li.mi.pB w;rw[B,mO d] at this
     cases this
    ·exact w
    ·omega
   ·rcases f with w|⟨w,_,_⟩|⟨_,w⟩
    ·have:=li.mi.pB w;rw[B,mO d] at this
     cases this
    ·omega
    ·exact w
  by_cases ag:gu a S m G i∈(S.s4 a).ep
  ·have ad:(W.T.getD i t0).1=4:=by
    have:=(N.ep _ ag).2;rw[an,aR] at this
    exact this
   have l2:=F i b (aL ad)
   have t:=hs.dm.ep _ ag;have t:=t;have bb:(0:Int)<pf ((S.s.k0 a).l0 (S.s.z0 G) (m i)):=aa;have cd:gu a S m G i+1+0=gu a S m G i+1:=aa;rw[<-cd] at t;have ea:=li.mi.rQ o (Int.le_refl 0) bb (mO t)
   have ex:(S.s.k0 a).l0 (S.s.z0 G) (m i+1+0)=wv m ((W.T.getD i t0).2.1.getD 0 (0,0)):=ar 0 aa;rw[ea,ex] at t;rw[aK ag,aK ⟨⟨aL ad,(lost (aL ad)).2 t⟩,aa⟩,vE]
  ·rw[aI ag];by_cases bo:gu a S m G i∈(S.s4 a).wk/\(k:Int)=0
   ·obtain⟨hw,ck⟩:=bo;have u:(W.T.getD i t0).1=3:=by
     have:=(N.wk _ hw).2;rw[an,aR] at this
     exact this
    have fU:k=0:=aa;subst fU;rw[aK ⟨hw,rfl⟩];cases t:d6 (W.cR g false).1 ((W.T.getD i t0).2.1.getD 0 (0,0))
    ·have q:=(lost (aM u)).1 t;have B:=(met (aM u) q).1;have B:(S.s.k0 a).ld (S.s4 a) (gu a S m G i+1+((0:Nat):Int))=wv m ((W.T.getD i t0).2.1.getD 0 (0,0)):=B;rw[aK ⟨⟨aM u,rfl⟩,aM rfl⟩,vE,B];unfold cj.cK;rw[aK q]
    ·rw[aI (fun q=>by simp_all)];have ce:(S.s.k0 a).ls (S.s4 a) ((S.s.k0 a).ld (S.s4 a) (gu a S m G i+1+((0:Nat):Int)))=false:=by rw[Bool.eq_false_iff];intro w;rw[(li.mi.rQ o (Int.natCast_nonneg 0) ai (mO w)),ar 0 hk] at w;rw[(lost (aM u)).2 w] at t;cases t
     unfold cj.cK;rw[ce,aI ac,Bz ci e3 a3];refine am _ bi (fun l=>?_)
     exact nz t l
   ·rw[aI bo];have cf:(S.s.k0 a).cP ((S.s.k0 a).ld (S.s4 a) (gu a S m G i+1+k))=false:=by
     cases hab:dd ((S.s.k0 a).ld (S.s4 a) (gu a S m G i+1+k))
     ·unfold cj.cP;rw[hab];rfl
     ·rcases li.fields hs.dm.he hz hc (li.mi.mem o) (Int.natCast_nonneg k) b9 hab with w|⟨_,w1,cm⟩|⟨_,w⟩
      ·exact li.mi.pB w
      ·simp_all
      ·exact absurd w ag
    have nb:¬((((W.T.getD i t0).1=3\/(W.T.getD i t0).1=4)/\d6 (W.cR g false).1 ((W.T.getD i t0).2.1.getD 0 (0,0))=false)/\(k=0\/((W.T.getD i t0).1=4/\k=1))):=by
     rintro⟨⟨q1,s⟩,q3⟩
     obtain⟨_,cn,cg⟩:=met q1 ((lost q1).1 s)
     rcases q1 with u|ad
     ·simp_all
     ·exact ag (cg ad)
    rw[aI nb,BA a3 cf];refine am _ bi (fun l=>?_)
    have hl:=hR.led ok hcl b hk;rw[mQ b (F i b) hk,aI nb] at hl;exact hl l
 ·show(((S.r.filter (fun e=>(S.s.k0 a).al (S.t3 a).1 e.2)).filter (fun e=>(S.s.k0 a).al (S.s4 a) e.1)).map (fun e=>((S.s.k0 a).nw (S.s4 a) e.1,(S.s.k0 a).nw (S.s4 a) e.2)))=_;rw[hR.rg,List.filter_filter];rw[lS (we m) _ (fun e=>cV (W.c0 g false) e.2&&cV (W.cR g false).1 e.1) W.rg (fun e he=>by have q1:(S.s.k0 a).al (S.t3 a).1 (we m e).2=cV (W.c0 g false) e.2:=h0.is (hR.gv e he).h;have s:(S.s.k0 a).al (S.s4 a) (we m e).1=cV (W.cR g false).1 e.1:=hs.is (hR.gv e he).g;rw[q1,s,Bool.and_comm]),List.map_map];exact Bt
 ·show((((S.s.k0 a).e_ (S.t3 a) S.r).2.filter (fun e=>(S.s.k0 a).al (S.s4 a) e.1)).map (fun e=>((S.s.k0 a).nw (S.s4 a) e.1,(S.s.k0 a).nw (S.s4 a) e.2)))=_;rw[hs.dm.q.told ci e3 ((S.s.k0 a).al (S.s4 a))];have hE:∀e∈W.wt++(W.cR g false).2.1,gq W.T e:=fun e he=>by
   rcases List.mem_append.1 he with d|d
   ·exact hR.dB e d
   ·exact hR.gv e (hs.c e d).1
  rw[lS (we m) _ (fun e=>cV (W.cR g false).1 e.1) _ (fun e he=>hs.is (hE e he).g),List.map_map];exact Bq
theorem cD.BG (d:cD a S W m Y G)(hb:cM a S.s){g:List Bool->List Bool}(hg:dL W.T W.wt g):S.full a=W.cF g a.O false:=by
 have b:=d.us hb;have e:=hb.g1;unfold cv.full cn.cF;rw[b];by_cases c:a.O-S.s.g<S.s.y
 ·rw[bm c,bm (show(a.O:Int)-(S.s.g:Int)<(S.s.y:Int) by omega)];rfl
 ·rw[bB c,bB (show¬(a.O:Int)-(S.s.g:Int)<(S.s.y:Int) by omega)];obtain⟨D,hc,h0⟩:=jA.start d hb aa hg;have f:gD (fun i=>(W.cR g false).1.getD i false) (iQ W.T) W.T.length<=gD (fun i=>jz W.T i||oB W.T i) (iQ W.T) W.T.length:=Bl _ (fun i hi hp=>by unfold jz oB;rw[((jA.settled d hb hc hg h0).ok.al i hp).2];cases (W.T.getD i t0).2.2.1<;>rfl)
  have j:=Bm (R:=fun i=>jz W.T i||oB W.T i) (z:=iQ W.T) W.T.length (fun i _=>⟨rfl,by unfold jz oB;cases (W.T.getD i t0).2.2.2<;>cases (W.T.getD i t0).2.2.1<;>rfl⟩)
  rw[Bo] at b;have k:=congrArg Prod.fst b;have l:=congrArg Prod.snd b;rw[bB (by rw[(vm W.T (W.cR g false).1 W.T.length)];omega)];rfl
theorem cD.BH (b:cD a S W m Y G)(hb:cM a S.s){g:List Bool->List Bool}(hg:dL W.T W.wt g):S.code a=W.g9 g a.O false:=by unfold cv.code cn.g9;rw[b.BG hb hg]
theorem cD.cut (b:cD a S W m Y G)(hb:cM a S.s){g:List Bool->List Bool}(hg:dL W.T W.wt g):∃d e f,cD a (S.cut a) (W.cut g a.O false) d e f:=by
 unfold cn.cut;rw[<-b.BG hb hg];cases hf:S.full a
 ·rw[aI ac];have hr:S.s.y<=a.O-S.s.g:=by exact qz
  obtain⟨K,c⟩:=b.KQ hb hr hg;unfold cv.cut;rw[hf,aI ac];exact⟨_,_,_,c.done b⟩
 ·refine⟨m,Y,G,?_⟩
  unfold cv.cut;rw[hf,aK rfl];exact b
end
end Go.Proofs.YtpkjkjhanlbcoaaGreat
