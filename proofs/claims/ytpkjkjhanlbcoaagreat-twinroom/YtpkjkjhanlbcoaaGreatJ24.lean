import Derived.Test.YtpkjkjhanlbcoaaGreatJ23
namespace Go.Proofs.YtpkjkjhanlbcoaaGreat
open Go.RowKit W Kp cf
theorem Bg {P:Prop}(h:P:=by
 refine List.map_congr_left (fun e he=>?_)
 obtain⟨z1,z2⟩:=List.mem_filter.1 he;have h5:=hE e z1;refine vi e h5 z2 ?_;rcases List.mem_append.1 z1 with d|d
 ·exact hcl _ h5.g.1 z2 (3,e.2) (aJ (aJ (aJ ⟨h5.k,e,d,by have:=h5.g0;omega,rfl⟩))) rfl
 ·exact(hs.c e d).2):P:=h
theorem Bh {P:Prop}(h:P:=by
 obtain⟨q1,q2⟩:=w.ep c hc;have q3:=li.mi.bd q1;have:=il q3.2.2 (aJ (aJ q2))
 exact⟨h7 V V,h7 V V⟩):P:=h
theorem Bj {P:Prop}(h:P:=by
 refine List.map_congr_left (fun e he=>?_)
 obtain⟨z1,z2⟩:=List.mem_filter.1 he;rw[a_] at z2;exact vi e (hR.gv e z1) z2.2 (hup _ z2.1)):P:=h
theorem Bk {P:Prop}(h:P:=by
 obtain⟨q1,q2⟩:=w.wk c hc;have q3:=li.mi.bd q1;have:=il q3.2.2 (aJ (aK q2))
 exact h7 V V):P:=h
theorem Bl {P:Prop}(h:P:=by
 have:=h.fd i hi 1 V;rw[<-e] at this
 show ld a.N S.s.y S.s.g S.s.ws (m i+2)=_;rw[<-this]
 congr 1
 omega):P:=h
section
variable {a:Wc}{S:cq}{W:ck}{m:Nat->Int}{Y G:List Int}
theorem cy.T (h:cy a S W m Y G)(hb:cI a S.s):(S.s.j0 a).T=G++Y:=(kQ h.kv.inv.full hb).2.2
theorem cy.memT (h:cy a S W m Y G)(hb:cI a S.s){i:Nat}(hi:cv W.T i):m i∈(S.s.j0 a).T:=by rw[h.T hb];exact List.mem_append.2 ((h.mem hi).symm)
theorem cy.vj (h:cy a S W m Y G)(hb:cI a S.s){c:Int}(hc:c∈(S.s.j0 a).T):∃i,cv W.T i/\m i=c:=by rw[h.T hb] at hc;exact h.f6 c ((List.mem_append.1 hc).symm)
theorem cy.jt (h:cy a S W m Y G)(hb:cI a S.s){v:Int×Int}(hv:dM W.T v):(S.s.j0 a).jt (wv m v)=(v.1==3):=by
 unfold b9.jt;rw[h.u_ hb hv];by_cases c:v.1=3
 ·rw[(h.vt hb hv c).2,c,List.contains_iff_mem.2 (h.memT hb (hv.t c).2)];rfl
 ·have e:(v.1==3)=false:=by simpa using c
  rw[e];rfl
theorem cy.kt (h:cy a S W m Y G)(hb:cI a S.s){i:Nat}(hi:cv W.T i):(S.s.j0 a).jt (ew 3 (m i))=true/\cg (ew 3 (m i))=m i:=by obtain⟨_,b,c⟩:=h.word hb hi;unfold b9.jt;rw[b,c,List.contains_iff_mem.2 (h.memT hb hi)];exact⟨rfl,rfl⟩
theorem cy.al (h:cy a S W m Y G)(hb:cI a S.s)(s:cu){i:Nat}(hi:cv W.T i):(S.s.j0 a).al s (ew 3 (m i))=true↔s.f (m i)≠-1:=by obtain⟨w1,b⟩:=h.kt hb hi;unfold b9.al b9.cS;rw[w1,b];simp
theorem cy.oC (h:cy a S W m Y G)(hb:cI a S.s)(s:cu){v:Int×Int}(hv:dM W.T v)(b:v.1=3):(S.s.j0 a).cS s (wv m v)=false↔s.f (m v.2.toNat)≠-1:=by rw[ir b,<-h.al hb s (hv.t b).2];unfold b9.al;simp
theorem cy.marked (h:cy a S W m Y G)(hb:cI a S.s){s:cu}{q:List b7}(l:fO (S.s.j0 a) s q)(hq:∀e∈W.wt,we m e∈q):gY W.T W.wt (fun i=>cv W.T i/\s.f (m i)≠-1):=by
 intro i _ B v hv d;obtain⟨hi,p⟩:=B;have hk:m7 (S.s.j0 a) s (m i):=by
  rcases l.jR.cmp _ (h.memT hb hi) p with c|c|c
  ·rw[l.td] at c;cases c
  ·exact absurd c id
  ·exact c
 obtain⟨g,C,_⟩:=h.parts hi;have g:pk ((S.s.j0 a).ld (m i))=(W.T.getD i t0).1:=g;rcases hv with⟨c,hm⟩|⟨c,e⟩|⟨c,D,e⟩|⟨c,j,he,J,E⟩
 ·obtain⟨k,K,_,F⟩:=h.field hi hm;have b:=h.fv i hi v hm;refine⟨(b.t d).2,(h.oC hb s b d).1 ?_⟩
  have:=hk.p (by rw[g];exact c) k (by show(k:Int)<pf (ld a.N S.s.y S.s.g S.s.ws (m i));rw[C];omega)
  have e:(S.s.j0 a).ld (m i+1+k)=wv m v:=F;rw[e] at this
  exact this
 ·have hl:=h.two hi (aJ (aK c))
  have hm:v∈(W.T.getD i t0).2.1:=by rw[e];exact getD_in V
  have b:=h.fv i hi v hm;refine⟨(b.t d).2,(h.oC hb s b d).1 ?_⟩
  have:=hk.w (by rw[g];exact c)
  have o:(S.s.j0 a).ld (m i+2)=wv m v:=by exact Bl
  rw[o] at this
  exact this
 ·have hl:=h.two hi (aJ (aJ c))
  have hm:v∈(W.T.getD i t0).2.1:=by rw[e];exact getD_in V
  have b:=h.fv i hi v hm;refine⟨(b.t d).2,(h.oC hb s b d).1 ?_⟩
  have o:(S.s.j0 a).ld (m i+2)=wv m v:=by exact Bl
  have e7:(S.s.j0 a).ld (m i+1)=wv m ((W.T.getD i t0).2.1.getD 0 (0,0)):=by
   have:=h.fd i hi 0 V;show ld a.N S.s.y S.s.g S.s.ws (m i+1)=_;rw[<-this]
   congr 1
   omega
  rcases hk.e (by rw[g];exact c) with n|n
  ·have f:=l.ep _ n;rw[e7] at f;have t:=h.fv i hi _ (getD_in (x:=((0,0):Int×Int)) (show 0<(W.T.getD i t0).2.1.length by omega))
   have u:(S.s.j0 a).jt (wv m ((W.T.getD i t0).2.1.getD 0 (0,0)))=true:=by unfold b9.cS at f;rw[a_] at f;exact f.1
   rw[h.jt hb t] at u;have w:((W.T.getD i t0).2.1.getD 0 (0,0)).1=3:=by simpa using u
   have:=(h.oC hb s t w).2 (D w).2;rw[this] at f;cases f
  ·rw[o] at n;exact n
 ·have A:=h.dy j he;have H:j.1.toNat=i:=V;have I:v.2.toNat=j.2.toNat:=by rw[E]
  rw[I];refine⟨A.h,(h.al hb s A.h).1 ?_⟩
  rcases l.wq _ (hq j he) with c|c
  ·exact c
  ·exfalso;have:=(h.al hb s hi).2 p;have c:(S.s.j0 a).al s (ew 3 (m j.1.toNat))=false:=c;rw[H,this] at c;cases c
def hP (W:ck)(m:Nat->Int)(X:Nat->Prop)(c:Int):Prop:=∃i,cv W.T i/\m i=c/\X i
theorem cy.mI (h:cy a S W m Y G){X:Nat->Prop}{i:Nat}(hi:cv W.T i):hP W m X (m i)↔X i:=
 ⟨fun⟨j,c,e,b⟩=>by rw[<-h.inj j i c hi e];exact b,fun b=>⟨i,hi,rfl,b⟩⟩
theorem cy.closed (h:cy a S W m Y G)(hb:cI a S.s){X:Nat->Prop}(u:gY W.T W.wt X)(hr:∀v∈W.rs,v.1=3->X v.2.toNat):nh (S.s.j0 a) (hP W m X)/\pB (S.s.j0 a) (hP W m X) (W.wt.map (we m)):=by
 have key:∀{i:Nat}{v:Int×Int},cv W.T i->X i->dM W.T v->jC W.T W.wt X i v->(S.s.j0 a).jt (wv m v)=true->hP W m X (cg (wv m v)):=fun {i v} hi f hv hk d=>by
  rw[h.jt hb hv] at d;have g:v.1=3:=by simpa using d
  rw[(h.vt hb hv g).2];exact⟨_,(hv.t g).2,rfl,u i hi.1 f v hk g⟩
 have fl:∀{i:Nat},cv W.T i->∀k:Nat,(k:Int)<pf ((S.s.j0 a).ld (m i))->k<(W.T.getD i t0).2.1.length:=fun {i} hi k hk=>by have hk:(k:Int)<pf (ld a.N S.s.y S.s.g S.s.ws (m i)):=hk;rw[(h.parts hi).2.1] at hk;omega
 have kd:∀{i:Nat},cv W.T i->pk ((S.s.j0 a).ld (m i))=(W.T.getD i t0).1:=fun {i} hi=>(h.parts hi).1;have p:∀{i:Nat},cv W.T i->(W.T.getD i t0).2.1.length=2->(S.s.j0 a).ld (m i+2)=wv m ((W.T.getD i t0).2.1.getD 1 (0,0))/\(S.s.j0 a).ld (m i+1)=wv m ((W.T.getD i t0).2.1.getD 0 (0,0)):=fun {i} hi hl=>by
  constructor
  ·show ld a.N S.s.y S.s.g S.s.ws (m i+2)=_;rw[<-(h.fd i hi 1 V)]
   congr 1
   omega
  ·show ld a.N S.s.y S.s.g S.s.ws (m i+1)=_;rw[<-(h.fd i hi 0 V)]
   congr 1
   omega
 refine⟨⟨fun i hi d=>?_,fun c hc n hk i hi d=>?_,fun c hc n hk d=>?_,fun c hc n hk w d=>?_⟩,fun e he hg d=>?_⟩
 ·obtain⟨er,hv⟩:=h.root hi;have er:(S.s.j0 a).s.rs.getD i 0=wv m (W.rs.getD i (0,0)):=er;rw[er] at d⊢;rw[h.jt hb hv] at d;have g:(W.rs.getD i (0,0)).1=3:=by simpa using d
  rw[(h.vt hb hv g).2];exact⟨_,(hv.t g).2,rfl,hr _ (getD_in (by rw[h.rl];exact hi)) g⟩
 ·obtain⟨j,b,rfl,f⟩:=n;have hl:=fl b i hi;have B:(S.s.j0 a).ld (m j+1+i)=wv m ((W.T.getD j t0).2.1.getD i (0,0)):=h.fd j b i hl;rw[B] at d⊢;rw[kd b] at hk;exact key b f (h.fv j b _ (getD_in hl)) (aK ⟨hk,getD_in hl⟩) d
 ·obtain⟨j,b,rfl,f⟩:=n;rw[kd b] at hk;have hl:=h.two b (aJ (aK hk))
  rw[(p b hl).1] at d⊢;exact key b f (h.fv j b _ (getD_in V)) (aJ (aK ⟨hk,rfl⟩)) d
 ·obtain⟨j,b,rfl,f⟩:=n;rw[kd b] at hk;have hl:=h.two b (aJ (aJ hk))
  rw[(p b hl).1] at d⊢;rw[(p b hl).2] at w;have s:=h.fv j b _ (getD_in (x:=((0,0):Int×Int)) (show 0<(W.T.getD j t0).2.1.length by omega))
  refine key b f (h.fv j b _ (getD_in V)) (aJ (aJ (aK ⟨hk,fun t=>?_,rfl⟩))) d;have q:=w (by rw[h.jt hb s];simpa using t)
  rw[(h.vt hb s t).2] at q;exact(h.mI (s.t t).2).1 q
 ·obtain⟨o,A,rfl⟩:=List.mem_map.1 he;have l:=h.dy o A;obtain⟨g1,g2⟩:=h.kt hb l.g;obtain⟨D,C⟩:=h.kt hb l.h;have q:=hg g1;have q:hP W m X (cg (ew 3 (m o.1.toNat))):=q;rw[g2] at q;show hP W m X (cg (ew 3 (m o.2.toNat)))
  rw[C];exact⟨_,l.h,rfl,u _ l.g.1 ((h.mI l.g).1 q) (3,o.2) (aJ (aJ (aJ ⟨l.k,o,A,by have:=l.g0;omega,rfl⟩))) rfl⟩
structure Rg (a:Wc)(S:cq)(W:ck)(m:Nat->Int)(t:cu×List b7)(L:List Bool)(C:List b7):Prop where
 de:fO (S.s.j0 a) t.1 t.2
 sn:dG (S.s.j0 a) (fun _=>True) t.1
 ok:gE W.T L
 fY:∀i,cv W.T i->(t.1.f (m i)≠-1↔ct L i)
 q:t.2=(W.wt++C).map (we m)
 c:∀e∈C,e∈W.rg/\ct L e.2.toNat
 r:∀v∈W.rs,v.1=3->ct L v.2.toNat
theorem Rg.is (f:cy a S W m Y G)(hb:cI a S.s){t:cu×List b7}{L:List Bool}{C:List b7}(h:Rg a S W m t L C){x:Int}(d:cv W.T x.toNat):(S.s.j0 a).al t.1 (ew 3 (m x.toNat))=cL L x:=by
 unfold cL;have e:=f.al hb t.1 d;have b:=h.fY _ d;unfold ct at b;cases c:L.getD x.toNat false
 ·rw[Bool.eq_false_iff];intro g;have:=b.1 (e.1 g)
  rw[c] at this
  cases this
 ·exact e.2 (b.2 c)
theorem Rg.vk (b:cy a S W m Y G)(hb:cI a S.s){g:List Bool->List Bool}(hg:dR W.T W.wt g):nz (S.s.j0 a).fG g (we m) W.rg (Rg a S W m):=by
 refine⟨fun t L C e h he hn=>?_,fun t L C e h he hy=>?_⟩
 ·have d:=b.gv e he;rw[<-Rg.is b hb h d.g] at hn;exact mV (o:=dI cu) (is:=fun s x=>(S.s.j0 a).al s.1 x) (kp:=(S.s.j0 a).ke) (s:=t) (e:=we m e) hn
 ·have d:=b.gv e he;rw[<-Rg.is b hb h d.g] at hy;obtain⟨k1,I,w,J⟩:=h.de.jR.ke (t:=t) (ew 3 (m e.2.toNat))
  have A:(S.s.j0 a).fG t (we m e)=(true,(((S.s.j0 a).ke t (ew 3 (m e.2.toNat))).2.1,t.2++[we m e])):=by refine(mW (o:=dI cu) (is:=fun s x=>(S.s.j0 a).al s.1 x) (kp:=(S.s.j0 a).ke) (s:=t) (e:=we m e) hy).trans ?_;show(true,(((S.s.j0 a).ke t (ew 3 (m e.2.toNat))).2.1,((S.s.j0 a).ke t (ew 3 (m e.2.toNat))).2.2++[we m e]))=_;rw[w]
  have B:=(h.de.cm (we m e)).1;rw[A] at B;rw[A];obtain⟨o1,U,X⟩:=h.ok.put d.h;have D:=hg _ o1.len o1.al;obtain⟨n1,E,K⟩:=h.ok.fz hg b.iv d.h;have l:=K;obtain⟨c1,c2⟩:=b.closed hb D.cl (fun v hv q=>l _ (h.r v hv q))
  have c3:pB (S.s.j0 a) (hP W m (ct (fz g L e.2))) t.2:=by
   rw[h.q,List.map_append];intro x n;rcases List.mem_append.1 n with f|f
   ·exact c2 x f
   ·obtain⟨u,M,rfl⟩:=List.mem_map.1 f;obtain⟨N,O⟩:=h.c u M;have F:=b.gv u N;intro _ _;show hP W m _ (cg (ew 3 (m u.2.toNat)))
    rw[(b.kt hb F.h).2];exact⟨_,F.h,rfl,l _ O⟩
  have s0:dG (S.s.j0 a) (hP W m (ct (fz g L e.2))) t.1:=⟨fun c hc k=>by obtain⟨i,hi,rfl⟩:=b.vj hb hc;exact⟨i,hi,rfl,l i ((h.fY i hi).1 k)⟩,h.sn.ea⟩
  have s1:=dG.ke c1 c3 s0 h.de.jR (ew 3 (m e.2.toNat)) (fun _=>by rw[(b.kt hb d.h).2];exact⟨_,d.h,rfl,E⟩)
  refine⟨rfl,B,⟨fun _ _ _=>trivial,s1.ea⟩,n1,fun i hi=>⟨fun k=>?_,fun P=>?_⟩,?_,fun x n=>?_,fun v hv q=>l _ (h.r v hv q)⟩
  ·exact(b.mI hi).1 (s1.snd _ (b.memT hb hi) k)
  ·have Q:=b.marked hb k1 (fun x n=>by rw[w,h.q];exact List.mem_map_of_mem (aY _ n))
   refine(D.lt _ Q (fun j p=>?_) i P).2;have H:=o1.al j p;refine⟨H,?_⟩
   unfold ct at p;rw[i8 _ _ _ (by rw[h.ok.len];exact d.h.1)] at p;split at p
   ·rename_i R;rw[<-R];exact(b.al hb _ d.h).1 J
   ·have k:=(h.fY j H).2 p;rw[I.f _ k];exact k
  ·show t.2++[we m e]=_;rw[h.q,<-ba,List.map_append (l₁:=W.wt++C)];rfl
  ·rcases List.mem_append.1 n with f|f
   ·exact⟨(h.c x f).1,l _ (h.c x f).2⟩
   ·rw[List.mem_singleton.1 f];exact⟨he,E⟩
theorem Rg.start (b:cy a S W m Y G)(hb:cI a S.s){g:List Bool->List Bool}(hg:dR W.T W.wt g):Rg a S W m (S.j2 a) (W.c0 g true) []:=by
 have q:=cV.start hb.n1 hb.o1 hb.y1 hb.g1;obtain⟨m1,_,B⟩:=(cZ.start q).cJ 12;obtain⟨c,C,d⟩:=cZ.sp (t:=((S.s.j0 a).cJ gM 12,S.q)) m1;have d:(S.j2 a).2=S.q:=d;have f:=b.first true;have s:=hg _ f.len f.al;obtain⟨n1,D⟩:=hg.ok b.iv f;have hr:_:=fun v hv l=>D _ ((kw _ _ _ _).2 ⟨((b.rv v hv).t l).2.1,aJ ⟨v,hv,l,rfl⟩⟩)
 obtain⟨c1,c2⟩:=b.closed hb s.cl hr;rw[<-b.wt] at c2;have cJ:∀n,n<=12->dG (S.s.j0 a) (hP W m (ct (W.c0 g true))) ((S.s.j0 a).cJ gM n):=fun n=>by
  induction n with
  |zero=>
   intro _;show dG _ _ gM;exact⟨fun _ _ o=>absurd rfl o,fun _ ha=>by simp[gM] at ha⟩
  |succ n E=>
   intro hn;obtain⟨m1,_⟩:=(cZ.start (X:=fun _=>False) q).cJ n;exact(E V).ma _ (c1.rt n V) (m1.ma _).2.1
 have s1:dG (S.s.j0 a) (hP W m (ct (W.c0 g true))) (S.j2 a).1:=dG.cW c1 _ ((S.s.j0 a).cJ gM 12,S.q) c2 (cJ 12 bW) m1;have c:fO (S.s.j0 a) (S.j2 a).1 (S.j2 a).2:=c;refine⟨c,⟨fun _ _ _=>trivial,s1.ea⟩,n1,fun i hi=>⟨fun o=>(b.mI hi).1 (s1.snd _ (b.memT hb hi) o),fun F=>?_⟩,?_,fun e he=>(by cases he),hr⟩
 ·refine(s.lt _ (b.marked hb c (fun x H=>by rw[d,b.wt];exact List.mem_map_of_mem H)) (fun j u=>?_) i F).2;refine⟨f.al j u,?_⟩
  obtain⟨_,p⟩:=(kw _ _ _ _).1 u;rcases p with⟨_,_,p⟩|⟨v,hv,l,e⟩
  ·cases p
  ·obtain⟨k,hk,e7⟩:=List.mem_iff_getElem.1 hv;have w:k<12:=by rw[<-b.rl];exact hk
   obtain⟨er,A⟩:=b.root w;have I:W.rs.getD k (0,0)=v:=by rw[aE,aL hk,e7];rfl
   rw[I] at er A;have j0:=B k w;have er:(S.s.j0 a).s.rs.getD k 0=wv m v:=er;rw[er] at j0;rw[<-e];exact(b.oC hb _ A l).1 (C.cS j0)
 ·rw[d,b.wt,List.append_nil]
theorem Rg.settled (b:cy a S W m Y G)(hb:cI a S.s){g:List Bool->List Bool}(hg:dR W.T W.wt g):Rg a S W m (S.cA a,((S.s.j0 a).eW (S.j2 a) S.r).2) (W.cR g true).1 (W.cR g true).2.1:=by
 have h0:=Rg.start b hb hg;have c:S.r.filter (fun e=>!(S.s.j0 a).al (S.j2 a).1 e.2)=(W.rg.filter (fun e=>!cL (W.c0 g true) e.2)).map (we m):=by rw[b.rg];exact lK _ _ _ W.rg (fun e he=>by show(!(S.s.j0 a).al _ (ew 3 (m e.2.toNat)))=_;rw[Rg.is b hb h0 (b.gv e he).h])
 obtain⟨d,_⟩:=(Rg.vk b hb hg).turns _ (W.rg.filter (fun e=>!cL _ e.2)) (S.j2 a) _ [] (fun e he=>(List.mem_filter.1 he).1) h0;have f:eB (S.s.j0 a).fG ((S.r.filter (fun e=>!(S.s.j0 a).al (S.j2 a).1 e.2)).length+1) (S.j2 a) (S.r.filter (fun e=>!(S.s.j0 a).al (S.j2 a).1 e.2))=eB (S.s.j0 a).fG (W.rg.length+1) (S.j2 a) ((W.rg.filter (fun e=>!cL (W.c0 g true) e.2)).map (we m)):=by rw[c];have hl:=bq (fun e=>!cL (W.c0 g true) e.2) W.rg;exact rB _ _ _ _ _ V (by rw[aW];omega)
 have i:(S.s.j0 a).eW (S.j2 a) S.r=(eB (S.s.j0 a).fG (W.rg.length+1) (S.j2 a) ((W.rg.filter (fun e=>!cL (W.c0 g true) e.2)).map (we m))).1:=by rw[<-f];rfl
 have j:(S.cA a,((S.s.j0 a).eW (S.j2 a) S.r).2)=(S.s.j0 a).eW (S.j2 a) S.r:=rfl;rw[j,i];exact d
end
section
variable {a:Wc}{S:cq}{W:ck}{m:Nat->Int}{Y G D:List Int}
theorem cy.fW (h:cy a S W m Y G)(hb:cI a S.s):(S.s.k0 a).T=Y:=oo h.kv.inv.full hb.n1 hb.y1 hb.o1 hb.g1
theorem cy.j7 (h:cy a S W m Y G)(hb:cI a S.s){v:Int}(b:v∈Y):v∉G:=fun c=>by have q1:=h.kv.inv.full.h_ v b;have d:=h.kv.inv.full.io v c;have:=hb.y1;omega
theorem cy.oD (h:cy a S W m Y G)(hb:cI a S.s){i:Nat}(hi:cv W.T i):(S.s.k0 a).cK (ew 3 (m i))=true↔m i∈Y:=by obtain⟨_,b,c⟩:=h.word hb hi;unfold ce.cK;rw[b,c,h.fW hb];simp
theorem cy.rM (h:cy a S W m Y G)(hb:cI a S.s){v:Int×Int}(hv:dM W.T v)(hy:(S.s.k0 a).cK (wv m v)=true):v.1=3/\cg (wv m v)=m v.2.toNat:=by
 have b:cY (wv m v)=true:=by unfold ce.cK at hy;rw[a_] at hy;exact hy.1
 rw[h.u_ hb hv] at b;have c:v.1=3:=by simpa using b
 exact⟨c,(h.vt hb hv c).2⟩
theorem cy.j8 (h:cy a S W m Y G)(hb:cI a S.s)(s:cj){i:Nat}(hi:cv W.T i):(S.s.k0 a).al s (ew 3 (m i))=true↔(m i∈G\/s.f (m i)≠-1):=by
 have hy:=h.oD hb hi;obtain⟨_,_,d⟩:=h.word hb hi;unfold ce.al ce.ls;rw[d];rcases h.mem hi with b|b
 ·rw[hy.2 b];have:=h.j7 hb b;simp[this]
 ·have:(S.s.k0 a).cK (ew 3 (m i))=false:=by rw[Bool.eq_false_iff];intro c;exact h.j7 hb (hy.1 c) b
  rw[this];simp[b]
theorem cy.Kw (h:cy a S W m Y G)(hb:cI a S.s){s:cj}{i:Nat}(hi:cv W.T i)(hs:(S.s.k0 a).al s (ew 3 (m i))=true):∃b,(S.s.k0 a).or (S.s.z0 G) s (m i) b:=by
 rcases(h.j8 hb s hi).1 hs with c|c
 ·exact⟨m i,aK ⟨rfl,c⟩⟩
 ·rcases h.mem hi with e|e
  ·exact⟨s.f (m i),aJ ⟨by rw[h.fW hb];exact e,rfl,c⟩⟩
  ·exact⟨m i,aK ⟨rfl,e⟩⟩
def pQ (a:Wc)(S:cq)(G D:List Int):Prop:=∀v∈G,v∉D->∀i,0<=i->i<pf ((S.s.k0 a).l0 (S.s.z0 G) v)->(S.s.k0 a).cK ((S.s.k0 a).l0 (S.s.z0 G) (v+1+i))=false
theorem cy.vl (h:cy a S W m Y G)(hb:cI a S.s)(hc:pQ a S G D){q0:List b7}{t:cj×List b7}(d:kX (S.s.k0 a) (S.s.z0 G) D q0 t)(hq:∀e∈W.wt,∃n,n<q0.length/\q0.getD n (0,0)=we m e):
 gY W.T W.wt (fun i=>cv W.T i/\(S.s.k0 a).al t.1 (ew 3 (m i))=true):=by
 obtain⟨H,li,aR⟩:=d.li;have hz:∀v,(v∈(S.s.k0 a).T\/v∈(S.s.z0 G).G)->∀i,0<=i->i<pf ((S.s.k0 a).l0 (S.s.z0 G) v)->cY ((S.s.k0 a).l0 (S.s.z0 G) (v+1+i))=true->cg ((S.s.k0 a).l0 (S.s.z0 G) (v+1+i))∈(S.s.k0 a).T\/cg ((S.s.k0 a).l0 (S.s.z0 G) (v+1+i))∈(S.s.z0 G).G:=fun v hv i O p ha=>by rw[h.fW hb] at hv⊢;exact h.kv.inv.fd v hv i O p ha
 have told:∀{w x:Int}{j:Nat},cv W.T j->w=ew 3 (m j)->(S.s.k0 a).ml t.1 w x->(S.s.k0 a).al t.1 x=true->(S.s.k0 a).al t.1 (ew 3 (m j))=true:=fun {w x j} C f hm P=>by
  rcases hm with e|⟨_,u,_⟩
  ·rw[<-f,<-e];exact P
  ·rw[f,(h.word hb C).2.2] at u;exact(h.j8 hb t.1 C).2 (aJ u)
 intro i _ Q v hv g;obtain⟨hi,hs⟩:=Q;obtain⟨b,o⟩:=h.Kw hb hi hs;have f:(S.s.k0 a).ld t.1 b=ld a.N S.s.y S.s.g S.s.ws (m i):=li.mi.hd _ _ o;obtain⟨E,R,_⟩:=h.parts hi;have A:∀{n:Nat},n<(W.T.getD i t0).2.1.length->((W.T.getD i t0).2.1.getD n (0,0)).1=3->¬((W.T.getD i t0).1=3/\n=0)->¬((W.T.getD i t0).1=4/\b∈t.1.ep)->(S.s.k0 a).al t.1 (ew 3 (m ((W.T.getD i t0).2.1.getD n (0,0)).2.toNat))=true:=fun {n} hn F n1 U=>by
  have B:=h.fv i hi _ (getD_in (x:=((0,0):Int×Int)) hn)
  have I:=(B.t F).2;have J:(S.s.k0 a).l0 (S.s.z0 G) (m i+1+n)=ew 3 (m ((W.T.getD i t0).2.1.getD n (0,0)).2.toNat):=(h.fd i hi n hn).trans (ir F)
  have p:(n:Int)<pf ((S.s.k0 a).l0 (S.s.z0 G) (m i)):=by
   show(n:Int)<pf (ld a.N S.s.y S.s.g S.s.ws (m i))
   omega
  have K:=li.mi.fd (m i) b o n (Int.natCast_nonneg n) p;refine told I J K ?_;rcases K with e|⟨y1,u,X⟩
  ·rw[J] at e;have ha:cY ((S.s.k0 a).ld t.1 (b+1+n))=true:=by rw[e];exact(h.word hb I).2.1
   have ab:(n:Int)<pf ((S.s.k0 a).ld t.1 b):=by rw[f,R];omega
   rcases li.fields d.he hz hc (li.mi.mem o) (Int.natCast_nonneg n) ab ha with c|⟨c1,c2,_⟩|⟨c1,c2⟩
   ·exact qV (li.mi.om c)
   ·rw[f,E] at c1;exact absurd ⟨c1,V⟩ n1
   ·rw[f,E] at c1;exact absurd ⟨c1,c2⟩ U
  ·have ad:=li.mi.i6 (li.mi.fh _ (nG y1) u)
   have a0:=li.mi.ci.hN';have a1:=li.mi.ci.hO;have a2:=li.mi.ci.hg;rw[X];exact qV (nf li.mi.ci ad.1 V)
 rcases hv with⟨c,hm⟩|⟨c,e⟩|⟨c,ag,e⟩|⟨c,s,he,bb,ai⟩
 ·obtain⟨n,hn,en,_⟩:=h.field hi hm;have B:=h.fv i hi v hm;refine⟨(B.t g).2,?_⟩
  have:=A hn (by rw[en];exact g) (fun q=>by omega) (fun q=>by omega)
  rw[en] at this
  exact this
 ·have hl:=h.two hi (aJ (aK c))
  have hm:v∈(W.T.getD i t0).2.1:=by rw[e];exact getD_in V
  refine⟨((h.fv i hi v hm).t g).2,?_⟩
  have:=A (n:=1) V (by rw[<-e];exact g) (fun q=>by omega) (fun q=>by omega)
  rw[<-e] at this
  exact this
 ·have hl:=h.two hi (aJ (aJ c))
  have hm:v∈(W.T.getD i t0).2.1:=by rw[e];exact getD_in V
  refine⟨((h.fv i hi v hm).t g).2,?_⟩
  have L:=h.fv i hi _ (getD_in (x:=((0,0):Int×Int)) (show 0<(W.T.getD i t0).2.1.length by omega))
  have al:b∉t.1.ep:=fun am=>by
   have an:b+1+0=b+1:=V;have p:(0:Int)<pf ((S.s.k0 a).l0 (S.s.z0 G) (m i)):=by
    show(0:Int)<pf (ld a.N S.s.y S.s.g S.s.ws (m i))
    omega
   have k:=d.ep b am;rw[<-an] at k;have e7:(S.s.k0 a).l0 (S.s.z0 G) (m i+1+0)=wv m ((W.T.getD i t0).2.1.getD 0 (0,0)):=h.fd i hi 0 V;rw[(li.mi.rL o (Int.le_refl 0) p (mH k)),e7] at k;obtain⟨M,ao⟩:=h.rM hb L (mH k)
   have q1:=(ce.mY k).2.2;have l:=(ce.mY k).2.1;rw[ao] at q1 l;rw[h.fW hb] at l;rcases(h.j8 hb t.1 (L.t M).2).1 (ag M).2 with w1|w1
   ·exact h.j7 hb l w1
   ·exact w1 q1
  have:=A (n:=1) V (by rw[<-e];exact g) (fun q=>by omega) (fun q=>al q.2)
  rw[<-e] at this
  exact this
 ·have N:=h.dy s he;have ap:s.1.toNat=i:=V;have ar:v.2.toNat=s.2.toNat:=by rw[ai]
  rw[ar];refine⟨N.h,?_⟩
  obtain⟨n,hn,en⟩:=hq s he;obtain⟨q1,l⟩:=d.q.eq n hn;rw[en] at q1 l;have aF:t.2.getD n (0,0)∈t.2:=getD_in (by rw[d.q.len];exact hn)
  refine told N.h rfl l ?_;rcases d.wq _ aF with w1|w1
  ·exact w1
  ·exfalso;have q1:(t.2.getD n (0,0)).1=ew 3 (m s.1.toNat):=q1;rw[q1,ap,hs] at w1;cases w1
theorem cy.Bm (h:cy a S W m Y G)(hb:cI a S.s){X:Nat->Prop}(B:gY W.T W.wt X)(ho:∀i,cv W.T i->(W.T.getD i t0).2.2.1=true->X i):kV (S.s.k0 a) (S.s.z0 G) (hP W m X):=by
 have key:∀{i:Nat}{v:Int×Int},cv W.T i->X i->dM W.T v->jC W.T W.wt X i v->(S.s.k0 a).cK (wv m v)=true->hP W m X (cg (wv m v)):=fun {i v} hi g hv hk f=>by obtain⟨t,e⟩:=h.rM hb hv f;rw[e];exact⟨_,(hv.t t).2,rfl,B i hi.1 g v hk t⟩
 have kd:∀{i:Nat},cv W.T i->pk ((S.s.k0 a).l0 (S.s.z0 G) (m i))=(W.T.getD i t0).1/\pf ((S.s.k0 a).l0 (S.s.z0 G) (m i))=(W.T.getD i t0).2.1.length:=fun {i} hi=>⟨(h.parts hi).1,(h.parts hi).2.1⟩
 have o:∀{i:Nat},cv W.T i->∀{n:Nat},n<(W.T.getD i t0).2.1.length->(S.s.k0 a).l0 (S.s.z0 G) (m i+1+n)=wv m ((W.T.getD i t0).2.1.getD n (0,0)):=fun {i} hi {n} hn=>h.fd i hi n hn;refine⟨fun b u=>?_,fun c _ k hk i hi f=>?_,fun c _ k hk f=>?_,fun c _ k hk w f=>?_⟩
 ·obtain⟨i,hi,e⟩:=h.f6 b (aJ u)
  refine⟨i,hi,e,ho i hi ?_⟩
  cases c:(W.T.getD i t0).2.2.1
  ·exact absurd (e▸u) (h.j7 hb (h.iq i hi c))
  ·rfl
 ·obtain⟨j,d,rfl,g⟩:=k;rw[(kd d).2] at hi;have hl:i<(W.T.getD j t0).2.1.length:=V;rw[o d hl] at f⊢;rw[(kd d).1] at hk;exact key d g (h.fv j d _ (getD_in hl)) (aK ⟨hk,getD_in hl⟩) f
 ·obtain⟨j,d,rfl,g⟩:=k;rw[(kd d).1] at hk;have hl:=h.two d (aJ (aK hk))
  have p:(S.s.k0 a).l0 (S.s.z0 G) (m j+1+1)=wv m ((W.T.getD j t0).2.1.getD 1 (0,0)):=o d (n:=1) V;rw[p] at f⊢;exact key d g (h.fv j d _ (getD_in V)) (aJ (aK ⟨hk,rfl⟩)) f
 ·obtain⟨j,d,rfl,g⟩:=k;rw[(kd d).1] at hk;have hl:=h.two d (aJ (aJ hk))
  have p:(S.s.k0 a).l0 (S.s.z0 G) (m j+1+1)=wv m ((W.T.getD j t0).2.1.getD 1 (0,0)):=o d (n:=1) V;have C:(S.s.k0 a).l0 (S.s.z0 G) (m j+1+0)=wv m ((W.T.getD j t0).2.1.getD 0 (0,0)):=o d (n:=0) V;rw[p] at f⊢;rw[C] at w;have A:=h.fv j d _ (getD_in (x:=((0,0):Int×Int)) (show 0<(W.T.getD j t0).2.1.length by omega))
  refine key d g (h.fv j d _ (getD_in V)) (aJ (aJ (aK ⟨hk,fun s=>?_,rfl⟩))) f;have l:=(A.t s).2;rcases h.mem l with w1|w1
  ·have q:=w (by rw[ir s];exact(h.oD hb l).2 w1)
   rw[(h.vt hb A s).2] at q;exact(h.mI l).1 q
  ·refine ho _ l ?_;cases c:(W.T.getD _ t0).2.2.1
   ·exact absurd w1 (h.j7 hb (h.iq _ l c))
   ·rfl
theorem cy.Bn (h:cy a S W m Y G)(hb:cI a S.s){X:Nat->Prop}(t:gY W.T W.wt X)(ho:∀i,cv W.T i->(W.T.getD i t0).2.2.1=true->X i){C:List b7}(j:∀e∈C,e∈W.rg/\X e.2.toNat){s:cj}{H:List Int}(mi:dE (S.s.k0 a) (S.s.z0 G) s H){q:List b7}(hq:fi (S.s.k0 a) s ((W.wt++C).map (we m)) q):kW (S.s.k0 a) (hP W m X) q:=by
 intro e he hg hy;obtain⟨n,hn,en⟩:=List.mem_iff_getElem.1 he;have u:q.getD n (0,0)=e:=by rw[aE,aL hn,en];rfl
 have g:n<((W.wt++C).map (we m)).length:=by rw[<-hq.len];exact hn
 obtain⟨q1,k⟩:=hq.eq n g;have l:n<(W.wt++C).length:=by rw[aW] at g;exact g
 rw[u,j6 (we m) (W.wt++C) n (0,0) (0,0) l] at q1 k;have o:(W.wt++C).getD n (0,0)∈W.wt++C:=getD_in l;generalize (W.wt++C).getD n (0,0)=d at*;have b:iH W.T d:=by
  rcases List.mem_append.1 o with f|f
  ·exact h.dy d f
  ·exact h.gv d (j d f).1
 have v:e.2=ew 3 (m d.2.toNat):=by
  rcases k with f|⟨y1,w,x⟩
  ·exact f
  ·have A:=mi.i6 (mi.fh _ (nG y1) w)
   have D:=mi.ci.hN';have E:=mi.ci.hO;have F:=mi.ci.hg;rw[x,nf mi.ci A.1 V] at hy;cases hy
 have p:e.1=ew 3 (m d.1.toNat):=q1;rw[v,(h.word hb b.h).2.2];refine⟨_,b.h,rfl,?_⟩
 rcases List.mem_append.1 o with f|f
 ·have B:X d.1.toNat:=by
   rcases h.mem b.g with w1|w1
   ·have:=hg (by rw[p];exact(h.oD hb b.g).2 w1)
    rw[p,(h.word hb b.g).2.2] at this
    exact(h.mI b.g).1 this
   ·refine ho _ b.g ?_;cases c:(W.T.getD _ t0).2.2.1
    ·exact absurd w1 (h.j7 hb (h.iq _ b.g c))
    ·rfl
  exact t _ b.g.1 B (3,d.2) (aJ (aJ (aJ ⟨b.k,d,f,by have:=b.g0;omega,rfl⟩))) rfl
 ·exact(j d f).2
structure jp (a:Wc)(S:cq)(W:ck)(m:Nat->Int)(G D:List Int)(t:cj×List b7)(L:List Bool)(C:List b7):Prop where
 de:kX (S.s.k0 a) (S.s.z0 G) D ((W.wt++C).map (we m)) t
 ok:gE W.T L
 fY:∀i,cv W.T i->((S.s.k0 a).al t.1 (ew 3 (m i))=true↔ct L i)
 c:∀e∈C,e∈W.rg/\ct L e.2.toNat
 r:∀v∈W.rs,v.1=3->ct L v.2.toNat
 o:∀i,cv W.T i->(W.T.getD i t0).2.2.1=true->ct L i
theorem jp.is {t:cj×List b7}{L:List Bool}{C:List b7}(h:jp a S W m G D t L C){x:Int}(d:cv W.T x.toNat):(S.s.k0 a).al t.1 (ew 3 (m x.toNat))=cL L x:=by
 unfold cL;have b:=h.fY _ d;cases c:L.getD x.toNat false
 ·rw[Bool.eq_false_iff];intro e;rw[b.1 e] at c;cases c
 ·exact b.2 c
theorem vm {C:List b7}:∀e∈W.wt,∃n,n<((W.wt++C).map (we m)).length/\((W.wt++C).map (we m)).getD n (0,0)=we m e:=fun e he=>by
 obtain⟨n,hn,en⟩:=List.mem_iff_getElem.1 he;refine⟨n,by rw[aW,aZ];omega,?_⟩
 rw[j6 (we m) (W.wt++C) n (0,0) (0,0) (by rw[aZ];omega),aE,List.getElem?_append_left hn,aL hn,en];rfl
theorem jp.vk (b:cy a S W m Y G)(hb:cI a S.s)(hc:pQ a S G D){g:List Bool->List Bool}(hg:dR W.T W.wt g):nz (cm (dI cj) (fun s x=>(S.s.k0 a).al s.1 x) (S.s.k0 a).ke) g (we m) W.rg (jp a S W m G D):=by
 refine⟨fun t L C e h he hn=>?_,fun t L C e h he hy=>?_⟩
 ·have f:=b.gv e he;rw[<-h.is f.g] at hn;exact mV hn
 ·have f:=b.gv e he;rw[<-h.is f.g] at hy;obtain⟨k1,E,F,I,k5⟩:=h.de.ke _;rw[(mW (s:=t) hy)];obtain⟨o1,Q,R⟩:=h.ok.put f.h;have p:=hg _ o1.len o1.al;obtain⟨n1,u,J⟩:=h.ok.fz hg b.iv f.h;have w:=p.cl;have l:=J;have ho:∀i,cv W.T i->(W.T.getD i t0).2.2.1=true->_:=fun i hi q=>l i (h.o i hi q)
  obtain⟨H,li,K⟩:=h.de.li;have s0:c9 (S.s.k0 a) (hP W m (ct (fz g L e.2))) t.1:=fun c A o=>by
   rw[b.fW hb] at A;obtain⟨i,hi,rfl⟩:=b.f6 c (aK A)
   exact⟨i,hi,rfl,l i ((h.fY i hi).1 ((b.j8 hb t.1 hi).2 (aJ o)))⟩
  obtain⟨s1,_⟩:=c9.ke (b.Bm hb w ho) li K (b.Bn hb w ho (fun x k=>⟨(h.c x k).1,l _ (h.c x k).2⟩) li.mi h.de.q) s0 _ (fun _=>by rw[(b.word hb f.h).2.2];exact⟨_,f.h,rfl,u⟩)
  have M:(W.wt++(C++[e])).map (we m)=(W.wt++C).map (we m)++[we m e]:=by rw[<-ba,List.map_append];rfl
  refine⟨rfl,⟨k1.li,k1.cb,fun x k=>?_,k1.he,k1.ep,?_⟩,n1,fun i hi=>⟨fun o=>?_,fun N=>?_⟩,fun x k=>?_,fun v hv O=>l _ (h.r v hv O),ho⟩
  ·rcases List.mem_append.1 k with d|d
   ·exact k1.wq x d
   ·rw[List.mem_singleton.1 d];exact aK (qV I)
  ·rw[M];exact k1.q.snoc rfl (F _ (aK rfl))
  ·rcases(b.j8 hb _ hi).1 o with d|d
   ·refine ho i hi ?_;cases c:(W.T.getD i t0).2.2.1
    ·exact absurd d (b.j7 hb (b.iq _ hi c))
    ·rfl
   ·rcases b.mem hi with w1|w1
    ·exact(b.mI hi).1 (s1 _ (by rw[b.fW hb];exact w1) d)
    ·refine ho i hi ?_;cases c:(W.T.getD i t0).2.2.1
     ·exact absurd w1 (b.j7 hb (b.iq _ hi c))
     ·rfl
  ·refine(p.lt _ (b.vl hb hc k1 vm) (fun j n=>?_) i N).2;have B:=o1.al j n;refine⟨B,?_⟩
   unfold ct at n;rw[i8 _ _ _ (by rw[h.ok.len];exact f.h.1)] at n;split at n
   ·rename_i P;rw[<-P];exact k5
   ·exact pC E ((h.fY j B).2 n)
  ·rcases List.mem_append.1 k with d|d
   ·exact⟨(h.c x d).1,l _ (h.c x d).2⟩
   ·rw[List.mem_singleton.1 d];exact⟨he,u⟩
end
section
variable {a:Wc}{S:cq}{W:ck}{m:Nat->Int}{Y G D:List Int}
theorem cy.Kx (h:cy a S W m Y G)(hb:cI a S.s){i:Nat}(hi:cv W.T i)(b:m i∈G):(W.T.getD i t0).2.2.1=true:=by
 cases c:(W.T.getD i t0).2.2.1
 ·exact absurd b (h.j7 hb (h.iq _ hi c))
 ·rfl
theorem jp.start (b:cy a S W m Y G)(hb:cI a S.s)(hr:S.s.y<=a.O-S.s.g){g:List Bool->List Bool}(hg:dR W.T W.wt g):∃D,pQ a S G D/\jp a S W m G D (S.t3 a) (W.c0 g false) []:=by
 have h:=b.kv;have M:=b.fW hb;have B:=LI.start h.inv.full hb.n0 hb.n1 hb.o1 hb.y1 hb.g1 hb.l1 hr;have N:12<=(S.s.s0 a).rs.length:=by show 12<=S.s.rs.length;rw[hb.r1];exact aD _
 obtain⟨H1,n,ar,⟨bn,aB⟩,l1,y1,_,m1⟩:=B.cJ 12 N;have O:dB a.N S.s.y (S.s.s1 a).g (S.s.s1 a).ws=G++H1:=(n.mi.full.lists hb.n1 hb.y1 hb.o1 n.mi.ci.hg).2;have aF:(S.s.s1 a).nx=((S.s.k0 a).N:Int)+(S.s.z0 G).g:=(lE (S.s.k0 a) (S.s.s0 a) 12).2.2;have Q:d6 ((S.s.k0 a).l0 (S.s.z0 G)) (((S.s.k0 a).N:Int)+(S.s.z0 G).g) (S.s.k0 a).N (S.s.z0 G).G:=h.inv.full.dX;have hlo:∀x∈G++H1,x∈(S.s.z0 G).G\/((S.s.k0 a).N:Int)+(S.s.z0 G).g<=x:=fun x aR=>(List.mem_append.1 aR).imp id (fun d=>n.mi.hlo x d)
 obtain⟨C,s,E,R,U,⟨bo,bp⟩,_,aV⟩:=LI.pv (dF a.O) S.s.M Q (G++H1) n ((dL.start a S.s G).cJ B.mi 12 n.mi ar ⟨_,aB⟩) hlo;have a0:(G++H1).foldl ((S.s.k0 a).gm (((S.s.k0 a).N:Int)+(S.s.z0 G).g) (dF a.O) S.s.M) ((S.s.k0 a).cJ (S.s.s0 a) 12)=S.s.s2 a:=by unfold eb.s2 ce.lm;rw[O,aF];rfl
 have hlen:=qP (S.s.k0 a) (((S.s.k0 a).N:Int)+(S.s.z0 G).g) (dF a.O) S.s.M (G++H1) ((S.s.k0 a).cJ (S.s.s0 a) 12)
 have u:=b.first false;have X:=hg _ u.len u.al;obtain⟨n1,ab⟩:=hg.ok b.iv u;have ad:=X.cl;have ho:∀i,cv W.T i->(W.T.getD i t0).2.2.1=true->_:=fun i hi q=>ab i ((kw _ _ _ _).2 ⟨hi.1,aK ⟨q,hi.2,rfl⟩⟩)
 have ag:_:=fun v hv f=>ab _ ((kw _ _ _ _).2 ⟨((b.rv v hv).t f).2.1,aJ ⟨v,hv,f,rfl⟩⟩)
 have ai:=b.Bm hb ad ho;have a1:c9 (S.s.k0 a) (hP W m (ct (W.c0 g false))) (S.s.s0 a):=fun _ _ F=>absurd rfl F;have a2:=c9.cJ B a1 (fun i hi hy=>by
  have hi:i<12:=by rw[<-hb.r1];exact hi
  obtain⟨er,hv⟩:=b.root hi;have er:(S.s.s0 a).rs.getD i 0=wv m (W.rs.getD i (0,0)):=er;rw[er] at hy⊢;obtain⟨f,ev⟩:=b.rM hb hv hy;rw[ev];exact⟨_,(hv.t f).2,rfl,ag _ (getD_in (by rw[b.rl];exact hi)) f⟩) 12 N
 have al:=c9.lm ai (dF a.O) S.s.M Q (G++H1) n hlo a2;rw[a0] at E R U hlen al;have br:(G++H1).length<=2000:=by rw[<-O];exact h8 _ _
 obtain⟨q1,q2,q3⟩:=lE _ _ 12;have cb:ef (S.s.k0 a) (S.s.s2 a):=by exact t8
 have am:pQ a S G s:=fun v hv bb i bd be=>by
  cases hc:(S.s.k0 a).cK _
  ·rfl
  ·exfalso;unfold ce.cK at hc;rw[a_,M] at hc;have hm:=h.cd v hv i bd be hc.1 (List.contains_iff_mem.1 hc.2)
   exact bb (aV v (aY _ hv) hv hm)
 have bg:S.q=(W.wt++[]).map (we m):=by rw[List.append_nil];exact b.wt
 have an:fi (S.s.k0 a) (S.s.s2 a) ((W.wt++[]).map (we m)) S.q:=by rw[<-bg];exact fi.refl _ _
 have H:=b.Bn hb ad ho (fun e he=>(by cases he)) E.mi an;have key:∀s2:cj,LI (S.s.k0 a) (S.s.z0 G) s2 C s->dL (S.s.k0 a) (S.s.z0 G) s2 C->ef (S.s.k0 a) s2->fi (S.s.k0 a) s2 ((W.wt++[]).map (we m)) S.q->c9 (S.s.k0 a) (hP W m (ct (W.c0 g false))) s2->kW (S.s.k0 a) (hP W m (ct (W.c0 g false))) S.q->
  kX (S.s.k0 a) (S.s.z0 G) s ((W.wt++[]).map (we m)) ((S.s.k0 a).sp (s2,S.q))/\dh (S.s.k0 a) s2 ((S.s.k0 a).sp (s2,S.q)).1/\c9 (S.s.k0 a) (hP W m (ct (W.c0 g false))) ((S.s.k0 a).sp (s2,S.q)).1:=fun s2 l w c e sn H=>by
  obtain⟨o,I⟩:=kX.sp (t:=(s2,S.q)) l w c e;exact⟨o,I,(c9.cW ai _ (s2,S.q) C l w H sn).1⟩
 obtain⟨o,I,J⟩:=key _ E R cb an al H;have o:=o;have J:c9 (S.s.k0 a) (hP W m (ct (W.c0 g false))) (S.t3 a).1:=J;refine⟨s,am,o,n1,fun i hi=>⟨fun F=>?_,fun bi=>?_⟩,fun e he=>(by cases he),ag,ho⟩
 ·rcases b.mem hi with w1|w1
  ·rcases(b.j8 hb _ hi).1 F with d|d
   ·exact absurd d (b.j7 hb w1)
   ·exact(b.mI hi).1 (J _ (by rw[M];exact w1) d)
  ·exact ho i hi (b.Kx hb hi w1)
 ·refine(X.lt _ (b.vl hb am o vm) (fun j ao=>?_) i bi).2;have A:=u.al j ao;refine⟨A,?_⟩
  obtain⟨_,K⟩:=(kw _ _ _ _).1 ao;rcases K with⟨K,_,_⟩|⟨v,hv,f,e⟩
  ·exact(b.j8 hb _ A).2 (aK (b.old j A K))
  ·obtain⟨k,hk,e7⟩:=List.mem_iff_getElem.1 hv;have L:k<12:=by rw[<-b.rl];exact hk
   obtain⟨er,bl⟩:=b.root L;have ev:W.rs.getD k (0,0)=v:=by rw[aE,aL hk,e7];rfl
   rw[ev] at er bl;have p:cv W.T v.2.toNat:=by rw[e];exact A
   refine pC (U.trans I) ?_;rw[<-e];rcases b.mem p with w1|w1
   ·have hm:=m1 k L;have er:(S.s.s0 a).rs.getD k 0=wv m v:=er;rw[er,ir f] at hm;rcases hm with d|⟨_,ap,_⟩
    ·have:=y1 k L;rw[d,((b.oD hb p).2 w1)] at this
     cases this
    ·rw[(b.word hb p).2.2] at ap;exact(b.j8 hb _ p).2 (aJ ap)
   ·exact(b.j8 hb _ p).2 (aK w1)
theorem jp.settled (b:cy a S W m Y G)(hb:cI a S.s)(hc:pQ a S G D){g:List Bool->List Bool}(hg:dR W.T W.wt g)(h0:jp a S W m G D (S.t3 a) (W.c0 g false) []):jp a S W m G D (S.s4 a,((S.s.k0 a).eW (S.t3 a) S.r).2) (W.cR g false).1 (W.cR g false).2.1:=by
 have c:S.r.filter (fun e=>!(S.s.k0 a).al (S.t3 a).1 e.2)=(W.rg.filter (fun e=>!cL (W.c0 g false) e.2)).map (we m):=by rw[b.rg];exact lK _ _ _ W.rg (fun e he=>by show(!(S.s.k0 a).al _ (ew 3 (m e.2.toNat)))=_;rw[h0.is (b.gv e he).h])
 obtain⟨d,_⟩:=(jp.vk b hb hc hg).turns _ (W.rg.filter (fun e=>!cL _ e.2)) (S.t3 a) _ [] (fun e he=>(List.mem_filter.1 he).1) h0;have f:eB (cm (dI cj) (fun s x=>(S.s.k0 a).al s.1 x) (S.s.k0 a).ke) ((S.r.filter (fun e=>!(S.s.k0 a).al (S.t3 a).1 e.2)).length+1) (S.t3 a) (S.r.filter (fun e=>!(S.s.k0 a).al (S.t3 a).1 e.2))=eB (cm (dI cj) (fun s x=>(S.s.k0 a).al s.1 x) (S.s.k0 a).ke) (W.rg.length+1) (S.t3 a) ((W.rg.filter (fun e=>!cL (W.c0 g false) e.2)).map (we m)):=by rw[c];have hl:=bq (fun e=>!cL (W.c0 g false) e.2) W.rg;exact rB _ _ _ _ _ V (by rw[aW];omega)
 have i:(S.s.k0 a).eW (S.t3 a) S.r=(eB (cm (dI cj) (fun s x=>(S.s.k0 a).al s.1 x) (S.s.k0 a).ke) (W.rg.length+1) (S.t3 a) ((W.rg.filter (fun e=>!cL (W.c0 g false) e.2)).map (we m))).1:=by rw[<-f];rfl
 have j:(S.s4 a,((S.s.k0 a).eW (S.t3 a) S.r).2)=(S.s.k0 a).eW (S.t3 a) S.r:=rfl;rw[j,i];exact d
end
section
variable {k:ce}{z:C0}{s t:cj}{H D:List Int}
def ce.cG (k:ce)(s:cj)(x:Int):Int:=if k.ls s x=true then 3 else k.nw s x
theorem Bo {s t:cj}(b:t.f=s.f)(x:Int):k.ls t x=k.ls s x/\k.nw t x=k.nw s x:=by unfold ce.ls ce.nw;rw[b];exact⟨rfl,rfl⟩
def Fo (k:ce)(s:cj):Prop:=∀a∈k.T,s.f a≠-1->(k.N:Int)<=s.f a/\s.f a<1000000
theorem dE.eS (h:dE k z s H):Fo k s:=fun a ha b=>by
 have hb:=h.i6 (h.fh a ha b)
 have n1:=h.ci.hN';have c:=h.ci.hO;have d:=h.ci.hg;exact⟨hb.1,V⟩
theorem oE {x:Int}(h:k.cK x=false):k.nw s x=x:=by unfold ce.nw;rw[h];simp
theorem rN {x:Int}(h:k.cK x=true)(b:s.f (cg x)≠-1):k.nw s x=ew 3 (s.f (cg x)):=by unfold ce.nw;rw[h,aI (by simp[b])]
theorem Ky (ci:CI k s)(eS:Fo k s){x:Int}(h:k.ls s x=false):k.cK (k.nw s x)=false:=by
 cases c:k.cK x
 ·rw[oE c];exact c
 ·have b:s.f (cg x)≠-1:=fun e=>by unfold ce.ls at h;rw[c,e] at h;simp at h
  rw[rN c b];obtain⟨b1,b2⟩:=eS _ (nG c) b;exact nf ci b1 b2
theorem Kz:k.cK 3=false:=by unfold ce.cK;rw[show cY 3=false by decide];rfl
theorem Bp (ci:CI k s)(eS:Fo k s)(x:Int):k.cK (k.cG s x)=false:=by
 unfold ce.cG;cases c:k.ls s x
 ·rw[aG Z];exact Ky ci eS c
 ·exact Kz
theorem KB {x:Int}(h:k.cK x=false):k.cG s x=x:=by unfold ce.cG ce.ls;rw[h,Bool.false_and,aG Z];exact oE h
theorem KC (k:ce)(s:cj)(a:Int):k.eF s a=k.st s (a+1) (k.cG s (k.ld s (a+1))):=by unfold ce.eF ce.cG;split<;>rfl
theorem vo (k:ce)(s:cj)(a x:Int):(k.st s a x).ws.length=s.ws.length:=by
 unfold ce.st;split
 ·rw[a3]
 ·rfl
theorem vp (hl:s.ws.length=k.N+k.O)(hy:k.y<=k.N)(hg:s.g<=k.O)(hv:∀x,k.cK (k.cG s x)=false):∀(l:List Int)(t:cj),t.f=s.f->t.g=s.g->t.ws.length=s.ws.length->(∀c∈l,dd k.N k.y s.g (c+1)=true)->
 (l.foldl k.eF t).f=s.f/\(l.foldl k.eF t).g=s.g/\(l.foldl k.eF t).ws.length=s.ws.length/\(l.foldl k.eF t).ep=t.ep/\(l.foldl k.eF t).rs=t.rs/\∀p,k.ld (l.foldl k.eF t) p=if p-1∈l then k.cG s (k.ld t p) else k.ld t p
 |[],t,d,f,g,_=>⟨d,f,g,rfl,rfl,fun p=>Z⟩
 |c::l,t,d,f,g,hi=>by
  have vt:∀x,k.cG t x=k.cG s x:=fun x=>by unfold ce.cG;rw[(Bo d x).1,(Bo d x).2]
  rw[a8,KC];obtain⟨j,m,n,o,u,v⟩:=vp hl hy hg hv l (k.st t (c+1) (k.cG t (k.ld t (c+1)))) d f ((vo _ _ _ _).trans g) (fun x w=>hi x (aN _ w))
  refine⟨j,m,n,o,u,fun p=>?_⟩
  rw[v p];have hp:=ce.nY (g.trans hl) hy (by rw[f];exact hg) (c+1) (k.cG t (k.ld t (c+1))) p;rw[f] at hp;by_cases e:p=c+1
  ·have i:p-1∈c::l:=by rw[e];simp
   rw[aI ⟨e,(hi c Z)⟩] at hp;rw[hp,aI i,vt,e];split
   ·exact KB (hv _)
   ·rfl
  ·have i:(p-1∈c::l)↔p-1∈l:=by rw[List.mem_cons];exact⟨fun b=>b.resolve_left (fun q=>e V),aJ⟩
   rw[aG (fun q=>e q.1)] at hp;rw[hp];by_cases b:p-1∈l
   ·rw[aI b,aI (i.2 b)]
   ·rw[aG b,aG (fun q=>b (i.1 q))]
theorem vu (hy:k.y<=k.N):∀(l:List Int)(t:cj),t.ws.length=k.N+k.O->t.g<=k.O->(∀c∈l,dd k.N k.y t.g (c+1)=true/\dd k.N k.y t.g (c+2)=true)->
 (l.foldl k.gB t).rs=t.rs/\(l.foldl k.gB t).g=t.g/\∀p,k.ld (l.foldl k.gB t) p=if p-1∈l\/p-2∈l then 3 else k.ld t p
 |[],t,_,_,_=>⟨rfl,rfl,fun p=>Z⟩
 |c::l,t,g,d,hi=>by
  obtain⟨c1,c2⟩:=hi c Z;have l1:(k.st t (c+1) 3).ws.length=k.N+k.O:=(vo _ _ _ _).trans g;rw[a8];obtain⟨i,j,m⟩:=vu hy l _ ((vo _ _ _ _).trans l1) d (fun x n=>hi x (aN _ n))
  refine⟨i,j,fun p=>?_⟩
  have o:k.gB t c=k.st (k.st t (c+1) 3) (c+2) 3:=rfl;rw[o,m p,(ce.nY l1 hy d (c+2) 3) p,(ce.nY g hy d (c+1) 3) p];have g1:(k.st t (c+1) 3).g=t.g:=rfl;by_cases b:p-1∈l\/p-2∈l
  ·rw[aI b,aI (b.imp (aN _) (aN _))]
  ·rw[aG b];by_cases e:p=c+2
   ·rw[aI ⟨e,c2⟩,aI (aJ (by rw[e];simp))]
   ·rw[aG (fun q=>e q.1)];by_cases f:p=c+1
    ·rw[aI ⟨f,c1⟩,aI (aK (by rw[f];simp))]
    ·rw[aG (fun q=>f q.1),aG];rintro(q|q)
     ·rcases List.mem_cons.1 q with q|q
      ·omega
      ·exact b (aK q)
     ·rcases List.mem_cons.1 q with q|q
      ·omega
      ·exact b (aJ q)
theorem Bq (ci:CI k s)(eS:Fo k s){b x:Int}(h:k.ml s b x):k.nw s x=k.nw s b:=by
 rcases h with e|⟨y1,c,d⟩
 ·rw[e]
 ·rw[rN y1 c,d];obtain⟨b1,b2⟩:=eS _ (nG y1) c;exact oE (nf ci b1 b2)
theorem Br {b x:Int}(h:k.ml s b x)(hy:k.cK x=false):x=k.nw s b:=by
 rcases h with e|⟨y1,c,d⟩
 ·rw[e] at hy;rw[oE hy,e]
 ·rw[rN y1 c,d]
theorem KD (li:LI k z s H D)(w:dL k z s H){a b i:Int}(o:k.or z s a b)(J:0<=i)(B:i<pf (k.l0 z a)):
 k.ld (k.be (k.mw s s.wk) (k.mw s s.wk).ep) (b+1+i)=if b∈s.ep then 3 else if b∈s.wk/\i=0 then k.cG s (k.ld s (b+1+i)) else k.ld s (b+1+i):=by
 have ci:=li.mi.ci;have full:=li.mi.full;have hb:=li.mi.mem o;have K:i<pf (k.ld s b):=by rw[(li.mi.hd a b o)];exact B
 have C:∀c∈s.wk,dd k.N k.y s.g (c+1)=true:=fun c hc=>by exact Bk
 have E:∀c∈s.ep,dd k.N k.y s.g (c+1)=true/\dd k.N k.y s.g (c+2)=true:=fun c hc=>by exact Bh
 obtain⟨m1,f,g,m,_,n⟩:=vp ci.len ci.hy ci.hg (Bp ci li.mi.eS) s.wk s rfl rfl rfl C;have m:(k.mw s s.wk).ep=s.ep:=m;have f:(k.mw s s.wk).g=s.g:=f;have g:(k.mw s s.wk).ws.length=s.ws.length:=g;obtain⟨_,_,b3⟩:=vu ci.hy s.ep _ (by rw[g];exact ci.len) (by rw[f];exact ci.hg) (by rw[f];exact E)
 have b3:∀p,k.ld (k.be (k.mw s s.wk) s.ep) p=if p-1∈s.ep\/p-2∈s.ep then 3 else k.ld (k.mw s s.wk) p:=b3
 have n:∀p,k.ld (k.mw s s.wk) p=if p-1∈s.wk then k.cG s (k.ld s p) else k.ld s p:=n
 rw[m,b3,n];have t:∀j,0<=j->j<pf (k.ld s b)->_:=fun j j0 F=>full.dX.field hb j0 F;have q1:∀l:List Int,(∀c∈l,c∈z.G++H)->((b+1+i)-1∈l↔(b∈l/\i=0)):=fun l hl=>by
  constructor
  ·intro d;by_cases e:i=0
   ·subst e;have:b+1+0-1=b:=V;rw[this] at d;exact⟨d,rfl⟩
   ·exfalso;have:b+1+i-1=b+1+(i-1):=V;rw[this] at d;exact t (i-1) V V (hl _ d)
  ·rintro⟨d,e⟩
   subst e;have:b+1+0-1=b:=V;rw[this];exact d
 have q2:(b+1+i)-2∈s.ep↔(b∈s.ep/\i=1):=by
  constructor
  ·intro d;obtain⟨r1,G⟩:=w.ep _ d;by_cases e:i=1
   ·subst e;have:b+1+1-2=b:=V;rw[this] at d;exact⟨d,rfl⟩
   ·exfalso;by_cases I:i=0
    ·subst I;have L:=il (li.mi.bd r1).2.2 (aJ (aJ G))
     have u:=full.dX.apart _ r1 b hb V;have u:b+1+0-2+(1+pf (k.ld s (b+1+0-2)))<=b:=u;omega
    ·have:b+1+i-2=b+1+(i-2):=V;rw[this] at r1;exact t (i-2) V V r1
  ·rintro⟨d,e⟩
   subst e;have:b+1+1-2=b:=V;rw[this];exact d
 have v:=q1 s.ep (fun c hc=>(w.ep c hc).1)
 have x:=q1 s.wk (fun c hc=>(w.wk c hc).1)
 by_cases c:b∈s.ep
 ·have A:=il (full.dX.mem b hb).2.2 (aJ (aJ (w.ep b c).2))
  have A:pf (k.ld s b)=2:=A;rw[aI c,aI];rcases(show i=0\/i=1 by omega) with e|e
  ·exact aK (v.2 ⟨c,e⟩)
  ·exact aJ (q2.2 ⟨c,e⟩)
 ·rw[aG c,aG (fun q=>q.elim (fun q=>c (v.1 q).1) (fun q=>c (q2.1 q).1))];by_cases d:b∈s.wk/\i=0
  ·rw[aI d,aI (x.2 d)]
  ·rw[aG d,aG (fun q=>d (x.1 q))]
theorem KE (li:LI k z s H D)(w:dL k z s H){a b:Int}(o:k.or z s a b):k.ld (k.be (k.mw s s.wk) (k.mw s s.wk).ep) b=k.l0 z a/\(k.be (k.mw s s.wk) (k.mw s s.wk).ep).rs=s.rs:=by
 have ci:=li.mi.ci;have n:∀c∈s.wk,dd k.N k.y s.g (c+1)=true:=fun c hc=>by exact Bk
 have t:∀c∈s.ep,dd k.N k.y s.g (c+1)=true/\dd k.N k.y s.g (c+2)=true:=fun c hc=>by exact Bh
 obtain⟨m1,f,i,j,u,l⟩:=vp ci.len ci.hy ci.hg (Bp ci li.mi.eS) s.wk s rfl rfl rfl n;have j:(k.mw s s.wk).ep=s.ep:=j;have f:(k.mw s s.wk).g=s.g:=f;have i:(k.mw s s.wk).ws.length=s.ws.length:=i;obtain⟨b1,_,b3⟩:=vu ci.hy s.ep _ (by rw[i];exact ci.len) (by rw[f];exact ci.hg) (by rw[f];exact t)
 have b3:∀p,k.ld (k.be (k.mw s s.wk) s.ep) p=if p-1∈s.ep\/p-2∈s.ep then 3 else k.ld (k.mw s s.wk) p:=b3
 have l:∀p,k.ld (k.mw s s.wk) p=if p-1∈s.wk then k.cG s (k.ld s p) else k.ld s p:=l
 have no:∀c,c∈z.G++H->pf (k.ld s c)=2->∀g:Int,(g=1\/g=2)->b-g≠c:=fun c hc v g hd e=>by have m:=li.mi.full.dX.apart c hc b (li.mi.mem o) V;have m:c+(1+pf (k.ld s c))<=b:=m;omega
 rw[j,b3,l];refine⟨?_,b1.trans u⟩
 rw[aG,aG,(li.mi.hd a b o)]
 ·intro q;obtain⟨r1,d⟩:=w.wk _ q;exact no _ r1 (il (li.mi.bd r1).2.2 (aJ (aK d))) 1 (aK rfl) rfl
 ·rintro(q|q)
  ·obtain⟨r1,d⟩:=w.ep _ q;exact no _ r1 (il (li.mi.bd r1).2.2 (aJ (aJ d))) 1 (aK rfl) rfl
  ·obtain⟨r1,d⟩:=w.ep _ q;exact no _ r1 (il (li.mi.bd r1).2.2 (aJ (aJ d))) 2 (aJ rfl) rfl
end
theorem rO {L:List Bool}{i:Nat}{t:cD}(d:L.getD i false=true)(b:t.1=3\/t.1=4->t.2.1.length=2):(fA L i t).2.1.length=t.2.1.length/\(fA L i t).1=t.1/\(fA L i t).2.2=(true,t.2.2.2):=by
 unfold fA;rw[aI d];refine⟨?_,rfl,rfl⟩
 split
 ·rename_i c;rw[b (aJ c.1)];rfl
 ·split
  ·rename_i c;rw[b (aK c.1)];rfl
  ·rfl
theorem Bt {L:List Bool}{i:Nat}{t:cD}(b:L.getD i false=false):fA L i t=(t.1,[],t.2.2.1,true):=by unfold fA;rw[b,aG Z]
theorem mJ {L:List Bool}{i:Nat}{t:cD}(c:L.getD i false=true)(b:t.1=3\/t.1=4->t.2.1.length=2){k:Nat}(hk:k<t.2.1.length):
 (fA L i t).2.1.getD k (0,0)=if((t.1=3\/t.1=4)/\dH L (t.2.1.getD 0 (0,0))=false)/\(k=0\/(t.1=4/\k=1)) then(2,0) else t.2.1.getD k (0,0):=by
 unfold fA;rw[aI c];by_cases c4:t.1=4/\dH L (t.2.1.getD 0 (0,0))=false
 ·rw[aI c4,aI ⟨⟨aJ c4.1,c4.2⟩,by
   have:=b (aJ c4.1);have:k=0\/k=1:=V
   exact this.imp id (fun e=>⟨c4.1,e⟩)⟩]
  have:=b (aJ c4.1)
  rcases(show k=0\/k=1 by omega) with e|e<;>subst e<;>rfl
 ·rw[aG c4];by_cases c3:t.1=3/\dH L (t.2.1.getD 0 (0,0))=false
  ·rw[aI c3];have:=b (aK c3.1)
   rcases(show k=0\/k=1 by omega) with e|e
   ·subst e;rw[aI ⟨⟨aK c3.1,c3.2⟩,aK rfl⟩];rfl
   ·subst e;rw[aG (fun q=>by
     rcases q.2 with d|d
     ·omega
     ·have:=c3.1;omega)]
    rfl
  ·rw[aG c3,aG (fun q=>q.1.1.elim (fun e=>c3 ⟨e,q.1.2⟩) (fun e=>c4 ⟨e,q.1.2⟩))]
structure rP (a:Wc)(S:cq)(W:ck)(m:Nat->Int)(B L:List Bool)(C:List b7)(S':cq)(m':Nat->Int)(G':List Int):Prop where
 kv:em a S'.s [] G'
 ok:gE W.T L
 cl:gY W.T W.wt (ct L)
 up:∀i,ct B i->ct L i
 rr:∀v∈W.rs,v.1=3->ct L v.2.toNat
 cc:∀e∈C,e∈W.rg/\ct L e.2.toNat
 rs:S'.s.rs=W.rs.map (wv m')
 pl:∀i,ct L i->m' i∈G'
 inj:∀i j,ct L i->ct L j->m' i=m' j->i=j
 f6:∀v∈G',∃i,ct L i/\m' i=v
 hd:∀i,ct L i->ld a.N S'.s.y S'.s.g S'.s.ws (m' i)=ld a.N S.s.y S.s.g S.s.ws (m i)
 fd:∀i,ct L i->∀k:Nat,k<(W.T.getD i t0).2.1.length->ld a.N S'.s.y S'.s.g S'.s.ws (m' i+1+k)=wv m' ((fA L i (W.T.getD i t0)).2.1.getD k (0,0))
 rg:S'.r=(W.rg.filter (fun e=>cL B e.2&&cL L e.1)).map (we m')
 wt:S'.q=((W.wt++C).filter (fun e=>cL L e.1)).map (we m')
section
variable {a:Wc}{S S':cq}{W:ck}{m m':Nat->Int}{Y G G':List Int}{B L:List Bool}{C:List b7}
theorem Bu {L:List Bool}{v:Int×Int}(b:v.1=3):dH L v=L.getD v.2.toNat false:=by unfold dH;rw[b];rfl
theorem KF {L:List Bool}{v:Int×Int}(b:v.1≠3):dH L v=true:=by
 unfold dH;have:(v.1==3)=false:=by simpa using b
 rw[this];rfl
theorem cy.led (h:cy a S W m Y G)(ok:gE W.T L)(cl:gY W.T W.wt (ct L)){i:Nat}(hi:ct L i){k:Nat}(hk:k<(W.T.getD i t0).2.1.length)(b:((fA L i (W.T.getD i t0)).2.1.getD k (0,0)).1=3):ct L ((fA L i (W.T.getD i t0)).2.1.getD k (0,0)).2.toNat:=by
 have al:=ok.al i hi;have j:(W.T.getD i t0).1=3\/(W.T.getD i t0).1=4->_=_:=fun c=>h.two al (aJ c)
 rw[mJ hi j hk] at b⊢;split at b
 ·exact absurd b aa
 ·rename_i c;rw[aG c];have o:=oG _ _ (h.hd i al).1;by_cases n:(W.T.getD i t0).1=1\/(W.T.getD i t0).1=2
  ·exact cl i al.1 hi _ (aK ⟨n,(getD_in hk)⟩) b
  by_cases f:(W.T.getD i t0).1=3
  ·have l2:=j (aK f)
   rcases(show k=0\/k=1 by omega) with e|e
   ·subst e;have:dH L ((W.T.getD i t0).2.1.getD 0 (0,0))=true:=by
     cases d:dH L _
     ·exact absurd ⟨⟨aK f,d⟩,aK rfl⟩ c
     ·rfl
    exact nk this b
   ·subst e;exact cl i al.1 hi _ (aJ (aK ⟨f,rfl⟩)) b
  by_cases g:(W.T.getD i t0).1=4
  ·have l:dH L ((W.T.getD i t0).2.1.getD 0 (0,0))=true:=by
    cases d:dH L _
    ·exact absurd ⟨⟨aJ g,d⟩,by
      rcases(show k=0\/k=1 by omega) with e|e
      ·exact aK e
      ·exact aJ ⟨g,e⟩⟩ c
    ·rfl
   rcases(show k=0\/k=1 by omega) with e|e
   ·subst e;exact nk l b
   ·subst e;exact cl i al.1 hi _ (aJ (aJ (aK ⟨g,nk l,rfl⟩))) b
  ·omega
theorem rP.done (h:cy a S W m Y G)(c:rP a S W m B L C S' m' G'):cy a S' ⟨f8 L W.T W.T.length,W.rs,W.rg.filter (fun e=>cL B e.2&&cL L e.1),(W.wt++C).filter (fun e=>cL L e.1)⟩ m' [] G':=by
 have gt:∀j,j<W.T.length->(f8 L W.T W.T.length).getD j t0=fA L j (W.T.getD j t0):=fun j o=>by rw[q7 L W.T W.T.length j bW o,aI o]
 have f:∀i,ct L i->((W.T.getD i t0).1=3\/(W.T.getD i t0).1=4->_=_):=fun i hi q=>h.two (c.ok.al i hi) (aJ q)
 have al:∀j,cv (f8 L W.T W.T.length) j↔ct L j:=fun j=>by
  unfold cv;rw[jD];constructor
  ·rintro⟨p,f⟩
   rw[gt j p] at f;unfold ct;cases d:L.getD j false
   ·rw[Bt d] at f;cases f
   ·rfl
  ·intro b;have ha:=c.ok.al j b;refine⟨ha.1,?_⟩
   rw[gt j ha.1,(rO b (f j b)).2.2];exact ha.2
 have n:∀j,ct L j->((f8 L W.T W.T.length).getD j t0).2.1.length=(W.T.getD j t0).2.1.length/\((f8 L W.T W.T.length).getD j t0).1=(W.T.getD j t0).1/\((f8 L W.T W.T.length).getD j t0).2.2.1=true:=fun j b=>by
  have ha:=c.ok.al j b;obtain⟨q1,g,q3⟩:=rO b (f j b)
  rw[gt j ha.1,q3];exact⟨q1,g,rfl⟩
 have u:∀v,dM W.T v->(v.1=3->ct L v.2.toNat)->dM (f8 L W.T W.T.length) v:=fun v hv b=>⟨fun e=>⟨(hv.t e).1,(al _).2 (b e)⟩,hv.o⟩
 have t:∀e,iH W.T e->ct L e.1.toNat->ct L e.2.toNat->iH (f8 L W.T W.T.length) e:=fun e he p f=>⟨he.g0,(al _).2 p,by rw[(n _ p).2.1];exact he.k,he.h0,(al _).2 f⟩
 exact
 {
  kv:=c.kv,rl:=h.rl,rv:=fun v hv=>u v (h.rv v hv) (c.rr v hv)
  fv:=fun i hi v hv=>by
   have b:=(al i).1 hi;have ha:=c.ok.al i b;have hv:=hv;rw[gt i ha.1] at hv;obtain⟨k,hk,e⟩:=List.mem_iff_getElem.1 hv;have ev:(fA L i (W.T.getD i t0)).2.1.getD k (0,0)=v:=by rw[aE,aL hk,e];rfl
   rw[(rO b (f i b)).1] at hk;refine⟨fun l=>?_,fun l=>?_⟩
   ·have hl:=h.led c.ok c.cl b hk (by rw[ev];exact l)
    rw[ev] at hl;refine⟨?_,(al _).2 hl⟩
    rw[mJ b (f i b) hk] at ev;split at ev
    ·rw[<-ev] at l;exact absurd l aa
    ·rw[<-ev] at l⊢;exact((h.fv i ha _ (getD_in hk)).t l).1
   ·rw[mJ b (f i b) hk] at ev;split at ev
    ·rw[<-ev];decide
    ·rw[<-ev] at l⊢;exact(h.fv i ha _ (getD_in hk)).o l
  rs:=c.rs
  iq:=fun i hi e=>by have e:=e;rw[(n i ((al i).1 hi)).2.2] at e;cases e
  old:=fun i hi _=>c.pl i ((al i).1 hi)
  inj:=fun i j hi o e=>c.inj i j ((al i).1 hi) ((al j).1 o) e
  f6:=fun v hv=>by
   rcases hv with d|d
   ·cases d
   ·obtain⟨i,hi,e⟩:=c.f6 v d;exact⟨i,(al i).2 hi,e⟩
  hd:=fun i hi=>by have b:=(al i).1 hi;show hc _ _=0/\ld a.N S'.s.y S'.s.g S'.s.ws (m' i)=hw _ _;rw[(n i b).1,(n i b).2.1,c.hd i b];exact h.hd i (c.ok.al i b)
  fd:=fun i hi k hk=>by have b:=(al i).1 hi;have hk:=hk;rw[(n i b).1] at hk;show ld a.N S'.s.y S'.s.g S'.s.ws _=wv m' _;rw[gt i (c.ok.al i b).1];exact c.fd i b k hk
  rg:=c.rg
  gv:=fun e he=>by obtain⟨q1,g⟩:=List.mem_filter.1 he;rw[a_] at g;exact t e (h.gv e q1) g.2 (c.up _ g.1)
  wt:=c.wt
  dy:=fun e he=>by
   obtain⟨q1,g⟩:=List.mem_filter.1 he;rcases List.mem_append.1 q1 with d|d
   ·have s:=h.dy e d;exact t e s g (c.cl _ s.g.1 g (3,e.2) (aJ (aJ (aJ ⟨s.k,e,d,by have:=s.g0;omega,rfl⟩))) rfl)
   ·obtain⟨w,x⟩:=c.cc e d;exact t e (h.gv e w) g x
  tl:=fun i=>by
   show((f8 L W.T W.T.length).getD i t0).2.1.length<=12;by_cases hi:i<W.T.length
   ·rw[gt i hi];cases d:L.getD i false
    ·rw[Bt d];simp
    ·rw[(rO d (f i d)).1];exact h.tl i
   ·rw[aE,List.getElem?_eq_none (by rw[jD];omega)];simp[t0]}
end
section
variable {a:Wc}{S:cq}
end
section
variable {a:Wc}{S:cq}{W:ck}{m:Nat->Int}{Y G:List Int}
theorem KG (h:em a S.s Y G)(hb:cI a S.s)(l:S.fN a=false):(S.dz a).r=((S.r.filter (fun e=>(S.s.j0 a).al (S.j2 a).1 e.2)).filter (fun e=>(S.s.j0 a).al (S.cA a) e.1)).map (fun e=>((S.s.j0 a).nw (S.cE a) e.1,(S.s.j0 a).nw (S.cE a) e.2)):=by
 have i:=cV.start hb.n1 hb.o1 hb.y1 hb.g1;obtain⟨d1,p,t⟩:=oh (S:=S) i;obtain⟨_,l2,l3⟩:=kQ h.inv.full hb;obtain⟨_,g,u⟩:=me h hb l;obtain⟨_,b,t3,_⟩:=pu (s:=S.cE a) (k:=S.s.j0 a) ⟨hb.l1,hb.y1,hb.g1⟩ hb.r1 i.nd (oq h.inv.full hb) (pA h.inv.full hb)
 have b:(S.k5 a).Y=(S.s.j0 a).Y:=b;have t3:(S.k5 a).G=(S.s.j0 a).G:=t3;have zk:(S.k5 a).T=(S.s.j0 a).T:=by unfold b9.T;rw[b,t3]
 have j:∀x,(S.k5 a).al (S.cE a) x=(S.s.j0 a).al (S.cA a) x:=fun x=>by exact zj
 have r3:S.r3 a=(S.r.filter (fun e=>(S.s.j0 a).al (S.j2 a).1 e.2)).filter (fun e=>(S.s.j0 a).al (S.cA a) e.1):=by show(((S.r.filter (fun e=>(S.s.j0 a).al _ e.2)).filter (fun e=>(S.s.j0 a).al (S.cA a) e.1)).map fun e=>((S.s.j0 a).nw (S.cA a) e.1,(S.s.j0 a).nw (S.cA a) e.2))=_;exact zm
 have m:(S.k5 a).tS (S.cE a,S.q3 a) (S.r3 a)=(S.cE a,S.q3 a):=ue (fun e he=>by rw[j];exact qT i e he)
 unfold cq.dz;rw[l,aG Z];show eO (dI cu) (fun s x=>(S.k5 a).al s.1 x) _ (fun s x=>(S.k5 a).nw s.1 x) (S.cE a,S.q3 a) (S.r3 a)=_;unfold eO;have e:ft (dI cu) (fun s x=>(S.k5 a).al s.1 x) (S.k5 a).ch (S.cE a,S.q3 a) (S.r3 a)=(S.cE a,S.q3 a):=m;rw[e];show(((S.r3 a).filter (fun e=>(S.k5 a).al (S.cE a) e.2)).filter (fun e=>(S.k5 a).al (S.cE a) e.1)).map (fun e=>((S.k5 a).nw (S.cE a) e.1,(S.k5 a).nw (S.cE a) e.2))=_;have n:(S.r3 a).filter (fun e=>(S.k5 a).al (S.cE a) e.2)=S.r3 a:=List.filter_eq_self.2 (fun e he=>by rw[j];exact qT (S:=S) i e he)
 have o:(S.r3 a).filter (fun e=>(S.k5 a).al (S.cE a) e.1)=S.r3 a:=List.filter_eq_self.2 (fun e he=>by rw[j];rw[r3] at he;exact(List.mem_filter.1 he).2)
 rw[n,o,r3];refine List.map_congr_left (fun e _=>?_)
 rw[b9.kn _ _ b t3,b9.kn _ _ b t3]
theorem cy.n4 (b:cy a S W m Y G)(hb:cI a S.s){g:List Bool->List Bool}(hg:dR W.T W.wt g):S.n4 a=iF W.T (W.cR g true).1 W.T.length:=by
 have f:=cV.start hb.n1 hb.o1 hb.y1 hb.g1;have hs:=Rg.settled b hb hg;obtain⟨k,_⟩:=pr (S.s.j0 a) (fun c=>!((S.cA a).f c==-1)) _ (S.cA a,(a.N:Int)) f.nd (fun _ _=>rfl)
 have d:=k.sum (fun c=>(dj _).1)
 have d:(f5 (kL (ld a.N S.s.y S.s.g S.s.ws)) ((S.s.j0 a).T.filter (fun c=>!((S.cA a).f c==-1))):Int)=S.n4 a:=d;rw[vf,<-d,vd (fun i _ hp=>b.size (hs.ok.al i hp)) (f.nd.filter _) (fun i j _ _ hp hq e=>b.inj i j (hs.ok.al i hp) (hs.ok.al j hq) e) (fun v=>?_)];rw[List.mem_filter];constructor
 ·rintro⟨l,n⟩
  obtain⟨i,hi,rfl⟩:=b.vj hb l;exact⟨i,hi.1,(hs.fY i hi).1 (by simpa using n),rfl⟩
 ·rintro⟨i,_,hp,rfl⟩
  have hi:=hs.ok.al i hp;exact⟨b.memT hb hi,by simpa using(hs.fY i hi).2 hp⟩
theorem cy.Bv (b:cy a S W m Y G)(hb:cI a S.s){g:List Bool->List Bool}(hg:dR W.T W.wt g):S.fN a=W.cF g a.O true:=by unfold cq.fN ck.cF;rw[b.n4 hb hg];simp
theorem cy.ij (b:cy a S W m Y G)(hb:cI a S.s){g:List Bool->List Bool}(hg:dR W.T W.wt g):S.ij a=W.gO g a.O true:=by unfold cq.ij ck.gO;rw[b.Bv hb hg]
theorem cy.pR (b:cy a S W m Y G)(hb:cI a S.s){j:cu}{v:Int×Int}(hv:dM W.T v)(d:v.1=3->j.f (m v.2.toNat)≠-1):(S.s.j0 a).nw j (wv m v)=wv (fun i=>j.f (m i)) v:=by
 unfold b9.nw;rw[b.jt hb hv];by_cases c:v.1=3
 ·rw[(b.vt hb hv c).2,c,aI (by simp[d c]),ir c]
 ·rw[aG (by simp[c]),jn c,jn c]
theorem vv {c:Type}(d:c){l b:List c}(h:l.length=b.length)(he:∀i,i<l.length->l.getD i d=b.getD i d):l=b:=by
 refine List.ext_getElem h (fun i e f=>?_)
 have:=he i e;rwa [aE,aL e,aE,aL f] at this
theorem vx {m:Nat->Int}:wv m (2,0)=3:=by rw[jn aa];decide
theorem cy.KH (hR:cy a S W m Y G)(hb:cI a S.s){g:List Bool->List Bool}(hg:dR W.T W.wt g)(u:S.fN a=false):
 rP a S W m (W.c0 g true) (W.cR g true).1 (W.cR g true).2.1 (S.dz a) (fun i=>(S.cE a).f (m i)) ((S.cE a).lf (G++Y)):=by
 have hs:=Rg.settled hR hb hg;have h0:=Rg.start hR hb hg;obtain⟨_,w,_⟩:=me hR.kv hb u;obtain⟨s1,s2,Q⟩:=oh (S:=S) (cV.start hb.n1 hb.o1 hb.y1 hb.g1)
 have C:=hR.T hb;have p:∀{i:Nat},cv W.T i->m i∈G++Y:=fun hi=>by rw[<-C];exact hR.memT hb hi
 have A:∀i,cv W.T i->((S.cE a).f (m i)≠-1↔ct (W.cR g true).1 i):=fun i hi=>by rw[<-hs.fY i hi];exact not_congr (w.iff _ (p hi))
 have l:∀i,ct (W.cR g true).1 i->_:=fun i b=>(A i (hs.ok.al i b)).2 b;have hcl:gY W.T W.wt (ct (W.cR g true).1):=by
  have hc:=hR.marked hb hs.de (fun x I=>by rw[hs.q];exact List.mem_map_of_mem (aY _ I))
  intro i hi J v hv n;have D:∀j,ct (W.cR g true).1 j->_/\_:=fun j o=>⟨hs.ok.al j o,(hs.fY j (hs.ok.al j o)).2 o⟩
  obtain⟨q1,f⟩:=hc i hi (D i J) v (hv.mono D) n;exact(hs.fY _ q1).1 f
 have hup:∀i,ct (W.c0 g true) i->ct (W.cR g true).1 i:=fun i hi=>by have ha:=h0.ok.al i hi;have E:=(h0.fY i ha).2 hi;refine(hs.fY i ha).1 ?_;rw[s2.f _ E];exact E
 have s:∀i,ct (W.cR g true).1 i->((W.T.getD i t0).1=3\/(W.T.getD i t0).1=4->_=_):=fun i hi q=>hR.two (hs.ok.al i hi) (aJ q)
 have vi:∀e,iH W.T e->ct (W.cR g true).1 e.1.toNat->ct (W.cR g true).1 e.2.toNat->((S.s.j0 a).nw (S.cE a) (we m e).1,(S.s.j0 a).nw (S.cE a) (we m e).2)=we (fun i=>(S.cE a).f (m i)) e:=fun e he K s=>by
  have q1:=hR.pR hb (j:=S.cE a) (v:=(3,e.1)) ⟨fun _=>⟨he.g0,he.g⟩,fun c=>absurd rfl c⟩ (fun _=>l _ K)
  have f:=hR.pR hb (j:=S.cE a) (v:=(3,e.2)) ⟨fun _=>⟨he.h0,he.h⟩,fun c=>absurd rfl c⟩ (fun _=>l _ s)
  exact Prod.ext q1 f
 have gc:=w.gc;have F:(S.dz a).s.y=0:=gc.y;refine
 {
  kv:=(gc.inv hR.kv hb w.al).1,ok:=hs.ok,cl:=hcl,up:=hup,rr:=hs.r,cc:=hs.c
  rs:=?_,pl:=fun i b=>?_,inj:=fun i j hi o e=>?_,f6:=fun v hv=>?_,hd:=fun i b=>?_,fd:=fun i b k hk=>?_,rg:=?_,wt:=?_}
 ·refine vv 0 (by rw[aW,hR.rl];exact gc.rl) (fun i hi=>?_)
  have hi:i<12:=by rw[gc.rl] at hi;exact hi
  obtain⟨er,hv⟩:=hR.root hi;rw[gc.rs i hi,er,j6 (wv (fun i=>(S.cE a).f (m i))) W.rs i (0,0) 0 (by rw[hR.rl];exact hi)];exact hR.pR hb hv (fun n=>l _ (hs.r _ (getD_in (by rw[hR.rl];exact hi)) n))
 ·exact List.mem_map.2 ⟨m i,List.mem_filter.2 ⟨p (hs.ok.al i b),by simpa using l i b⟩,rfl⟩
 ·have:=gc.pos.inj (fun c=>(dj _).1) (m i) (p (hs.ok.al i hi)) (m j) (p (hs.ok.al j o)) (by simpa using l i hi) (by simpa using l j o) e;exact hR.inj i j (hs.ok.al i hi) (hs.ok.al j o) this
 ·obtain⟨c,hc,rfl⟩:=List.mem_map.1 hv;obtain⟨q1,f⟩:=List.mem_filter.1 hc;rw[<-C] at q1;obtain⟨i,hi,rfl⟩:=hR.vj hb q1;exact⟨i,(A i hi).1 (by simpa using f),rfl⟩
 ·rw[F];exact gc.hd _ (p (hs.ok.al i b)) (l i b)
 ·have ha:=hs.ok.al i b;obtain⟨L,M,_⟩:=hR.parts ha;rw[F,gc.fd _ (p ha) (l i b) k (Int.natCast_nonneg k) (by rw[M];omega),mJ b (s i b) hk];unfold b9.im;have N:pk ((S.s.j0 a).ld (m i))=(W.T.getD i t0).1:=L;rw[N];have H:(S.s.j0 a).ld (m i+1+k)=wv m ((W.T.getD i t0).2.1.getD k (0,0)):=hR.fd i ha k hk;have key:(W.T.getD i t0).1=3\/(W.T.getD i t0).1=4->((S.s.j0 a).cS (S.cE a) ((S.s.j0 a).ld (m i+1))=true↔dH (W.cR g true).1 ((W.T.getD i t0).2.1.getD 0 (0,0))=false):=fun q=>by
   have O:(S.s.j0 a).ld (m i+1)=wv m ((W.T.getD i t0).2.1.getD 0 (0,0)):=by
    have:=hR.fd i ha 0 V;show ld a.N S.s.y S.s.g S.s.ws (m i+1)=_;rw[<-this]
    congr 1
    omega
   have B:=hR.fv i ha _ (getD_in (x:=((0,0):Int×Int)) (show 0<(W.T.getD i t0).2.1.length by omega))
   rw[O];by_cases c3:((W.T.getD i t0).2.1.getD 0 (0,0)).1=3
   ·have q1:=hR.oC hb (S.cE a) B c3;have f:=A _ (B.t c3).2;rw[Bu c3];constructor
    ·intro d;cases e:(W.cR g true).1.getD _ false
     ·rfl
     ·rw[q1.2 (f.2 e)] at d;cases d
    ·intro d;cases e:(S.s.j0 a).cS (S.cE a) _
     ·have:=f.1 (q1.1 e)
      unfold ct at this
      rw[d] at this
      cases this
     ·rfl
   ·rw[KF c3];have:(S.s.j0 a).cS (S.cE a) (wv m ((W.T.getD i t0).2.1.getD 0 (0,0)))=false:=by
     unfold b9.cS;rw[hR.jt hb B];have:(((W.T.getD i t0).2.1.getD 0 (0,0)).1==3)=false:=by simpa using c3
     rw[this];rfl
    rw[this];simp
  by_cases cb:((W.T.getD i t0).1=3\/(W.T.getD i t0).1=4)/\dH (W.cR g true).1 ((W.T.getD i t0).2.1.getD 0 (0,0))=false
  ·by_cases t:k=0\/((W.T.getD i t0).1=4/\k=1)
   ·rw[aI ⟨⟨cb.1,(key cb.1).2 cb.2⟩,t.imp (fun e=>by omega) (fun e=>⟨e.1,V⟩)⟩,aI ⟨cb,t⟩,vx];unfold b9.nw b9.jt;rw[show cY 3=false by decide,Bool.false_and,Bool.false_and,aG Z]
   ·rw[aG (fun q=>t (q.2.imp (fun e=>by omega) (fun e=>⟨e.1,V⟩))),aG (fun q=>t q.2),H];refine hR.pR hb (hR.fv i ha _ (getD_in hk)) (fun n=>l _ ?_)
    have hl:=hR.led hs.ok hcl b hk;rw[mJ b (s i b) hk,aG (fun q=>t q.2)] at hl;exact hl n
  ·rw[aG (fun q=>cb ⟨q.1.1,(key q.1.1).1 q.1.2⟩),aG (fun q=>cb q.1),H];refine hR.pR hb (hR.fv i ha _ (getD_in hk)) (fun n=>l _ ?_)
   have hl:=hR.led hs.ok hcl b hk;rw[mJ b (s i b) hk,aG (fun q=>cb q.1)] at hl;exact hl n
 ·rw[KG hR.kv hb u,hR.rg,List.filter_filter];rw[lK (we m) _ (fun e=>cL (W.c0 g true) e.2&&cL (W.cR g true).1 e.1) W.rg (fun e he=>by have q1:=Rg.is hR hb h0 (hR.gv e he).h;have f:=Rg.is hR hb hs (hR.gv e he).g;have q1:(S.s.j0 a).al (S.j2 a).1 (we m e).2=cL (W.c0 g true) e.2:=q1;have f:(S.s.j0 a).al (S.cA a) (we m e).1=cL (W.cR g true).1 e.1:=f;rw[q1,f,Bool.and_comm]),List.map_map];exact Bj
 ·rw[zA hR.kv hb u];have hE:∀e∈W.wt++(W.cR g true).2.1,iH W.T e:=fun e he=>by
   rcases List.mem_append.1 he with d|d
   ·exact hR.dy e d
   ·exact hR.gv e (hs.c e d).1
  rw[hs.q,lK (we m) _ (fun e=>cL (W.cR g true).1 e.1) _ (fun e he=>Rg.is hR hb hs (hE e he).g),List.map_map];exact Bg
theorem cy.dz (b:cy a S W m Y G)(hb:cI a S.s){g:List Bool->List Bool}(hg:dR W.T W.wt g):∃c d e,cy a (S.dz a) (W.cut g a.O true) c d e:=by
 unfold ck.cut;rw[<-b.Bv hb hg];cases hf:S.fN a
 ·rw[aG Z];exact⟨_,_,_,(b.KH hb hg hf).done b⟩
 ·refine⟨m,Y,G,?_⟩
  unfold cq.dz;rw[hf,aI rfl];exact b
end
end Go.Proofs.YtpkjkjhanlbcoaaGreat
