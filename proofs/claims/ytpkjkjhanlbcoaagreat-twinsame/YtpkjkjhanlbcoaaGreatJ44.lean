import Derived.Test.YtpkjkjhanlbcoaaGreatJ43
namespace Go.Proofs.YtpkjkjhanlbcoaaGreat
open Go.RowKit W Kp cf
theorem A3 {P:Prop}(h:P:=by
 have:=h.fd i hi 1 V;rw[<-e] at this
 show ld a.N S.s.y S.s.g S.s.ws (m i+2)=_;rw[<-this]
 congr 1
 omega):P:=h
section
variable {a:Wc}{S:cq}{W:ck}{m:Nat->Int}{Y G:List Int}
theorem cy.T (h:cy a S W m Y G)(hb:cI a S.s):(S.s.j0 a).T=G++Y:=(kO h.kv.inv.full hb).2.2
theorem cy.memT (h:cy a S W m Y G)(hb:cI a S.s){i:Nat}(hi:cv W.T i):m i∈(S.s.j0 a).T:=by rw[h.T hb];exact List.mem_append.2 ((h.mem hi).symm)
theorem cy.uV (h:cy a S W m Y G)(hb:cI a S.s){c:Int}(hc:c∈(S.s.j0 a).T):∃i,cv W.T i/\m i=c:=by rw[h.T hb] at hc;exact h.f4 c ((List.mem_append.1 hc).symm)
theorem cy.jt (h:cy a S W m Y G)(hb:cI a S.s){v:Int×Int}(hv:dM W.T v):(S.s.j0 a).jt (wv m v)=(v.1==3):=by
 unfold b9.jt;rw[h.uQ hb hv];by_cases c:v.1=3
 ·rw[(h.vt hb hv c).2,c,List.contains_iff_mem.2 (h.memT hb (hv.t c).2)];rfl
 ·have e:(v.1==3)=false:=by simpa using c
  rw[e];rfl
theorem cy.ks (h:cy a S W m Y G)(hb:cI a S.s){i:Nat}(hi:cv W.T i):(S.s.j0 a).jt (ew 3 (m i))=true/\cg (ew 3 (m i))=m i:=by obtain⟨_,b,c⟩:=h.word hb hi;unfold b9.jt;rw[b,c,List.contains_iff_mem.2 (h.memT hb hi)];exact⟨rfl,rfl⟩
theorem cy.al (h:cy a S W m Y G)(hb:cI a S.s)(s:cu){i:Nat}(hi:cv W.T i):(S.s.j0 a).al s (ew 3 (m i))=true↔s.f (m i)≠-1:=by obtain⟨w1,b⟩:=h.ks hb hi;unfold b9.al b9.cS;rw[w1,b];simp
theorem cy.oA (h:cy a S W m Y G)(hb:cI a S.s)(s:cu){v:Int×Int}(hv:dM W.T v)(b:v.1=3):(S.s.j0 a).cS s (wv m v)=false↔s.f (m v.2.toNat)≠-1:=by rw[im b,<-h.al hb s (hv.t b).2];unfold b9.al;simp
theorem cy.marked (h:cy a S W m Y G)(hb:cI a S.s){s:cu}{q:List b7}(l:fN (S.s.j0 a) s q)(hq:∀e∈W.wt,we m e∈q):gX W.T W.wt (fun i=>cv W.T i/\s.f (m i)≠-1):=by
 intro i _ B v hv d;obtain⟨hi,p⟩:=B;have hk:m4 (S.s.j0 a) s (m i):=by
  rcases l.jR.cmp _ (h.memT hb hi) p with c|c|c
  ·rw[l.td] at c;cases c
  ·exact absurd c id
  ·exact c
 obtain⟨g,C,_⟩:=h.parts hi;have g:pk ((S.s.j0 a).ld (m i))=(W.T.getD i t0).1:=g;rcases hv with⟨c,hm⟩|⟨c,e⟩|⟨c,D,e⟩|⟨c,j,he,J,E⟩
 ·obtain⟨k,K,_,F⟩:=h.field hi hm;have b:=h.fv i hi v hm;refine⟨(b.t d).2,(h.oA hb s b d).1 ?_⟩
  have:=hk.p (by rw[g];exact c) k (by show(k:Int)<pf (ld a.N S.s.y S.s.g S.s.ws (m i));rw[C];omega)
  have e:(S.s.j0 a).ld (m i+1+k)=wv m v:=F;rw[e] at this
  exact this
 ·have hl:=h.two hi (aJ (aK c))
  have hm:v∈(W.T.getD i t0).2.1:=by rw[e];exact getD_in V
  have b:=h.fv i hi v hm;refine⟨(b.t d).2,(h.oA hb s b d).1 ?_⟩
  have:=hk.w (by rw[g];exact c)
  have o:(S.s.j0 a).ld (m i+2)=wv m v:=by exact A3
  rw[o] at this
  exact this
 ·have hl:=h.two hi (aJ (aJ c))
  have hm:v∈(W.T.getD i t0).2.1:=by rw[e];exact getD_in V
  have b:=h.fv i hi v hm;refine⟨(b.t d).2,(h.oA hb s b d).1 ?_⟩
  have o:(S.s.j0 a).ld (m i+2)=wv m v:=by exact A3
  have e6:(S.s.j0 a).ld (m i+1)=wv m ((W.T.getD i t0).2.1.getD 0 (0,0)):=by
   have:=h.fd i hi 0 V;show ld a.N S.s.y S.s.g S.s.ws (m i+1)=_;rw[<-this]
   congr 1
   omega
  rcases hk.e (by rw[g];exact c) with n|n
  ·have f:=l.ep _ n;rw[e6] at f;have t:=h.fv i hi _ (getD_in (x:=((0,0):Int×Int)) (show 0<(W.T.getD i t0).2.1.length by omega))
   have u:(S.s.j0 a).jt (wv m ((W.T.getD i t0).2.1.getD 0 (0,0)))=true:=by unfold b9.cS at f;rw[a_] at f;exact f.1
   rw[h.jt hb t] at u;have w:((W.T.getD i t0).2.1.getD 0 (0,0)).1=3:=by simpa using u
   have:=(h.oA hb s t w).2 (D w).2;rw[this] at f;cases f
  ·rw[o] at n;exact n
 ·have A:=h.dx j he;have H:j.1.toNat=i:=V;have I:v.2.toNat=j.2.toNat:=by rw[E]
  rw[I];refine⟨A.h,(h.al hb s A.h).1 ?_⟩
  rcases l.wq _ (hq j he) with c|c
  ·exact c
  ·exfalso;have:=(h.al hb s hi).2 p;have c:(S.s.j0 a).al s (ew 3 (m j.1.toNat))=false:=c;rw[H,this] at c;cases c
def hP (W:ck)(m:Nat->Int)(X:Nat->Prop)(c:Int):Prop:=∃i,cv W.T i/\m i=c/\X i
theorem cy.mH (h:cy a S W m Y G){X:Nat->Prop}{i:Nat}(hi:cv W.T i):hP W m X (m i)↔X i:=
 ⟨fun⟨j,c,e,b⟩=>by rw[<-h.inj j i c hi e];exact b,fun b=>⟨i,hi,rfl,b⟩⟩
theorem cy.closed (h:cy a S W m Y G)(hb:cI a S.s){X:Nat->Prop}(u:gX W.T W.wt X)(hr:∀v∈W.rs,v.1=3->X v.2.toNat):nf (S.s.j0 a) (hP W m X)/\pz (S.s.j0 a) (hP W m X) (W.wt.map (we m)):=by
 have key:∀{i:Nat}{v:Int×Int},cv W.T i->X i->dM W.T v->jC W.T W.wt X i v->(S.s.j0 a).jt (wv m v)=true->hP W m X (cg (wv m v)):=fun {i v} hi f hv hk d=>by
  rw[h.jt hb hv] at d;have g:v.1=3:=by simpa using d
  rw[(h.vt hb hv g).2];exact⟨_,(hv.t g).2,rfl,u i hi.1 f v hk g⟩
 have fl:∀{i:Nat},cv W.T i->∀k:Nat,(k:Int)<pf ((S.s.j0 a).ld (m i))->k<(W.T.getD i t0).2.1.length:=fun {i} hi k hk=>by have hk:(k:Int)<pf (ld a.N S.s.y S.s.g S.s.ws (m i)):=hk;rw[(h.parts hi).2.1] at hk;omega
 have kd:∀{i:Nat},cv W.T i->pk ((S.s.j0 a).ld (m i))=(W.T.getD i t0).1:=fun {i} hi=>(h.parts hi).1;have p:∀{i:Nat},cv W.T i->(W.T.getD i t0).2.1.length=2->(S.s.j0 a).ld (m i+2)=wv m ((W.T.getD i t0).2.1.getD 1 (0,0))/\(S.s.j0 a).ld (m i+1)=wv m ((W.T.getD i t0).2.1.getD 0 (0,0)):=fun {i} hi hl=>by
  constructor
  ·show ld a.N S.s.y S.s.g S.s.ws (m i+2)=_;rw[<-(h.fd i hi 1 V)]
   congr 1
   omega
  ·show ld a.N S.s.y S.s.g S.s.ws (m i+1)=_;rw[<-(h.fd i hi 0 V)]
   congr 1
   omega
 refine⟨⟨fun i hi d=>?_,fun c hc n hk i hi d=>?_,fun c hc n hk d=>?_,fun c hc n hk w d=>?_⟩,fun e he hg d=>?_⟩
 ·obtain⟨er,hv⟩:=h.root hi;have er:(S.s.j0 a).s.rs.getD i 0=wv m (W.rs.getD i (0,0)):=er;rw[er] at d⊢;rw[h.jt hb hv] at d;have g:(W.rs.getD i (0,0)).1=3:=by simpa using d
  rw[(h.vt hb hv g).2];exact⟨_,(hv.t g).2,rfl,hr _ (getD_in (by rw[h.rl];exact hi)) g⟩
 ·obtain⟨j,b,rfl,f⟩:=n;have hl:=fl b i hi;have B:(S.s.j0 a).ld (m j+1+i)=wv m ((W.T.getD j t0).2.1.getD i (0,0)):=h.fd j b i hl;rw[B] at d⊢;rw[kd b] at hk;exact key b f (h.fv j b _ (getD_in hl)) (aK ⟨hk,getD_in hl⟩) d
 ·obtain⟨j,b,rfl,f⟩:=n;rw[kd b] at hk;have hl:=h.two b (aJ (aK hk))
  rw[(p b hl).1] at d⊢;exact key b f (h.fv j b _ (getD_in V)) (aJ (aK ⟨hk,rfl⟩)) d
 ·obtain⟨j,b,rfl,f⟩:=n;rw[kd b] at hk;have hl:=h.two b (aJ (aJ hk))
  rw[(p b hl).1] at d⊢;rw[(p b hl).2] at w;have s:=h.fv j b _ (getD_in (x:=((0,0):Int×Int)) (show 0<(W.T.getD j t0).2.1.length by omega))
  refine key b f (h.fv j b _ (getD_in V)) (aJ (aJ (aK ⟨hk,fun t=>?_,rfl⟩))) d;have q:=w (by rw[h.jt hb s];simpa using t)
  rw[(h.vt hb s t).2] at q;exact(h.mH (s.t t).2).1 q
 ·obtain⟨o,A,rfl⟩:=List.mem_map.1 he;have l:=h.dx o A;obtain⟨g1,g2⟩:=h.ks hb l.g;obtain⟨D,C⟩:=h.ks hb l.h;have q:=hg g1;have q:hP W m X (cg (ew 3 (m o.1.toNat))):=q;rw[g2] at q;show hP W m X (cg (ew 3 (m o.2.toNat)))
  rw[C];exact⟨_,l.h,rfl,u _ l.g.1 ((h.mH l.g).1 q) (3,o.2) (aJ (aJ (aJ ⟨l.k,o,A,by have:=l.g0;omega,rfl⟩))) rfl⟩
structure Rg (a:Wc)(S:cq)(W:ck)(m:Nat->Int)(t:cu×List b7)(L:List Bool)(C:List b7):Prop where
 de:fN (S.s.j0 a) t.1 t.2
 sn:dG (S.s.j0 a) (fun _=>True) t.1
 ok:gD W.T L
 fX:∀i,cv W.T i->(t.1.f (m i)≠-1↔ct L i)
 q:t.2=(W.wt++C).map (we m)
 c:∀e∈C,e∈W.rg/\ct L e.2.toNat
 r:∀v∈W.rs,v.1=3->ct L v.2.toNat
theorem Rg.is (f:cy a S W m Y G)(hb:cI a S.s){t:cu×List b7}{L:List Bool}{C:List b7}(h:Rg a S W m t L C){x:Int}(d:cv W.T x.toNat):(S.s.j0 a).al t.1 (ew 3 (m x.toNat))=cL L x:=by
 unfold cL;have e:=f.al hb t.1 d;have b:=h.fX _ d;unfold ct at b;cases c:L.getD x.toNat false
 ·rw[Bool.eq_false_iff];intro g;have:=b.1 (e.1 g)
  rw[c] at this
  cases this
 ·exact e.2 (b.2 c)
theorem Rg.uW (b:cy a S W m Y G)(hb:cI a S.s){g:List Bool->List Bool}(hg:dR W.T W.wt g):nt (S.s.j0 a).fF g (we m) W.rg (Rg a S W m):=by
 refine⟨fun t L C e h he hn=>?_,fun t L C e h he hy=>?_⟩
 ·have d:=b.gv e he;rw[<-Rg.is b hb h d.g] at hn;exact mS (o:=dI cu) (is:=fun s x=>(S.s.j0 a).al s.1 x) (kp:=(S.s.j0 a).ke) (s:=t) (e:=we m e) hn
 ·have d:=b.gv e he;rw[<-Rg.is b hb h d.g] at hy;obtain⟨k1,I,w,J⟩:=h.de.jR.ke (t:=t) (ew 3 (m e.2.toNat))
  have A:(S.s.j0 a).fF t (we m e)=(true,(((S.s.j0 a).ke t (ew 3 (m e.2.toNat))).2.1,t.2++[we m e])):=by refine(mT (o:=dI cu) (is:=fun s x=>(S.s.j0 a).al s.1 x) (kp:=(S.s.j0 a).ke) (s:=t) (e:=we m e) hy).trans ?_;show(true,(((S.s.j0 a).ke t (ew 3 (m e.2.toNat))).2.1,((S.s.j0 a).ke t (ew 3 (m e.2.toNat))).2.2++[we m e]))=_;rw[w]
  have B:=(h.de.cm (we m e)).1;rw[A] at B;rw[A];obtain⟨o1,U,X⟩:=h.ok.put d.h;have D:=hg _ o1.len o1.al;obtain⟨n1,E,K⟩:=h.ok.fw hg b.iv d.h;have l:=K;obtain⟨c1,c2⟩:=b.closed hb D.cl (fun v hv q=>l _ (h.r v hv q))
  have c3:pz (S.s.j0 a) (hP W m (ct (fw g L e.2))) t.2:=by
   rw[h.q,List.map_append];intro x n;rcases List.mem_append.1 n with f|f
   ·exact c2 x f
   ·obtain⟨u,M,rfl⟩:=List.mem_map.1 f;obtain⟨N,O⟩:=h.c u M;have F:=b.gv u N;intro _ _;show hP W m _ (cg (ew 3 (m u.2.toNat)))
    rw[(b.ks hb F.h).2];exact⟨_,F.h,rfl,l _ O⟩
  have s0:dG (S.s.j0 a) (hP W m (ct (fw g L e.2))) t.1:=⟨fun c hc k=>by obtain⟨i,hi,rfl⟩:=b.uV hb hc;exact⟨i,hi,rfl,l i ((h.fX i hi).1 k)⟩,h.sn.ea⟩
  have s1:=dG.ke c1 c3 s0 h.de.jR (ew 3 (m e.2.toNat)) (fun _=>by rw[(b.ks hb d.h).2];exact⟨_,d.h,rfl,E⟩)
  refine⟨rfl,B,⟨fun _ _ _=>trivial,s1.ea⟩,n1,fun i hi=>⟨fun k=>?_,fun P=>?_⟩,?_,fun x n=>?_,fun v hv q=>l _ (h.r v hv q)⟩
  ·exact(b.mH hi).1 (s1.snd _ (b.memT hb hi) k)
  ·have Q:=b.marked hb k1 (fun x n=>by rw[w,h.q];exact List.mem_map_of_mem (aY _ n))
   refine(D.lt _ Q (fun j p=>?_) i P).2;have H:=o1.al j p;refine⟨H,?_⟩
   unfold ct at p;rw[i9 _ _ _ (by rw[h.ok.len];exact d.h.1)] at p;split at p
   ·rename_i R;rw[<-R];exact(b.al hb _ d.h).1 J
   ·have k:=(h.fX j H).2 p;rw[I.f _ k];exact k
  ·show t.2++[we m e]=_;rw[h.q,<-ba,List.map_append (l₁:=W.wt++C)];rfl
  ·rcases List.mem_append.1 n with f|f
   ·exact⟨(h.c x f).1,l _ (h.c x f).2⟩
   ·rw[List.mem_singleton.1 f];exact⟨he,E⟩
theorem Rg.start (b:cy a S W m Y G)(hb:cI a S.s){g:List Bool->List Bool}(hg:dR W.T W.wt g):Rg a S W m (S.j2 a) (W.c0 g true) []:=by
 have q:=cV.start hb.n1 hb.o1 hb.y1 hb.g1;obtain⟨m1,_,B⟩:=(cZ.start q).cJ 12;obtain⟨c,C,d⟩:=cZ.sp (t:=((S.s.j0 a).cJ gL 12,S.q)) m1;have d:(S.j2 a).2=S.q:=d;have f:=b.first true;have s:=hg _ f.len f.al;obtain⟨n1,D⟩:=hg.ok b.iv f;have hr:_:=fun v hv l=>D _ ((ku _ _ _ _).2 ⟨((b.rv v hv).t l).2.1,aJ ⟨v,hv,l,rfl⟩⟩)
 obtain⟨c1,c2⟩:=b.closed hb s.cl hr;rw[<-b.wt] at c2;have cJ:∀n,n<=12->dG (S.s.j0 a) (hP W m (ct (W.c0 g true))) ((S.s.j0 a).cJ gL n):=fun n=>by
  induction n with
  |zero=>
   intro _;show dG _ _ gL;exact⟨fun _ _ o=>absurd rfl o,fun _ ha=>by simp[gL] at ha⟩
  |succ n E=>
   intro hn;obtain⟨m1,_⟩:=(cZ.start (X:=fun _=>False) q).cJ n;exact(E V).ma _ (c1.rt n V) (m1.ma _).2.1
 have s1:dG (S.s.j0 a) (hP W m (ct (W.c0 g true))) (S.j2 a).1:=dG.cW c1 _ ((S.s.j0 a).cJ gL 12,S.q) c2 (cJ 12 bW) m1;have c:fN (S.s.j0 a) (S.j2 a).1 (S.j2 a).2:=c;refine⟨c,⟨fun _ _ _=>trivial,s1.ea⟩,n1,fun i hi=>⟨fun o=>(b.mH hi).1 (s1.snd _ (b.memT hb hi) o),fun F=>?_⟩,?_,fun e he=>(by cases he),hr⟩
 ·refine(s.lt _ (b.marked hb c (fun x H=>by rw[d,b.wt];exact List.mem_map_of_mem H)) (fun j u=>?_) i F).2;refine⟨f.al j u,?_⟩
  obtain⟨_,p⟩:=(ku _ _ _ _).1 u;rcases p with⟨_,_,p⟩|⟨v,hv,l,e⟩
  ·cases p
  ·obtain⟨k,hk,e6⟩:=List.mem_iff_getElem.1 hv;have w:k<12:=by rw[<-b.rl];exact hk
   obtain⟨er,A⟩:=b.root w;have I:W.rs.getD k (0,0)=v:=by rw[aE,aL hk,e6];rfl
   rw[I] at er A;have j0:=B k w;have er:(S.s.j0 a).s.rs.getD k 0=wv m v:=er;rw[er] at j0;rw[<-e];exact(b.oA hb _ A l).1 (C.cS j0)
 ·rw[d,b.wt,List.append_nil]
theorem Rg.settled (b:cy a S W m Y G)(hb:cI a S.s){g:List Bool->List Bool}(hg:dR W.T W.wt g):Rg a S W m (S.cA a,((S.s.j0 a).eW (S.j2 a) S.r).2) (W.cR g true).1 (W.cR g true).2.1:=by
 have h0:=Rg.start b hb hg;have c:S.r.filter (fun e=>!(S.s.j0 a).al (S.j2 a).1 e.2)=(W.rg.filter (fun e=>!cL (W.c0 g true) e.2)).map (we m):=by rw[b.rg];exact lI _ _ _ W.rg (fun e he=>by show(!(S.s.j0 a).al _ (ew 3 (m e.2.toNat)))=_;rw[Rg.is b hb h0 (b.gv e he).h])
 obtain⟨d,_⟩:=(Rg.uW b hb hg).turns _ (W.rg.filter (fun e=>!cL _ e.2)) (S.j2 a) _ [] (fun e he=>(List.mem_filter.1 he).1) h0;have f:eB (S.s.j0 a).fF ((S.r.filter (fun e=>!(S.s.j0 a).al (S.j2 a).1 e.2)).length+1) (S.j2 a) (S.r.filter (fun e=>!(S.s.j0 a).al (S.j2 a).1 e.2))=eB (S.s.j0 a).fF (W.rg.length+1) (S.j2 a) ((W.rg.filter (fun e=>!cL (W.c0 g true) e.2)).map (we m)):=by rw[c];have hl:=bm (fun e=>!cL (W.c0 g true) e.2) W.rg;exact rk _ _ _ _ _ V (by rw[aW];omega)
 have i:(S.s.j0 a).eW (S.j2 a) S.r=(eB (S.s.j0 a).fF (W.rg.length+1) (S.j2 a) ((W.rg.filter (fun e=>!cL (W.c0 g true) e.2)).map (we m))).1:=by rw[<-f];rfl
 have j:(S.cA a,((S.s.j0 a).eW (S.j2 a) S.r).2)=(S.s.j0 a).eW (S.j2 a) S.r:=rfl;rw[j,i];exact d
end
section
variable {a:Wc}{S:cq}{W:ck}{m:Nat->Int}{Y G D:List Int}
theorem cy.fV (h:cy a S W m Y G)(hb:cI a S.s):(S.s.k0 a).T=Y:=oo h.kv.inv.full hb.n1 hb.y1 hb.o1 hb.g1
theorem cy.j6 (h:cy a S W m Y G)(hb:cI a S.s){v:Int}(b:v∈Y):v∉G:=fun c=>by have q1:=h.kv.inv.full.ix v b;have d:=h.kv.inv.full.io v c;have:=hb.y1;omega
theorem cy.oC (h:cy a S W m Y G)(hb:cI a S.s){i:Nat}(hi:cv W.T i):(S.s.k0 a).cK (ew 3 (m i))=true↔m i∈Y:=by obtain⟨_,b,c⟩:=h.word hb hi;unfold ce.cK;rw[b,c,h.fV hb];simp
theorem cy.rG (h:cy a S W m Y G)(hb:cI a S.s){v:Int×Int}(hv:dM W.T v)(hy:(S.s.k0 a).cK (wv m v)=true):v.1=3/\cg (wv m v)=m v.2.toNat:=by
 have b:cY (wv m v)=true:=by unfold ce.cK at hy;rw[a_] at hy;exact hy.1
 rw[h.uQ hb hv] at b;have c:v.1=3:=by simpa using b
 exact⟨c,(h.vt hb hv c).2⟩
theorem cy.j7 (h:cy a S W m Y G)(hb:cI a S.s)(s:cj){i:Nat}(hi:cv W.T i):(S.s.k0 a).al s (ew 3 (m i))=true↔(m i∈G\/s.f (m i)≠-1):=by
 have hy:=h.oC hb hi;obtain⟨_,_,d⟩:=h.word hb hi;unfold ce.al ce.ls;rw[d];rcases h.mem hi with b|b
 ·rw[hy.2 b];have:=h.j6 hb b;simp[this]
 ·have:(S.s.k0 a).cK (ew 3 (m i))=false:=by rw[Bool.eq_false_iff];intro c;exact h.j6 hb (hy.1 c) b
  rw[this];simp[b]
theorem cy.Kj (h:cy a S W m Y G)(hb:cI a S.s){s:cj}{i:Nat}(hi:cv W.T i)(hs:(S.s.k0 a).al s (ew 3 (m i))=true):∃b,(S.s.k0 a).or (S.s.z0 G) s (m i) b:=by
 rcases(h.j7 hb s hi).1 hs with c|c
 ·exact⟨m i,aK ⟨rfl,c⟩⟩
 ·rcases h.mem hi with e|e
  ·exact⟨s.f (m i),aJ ⟨by rw[h.fV hb];exact e,rfl,c⟩⟩
  ·exact⟨m i,aK ⟨rfl,e⟩⟩
def pP (a:Wc)(S:cq)(G D:List Int):Prop:=∀v∈G,v∉D->∀i,0<=i->i<pf ((S.s.k0 a).l0 (S.s.z0 G) v)->(S.s.k0 a).cK ((S.s.k0 a).l0 (S.s.z0 G) (v+1+i))=false
theorem cy.uX (h:cy a S W m Y G)(hb:cI a S.s)(hc:pP a S G D){q0:List b7}{t:cj×List b7}(d:kW (S.s.k0 a) (S.s.z0 G) D q0 t)(hq:∀e∈W.wt,∃n,n<q0.length/\q0.getD n (0,0)=we m e):
 gX W.T W.wt (fun i=>cv W.T i/\(S.s.k0 a).al t.1 (ew 3 (m i))=true):=by
 obtain⟨H,li,aR⟩:=d.li;have hz:∀v,(v∈(S.s.k0 a).T\/v∈(S.s.z0 G).G)->∀i,0<=i->i<pf ((S.s.k0 a).l0 (S.s.z0 G) v)->cY ((S.s.k0 a).l0 (S.s.z0 G) (v+1+i))=true->cg ((S.s.k0 a).l0 (S.s.z0 G) (v+1+i))∈(S.s.k0 a).T\/cg ((S.s.k0 a).l0 (S.s.z0 G) (v+1+i))∈(S.s.z0 G).G:=fun v hv i O p ha=>by rw[h.fV hb] at hv⊢;exact h.kv.inv.fd v hv i O p ha
 have told:∀{w x:Int}{j:Nat},cv W.T j->w=ew 3 (m j)->(S.s.k0 a).ml t.1 w x->(S.s.k0 a).al t.1 x=true->(S.s.k0 a).al t.1 (ew 3 (m j))=true:=fun {w x j} C f hm P=>by
  rcases hm with e|⟨_,u,_⟩
  ·rw[<-f,<-e];exact P
  ·rw[f,(h.word hb C).2.2] at u;exact(h.j7 hb t.1 C).2 (aJ u)
 intro i _ Q v hv g;obtain⟨hi,hs⟩:=Q;obtain⟨b,o⟩:=h.Kj hb hi hs;have f:(S.s.k0 a).ld t.1 b=ld a.N S.s.y S.s.g S.s.ws (m i):=li.mi.hd _ _ o;obtain⟨E,R,_⟩:=h.parts hi;have A:∀{n:Nat},n<(W.T.getD i t0).2.1.length->((W.T.getD i t0).2.1.getD n (0,0)).1=3->¬((W.T.getD i t0).1=3/\n=0)->¬((W.T.getD i t0).1=4/\b∈t.1.ep)->(S.s.k0 a).al t.1 (ew 3 (m ((W.T.getD i t0).2.1.getD n (0,0)).2.toNat))=true:=fun {n} hn F n1 U=>by
  have B:=h.fv i hi _ (getD_in (x:=((0,0):Int×Int)) hn)
  have I:=(B.t F).2;have J:(S.s.k0 a).l0 (S.s.z0 G) (m i+1+n)=ew 3 (m ((W.T.getD i t0).2.1.getD n (0,0)).2.toNat):=(h.fd i hi n hn).trans (im F)
  have p:(n:Int)<pf ((S.s.k0 a).l0 (S.s.z0 G) (m i)):=by
   show(n:Int)<pf (ld a.N S.s.y S.s.g S.s.ws (m i))
   omega
  have K:=li.mi.fd (m i) b o n (Int.natCast_nonneg n) p;refine told I J K ?_;rcases K with e|⟨y1,u,X⟩
  ·rw[J] at e;have ha:cY ((S.s.k0 a).ld t.1 (b+1+n))=true:=by rw[e];exact(h.word hb I).2.1
   have ab:(n:Int)<pf ((S.s.k0 a).ld t.1 b):=by rw[f,R];omega
   rcases li.fields d.he hz hc (li.mi.mem o) (Int.natCast_nonneg n) ab ha with c|⟨c1,c2,_⟩|⟨c1,c2⟩
   ·exact qQ (li.mi.om c)
   ·rw[f,E] at c1;exact absurd ⟨c1,V⟩ n1
   ·rw[f,E] at c1;exact absurd ⟨c1,c2⟩ U
  ·have ad:=li.mi.i7 (li.mi.fh _ (nD y1) u)
   have a0:=li.mi.ci.hN';have a1:=li.mi.ci.hO;have a2:=li.mi.ci.hg;rw[X];exact qQ (m_ li.mi.ci ad.1 V)
 rcases hv with⟨c,hm⟩|⟨c,e⟩|⟨c,ag,e⟩|⟨c,s,he,bb,ai⟩
 ·obtain⟨n,hn,en,_⟩:=h.field hi hm;have B:=h.fv i hi v hm;refine⟨(B.t g).2,?_⟩
  have:=A hn (by rw[en];exact g) (fun q=>by omega) (fun q=>by omega)
  rw[en] at this
  exact this
 ·have hl:=h.two hi (aJ (aK c))
  have hm:v∈(W.T.getD i t0).2.1:=by rw[e];exact getD_in V
  refine⟨((h.fv i hi v hm).t g).2,?_⟩
  have:=A (n:=1) V (by rw[<-e];exact g) (fun q=>by omega) (fun q=>by omega)
  rw[<-e] at this
  exact this
 ·have hl:=h.two hi (aJ (aJ c))
  have hm:v∈(W.T.getD i t0).2.1:=by rw[e];exact getD_in V
  refine⟨((h.fv i hi v hm).t g).2,?_⟩
  have L:=h.fv i hi _ (getD_in (x:=((0,0):Int×Int)) (show 0<(W.T.getD i t0).2.1.length by omega))
  have al:b∉t.1.ep:=fun am=>by
   have an:b+1+0=b+1:=V;have p:(0:Int)<pf ((S.s.k0 a).l0 (S.s.z0 G) (m i)):=by
    show(0:Int)<pf (ld a.N S.s.y S.s.g S.s.ws (m i))
    omega
   have k:=d.ep b am;rw[<-an] at k;have e6:(S.s.k0 a).l0 (S.s.z0 G) (m i+1+0)=wv m ((W.T.getD i t0).2.1.getD 0 (0,0)):=h.fd i hi 0 V;rw[(li.mi.rF o (Int.le_refl 0) p (mG k)),e6] at k;obtain⟨M,ao⟩:=h.rG hb L (mG k)
   have q1:=(ce.mV k).2.2;have l:=(ce.mV k).2.1;rw[ao] at q1 l;rw[h.fV hb] at l;rcases(h.j7 hb t.1 (L.t M).2).1 (ag M).2 with w1|w1
   ·exact h.j6 hb l w1
   ·exact w1 q1
  have:=A (n:=1) V (by rw[<-e];exact g) (fun q=>by omega) (fun q=>al q.2)
  rw[<-e] at this
  exact this
 ·have N:=h.dx s he;have ap:s.1.toNat=i:=V;have ar:v.2.toNat=s.2.toNat:=by rw[ai]
  rw[ar];refine⟨N.h,?_⟩
  obtain⟨n,hn,en⟩:=hq s he;obtain⟨q1,l⟩:=d.q.eq n hn;rw[en] at q1 l;have aF:t.2.getD n (0,0)∈t.2:=getD_in (by rw[d.q.len];exact hn)
  refine told N.h rfl l ?_;rcases d.wq _ aF with w1|w1
  ·exact w1
  ·exfalso;have q1:(t.2.getD n (0,0)).1=ew 3 (m s.1.toNat):=q1;rw[q1,ap,hs] at w1;cases w1
theorem cy.A4 (h:cy a S W m Y G)(hb:cI a S.s){X:Nat->Prop}(B:gX W.T W.wt X)(ho:∀i,cv W.T i->(W.T.getD i t0).2.2.1=true->X i):kU (S.s.k0 a) (S.s.z0 G) (hP W m X):=by
 have key:∀{i:Nat}{v:Int×Int},cv W.T i->X i->dM W.T v->jC W.T W.wt X i v->(S.s.k0 a).cK (wv m v)=true->hP W m X (cg (wv m v)):=fun {i v} hi g hv hk f=>by obtain⟨t,e⟩:=h.rG hb hv f;rw[e];exact⟨_,(hv.t t).2,rfl,B i hi.1 g v hk t⟩
 have kd:∀{i:Nat},cv W.T i->pk ((S.s.k0 a).l0 (S.s.z0 G) (m i))=(W.T.getD i t0).1/\pf ((S.s.k0 a).l0 (S.s.z0 G) (m i))=(W.T.getD i t0).2.1.length:=fun {i} hi=>⟨(h.parts hi).1,(h.parts hi).2.1⟩
 have o:∀{i:Nat},cv W.T i->∀{n:Nat},n<(W.T.getD i t0).2.1.length->(S.s.k0 a).l0 (S.s.z0 G) (m i+1+n)=wv m ((W.T.getD i t0).2.1.getD n (0,0)):=fun {i} hi {n} hn=>h.fd i hi n hn;refine⟨fun b u=>?_,fun c _ k hk i hi f=>?_,fun c _ k hk f=>?_,fun c _ k hk w f=>?_⟩
 ·obtain⟨i,hi,e⟩:=h.f4 b (aJ u)
  refine⟨i,hi,e,ho i hi ?_⟩
  cases c:(W.T.getD i t0).2.2.1
  ·exact absurd (e▸u) (h.j6 hb (h.il i hi c))
  ·rfl
 ·obtain⟨j,d,rfl,g⟩:=k;rw[(kd d).2] at hi;have hl:i<(W.T.getD j t0).2.1.length:=V;rw[o d hl] at f⊢;rw[(kd d).1] at hk;exact key d g (h.fv j d _ (getD_in hl)) (aK ⟨hk,getD_in hl⟩) f
 ·obtain⟨j,d,rfl,g⟩:=k;rw[(kd d).1] at hk;have hl:=h.two d (aJ (aK hk))
  have p:(S.s.k0 a).l0 (S.s.z0 G) (m j+1+1)=wv m ((W.T.getD j t0).2.1.getD 1 (0,0)):=o d (n:=1) V;rw[p] at f⊢;exact key d g (h.fv j d _ (getD_in V)) (aJ (aK ⟨hk,rfl⟩)) f
 ·obtain⟨j,d,rfl,g⟩:=k;rw[(kd d).1] at hk;have hl:=h.two d (aJ (aJ hk))
  have p:(S.s.k0 a).l0 (S.s.z0 G) (m j+1+1)=wv m ((W.T.getD j t0).2.1.getD 1 (0,0)):=o d (n:=1) V;have C:(S.s.k0 a).l0 (S.s.z0 G) (m j+1+0)=wv m ((W.T.getD j t0).2.1.getD 0 (0,0)):=o d (n:=0) V;rw[p] at f⊢;rw[C] at w;have A:=h.fv j d _ (getD_in (x:=((0,0):Int×Int)) (show 0<(W.T.getD j t0).2.1.length by omega))
  refine key d g (h.fv j d _ (getD_in V)) (aJ (aJ (aK ⟨hk,fun s=>?_,rfl⟩))) f;have l:=(A.t s).2;rcases h.mem l with w1|w1
  ·have q:=w (by rw[im s];exact(h.oC hb l).2 w1)
   rw[(h.vt hb A s).2] at q;exact(h.mH l).1 q
  ·refine ho _ l ?_;cases c:(W.T.getD _ t0).2.2.1
   ·exact absurd w1 (h.j6 hb (h.il _ l c))
   ·rfl
theorem cy.A6 (h:cy a S W m Y G)(hb:cI a S.s){X:Nat->Prop}(t:gX W.T W.wt X)(ho:∀i,cv W.T i->(W.T.getD i t0).2.2.1=true->X i){C:List b7}(j:∀e∈C,e∈W.rg/\X e.2.toNat){s:cj}{H:List Int}(mi:dE (S.s.k0 a) (S.s.z0 G) s H){q:List b7}(hq:fi (S.s.k0 a) s ((W.wt++C).map (we m)) q):kV (S.s.k0 a) (hP W m X) q:=by
 intro e he hg hy;obtain⟨n,hn,en⟩:=List.mem_iff_getElem.1 he;have u:q.getD n (0,0)=e:=by rw[aE,aL hn,en];rfl
 have g:n<((W.wt++C).map (we m)).length:=by rw[<-hq.len];exact hn
 obtain⟨q1,k⟩:=hq.eq n g;have l:n<(W.wt++C).length:=by rw[aW] at g;exact g
 rw[u,jZ (we m) (W.wt++C) n (0,0) (0,0) l] at q1 k;have o:(W.wt++C).getD n (0,0)∈W.wt++C:=getD_in l;generalize (W.wt++C).getD n (0,0)=d at*;have b:iG W.T d:=by
  rcases List.mem_append.1 o with f|f
  ·exact h.dx d f
  ·exact h.gv d (j d f).1
 have v:e.2=ew 3 (m d.2.toNat):=by
  rcases k with f|⟨y1,w,x⟩
  ·exact f
  ·have A:=mi.i7 (mi.fh _ (nD y1) w)
   have D:=mi.ci.hN';have E:=mi.ci.hO;have F:=mi.ci.hg;rw[x,m_ mi.ci A.1 V] at hy;cases hy
 have p:e.1=ew 3 (m d.1.toNat):=q1;rw[v,(h.word hb b.h).2.2];refine⟨_,b.h,rfl,?_⟩
 rcases List.mem_append.1 o with f|f
 ·have B:X d.1.toNat:=by
   rcases h.mem b.g with w1|w1
   ·have:=hg (by rw[p];exact(h.oC hb b.g).2 w1)
    rw[p,(h.word hb b.g).2.2] at this
    exact(h.mH b.g).1 this
   ·refine ho _ b.g ?_;cases c:(W.T.getD _ t0).2.2.1
    ·exact absurd w1 (h.j6 hb (h.il _ b.g c))
    ·rfl
  exact t _ b.g.1 B (3,d.2) (aJ (aJ (aJ ⟨b.k,d,f,by have:=b.g0;omega,rfl⟩))) rfl
 ·exact(j d f).2
structure jq (a:Wc)(S:cq)(W:ck)(m:Nat->Int)(G D:List Int)(t:cj×List b7)(L:List Bool)(C:List b7):Prop where
 de:kW (S.s.k0 a) (S.s.z0 G) D ((W.wt++C).map (we m)) t
 ok:gD W.T L
 fX:∀i,cv W.T i->((S.s.k0 a).al t.1 (ew 3 (m i))=true↔ct L i)
 c:∀e∈C,e∈W.rg/\ct L e.2.toNat
 r:∀v∈W.rs,v.1=3->ct L v.2.toNat
 o:∀i,cv W.T i->(W.T.getD i t0).2.2.1=true->ct L i
theorem jq.is {t:cj×List b7}{L:List Bool}{C:List b7}(h:jq a S W m G D t L C){x:Int}(d:cv W.T x.toNat):(S.s.k0 a).al t.1 (ew 3 (m x.toNat))=cL L x:=by
 unfold cL;have b:=h.fX _ d;cases c:L.getD x.toNat false
 ·rw[Bool.eq_false_iff];intro e;rw[b.1 e] at c;cases c
 ·exact b.2 c
theorem uY {C:List b7}:∀e∈W.wt,∃n,n<((W.wt++C).map (we m)).length/\((W.wt++C).map (we m)).getD n (0,0)=we m e:=fun e he=>by
 obtain⟨n,hn,en⟩:=List.mem_iff_getElem.1 he;refine⟨n,by rw[aW,aX];omega,?_⟩
 rw[jZ (we m) (W.wt++C) n (0,0) (0,0) (by rw[aX];omega),aE,List.getElem?_append_left hn,aL hn,en];rfl
theorem jq.uW (b:cy a S W m Y G)(hb:cI a S.s)(hc:pP a S G D){g:List Bool->List Bool}(hg:dR W.T W.wt g):nt (cm (dI cj) (fun s x=>(S.s.k0 a).al s.1 x) (S.s.k0 a).ke) g (we m) W.rg (jq a S W m G D):=by
 refine⟨fun t L C e h he hn=>?_,fun t L C e h he hy=>?_⟩
 ·have f:=b.gv e he;rw[<-h.is f.g] at hn;exact mS hn
 ·have f:=b.gv e he;rw[<-h.is f.g] at hy;obtain⟨k1,E,F,I,k5⟩:=h.de.ke _;rw[(mT (s:=t) hy)];obtain⟨o1,Q,R⟩:=h.ok.put f.h;have p:=hg _ o1.len o1.al;obtain⟨n1,u,J⟩:=h.ok.fw hg b.iv f.h;have w:=p.cl;have l:=J;have ho:∀i,cv W.T i->(W.T.getD i t0).2.2.1=true->_:=fun i hi q=>l i (h.o i hi q)
  obtain⟨H,li,K⟩:=h.de.li;have s0:c9 (S.s.k0 a) (hP W m (ct (fw g L e.2))) t.1:=fun c A o=>by
   rw[b.fV hb] at A;obtain⟨i,hi,rfl⟩:=b.f4 c (aK A)
   exact⟨i,hi,rfl,l i ((h.fX i hi).1 ((b.j7 hb t.1 hi).2 (aJ o)))⟩
  obtain⟨s1,_⟩:=c9.ke (b.A4 hb w ho) li K (b.A6 hb w ho (fun x k=>⟨(h.c x k).1,l _ (h.c x k).2⟩) li.mi h.de.q) s0 _ (fun _=>by rw[(b.word hb f.h).2.2];exact⟨_,f.h,rfl,u⟩)
  have M:(W.wt++(C++[e])).map (we m)=(W.wt++C).map (we m)++[we m e]:=by rw[<-ba,List.map_append];rfl
  refine⟨rfl,⟨k1.li,k1.cb,fun x k=>?_,k1.he,k1.ep,?_⟩,n1,fun i hi=>⟨fun o=>?_,fun N=>?_⟩,fun x k=>?_,fun v hv O=>l _ (h.r v hv O),ho⟩
  ·rcases List.mem_append.1 k with d|d
   ·exact k1.wq x d
   ·rw[List.mem_singleton.1 d];exact aK (qQ I)
  ·rw[M];exact k1.q.snoc rfl (F _ (aK rfl))
  ·rcases(b.j7 hb _ hi).1 o with d|d
   ·refine ho i hi ?_;cases c:(W.T.getD i t0).2.2.1
    ·exact absurd d (b.j6 hb (b.il _ hi c))
    ·rfl
   ·rcases b.mem hi with w1|w1
    ·exact(b.mH hi).1 (s1 _ (by rw[b.fV hb];exact w1) d)
    ·refine ho i hi ?_;cases c:(W.T.getD i t0).2.2.1
     ·exact absurd w1 (b.j6 hb (b.il _ hi c))
     ·rfl
  ·refine(p.lt _ (b.uX hb hc k1 uY) (fun j n=>?_) i N).2;have B:=o1.al j n;refine⟨B,?_⟩
   unfold ct at n;rw[i9 _ _ _ (by rw[h.ok.len];exact f.h.1)] at n;split at n
   ·rename_i P;rw[<-P];exact k5
   ·exact pA E ((h.fX j B).2 n)
  ·rcases List.mem_append.1 k with d|d
   ·exact⟨(h.c x d).1,l _ (h.c x d).2⟩
   ·rw[List.mem_singleton.1 d];exact⟨he,u⟩
end
section
variable {a:Wc}{S:cq}{W:ck}{m:Nat->Int}{Y G D:List Int}
theorem cy.Kk (h:cy a S W m Y G)(hb:cI a S.s){i:Nat}(hi:cv W.T i)(b:m i∈G):(W.T.getD i t0).2.2.1=true:=by
 cases c:(W.T.getD i t0).2.2.1
 ·exact absurd b (h.j6 hb (h.il _ hi c))
 ·rfl
theorem jq.start (b:cy a S W m Y G)(hb:cI a S.s)(hr:S.s.y<=a.O-S.s.g){g:List Bool->List Bool}(hg:dR W.T W.wt g):∃D,pP a S G D/\jq a S W m G D (S.t3 a) (W.c0 g false) []:=by
 have h:=b.kv;have M:=b.fV hb;have B:=LI.start h.inv.full hb.n0 hb.n1 hb.o1 hb.y1 hb.g1 hb.l1 hr;have N:12<=(S.s.s0 a).rs.length:=by show 12<=S.s.rs.length;rw[hb.r1];exact aD _
 obtain⟨H1,n,ar,⟨bn,aB⟩,l1,y1,_,m1⟩:=B.cJ 12 N;have O:dD a.N S.s.y (S.s.s1 a).g (S.s.s1 a).ws=G++H1:=(n.mi.full.lists hb.n1 hb.y1 hb.o1 n.mi.ci.hg).2;have aF:(S.s.s1 a).nx=((S.s.k0 a).N:Int)+(S.s.z0 G).g:=(lC (S.s.k0 a) (S.s.s0 a) 12).2.2;have Q:d4 ((S.s.k0 a).l0 (S.s.z0 G)) (((S.s.k0 a).N:Int)+(S.s.z0 G).g) (S.s.k0 a).N (S.s.z0 G).G:=h.inv.full.ec;have hlo:∀x∈G++H1,x∈(S.s.z0 G).G\/((S.s.k0 a).N:Int)+(S.s.z0 G).g<=x:=fun x aR=>(List.mem_append.1 aR).imp id (fun d=>n.mi.hlo x d)
 obtain⟨C,s,E,R,U,⟨bo,bp⟩,_,aV⟩:=LI.pt (dF a.O) S.s.M Q (G++H1) n ((dL.start a S.s G).cJ B.mi 12 n.mi ar ⟨_,aB⟩) hlo;have a0:(G++H1).foldl ((S.s.k0 a).gh (((S.s.k0 a).N:Int)+(S.s.z0 G).g) (dF a.O) S.s.M) ((S.s.k0 a).cJ (S.s.s0 a) 12)=S.s.s2 a:=by unfold d9.s2 ce.lm;rw[O,aF];rfl
 have hlen:=qK (S.s.k0 a) (((S.s.k0 a).N:Int)+(S.s.z0 G).g) (dF a.O) S.s.M (G++H1) ((S.s.k0 a).cJ (S.s.s0 a) 12)
 have u:=b.first false;have X:=hg _ u.len u.al;obtain⟨n1,ab⟩:=hg.ok b.iv u;have ad:=X.cl;have ho:∀i,cv W.T i->(W.T.getD i t0).2.2.1=true->_:=fun i hi q=>ab i ((ku _ _ _ _).2 ⟨hi.1,aK ⟨q,hi.2,rfl⟩⟩)
 have ag:_:=fun v hv f=>ab _ ((ku _ _ _ _).2 ⟨((b.rv v hv).t f).2.1,aJ ⟨v,hv,f,rfl⟩⟩)
 have ai:=b.A4 hb ad ho;have a1:c9 (S.s.k0 a) (hP W m (ct (W.c0 g false))) (S.s.s0 a):=fun _ _ F=>absurd rfl F;have a2:=c9.cJ B a1 (fun i hi hy=>by
  have hi:i<12:=by rw[<-hb.r1];exact hi
  obtain⟨er,hv⟩:=b.root hi;have er:(S.s.s0 a).rs.getD i 0=wv m (W.rs.getD i (0,0)):=er;rw[er] at hy⊢;obtain⟨f,ev⟩:=b.rG hb hv hy;rw[ev];exact⟨_,(hv.t f).2,rfl,ag _ (getD_in (by rw[b.rl];exact hi)) f⟩) 12 N
 have al:=c9.lm ai (dF a.O) S.s.M Q (G++H1) n hlo a2;rw[a0] at E R U hlen al;have br:(G++H1).length<=2000:=by rw[<-O];exact iL _ _
 obtain⟨q1,q2,q3⟩:=lC _ _ 12;have cb:ee (S.s.k0 a) (S.s.s2 a):=by exact tU
 have am:pP a S G s:=fun v hv bb i bd be=>by
  cases hc:(S.s.k0 a).cK _
  ·rfl
  ·exfalso;unfold ce.cK at hc;rw[a_,M] at hc;have hm:=h.cd v hv i bd be hc.1 (List.contains_iff_mem.1 hc.2)
   exact bb (aV v (aY _ hv) hv hm)
 have bg:S.q=(W.wt++[]).map (we m):=by rw[List.append_nil];exact b.wt
 have an:fi (S.s.k0 a) (S.s.s2 a) ((W.wt++[]).map (we m)) S.q:=by rw[<-bg];exact fi.refl _ _
 have H:=b.A6 hb ad ho (fun e he=>(by cases he)) E.mi an;have key:∀s2:cj,LI (S.s.k0 a) (S.s.z0 G) s2 C s->dL (S.s.k0 a) (S.s.z0 G) s2 C->ee (S.s.k0 a) s2->fi (S.s.k0 a) s2 ((W.wt++[]).map (we m)) S.q->c9 (S.s.k0 a) (hP W m (ct (W.c0 g false))) s2->kV (S.s.k0 a) (hP W m (ct (W.c0 g false))) S.q->
  kW (S.s.k0 a) (S.s.z0 G) s ((W.wt++[]).map (we m)) ((S.s.k0 a).sp (s2,S.q))/\dh (S.s.k0 a) s2 ((S.s.k0 a).sp (s2,S.q)).1/\c9 (S.s.k0 a) (hP W m (ct (W.c0 g false))) ((S.s.k0 a).sp (s2,S.q)).1:=fun s2 l w c e sn H=>by
  obtain⟨o,I⟩:=kW.sp (t:=(s2,S.q)) l w c e;exact⟨o,I,(c9.cW ai _ (s2,S.q) C l w H sn).1⟩
 obtain⟨o,I,J⟩:=key _ E R cb an al H;have o:=o;have J:c9 (S.s.k0 a) (hP W m (ct (W.c0 g false))) (S.t3 a).1:=J;refine⟨s,am,o,n1,fun i hi=>⟨fun F=>?_,fun bi=>?_⟩,fun e he=>(by cases he),ag,ho⟩
 ·rcases b.mem hi with w1|w1
  ·rcases(b.j7 hb _ hi).1 F with d|d
   ·exact absurd d (b.j6 hb w1)
   ·exact(b.mH hi).1 (J _ (by rw[M];exact w1) d)
  ·exact ho i hi (b.Kk hb hi w1)
 ·refine(X.lt _ (b.uX hb am o uY) (fun j ao=>?_) i bi).2;have A:=u.al j ao;refine⟨A,?_⟩
  obtain⟨_,K⟩:=(ku _ _ _ _).1 ao;rcases K with⟨K,_,_⟩|⟨v,hv,f,e⟩
  ·exact(b.j7 hb _ A).2 (aK (b.old j A K))
  ·obtain⟨k,hk,e6⟩:=List.mem_iff_getElem.1 hv;have L:k<12:=by rw[<-b.rl];exact hk
   obtain⟨er,bl⟩:=b.root L;have ev:W.rs.getD k (0,0)=v:=by rw[aE,aL hk,e6];rfl
   rw[ev] at er bl;have p:cv W.T v.2.toNat:=by rw[e];exact A
   refine pA (U.trans I) ?_;rw[<-e];rcases b.mem p with w1|w1
   ·have hm:=m1 k L;have er:(S.s.s0 a).rs.getD k 0=wv m v:=er;rw[er,im f] at hm;rcases hm with d|⟨_,ap,_⟩
    ·have:=y1 k L;rw[d,((b.oC hb p).2 w1)] at this
     cases this
    ·rw[(b.word hb p).2.2] at ap;exact(b.j7 hb _ p).2 (aJ ap)
   ·exact(b.j7 hb _ p).2 (aK w1)
theorem jq.settled (b:cy a S W m Y G)(hb:cI a S.s)(hc:pP a S G D){g:List Bool->List Bool}(hg:dR W.T W.wt g)(h0:jq a S W m G D (S.t3 a) (W.c0 g false) []):jq a S W m G D (S.s4 a,((S.s.k0 a).eW (S.t3 a) S.r).2) (W.cR g false).1 (W.cR g false).2.1:=by
 have c:S.r.filter (fun e=>!(S.s.k0 a).al (S.t3 a).1 e.2)=(W.rg.filter (fun e=>!cL (W.c0 g false) e.2)).map (we m):=by rw[b.rg];exact lI _ _ _ W.rg (fun e he=>by show(!(S.s.k0 a).al _ (ew 3 (m e.2.toNat)))=_;rw[h0.is (b.gv e he).h])
 obtain⟨d,_⟩:=(jq.uW b hb hc hg).turns _ (W.rg.filter (fun e=>!cL _ e.2)) (S.t3 a) _ [] (fun e he=>(List.mem_filter.1 he).1) h0;have f:eB (cm (dI cj) (fun s x=>(S.s.k0 a).al s.1 x) (S.s.k0 a).ke) ((S.r.filter (fun e=>!(S.s.k0 a).al (S.t3 a).1 e.2)).length+1) (S.t3 a) (S.r.filter (fun e=>!(S.s.k0 a).al (S.t3 a).1 e.2))=eB (cm (dI cj) (fun s x=>(S.s.k0 a).al s.1 x) (S.s.k0 a).ke) (W.rg.length+1) (S.t3 a) ((W.rg.filter (fun e=>!cL (W.c0 g false) e.2)).map (we m)):=by rw[c];have hl:=bm (fun e=>!cL (W.c0 g false) e.2) W.rg;exact rk _ _ _ _ _ V (by rw[aW];omega)
 have i:(S.s.k0 a).eW (S.t3 a) S.r=(eB (cm (dI cj) (fun s x=>(S.s.k0 a).al s.1 x) (S.s.k0 a).ke) (W.rg.length+1) (S.t3 a) ((W.rg.filter (fun e=>!cL (W.c0 g false) e.2)).map (we m))).1:=by rw[<-f];rfl
 have j:(S.s4 a,((S.s.k0 a).eW (S.t3 a) S.r).2)=(S.s.k0 a).eW (S.t3 a) S.r:=rfl;rw[j,i];exact d
end
end Go.Proofs.YtpkjkjhanlbcoaaGreat
