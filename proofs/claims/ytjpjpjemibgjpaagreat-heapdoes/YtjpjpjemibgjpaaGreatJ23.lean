import Derived.Test.YtjpjpjemibgjpaaGreatJ22
namespace Go.Proofs.YtjpjpjemibgjpaaGreat
open Go.RowKit W Kp cg
theorem As {P:Prop}(h:P:=by
 refine List.map_congr_left (fun e he=>?_)
 obtain⟨z1,z2⟩:=List.mem_filter.1 he;have h5:=hE e z1;refine uy e h5 z2 ?_;rcases List.mem_append.1 z1 with d|d
 ·exact hcl _ h5.g.1 z2 (3,e.2) (aI (aI (aI ⟨h5.k,e,d,by have:=h5.g0;omega,rfl⟩))) rfl
 ·exact(hs.c e d).2):P:=h
theorem Au {P:Prop}(h:P:=by
 obtain⟨q1,q2⟩:=w.ep c hc;have q3:=li.mi.bd q1;have:=hY q3.2.2 (aI (aI q2))
 exact⟨g9 V V,g9 V V⟩):P:=h
theorem Av {P:Prop}(h:P:=by
 refine List.map_congr_left (fun e he=>?_)
 obtain⟨z1,z2⟩:=List.mem_filter.1 he;rw[ba] at z2;exact uy e (hR.gv e z1) z2.2 (hup _ z2.1)):P:=h
theorem Aw {P:Prop}(h:P:=by
 obtain⟨q1,q2⟩:=w.wk c hc;have q3:=li.mi.bd q1;have:=hY q3.2.2 (aI (aJ q2))
 exact g9 V V):P:=h
theorem Ax {P:Prop}(h:P:=by
 have:=h.fd i hi 1 V;rw[<-e] at this
 show ld a.N S.s.y S.s.g S.s.ws (m i+2)=_;rw[<-this]
 congr 1
 omega):P:=h
section
variable {a:Wc}{S:ck}{W:cj}{m:Nat->Int}{Y G:List Int}
theorem cw.T (h:cw a S W m Y G)(b:cI a S.s):(S.s.j0 a).T=G++Y:=(kK h.kv.inv.full b).2.2
theorem cw.memT (h:cw a S W m Y G)(b:cI a S.s){i:Nat}(hi:cH W.T i):m i∈(S.s.j0 a).T:=by rw[h.T b];exact List.mem_append.2 ((h.mem hi).symm)
theorem cw.uz (h:cw a S W m Y G)(b:cI a S.s){c:Int}(hc:c∈(S.s.j0 a).T):∃i,cH W.T i/\m i=c:=by rw[h.T b] at hc;exact h.fV c ((List.mem_append.1 hc).symm)
theorem cw.jt (h:cw a S W m Y G)(b:cI a S.s){v:Int×Int}(d:dM W.T v):(S.s.j0 a).jt (wv m v)=(v.1==3):=by
 unfold b8.jt;rw[h.ut b d];by_cases c:v.1=3
 ·rw[(h.vt b d c).2,c,List.contains_iff_mem.2 (h.memT b (d.t c).2)];rfl
 ·have e:(v.1==3)=false:=by simpa using c
  rw[e];rfl
theorem cw.kc (h:cw a S W m Y G)(b:cI a S.s){i:Nat}(hi:cH W.T i):(S.s.j0 a).jt (ew 3 (m i))=true/\cf (ew 3 (m i))=m i:=by obtain⟨_,c,w3⟩:=h.word b hi;unfold b8.jt;rw[c,w3,List.contains_iff_mem.2 (h.memT b hi)];exact⟨rfl,rfl⟩
theorem cw.al (h:cw a S W m Y G)(b:cI a S.s)(s:ct){i:Nat}(hi:cH W.T i):(S.s.j0 a).al s (ew 3 (m i))=true↔s.f (m i)≠-1:=by obtain⟨w1,c⟩:=h.kc b hi;unfold b8.al b8.cQ;rw[w1,c];simp
theorem cw.n6 (h:cw a S W m Y G)(c:cI a S.s)(s:ct){v:Int×Int}(d:dM W.T v)(b:v.1=3):(S.s.j0 a).cQ s (wv m v)=false↔s.f (m v.2.toNat)≠-1:=by rw[h9 b,<-h.al c s (d.t b).2];unfold b8.al;simp
theorem cw.marked (h:cw a S W m Y G)(b:cI a S.s){s:ct}{q:List bZ}(n:fE (S.s.j0 a) s q)(hq:∀e∈W.wt,we m e∈q):fG W.T W.wt (fun i=>cH W.T i/\s.f (m i)≠-1):=by
 intro i _ C v D f;obtain⟨hi,t⟩:=C;have hk:mS (S.s.j0 a) s (m i):=by
  rcases n.jE.cmp _ (h.memT b hi) t with c|c|c
  ·rw[n.td] at c;cases c
  ·exact absurd c id
  ·exact c
 obtain⟨j,E,_⟩:=h.parts hi;have j:pk ((S.s.j0 a).ld (m i))=(W.T.getD i t0).1:=j;rcases D with⟨c,hm⟩|⟨c,e⟩|⟨c,F,e⟩|⟨c,l,he,L,H⟩
 ·obtain⟨k,M,_,I⟩:=h.field hi hm;have d:=h.fv i hi v hm;refine⟨(d.t f).2,(h.n6 b s d f).1 ?_⟩
  have:=hk.p (by rw[j];exact c) k (by show(k:Int)<pf (ld a.N S.s.y S.s.g S.s.ws (m i));rw[E];omega)
  have e:(S.s.j0 a).ld (m i+1+k)=wv m v:=I;rw[e] at this
  exact this
 ·have hl:=h.two hi (aI (aJ c))
  have hm:v∈(W.T.getD i t0).2.1:=by rw[e];exact getD_in V
  have d:=h.fv i hi v hm;refine⟨(d.t f).2,(h.n6 b s d f).1 ?_⟩
  have:=hk.w (by rw[j];exact c)
  have p:(S.s.j0 a).ld (m i+2)=wv m v:=by exact Ax
  rw[p] at this
  exact this
 ·have hl:=h.two hi (aI (aI c))
  have hm:v∈(W.T.getD i t0).2.1:=by rw[e];exact getD_in V
  have d:=h.fv i hi v hm;refine⟨(d.t f).2,(h.n6 b s d f).1 ?_⟩
  have p:(S.s.j0 a).ld (m i+2)=wv m v:=by exact Ax
  have eT:(S.s.j0 a).ld (m i+1)=wv m ((W.T.getD i t0).2.1.getD 0 (0,0)):=by
   have:=h.fd i hi 0 V;show ld a.N S.s.y S.s.g S.s.ws (m i+1)=_;rw[<-this]
   congr 1
   omega
  rcases hk.e (by rw[j];exact c) with o|o
  ·have g:=n.ep _ o;rw[eT] at g;have u:=h.fv i hi _ (getD_in (x:=((0,0):Int×Int)) (show 0<(W.T.getD i t0).2.1.length by omega))
   have w:(S.s.j0 a).jt (wv m ((W.T.getD i t0).2.1.getD 0 (0,0)))=true:=by unfold b8.cQ at g;rw[ba] at g;exact g.1
   rw[h.jt b u] at w;have A:((W.T.getD i t0).2.1.getD 0 (0,0)).1=3:=by simpa using w
   have:=(h.n6 b s u A).2 (F A).2;rw[this] at g;cases g
  ·rw[p] at o;exact o
 ·have B:=h.dz l he;have J:l.1.toNat=i:=V;have K:v.2.toNat=l.2.toNat:=by rw[H]
  rw[K];refine⟨B.h,(h.al b s B.h).1 ?_⟩
  rcases n.wq _ (hq l he) with c|c
  ·exact c
  ·exfalso;have:=(h.al b s hi).2 t;have c:(S.s.j0 a).al s (ew 3 (m l.1.toNat))=false:=c;rw[J,this] at c;cases c
def gW (W:cj)(m:Nat->Int)(X:Nat->Prop)(c:Int):Prop:=∃i,cH W.T i/\m i=c/\X i
theorem cw.l7 (h:cw a S W m Y G){X:Nat->Prop}{i:Nat}(hi:cH W.T i):gW W m X (m i)↔X i:=
 ⟨fun⟨j,c,e,b⟩=>by rw[<-h.inj j i c hi e];exact b,fun b=>⟨i,hi,rfl,b⟩⟩
theorem cw.closed (h:cw a S W m Y G)(f:cI a S.s){X:Nat->Prop}(A:fG W.T W.wt X)(D:∀v∈W.rs,v.1=3->X v.2.toNat):m2 (S.s.j0 a) (gW W m X)/\pA (S.s.j0 a) (gW W m X) (W.wt.map (we m)):=by
 have key:∀{i:Nat}{v:Int×Int},cH W.T i->X i->dM W.T v->f3 W.T W.wt X i v->(S.s.j0 a).jt (wv m v)=true->gW W m X (cf (wv m v)):=fun {i v} hi g l hk d=>by
  rw[h.jt f l] at d;have n:v.1=3:=by simpa using d
  rw[(h.vt f l n).2];exact⟨_,(l.t n).2,rfl,A i hi.1 g v hk n⟩
 have fl:∀{i:Nat},cH W.T i->∀k:Nat,(k:Int)<pf ((S.s.j0 a).ld (m i))->k<(W.T.getD i t0).2.1.length:=fun {i} hi k hk=>by have hk:(k:Int)<pf (ld a.N S.s.y S.s.g S.s.ws (m i)):=hk;rw[(h.parts hi).2.1] at hk;omega
 have kd:∀{i:Nat},cH W.T i->pk ((S.s.j0 a).ld (m i))=(W.T.getD i t0).1:=fun {i} hi=>(h.parts hi).1;have t:∀{i:Nat},cH W.T i->(W.T.getD i t0).2.1.length=2->(S.s.j0 a).ld (m i+2)=wv m ((W.T.getD i t0).2.1.getD 1 (0,0))/\(S.s.j0 a).ld (m i+1)=wv m ((W.T.getD i t0).2.1.getD 0 (0,0)):=fun {i} hi hl=>by
  constructor
  ·show ld a.N S.s.y S.s.g S.s.ws (m i+2)=_;rw[<-(h.fd i hi 1 V)]
   congr 1
   omega
  ·show ld a.N S.s.y S.s.g S.s.ws (m i+1)=_;rw[<-(h.fd i hi 0 V)]
   congr 1
   omega
 refine⟨⟨fun i hi d=>?_,fun c hc p hk i hi d=>?_,fun c hc p hk d=>?_,fun c hc p hk B d=>?_⟩,fun e he hg d=>?_⟩
 ·obtain⟨er,l⟩:=h.root hi;have er:(S.s.j0 a).s.rs.getD i 0=wv m (W.rs.getD i (0,0)):=er;rw[er] at d⊢;rw[h.jt f l] at d;have n:(W.rs.getD i (0,0)).1=3:=by simpa using d
  rw[(h.vt f l n).2];exact⟨_,(l.t n).2,rfl,D _ (getD_in (by rw[h.rl];exact hi)) n⟩
 ·obtain⟨j,b,rfl,g⟩:=p;have hl:=fl b i hi;have E:(S.s.j0 a).ld (m j+1+i)=wv m ((W.T.getD j t0).2.1.getD i (0,0)):=h.fd j b i hl;rw[E] at d⊢;rw[kd b] at hk;exact key b g (h.fv j b _ (getD_in hl)) (aJ ⟨hk,getD_in hl⟩) d
 ·obtain⟨j,b,rfl,g⟩:=p;rw[kd b] at hk;have hl:=h.two b (aI (aJ hk))
  rw[(t b hl).1] at d⊢;exact key b g (h.fv j b _ (getD_in V)) (aI (aJ ⟨hk,rfl⟩)) d
 ·obtain⟨j,b,rfl,g⟩:=p;rw[kd b] at hk;have hl:=h.two b (aI (aI hk))
  rw[(t b hl).1] at d⊢;rw[(t b hl).2] at B;have u:=h.fv j b _ (getD_in (x:=((0,0):Int×Int)) (show 0<(W.T.getD j t0).2.1.length by omega))
  refine key b g (h.fv j b _ (getD_in V)) (aI (aI (aJ ⟨hk,fun w=>?_,rfl⟩))) d;have q:=B (by rw[h.jt f u];simpa using w)
  rw[(h.vt f u w).2] at q;exact(h.l7 (u.t w).2).1 q
 ·obtain⟨s,C,rfl⟩:=List.mem_map.1 he;have o:=h.dz s C;obtain⟨g1,g2⟩:=h.kc f o.g;obtain⟨H,F⟩:=h.kc f o.h;have q:=hg g1;have q:gW W m X (cf (ew 3 (m s.1.toNat))):=q;rw[g2] at q;show gW W m X (cf (ew 3 (m s.2.toNat)))
  rw[F];exact⟨_,o.h,rfl,A _ o.g.1 ((h.l7 o.g).1 q) (3,s.2) (aI (aI (aI ⟨o.k,s,C,by have:=o.g0;omega,rfl⟩))) rfl⟩
structure Rg (a:Wc)(S:ck)(W:cj)(m:Nat->Int)(t:ct×List bZ)(L:List Bool)(C:List bZ):Prop where
 dv:fE (S.s.j0 a) t.1 t.2
 sn:dH (S.s.j0 a) (fun _=>True) t.1
 ok:fR W.T L
 f5:∀i,cH W.T i->(t.1.f (m i)≠-1↔cu L i)
 q:t.2=(W.wt++C).map (we m)
 c:∀e∈C,e∈W.rg/\cu L e.2.toNat
 r:∀v∈W.rs,v.1=3->cu L v.2.toNat
theorem Rg.is (f:cw a S W m Y G)(g:cI a S.s){t:ct×List bZ}{L:List Bool}{C:List bZ}(h:Rg a S W m t L C){x:Int}(d:cH W.T x.toNat):(S.s.j0 a).al t.1 (ew 3 (m x.toNat))=cD L x:=by
 unfold cD;have e:=f.al g t.1 d;have b:=h.f5 _ d;unfold cu at b;cases c:L.getD x.toNat false
 ·rw[Bool.eq_false_iff];intro i;have:=b.1 (e.1 i)
  rw[c] at this
  cases this
 ·exact e.2 (b.2 c)
theorem Rg.uA (b:cw a S W m Y G)(d:cI a S.s){g:List Bool->List Bool}(hg:d9 W.T W.wt g):nJ (S.s.j0 a).fu g (we m) W.rg (Rg a S W m):=by
 refine⟨fun t L C e h he B=>?_,fun t L C e h he hy=>?_⟩
 ·have f:=b.gv e he;rw[<-Rg.is b d h f.g] at B;exact nu (o:=dK ct) (is:=fun s x=>(S.s.j0 a).al s.1 x) (kp:=(S.s.j0 a).ke) (s:=t) (e:=we m e) B
 ·have f:=b.gv e he;rw[<-Rg.is b d h f.g] at hy;obtain⟨k1,M,D,N⟩:=h.dv.jE.ke (t:=t) (ew 3 (m e.2.toNat))
  have E:(S.s.j0 a).fu t (we m e)=(true,(((S.s.j0 a).ke t (ew 3 (m e.2.toNat))).2.1,t.2++[we m e])):=by refine(ny (o:=dK ct) (is:=fun s x=>(S.s.j0 a).al s.1 x) (kp:=(S.s.j0 a).ke) (s:=t) (e:=we m e) hy).trans ?_;show(true,(((S.s.j0 a).ke t (ew 3 (m e.2.toNat))).2.1,((S.s.j0 a).ke t (ew 3 (m e.2.toNat))).2.2++[we m e]))=_;rw[D]
  have F:=(h.dv.cm (we m e)).1;rw[E] at F;rw[E];obtain⟨o1,ad,ag⟩:=h.ok.put f.h;have H:=hg _ o1.len o1.al;obtain⟨n1,I,O⟩:=h.ok.d4 hg b.iv f.h;have n:=O;obtain⟨c1,c2⟩:=b.closed d H.cl (fun v u w=>n _ (h.r v u w))
  have c3:pA (S.s.j0 a) (gW W m (cu (d4 g L e.2))) t.2:=by
   rw[h.q,bA];intro x p;rcases List.mem_append.1 p with k|k
   ·exact c2 x k
   ·obtain⟨A,P,rfl⟩:=List.mem_map.1 k;obtain⟨Q,R⟩:=h.c A P;have J:=b.gv A Q;intro _ _;show gW W m _ (cf (ew 3 (m A.2.toNat)))
    rw[(b.kc d J.h).2];exact⟨_,J.h,rfl,n _ R⟩
  have s0:dH (S.s.j0 a) (gW W m (cu (d4 g L e.2))) t.1:=⟨fun c hc l=>by obtain⟨i,hi,rfl⟩:=b.uz d hc;exact⟨i,hi,rfl,n i ((h.f5 i hi).1 l)⟩,h.sn.ea⟩
  have s1:=dH.ke c1 c3 s0 h.dv.jE (ew 3 (m e.2.toNat)) (fun _=>by rw[(b.kc d f.h).2];exact⟨_,f.h,rfl,I⟩)
  refine⟨rfl,F,⟨fun _ _ _=>trivial,s1.ea⟩,n1,fun i hi=>⟨fun l=>?_,fun U=>?_⟩,?_,fun x p=>?_,fun v u w=>n _ (h.r v u w)⟩
  ·exact(b.l7 hi).1 (s1.snd _ (b.memT d hi) l)
  ·have X:=b.marked d k1 (fun x p=>by rw[D,h.q];exact List.mem_map_of_mem (aZ _ p))
   refine(H.lt _ X (fun j q=>?_) i U).2;have K:=o1.al j q;refine⟨K,?_⟩
   unfold cu at q;rw[kn _ _ _ (by rw[h.ok.len];exact f.h.1)] at q;split at q
   ·rename_i ab;rw[<-ab];exact(b.al d _ f.h).1 N
   ·have l:=(h.f5 j K).2 q;rw[M.f _ l];exact l
  ·show t.2++[we m e]=_;rw[h.q,<-bj,bA (l₁:=W.wt++C)];rfl
  ·rcases List.mem_append.1 p with k|k
   ·exact⟨(h.c x k).1,n _ (h.c x k).2⟩
   ·rw[List.mem_singleton.1 k];exact⟨he,I⟩
theorem Rg.start (b:cw a S W m Y G)(c:cI a S.s){g:List Bool->List Bool}(hg:d9 W.T W.wt g):Rg a S W m (S.j2 a) (W.c0 g true) []:=by
 have u:=cU.start c.n1 c.o1 c.y1 c.g1;obtain⟨m1,_,E⟩:=(cZ.start u).cJ 12;obtain⟨d,F,f⟩:=cZ.sp (t:=((S.s.j0 a).cJ gF 12,S.q)) m1;have f:(S.j2 a).2=S.q:=f;have l:=b.first true;have w:=hg _ l.len l.al;obtain⟨n1,H⟩:=hg.ok b.iv l;have A:_:=fun v o p=>H _ ((lL _ _ _ _).2 ⟨((b.rv v o).t p).2.1,aI ⟨v,o,p,rfl⟩⟩)
 obtain⟨c1,c2⟩:=b.closed c w.cl A;rw[<-b.wt] at c2;have cJ:∀n,n<=12->dH (S.s.j0 a) (gW W m (cu (W.c0 g true))) ((S.s.j0 a).cJ gF n):=fun n=>by
  induction n with
  |zero=>
   intro _;show dH _ _ gF;exact⟨fun _ _ q=>absurd rfl q,fun _ ha=>by simp[gF] at ha⟩
  |succ n I=>
   intro M;obtain⟨m1,_⟩:=(cZ.start (X:=fun _=>False) u).cJ n;exact(I V).ma _ (c1.rt n V) (m1.ma _).2.1
 have s1:dH (S.s.j0 a) (gW W m (cu (W.c0 g true))) (S.j2 a).1:=dH.cV c1 _ ((S.s.j0 a).cJ gF 12,S.q) c2 (cJ 12 bW) m1;have d:fE (S.s.j0 a) (S.j2 a).1 (S.j2 a).2:=d;refine⟨d,⟨fun _ _ _=>trivial,s1.ea⟩,n1,fun i hi=>⟨fun q=>(b.l7 hi).1 (s1.snd _ (b.memT c hi) q),fun J=>?_⟩,?_,fun e he=>(by cases he),A⟩
 ·refine(w.lt _ (b.marked c d (fun x K=>by rw[f,b.wt];exact List.mem_map_of_mem K)) (fun j B=>?_) i J).2;refine⟨l.al j B,?_⟩
  obtain⟨_,s⟩:=(lL _ _ _ _).1 B;rcases s with⟨_,_,s⟩|⟨v,o,p,e⟩
  ·cases s
  ·obtain⟨k,hk,eT⟩:=List.mem_iff_getElem.1 o;have C:k<12:=by rw[<-b.rl];exact hk
   obtain⟨er,D⟩:=b.root C;have L:W.rs.getD k (0,0)=v:=by rw[aC,aG hk,eT];rfl
   rw[L] at er D;have j0:=E k C;have er:(S.s.j0 a).s.rs.getD k 0=wv m v:=er;rw[er] at j0;rw[<-e];exact(b.n6 c _ D p).1 (F.cQ j0)
 ·rw[f,b.wt,List.append_nil]
theorem Rg.settled (b:cw a S W m Y G)(c:cI a S.s){g:List Bool->List Bool}(hg:d9 W.T W.wt g):Rg a S W m (S.cy a,((S.s.j0 a).eO (S.j2 a) S.r).2) (W.cR g true).1 (W.cR g true).2.1:=by
 have h0:=Rg.start b c hg;have d:S.r.filter (fun e=>!(S.s.j0 a).al (S.j2 a).1 e.2)=(W.rg.filter (fun e=>!cD (W.c0 g true) e.2)).map (we m):=by rw[b.rg];exact kY _ _ _ W.rg (fun e he=>by show(!(S.s.j0 a).al _ (ew 3 (m e.2.toNat)))=_;rw[Rg.is b c h0 (b.gv e he).h])
 obtain⟨f,_⟩:=(Rg.uA b c hg).turns _ (W.rg.filter (fun e=>!cD _ e.2)) (S.j2 a) _ [] (fun e he=>(List.mem_filter.1 he).1) h0;have i:eD (S.s.j0 a).fu ((S.r.filter (fun e=>!(S.s.j0 a).al (S.j2 a).1 e.2)).length+1) (S.j2 a) (S.r.filter (fun e=>!(S.s.j0 a).al (S.j2 a).1 e.2))=eD (S.s.j0 a).fu (W.rg.length+1) (S.j2 a) ((W.rg.filter (fun e=>!cD (W.c0 g true) e.2)).map (we m)):=by rw[d];have hl:=bk (fun e=>!cD (W.c0 g true) e.2) W.rg;exact s3 _ _ _ _ _ V (by rw[aQ];omega)
 have j:(S.s.j0 a).eO (S.j2 a) S.r=(eD (S.s.j0 a).fu (W.rg.length+1) (S.j2 a) ((W.rg.filter (fun e=>!cD (W.c0 g true) e.2)).map (we m))).1:=by rw[<-i];rfl
 have k:(S.cy a,((S.s.j0 a).eO (S.j2 a) S.r).2)=(S.s.j0 a).eO (S.j2 a) S.r:=rfl;rw[k,j];exact f
end
section
variable {a:Wc}{S:ck}{W:cj}{m:Nat->Int}{Y G D:List Int}
theorem cw.fO (h:cw a S W m Y G)(b:cI a S.s):(S.s.k0 a).T=Y:=n3 h.kv.inv.full b.n1 b.y1 b.o1 b.g1
theorem cw.jL (h:cw a S W m Y G)(b:cI a S.s){v:Int}(c:v∈Y):v∉G:=fun d=>by have q1:=h.kv.inv.full.ii v c;have e:=h.kv.inv.full.io v d;have:=b.y1;omega
theorem cw.n7 (h:cw a S W m Y G)(b:cI a S.s){i:Nat}(hi:cH W.T i):(S.s.k0 a).cK (ew 3 (m i))=true↔m i∈Y:=by obtain⟨_,c,w3⟩:=h.word b hi;unfold ca.cK;rw[c,w3,h.fO b];simp
theorem cw.rh (h:cw a S W m Y G)(b:cI a S.s){v:Int×Int}(c:dM W.T v)(hy:(S.s.k0 a).cK (wv m v)=true):v.1=3/\cf (wv m v)=m v.2.toNat:=by
 have d:cX (wv m v)=true:=by unfold ca.cK at hy;rw[ba] at hy;exact hy.1
 rw[h.ut b c] at d;have e:v.1=3:=by simpa using d
 exact⟨e,(h.vt b c e).2⟩
theorem cw.jM (h:cw a S W m Y G)(d:cI a S.s)(s:ch){i:Nat}(hi:cH W.T i):(S.s.k0 a).al s (ew 3 (m i))=true↔(m i∈G\/s.f (m i)≠-1):=by
 have hy:=h.n7 d hi;obtain⟨_,_,w3⟩:=h.word d hi;unfold ca.al ca.ls;rw[w3];rcases h.mem hi with b|b
 ·rw[hy.2 b];have:=h.jL d b;simp[this]
 ·have:(S.s.k0 a).cK (ew 3 (m i))=false:=by rw[Bool.eq_false_iff];intro c;exact h.jL d (hy.1 c) b
  rw[this];simp[b]
theorem cw.HU (h:cw a S W m Y G)(d:cI a S.s){s:ch}{i:Nat}(hi:cH W.T i)(hs:(S.s.k0 a).al s (ew 3 (m i))=true):∃b,(S.s.k0 a).or (S.s.z0 G) s (m i) b:=by
 rcases(h.jM d s hi).1 hs with c|c
 ·exact⟨m i,aJ ⟨rfl,c⟩⟩
 ·rcases h.mem hi with e|e
  ·exact⟨s.f (m i),aI ⟨by rw[h.fO d];exact e,rfl,c⟩⟩
  ·exact⟨m i,aJ ⟨rfl,e⟩⟩
def pD (a:Wc)(S:ck)(G D:List Int):Prop:=∀v∈G,v∉D->∀i,0<=i->i<pf ((S.s.k0 a).l0 (S.s.z0 G) v)->(S.s.k0 a).cK ((S.s.k0 a).l0 (S.s.z0 G) (v+1+i))=false
theorem cw.uB (h:cw a S W m Y G)(d:cI a S.s)(hc:pD a S G D){q0:List bZ}{t:ch×List bZ}(g:kO (S.s.k0 a) (S.s.z0 G) D q0 t)(hq:∀e∈W.wt,∃n,n<q0.length/\q0.getD n (0,0)=we m e):
 fG W.T W.wt (fun i=>cH W.T i/\(S.s.k0 a).al t.1 (ew 3 (m i))=true):=by
 obtain⟨H,li,a3⟩:=g.li;have hz:∀v,(v∈(S.s.k0 a).T\/v∈(S.s.z0 G).G)->∀i,0<=i->i<pf ((S.s.k0 a).l0 (S.s.z0 G) v)->cX ((S.s.k0 a).l0 (S.s.z0 G) (v+1+i))=true->cf ((S.s.k0 a).l0 (S.s.z0 G) (v+1+i))∈(S.s.k0 a).T\/cf ((S.s.k0 a).l0 (S.s.z0 G) (v+1+i))∈(S.s.z0 G).G:=fun v A i R u ha=>by rw[h.fO d] at A⊢;exact h.kv.inv.fd v A i R u ha
 have told:∀{C x:Int}{j:Nat},cH W.T j->C=ew 3 (m j)->(S.s.k0 a).ml t.1 C x->(S.s.k0 a).al t.1 x=true->(S.s.k0 a).al t.1 (ew 3 (m j))=true:=fun {C x j} I k hm U=>by
  rcases hm with e|⟨_,B,_⟩
  ·rw[<-k,<-e];exact U
  ·rw[k,(h.word d I).2.2] at B;exact(h.jM d t.1 I).2 (aI B)
 intro i _ X v A l;obtain⟨hi,hs⟩:=X;obtain⟨b,o⟩:=h.HU d hi hs;have k:(S.s.k0 a).ld t.1 b=ld a.N S.s.y S.s.g S.s.ws (m i):=li.mi.hd _ _ o;obtain⟨J,ab,_⟩:=h.parts hi;have E:∀{n:Nat},n<(W.T.getD i t0).2.1.length->((W.T.getD i t0).2.1.getD n (0,0)).1=3->¬((W.T.getD i t0).1=3/\n=0)->¬((W.T.getD i t0).1=4/\b∈t.1.ep)->(S.s.k0 a).al t.1 (ew 3 (m ((W.T.getD i t0).2.1.getD n (0,0)).2.toNat))=true:=fun {n} f K n1 ad=>by
  have F:=h.fv i hi _ (getD_in (x:=((0,0):Int×Int)) f)
  have L:=(F.t K).2;have M:(S.s.k0 a).l0 (S.s.z0 G) (m i+1+n)=ew 3 (m ((W.T.getD i t0).2.1.getD n (0,0)).2.toNat):=(h.fd i hi n f).trans (h9 K)
  have u:(n:Int)<pf ((S.s.k0 a).l0 (S.s.z0 G) (m i)):=by
   show(n:Int)<pf (ld a.N S.s.y S.s.g S.s.ws (m i))
   omega
  have N:=li.mi.fd (m i) b o n (Int.natCast_nonneg n) u;refine told L M N ?_;rcases N with e|⟨y1,B,ag⟩
  ·rw[M] at e;have ha:cX ((S.s.k0 a).ld t.1 (b+1+n))=true:=by rw[e];exact(h.word d L).2.1
   have ai:(n:Int)<pf ((S.s.k0 a).ld t.1 b):=by rw[k,ab];omega
   rcases li.fields g.he hz hc (li.mi.mem o) (Int.natCast_nonneg n) ai ha with c|⟨c1,c2,_⟩|⟨c1,c2⟩
   ·exact q_ (li.mi.nZ c)
   ·rw[k,J] at c1;exact absurd ⟨c1,V⟩ n1
   ·rw[k,J] at c1;exact absurd ⟨c1,c2⟩ ad
  ·have al:=li.mi.iV (li.mi.fh _ (m5 y1) B)
   have bb:=li.mi.ci.hN';have bd:=li.mi.ci.hO;have be:=li.mi.ci.hg;rw[ag];exact q_ (mY li.mi.ci al.1 V)
 rcases A with⟨c,hm⟩|⟨c,e⟩|⟨c,ap,e⟩|⟨c,w,he,bg,ar⟩
 ·obtain⟨n,f,en,_⟩:=h.field hi hm;have F:=h.fv i hi v hm;refine⟨(F.t l).2,?_⟩
  have:=E f (by rw[en];exact l) (fun q=>by omega) (fun q=>by omega)
  rw[en] at this
  exact this
 ·have hl:=h.two hi (aI (aJ c))
  have hm:v∈(W.T.getD i t0).2.1:=by rw[e];exact getD_in V
  refine⟨((h.fv i hi v hm).t l).2,?_⟩
  have:=E (n:=1) V (by rw[<-e];exact l) (fun q=>by omega) (fun q=>by omega)
  rw[<-e] at this
  exact this
 ·have hl:=h.two hi (aI (aI c))
  have hm:v∈(W.T.getD i t0).2.1:=by rw[e];exact getD_in V
  refine⟨((h.fv i hi v hm).t l).2,?_⟩
  have O:=h.fv i hi _ (getD_in (x:=((0,0):Int×Int)) (show 0<(W.T.getD i t0).2.1.length by omega))
  have ax:b∉t.1.ep:=fun aF=>by
   have aR:b+1+0=b+1:=V;have u:(0:Int)<pf ((S.s.k0 a).l0 (S.s.z0 G) (m i)):=by
    show(0:Int)<pf (ld a.N S.s.y S.s.g S.s.ws (m i))
    omega
   have p:=g.ep b aF;rw[<-aR] at p;have eT:(S.s.k0 a).l0 (S.s.z0 G) (m i+1+0)=wv m ((W.T.getD i t0).2.1.getD 0 (0,0)):=h.fd i hi 0 V;rw[(li.mi.rf o (Int.le_refl 0) u (l6 p)),eT] at p;obtain⟨P,aT⟩:=h.rh d O (l6 p)
   have q1:=(ca.mN p).2.2;have s:=(ca.mN p).2.1;rw[aT] at q1 s;rw[h.fO d] at s;rcases(h.jM d t.1 (O.t P).2).1 (ap P).2 with w1|w1
   ·exact h.jL d s w1
   ·exact w1 q1
  have:=E (n:=1) V (by rw[<-e];exact l) (fun q=>by omega) (fun q=>ax q.2)
  rw[<-e] at this
  exact this
 ·have Q:=h.dz w he;have a0:w.1.toNat=i:=V;have a1:v.2.toNat=w.2.toNat:=by rw[ar]
  rw[a1];refine⟨Q.h,?_⟩
  obtain⟨n,f,en⟩:=hq w he;obtain⟨q1,s⟩:=g.q.eq n f;rw[en] at q1 s;have a2:t.2.getD n (0,0)∈t.2:=getD_in (by rw[g.q.len];exact f)
  refine told Q.h rfl s ?_;rcases g.wq _ a2 with w1|w1
  ·exact w1
  ·exfalso;have q1:(t.2.getD n (0,0)).1=ew 3 (m w.1.toNat):=q1;rw[q1,a0,hs] at w1;cases w1
theorem cw.Ay (h:cw a S W m Y G)(k:cI a S.s){X:Nat->Prop}(E:fG W.T W.wt X)(u:∀i,cH W.T i->(W.T.getD i t0).2.2.1=true->X i):kM (S.s.k0 a) (S.s.z0 G) (gW W m X):=by
 have key:∀{i:Nat}{v:Int×Int},cH W.T i->X i->dM W.T v->f3 W.T W.wt X i v->(S.s.k0 a).cK (wv m v)=true->gW W m X (cf (wv m v)):=fun {i v} hi g w hk f=>by obtain⟨A,e⟩:=h.rh k w f;rw[e];exact⟨_,(w.t A).2,rfl,E i hi.1 g v hk A⟩
 have kd:∀{i:Nat},cH W.T i->pk ((S.s.k0 a).l0 (S.s.z0 G) (m i))=(W.T.getD i t0).1/\pf ((S.s.k0 a).l0 (S.s.z0 G) (m i))=(W.T.getD i t0).2.1.length:=fun {i} hi=>⟨(h.parts hi).1,(h.parts hi).2.1⟩
 have p:∀{i:Nat},cH W.T i->∀{n:Nat},n<(W.T.getD i t0).2.1.length->(S.s.k0 a).l0 (S.s.z0 G) (m i+1+n)=wv m ((W.T.getD i t0).2.1.getD n (0,0)):=fun {i} hi {n} F=>h.fd i hi n F;refine⟨fun b B=>?_,fun c _ l hk i hi f=>?_,fun c _ l hk f=>?_,fun c _ l hk C f=>?_⟩
 ·obtain⟨i,hi,e⟩:=h.fV b (aI B)
  refine⟨i,hi,e,u i hi ?_⟩
  cases c:(W.T.getD i t0).2.2.1
  ·exact absurd (e▸B) (h.jL k (h.h8 i hi c))
  ·rfl
 ·obtain⟨j,d,rfl,g⟩:=l;rw[(kd d).2] at hi;have hl:i<(W.T.getD j t0).2.1.length:=V;rw[p d hl] at f⊢;rw[(kd d).1] at hk;exact key d g (h.fv j d _ (getD_in hl)) (aJ ⟨hk,getD_in hl⟩) f
 ·obtain⟨j,d,rfl,g⟩:=l;rw[(kd d).1] at hk;have hl:=h.two d (aI (aJ hk))
  have s:(S.s.k0 a).l0 (S.s.z0 G) (m j+1+1)=wv m ((W.T.getD j t0).2.1.getD 1 (0,0)):=p d (n:=1) V;rw[s] at f⊢;exact key d g (h.fv j d _ (getD_in V)) (aI (aJ ⟨hk,rfl⟩)) f
 ·obtain⟨j,d,rfl,g⟩:=l;rw[(kd d).1] at hk;have hl:=h.two d (aI (aI hk))
  have s:(S.s.k0 a).l0 (S.s.z0 G) (m j+1+1)=wv m ((W.T.getD j t0).2.1.getD 1 (0,0)):=p d (n:=1) V;have H:(S.s.k0 a).l0 (S.s.z0 G) (m j+1+0)=wv m ((W.T.getD j t0).2.1.getD 0 (0,0)):=p d (n:=0) V;rw[s] at f⊢;rw[H] at C;have D:=h.fv j d _ (getD_in (x:=((0,0):Int×Int)) (show 0<(W.T.getD j t0).2.1.length by omega))
  refine key d g (h.fv j d _ (getD_in V)) (aI (aI (aJ ⟨hk,fun t=>?_,rfl⟩))) f;have o:=(D.t t).2;rcases h.mem o with w1|w1
  ·have q:=C (by rw[h9 t];exact(h.n7 k o).2 w1)
   rw[(h.vt k D t).2] at q;exact(h.l7 o).1 q
  ·refine u _ o ?_;cases c:(W.T.getD _ t0).2.2.1
   ·exact absurd w1 (h.jL k (h.h8 _ o c))
   ·rfl
theorem cw.Az (h:cw a S W m Y G)(g:cI a S.s){X:Nat->Prop}(v:fG W.T W.wt X)(w:∀i,cH W.T i->(W.T.getD i t0).2.2.1=true->X i){C:List bZ}(k:∀e∈C,e∈W.rg/\X e.2.toNat){s:ch}{H:List Int}(mi:dE (S.s.k0 a) (S.s.z0 G) s H){q:List bZ}(hq:e7 (S.s.k0 a) s ((W.wt++C).map (we m)) q):kN (S.s.k0 a) (gW W m X) q:=by
 intro e he hg hy;obtain⟨n,l,en⟩:=List.mem_iff_getElem.1 he;have x:q.getD n (0,0)=e:=by rw[aC,aG l,en];rfl
 have j:n<((W.wt++C).map (we m)).length:=by rw[<-hq.len];exact l
 obtain⟨q1,o⟩:=hq.eq n j;have p:n<(W.wt++C).length:=by rw[aQ] at j;exact j
 rw[x,jK (we m) (W.wt++C) n (0,0) (0,0) p] at q1 o;have t:(W.wt++C).getD n (0,0)∈W.wt++C:=getD_in p;generalize (W.wt++C).getD n (0,0)=d at*;have b:im W.T d:=by
  rcases List.mem_append.1 t with f|f
  ·exact h.dz d f
  ·exact h.gv d (k d f).1
 have A:e.2=ew 3 (m d.2.toNat):=by
  rcases o with f|⟨y1,B,D⟩
  ·exact f
  ·have E:=mi.iV (mi.fh _ (m5 y1) B)
   have I:=mi.ci.hN';have J:=mi.ci.hO;have K:=mi.ci.hg;rw[D,mY mi.ci E.1 V] at hy;cases hy
 have u:e.1=ew 3 (m d.1.toNat):=q1;rw[A,(h.word g b.h).2.2];refine⟨_,b.h,rfl,?_⟩
 rcases List.mem_append.1 t with f|f
 ·have F:X d.1.toNat:=by
   rcases h.mem b.g with w1|w1
   ·have:=hg (by rw[u];exact(h.n7 g b.g).2 w1)
    rw[u,(h.word g b.g).2.2] at this
    exact(h.l7 b.g).1 this
   ·refine w _ b.g ?_;cases c:(W.T.getD _ t0).2.2.1
    ·exact absurd w1 (h.jL g (h.h8 _ b.g c))
    ·rfl
  exact v _ b.g.1 F (3,d.2) (aI (aI (aI ⟨b.k,d,f,by have:=b.g0;omega,rfl⟩))) rfl
 ·exact(k d f).2
structure i_ (a:Wc)(S:ck)(W:cj)(m:Nat->Int)(G D:List Int)(t:ch×List bZ)(L:List Bool)(C:List bZ):Prop where
 dv:kO (S.s.k0 a) (S.s.z0 G) D ((W.wt++C).map (we m)) t
 ok:fR W.T L
 f5:∀i,cH W.T i->((S.s.k0 a).al t.1 (ew 3 (m i))=true↔cu L i)
 c:∀e∈C,e∈W.rg/\cu L e.2.toNat
 r:∀v∈W.rs,v.1=3->cu L v.2.toNat
 o:∀i,cH W.T i->(W.T.getD i t0).2.2.1=true->cu L i
theorem i_.is {t:ch×List bZ}{L:List Bool}{C:List bZ}(h:i_ a S W m G D t L C){x:Int}(d:cH W.T x.toNat):(S.s.k0 a).al t.1 (ew 3 (m x.toNat))=cD L x:=by
 unfold cD;have b:=h.f5 _ d;cases c:L.getD x.toNat false
 ·rw[Bool.eq_false_iff];intro e;rw[b.1 e] at c;cases c
 ·exact b.2 c
theorem uC {C:List bZ}:∀e∈W.wt,∃n,n<((W.wt++C).map (we m)).length/\((W.wt++C).map (we m)).getD n (0,0)=we m e:=fun e he=>by
 obtain⟨n,b,en⟩:=List.mem_iff_getElem.1 he;refine⟨n,by rw[aQ,aW];omega,?_⟩
 rw[jK (we m) (W.wt++C) n (0,0) (0,0) (by rw[aW];omega),aC,List.getElem?_append_left b,aG b,en];rfl
theorem i_.uA (b:cw a S W m Y G)(f:cI a S.s)(hc:pD a S G D){g:List Bool->List Bool}(hg:d9 W.T W.wt g):nJ (cm (dK ch) (fun s x=>(S.s.k0 a).al s.1 x) (S.s.k0 a).ke) g (we m) W.rg (i_ a S W m G D):=by
 refine⟨fun t L C e h he w=>?_,fun t L C e h he hy=>?_⟩
 ·have k:=b.gv e he;rw[<-h.is k.g] at w;exact nu w
 ·have k:=b.gv e he;rw[<-h.is k.g] at hy;obtain⟨k1,J,K,M,k5⟩:=h.dv.ke _;rw[(ny (s:=t) hy)];obtain⟨o1,ab,ad⟩:=h.ok.put k.h;have A:=hg _ o1.len o1.al;obtain⟨n1,B,N⟩:=h.ok.d4 hg b.iv k.h;have E:=A.cl;have n:=N;have o:∀i,cH W.T i->(W.T.getD i t0).2.2.1=true->_:=fun i hi q=>n i (h.o i hi q)
  obtain⟨H,li,O⟩:=h.dv.li;have s0:c8 (S.s.k0 a) (gW W m (cu (d4 g L e.2))) t.1:=fun c F u=>by
   rw[b.fO f] at F;obtain⟨i,hi,rfl⟩:=b.fV c (aJ F)
   exact⟨i,hi,rfl,n i ((h.f5 i hi).1 ((b.jM f t.1 hi).2 (aI u)))⟩
  obtain⟨s1,_⟩:=c8.ke (b.Ay f E o) li O (b.Az f E o (fun x l=>⟨(h.c x l).1,n _ (h.c x l).2⟩) li.mi h.dv.q) s0 _ (fun _=>by rw[(b.word f k.h).2.2];exact⟨_,k.h,rfl,B⟩)
  have P:(W.wt++(C++[e])).map (we m)=(W.wt++C).map (we m)++[we m e]:=by rw[<-bj,bA];rfl
  refine⟨rfl,⟨k1.li,k1.cb,fun x l=>?_,k1.he,k1.ep,?_⟩,n1,fun i hi=>⟨fun u=>?_,fun Q=>?_⟩,fun x l=>?_,fun v R U=>n _ (h.r v R U),o⟩
  ·rcases List.mem_append.1 l with d|d
   ·exact k1.wq x d
   ·rw[List.mem_singleton.1 d];exact aJ (q_ M)
  ·rw[P];exact k1.q.snoc rfl (K _ (aJ rfl))
  ·rcases(b.jM f _ hi).1 u with d|d
   ·refine o i hi ?_;cases c:(W.T.getD i t0).2.2.1
    ·exact absurd d (b.jL f (b.h8 _ hi c))
    ·rfl
   ·rcases b.mem hi with w1|w1
    ·exact(b.l7 hi).1 (s1 _ (by rw[b.fO f];exact w1) d)
    ·refine o i hi ?_;cases c:(W.T.getD i t0).2.2.1
     ·exact absurd w1 (b.jL f (b.h8 _ hi c))
     ·rfl
  ·refine(A.lt _ (b.uB f hc k1 uC) (fun j p=>?_) i Q).2;have I:=o1.al j p;refine⟨I,?_⟩
   unfold cu at p;rw[kn _ _ _ (by rw[h.ok.len];exact k.h.1)] at p;split at p
   ·rename_i X;rw[<-X];exact k5
   ·exact pB J ((h.f5 j I).2 p)
  ·rcases List.mem_append.1 l with d|d
   ·exact⟨(h.c x d).1,n _ (h.c x d).2⟩
   ·rw[List.mem_singleton.1 d];exact⟨he,B⟩
end
section
variable {a:Wc}{S:ck}{W:cj}{m:Nat->Int}{Y G D:List Int}
theorem cw.HV (h:cw a S W m Y G)(b:cI a S.s){i:Nat}(hi:cH W.T i)(d:m i∈G):(W.T.getD i t0).2.2.1=true:=by
 cases c:(W.T.getD i t0).2.2.1
 ·exact absurd d (h.jL b (h.h8 _ hi c))
 ·rfl
theorem i_.start (b:cw a S W m Y G)(hb:cI a S.s)(aT:S.s.y<=a.O-S.s.g){g:List Bool->List Bool}(hg:d9 W.T W.wt g):∃D,pD a S G D/\i_ a S W m G D (S.t3 a) (W.c0 g false) []:=by
 have h:=b.kv;have O:=b.fO hb;have E:=LI.start h.inv.full hb.n0 hb.n1 hb.o1 hb.y1 hb.g1 hb.l1 aT;have Q:12<=(S.s.s0 a).rs.length:=by show 12<=S.s.rs.length;rw[hb.r1];exact aA _
 obtain⟨H1,o,aV,⟨bp,a0⟩,l1,y1,_,m1⟩:=E.cJ 12 Q;have R:dw a.N S.s.y (S.s.s1 a).g (S.s.s1 a).ws=G++H1:=(o.mi.full.lists hb.n1 hb.y1 hb.o1 o.mi.ci.hg).2;have a1:(S.s.s1 a).nx=((S.s.k0 a).N:Int)+(S.s.z0 G).g:=(lj (S.s.k0 a) (S.s.s0 a) 12).2.2;have U:d5 ((S.s.k0 a).l0 (S.s.z0 G)) (((S.s.k0 a).N:Int)+(S.s.z0 G).g) (S.s.k0 a).N (S.s.z0 G).G:=h.inv.full.ee;have hlo:∀x∈G++H1,x∈(S.s.z0 G).G\/((S.s.k0 a).N:Int)+(S.s.z0 G).g<=x:=fun x a2=>(List.mem_append.1 a2).imp id (fun f=>o.mi.hlo x f)
 obtain⟨F,u,H,X,ab,⟨br,bs⟩,_,hD⟩:=LI.pu (dU a.O) S.s.M U (G++H1) o ((dL.start a S.s G).cJ E.mi 12 o.mi aV ⟨_,a0⟩) hlo;have a3:(G++H1).foldl ((S.s.k0 a).ga (((S.s.k0 a).N:Int)+(S.s.z0 G).g) (dU a.O) S.s.M) ((S.s.k0 a).cJ (S.s.s0 a) 12)=S.s.s2 a:=by unfold ec.s2 ca.lm;rw[R,a1];rfl
 have hlen:=qY (S.s.k0 a) (((S.s.k0 a).N:Int)+(S.s.z0 G).g) (dU a.O) S.s.M (G++H1) ((S.s.k0 a).cJ (S.s.s0 a) 12)
 have A:=b.first false;have ad:=hg _ A.len A.al;obtain⟨n1,ag⟩:=hg.ok b.iv A;have ai:=ad.cl;have B:∀i,cH W.T i->(W.T.getD i t0).2.2.1=true->_:=fun i hi q=>ag i ((lL _ _ _ _).2 ⟨hi.1,aJ ⟨q,hi.2,rfl⟩⟩)
 have al:_:=fun v d n=>ag _ ((lL _ _ _ _).2 ⟨((b.rv v d).t n).2.1,aI ⟨v,d,n,rfl⟩⟩)
 have ap:=b.Ay hb ai B;have bb:c8 (S.s.k0 a) (gW W m (cu (W.c0 g false))) (S.s.s0 a):=fun _ _ I=>absurd rfl I;have bd:=c8.cJ E bb (fun i hi hy=>by
  have hi:i<12:=by rw[<-hb.r1];exact hi
  obtain⟨er,d⟩:=b.root hi;have er:(S.s.s0 a).rs.getD i 0=wv m (W.rs.getD i (0,0)):=er;rw[er] at hy⊢;obtain⟨n,ev⟩:=b.rh hb d hy;rw[ev];exact⟨_,(d.t n).2,rfl,al _ (getD_in (by rw[b.rl];exact hi)) n⟩) 12 Q
 have ar:=c8.lm ap (dU a.O) S.s.M U (G++H1) o hlo bd;rw[a3] at H X ab hlen ar;have bt:(G++H1).length<=2000:=by rw[<-R];exact iz _ _
 obtain⟨q1,q2,q3⟩:=lj _ _ 12;have cb:ei (S.s.k0 a) (S.s.s2 a):=by exact uh
 have ax:pD a S G u:=fun v d be i bg bi=>by
  cases hc:(S.s.k0 a).cK _
  ·rfl
  ·exfalso;unfold ca.cK at hc;rw[ba,O] at hc;have hm:=h.cd v d i bg bi hc.1 (List.contains_iff_mem.1 hc.2)
   exact be (hD v (aZ _ d) d hm)
 have bl:S.q=(W.wt++[]).map (we m):=by rw[List.append_nil];exact b.wt
 have aB:e7 (S.s.k0 a) (S.s.s2 a) ((W.wt++[]).map (we m)) S.q:=by rw[<-bl];exact e7.refl _ _
 have J:=b.Az hb ai B (fun e he=>(by cases he)) H.mi aB;have key:∀s2:ch,LI (S.s.k0 a) (S.s.z0 G) s2 F u->dL (S.s.k0 a) (S.s.z0 G) s2 F->ei (S.s.k0 a) s2->e7 (S.s.k0 a) s2 ((W.wt++[]).map (we m)) S.q->c8 (S.s.k0 a) (gW W m (cu (W.c0 g false))) s2->kN (S.s.k0 a) (gW W m (cu (W.c0 g false))) S.q->
  kO (S.s.k0 a) (S.s.z0 G) u ((W.wt++[]).map (we m)) ((S.s.k0 a).sp (s2,S.q))/\df (S.s.k0 a) s2 ((S.s.k0 a).sp (s2,S.q)).1/\c8 (S.s.k0 a) (gW W m (cu (W.c0 g false))) ((S.s.k0 a).sp (s2,S.q)).1:=fun s2 l w c e sn J=>by
  obtain⟨p,K⟩:=kO.sp (t:=(s2,S.q)) l w c e;exact⟨p,K,(c8.cV ap _ (s2,S.q) F l w J sn).1⟩
 obtain⟨p,K,L⟩:=key _ H X cb aB ar J;have p:=p;have L:c8 (S.s.k0 a) (gW W m (cu (W.c0 g false))) (S.t3 a).1:=L;refine⟨u,ax,p,n1,fun i hi=>⟨fun I=>?_,fun bn=>?_⟩,fun e he=>(by cases he),al,B⟩
 ·rcases b.mem hi with w1|w1
  ·rcases(b.jM hb _ hi).1 I with f|f
   ·exact absurd f (b.jL hb w1)
   ·exact(b.l7 hi).1 (L _ (by rw[O];exact w1) f)
  ·exact B i hi (b.HV hb hi w1)
 ·refine(ad.lt _ (b.uB hb ax p uC) (fun j aF=>?_) i bn).2;have C:=A.al j aF;refine⟨C,?_⟩
  obtain⟨_,M⟩:=(lL _ _ _ _).1 aF;rcases M with⟨M,_,_⟩|⟨v,d,n,e⟩
  ·exact(b.jM hb _ C).2 (aJ (b.old j C M))
  ·obtain⟨k,hk,eT⟩:=List.mem_iff_getElem.1 d;have N:k<12:=by rw[<-b.rl];exact hk
   obtain⟨er,bo⟩:=b.root N;have ev:W.rs.getD k (0,0)=v:=by rw[aC,aG hk,eT];rfl
   rw[ev] at er bo;have s:cH W.T v.2.toNat:=by rw[e];exact C
   refine pB (ab.trans K) ?_;rw[<-e];rcases b.mem s with w1|w1
   ·have hm:=m1 k N;have er:(S.s.s0 a).rs.getD k 0=wv m v:=er;rw[er,h9 n] at hm;rcases hm with f|⟨_,aR,_⟩
    ·have:=y1 k N;rw[f,((b.n7 hb s).2 w1)] at this
     cases this
    ·rw[(b.word hb s).2.2] at aR;exact(b.jM hb _ s).2 (aI aR)
   ·exact(b.jM hb _ s).2 (aJ w1)
theorem i_.settled (b:cw a S W m Y G)(c:cI a S.s)(hc:pD a S G D){g:List Bool->List Bool}(hg:d9 W.T W.wt g)(h0:i_ a S W m G D (S.t3 a) (W.c0 g false) []):i_ a S W m G D (S.s4 a,((S.s.k0 a).eO (S.t3 a) S.r).2) (W.cR g false).1 (W.cR g false).2.1:=by
 have d:S.r.filter (fun e=>!(S.s.k0 a).al (S.t3 a).1 e.2)=(W.rg.filter (fun e=>!cD (W.c0 g false) e.2)).map (we m):=by rw[b.rg];exact kY _ _ _ W.rg (fun e he=>by show(!(S.s.k0 a).al _ (ew 3 (m e.2.toNat)))=_;rw[h0.is (b.gv e he).h])
 obtain⟨f,_⟩:=(i_.uA b c hc hg).turns _ (W.rg.filter (fun e=>!cD _ e.2)) (S.t3 a) _ [] (fun e he=>(List.mem_filter.1 he).1) h0;have i:eD (cm (dK ch) (fun s x=>(S.s.k0 a).al s.1 x) (S.s.k0 a).ke) ((S.r.filter (fun e=>!(S.s.k0 a).al (S.t3 a).1 e.2)).length+1) (S.t3 a) (S.r.filter (fun e=>!(S.s.k0 a).al (S.t3 a).1 e.2))=eD (cm (dK ch) (fun s x=>(S.s.k0 a).al s.1 x) (S.s.k0 a).ke) (W.rg.length+1) (S.t3 a) ((W.rg.filter (fun e=>!cD (W.c0 g false) e.2)).map (we m)):=by rw[d];have hl:=bk (fun e=>!cD (W.c0 g false) e.2) W.rg;exact s3 _ _ _ _ _ V (by rw[aQ];omega)
 have j:(S.s.k0 a).eO (S.t3 a) S.r=(eD (cm (dK ch) (fun s x=>(S.s.k0 a).al s.1 x) (S.s.k0 a).ke) (W.rg.length+1) (S.t3 a) ((W.rg.filter (fun e=>!cD (W.c0 g false) e.2)).map (we m))).1:=by rw[<-i];rfl
 have k:(S.s4 a,((S.s.k0 a).eO (S.t3 a) S.r).2)=(S.s.k0 a).eO (S.t3 a) S.r:=rfl;rw[k,j];exact f
end
section
variable {k:ca}{z:C0}{s t:ch}{H D:List Int}
def ca.cA (k:ca)(s:ch)(x:Int):Int:=if k.ls s x=true then 3 else k.nw s x
theorem AA {s t:ch}(b:t.f=s.f)(x:Int):k.ls t x=k.ls s x/\k.nw t x=k.nw s x:=by unfold ca.ls ca.nw;rw[b];exact⟨rfl,rfl⟩
def Fo (k:ca)(s:ch):Prop:=∀a∈k.T,s.f a≠-1->(k.N:Int)<=s.f a/\s.f a<1000000
theorem dE.dh (h:dE k z s H):Fo k s:=fun a ha b=>by
 have c:=h.iV (h.fh a ha b)
 have n1:=h.ci.hN';have d:=h.ci.hO;have e:=h.ci.hg;exact⟨c.1,V⟩
theorem n8 {x:Int}(h:k.cK x=false):k.nw s x=x:=by unfold ca.nw;rw[h];simp
theorem rj {x:Int}(h:k.cK x=true)(b:s.f (cf x)≠-1):k.nw s x=ew 3 (s.f (cf x)):=by unfold ca.nw;rw[h,aH (by simp[b])]
theorem HW (ci:CI k s)(dh:Fo k s){x:Int}(h:k.ls s x=false):k.cK (k.nw s x)=false:=by
 cases c:k.cK x
 ·rw[n8 c];exact c
 ·have b:s.f (cf x)≠-1:=fun e=>by unfold ca.ls at h;rw[c,e] at h;simp at h
  rw[rj c b];obtain⟨b1,b2⟩:=dh _ (m5 c) b;exact mY ci b1 b2
theorem HY:k.cK 3=false:=by unfold ca.cK;rw[show cX 3=false by decide];rfl
theorem AB (ci:CI k s)(dh:Fo k s)(x:Int):k.cK (k.cA s x)=false:=by
 unfold ca.cA;cases c:k.ls s x
 ·rw[aE Z];exact HW ci dh c
 ·exact HY
theorem HZ {x:Int}(h:k.cK x=false):k.cA s x=x:=by unfold ca.cA ca.ls;rw[h,Bool.false_and,aE Z];exact n8 h
theorem H0 (k:ca)(s:ch)(a:Int):k.eF s a=k.st s (a+1) (k.cA s (k.ld s (a+1))):=by unfold ca.eF ca.cA;split<;>rfl
theorem uD (k:ca)(s:ch)(a x:Int):(k.st s a x).ws.length=s.ws.length:=by
 unfold ca.st;split
 ·rw[aX]
 ·rfl
theorem uE (hl:s.ws.length=k.N+k.O)(hy:k.y<=k.N)(hg:s.g<=k.O)(j:∀x,k.cK (k.cA s x)=false):∀(l:List Int)(t:ch),t.f=s.f->t.g=s.g->t.ws.length=s.ws.length->(∀c∈l,da k.N k.y s.g (c+1)=true)->
 (l.foldl k.eF t).f=s.f/\(l.foldl k.eF t).g=s.g/\(l.foldl k.eF t).ws.length=s.ws.length/\(l.foldl k.eF t).ep=t.ep/\(l.foldl k.eF t).rs=t.rs/\∀p,k.ld (l.foldl k.eF t) p=if p-1∈l then k.cA s (k.ld t p) else k.ld t p
 |[],t,d,f,g,_=>⟨d,f,g,rfl,rfl,fun p=>Z⟩
 |c::l,t,d,f,g,hi=>by
  have vt:∀x,k.cA t x=k.cA s x:=fun x=>by unfold ca.cA;rw[(AA d x).1,(AA d x).2]
  rw[a8,H0];obtain⟨m,n,o,u,v,w⟩:=uE hl hy hg j l (k.st t (c+1) (k.cA t (k.ld t (c+1)))) d f ((uD _ _ _ _).trans g) (fun x A=>hi x (aO _ A))
  refine⟨m,n,o,u,v,fun p=>?_⟩
  rw[w p];have hp:=ca.nL (g.trans hl) hy (by rw[f];exact hg) (c+1) (k.cA t (k.ld t (c+1))) p;rw[f] at hp;by_cases e:p=c+1
  ·have i:p-1∈c::l:=by rw[e];simp
   rw[aH ⟨e,(hi c Z)⟩] at hp;rw[hp,aH i,vt,e];split
   ·exact HZ (j _)
   ·rfl
  ·have i:(p-1∈c::l)↔p-1∈l:=by rw[List.mem_cons];exact⟨fun b=>b.resolve_left (fun q=>e V),aI⟩
   rw[aE (fun q=>e q.1)] at hp;rw[hp];by_cases b:p-1∈l
   ·rw[aH b,aH (i.2 b)]
   ·rw[aE b,aE (fun q=>b (i.1 q))]
theorem uF (hy:k.y<=k.N):∀(l:List Int)(t:ch),t.ws.length=k.N+k.O->t.g<=k.O->(∀c∈l,da k.N k.y t.g (c+1)=true/\da k.N k.y t.g (c+2)=true)->
 (l.foldl k.gt t).rs=t.rs/\(l.foldl k.gt t).g=t.g/\∀p,k.ld (l.foldl k.gt t) p=if p-1∈l\/p-2∈l then 3 else k.ld t p
 |[],t,_,_,_=>⟨rfl,rfl,fun p=>Z⟩
 |c::l,t,g,d,hi=>by
  obtain⟨c1,c2⟩:=hi c Z;have l1:(k.st t (c+1) 3).ws.length=k.N+k.O:=(uD _ _ _ _).trans g;rw[a8];obtain⟨i,j,m⟩:=uF hy l _ ((uD _ _ _ _).trans l1) d (fun x n=>hi x (aO _ n))
  refine⟨i,j,fun p=>?_⟩
  have o:k.gt t c=k.st (k.st t (c+1) 3) (c+2) 3:=rfl;rw[o,m p,(ca.nL l1 hy d (c+2) 3) p,(ca.nL g hy d (c+1) 3) p];have g1:(k.st t (c+1) 3).g=t.g:=rfl;by_cases b:p-1∈l\/p-2∈l
  ·rw[aH b,aH (b.imp (aO _) (aO _))]
  ·rw[aE b];by_cases e:p=c+2
   ·rw[aH ⟨e,c2⟩,aH (aI (by rw[e];simp))]
   ·rw[aE (fun q=>e q.1)];by_cases f:p=c+1
    ·rw[aH ⟨f,c1⟩,aH (aJ (by rw[f];simp))]
    ·rw[aE (fun q=>f q.1),aE];rintro(q|q)
     ·rcases List.mem_cons.1 q with q|q
      ·omega
      ·exact b (aJ q)
     ·rcases List.mem_cons.1 q with q|q
      ·omega
      ·exact b (aI q)
theorem AC (ci:CI k s)(dh:Fo k s){b x:Int}(h:k.ml s b x):k.nw s x=k.nw s b:=by
 rcases h with e|⟨y1,c,d⟩
 ·rw[e]
 ·rw[rj y1 c,d];obtain⟨b1,b2⟩:=dh _ (m5 y1) c;exact n8 (mY ci b1 b2)
theorem AD {b x:Int}(h:k.ml s b x)(hy:k.cK x=false):x=k.nw s b:=by
 rcases h with e|⟨y1,c,d⟩
 ·rw[e] at hy;rw[n8 hy,e]
 ·rw[rj y1 c,d]
theorem H2 (li:LI k z s H D)(w:dL k z s H){a b i:Int}(o:k.or z s a b)(K:0<=i)(C:i<pf (k.l0 z a)):
 k.ld (k.be (k.mw s s.wk) (k.mw s s.wk).ep) (b+1+i)=if b∈s.ep then 3 else if b∈s.wk/\i=0 then k.cA s (k.ld s (b+1+i)) else k.ld s (b+1+i):=by
 have ci:=li.mi.ci;have full:=li.mi.full;have g:=li.mi.mem o;have L:i<pf (k.ld s b):=by rw[(li.mi.hd a b o)];exact C
 have E:∀c∈s.wk,da k.N k.y s.g (c+1)=true:=fun c hc=>by exact Aw
 have F:∀c∈s.ep,da k.N k.y s.g (c+1)=true/\da k.N k.y s.g (c+2)=true:=fun c hc=>by exact Au
 obtain⟨m1,f,m,n,_,t⟩:=uE ci.len ci.hy ci.hg (AB ci li.mi.dh) s.wk s rfl rfl rfl E;have n:(k.mw s s.wk).ep=s.ep:=n;have f:(k.mw s s.wk).g=s.g:=f;have m:(k.mw s s.wk).ws.length=s.ws.length:=m;obtain⟨_,_,b3⟩:=uF ci.hy s.ep _ (by rw[m];exact ci.len) (by rw[f];exact ci.hg) (by rw[f];exact F)
 have b3:∀p,k.ld (k.be (k.mw s s.wk) s.ep) p=if p-1∈s.ep\/p-2∈s.ep then 3 else k.ld (k.mw s s.wk) p:=b3
 have t:∀p,k.ld (k.mw s s.wk) p=if p-1∈s.wk then k.cA s (k.ld s p) else k.ld s p:=t
 rw[n,b3,t];have u:∀j,0<=j->j<pf (k.ld s b)->_:=fun j j0 G=>full.ee.field g j0 G;have q1:∀l:List Int,(∀c∈l,c∈z.G++H)->((b+1+i)-1∈l↔(b∈l/\i=0)):=fun l hl=>by
  constructor
  ·intro d;by_cases e:i=0
   ·subst e;have:b+1+0-1=b:=V;rw[this] at d;exact⟨d,rfl⟩
   ·exfalso;have:b+1+i-1=b+1+(i-1):=V;rw[this] at d;exact u (i-1) V V (hl _ d)
  ·rintro⟨d,e⟩
   subst e;have:b+1+0-1=b:=V;rw[this];exact d
 have q2:(b+1+i)-2∈s.ep↔(b∈s.ep/\i=1):=by
  constructor
  ·intro d;obtain⟨r1,I⟩:=w.ep _ d;by_cases e:i=1
   ·subst e;have:b+1+1-2=b:=V;rw[this] at d;exact⟨d,rfl⟩
   ·exfalso;by_cases J:i=0
    ·subst J;have M:=hY (li.mi.bd r1).2.2 (aI (aI I))
     have v:=full.ee.apart _ r1 b g V;have v:b+1+0-2+(1+pf (k.ld s (b+1+0-2)))<=b:=v;omega
    ·have:b+1+i-2=b+1+(i-2):=V;rw[this] at r1;exact u (i-2) V V r1
  ·rintro⟨d,e⟩
   subst e;have:b+1+1-2=b:=V;rw[this];exact d
 have x:=q1 s.ep (fun c hc=>(w.ep c hc).1)
 have A:=q1 s.wk (fun c hc=>(w.wk c hc).1)
 by_cases c:b∈s.ep
 ·have B:=hY (full.ee.mem b g).2.2 (aI (aI (w.ep b c).2))
  have B:pf (k.ld s b)=2:=B;rw[aH c,aH];rcases(show i=0\/i=1 by omega) with e|e
  ·exact aJ (x.2 ⟨c,e⟩)
  ·exact aI (q2.2 ⟨c,e⟩)
 ·rw[aE c,aE (fun q=>q.elim (fun q=>c (x.1 q).1) (fun q=>c (q2.1 q).1))];by_cases d:b∈s.wk/\i=0
  ·rw[aH d,aH (A.2 d)]
  ·rw[aE d,aE (fun q=>d (A.1 q))]
theorem H3 (li:LI k z s H D)(w:dL k z s H){a b:Int}(o:k.or z s a b):k.ld (k.be (k.mw s s.wk) (k.mw s s.wk).ep) b=k.l0 z a/\(k.be (k.mw s s.wk) (k.mw s s.wk).ep).rs=s.rs:=by
 have ci:=li.mi.ci;have n:∀c∈s.wk,da k.N k.y s.g (c+1)=true:=fun c hc=>by exact Aw
 have t:∀c∈s.ep,da k.N k.y s.g (c+1)=true/\da k.N k.y s.g (c+2)=true:=fun c hc=>by exact Au
 obtain⟨m1,f,i,j,u,l⟩:=uE ci.len ci.hy ci.hg (AB ci li.mi.dh) s.wk s rfl rfl rfl n;have j:(k.mw s s.wk).ep=s.ep:=j;have f:(k.mw s s.wk).g=s.g:=f;have i:(k.mw s s.wk).ws.length=s.ws.length:=i;obtain⟨b1,_,b3⟩:=uF ci.hy s.ep _ (by rw[i];exact ci.len) (by rw[f];exact ci.hg) (by rw[f];exact t)
 have b3:∀p,k.ld (k.be (k.mw s s.wk) s.ep) p=if p-1∈s.ep\/p-2∈s.ep then 3 else k.ld (k.mw s s.wk) p:=b3
 have l:∀p,k.ld (k.mw s s.wk) p=if p-1∈s.wk then k.cA s (k.ld s p) else k.ld s p:=l
 have no:∀c,c∈z.G++H->pf (k.ld s c)=2->∀g:Int,(g=1\/g=2)->b-g≠c:=fun c hc v g hd e=>by have m:=li.mi.full.ee.apart c hc b (li.mi.mem o) V;have m:c+(1+pf (k.ld s c))<=b:=m;omega
 rw[j,b3,l];refine⟨?_,b1.trans u⟩
 rw[aE,aE,(li.mi.hd a b o)]
 ·intro q;obtain⟨r1,d⟩:=w.wk _ q;exact no _ r1 (hY (li.mi.bd r1).2.2 (aI (aJ d))) 1 (aJ rfl) rfl
 ·rintro(q|q)
  ·obtain⟨r1,d⟩:=w.ep _ q;exact no _ r1 (hY (li.mi.bd r1).2.2 (aI (aI d))) 1 (aJ rfl) rfl
  ·obtain⟨r1,d⟩:=w.ep _ q;exact no _ r1 (hY (li.mi.bd r1).2.2 (aI (aI d))) 2 (aI rfl) rfl
end
theorem rk {L:List Bool}{i:Nat}{t:cG}(d:L.getD i false=true)(b:t.1=3\/t.1=4->t.2.1.length=2):(eE L i t).2.1.length=t.2.1.length/\(eE L i t).1=t.1/\(eE L i t).2.2=(true,t.2.2.2):=by
 unfold eE;rw[aH d];refine⟨?_,rfl,rfl⟩
 split
 ·rename_i c;rw[b (aI c.1)];rfl
 ·split
  ·rename_i c;rw[b (aJ c.1)];rfl
  ·rfl
theorem AE {L:List Bool}{i:Nat}{t:cG}(b:L.getD i false=false):eE L i t=(t.1,[],t.2.2.1,true):=by unfold eE;rw[b,aE Z]
theorem l8 {L:List Bool}{i:Nat}{t:cG}(c:L.getD i false=true)(b:t.1=3\/t.1=4->t.2.1.length=2){k:Nat}(hk:k<t.2.1.length):
 (eE L i t).2.1.getD k (0,0)=if((t.1=3\/t.1=4)/\dq L (t.2.1.getD 0 (0,0))=false)/\(k=0\/(t.1=4/\k=1)) then(2,0) else t.2.1.getD k (0,0):=by
 unfold eE;rw[aH c];by_cases c4:t.1=4/\dq L (t.2.1.getD 0 (0,0))=false
 ·rw[aH c4,aH ⟨⟨aI c4.1,c4.2⟩,by
   have:=b (aI c4.1);have:k=0\/k=1:=V
   exact this.imp id (fun e=>⟨c4.1,e⟩)⟩]
  have:=b (aI c4.1)
  rcases(show k=0\/k=1 by omega) with e|e<;>subst e<;>rfl
 ·rw[aE c4];by_cases c3:t.1=3/\dq L (t.2.1.getD 0 (0,0))=false
  ·rw[aH c3];have:=b (aJ c3.1)
   rcases(show k=0\/k=1 by omega) with e|e
   ·subst e;rw[aH ⟨⟨aJ c3.1,c3.2⟩,aJ rfl⟩];rfl
   ·subst e;rw[aE (fun q=>by
     rcases q.2 with d|d
     ·omega
     ·have:=c3.1;omega)]
    rfl
  ·rw[aE c3,aE (fun q=>q.1.1.elim (fun e=>c3 ⟨e,q.1.2⟩) (fun e=>c4 ⟨e,q.1.2⟩))]
structure rn (a:Wc)(S:ck)(W:cj)(m:Nat->Int)(B L:List Bool)(C:List bZ)(S':ck)(m':Nat->Int)(G':List Int):Prop where
 kv:em a S'.s [] G'
 ok:fR W.T L
 cl:fG W.T W.wt (cu L)
 up:∀i,cu B i->cu L i
 rr:∀v∈W.rs,v.1=3->cu L v.2.toNat
 cc:∀e∈C,e∈W.rg/\cu L e.2.toNat
 rs:S'.s.rs=W.rs.map (wv m')
 pl:∀i,cu L i->m' i∈G'
 inj:∀i j,cu L i->cu L j->m' i=m' j->i=j
 fV:∀v∈G',∃i,cu L i/\m' i=v
 hd:∀i,cu L i->ld a.N S'.s.y S'.s.g S'.s.ws (m' i)=ld a.N S.s.y S.s.g S.s.ws (m i)
 fd:∀i,cu L i->∀k:Nat,k<(W.T.getD i t0).2.1.length->ld a.N S'.s.y S'.s.g S'.s.ws (m' i+1+k)=wv m' ((eE L i (W.T.getD i t0)).2.1.getD k (0,0))
 rg:S'.r=(W.rg.filter (fun e=>cD B e.2&&cD L e.1)).map (we m')
 wt:S'.q=((W.wt++C).filter (fun e=>cD L e.1)).map (we m')
section
variable {a:Wc}{S S':ck}{W:cj}{m m':Nat->Int}{Y G G':List Int}{B L:List Bool}{C:List bZ}
theorem AF {L:List Bool}{v:Int×Int}(b:v.1=3):dq L v=L.getD v.2.toNat false:=by unfold dq;rw[b];rfl
theorem H4 {L:List Bool}{v:Int×Int}(b:v.1≠3):dq L v=true:=by
 unfold dq;have:(v.1==3)=false:=by simpa using b
 rw[this];rfl
theorem cw.led (h:cw a S W m Y G)(ok:fR W.T L)(cl:fG W.T W.wt (cu L)){i:Nat}(hi:cu L i){k:Nat}(hk:k<(W.T.getD i t0).2.1.length)(b:((eE L i (W.T.getD i t0)).2.1.getD k (0,0)).1=3):cu L ((eE L i (W.T.getD i t0)).2.1.getD k (0,0)).2.toNat:=by
 have al:=ok.al i hi;have j:(W.T.getD i t0).1=3\/(W.T.getD i t0).1=4->_=_:=fun c=>h.two al (aI c)
 rw[l8 hi j hk] at b⊢;split at b
 ·exact absurd b aa
 ·rename_i c;rw[aE c];have o:=oe _ _ (h.hd i al).1;by_cases n:(W.T.getD i t0).1=1\/(W.T.getD i t0).1=2
  ·exact cl i al.1 hi _ (aJ ⟨n,(getD_in hk)⟩) b
  by_cases f:(W.T.getD i t0).1=3
  ·have l2:=j (aJ f)
   rcases(show k=0\/k=1 by omega) with e|e
   ·subst e;have:dq L ((W.T.getD i t0).2.1.getD 0 (0,0))=true:=by
     cases d:dq L _
     ·exact absurd ⟨⟨aJ f,d⟩,aJ rfl⟩ c
     ·rfl
    exact mC this b
   ·subst e;exact cl i al.1 hi _ (aI (aJ ⟨f,rfl⟩)) b
  by_cases g:(W.T.getD i t0).1=4
  ·have l:dq L ((W.T.getD i t0).2.1.getD 0 (0,0))=true:=by
    cases d:dq L _
    ·exact absurd ⟨⟨aI g,d⟩,by
      rcases(show k=0\/k=1 by omega) with e|e
      ·exact aJ e
      ·exact aI ⟨g,e⟩⟩ c
    ·rfl
   rcases(show k=0\/k=1 by omega) with e|e
   ·subst e;exact mC l b
   ·subst e;exact cl i al.1 hi _ (aI (aI (aJ ⟨g,mC l,rfl⟩))) b
  ·omega
theorem rn.done (h:cw a S W m Y G)(c:rn a S W m B L C S' m' G'):cw a S' ⟨eu L W.T W.T.length,W.rs,W.rg.filter (fun e=>cD B e.2&&cD L e.1),(W.wt++C).filter (fun e=>cD L e.1)⟩ m' [] G':=by
 have o:∀j,j<W.T.length->(eu L W.T W.T.length).getD j t0=eE L j (W.T.getD j t0):=fun j s=>by rw[p9 L W.T W.T.length j bW s,aH s]
 have f:∀i,cu L i->((W.T.getD i t0).1=3\/(W.T.getD i t0).1=4->_=_):=fun i hi q=>h.two (c.ok.al i hi) (aI q)
 have al:∀j,cH (eu L W.T W.T.length) j↔cu L j:=fun j=>by
  unfold cH;rw[i2];constructor
  ·rintro⟨t,f⟩
   rw[o j t] at f;unfold cu;cases d:L.getD j false
   ·rw[AE d] at f;cases f
   ·rfl
  ·intro b;have ha:=c.ok.al j b;refine⟨ha.1,?_⟩
   rw[o j ha.1,(rk b (f j b)).2.2];exact ha.2
 have p:∀j,cu L j->((eu L W.T W.T.length).getD j t0).2.1.length=(W.T.getD j t0).2.1.length/\((eu L W.T W.T.length).getD j t0).1=(W.T.getD j t0).1/\((eu L W.T W.T.length).getD j t0).2.2.1=true:=fun j b=>by
  have ha:=c.ok.al j b;obtain⟨q1,l,q3⟩:=rk b (f j b)
  rw[o j ha.1,q3];exact⟨q1,l,rfl⟩
 have x:∀v,dM W.T v->(v.1=3->cu L v.2.toNat)->dM (eu L W.T W.T.length) v:=fun v g b=>⟨fun e=>⟨(g.t e).1,(al _).2 (b e)⟩,g.o⟩
 have w:∀e,im W.T e->cu L e.1.toNat->cu L e.2.toNat->im (eu L W.T W.T.length) e:=fun e he t f=>⟨he.g0,(al _).2 t,by rw[(p _ t).2.1];exact he.k,he.h0,(al _).2 f⟩
 exact
 {
  kv:=c.kv,rl:=h.rl,rv:=fun v g=>x v (h.rv v g) (c.rr v g)
  fv:=fun i hi v g=>by
   have b:=(al i).1 hi;have ha:=c.ok.al i b;have g:=g;rw[o i ha.1] at g;obtain⟨k,hk,e⟩:=List.mem_iff_getElem.1 g;have ev:(eE L i (W.T.getD i t0)).2.1.getD k (0,0)=v:=by rw[aC,aG hk,e];rfl
   rw[(rk b (f i b)).1] at hk;refine⟨fun n=>?_,fun n=>?_⟩
   ·have hl:=h.led c.ok c.cl b hk (by rw[ev];exact n)
    rw[ev] at hl;refine⟨?_,(al _).2 hl⟩
    rw[l8 b (f i b) hk] at ev;split at ev
    ·rw[<-ev] at n;exact absurd n aa
    ·rw[<-ev] at n⊢;exact((h.fv i ha _ (getD_in hk)).t n).1
   ·rw[l8 b (f i b) hk] at ev;split at ev
    ·rw[<-ev];decide
    ·rw[<-ev] at n⊢;exact(h.fv i ha _ (getD_in hk)).o n
  rs:=c.rs
  h8:=fun i hi e=>by have e:=e;rw[(p i ((al i).1 hi)).2.2] at e;cases e
  old:=fun i hi _=>c.pl i ((al i).1 hi)
  inj:=fun i j hi s e=>c.inj i j ((al i).1 hi) ((al j).1 s) e
  fV:=fun v g=>by
   rcases g with d|d
   ·cases d
   ·obtain⟨i,hi,e⟩:=c.fV v d;exact⟨i,(al i).2 hi,e⟩
  hd:=fun i hi=>by have b:=(al i).1 hi;show hc _ _=0/\ld a.N S'.s.y S'.s.g S'.s.ws (m' i)=hw _ _;rw[(p i b).1,(p i b).2.1,c.hd i b];exact h.hd i (c.ok.al i b)
  fd:=fun i hi k hk=>by have b:=(al i).1 hi;have hk:=hk;rw[(p i b).1] at hk;show ld a.N S'.s.y S'.s.g S'.s.ws _=wv m' _;rw[o i (c.ok.al i b).1];exact c.fd i b k hk
  rg:=c.rg
  gv:=fun e he=>by obtain⟨q1,l⟩:=List.mem_filter.1 he;rw[ba] at l;exact w e (h.gv e q1) l.2 (c.up _ l.1)
  wt:=c.wt
  dz:=fun e he=>by
   obtain⟨q1,l⟩:=List.mem_filter.1 he;rcases List.mem_append.1 q1 with d|d
   ·have u:=h.dz e d;exact w e u l (c.cl _ u.g.1 l (3,e.2) (aI (aI (aI ⟨u.k,e,d,by have:=u.g0;omega,rfl⟩))) rfl)
   ·obtain⟨A,D⟩:=c.cc e d;exact w e (h.gv e A) l D
  tl:=fun i=>by
   show((eu L W.T W.T.length).getD i t0).2.1.length<=12;by_cases hi:i<W.T.length
   ·rw[o i hi];cases d:L.getD i false
    ·rw[AE d];simp
    ·rw[(rk d (f i d)).1];exact h.tl i
   ·rw[aC,List.getElem?_eq_none (by rw[i2];omega)];simp[t0]}
end
section
variable {a:Wc}{S:ck}
end
section
variable {a:Wc}{S:ck}{W:cj}{m:Nat->Int}{Y G:List Int}
theorem H5 (h:em a S.s Y G)(b:cI a S.s)(m:S.fD a=false):(S.dA a).r=((S.r.filter (fun e=>(S.s.j0 a).al (S.j2 a).1 e.2)).filter (fun e=>(S.s.j0 a).al (S.cy a) e.1)).map (fun e=>((S.s.j0 a).nw (S.cz a) e.1,(S.s.j0 a).nw (S.cz a) e.2)):=by
 have j:=cU.start b.n1 b.o1 b.y1 b.g1;obtain⟨d1,t,u⟩:=nW (S:=S) j;obtain⟨_,l2,l3⟩:=kK h.inv.full b;obtain⟨_,g,v⟩:=l4 h b m;obtain⟨_,i,t3,_⟩:=pt (s:=S.cz a) (k:=S.s.j0 a) ⟨b.l1,b.y1,b.g1⟩ b.r1 j.nd (n5 h.inv.full b) (pz h.inv.full b)
 have i:(S.k5 a).Y=(S.s.j0 a).Y:=i;have t3:(S.k5 a).G=(S.s.j0 a).G:=t3;have Ad:(S.k5 a).T=(S.s.j0 a).T:=by unfold b8.T;rw[i,t3]
 have l:∀x,(S.k5 a).al (S.cz a) x=(S.s.j0 a).al (S.cy a) x:=fun x=>by exact Ac
 have r3:S.r3 a=(S.r.filter (fun e=>(S.s.j0 a).al (S.j2 a).1 e.2)).filter (fun e=>(S.s.j0 a).al (S.cy a) e.1):=by show(((S.r.filter (fun e=>(S.s.j0 a).al _ e.2)).filter (fun e=>(S.s.j0 a).al (S.cy a) e.1)).map fun e=>((S.s.j0 a).nw (S.cy a) e.1,(S.s.j0 a).nw (S.cy a) e.2))=_;exact Ae
 have n:(S.k5 a).tS (S.cz a,S.q3 a) (S.r3 a)=(S.cz a,S.q3 a):=uo (fun e he=>by rw[l];exact q8 j e he)
 unfold ck.dA;rw[m,aE Z];show eP (dK ct) (fun s x=>(S.k5 a).al s.1 x) _ (fun s x=>(S.k5 a).nw s.1 x) (S.cz a,S.q3 a) (S.r3 a)=_;unfold eP;have e:fi (dK ct) (fun s x=>(S.k5 a).al s.1 x) (S.k5 a).co (S.cz a,S.q3 a) (S.r3 a)=(S.cz a,S.q3 a):=n;rw[e];show(((S.r3 a).filter (fun e=>(S.k5 a).al (S.cz a) e.2)).filter (fun e=>(S.k5 a).al (S.cz a) e.1)).map (fun e=>((S.k5 a).nw (S.cz a) e.1,(S.k5 a).nw (S.cz a) e.2))=_;have o:(S.r3 a).filter (fun e=>(S.k5 a).al (S.cz a) e.2)=S.r3 a:=List.filter_eq_self.2 (fun e he=>by rw[l];exact q8 (S:=S) j e he)
 have p:(S.r3 a).filter (fun e=>(S.k5 a).al (S.cz a) e.1)=S.r3 a:=List.filter_eq_self.2 (fun e he=>by rw[l];rw[r3] at he;exact(List.mem_filter.1 he).2)
 rw[o,p,r3];refine List.map_congr_left (fun e _=>?_)
 rw[b8.j8 _ _ i t3,b8.j8 _ _ i t3]
theorem cw.n4 (d:cw a S W m Y G)(b:cI a S.s){g:List Bool->List Bool}(hg:d9 W.T W.wt g):S.n4 a=gR W.T (W.cR g true).1 W.T.length:=by
 have k:=cU.start b.n1 b.o1 b.y1 b.g1;have hs:=Rg.settled d b hg;obtain⟨l,_⟩:=pn (S.s.j0 a) (fun c=>!((S.cy a).f c==-1)) _ (S.cy a,(a.N:Int)) k.nd (fun _ _=>rfl)
 have f:=l.sum (fun c=>(di _).1)
 have f:(ge (m0 (ld a.N S.s.y S.s.g S.s.ws)) ((S.s.j0 a).T.filter (fun c=>!((S.cy a).f c==-1))):Int)=S.n4 a:=f;rw[uv,<-f,uu (fun i _ hp=>d.size (hs.ok.al i hp)) (k.nd.filter _) (fun i j _ _ hp hq e=>d.inj i j (hs.ok.al i hp) (hs.ok.al j hq) e) (fun v=>?_)];rw[List.mem_filter];constructor
 ·rintro⟨n,o⟩
  obtain⟨i,hi,rfl⟩:=d.uz b n;exact⟨i,hi.1,(hs.f5 i hi).1 (by simpa using o),rfl⟩
 ·rintro⟨i,_,hp,rfl⟩
  have hi:=hs.ok.al i hp;exact⟨d.memT b hi,by simpa using(hs.f5 i hi).2 hp⟩
theorem cw.AG (b:cw a S W m Y G)(c:cI a S.s){g:List Bool->List Bool}(hg:d9 W.T W.wt g):S.fD a=W.cF g a.O true:=by unfold ck.fD cj.cF;rw[b.n4 c hg];simp
theorem cw.hQ (b:cw a S W m Y G)(c:cI a S.s){g:List Bool->List Bool}(hg:d9 W.T W.wt g):S.hQ a=W.gz g a.O true:=by unfold ck.hQ cj.gz;rw[b.AG c hg]
theorem cw.pE (b:cw a S W m Y G)(d:cI a S.s){j:ct}{v:Int×Int}(e:dM W.T v)(f:v.1=3->j.f (m v.2.toNat)≠-1):(S.s.j0 a).nw j (wv m v)=wv (fun i=>j.f (m i)) v:=by
 unfold b8.nw;rw[b.jt d e];by_cases c:v.1=3
 ·rw[(b.vt d e c).2,c,aH (by simp[f c]),h9 c]
 ·rw[aE (by simp[c]),i8 c,i8 c]
theorem uG {c:Type}(d:c){l b:List c}(h:l.length=b.length)(he:∀i,i<l.length->l.getD i d=b.getD i d):l=b:=by
 refine List.ext_getElem h (fun i e f=>?_)
 have:=he i e;rwa [aC,aG e,aC,aG f] at this
theorem uH {m:Nat->Int}:wv m (2,0)=3:=by rw[i8 aa];decide
theorem cw.H6 (hR:cw a S W m Y G)(b:cI a S.s){g:List Bool->List Bool}(hg:d9 W.T W.wt g)(A:S.fD a=false):
 rn a S W m (W.c0 g true) (W.cR g true).1 (W.cR g true).2.1 (S.dA a) (fun i=>(S.cz a).f (m i)) ((S.cz a).lf (G++Y)):=by
 have hs:=Rg.settled hR b hg;have h0:=Rg.start hR b hg;obtain⟨_,B,_⟩:=l4 hR.kv b A;obtain⟨s1,s2,U⟩:=nW (S:=S) (cU.start b.n1 b.o1 b.y1 b.g1)
 have E:=hR.T b;have s:∀{i:Nat},cH W.T i->m i∈G++Y:=fun hi=>by rw[<-E];exact hR.memT b hi
 have C:∀i,cH W.T i->((S.cz a).f (m i)≠-1↔cu (W.cR g true).1 i):=fun i hi=>by rw[<-hs.f5 i hi];exact not_congr (B.iff _ (s hi))
 have n:∀i,cu (W.cR g true).1 i->_:=fun i f=>(C i (hs.ok.al i f)).2 f;have hcl:fG W.T W.wt (cu (W.cR g true).1):=by
  have hc:=hR.marked b hs.dv (fun x K=>by rw[hs.q];exact List.mem_map_of_mem (aZ _ K))
  intro i hi L v t o;have F:∀j,cu (W.cR g true).1 j->_/\_:=fun j p=>⟨hs.ok.al j p,(hs.f5 j (hs.ok.al j p)).2 p⟩
  obtain⟨q1,l⟩:=hc i hi (F i L) v (t.mono F) o;exact(hs.f5 _ q1).1 l
 have hup:∀i,cu (W.c0 g true) i->cu (W.cR g true).1 i:=fun i hi=>by have ha:=h0.ok.al i hi;have H:=(h0.f5 i ha).2 hi;refine(hs.f5 i ha).1 ?_;rw[s2.f _ H];exact H
 have u:∀i,cu (W.cR g true).1 i->((W.T.getD i t0).1=3\/(W.T.getD i t0).1=4->_=_):=fun i hi q=>hR.two (hs.ok.al i hi) (aI q)
 have uy:∀e,im W.T e->cu (W.cR g true).1 e.1.toNat->cu (W.cR g true).1 e.2.toNat->((S.s.j0 a).nw (S.cz a) (we m e).1,(S.s.j0 a).nw (S.cz a) (we m e).2)=we (fun i=>(S.cz a).f (m i)) e:=fun e he M u=>by
  have q1:=hR.pE b (j:=S.cz a) (v:=(3,e.1)) ⟨fun _=>⟨he.g0,he.g⟩,fun c=>absurd rfl c⟩ (fun _=>n _ M)
  have l:=hR.pE b (j:=S.cz a) (v:=(3,e.2)) ⟨fun _=>⟨he.h0,he.h⟩,fun c=>absurd rfl c⟩ (fun _=>n _ u)
  exact Prod.ext q1 l
 have gc:=B.gc;have I:(S.dA a).s.y=0:=gc.y;refine
 {
  kv:=(gc.inv hR.kv b B.al).1,ok:=hs.ok,cl:=hcl,up:=hup,rr:=hs.r,cc:=hs.c
  rs:=?_,pl:=fun i f=>?_,inj:=fun i j hi p e=>?_,fV:=fun v t=>?_,hd:=fun i f=>?_,fd:=fun i f k hk=>?_,rg:=?_,wt:=?_}
 ·refine uG 0 (by rw[aQ,hR.rl];exact gc.rl) (fun i hi=>?_)
  have hi:i<12:=by rw[gc.rl] at hi;exact hi
  obtain⟨er,t⟩:=hR.root hi;rw[gc.rs i hi,er,jK (wv (fun i=>(S.cz a).f (m i))) W.rs i (0,0) 0 (by rw[hR.rl];exact hi)];exact hR.pE b t (fun o=>n _ (hs.r _ (getD_in (by rw[hR.rl];exact hi)) o))
 ·exact List.mem_map.2 ⟨m i,List.mem_filter.2 ⟨s (hs.ok.al i f),by simpa using n i f⟩,rfl⟩
 ·have:=gc.pos.inj (fun c=>(di _).1) (m i) (s (hs.ok.al i hi)) (m j) (s (hs.ok.al j p)) (by simpa using n i hi) (by simpa using n j p) e;exact hR.inj i j (hs.ok.al i hi) (hs.ok.al j p) this
 ·obtain⟨c,hc,rfl⟩:=List.mem_map.1 t;obtain⟨q1,l⟩:=List.mem_filter.1 hc;rw[<-E] at q1;obtain⟨i,hi,rfl⟩:=hR.uz b q1;exact⟨i,(C i hi).1 (by simpa using l),rfl⟩
 ·rw[I];exact gc.hd _ (s (hs.ok.al i f)) (n i f)
 ·have ha:=hs.ok.al i f;obtain⟨N,O,_⟩:=hR.parts ha;rw[I,gc.fd _ (s ha) (n i f) k (Int.natCast_nonneg k) (by rw[O];omega),l8 f (u i f) hk];unfold b8.h7;have Q:pk ((S.s.j0 a).ld (m i))=(W.T.getD i t0).1:=N;rw[Q];have J:(S.s.j0 a).ld (m i+1+k)=wv m ((W.T.getD i t0).2.1.getD k (0,0)):=hR.fd i ha k hk;have key:(W.T.getD i t0).1=3\/(W.T.getD i t0).1=4->((S.s.j0 a).cQ (S.cz a) ((S.s.j0 a).ld (m i+1))=true↔dq (W.cR g true).1 ((W.T.getD i t0).2.1.getD 0 (0,0))=false):=fun q=>by
   have R:(S.s.j0 a).ld (m i+1)=wv m ((W.T.getD i t0).2.1.getD 0 (0,0)):=by
    have:=hR.fd i ha 0 V;show ld a.N S.s.y S.s.g S.s.ws (m i+1)=_;rw[<-this]
    congr 1
    omega
   have D:=hR.fv i ha _ (getD_in (x:=((0,0):Int×Int)) (show 0<(W.T.getD i t0).2.1.length by omega))
   rw[R];by_cases c3:((W.T.getD i t0).2.1.getD 0 (0,0)).1=3
   ·have q1:=hR.n6 b (S.cz a) D c3;have l:=C _ (D.t c3).2;rw[AF c3];constructor
    ·intro d;cases e:(W.cR g true).1.getD _ false
     ·rfl
     ·rw[q1.2 (l.2 e)] at d;cases d
    ·intro d;cases e:(S.s.j0 a).cQ (S.cz a) _
     ·have:=l.1 (q1.1 e)
      unfold cu at this
      rw[d] at this
      cases this
     ·rfl
   ·rw[H4 c3];have:(S.s.j0 a).cQ (S.cz a) (wv m ((W.T.getD i t0).2.1.getD 0 (0,0)))=false:=by
     unfold b8.cQ;rw[hR.jt b D];have:(((W.T.getD i t0).2.1.getD 0 (0,0)).1==3)=false:=by simpa using c3
     rw[this];rfl
    rw[this];simp
  by_cases cb:((W.T.getD i t0).1=3\/(W.T.getD i t0).1=4)/\dq (W.cR g true).1 ((W.T.getD i t0).2.1.getD 0 (0,0))=false
  ·by_cases w:k=0\/((W.T.getD i t0).1=4/\k=1)
   ·rw[aH ⟨⟨cb.1,(key cb.1).2 cb.2⟩,w.imp (fun e=>by omega) (fun e=>⟨e.1,V⟩)⟩,aH ⟨cb,w⟩,uH];unfold b8.nw b8.jt;rw[show cX 3=false by decide,Bool.false_and,Bool.false_and,aE Z]
   ·rw[aE (fun q=>w (q.2.imp (fun e=>by omega) (fun e=>⟨e.1,V⟩))),aE (fun q=>w q.2),J];refine hR.pE b (hR.fv i ha _ (getD_in hk)) (fun o=>n _ ?_)
    have hl:=hR.led hs.ok hcl f hk;rw[l8 f (u i f) hk,aE (fun q=>w q.2)] at hl;exact hl o
  ·rw[aE (fun q=>cb ⟨q.1.1,(key q.1.1).1 q.1.2⟩),aE (fun q=>cb q.1),J];refine hR.pE b (hR.fv i ha _ (getD_in hk)) (fun o=>n _ ?_)
   have hl:=hR.led hs.ok hcl f hk;rw[l8 f (u i f) hk,aE (fun q=>cb q.1)] at hl;exact hl o
 ·rw[H5 hR.kv b A,hR.rg,List.filter_filter];rw[kY (we m) _ (fun e=>cD (W.c0 g true) e.2&&cD (W.cR g true).1 e.1) W.rg (fun e he=>by have q1:=Rg.is hR b h0 (hR.gv e he).h;have l:=Rg.is hR b hs (hR.gv e he).g;have q1:(S.s.j0 a).al (S.j2 a).1 (we m e).2=cD (W.c0 g true) e.2:=q1;have l:(S.s.j0 a).al (S.cy a) (we m e).1=cD (W.cR g true).1 e.1:=l;rw[q1,l,Bool.and_comm]),List.map_map];exact Av
 ·rw[Af hR.kv b A];have hE:∀e∈W.wt++(W.cR g true).2.1,im W.T e:=fun e he=>by
   rcases List.mem_append.1 he with d|d
   ·exact hR.dz e d
   ·exact hR.gv e (hs.c e d).1
  rw[hs.q,kY (we m) _ (fun e=>cD (W.cR g true).1 e.1) _ (fun e he=>Rg.is hR b hs (hE e he).g),List.map_map];exact As
theorem cw.dA (b:cw a S W m Y G)(c:cI a S.s){g:List Bool->List Bool}(hg:d9 W.T W.wt g):∃d e f,cw a (S.dA a) (W.cut g a.O true) d e f:=by
 unfold cj.cut;rw[<-b.AG c hg];cases hf:S.fD a
 ·rw[aE Z];exact⟨_,_,_,(b.H6 c hg hf).done b⟩
 ·refine⟨m,Y,G,?_⟩
  unfold ck.dA;rw[hf,aH rfl];exact b
end
end Go.Proofs.YtjpjpjemibgjpaaGreat
