import Derived.Test.YtpkjkjhanlbcoaaGreatJ22
namespace Go.Proofs.YtpkjkjhanlbcoaaGreat
open Go.RowKit W Kp cf
theorem AZ {P:Prop}(h:P:=by
 have:=h.fd i hi 1 V;rw[<-e] at this
 show ld a.N S.s.y S.s.g S.s.ws (m i+2)=_;rw[<-this]
 congr 1
 omega):P:=h
def wv (m:Nat->Int)(v:Int×Int):Int:=if v.1=3 then ew 3 (m v.2.toNat) else ew v.1 v.2
def we (m:Nat->Int)(e:b7):b7:=(ew 3 (m e.1.toNat),ew 3 (m e.2.toNat))
structure dM (T:List cD)(v:Int×Int):Prop where
 t:v.1=3->0<=v.2/\cv T v.2.toNat
 o:v.1≠3->vc v.1 v.2=0
structure iF (T:List cD)(e:b7):Prop where
 g0:0<=e.1
 g:cv T e.1.toNat
 k:(T.getD e.1.toNat t0).1=5
 h0:0<=e.2
 h:cv T e.2.toNat
structure cy (a:Wc)(S:cq)(W:ck)(m:Nat->Int)(Y G:List Int):Prop where
 kv:el a S.s Y G
 rl:W.rs.length=12
 rv:∀v∈W.rs,dM W.T v
 fv:∀i,cv W.T i->∀v∈(W.T.getD i t0).2.1,dM W.T v
 rs:S.s.rs=W.rs.map (wv m)
 ik:∀i,cv W.T i->(W.T.getD i t0).2.2.1=false->m i∈Y
 old:∀i,cv W.T i->(W.T.getD i t0).2.2.1=true->m i∈G
 inj:∀i j,cv W.T i->cv W.T j->m i=m j->i=j
 f4:∀v,(v∈Y\/v∈G)->∃i,cv W.T i/\m i=v
 hd:∀i,cv W.T i->hc (W.T.getD i t0).1 (W.T.getD i t0).2.1.length=0/\ld a.N S.s.y S.s.g S.s.ws (m i)=hw (W.T.getD i t0).1 (W.T.getD i t0).2.1.length
 fd:∀i,cv W.T i->∀k:Nat,k<(W.T.getD i t0).2.1.length->ld a.N S.s.y S.s.g S.s.ws (m i+1+k)=wv m ((W.T.getD i t0).2.1.getD k (0,0))
 rg:S.r=W.rg.map (we m)
 gv:∀e∈W.rg,iF W.T e
 wt:S.q=W.wt.map (we m)
 dx:∀e∈W.wt,iF W.T e
 tl:∀i,(W.T.getD i t0).2.1.length<=12
theorem pO {b:Type}(l:List b)(i j:Nat)(x c:b)(h:i<l.length):(l.set i x).getD j c=if i=j then x else l.getD j c:=by exact zS
theorem jY {b c:Type}(f:b->c)(l:List b)(i:Nat)(d:b)(e:c)(h:i<l.length):(l.map f).getD i e=f (l.getD i d):=by rw[aE,List.getElem?_map,aE,aL h];rfl
theorem il {m:Nat->Int}{v:Int×Int}(h:v.1=3):wv m v=ew 3 (m v.2.toNat):=by unfold wv;rw[aI h]
theorem jm {m:Nat->Int}{v:Int×Int}(h:v.1≠3):wv m v=ew v.1 v.2:=by unfold wv;rw[aG h]
theorem uV {T:List cD}{m b:Nat->Int}(h:∀i,cv T i->b i=m i){v:Int×Int}(hv:dM T v):wv b v=wv m v:=by
 by_cases c:v.1=3
 ·rw[il c,il c,h _ (hv.t c).2]
 ·rw[jm c,jm c]
theorem A0 {T:List cD}{m b:Nat->Int}(h:∀i,cv T i->b i=m i){e:b7}(he:iF T e):we b e=we m e:=by unfold we;rw[h _ he.g,h _ he.h]
theorem dM.of {T:List cD}{k n:Int}(b:k≠3)(h:vc k n=0):dM T (k,n):=⟨fun e=>absurd e b,fun _=>h⟩
theorem dM.nil (T:List cD):dM T (0,0):=dM.of aa aa
theorem dM.mono {T b:List cD}(h:∀i,cv T i->cv b i){v:Int×Int}(hv:dM T v):dM b v:=⟨fun e=>⟨(hv.t e).1,h _ (hv.t e).2⟩,hv.o⟩
theorem Kl {N y g:Nat}{ws Y G:List Int}(h:d5 N y g ws Y G)(hy:y<=N){b v i j:Int}(c:b∈Y\/b∈G)(hv:v∈Y\/v∈G)(f:0<=i)(k:i<pf (ld N y g ws b))(j0:0<=j)(l:j<pf (ld N y g ws v))(e:b+1+i=v+1+j):b=v:=by
 rcases c with c|c<;>rcases hv with hv|hv
 ·rcases Int.lt_trichotomy b v with d|d|d
  ·have:=h.ty.apart b c v hv d;omega
  ·exact d
  ·have:=h.ty.apart v hv b c d;omega
 ·have m:=m6 h c f k;have n:=m7 h hv j0 l;omega
 ·have m:=m6 h hv j0 l;have n:=m7 h c f k;omega
 ·exact yX h c hv f k j0 l e
section
variable {a:Wc}{S:cq}{W:ck}{m:Nat->Int}{Y G:List Int}
theorem cy.mem (h:cy a S W m Y G){i:Nat}(hi:cv W.T i):m i∈Y\/m i∈G:=by
 cases e:(W.T.getD i t0).2.2.1
 ·exact aK (h.ik i hi e)
 ·exact aJ (h.old i hi e)
theorem cy.bd (h:cy a S W m Y G)(hb:cI a S.s){i:Nat}(hi:cv W.T i):0<=m i/\m i<1280:=by
 have c:=hb.n1;have d:=hb.o1;have e:=hb.y1;have f:=hb.g1;rcases h.mem hi with b|b
 ·have:=h.kv.inv.full.iw _ b;omega
 ·have:=h.kv.inv.full.io _ b;omega
theorem cy.word (h:cy a S W m Y G)(hb:cI a S.s){i:Nat}(hi:cv W.T i):vc 3 (m i)=0/\cY (ew 3 (m i))=true/\cg (ew 3 (m i))=m i:=by have hB:=h.bd hb hi;have h0:=nG (m i) hB.1 V;have b:=nF 3 (m i) h0;exact⟨h0,b.1,b.2 rfl⟩
theorem cy.vt (h:cy a S W m Y G)(hb:cI a S.s){v:Int×Int}(hv:dM W.T v)(b:v.1=3):cY (wv m v)=true/\cg (wv m v)=m v.2.toNat:=by rw[il b];exact(h.word hb (hv.t b).2).2
theorem dM.no {T:List cD}{v:Int×Int}(hv:dM T v)(b:v.1≠3):cY (wv m v)=false:=by rw[jm b,(nF _ _ (hv.o b)).1];simpa using b
theorem cy.uW (h:cy a S W m Y G)(hb:cI a S.s){v:Int×Int}(hv:dM W.T v):cY (wv m v)=(v.1==3):=by
 by_cases c:v.1=3
 ·rw[(h.vt hb hv c).1,c];rfl
 ·rw[hv.no c];simp[c]
theorem cy.at (h:cy a S W m Y G)(hb:cI a S.s){v:Int×Int}(hv:dM W.T v)(ha:cY (wv m v)=true):cg (wv m v)∈Y\/cg (wv m v)∈G:=by
 rw[h.uW hb hv] at ha;have b:v.1=3:=by simpa using ha
 rw[(h.vt hb hv b).2];exact h.mem (hv.t b).2
theorem cy.dec (h:cy a S W m Y G)(hb:cI a S.s){v:Int×Int}(hv:dM W.T v):dc (wv m v)=0/\dk (wv m v)=v.1/\de (wv m v)=if v.1=3 then m v.2.toNat else v.2:=by
 by_cases c:v.1=3
 ·rw[il c,aI c,c];exact pT 3 _ (h.word hb (hv.t c).2).1
 ·rw[jm c,aG c];exact pT _ _ (hv.o c)
theorem cy.A1 (h:cy a S W m Y G)(hb:cI a S.s){v b:Int×Int}(hv:dM W.T v)(d:dM W.T b)(e:wv m v=wv m b):v=b:=by
 obtain⟨_,k1,n1⟩:=h.dec hb hv;obtain⟨_,f,g⟩:=h.dec hb d;rw[e] at k1 n1;have e6:=k1.symm.trans f;rw[g] at n1;by_cases c:v.1=3
 ·have c2:=e6▸c
  rw[aI c,aI c2] at n1;have:=h.inj _ _ (d.t c2).2 (hv.t c).2 n1;have i:=(hv.t c).1;have j:=(d.t c2).1;exact Prod.ext e6 V
 ·rw[aG c,aG (e6▸c)] at n1;exact Prod.ext e6 n1.symm
theorem cy.parts (h:cy a S W m Y G){i:Nat}(hi:cv W.T i):pk (ld a.N S.s.y S.s.g S.s.ws (m i))=(W.T.getD i t0).1/\pf (ld a.N S.s.y S.s.g S.s.ws (m i))=(W.T.getD i t0).2.1.length/\pc (ld a.N S.s.y S.s.g S.s.ws (m i))=0:=by obtain⟨b,c⟩:=h.hd i hi;rw[c];exact pU _ _ b
theorem cy.tB (h:cy a S W m Y G)(hb:cI a S.s){v:Int×Int}(hv:dM W.T v):tB a.N S.s.y S.s.g S.s.ws (wv m v)=(v.1==3):=by
 by_cases c:v.1=3
 ·rw[(i6 (O:=a.O) h.kv.inv.full hb.n1 hb.y1 hb.o1 hb.g1).2 ⟨(h.vt hb hv c).1,h.at hb hv (h.vt hb hv c).1⟩,c];rfl
 ·have e:(v.1==3)=false:=by simpa using c
  rw[e,Bool.eq_false_iff];intro b;have:=((i6 (O:=a.O) h.kv.inv.full hb.n1 hb.y1 hb.o1 hb.g1).1 b).1;rw[hv.no c] at this
  cases this
theorem cy.root (h:cy a S W m Y G){i:Nat}(hi:i<12):S.s.rs.getD i 0=wv m (W.rs.getD i (0,0))/\dM W.T (W.rs.getD i (0,0)):=by
 have hl:i<W.rs.length:=by rw[h.rl];exact hi
 exact⟨by rw[h.rs];exact jY _ _ _ _ _ hl,h.rv _ (getD_in hl)⟩
theorem cy.code (h:cy a S W m Y G)(hb:cI a S.s){A:Nat}(f:A<12)(I:Int):ej a.N S.s.y S.s.g S.s.ws (S.s.rs.getD A 0) I=W.gc A I:=by
 obtain⟨e,hv⟩:=h.root f;rw[e];unfold ej ck.gc ck.th;rw[h.tB hb hv];by_cases c:(W.rs.getD A (0,0)).1=3
 ·have b:((W.rs.getD A (0,0)).1==3)=true:=by simpa using c
  obtain⟨z,al⟩:=hv.t c;obtain⟨g,i,_⟩:=h.parts al;rw[b,aI rfl,aI c,(h.vt hb hv c).2,h.kv.inv.full.stands hb.y1 (h.mem al),g,i];have j:W.T.getD (W.rs.getD A (0,0)).2.toNat (0,[],false,false)=W.T.getD (W.rs.getD A (0,0)).2.toNat t0:=rfl;rw[j];by_cases c5:(W.T.getD (W.rs.getD A (0,0)).2.toNat t0).1=5
  ·rw[aI c5,aI (aJ c5)]
  ·have k:¬((W.rs.getD A (0,0)).2<0\/(W.T.getD (W.rs.getD A (0,0)).2.toNat t0).1=5):=fun d=>d.elim (fun d=>absurd z V) c5;rw[aG c5,aG k]
 ·have b:((W.rs.getD A (0,0)).1==3)=false:=by simpa using c
  rw[b,aG Z,aG c,aI (aK aa)]
theorem cy.put (h:cy a S W m Y G)(hb:cI a S.s)(k:Nat){v:Int×Int}(hv:dM W.T v):cy a ⟨{S.s with rs:=S.s.rs.set k (wv m v)},S.r,S.q⟩ {W with rs:=W.rs.set k v} m Y G:=
 {
  kv:=h.kv.root k _ (fun ha=>h.at hb hv ha),rl:=by rw[a4];exact h.rl
  rv:=fun b c=>(yV c).elim (h.rv b) (fun e=>by rw[e];exact hv),fv:=h.fv
  rs:=by rw[h.rs,List.map_set]
  ik:=h.ik,old:=h.old,inj:=h.inj,f4:=h.f4,hd:=h.hd,fd:=h.fd,rg:=h.rg,gv:=h.gv,wt:=h.wt,dx:=h.dx,tl:=h.tl}
theorem cy.beside (h:cy a S W m Y G){r q:List b7}(hr:∀e∈r,iF W.T e)(hq:∀e∈q,iF W.T e):cy a ⟨S.s,r.map (we m),q.map (we m)⟩ {W with rg:=r,wt:=q} m Y G:=
 {kv:=h.kv,rl:=h.rl,rv:=h.rv,fv:=h.fv,rs:=h.rs,ik:=h.ik,old:=h.old,inj:=h.inj,f4:=h.f4,hd:=h.hd,fd:=h.fd,rg:=rfl,gv:=hr,wt:=rfl,dx:=hq,tl:=h.tl}
theorem Km {T:List cD}{i:Nat}{t:cD}(hi:i<T.length)(hd:t.2.2.2=(T.getD i t0).2.2.2)(j:Nat):cv (T.set i t) j↔cv T j:=by
 unfold cv;rw[a4,pO _ _ _ _ _ hi];by_cases e:i=j
 ·subst e;rw[aI rfl,hd]
 ·rw[aG e]
theorem cy.store (h:cy a S W m Y G)(hb:cI a S.s){i k:Nat}(hi:cv W.T i)(hk:k<(W.T.getD i t0).2.1.length){v:Int×Int}(hv:dM W.T v){ws M:List Int}(ew:ws=S.s.ws.set (m i+1+k).toNat (wv m v))(t:el a {S.s with ws:=ws,M:=M} Y G):
 cy a ⟨{S.s with ws:=ws,M:=M},S.r,S.q⟩ {W with T:=W.T.set i ((W.T.getD i t0).1,(W.T.getD i t0).2.1.set k v,(W.T.getD i t0).2.2)} m Y G:=by
 have al:∀j,cv (W.T.set i ((W.T.getD i t0).1,(W.T.getD i t0).2.1.set k v,(W.T.getD i t0).2.2)) j↔cv W.T j:=Km hi.1 rfl;have gt:∀j,(W.T.set i ((W.T.getD i t0).1,(W.T.getD i t0).2.1.set k v,(W.T.getD i t0).2.2)).getD j t0=if i=j then((W.T.getD i t0).1,(W.T.getD i t0).2.1.set k v,(W.T.getD i t0).2.2) else W.T.getD j t0:=fun j=>pO _ _ _ _ _ hi.1
 have gl:∀j,((W.T.set i ((W.T.getD i t0).1,(W.T.getD i t0).2.1.set k v,(W.T.getD i t0).2.2)).getD j t0).2.1.length=(W.T.getD j t0).2.1.length:=fun j=>by
  rw[gt];split
  ·rename_i e;subst e;simp
  ·rfl
 have g1:∀j,((W.T.set i ((W.T.getD i t0).1,(W.T.getD i t0).2.1.set k v,(W.T.getD i t0).2.2)).getD j t0).1=(W.T.getD j t0).1:=fun j=>by
  rw[gt];split
  ·rename_i e;subst e;rfl
  ·rfl
 have g2:∀j,((W.T.set i ((W.T.getD i t0).1,(W.T.getD i t0).2.1.set k v,(W.T.getD i t0).2.2)).getD j t0).2.2=(W.T.getD j t0).2.2:=fun j=>by
  rw[gt];split
  ·rename_i e;subst e;rfl
  ·rfl
 obtain⟨u,w,_⟩:=h.parts hi;have k1:(k:Int)<pf (ld a.N S.s.y S.s.g S.s.ws (m i)):=V;obtain⟨_,p⟩:=h.kv.inv.full.set hb.l1 hb.y1 hb.g1 (h.mem hi) (Int.natCast_nonneg k) k1;rw[<-ew] at p;have g:∀c,dM W.T c->_:=fun c d=>d.mono (fun j b=>(al j).2 b)
 have q:∀e,iF W.T e->iF (W.T.set i ((W.T.getD i t0).1,(W.T.getD i t0).2.1.set k v,(W.T.getD i t0).2.2)) e:=fun e he=>⟨he.g0,(al _).2 he.g,by rw[g1];exact he.k,he.h0,(al _).2 he.h⟩
 have x:=jr (jR h.kv.inv.full (h.mem hi) (Int.natCast_nonneg k) k1) hb.y1 hb.g1;exact
 {
  kv:=t,rl:=h.rl,rv:=fun c d=>g c (h.rv c d)
  fv:=fun j b c d=>by
   have f:=(al j).1 b;have d:=d;rw[gt] at d;split at d
   ·rename_i e;rcases yV d with l|l
    ·exact g c (h.fv i hi c l)
    ·rw[l];exact g v hv
   ·exact g c (h.fv j f c d)
  rs:=h.rs
  ik:=fun j b e=>h.ik j ((al j).1 b) (by rw[<-g2];exact e)
  old:=fun j b e=>h.old j ((al j).1 b) (by rw[<-g2];exact e)
  inj:=fun j s b f e=>h.inj j s ((al j).1 b) ((al s).1 f) e
  f4:=fun c d=>by obtain⟨j,b,e⟩:=h.f4 c d;exact⟨j,(al j).2 b,e⟩
  hd:=fun j b=>by have f:=(al j).1 b;rw[gl,g1,p _ (h.mem f)];exact h.hd j f
  fd:=fun j b n hn=>by
   have f:=(al j).1 b;have hn:=hn;rw[gl] at hn;obtain⟨_,A,_⟩:=h.parts f;have n1:(n:Int)<pf (ld a.N S.s.y S.s.g S.s.ws (m j)):=V;have o:=jR h.kv.inv.full (h.mem f) (Int.natCast_nonneg n) n1;have B:=jr o hb.y1 hb.g1;rw[dW o,ew,j9 _ _ _ _ (by have:=hb.l1;omega),<-dW o,h.fd j f n hn,gt];by_cases e:i=j
   ·subst e;rw[aI rfl];show _=wv m _;rw[pO _ _ _ _ _ hk];by_cases e6:k=n
    ·subst e6;rw[aI rfl,aI rfl]
    ·rw[aG e6,aG V]
   ·rw[aG e,aG (fun l=>e ?_)];exact h.inj i j hi f (Kl h.kv.inv.full hb.y1 (h.mem hi) (h.mem f) (Int.natCast_nonneg k) k1 (Int.natCast_nonneg n) n1 V)
  rg:=h.rg,gv:=fun e he=>q e (h.gv e he),wt:=h.wt,dx:=fun e he=>q e (h.dx e he)
  tl:=fun j=>by rw[gl];exact h.tl j}
theorem A2 {T:List cD}{t:cD}(ht:t.2.2.2=false)(j:Nat):cv (T++[t]) j↔cv T j\/j=T.length:=by
 unfold cv;rcases Nat.lt_trichotomy j T.length with b|b|b
 ·rw[aE,List.getElem?_append_left b,<-aE];exact⟨fun q=>aK ⟨b,q.2⟩,fun q=>q.elim (fun q=>⟨by simp;omega,q.2⟩) (fun e=>absurd b V)⟩
 ·subst b;rw[aE,List.getElem?_append_right bW];simp[ht]
 ·simp;omega
theorem lK {b:Type}(l:List b)(t c:b)(j:Nat)(h:j<l.length):(l++[t]).getD j c=l.getD j c:=by rw[aE,List.getElem?_append_left h,<-aE]
theorem nA {b:Type}(l:List b)(t c:b):(l++[t]).getD l.length c=t:=by simp
def nB (m:Nat->Int)(n:Nat)(y:Int)(i:Nat):Int:=if i=n then y else m i
theorem cy.new (h:cy a S W m Y G){kd:Int}{l:List _}(hk:hc kd l.length=0)(w:∀v∈l,dM W.T v){c:d9}(er:c.rs=S.s.rs)(F:c.y<=a.N)(t:el a c (Y++[(S.s.y:Int)]) G)
 (B:ld a.N c.y c.g c.ws S.s.y=hw kd l.length)(C:∀k:Nat,k<l.length->ld a.N c.y c.g c.ws (S.s.y+1+k)=wv m (l.getD k (0,0)))
 (h0:∀v,(v∈Y\/v∈G)->ld a.N c.y c.g c.ws v=ld a.N S.s.y S.s.g S.s.ws v)(D:∀v,(v∈Y\/v∈G)->∀k:Nat,(k:Int)<pf (ld a.N S.s.y S.s.g S.s.ws v)->ld a.N c.y c.g c.ws (v+1+k)=ld a.N S.s.y S.s.g S.s.ws (v+1+k)):
 cy a ⟨c,S.r,S.q⟩ {W with T:=W.T++[(kd,l,false,false)]} (nB m W.T.length S.s.y) (Y++[(S.s.y:Int)]) G:=by
 have al:∀j,cv (W.T++[(kd,l,false,false)]) j↔cv W.T j\/j=W.T.length:=A2 rfl;have f:∀i,cv W.T i->nB m W.T.length S.s.y i=m i:=fun i hi=>by unfold nB;rw[aG (by have:=hi.1;omega)]
 have p:nB m W.T.length S.s.y W.T.length=S.s.y:=by unfold nB;rw[aI rfl]
 have u:∀n,dM W.T n->_:=fun n g=>g.mono (fun j d=>(al j).2 (aK d))
 have x:∀e,iF W.T e->iF (W.T++[(kd,l,false,false)]) e:=fun e he=>⟨he.g0,(al _).2 (aK he.g),by rw[lK _ _ _ _ he.g.1];exact he.k,he.h0,(al _).2 (aK he.h)⟩
 have A:∀j,cv W.T j->m j≠S.s.y:=fun j d e=>by
  rcases h.mem d with b|b
  ·have:=h.kv.inv.full.iw _ b;omega
  ·have E:(S.s.y:Int)∈Y++[(S.s.y:Int)]:=Z;have n1:=t.inv.full.iw _ E;have H:=t.inv.full.io _ b;omega
 exact
 {
  kv:=t,rl:=h.rl,rv:=fun n g=>u n (h.rv n g)
  fv:=fun j d n g=>by
   rcases(al j).1 d with b|b
   ·have g:=g;rw[lK _ _ _ _ b.1] at g;exact u n (h.fv j b n g)
   ·have g:=g;rw[b,nA] at g;exact u n (w n g)
  rs:=by show c.rs=W.rs.map _;rw[er,h.rs];exact List.map_congr_left (fun v hv=>(uV f (h.rv v hv)).symm)
  ik:=fun j d e=>by
   rcases(al j).1 d with b|b
   ·have e:=e;rw[lK _ _ _ _ b.1] at e;rw[f j b];exact aX _ (h.ik j b e)
   ·rw[b,p];simp
  old:=fun j d e=>by
   have e:=e;rcases(al j).1 d with b|b
   ·rw[lK _ _ _ _ b.1] at e;rw[f j b];exact h.old j b e
   ·rw[b,nA] at e;cases e
  inj:=fun i j hi d e=>by
   rcases(al i).1 hi with b|b<;>rcases(al j).1 d with q|q
   ·rw[f i b,f j q] at e;exact h.inj i j b q e
   ·rw[f i b,q,p] at e;exact absurd e (A i b)
   ·rw[f j q,b,p] at e;exact absurd e.symm (A j q)
   ·omega
  f4:=fun v hv=>by
   have s:(v∈Y\/v∈G)\/v=S.s.y:=by
    rcases hv with hv|hv
    ·rcases List.mem_append.1 hv with b|b
     ·exact aK (aK b)
     ·exact aJ (List.mem_singleton.1 b)
    ·exact aK (aJ hv)
   rcases s with s|s
   ·obtain⟨j,d,e⟩:=h.f4 v s;exact⟨j,(al j).2 (aK d),by rw[f j d];exact e⟩
   ·exact⟨W.T.length,(al _).2 (aJ rfl),by rw[p,s]⟩
  hd:=fun j d=>by
   show hc _ _=0/\ld a.N c.y c.g c.ws _=hw _ _;rcases(al j).1 d with b|b
   ·rw[lK _ _ _ _ b.1,f j b,h0 _ (h.mem b)];exact h.hd j b
   ·rw[b,nA,p];exact⟨hk,B⟩
  fd:=fun j d k o=>by
   have o:=o;show ld a.N c.y c.g c.ws _=wv _ _;rcases(al j).1 d with b|b
   ·rw[lK _ _ _ _ b.1] at o⊢;rw[f j b,D _ (h.mem b) k (by rw[(h.parts b).2.1];omega),h.fd j b k o];exact(uV f (h.fv j b _ (getD_in o))).symm
   ·rw[b,nA] at o⊢;rw[p,C k o];exact(uV f (w _ (getD_in o))).symm
  rg:=by show S.r=W.rg.map _;rw[h.rg];exact List.map_congr_left (fun e he=>(A0 f (h.gv e he)).symm)
  gv:=fun e he=>x e (h.gv e he)
  wt:=by show S.q=W.wt.map _;rw[h.wt];exact List.map_congr_left (fun e he=>(A0 f (h.dx e he)).symm)
  dx:=fun e he=>x e (h.dx e he)
  tl:=fun j=>by
   show((W.T++[(kd,l,false,false)]).getD j t0).2.1.length<=12;rcases Nat.lt_trichotomy j W.T.length with b|b|b
   ·rw[lK _ _ _ _ b];exact h.tl j
   ·rw[b,nA];have:=iS _ _ hk;show l.length<=12;omega
   ·rw[aE,List.getElem?_eq_none (by simp;omega)];simp[t0]}
end
def fT (P:Nat->Bool)(z:Nat->Nat):Nat->Nat
 |0=>0
 |n+1=>fT P z n+if P n=true then z n else 0
theorem A3 {P:Nat->Bool}{z:Nat->Nat}{m:Nat->Int}{f:Int->Nat}:∀n,(∀i,i<n->P i=true->f (m i)=z i)->fT P z n=gn f (((List.range n).filter P).map m)
 |0,_=>by simp[fT,gn]
 |n+1,h=>by
  rw[fT,A3 n (fun i hi hp=>h i V hp),List.range_succ,List.filter_append,List.map_append,Ge];cases c:P n
  ·simp[c,gn]
  ·simp[c,gn,h n V c]
theorem uX {P:Nat->Bool}{z:Nat->Nat}{m:Nat->Int}{f:Int->Nat}{n:Nat}{l:List Int}(o:∀i,i<n->P i=true->f (m i)=z i)(hn:l.Nodup)(inj:∀i j,i<n->j<n->P i=true->P j=true->m i=m j->i=j)(hl:∀v,v∈l↔∃i,i<n/\P i=true/\m i=v):fT P z n=gn f l:=by
 rw[A3 n o];have k:∀v,v∈((List.range n).filter P).map m↔v∈l:=fun v=>by
  rw[hl v];simp only [List.mem_map,List.mem_filter,List.mem_range];constructor
  ·rintro⟨i,⟨b,c⟩,d⟩
   exact⟨i,b,c,d⟩
  ·rintro⟨i,b,c,d⟩
   exact⟨i,⟨b,c⟩,d⟩
 have nd:(((List.range n).filter P).map m).Nodup:=by
  unfold List.Nodup;rw[List.pairwise_map];refine List.Pairwise.imp_of_mem (fun {i j} hi g p e=>p ?_) (List.nodup_range.filter _)
  simp only [List.mem_filter,List.mem_range] at hi g;exact inj i j hi.1 g.1 hi.2 g.2 e
 exact Nat.le_antisymm (yT nd hn (fun v hv=>(k v).1 hv)) (yT hn nd (fun v hv=>(k v).2 hv))
theorem A4 {P Q:Nat->Bool}{z:Nat->Nat}:∀n,(∀i,i<n->P i=true->Q i=true)->fT P z n<=fT Q z n
 |0,_=>aD _
 |n+1,h=>by
  have b:=A4 (z:=z) n (fun i hi=>h i V)
  rw[fT,fT];by_cases c:P n=true
  ·rw[aI c,aI (h n V c)];omega
  ·rw[aG c];omega
theorem A6 {P Q R:Nat->Bool}{z:Nat->Nat}:∀n,(∀i,i<n->R i=(P i||Q i)/\(P i&&Q i)=false)->fT R z n=fT P z n+fT Q z n
 |0,_=>rfl
 |n+1,h=>by obtain⟨b,c⟩:=h n V;rw[fT,fT,fT,(A6 n (fun i hi=>h i V)),b];cases hp:P n<;>cases hq:Q n<;>simp_all<;>omega
def iG (T:List cD)(i:Nat):Nat:=1+(T.getD i t0).2.1.length
def jn (T:List cD)(i:Nat):Bool:=!(T.getD i t0).2.2.2&&!(T.getD i t0).2.2.1
def oB (T:List cD)(i:Nat):Bool:=!(T.getD i t0).2.2.2&&(T.getD i t0).2.2.1
theorem A7 (T:List cD):∀n,n<=T.length->d_ (T.take n)=((fT (jn T) (iG T) n:Int),(fT (oB T) (iG T) n:Int))
 |0,_=>by simp[d_,fT]
 |n+1,h=>by
  rw[gx T n V t0,xX,A7 T n V];show i3 _ _=(((fT (jn T) (iG T) n+if jn T n=true then iG T n else 0:Nat):Int),((fT (oB T) (iG T) n+if oB T n=true then iG T n else 0:Nat):Int))
  unfold i3 jn oB iG;generalize T.getD n t0=t;cases hd:t.2.2.2<;>cases ho:t.2.2.1<;>simp
theorem A8 (T:List cD):d_ T=((fT (jn T) (iG T) T.length:Int),(fT (oB T) (iG T) T.length:Int)):=by
 have:=A7 T T.length bW
 rwa [bu] at this
theorem uY (T:List cD)(L:List Bool):∀n,iD T L n=(fT (fun i=>L.getD i false) (iG T) n:Int)
 |0=>rfl
 |n+1=>by
  rw[iD,uY T L n,fT];split
  ·simp[iG]
  ·simp
section
variable {a:Wc}{S:cq}{W:ck}{m:Nat->Int}{Y G:List Int}
theorem cy.size (h:cy a S W m Y G){i:Nat}(hi:cv W.T i):na (ld a.N S.s.y S.s.g S.s.ws) (m i)=iG W.T i:=by unfold na iG;rw[(h.parts hi).2.1];simp
theorem mE {T:List cD}{i:Nat}(b:i<T.length)(c:(T.getD i t0).2.2.2=false):cv T i:=⟨b,c⟩
theorem cy.us (h:cy a S W m Y G)(hb:cI a S.s):d_ W.T=((S.s.y:Int),(S.s.g:Int)):=by
 have l:=hb.y1;have d:fT (jn W.T) (iG W.T) W.T.length=gn (na (ld a.N S.s.y S.s.g S.s.ws)) Y:=by
  refine uX (m:=m) (fun i hi hp=>?_) h.kv.inv.full.ty.nodup (fun i j hi b hp hq e=>?_) (fun v=>⟨fun hv=>?_,?_⟩)
  ·unfold jn at hp;simp at hp;exact h.size (mE hi hp.1)
  ·unfold jn at hp hq;simp at hp hq;exact h.inj i j (mE hi hp.1) (mE b hq.1) e
  ·obtain⟨i,hi,e⟩:=h.f4 v (aK hv)
   refine⟨i,hi.1,?_,e⟩
   unfold jn;rw[hi.2];cases c:(W.T.getD i t0).2.2.1
   ·rfl
   ·have f:=h.kv.inv.full.io _ (h.old i hi c)
    have g:=h.kv.inv.full.iw v hv;omega
  ·rintro⟨i,hi,hp,e⟩
   unfold jn at hp;simp at hp;rw[<-e];exact h.ik i (mE hi hp.1) hp.2
 have k:fT (oB W.T) (iG W.T) W.T.length=gn (na (ld a.N S.s.y S.s.g S.s.ws)) G:=by
  refine uX (m:=m) (fun i hi hp=>?_) h.kv.inv.full.ec.nodup (fun i j hi b hp hq e=>?_) (fun v=>⟨fun hv=>?_,?_⟩)
  ·unfold oB at hp;simp at hp;exact h.size (mE hi hp.1)
  ·unfold oB at hp hq;simp at hp hq;exact h.inj i j (mE hi hp.1) (mE b hq.1) e
  ·obtain⟨i,hi,e⟩:=h.f4 v (aJ hv)
   refine⟨i,hi.1,?_,e⟩
   unfold oB;rw[hi.2];cases c:(W.T.getD i t0).2.2.1
   ·have f:=h.kv.inv.full.iw _ (h.ik i hi c)
    have g:=h.kv.inv.full.io v hv;omega
   ·rfl
  ·rintro⟨i,hi,hp,e⟩
   unfold oB at hp;simp at hp;rw[<-e];exact h.old i (mE hi hp.1) hp.2
 have n:=h.kv.inv.full.ty.sum;have o:=h.kv.inv.full.ec.sum;rw[A8,d,k];exact Prod.ext V V
theorem Kn:ew 0 0=2:=aa
end
theorem cy.start (a:Wc)(n o:Nat):cy a (g9 n o).1 (g9 n o).2 (fun _=>0) [] []:=by
 have no:∀i,¬cv (g9 n o).2.T i:=fun i hi=>absurd hi.1 (Nat.not_lt_zero i)
 have d:∀x∈(g9 n o).1.s.rs,cY x=true->cg x∈([]:List Int)\/cg x∈([]:List Int):=fun x c ha=>by
  have c:x∈tw 2 12:=c;have e:x=2:=by simpa[tw] using c
  rw[e,zt] at ha;cases ha
 exact
 {
  kv:=⟨⟨d5.start,d,fun v hv=>(by rcases hv with b|b<;>cases b)⟩,fun v hv=>(by cases hv)⟩
  rl:=by simp[g9],rv:=fun v hv=>by rw[List.eq_of_mem_replicate hv];exact dM.nil _
  fv:=fun i hi=>absurd hi (no i),rs:=by show tw 2 12=(List.replicate 12 ((0,0):Int×Int)).map (wv fun _=>0);decide
  ik:=fun i hi=>absurd hi (no i),old:=fun i hi=>absurd hi (no i),inj:=fun i _ hi=>absurd hi (no i)
  f4:=fun v hv=>by rcases hv with b|b<;>cases b
  hd:=fun i hi=>absurd hi (no i),fd:=fun i hi=>absurd hi (no i),rg:=rfl,gv:=fun e he=>(by cases he),wt:=rfl,dx:=fun e he=>(by cases he)
  tl:=fun i=>by simp[g9,t0]}
section
variable {a:Wc}{S:cq}{W:ck}{m:Nat->Int}{Y G:List Int}
theorem cy.uS (h:cy a S W m Y G)(c:W.T.length<=10000)(d:W.rg.length<=1000)(b:W.wt.length<=1000):fH W:=
 {
  iv:=⟨fun i hi hk=>by have:=oF _ _ (h.hd i hi).1;omega,fun i hi v hv b=>(h.fv i hi v hv).t b,fun e he=>⟨(h.dx e he).h0,(h.dx e he).h⟩,h.tl⟩
  rv:=fun v hv b=>(h.rv v hv).t b
  gv:=fun e he=>⟨⟨(h.gv e he).g0,(h.gv e he).g⟩,(h.gv e he).h0,(h.gv e he).h⟩
  wg:=fun e he=>⟨(h.dx e he).g0,(h.dx e he).g⟩
  tl:=c,gl:=d,wl:=b}
theorem cy.iv (h:cy a S W m Y G):e4 W.T W.wt:=
 ⟨fun i hi hk=>by have:=oF _ _ (h.hd i hi).1;omega,fun i hi v hv b=>(h.fv i hi v hv).t b,fun e he=>⟨(h.dx e he).h0,(h.dx e he).h⟩,h.tl⟩
theorem cy.first (h:cy a S W m Y G)(mj:Bool):gD W.T (jW W.T W.rs mj):=
 ⟨zX _ _ _,fun k hk=>by
  obtain⟨c,b⟩:=(kt _ _ _ _).1 hk;rcases b with⟨_,b,_⟩|⟨v,hv,d,e⟩
  ·exact⟨c,b⟩
  ·rw[<-e];exact((h.rv v hv).t d).2⟩
theorem cy.field (h:cy a S W m Y G){i:Nat}(hi:cv W.T i){v:Int×Int}(hv:v∈(W.T.getD i t0).2.1):∃k:Nat,k<(W.T.getD i t0).2.1.length/\(W.T.getD i t0).2.1.getD k (0,0)=v/\ld a.N S.s.y S.s.g S.s.ws (m i+1+k)=wv m v:=by
 obtain⟨k,hk,e⟩:=List.mem_iff_getElem.1 hv;have b:(W.T.getD i t0).2.1.getD k (0,0)=v:=by rw[aE,aL hk,e];rfl
 exact⟨k,hk,b,by rw[h.fd i hi k hk,b]⟩
theorem cy.two (h:cy a S W m Y G){i:Nat}(hi:cv W.T i)(hk:(W.T.getD i t0).1=1\/(W.T.getD i t0).1=3\/(W.T.getD i t0).1=4):(W.T.getD i t0).2.1.length=2:=by have:=oF _ _ (h.hd i hi).1;omega
end
structure kT (k:ce)(z:C0)(C:Int->Prop):Prop where
 old:∀b∈z.G,C b
 p:∀c,(c∈k.T\/c∈z.G)->C c->pk (k.l0 z c)=1\/pk (k.l0 z c)=2->∀i:Nat,(i:Int)<pf (k.l0 z c)->k.cK (k.l0 z (c+1+i))=true->C (cg (k.l0 z (c+1+i)))
 w:∀c,(c∈k.T\/c∈z.G)->C c->pk (k.l0 z c)=3->k.cK (k.l0 z (c+1+1))=true->C (cg (k.l0 z (c+1+1)))
 e:∀c,(c∈k.T\/c∈z.G)->C c->pk (k.l0 z c)=4->(k.cK (k.l0 z (c+1+0))=true->C (cg (k.l0 z (c+1+0))))->k.cK (k.l0 z (c+1+1))=true->C (cg (k.l0 z (c+1+1)))
def kU (k:ce)(C:Int->Prop)(q:List b7):Prop:=∀e∈q,(k.cK e.1=true->C (cg e.1))->k.cK e.2=true->C (cg e.2)
def c9 (k:ce)(C:Int->Prop)(s:cj):Prop:=∀a∈k.T,s.f a≠-1->C a
section
variable {k:ce}{z:C0}{s t:cj}{H D:List Int}{C:Int->Prop}
theorem nD {x:Int}(h:k.cK x=true):cg x∈k.T:=by unfold ce.cK at h;simp at h;exact h.2
theorem mF {x:Int}(h:k.ls s x=true):k.cK x=true:=by unfold ce.ls at h;rw[a_] at h;exact h.1
theorem c9.br (h:c9 k C s)(x:Int)(f:k.cK x=true->C (cg x)):c9 k C (k.br s x).2:=by
 unfold ce.br;split
 ·rename_i c;intro b hb d;by_cases e:b=cg x
  ·rw[e];exact f (mF c)
  ·refine h b hb ?_;have g:(k.cp s (cg x)).f b=s.f b:=by unfold ce.cp gz;dsimp only;rw[aG e]
   have d:=d;rw[g] at d;exact d
 ·exact h
theorem dE.rK (h:dE k z s H){a b i:Int}(ho:k.or z s a b)(c:0<=i)(d:i<pf (k.l0 z a))(hl:k.cK (k.ld s (b+1+i))=true):k.ld s (b+1+i)=k.l0 z (a+1+i):=by
 rcases h.fd a b ho i c d with e|⟨y1,f,g⟩
 ·exact e
 ·have hb:=h.i5 (h.fh _ (nD y1) f)
  have n1:=h.ci.hN';have j:=h.ci.hO;have l:=h.ci.hg;rw[g,m9 h.ci hb.1 V] at hl;cases hl
theorem c9.kf (h:c9 k C s)(mi:dE k z s H){a b i:Int}(ho:k.or z s a b)(c:0<=i)(d:i<pf (k.l0 z a))(f:k.cK (k.l0 z (a+1+i))=true->C (cg (k.l0 z (a+1+i)))):c9 k C (k.kf s (b+1+i)):=
 h.br _ (fun hy=>by have e:=mi.rK ho c d hy;rw[e] at hy;rw[e];exact f hy)
theorem c9.fU (h:c9 k C s)(mi:dE k z s H){a b:Int}(ho:k.or z s a b)(c:∀i:Nat,(i:Int)<pf (k.l0 z a)->k.cK (k.l0 z (a+1+i))=true->C (cg (k.l0 z (a+1+i)))):∀n:Nat,(n:Int)<=pf (k.l0 z a)->c9 k C (k.fU s b n)
 |0,_=>h
 |n+1,hn=>by obtain⟨e,m1,d,_⟩:=mi.fU ho n V;exact(c9.fU h mi ho c n V).kf m1 (d.or ho) V V (c n V)
theorem uZ {a b:Int}(ho:k.or z s a b):a∈k.T\/a∈z.G:=by
 rcases ho with⟨e,h⟩|⟨h,_⟩
 ·rw[e];exact aJ h
 ·exact aK h
theorem c9.or (h:c9 k C s)(d:kT k z C){a b:Int}(ho:k.or z s a b):C a:=by
 rcases ho with⟨e,c⟩|⟨c,f,g⟩
 ·rw[e];exact d.old b c
 ·exact h a c (by rw[f];exact g)
theorem c9.lk (h:c9 k C s)(mi:dE k z s H)(d:kT k z C){a b:Int}(ho:k.or z s a b):c9 k C (k.lk s b):=by
 have ha:=h.or d ho;have hm:=uZ ho;have c:=mi.hd a b ho;have hb:=mi.bd (mi.mem ho)
 have l:=dj (k.ld s b)
 unfold ce.lk;by_cases c1:pk (k.ld s b)=1\/pk (k.ld s b)=2
 ·rw[aI c1];exact h.fU mi ho (d.p a hm ha (by rw[<-c];exact c1)) _ (by rw[<-c];omega)
 ·rw[aG c1];by_cases c3:pk (k.ld s b)=3
  ·rw[aI c3];have m:=ih hb.2.2 (aJ (aK c3))
   have hN:=mi.ci.hN';have hO:=mi.ci.hO;have hg:=mi.ci.hg;have g:=mi.turn (s.wk++[b]) s.ep s.rs s.nx (fun x i=>by
    rcases List.mem_append.1 i with e|e
    ·exact mi.ci.ix x e
    ·rw[bv] at e;omega) mi.ci.h7 mi.ci.g8 mi.ci.js
   have j:c9 k C {s with wk:=s.wk++[b],ep:=s.ep,rs:=s.rs,nx:=s.nx}:=h;have f:=j.kf g ho V (by rw[<-c];omega) (d.w a hm ha (by rw[<-c];exact c3))
   have ea:b+1+1=b+2:=V;rw[ea] at f;exact f
  ·rw[aG c3];split
   ·exact h
   ·exact h
theorem c9.lb (b:kT k z C):∀(n:Nat){s:cj}{H:List Int},LI k z s H D->c9 k C s->c9 k C (k.lb n s)
 |0,_,_,_,h=>h
 |n+1,s,H,l,h=>by
  unfold ce.lb;cases hn:hB k.N s.g s.nx
  ·rw[aG Z];exact h
  ·have hb:=jq hn;obtain⟨a,ho⟩:=l.mi.from (a9 z.G (l.bo.resolve_right V))
   obtain⟨c,m1,_,_⟩:=l.kG hn;exact c9.lb b n m1 (h.lk l.mi b ho)
theorem c9.key (h:c9 k C s)(mi:dE k z s H){a b:Int}(ho:k.or z s a b)(c:0<pf (k.l0 z a))(hl:k.ls s (k.ld s (b+1))=false)(hy:k.cK (k.l0 z (a+1+0))=true):C (cg (k.l0 z (a+1+0))):=by
 refine h _ (nD hy) ?_;have d:b+1+0=b+1:=V;rcases mi.fd a b ho 0 V c with e|⟨y1,f,_⟩
 ·rw[d] at e;intro g;unfold ce.ls at hl;rw[e,hy,g] at hl;simp at hl
 ·exact f
theorem c9.qJ (h:c9 k C s)(l:LI k z s H D)(d:kT k z C){b:Int}(hb:b∈z.G++H)(e:pk (k.ld s b)=4)(f:k.ls s (k.ld s (b+1))=false):c9 k C (k.kf (k.kf s (b+1)) (b+2)):=by
 obtain⟨a,o⟩:=l.mi.from hb;have p:=ih (l.mi.bd hb).2.2 (aJ (aJ e))
 have c:=l.mi.hd a b o;have j:b+1+0=b+1:=V;have m:b+1+1=b+2:=V;obtain⟨q,m1,n,_,_⟩:=l.mi.kf (i:=0) o V (by rw[<-c];omega)
 have g:=(h.kf l.mi o V (by rw[<-c];omega) (h.key l.mi o (by rw[<-c];omega) f)).kf m1 (n.or o) V (by rw[<-c];omega) (d.e a (uZ o) (h.or d o) (by rw[<-c];exact e) (h.key l.mi o (by rw[<-c];omega) f))
 rw[j,m] at g;exact g
theorem c9.iA (c:kT k z C):∀(l left:List Int){s:cj}{H:List Int},LI k z s H D->(∀a∈l,a∈z.G++H/\pk (k.ld s a)=4)->c9 k C s->c9 k C (l.foldl k.cP (left,s)).2
 |[],_,_,_,_,_,h=>h
 |b::l,left,s,H,li,hl,h=>by
  rw[a8];cases hls:k.ls s _
  ·have d:k.cP (left,s) b=(left,k.kf (k.kf s (b+1)) (b+2)):=by unfold ce.cP;rw[aG (by rw[hls];simp)]
   rw[d];obtain⟨e,f⟩:=hl b Z;obtain⟨m,m1,g,i,n,o⟩:=li.qJ e f;exact c9.iA c l left m1 (fun a ha=>by
    obtain⟨n1,j⟩:=hl a (aO _ ha)
    exact⟨kK i n1,by rw[g.hd li.mi m1.mi n1];exact j⟩) (h.qJ li c e f hls)
  ·have d:k.cP (left,s) b=(left++[b],s):=by unfold ce.cP;rw[aI hls]
   rw[d];exact c9.iA c l _ li (fun a ha=>hl a (aO _ ha)) h
theorem c9.kv (b:kT k z C)(l:LI k z s H D)(w:dL k z s H)(h:c9 k C s):c9 k C (k.kv s).2:=c9.iA b s.ep [] l w.ep h
theorem c9.km:∀(l:List Nat)(t:(cj×List b7)×Bool)(H:List Int),LI k z t.1.1 H D->dL k z t.1.1 H->(∀i∈l,i<t.1.2.length)->kU k C t.1.2->c9 k C t.1.1->c9 k C (l.foldl (dB k.al k.br) t).1.1/\kU k C (l.foldl (dB k.al k.br) t).1.2
 |[],_,_,_,_,_,q,h=>⟨h,q⟩
 |i::l,t,H,li,w,hl,q,h=>by
  rw[a8];by_cases c:(k.al t.1.1 (t.1.2.getD i (0,0)).2||!k.al t.1.1 (t.1.2.getD i (0,0)).1)=true
  ·have b:dB k.al k.br t i=t:=by unfold dB;rw[aI c]
   rw[b];exact c9.km l t H li w (fun j e=>hl j (aO _ e)) q h
  ·have b:dB k.al k.br t i=(((k.br t.1.1 (t.1.2.getD i (0,0)).2).2,t.1.2.set i ((t.1.2.getD i (0,0)).1,(k.br t.1.1 (t.1.2.getD i (0,0)).2).1)),true):=by unfold dB;rw[aG c]
   obtain⟨f,l1,w1,g,_⟩:=cX.br _ H li w;obtain⟨_,_,_,y1,_,_,_⟩:=li.mi.br _;have c2:k.al t.1.1 (t.1.2.getD i (0,0)).1=true:=by
    cases d:k.al t.1.1 _
    ·rw[d] at c;simp at c
    ·rfl
   have hg:k.cK (t.1.2.getD i (0,0)).1=true->_:=fun hy=>h _ (nD hy) (fun d=>by unfold ce.al ce.ls at c2;rw[hy,d] at c2;simp at c2)
   rw[b];refine c9.km l _ f l1 w1 (fun j e=>?_) ?_ (h.br _ (q _ (getD_in (hl i Z)) hg))
   ·show j<(t.1.2.set i _).length;rw[a4];exact hl j (aO _ e)
   ·intro d hd;have hd:=hd;rcases List.mem_or_eq_of_mem_set hd with hd|rfl
    ·exact q d hd
    ·intro _ hy;rw[y1] at hy;cases hy
theorem c9.wa {t:cj×List b7}(l:LI k z t.1 H D)(w:dL k z t.1 H)(q:kU k C t.2)(h:c9 k C t.1):c9 k C (k.wa t).1.1/\kU k C (k.wa t).1.2:=
 c9.km _ (t,false) H l w (fun _ hi=>List.mem_range.1 hi) q h
theorem c9.cW (b:kT k z C):∀(n:Nat)(t:cj×List b7)(H:List Int),LI k z t.1 H D->dL k z t.1 H->kU k C t.2->c9 k C t.1->c9 k C (k.cW n t).1/\kU k C (k.cW n t).2
 |0,_,_,_,_,q,h=>⟨h,q⟩
 |n+1,t,H,l,w,q,h=>by
  obtain⟨g,l1,w1,o,_⟩:=cX.lb (k.O+1) H l w;obtain⟨d,l2,c,p,_⟩:=cX.kv g l1 w1;have e:=c9.kv b l1 w1 (c9.lb b (k.O+1) l h)
  obtain⟨i,j,m,_,_⟩:=cX.wa ((k.kv _).2,t.2) d l2 c;obtain⟨f,q3⟩:=c9.wa (t:=((k.kv _).2,t.2)) l2 c q e;unfold ce.cW;split
  ·exact c9.cW b n ((k.kv _).2,t.2) d l2 c q e
  ·split
   ·exact c9.cW b n _ i j m q3 f
   ·exact⟨f,q3⟩
theorem c9.ke (b:kT k z C){t:cj×List b7}(l:LI k z t.1 H D)(w:dL k z t.1 H)(q:kU k C t.2)(h:c9 k C t.1)(x:Int)(c:k.cK x=true->C (cg x)):c9 k C (k.ke t x).2.1/\kU k C (k.ke t x).2.2:=by obtain⟨d,l1,w1,_,_⟩:=cX.br x H l w;exact c9.cW b _ ((k.br t.1 x).2,t.2) d l1 w1 q (h.br x c)
theorem c9.cJ (l:LI k z s H D)(h:c9 k C s)(hr:∀i,i<s.rs.length->k.cK (s.rs.getD i 0)=true->C (cg (s.rs.getD i 0))):∀n,n<=s.rs.length->c9 k C (k.cJ s n)
 |0,_=>h
 |n+1,hn=>by
  obtain⟨_,_,_,_,_,_,b,_⟩:=LI.cJ l n V;have:=(c9.cJ l h hr n V).br ((k.cJ s n).rs.getD n 0) (by rw[(b n bW)];exact hr n V)
  exact this
theorem c9.lm (d:kT k z C)(c:Int)(M:List Int)(hz:d4 (k.l0 z) ((k.N:Int)+z.g) k.N z.G):∀(l:List Int){s:cj}{H D:List Int},LI k z s H D->(∀a∈l,a∈z.G\/(k.N:Int)+z.g<=a)->c9 k C s->c9 k C (l.foldl (k.gh ((k.N:Int)+z.g) c M) s)
 |[],_,_,_,_,_,h=>h
 |b::l,s,H,D,li,hl,h=>by
  rw[a8];have g:=dj (k.ld s b)
  by_cases jy:b∈z.G/\(fZ k.N c b&&M.contains (cN k.N b))=true
  ·have hb:=(hz.mem b jy.1).2.1;have f:k.gh ((k.N:Int)+z.g) c M s b=k.lk s b:=by unfold ce.gh;rw[aI (by rw[(li.mi.hd b b (aK ⟨rfl,jy.1⟩))];omega),aI jy.2]
   rw[f];obtain⟨i,m1,j,⟨m,n⟩⟩:=li.lk jy.1;exact c9.lm d c M hz l m1 (fun a ha=>hl a (aO _ ha)) (h.lk li.mi d (aK ⟨rfl,jy.1⟩))
  ·have f:k.gh ((k.N:Int)+z.g) c M s b=s:=by exact zj
   rw[f];exact c9.lm d c M hz l li (fun a ha=>hl a (aO _ ha)) h
end
section
variable {k:ce}{z:C0}{s t:cj}{H D:List Int}
theorem A9 (k:ce):∀(l left:List Int)(s:cj),left.length+l.length<=(l.foldl k.cP (left,s)).1.length->l.foldl k.cP (left,s)=(left++l,s)/\∀a∈l,k.ls s (k.ld s (a+1))=true
 |[],left,s,_=>⟨Z,fun a ha=>by cases ha⟩
 |b::l,left,s,h=>by
  rw[a8] at h⊢;cases hls:k.ls s _
  ·have c:k.cP (left,s) b=(left,k.kf (k.kf s (b+1)) (b+2)):=by unfold ce.cP;rw[aG (by rw[hls];simp)]
   rw[c] at h;have g:=(qK k l left (k.kf (k.kf s (b+1)) (b+2))).1;rw[bz] at h;omega
  ·have c:k.cP (left,s) b=(left++[b],s):=by unfold ce.cP;rw[aI hls]
   rw[c] at h⊢;obtain⟨e,f⟩:=A9 k l (left++[b]) s (by rw[aZ,List.length_singleton];rw[bz] at h;omega)
   refine⟨by rw[e];simp,fun a ha=>?_⟩
   rcases List.mem_cons.1 ha with d|d
   ·rw[d];exact hls
   ·exact f a d
theorem Ko (h:(k.kv s).1=false):(k.kv s).2=s/\∀a∈s.ep,k.ls s (k.ld s (a+1))=true:=by
 unfold ce.kv ce.du at h⊢;obtain⟨b,c⟩:=A9 k s.ep [] s (by have:=of_decide_eq_false h;simp only [List.length_nil,Nat.zero_add];omega)
 rw[b];exact⟨rfl,c⟩
theorem u_:∀(n:Nat)(t:cj×List b7)(H:List Int),LI k z t.1 H D->dL k z t.1 H->ee k t.1->k.mu t.1<n->∀b∈(k.cW n t).1.ep,k.ls (k.cW n t).1 (k.ld (k.cW n t).1 (b+1))=true
 |0,t,H,_,_,_,e=>absurd e V
 |n+1,t,H,h,w,hb,e=>by
  obtain⟨u,l1,w1,_,_,v⟩:=LI.oj (k.O+1) h w;obtain⟨c1,c2,c3⟩:=CI.lb h.mi.ci hb (k.O+1)
  obtain⟨i,c,x,j⟩:=CI.kv c1 c2;obtain⟨d,l2,f,_,_⟩:=l1.kv w1;unfold ce.cW;cases hk:(k.kv _).1
  ·obtain⟨g1,g2⟩:=Ko hk;obtain⟨A,l,B,C,m⟩:=CI.wa (s:=((k.kv _).2,t.2)) i c;cases hw:(k.wa ((k.kv _).2,t.2)).2
   ·rw[aG Z,tY k _ hw];rw[g1];exact g2
   ·obtain⟨o,p,q,_,_⟩:=cX.wa ((k.kv _).2,t.2) d l2 f;have g:=m hw;dsimp only at g;exact u_ n _ o p q l V
  ·rw[aI rfl];have g:=j hk;exact u_ n ((k.kv _).2,t.2) d l2 f c (by dsimp only;omega)
structure fi (k:ce)(s:cj)(q0 q:List b7):Prop where
 len:q.length=q0.length
 eq:∀n,n<q0.length->(q.getD n (0,0)).1=(q0.getD n (0,0)).1/\k.ml s (q0.getD n (0,0)).2 (q.getD n (0,0)).2
theorem fi.refl (s:cj)(q:List b7):fi k s q q:=⟨rfl,fun _ _=>⟨rfl,aK rfl⟩⟩
theorem fi.iW {q0 q:List b7}(h:fi k s q0 q)(p:dh k s t):fi k t q0 q:=⟨h.len,fun n hn=>⟨(h.eq n hn).1,p.ml (h.eq n hn).2⟩⟩
theorem fi.snoc {q0 q:List b7}(h:fi k s q0 q){e b:b7}(d:b.1=e.1)(f:k.ml s e.2 b.2):fi k s (q0++[e]) (q++[b]):=by
 refine⟨by simp[h.len],fun n hn=>?_⟩
 rw[aZ,List.length_singleton] at hn;by_cases c:n<q0.length
 ·rw[lK _ _ _ _ c,lK _ _ _ _ (by rw[h.len];exact c)];exact h.eq n c
 ·have en:n=q0.length:=V;subst en;rw[nA,<-h.len,nA];exact⟨d,f⟩
theorem fi.kL {q0:List b7}:∀(l:List Nat)(t:(cj×List b7)×Bool)(H:List Int),LI k z t.1.1 H D->dL k z t.1.1 H->(∀i∈l,i<t.1.2.length)->fi k t.1.1 q0 t.1.2->fi k (l.foldl (dB k.al k.br) t).1.1 q0 (l.foldl (dB k.al k.br) t).1.2
 |[],_,_,_,_,_,e=>e
 |i::l,t,H,h,w,hl,e=>by
  rw[a8];by_cases c:(k.al t.1.1 (t.1.2.getD i (0,0)).2||!k.al t.1.1 (t.1.2.getD i (0,0)).1)=true
  ·have b:dB k.al k.br t i=t:=by unfold dB;rw[aI c]
   rw[b];exact fi.kL l t H h w (fun j d=>hl j (aO _ d)) e
  ·have b:dB k.al k.br t i=(((k.br t.1.1 (t.1.2.getD i (0,0)).2).2,t.1.2.set i ((t.1.2.getD i (0,0)).1,(k.br t.1.1 (t.1.2.getD i (0,0)).2).1)),true):=by unfold dB;rw[aG c]
   obtain⟨f,l1,w1,g,_⟩:=cX.br _ H h w;obtain⟨_,_,_,_,_,m1,_⟩:=h.mi.br _;rw[b];refine fi.kL l _ f l1 w1 (fun j d=>?_) ⟨?_,fun n hn=>?_⟩
   ·show j<(t.1.2.set i _).length;rw[a4];exact hl j (aO _ d)
   ·show(t.1.2.set i _).length=_;rw[a4];exact e.len
   ·rw[pO _ _ _ _ _ (hl i Z)];by_cases en:i=n
    ·rw[aI en];subst en;exact⟨(e.eq i hn).1,m1 _ (e.eq i hn).2⟩
    ·rw[aG en];exact⟨(e.eq n hn).1,g.ml (e.eq n hn).2⟩
theorem fi.wa {q0:List b7}{t:cj×List b7}(h:LI k z t.1 H D)(w:dL k z t.1 H)(e:fi k t.1 q0 t.2):fi k (k.wa t).1.1 q0 (k.wa t).1.2:=
 fi.kL _ (t,false) H h w (fun _ hi=>List.mem_range.1 hi) e
theorem fi.cW {q0:List b7}:∀(n:Nat)(t:cj×List b7)(H:List Int),LI k z t.1 H D->dL k z t.1 H->fi k t.1 q0 t.2->fi k (k.cW n t).1 q0 (k.cW n t).2
 |0,_,_,_,_,e=>e
 |n+1,t,H,h,w,e=>by
  obtain⟨g,l1,w1,i,_⟩:=cX.lb (k.O+1) H h w;obtain⟨c,l2,b,j,_⟩:=cX.kv g l1 w1;have d:=e.iW (i.trans j)
  obtain⟨l,m,o,_,_⟩:=cX.wa ((k.kv _).2,t.2) c l2 b;have f:=fi.wa (t:=((k.kv _).2,t.2)) l2 b d;unfold ce.cW;split
  ·exact fi.cW n ((k.kv _).2,t.2) c l2 b d
  ·split
   ·exact fi.cW n _ l m o f
   ·exact f
structure kV (k:ce)(z:C0)(D:List Int)(q0:List b7)(t:cj×List b7):Prop where
 li:∃H,LI k z t.1 H D/\dL k z t.1 H
 cb:ee k t.1
 wq:ua k t.1 t.2
 he:hB k.N t.1.g t.1.nx=false
 ep:∀b∈t.1.ep,k.ls t.1 (k.ld t.1 (b+1))=true
 q:fi k t.1 q0 t.2
theorem kV.sp {q0:List b7}{t:cj×List b7}(h:LI k z t.1 H D)(w:dL k z t.1 H)(hb:ee k t.1)(e:fi k t.1 q0 t.2):kV k z D q0 (k.sp t)/\dh k t.1 (k.sp t).1:=by obtain⟨K,m1,b,c,_⟩:=cX.sp t H h w;exact⟨⟨⟨K,m1,b⟩,(pu _ t h.mi.ci hb).2,qV _ t H h w hb V,qL _ t H h w hb V,u_ _ t H h w hb V,fi.cW _ t H h w e⟩,c⟩
theorem kV.ke {q0:List b7}{t:cj×List b7}(h:kV k z D q0 t)(x:Int):kV k z D q0 (k.ke t x).2/\dh k t.1 (k.ke t x).2.1/\(∀b,k.ml t.1 b x->k.ml (k.ke t x).2.1 b (k.ke t x).1)/\k.cK (k.ke t x).1=false/\k.al (k.ke t x).2.1 x=true:=by
 obtain⟨H,l,w⟩:=h.li;obtain⟨n,l1,w1,e,_⟩:=cX.br x H l w;obtain⟨_,_,_,y1,_,m1,g,_⟩:=l.mi.br x;obtain⟨_,i,j,f⟩:=l7 k t.1 x;have hb:ee k (k.br t.1 x).2:=⟨by rw[i,f];exact h.cb.wk,by rw[j,f];exact h.cb.ep⟩
 obtain⟨m,d⟩:=kV.sp (t:=((k.br t.1 x).2,t.2)) l1 w1 hb (h.q.iW e)
 refine⟨m,e.trans d,fun b hm=>d.ml (m1 b hm),y1,pA d ?_⟩
 unfold ce.al ce.ls;cases c:k.cK x
 ·rfl
 ·simpa using g c
end
section
variable {a:Wc}{S:cq}{W:ck}{m:Nat->Int}{Y G:List Int}
theorem cy.T (h:cy a S W m Y G)(hb:cI a S.s):(S.s.j0 a).T=G++Y:=(kN h.kv.inv.full hb).2.2
theorem cy.memT (h:cy a S W m Y G)(hb:cI a S.s){i:Nat}(hi:cv W.T i):m i∈(S.s.j0 a).T:=by rw[h.T hb];exact List.mem_append.2 ((h.mem hi).symm)
theorem cy.vd (h:cy a S W m Y G)(hb:cI a S.s){c:Int}(hc:c∈(S.s.j0 a).T):∃i,cv W.T i/\m i=c:=by rw[h.T hb] at hc;exact h.f4 c ((List.mem_append.1 hc).symm)
theorem cy.jt (h:cy a S W m Y G)(hb:cI a S.s){v:Int×Int}(hv:dM W.T v):(S.s.j0 a).jt (wv m v)=(v.1==3):=by
 unfold b9.jt;rw[h.uW hb hv];by_cases c:v.1=3
 ·rw[(h.vt hb hv c).2,c,List.contains_iff_mem.2 (h.memT hb (hv.t c).2)];rfl
 ·have e:(v.1==3)=false:=by simpa using c
  rw[e];rfl
theorem cy.kq (h:cy a S W m Y G)(hb:cI a S.s){i:Nat}(hi:cv W.T i):(S.s.j0 a).jt (ew 3 (m i))=true/\cg (ew 3 (m i))=m i:=by obtain⟨_,b,c⟩:=h.word hb hi;unfold b9.jt;rw[b,c,List.contains_iff_mem.2 (h.memT hb hi)];exact⟨rfl,rfl⟩
theorem cy.al (h:cy a S W m Y G)(hb:cI a S.s)(s:cu){i:Nat}(hi:cv W.T i):(S.s.j0 a).al s (ew 3 (m i))=true↔s.f (m i)≠-1:=by obtain⟨w1,b⟩:=h.kq hb hi;unfold b9.al b9.cS;rw[w1,b];simp
theorem cy.oA (h:cy a S W m Y G)(hb:cI a S.s)(s:cu){v:Int×Int}(hv:dM W.T v)(b:v.1=3):(S.s.j0 a).cS s (wv m v)=false↔s.f (m v.2.toNat)≠-1:=by rw[il b,<-h.al hb s (hv.t b).2];unfold b9.al;simp
theorem cy.marked (h:cy a S W m Y G)(hb:cI a S.s){s:cu}{q:List b7}(l:fN (S.s.j0 a) s q)(hq:∀e∈W.wt,we m e∈q):gX W.T W.wt (fun i=>cv W.T i/\s.f (m i)≠-1):=by
 intro i _ B v hv d;obtain⟨hi,p⟩:=B;have hk:m3 (S.s.j0 a) s (m i):=by
  rcases l.jQ.cmp _ (h.memT hb hi) p with c|c|c
  ·rw[l.td] at c;cases c
  ·exact absurd c id
  ·exact c
 obtain⟨g,C,_⟩:=h.parts hi;have g:pk ((S.s.j0 a).ld (m i))=(W.T.getD i t0).1:=g;rcases hv with⟨c,hm⟩|⟨c,e⟩|⟨c,D,e⟩|⟨c,j,he,J,E⟩
 ·obtain⟨k,K,_,F⟩:=h.field hi hm;have b:=h.fv i hi v hm;refine⟨(b.t d).2,(h.oA hb s b d).1 ?_⟩
  have:=hk.p (by rw[g];exact c) k (by show(k:Int)<pf (ld a.N S.s.y S.s.g S.s.ws (m i));rw[C];omega)
  have e:(S.s.j0 a).ld (m i+1+k)=wv m v:=F;rw[e] at this
  exact this
 ·have hl:=h.two hi (aJ (aK c))
  have hm:v∈(W.T.getD i t0).2.1:=by rw[e];exact getD_in V
  have b:=h.fv i hi v hm;refine⟨(b.t d).2,(h.oA hb s b d).1 ?_⟩
  have:=hk.w (by rw[g];exact c)
  have o:(S.s.j0 a).ld (m i+2)=wv m v:=by exact AZ
  rw[o] at this
  exact this
 ·have hl:=h.two hi (aJ (aJ c))
  have hm:v∈(W.T.getD i t0).2.1:=by rw[e];exact getD_in V
  have b:=h.fv i hi v hm;refine⟨(b.t d).2,(h.oA hb s b d).1 ?_⟩
  have o:(S.s.j0 a).ld (m i+2)=wv m v:=by exact AZ
  have e6:(S.s.j0 a).ld (m i+1)=wv m ((W.T.getD i t0).2.1.getD 0 (0,0)):=by
   have:=h.fd i hi 0 V;show ld a.N S.s.y S.s.g S.s.ws (m i+1)=_;rw[<-this]
   congr 1
   omega
  rcases hk.e (by rw[g];exact c) with n|n
  ·have f:=l.ep _ n;rw[e6] at f;have t:=h.fv i hi _ (getD_in (x:=((0,0):Int×Int)) (show 0<(W.T.getD i t0).2.1.length by omega))
   have u:(S.s.j0 a).jt (wv m ((W.T.getD i t0).2.1.getD 0 (0,0)))=true:=by unfold b9.cS at f;rw[a_] at f;exact f.1
   rw[h.jt hb t] at u;have w:((W.T.getD i t0).2.1.getD 0 (0,0)).1=3:=by simpa using u
   have:=(h.oA hb s t w).2 (D w).2;rw[this] at f;cases f
  ·rw[o] at n;exact n
 ·have A:=h.dx j he;have H:j.1.toNat=i:=V;have I:v.2.toNat=j.2.toNat:=by rw[E]
  rw[I];refine⟨A.h,(h.al hb s A.h).1 ?_⟩
  rcases l.wq _ (hq j he) with c|c
  ·exact c
  ·exfalso;have:=(h.al hb s hi).2 p;have c:(S.s.j0 a).al s (ew 3 (m j.1.toNat))=false:=c;rw[H,this] at c;cases c
def hL (W:ck)(m:Nat->Int)(X:Nat->Prop)(c:Int):Prop:=∃i,cv W.T i/\m i=c/\X i
theorem cy.mG (h:cy a S W m Y G){X:Nat->Prop}{i:Nat}(hi:cv W.T i):hL W m X (m i)↔X i:=
 ⟨fun⟨j,c,e,b⟩=>by rw[<-h.inj j i c hi e];exact b,fun b=>⟨i,hi,rfl,b⟩⟩
theorem cy.closed (h:cy a S W m Y G)(hb:cI a S.s){X:Nat->Prop}(u:gX W.T W.wt X)(hr:∀v∈W.rs,v.1=3->X v.2.toNat):nc (S.s.j0 a) (hL W m X)/\pz (S.s.j0 a) (hL W m X) (W.wt.map (we m)):=by
 have key:∀{i:Nat}{v:Int×Int},cv W.T i->X i->dM W.T v->jA W.T W.wt X i v->(S.s.j0 a).jt (wv m v)=true->hL W m X (cg (wv m v)):=fun {i v} hi f hv hk d=>by
  rw[h.jt hb hv] at d;have g:v.1=3:=by simpa using d
  rw[(h.vt hb hv g).2];exact⟨_,(hv.t g).2,rfl,u i hi.1 f v hk g⟩
 have fl:∀{i:Nat},cv W.T i->∀k:Nat,(k:Int)<pf ((S.s.j0 a).ld (m i))->k<(W.T.getD i t0).2.1.length:=fun {i} hi k hk=>by have hk:(k:Int)<pf (ld a.N S.s.y S.s.g S.s.ws (m i)):=hk;rw[(h.parts hi).2.1] at hk;omega
 have kd:∀{i:Nat},cv W.T i->pk ((S.s.j0 a).ld (m i))=(W.T.getD i t0).1:=fun {i} hi=>(h.parts hi).1;have p:∀{i:Nat},cv W.T i->(W.T.getD i t0).2.1.length=2->(S.s.j0 a).ld (m i+2)=wv m ((W.T.getD i t0).2.1.getD 1 (0,0))/\(S.s.j0 a).ld (m i+1)=wv m ((W.T.getD i t0).2.1.getD 0 (0,0)):=fun {i} hi hl=>by
  constructor
  ·show ld a.N S.s.y S.s.g S.s.ws (m i+2)=_;rw[<-(h.fd i hi 1 V)]
   congr 1
   omega
  ·show ld a.N S.s.y S.s.g S.s.ws (m i+1)=_;rw[<-(h.fd i hi 0 V)]
   congr 1
   omega
 refine⟨⟨fun i hi d=>?_,fun c hc n hk i hi d=>?_,fun c hc n hk d=>?_,fun c hc n hk w d=>?_⟩,fun e he hg d=>?_⟩
 ·obtain⟨er,hv⟩:=h.root hi;have er:(S.s.j0 a).s.rs.getD i 0=wv m (W.rs.getD i (0,0)):=er;rw[er] at d⊢;rw[h.jt hb hv] at d;have g:(W.rs.getD i (0,0)).1=3:=by simpa using d
  rw[(h.vt hb hv g).2];exact⟨_,(hv.t g).2,rfl,hr _ (getD_in (by rw[h.rl];exact hi)) g⟩
 ·obtain⟨j,b,rfl,f⟩:=n;have hl:=fl b i hi;have B:(S.s.j0 a).ld (m j+1+i)=wv m ((W.T.getD j t0).2.1.getD i (0,0)):=h.fd j b i hl;rw[B] at d⊢;rw[kd b] at hk;exact key b f (h.fv j b _ (getD_in hl)) (aK ⟨hk,getD_in hl⟩) d
 ·obtain⟨j,b,rfl,f⟩:=n;rw[kd b] at hk;have hl:=h.two b (aJ (aK hk))
  rw[(p b hl).1] at d⊢;exact key b f (h.fv j b _ (getD_in V)) (aJ (aK ⟨hk,rfl⟩)) d
 ·obtain⟨j,b,rfl,f⟩:=n;rw[kd b] at hk;have hl:=h.two b (aJ (aJ hk))
  rw[(p b hl).1] at d⊢;rw[(p b hl).2] at w;have s:=h.fv j b _ (getD_in (x:=((0,0):Int×Int)) (show 0<(W.T.getD j t0).2.1.length by omega))
  refine key b f (h.fv j b _ (getD_in V)) (aJ (aJ (aK ⟨hk,fun t=>?_,rfl⟩))) d;have q:=w (by rw[h.jt hb s];simpa using t)
  rw[(h.vt hb s t).2] at q;exact(h.mG (s.t t).2).1 q
 ·obtain⟨o,A,rfl⟩:=List.mem_map.1 he;have l:=h.dx o A;obtain⟨g1,g2⟩:=h.kq hb l.g;obtain⟨D,C⟩:=h.kq hb l.h;have q:=hg g1;have q:hL W m X (cg (ew 3 (m o.1.toNat))):=q;rw[g2] at q;show hL W m X (cg (ew 3 (m o.2.toNat)))
  rw[C];exact⟨_,l.h,rfl,u _ l.g.1 ((h.mG l.g).1 q) (3,o.2) (aJ (aJ (aJ ⟨l.k,o,A,by have:=l.g0;omega,rfl⟩))) rfl⟩
structure Rg (a:Wc)(S:cq)(W:ck)(m:Nat->Int)(t:cu×List b7)(L:List Bool)(C:List b7):Prop where
 de:fN (S.s.j0 a) t.1 t.2
 sn:dG (S.s.j0 a) (fun _=>True) t.1
 ok:gD W.T L
 fX:∀i,cv W.T i->(t.1.f (m i)≠-1↔ct L i)
 q:t.2=(W.wt++C).map (we m)
 c:∀e∈C,e∈W.rg/\ct L e.2.toNat
 r:∀v∈W.rs,v.1=3->ct L v.2.toNat
theorem Rg.is (f:cy a S W m Y G)(hb:cI a S.s){t:cu×List b7}{L:List Bool}{C:List b7}(h:Rg a S W m t L C){x:Int}(d:cv W.T x.toNat):(S.s.j0 a).al t.1 (ew 3 (m x.toNat))=cL L x:=by
 unfold cL;have e:=f.al hb t.1 d;have b:=h.fX _ d;unfold ct at b;cases c:L.getD x.toNat false
 ·rw[Bool.eq_false_iff];intro g;have:=b.1 (e.1 g)
  rw[c] at this
  cases this
 ·exact e.2 (b.2 c)
theorem Rg.vf (b:cy a S W m Y G)(hb:cI a S.s){g:List Bool->List Bool}(hg:dR W.T W.wt g):nt (S.s.j0 a).fF g (we m) W.rg (Rg a S W m):=by
 refine⟨fun t L C e h he hn=>?_,fun t L C e h he hy=>?_⟩
 ·have d:=b.gv e he;rw[<-Rg.is b hb h d.g] at hn;exact mR (o:=dI cu) (is:=fun s x=>(S.s.j0 a).al s.1 x) (kp:=(S.s.j0 a).ke) (s:=t) (e:=we m e) hn
 ·have d:=b.gv e he;rw[<-Rg.is b hb h d.g] at hy;obtain⟨k1,I,w,J⟩:=h.de.jQ.ke (t:=t) (ew 3 (m e.2.toNat))
  have A:(S.s.j0 a).fF t (we m e)=(true,(((S.s.j0 a).ke t (ew 3 (m e.2.toNat))).2.1,t.2++[we m e])):=by refine(mS (o:=dI cu) (is:=fun s x=>(S.s.j0 a).al s.1 x) (kp:=(S.s.j0 a).ke) (s:=t) (e:=we m e) hy).trans ?_;show(true,(((S.s.j0 a).ke t (ew 3 (m e.2.toNat))).2.1,((S.s.j0 a).ke t (ew 3 (m e.2.toNat))).2.2++[we m e]))=_;rw[w]
  have B:=(h.de.cm (we m e)).1;rw[A] at B;rw[A];obtain⟨o1,U,X⟩:=h.ok.put d.h;have D:=hg _ o1.len o1.al;obtain⟨n1,E,K⟩:=h.ok.fw hg b.iv d.h;have l:=K;obtain⟨c1,c2⟩:=b.closed hb D.cl (fun v hv q=>l _ (h.r v hv q))
  have c3:pz (S.s.j0 a) (hL W m (ct (fw g L e.2))) t.2:=by
   rw[h.q,List.map_append];intro x n;rcases List.mem_append.1 n with f|f
   ·exact c2 x f
   ·obtain⟨u,M,rfl⟩:=List.mem_map.1 f;obtain⟨N,O⟩:=h.c u M;have F:=b.gv u N;intro _ _;show hL W m _ (cg (ew 3 (m u.2.toNat)))
    rw[(b.kq hb F.h).2];exact⟨_,F.h,rfl,l _ O⟩
  have s0:dG (S.s.j0 a) (hL W m (ct (fw g L e.2))) t.1:=⟨fun c hc k=>by obtain⟨i,hi,rfl⟩:=b.vd hb hc;exact⟨i,hi,rfl,l i ((h.fX i hi).1 k)⟩,h.sn.ea⟩
  have s1:=dG.ke c1 c3 s0 h.de.jQ (ew 3 (m e.2.toNat)) (fun _=>by rw[(b.kq hb d.h).2];exact⟨_,d.h,rfl,E⟩)
  refine⟨rfl,B,⟨fun _ _ _=>trivial,s1.ea⟩,n1,fun i hi=>⟨fun k=>?_,fun P=>?_⟩,?_,fun x n=>?_,fun v hv q=>l _ (h.r v hv q)⟩
  ·exact(b.mG hi).1 (s1.snd _ (b.memT hb hi) k)
  ·have Q:=b.marked hb k1 (fun x n=>by rw[w,h.q];exact List.mem_map_of_mem (aX _ n))
   refine(D.lt _ Q (fun j p=>?_) i P).2;have H:=o1.al j p;refine⟨H,?_⟩
   unfold ct at p;rw[i7 _ _ _ (by rw[h.ok.len];exact d.h.1)] at p;split at p
   ·rename_i R;rw[<-R];exact(b.al hb _ d.h).1 J
   ·have k:=(h.fX j H).2 p;rw[I.f _ k];exact k
  ·show t.2++[we m e]=_;rw[h.q,<-ba,List.map_append (l₁:=W.wt++C)];rfl
  ·rcases List.mem_append.1 n with f|f
   ·exact⟨(h.c x f).1,l _ (h.c x f).2⟩
   ·rw[List.mem_singleton.1 f];exact⟨he,E⟩
theorem Rg.start (b:cy a S W m Y G)(hb:cI a S.s){g:List Bool->List Bool}(hg:dR W.T W.wt g):Rg a S W m (S.j2 a) (W.c0 g true) []:=by
 have q:=cV.start hb.n1 hb.o1 hb.y1 hb.g1;obtain⟨m1,_,B⟩:=(cZ.start q).cJ 12;obtain⟨c,C,d⟩:=cZ.sp (t:=((S.s.j0 a).cJ gL 12,S.q)) m1;have d:(S.j2 a).2=S.q:=d;have f:=b.first true;have s:=hg _ f.len f.al;obtain⟨n1,D⟩:=hg.ok b.iv f;have hr:_:=fun v hv l=>D _ ((kt _ _ _ _).2 ⟨((b.rv v hv).t l).2.1,aJ ⟨v,hv,l,rfl⟩⟩)
 obtain⟨c1,c2⟩:=b.closed hb s.cl hr;rw[<-b.wt] at c2;have cJ:∀n,n<=12->dG (S.s.j0 a) (hL W m (ct (W.c0 g true))) ((S.s.j0 a).cJ gL n):=fun n=>by
  induction n with
  |zero=>
   intro _;show dG _ _ gL;exact⟨fun _ _ o=>absurd rfl o,fun _ ha=>by simp[gL] at ha⟩
  |succ n E=>
   intro hn;obtain⟨m1,_⟩:=(cZ.start (X:=fun _=>False) q).cJ n;exact(E V).ma _ (c1.rt n V) (m1.ma _).2.1
 have s1:dG (S.s.j0 a) (hL W m (ct (W.c0 g true))) (S.j2 a).1:=dG.cW c1 _ ((S.s.j0 a).cJ gL 12,S.q) c2 (cJ 12 bW) m1;have c:fN (S.s.j0 a) (S.j2 a).1 (S.j2 a).2:=c;refine⟨c,⟨fun _ _ _=>trivial,s1.ea⟩,n1,fun i hi=>⟨fun o=>(b.mG hi).1 (s1.snd _ (b.memT hb hi) o),fun F=>?_⟩,?_,fun e he=>(by cases he),hr⟩
 ·refine(s.lt _ (b.marked hb c (fun x H=>by rw[d,b.wt];exact List.mem_map_of_mem H)) (fun j u=>?_) i F).2;refine⟨f.al j u,?_⟩
  obtain⟨_,p⟩:=(kt _ _ _ _).1 u;rcases p with⟨_,_,p⟩|⟨v,hv,l,e⟩
  ·cases p
  ·obtain⟨k,hk,e6⟩:=List.mem_iff_getElem.1 hv;have w:k<12:=by rw[<-b.rl];exact hk
   obtain⟨er,A⟩:=b.root w;have I:W.rs.getD k (0,0)=v:=by rw[aE,aL hk,e6];rfl
   rw[I] at er A;have j0:=B k w;have er:(S.s.j0 a).s.rs.getD k 0=wv m v:=er;rw[er] at j0;rw[<-e];exact(b.oA hb _ A l).1 (C.cS j0)
 ·rw[d,b.wt,List.append_nil]
theorem Rg.settled (b:cy a S W m Y G)(hb:cI a S.s){g:List Bool->List Bool}(hg:dR W.T W.wt g):Rg a S W m (S.cA a,((S.s.j0 a).eW (S.j2 a) S.r).2) (W.cR g true).1 (W.cR g true).2.1:=by
 have h0:=Rg.start b hb hg;have c:S.r.filter (fun e=>!(S.s.j0 a).al (S.j2 a).1 e.2)=(W.rg.filter (fun e=>!cL (W.c0 g true) e.2)).map (we m):=by rw[b.rg];exact lH _ _ _ W.rg (fun e he=>by show(!(S.s.j0 a).al _ (ew 3 (m e.2.toNat)))=_;rw[Rg.is b hb h0 (b.gv e he).h])
 obtain⟨d,_⟩:=(Rg.vf b hb hg).turns _ (W.rg.filter (fun e=>!cL _ e.2)) (S.j2 a) _ [] (fun e he=>(List.mem_filter.1 he).1) h0;have f:eB (S.s.j0 a).fF ((S.r.filter (fun e=>!(S.s.j0 a).al (S.j2 a).1 e.2)).length+1) (S.j2 a) (S.r.filter (fun e=>!(S.s.j0 a).al (S.j2 a).1 e.2))=eB (S.s.j0 a).fF (W.rg.length+1) (S.j2 a) ((W.rg.filter (fun e=>!cL (W.c0 g true) e.2)).map (we m)):=by rw[c];have hl:=bm (fun e=>!cL (W.c0 g true) e.2) W.rg;exact rA _ _ _ _ _ V (by rw[aW];omega)
 have i:(S.s.j0 a).eW (S.j2 a) S.r=(eB (S.s.j0 a).fF (W.rg.length+1) (S.j2 a) ((W.rg.filter (fun e=>!cL (W.c0 g true) e.2)).map (we m))).1:=by rw[<-f];rfl
 have j:(S.cA a,((S.s.j0 a).eW (S.j2 a) S.r).2)=(S.s.j0 a).eW (S.j2 a) S.r:=rfl;rw[j,i];exact d
end
section
variable {a:Wc}{S:cq}{W:ck}{m:Nat->Int}{Y G D:List Int}
theorem cy.fV (h:cy a S W m Y G)(hb:cI a S.s):(S.s.k0 a).T=Y:=oo h.kv.inv.full hb.n1 hb.y1 hb.o1 hb.g1
theorem cy.jZ (h:cy a S W m Y G)(hb:cI a S.s){v:Int}(b:v∈Y):v∉G:=fun c=>by have q1:=h.kv.inv.full.iw v b;have d:=h.kv.inv.full.io v c;have:=hb.y1;omega
theorem cy.oC (h:cy a S W m Y G)(hb:cI a S.s){i:Nat}(hi:cv W.T i):(S.s.k0 a).cK (ew 3 (m i))=true↔m i∈Y:=by obtain⟨_,b,c⟩:=h.word hb hi;unfold ce.cK;rw[b,c,h.fV hb];simp
theorem cy.rL (h:cy a S W m Y G)(hb:cI a S.s){v:Int×Int}(hv:dM W.T v)(hy:(S.s.k0 a).cK (wv m v)=true):v.1=3/\cg (wv m v)=m v.2.toNat:=by
 have b:cY (wv m v)=true:=by unfold ce.cK at hy;rw[a_] at hy;exact hy.1
 rw[h.uW hb hv] at b;have c:v.1=3:=by simpa using b
 exact⟨c,(h.vt hb hv c).2⟩
theorem cy.j6 (h:cy a S W m Y G)(hb:cI a S.s)(s:cj){i:Nat}(hi:cv W.T i):(S.s.k0 a).al s (ew 3 (m i))=true↔(m i∈G\/s.f (m i)≠-1):=by
 have hy:=h.oC hb hi;obtain⟨_,_,d⟩:=h.word hb hi;unfold ce.al ce.ls;rw[d];rcases h.mem hi with b|b
 ·rw[hy.2 b];have:=h.jZ hb b;simp[this]
 ·have:(S.s.k0 a).cK (ew 3 (m i))=false:=by rw[Bool.eq_false_iff];intro c;exact h.jZ hb (hy.1 c) b
  rw[this];simp[b]
theorem cy.Kq (h:cy a S W m Y G)(hb:cI a S.s){s:cj}{i:Nat}(hi:cv W.T i)(hs:(S.s.k0 a).al s (ew 3 (m i))=true):∃b,(S.s.k0 a).or (S.s.z0 G) s (m i) b:=by
 rcases(h.j6 hb s hi).1 hs with c|c
 ·exact⟨m i,aK ⟨rfl,c⟩⟩
 ·rcases h.mem hi with e|e
  ·exact⟨s.f (m i),aJ ⟨by rw[h.fV hb];exact e,rfl,c⟩⟩
  ·exact⟨m i,aK ⟨rfl,e⟩⟩
def pP (a:Wc)(S:cq)(G D:List Int):Prop:=∀v∈G,v∉D->∀i,0<=i->i<pf ((S.s.k0 a).l0 (S.s.z0 G) v)->(S.s.k0 a).cK ((S.s.k0 a).l0 (S.s.z0 G) (v+1+i))=false
theorem cy.vg (h:cy a S W m Y G)(hb:cI a S.s)(hc:pP a S G D){q0:List b7}{t:cj×List b7}(d:kV (S.s.k0 a) (S.s.z0 G) D q0 t)(hq:∀e∈W.wt,∃n,n<q0.length/\q0.getD n (0,0)=we m e):
 gX W.T W.wt (fun i=>cv W.T i/\(S.s.k0 a).al t.1 (ew 3 (m i))=true):=by
 obtain⟨H,li,aR⟩:=d.li;have hz:∀v,(v∈(S.s.k0 a).T\/v∈(S.s.z0 G).G)->∀i,0<=i->i<pf ((S.s.k0 a).l0 (S.s.z0 G) v)->cY ((S.s.k0 a).l0 (S.s.z0 G) (v+1+i))=true->cg ((S.s.k0 a).l0 (S.s.z0 G) (v+1+i))∈(S.s.k0 a).T\/cg ((S.s.k0 a).l0 (S.s.z0 G) (v+1+i))∈(S.s.z0 G).G:=fun v hv i O p ha=>by rw[h.fV hb] at hv⊢;exact h.kv.inv.fd v hv i O p ha
 have told:∀{w x:Int}{j:Nat},cv W.T j->w=ew 3 (m j)->(S.s.k0 a).ml t.1 w x->(S.s.k0 a).al t.1 x=true->(S.s.k0 a).al t.1 (ew 3 (m j))=true:=fun {w x j} C f hm P=>by
  rcases hm with e|⟨_,u,_⟩
  ·rw[<-f,<-e];exact P
  ·rw[f,(h.word hb C).2.2] at u;exact(h.j6 hb t.1 C).2 (aJ u)
 intro i _ Q v hv g;obtain⟨hi,hs⟩:=Q;obtain⟨b,o⟩:=h.Kq hb hi hs;have f:(S.s.k0 a).ld t.1 b=ld a.N S.s.y S.s.g S.s.ws (m i):=li.mi.hd _ _ o;obtain⟨E,R,_⟩:=h.parts hi;have A:∀{n:Nat},n<(W.T.getD i t0).2.1.length->((W.T.getD i t0).2.1.getD n (0,0)).1=3->¬((W.T.getD i t0).1=3/\n=0)->¬((W.T.getD i t0).1=4/\b∈t.1.ep)->(S.s.k0 a).al t.1 (ew 3 (m ((W.T.getD i t0).2.1.getD n (0,0)).2.toNat))=true:=fun {n} hn F n1 U=>by
  have B:=h.fv i hi _ (getD_in (x:=((0,0):Int×Int)) hn)
  have I:=(B.t F).2;have J:(S.s.k0 a).l0 (S.s.z0 G) (m i+1+n)=ew 3 (m ((W.T.getD i t0).2.1.getD n (0,0)).2.toNat):=(h.fd i hi n hn).trans (il F)
  have p:(n:Int)<pf ((S.s.k0 a).l0 (S.s.z0 G) (m i)):=by
   show(n:Int)<pf (ld a.N S.s.y S.s.g S.s.ws (m i))
   omega
  have K:=li.mi.fd (m i) b o n (Int.natCast_nonneg n) p;refine told I J K ?_;rcases K with e|⟨y1,u,X⟩
  ·rw[J] at e;have ha:cY ((S.s.k0 a).ld t.1 (b+1+n))=true:=by rw[e];exact(h.word hb I).2.1
   have ab:(n:Int)<pf ((S.s.k0 a).ld t.1 b):=by rw[f,R];omega
   rcases li.fields d.he hz hc (li.mi.mem o) (Int.natCast_nonneg n) ab ha with c|⟨c1,c2,_⟩|⟨c1,c2⟩
   ·exact qU (li.mi.om c)
   ·rw[f,E] at c1;exact absurd ⟨c1,V⟩ n1
   ·rw[f,E] at c1;exact absurd ⟨c1,c2⟩ U
  ·have ad:=li.mi.i5 (li.mi.fh _ (nD y1) u)
   have a0:=li.mi.ci.hN';have a1:=li.mi.ci.hO;have a2:=li.mi.ci.hg;rw[X];exact qU (m9 li.mi.ci ad.1 V)
 rcases hv with⟨c,hm⟩|⟨c,e⟩|⟨c,ag,e⟩|⟨c,s,he,bb,ai⟩
 ·obtain⟨n,hn,en,_⟩:=h.field hi hm;have B:=h.fv i hi v hm;refine⟨(B.t g).2,?_⟩
  have:=A hn (by rw[en];exact g) (fun q=>by omega) (fun q=>by omega)
  rw[en] at this
  exact this
 ·have hl:=h.two hi (aJ (aK c))
  have hm:v∈(W.T.getD i t0).2.1:=by rw[e];exact getD_in V
  refine⟨((h.fv i hi v hm).t g).2,?_⟩
  have:=A (n:=1) V (by rw[<-e];exact g) (fun q=>by omega) (fun q=>by omega)
  rw[<-e] at this
  exact this
 ·have hl:=h.two hi (aJ (aJ c))
  have hm:v∈(W.T.getD i t0).2.1:=by rw[e];exact getD_in V
  refine⟨((h.fv i hi v hm).t g).2,?_⟩
  have L:=h.fv i hi _ (getD_in (x:=((0,0):Int×Int)) (show 0<(W.T.getD i t0).2.1.length by omega))
  have al:b∉t.1.ep:=fun am=>by
   have an:b+1+0=b+1:=V;have p:(0:Int)<pf ((S.s.k0 a).l0 (S.s.z0 G) (m i)):=by
    show(0:Int)<pf (ld a.N S.s.y S.s.g S.s.ws (m i))
    omega
   have k:=d.ep b am;rw[<-an] at k;have e6:(S.s.k0 a).l0 (S.s.z0 G) (m i+1+0)=wv m ((W.T.getD i t0).2.1.getD 0 (0,0)):=h.fd i hi 0 V;rw[(li.mi.rK o (Int.le_refl 0) p (mF k)),e6] at k;obtain⟨M,ao⟩:=h.rL hb L (mF k)
   have q1:=(ce.mU k).2.2;have l:=(ce.mU k).2.1;rw[ao] at q1 l;rw[h.fV hb] at l;rcases(h.j6 hb t.1 (L.t M).2).1 (ag M).2 with w1|w1
   ·exact h.jZ hb l w1
   ·exact w1 q1
  have:=A (n:=1) V (by rw[<-e];exact g) (fun q=>by omega) (fun q=>al q.2)
  rw[<-e] at this
  exact this
 ·have N:=h.dx s he;have ap:s.1.toNat=i:=V;have ar:v.2.toNat=s.2.toNat:=by rw[ai]
  rw[ar];refine⟨N.h,?_⟩
  obtain⟨n,hn,en⟩:=hq s he;obtain⟨q1,l⟩:=d.q.eq n hn;rw[en] at q1 l;have aF:t.2.getD n (0,0)∈t.2:=getD_in (by rw[d.q.len];exact hn)
  refine told N.h rfl l ?_;rcases d.wq _ aF with w1|w1
  ·exact w1
  ·exfalso;have q1:(t.2.getD n (0,0)).1=ew 3 (m s.1.toNat):=q1;rw[q1,ap,hs] at w1;cases w1
theorem cy.A_ (h:cy a S W m Y G)(hb:cI a S.s){X:Nat->Prop}(B:gX W.T W.wt X)(ho:∀i,cv W.T i->(W.T.getD i t0).2.2.1=true->X i):kT (S.s.k0 a) (S.s.z0 G) (hL W m X):=by
 have key:∀{i:Nat}{v:Int×Int},cv W.T i->X i->dM W.T v->jA W.T W.wt X i v->(S.s.k0 a).cK (wv m v)=true->hL W m X (cg (wv m v)):=fun {i v} hi g hv hk f=>by obtain⟨t,e⟩:=h.rL hb hv f;rw[e];exact⟨_,(hv.t t).2,rfl,B i hi.1 g v hk t⟩
 have kd:∀{i:Nat},cv W.T i->pk ((S.s.k0 a).l0 (S.s.z0 G) (m i))=(W.T.getD i t0).1/\pf ((S.s.k0 a).l0 (S.s.z0 G) (m i))=(W.T.getD i t0).2.1.length:=fun {i} hi=>⟨(h.parts hi).1,(h.parts hi).2.1⟩
 have o:∀{i:Nat},cv W.T i->∀{n:Nat},n<(W.T.getD i t0).2.1.length->(S.s.k0 a).l0 (S.s.z0 G) (m i+1+n)=wv m ((W.T.getD i t0).2.1.getD n (0,0)):=fun {i} hi {n} hn=>h.fd i hi n hn;refine⟨fun b u=>?_,fun c _ k hk i hi f=>?_,fun c _ k hk f=>?_,fun c _ k hk w f=>?_⟩
 ·obtain⟨i,hi,e⟩:=h.f4 b (aJ u)
  refine⟨i,hi,e,ho i hi ?_⟩
  cases c:(W.T.getD i t0).2.2.1
  ·exact absurd (e▸u) (h.jZ hb (h.ik i hi c))
  ·rfl
 ·obtain⟨j,d,rfl,g⟩:=k;rw[(kd d).2] at hi;have hl:i<(W.T.getD j t0).2.1.length:=V;rw[o d hl] at f⊢;rw[(kd d).1] at hk;exact key d g (h.fv j d _ (getD_in hl)) (aK ⟨hk,getD_in hl⟩) f
 ·obtain⟨j,d,rfl,g⟩:=k;rw[(kd d).1] at hk;have hl:=h.two d (aJ (aK hk))
  have p:(S.s.k0 a).l0 (S.s.z0 G) (m j+1+1)=wv m ((W.T.getD j t0).2.1.getD 1 (0,0)):=o d (n:=1) V;rw[p] at f⊢;exact key d g (h.fv j d _ (getD_in V)) (aJ (aK ⟨hk,rfl⟩)) f
 ·obtain⟨j,d,rfl,g⟩:=k;rw[(kd d).1] at hk;have hl:=h.two d (aJ (aJ hk))
  have p:(S.s.k0 a).l0 (S.s.z0 G) (m j+1+1)=wv m ((W.T.getD j t0).2.1.getD 1 (0,0)):=o d (n:=1) V;have C:(S.s.k0 a).l0 (S.s.z0 G) (m j+1+0)=wv m ((W.T.getD j t0).2.1.getD 0 (0,0)):=o d (n:=0) V;rw[p] at f⊢;rw[C] at w;have A:=h.fv j d _ (getD_in (x:=((0,0):Int×Int)) (show 0<(W.T.getD j t0).2.1.length by omega))
  refine key d g (h.fv j d _ (getD_in V)) (aJ (aJ (aK ⟨hk,fun s=>?_,rfl⟩))) f;have l:=(A.t s).2;rcases h.mem l with w1|w1
  ·have q:=w (by rw[il s];exact(h.oC hb l).2 w1)
   rw[(h.vt hb A s).2] at q;exact(h.mG l).1 q
  ·refine ho _ l ?_;cases c:(W.T.getD _ t0).2.2.1
   ·exact absurd w1 (h.jZ hb (h.ik _ l c))
   ·rfl
theorem cy.Ba (h:cy a S W m Y G)(hb:cI a S.s){X:Nat->Prop}(t:gX W.T W.wt X)(ho:∀i,cv W.T i->(W.T.getD i t0).2.2.1=true->X i){C:List b7}(j:∀e∈C,e∈W.rg/\X e.2.toNat){s:cj}{H:List Int}(mi:dE (S.s.k0 a) (S.s.z0 G) s H){q:List b7}(hq:fi (S.s.k0 a) s ((W.wt++C).map (we m)) q):kU (S.s.k0 a) (hL W m X) q:=by
 intro e he hg hy;obtain⟨n,hn,en⟩:=List.mem_iff_getElem.1 he;have u:q.getD n (0,0)=e:=by rw[aE,aL hn,en];rfl
 have g:n<((W.wt++C).map (we m)).length:=by rw[<-hq.len];exact hn
 obtain⟨q1,k⟩:=hq.eq n g;have l:n<(W.wt++C).length:=by rw[aW] at g;exact g
 rw[u,jY (we m) (W.wt++C) n (0,0) (0,0) l] at q1 k;have o:(W.wt++C).getD n (0,0)∈W.wt++C:=getD_in l;generalize (W.wt++C).getD n (0,0)=d at*;have b:iF W.T d:=by
  rcases List.mem_append.1 o with f|f
  ·exact h.dx d f
  ·exact h.gv d (j d f).1
 have v:e.2=ew 3 (m d.2.toNat):=by
  rcases k with f|⟨y1,w,x⟩
  ·exact f
  ·have A:=mi.i5 (mi.fh _ (nD y1) w)
   have D:=mi.ci.hN';have E:=mi.ci.hO;have F:=mi.ci.hg;rw[x,m9 mi.ci A.1 V] at hy;cases hy
 have p:e.1=ew 3 (m d.1.toNat):=q1;rw[v,(h.word hb b.h).2.2];refine⟨_,b.h,rfl,?_⟩
 rcases List.mem_append.1 o with f|f
 ·have B:X d.1.toNat:=by
   rcases h.mem b.g with w1|w1
   ·have:=hg (by rw[p];exact(h.oC hb b.g).2 w1)
    rw[p,(h.word hb b.g).2.2] at this
    exact(h.mG b.g).1 this
   ·refine ho _ b.g ?_;cases c:(W.T.getD _ t0).2.2.1
    ·exact absurd w1 (h.jZ hb (h.ik _ b.g c))
    ·rfl
  exact t _ b.g.1 B (3,d.2) (aJ (aJ (aJ ⟨b.k,d,f,by have:=b.g0;omega,rfl⟩))) rfl
 ·exact(j d f).2
structure jo (a:Wc)(S:cq)(W:ck)(m:Nat->Int)(G D:List Int)(t:cj×List b7)(L:List Bool)(C:List b7):Prop where
 de:kV (S.s.k0 a) (S.s.z0 G) D ((W.wt++C).map (we m)) t
 ok:gD W.T L
 fX:∀i,cv W.T i->((S.s.k0 a).al t.1 (ew 3 (m i))=true↔ct L i)
 c:∀e∈C,e∈W.rg/\ct L e.2.toNat
 r:∀v∈W.rs,v.1=3->ct L v.2.toNat
 o:∀i,cv W.T i->(W.T.getD i t0).2.2.1=true->ct L i
theorem jo.is {t:cj×List b7}{L:List Bool}{C:List b7}(h:jo a S W m G D t L C){x:Int}(d:cv W.T x.toNat):(S.s.k0 a).al t.1 (ew 3 (m x.toNat))=cL L x:=by
 unfold cL;have b:=h.fX _ d;cases c:L.getD x.toNat false
 ·rw[Bool.eq_false_iff];intro e;rw[b.1 e] at c;cases c
 ·exact b.2 c
theorem vh {C:List b7}:∀e∈W.wt,∃n,n<((W.wt++C).map (we m)).length/\((W.wt++C).map (we m)).getD n (0,0)=we m e:=fun e he=>by
 obtain⟨n,hn,en⟩:=List.mem_iff_getElem.1 he;refine⟨n,by rw[aW,aZ];omega,?_⟩
 rw[jY (we m) (W.wt++C) n (0,0) (0,0) (by rw[aZ];omega),aE,List.getElem?_append_left hn,aL hn,en];rfl
theorem jo.vf (b:cy a S W m Y G)(hb:cI a S.s)(hc:pP a S G D){g:List Bool->List Bool}(hg:dR W.T W.wt g):nt (cm (dI cj) (fun s x=>(S.s.k0 a).al s.1 x) (S.s.k0 a).ke) g (we m) W.rg (jo a S W m G D):=by
 refine⟨fun t L C e h he hn=>?_,fun t L C e h he hy=>?_⟩
 ·have f:=b.gv e he;rw[<-h.is f.g] at hn;exact mR hn
 ·have f:=b.gv e he;rw[<-h.is f.g] at hy;obtain⟨k1,E,F,I,k5⟩:=h.de.ke _;rw[(mS (s:=t) hy)];obtain⟨o1,Q,R⟩:=h.ok.put f.h;have p:=hg _ o1.len o1.al;obtain⟨n1,u,J⟩:=h.ok.fw hg b.iv f.h;have w:=p.cl;have l:=J;have ho:∀i,cv W.T i->(W.T.getD i t0).2.2.1=true->_:=fun i hi q=>l i (h.o i hi q)
  obtain⟨H,li,K⟩:=h.de.li;have s0:c9 (S.s.k0 a) (hL W m (ct (fw g L e.2))) t.1:=fun c A o=>by
   rw[b.fV hb] at A;obtain⟨i,hi,rfl⟩:=b.f4 c (aK A)
   exact⟨i,hi,rfl,l i ((h.fX i hi).1 ((b.j6 hb t.1 hi).2 (aJ o)))⟩
  obtain⟨s1,_⟩:=c9.ke (b.A_ hb w ho) li K (b.Ba hb w ho (fun x k=>⟨(h.c x k).1,l _ (h.c x k).2⟩) li.mi h.de.q) s0 _ (fun _=>by rw[(b.word hb f.h).2.2];exact⟨_,f.h,rfl,u⟩)
  have M:(W.wt++(C++[e])).map (we m)=(W.wt++C).map (we m)++[we m e]:=by rw[<-ba,List.map_append];rfl
  refine⟨rfl,⟨k1.li,k1.cb,fun x k=>?_,k1.he,k1.ep,?_⟩,n1,fun i hi=>⟨fun o=>?_,fun N=>?_⟩,fun x k=>?_,fun v hv O=>l _ (h.r v hv O),ho⟩
  ·rcases List.mem_append.1 k with d|d
   ·exact k1.wq x d
   ·rw[List.mem_singleton.1 d];exact aK (qU I)
  ·rw[M];exact k1.q.snoc rfl (F _ (aK rfl))
  ·rcases(b.j6 hb _ hi).1 o with d|d
   ·refine ho i hi ?_;cases c:(W.T.getD i t0).2.2.1
    ·exact absurd d (b.jZ hb (b.ik _ hi c))
    ·rfl
   ·rcases b.mem hi with w1|w1
    ·exact(b.mG hi).1 (s1 _ (by rw[b.fV hb];exact w1) d)
    ·refine ho i hi ?_;cases c:(W.T.getD i t0).2.2.1
     ·exact absurd w1 (b.jZ hb (b.ik _ hi c))
     ·rfl
  ·refine(p.lt _ (b.vg hb hc k1 vh) (fun j n=>?_) i N).2;have B:=o1.al j n;refine⟨B,?_⟩
   unfold ct at n;rw[i7 _ _ _ (by rw[h.ok.len];exact f.h.1)] at n;split at n
   ·rename_i P;rw[<-P];exact k5
   ·exact pA E ((h.fX j B).2 n)
  ·rcases List.mem_append.1 k with d|d
   ·exact⟨(h.c x d).1,l _ (h.c x d).2⟩
   ·rw[List.mem_singleton.1 d];exact⟨he,u⟩
end
end Go.Proofs.YtpkjkjhanlbcoaaGreat
