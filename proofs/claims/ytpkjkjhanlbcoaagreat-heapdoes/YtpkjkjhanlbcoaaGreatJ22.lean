import Derived.Test.YtpkjkjhanlbcoaaGreatJ21
namespace Go.Proofs.YtpkjkjhanlbcoaaGreat
open Go.RowKit W Kp ch
theorem z4 {P:Prop}(h:P:=by
 have:=h.fd i hi 1 aa;rw[<-e] at this
 show ld a.N S.s.y S.s.g S.s.ws (m i+2)=_;rw[<-this]
 congr 1
 omega):P:=h
def wv (m:Nat->Int)(v:Int×Int):Int:=if v.1=3 then ew 3 (m v.2.toNat) else ew v.1 v.2
def we (m:Nat->Int)(e:b9):b9:=(ew 3 (m e.1.toNat),ew 3 (m e.2.toNat))
structure dO (T:List cH)(v:Int×Int):Prop where
 t:v.1=3->0<=v.2/\cI T v.2.toNat
 o:v.1≠3->vc v.1 v.2=0
structure iu (T:List cH)(e:b9):Prop where
 g0:0<=e.1
 g:cI T e.1.toNat
 k:(T.getD e.1.toNat t0).1=5
 h0:0<=e.2
 h:cI T e.2.toNat
structure cz (a:Wc)(S:co)(W:cn)(m:Nat->Int)(Y G:List Int):Prop where
 kv:eA a S.s Y G
 rl:W.rs.length=12
 rv:∀v∈W.rs,dO W.T v
 fv:∀i,cI W.T i->∀v∈(W.T.getD i t0).2.1,dO W.T v
 rs:S.s.rs=W.rs.map (wv m)
 ia:∀i,cI W.T i->(W.T.getD i t0).2.2.1=false->m i∈Y
 old:∀i,cI W.T i->(W.T.getD i t0).2.2.1=true->m i∈G
 inj:∀i j,cI W.T i->cI W.T j->m i=m j->i=j
 fZ:∀v,(v∈Y\/v∈G)->∃i,cI W.T i/\m i=v
 hd:∀i,cI W.T i->hc (W.T.getD i t0).1 (W.T.getD i t0).2.1.length=0/\ld a.N S.s.y S.s.g S.s.ws (m i)=hw (W.T.getD i t0).1 (W.T.getD i t0).2.1.length
 fd:∀i,cI W.T i->∀k:Nat,k<(W.T.getD i t0).2.1.length->ld a.N S.s.y S.s.g S.s.ws (m i+1+k)=wv m ((W.T.getD i t0).2.1.getD k (0,0))
 rg:S.r=W.rg.map (we m)
 gv:∀e∈W.rg,iu W.T e
 wt:S.q=W.wt.map (we m)
 dD:∀e∈W.wt,iu W.T e
 tl:∀i,(W.T.getD i t0).2.1.length<=12
theorem pz {b:Type}(l:List b)(i j:Nat)(x c:b)(h:i<l.length):(l.set i x).getD j c=if i=j then x else l.getD j c:=by
 rw[aG,aG,List.getElem?_set];split
 ·simp_all
 ·rfl
theorem jJ {b c:Type}(f:b->c)(l:List b)(i:Nat)(d:b)(e:c)(h:i<l.length):(l.map f).getD i e=f (l.getD i d):=by rw[aG,bv,aG,aI h];rfl
theorem ib {m:Nat->Int}{v:Int×Int}(h:v.1=3):wv m v=ew 3 (m v.2.toNat):=by unfold wv;rw[aJ h]
theorem lj {m:Nat->Int}{v:Int×Int}(h:v.1≠3):wv m v=ew v.1 v.2:=by unfold wv;rw[aH h]
theorem ui {T:List cH}{m b:Nat->Int}(h:∀i,cI T i->b i=m i){v:Int×Int}(d:dO T v):wv b v=wv m v:=by
 by_cases c:v.1=3
 ·rw[ib c,ib c,h _ (d.t c).2]
 ·rw[lj c,lj c]
theorem z5 {T:List cH}{m b:Nat->Int}(h:∀i,cI T i->b i=m i){e:b9}(he:iu T e):we b e=we m e:=by unfold we;rw[h _ he.g,h _ he.h]
theorem dO.of {T:List cH}{k n:Int}(b:k≠3)(h:vc k n=0):dO T (k,n):=⟨fun e=>absurd e b,fun _=>h⟩
theorem dO.nil (T:List cH):dO T (0,0):=dO.of ae ae
theorem dO.mono {T c:List cH}(h:∀i,cI T i->cI c i){v:Int×Int}(b:dO T v):dO c v:=⟨fun e=>⟨(b.t e).1,h _ (b.t e).2⟩,b.o⟩
theorem Ht {N y g:Nat}{ws Y G:List Int}(h:d_ N y g ws Y G)(hy:y<=N){u v i j:Int}(b:u∈Y\/u∈G)(c:v∈Y\/v∈G)(f:0<=i)(k:i<pf (ld N y g ws u))(j0:0<=j)(l:j<pf (ld N y g ws v))(e:u+1+i=v+1+j):u=v:=by
 rcases b with b|b<;>rcases c with c|c
 ·rcases Int.lt_trichotomy u v with d|d|d
  ·have:=h.ty.apart u b v c d;omega
  ·exact d
  ·have:=h.ty.apart v c u b d;omega
 ·have m:=mT h b f k;have n:=mU h c j0 l;omega
 ·have m:=mT h c j0 l;have n:=mU h b f k;omega
 ·exact zw h b c f k j0 l e
section
variable {a:Wc}{S:co}{W:cn}{m:Nat->Int}{Y G:List Int}
theorem cz.mem (h:cz a S W m Y G){i:Nat}(hi:cI W.T i):m i∈Y\/m i∈G:=by
 cases e:(W.T.getD i t0).2.2.1
 ·exact aL (h.ia i hi e)
 ·exact aK (h.old i hi e)
theorem cz.bd (h:cz a S W m Y G)(hb:cJ a S.s){i:Nat}(hi:cI W.T i):0<=m i/\m i<1280:=by
 have c:=hb.n1;have d:=hb.o1;have e:=hb.y1;have f:=hb.g1;rcases h.mem hi with b|b
 ·have:=h.kv.inv.full.im _ b;omega
 ·have:=h.kv.inv.full.io _ b;omega
theorem cz.word (h:cz a S W m Y G)(hb:cJ a S.s){i:Nat}(hi:cI W.T i):vc 3 (m i)=0/\c7 (ew 3 (m i))=true/\cj (ew 3 (m i))=m i:=by have hB:=h.bd hb hi;have h0:=l8 (m i) hB.1 aa;have b:=m4 3 (m i) h0;exact⟨h0,b.1,b.2 rfl⟩
theorem cz.vt (h:cz a S W m Y G)(hb:cJ a S.s){v:Int×Int}(c:dO W.T v)(b:v.1=3):c7 (wv m v)=true/\cj (wv m v)=m v.2.toNat:=(ib b▸(h.word hb (c.t b).2).2)
theorem dO.no {T:List cH}{v:Int×Int}(c:dO T v)(b:v.1≠3):c7 (wv m v)=false:=by rw[lj b,(m4 _ _ (c.o b)).1];simpa using b
theorem cz.uj (h:cz a S W m Y G)(hb:cJ a S.s){v:Int×Int}(b:dO W.T v):c7 (wv m v)=(v.1==3):=by
 by_cases c:v.1=3
 ·rw[(h.vt hb b c).1,c];rfl
 ·rw[b.no c];simp[c]
theorem cz.at (h:cz a S W m Y G)(hb:cJ a S.s){v:Int×Int}(b:dO W.T v)(ha:c7 (wv m v)=true):cj (wv m v)∈Y\/cj (wv m v)∈G:=by
 rw[h.uj hb b] at ha;have c:v.1=3:=by simpa using ha
 rw[(h.vt hb b c).2];exact h.mem (b.t c).2
theorem cz.dec (h:cz a S W m Y G)(hb:cJ a S.s){v:Int×Int}(b:dO W.T v):dc (wv m v)=0/\dk (wv m v)=v.1/\dA (wv m v)=if v.1=3 then m v.2.toNat else v.2:=by
 by_cases c:v.1=3
 ·rw[ib c,aJ c,c];exact pH 3 _ (h.word hb (b.t c).2).1
 ·rw[lj c,aH c];exact pH _ _ (b.o c)
theorem cz.z6 (h:cz a S W m Y G)(hb:cJ a S.s){v u:Int×Int}(b:dO W.T v)(d:dO W.T u)(e:wv m v=wv m u):v=u:=by
 obtain⟨_,k1,n1⟩:=h.dec hb b;obtain⟨_,f,g⟩:=h.dec hb d;rw[e] at k1 n1;have fg:=k1.symm.trans f;rw[g] at n1;by_cases c:v.1=3
 ·have c2:=fg▸c
  rw[aJ c,aJ c2] at n1;have:=h.inj _ _ (d.t c2).2 (b.t c).2 n1;have i:=(b.t c).1;have j:=(d.t c2).1;exact Prod.ext fg aa
 ·rw[aH c,aH (fg▸c)] at n1;exact Prod.ext fg n1.symm
theorem cz.parts (h:cz a S W m Y G){i:Nat}(hi:cI W.T i):pk (ld a.N S.s.y S.s.g S.s.ws (m i))=(W.T.getD i t0).1/\pf (ld a.N S.s.y S.s.g S.s.ws (m i))=(W.T.getD i t0).2.1.length/\pc (ld a.N S.s.y S.s.g S.s.ws (m i))=0:=by obtain⟨b,c⟩:=h.hd i hi;rw[c];exact pI _ _ b
theorem cz.tB (h:cz a S W m Y G)(hb:cJ a S.s){v:Int×Int}(b:dO W.T v):tB a.N S.s.y S.s.g S.s.ws (wv m v)=(v.1==3):=by
 by_cases c:v.1=3
 ·rw[(iY (O:=a.O) h.kv.inv.full hb.n1 hb.y1 hb.o1 hb.g1).2 ⟨(h.vt hb b c).1,h.at hb b (h.vt hb b c).1⟩,c];rfl
 ·have e:(v.1==3)=false:=by simpa using c
  rw[e,Bool.eq_false_iff];intro d;have:=((iY (O:=a.O) h.kv.inv.full hb.n1 hb.y1 hb.o1 hb.g1).1 d).1;rw[b.no c] at this
  cases this
theorem cz.root (h:cz a S W m Y G){i:Nat}(hi:i<12):S.s.rs.getD i 0=wv m (W.rs.getD i (0,0))/\dO W.T (W.rs.getD i (0,0)):=by
 have hl:i<W.rs.length:=(h.rl▸hi)
 exact⟨(h.rs▸jJ _ _ _ _ _ hl),h.rv _ (getD_in hl)⟩
theorem cz.code (h:cz a S W m Y G)(hb:cJ a S.s){A:Nat}(d:A<12)(I:Int):dX a.N S.s.y S.s.g S.s.ws (S.s.rs.getD A 0) I=W.gc A I:=by
 obtain⟨e,b⟩:=h.root d;rw[e];unfold dX cn.gc cn.th;rw[h.tB hb b];by_cases c:(W.rs.getD A (0,0)).1=3
 ·have f:((W.rs.getD A (0,0)).1==3)=true:=by simpa using c
  obtain⟨z,al⟩:=b.t c;obtain⟨g,i,_⟩:=h.parts al;rw[f,aJ rfl,aJ c,(h.vt hb b c).2,h.kv.inv.full.stands hb.y1 (h.mem al),g,i];have j:W.T.getD (W.rs.getD A (0,0)).2.toNat (0,[],false,false)=W.T.getD (W.rs.getD A (0,0)).2.toNat t0:=rfl;rw[j];by_cases c5:(W.T.getD (W.rs.getD A (0,0)).2.toNat t0).1=5
  ·omega
  ·omega
 ·simp_all
theorem cz.put (h:cz a S W m Y G)(hb:cJ a S.s)(k:Nat){v:Int×Int}(b:dO W.T v):cz a ⟨{S.s with rs:=S.s.rs.set k (wv m v)},S.r,S.q⟩ {W with rs:=W.rs.set k v} m Y G:=
 {
  kv:=h.kv.root k _ (fun ha=>h.at hb b ha),rl:=by rw[bf];exact h.rl
  rv:=fun u c=>(zu c).elim (h.rv u) (fun e=>by rw[e];exact b),fv:=h.fv
  rs:=by rw[h.rs,List.map_set]
  ia:=h.ia,old:=h.old,inj:=h.inj,fZ:=h.fZ,hd:=h.hd,fd:=h.fd,rg:=h.rg,gv:=h.gv,wt:=h.wt,dD:=h.dD,tl:=h.tl}
theorem cz.beside (h:cz a S W m Y G){r q:List b9}(b:∀e∈r,iu W.T e)(hq:∀e∈q,iu W.T e):cz a ⟨S.s,r.map (we m),q.map (we m)⟩ {W with rg:=r,wt:=q} m Y G:=
 {kv:=h.kv,rl:=h.rl,rv:=h.rv,fv:=h.fv,rs:=h.rs,ia:=h.ia,old:=h.old,inj:=h.inj,fZ:=h.fZ,hd:=h.hd,fd:=h.fd,rg:=rfl,gv:=b,wt:=rfl,dD:=hq,tl:=h.tl}
theorem Hu {T:List cH}{i:Nat}{t:cH}(hi:i<T.length)(hd:t.2.2.2=(T.getD i t0).2.2.2)(j:Nat):cI (T.set i t) j↔cI T j:=by
 unfold cI;rw[bf,pz _ _ _ _ _ hi];by_cases e:i=j
 ·simp_all
 ·rw[aH e]
theorem cz.store (h:cz a S W m Y G)(hb:cJ a S.s){i k:Nat}(hi:cI W.T i)(hk:k<(W.T.getD i t0).2.1.length){v:Int×Int}(x:dO W.T v){ws M:List Int}(ew:ws=S.s.ws.set (m i+1+k).toNat (wv m v))(w:eA a {S.s with ws:=ws,M:=M} Y G):
 cz a ⟨{S.s with ws:=ws,M:=M},S.r,S.q⟩ {W with T:=W.T.set i ((W.T.getD i t0).1,(W.T.getD i t0).2.1.set k v,(W.T.getD i t0).2.2)} m Y G:=by
 have al:∀j,cI (W.T.set i ((W.T.getD i t0).1,(W.T.getD i t0).2.1.set k v,(W.T.getD i t0).2.2)) j↔cI W.T j:=Hu hi.1 rfl;have f:∀j,(W.T.set i ((W.T.getD i t0).1,(W.T.getD i t0).2.1.set k v,(W.T.getD i t0).2.2)).getD j t0=if i=j then((W.T.getD i t0).1,(W.T.getD i t0).2.1.set k v,(W.T.getD i t0).2.2) else W.T.getD j t0:=fun j=>pz _ _ _ _ _ hi.1
 have gl:∀j,((W.T.set i ((W.T.getD i t0).1,(W.T.getD i t0).2.1.set k v,(W.T.getD i t0).2.2)).getD j t0).2.1.length=(W.T.getD j t0).2.1.length:=fun j=>by
  rw[f];split
  ·simp_all
  ·rfl
 have g1:∀j,((W.T.set i ((W.T.getD i t0).1,(W.T.getD i t0).2.1.set k v,(W.T.getD i t0).2.2)).getD j t0).1=(W.T.getD j t0).1:=fun j=>by
  rw[f];split
  ·simp_all
  ·rfl
 have g2:∀j,((W.T.set i ((W.T.getD i t0).1,(W.T.getD i t0).2.1.set k v,(W.T.getD i t0).2.2)).getD j t0).2.2=(W.T.getD j t0).2.2:=fun j=>by
  rw[f];split
  ·simp_all
  ·rfl
 obtain⟨B,F,_⟩:=h.parts hi;have k1:(k:Int)<pf (ld a.N S.s.y S.s.g S.s.ws (m i)):=aa;obtain⟨_,q⟩:=h.kv.inv.full.set hb.l1 hb.y1 hb.g1 (h.mem hi) (Int.natCast_nonneg k) k1;rw[<-ew] at q;have l:∀u,dO W.T u->_:=fun u c=>c.mono (fun j b=>(al j).2 b)
 have s:∀e,iu W.T e->iu (W.T.set i ((W.T.getD i t0).1,(W.T.getD i t0).2.1.set k v,(W.T.getD i t0).2.2)) e:=fun e he=>⟨he.g0,(al _).2 he.g,by rw[g1];exact he.k,he.h0,(al _).2 he.h⟩
 have N:=jd (jE h.kv.inv.full (h.mem hi) (Int.natCast_nonneg k) k1) hb.y1 hb.g1;exact
 {
  kv:=w,rl:=h.rl,rv:=fun u c=>l u (h.rv u c)
  fv:=fun j b u c=>by
   have d:=(al j).1 b;have c:=c;rw[f] at c;split at c
   ·rename_i e;rcases zu c with o|o
    ·exact l u (h.fv i hi u o)
    ·simp_all
   ·exact l u (h.fv j d u c)
  rs:=h.rs
  ia:=fun j b e=>h.ia j ((al j).1 b) (by simp_all)
  old:=fun j b e=>h.old j ((al j).1 b) (by simp_all)
  inj:=fun j t b d e=>h.inj j t ((al j).1 b) ((al t).1 d) e
  fZ:=fun u c=>by obtain⟨j,b,e⟩:=h.fZ u c;exact⟨j,(al j).2 b,e⟩
  hd:=fun j b=>by have d:=(al j).1 b;rw[gl,g1,q _ (h.mem d)];exact h.hd j d
  fd:=fun j b n g=>by
   have d:=(al j).1 b;have g:=g;rw[gl] at g;obtain⟨_,ab,_⟩:=h.parts d;have n1:(n:Int)<pf (ld a.N S.s.y S.s.g S.s.ws (m j)):=aa;have p:=jE h.kv.inv.full (h.mem d) (Int.natCast_nonneg n) n1;have ad:=jd p hb.y1 hb.g1;rw[ee p,ew,kQ _ _ _ _ (by have:=hb.l1;omega),<-ee p,h.fd j d n g,f];by_cases e:i=j
   ·subst e;rw[aJ rfl];show _=wv m _;rw[pz _ _ _ _ _ hk];by_cases fg:k=n
    ·simp_all
    ·rw[aH fg,aH aa]
   ·rw[aH e,aH (fun o=>e ?_)];exact h.inj i j hi d (Ht h.kv.inv.full hb.y1 (h.mem hi) (h.mem d) (Int.natCast_nonneg k) k1 (Int.natCast_nonneg n) n1 aa)
  rg:=h.rg,gv:=fun e he=>s e (h.gv e he),wt:=h.wt,dD:=fun e he=>s e (h.dD e he)
  tl:=fun j=>by rw[gl];exact h.tl j}
theorem z7 {T:List cH}{t:cH}(ht:t.2.2.2=false)(j:Nat):cI (T++[t]) j↔cI T j\/j=T.length:=by
 unfold cI;rcases Nat.lt_trichotomy j T.length with b|b|b
 ·rw[aG,List.getElem?_append_left b,<-aG];exact⟨fun q=>aL ⟨b,q.2⟩,fun q=>q.elim (fun q=>⟨by simp;omega,q.2⟩) (fun e=>absurd b aa)⟩
 ·simp_all
 ·simp;omega
theorem ll {b:Type}(l:List b)(t c:b)(j:Nat)(h:j<l.length):(l++[t]).getD j c=l.getD j c:=by rw[aG,List.getElem?_append_left h,<-aG]
theorem qZ {b:Type}(l:List b)(t c:b):(l++[t]).getD l.length c=t:=by simp
def m0 (m:Nat->Int)(n:Nat)(y:Int)(i:Nat):Int:=if i=n then y else m i
theorem cz.new (h:cz a S W m Y G){kd:Int}{g:List _}(hk:hc kd g.length=0)(B:∀v∈g,dO W.T v){c:eh}(er:c.rs=S.s.rs)(ag:c.y<=a.N)(s:eA a c (Y++[(S.s.y:Int)]) G)
 (ai:ld a.N c.y c.g c.ws S.s.y=hw kd g.length)(F:∀k:Nat,k<g.length->ld a.N c.y c.g c.ws (S.s.y+1+k)=wv m (g.getD k (0,0)))
 (h0:∀v,(v∈Y\/v∈G)->ld a.N c.y c.g c.ws v=ld a.N S.s.y S.s.g S.s.ws v)(N:∀v,(v∈Y\/v∈G)->∀k:Nat,(k:Int)<pf (ld a.N S.s.y S.s.g S.s.ws v)->ld a.N c.y c.g c.ws (v+1+k)=ld a.N S.s.y S.s.g S.s.ws (v+1+k)):
 cz a ⟨c,S.r,S.q⟩ {W with T:=W.T++[(kd,g,false,false)]} (m0 m W.T.length S.s.y) (Y++[(S.s.y:Int)]) G:=by
 have al:∀j,cI (W.T++[(kd,g,false,false)]) j↔cI W.T j\/j=W.T.length:=z7 rfl;have f:∀i,cI W.T i->m0 m W.T.length S.s.y i=m i:=fun i hi=>by unfold m0;rw[aH (by have:=hi.1;omega)]
 have t:m0 m W.T.length S.s.y W.T.length=S.s.y:=by unfold m0;rw[aJ rfl]
 have w:∀u,dO W.T u->_:=fun u l=>l.mono (fun j d=>(al j).2 (aL d))
 have x:∀e,iu W.T e->iu (W.T++[(kd,g,false,false)]) e:=fun e he=>⟨he.g0,(al _).2 (aL he.g),(ll _ _ _ _ he.g.1▸he.k),he.h0,(al _).2 (aL he.h)⟩
 have ab:∀j,cI W.T j->m j≠S.s.y:=fun j d e=>by
  rcases h.mem d with b|b
  ·have:=h.kv.inv.full.im _ b;omega
  ·have ad:(S.s.y:Int)∈Y++[(S.s.y:Int)]:=ac;have n1:=s.inv.full.im _ ad;have ap:=s.inv.full.io _ b;omega
 exact
 {
  kv:=s,rl:=h.rl,rv:=fun u l=>w u (h.rv u l)
  fv:=fun j d u l=>by
   rcases(al j).1 d with b|b
   ·have l:=l;rw[ll _ _ _ _ b.1] at l;exact w u (h.fv j b u l)
   ·simp_all
  rs:=by show c.rs=W.rs.map _;rw[er,h.rs];exact List.map_congr_left (fun v o=>(ui f (h.rv v o)).symm)
  ia:=fun j d e=>by
   rcases(al j).1 d with b|b
   ·have e:=e;rw[ll _ _ _ _ b.1] at e;rw[f j b];exact a7 _ (h.ia j b e)
   ·simp_all
  old:=fun j d e=>by
   have e:=e;rcases(al j).1 d with b|b
   ·rw[ll _ _ _ _ b.1] at e;rw[f j b];exact h.old j b e
   ·simp_all
  inj:=fun i j hi d e=>by
   rcases(al i).1 hi with b|b<;>rcases(al j).1 d with p|p
   ·rw[f i b,f j p] at e;exact h.inj i j b p e
   ·simp_all
   ·rw[f j p,b,t] at e;exact absurd e.symm (ab j p)
   ·omega
  fZ:=fun v o=>by
   have q:(v∈Y\/v∈G)\/v=S.s.y:=by
    rcases o with o|o
    ·rcases List.mem_append.1 o with b|b
     ·simp_all
     ·simp_all
    ·simp_all
   rcases q with q|q
   ·obtain⟨j,d,e⟩:=h.fZ v q;exact⟨j,(al j).2 (aL d),(f j d▸e)⟩
   ·simp_all
  hd:=fun j d=>by
   show hc _ _=0/\ld a.N c.y c.g c.ws _=hw _ _;rcases(al j).1 d with b|b
   ·rw[ll _ _ _ _ b.1,f j b,h0 _ (h.mem b)];exact h.hd j b
   ·simp_all
  fd:=fun j d k n=>by
   have n:=n;show ld a.N c.y c.g c.ws _=wv _ _;rcases(al j).1 d with b|b
   ·rw[ll _ _ _ _ b.1] at n⊢;rw[f j b,N _ (h.mem b) k (by rw[(h.parts b).2.1];omega),h.fd j b k n];exact(ui f (h.fv j b _ (getD_in n))).symm
   ·rw[b,qZ] at n⊢;rw[t,F k n];exact(ui f (B _ (getD_in n))).symm
  rg:=by show S.r=W.rg.map _;rw[h.rg];exact List.map_congr_left (fun e he=>(z5 f (h.gv e he)).symm)
  gv:=fun e he=>x e (h.gv e he)
  wt:=by show S.q=W.wt.map _;rw[h.wt];exact List.map_congr_left (fun e he=>(z5 f (h.dD e he)).symm)
  dD:=fun e he=>x e (h.dD e he)
  tl:=fun j=>by
   show((W.T++[(kd,g,false,false)]).getD j t0).2.1.length<=12;rcases Nat.lt_trichotomy j W.T.length with b|b|b
   ·rw[ll _ _ _ _ b];exact h.tl j
   ·rw[b,qZ];have:=iH _ _ hk;show g.length<=12;omega
   ·rw[aG,List.getElem?_eq_none (by simp;omega)];simp[t0]}
end
def fT (P:Nat->Bool)(z:Nat->Nat):Nat->Nat
 |0=>0
 |n+1=>fT P z n+if P n=true then z n else 0
theorem z8 {P:Nat->Bool}{z:Nat->Nat}{m:Nat->Int}{f:Int->Nat}:∀n,(∀i,i<n->P i=true->f (m i)=z i)->fT P z n=gB f (((List.range n).filter P).map m)
 |0,_=>by rfl
 |n+1,h=>by
  rw[fT,z8 n (fun i hi hp=>h i aa hp),List.range_succ,List.filter_append,bC,GQ];cases c:P n
  ·simp[c,gB]
  ·simp[c,gB,h n aa c]
theorem uk {P:Nat->Bool}{z:Nat->Nat}{m:Nat->Int}{f:Int->Nat}{n:Nat}{l:List Int}(q:∀i,i<n->P i=true->f (m i)=z i)(o:l.Nodup)(inj:∀i j,i<n->j<n->P i=true->P j=true->m i=m j->i=j)(hl:∀v,v∈l↔∃i,i<n/\P i=true/\m i=v):fT P z n=gB f l:=by
 rw[z8 n q];have p:∀v,v∈((List.range n).filter P).map m↔v∈l:=fun v=>by
  rw[hl v];simp;constructor
  ·rintro⟨i,⟨b,c⟩,d⟩
   exact⟨i,b,c,d⟩
  ·rintro⟨i,b,c,d⟩
   exact⟨i,⟨b,c⟩,d⟩
 have nd:(((List.range n).filter P).map m).Nodup:=by
  unfold List.Nodup;rw[List.pairwise_map];refine List.Pairwise.imp_of_mem (fun {i j} hi g s e=>s ?_) (List.nodup_range.filter _)
  simp at hi g;exact inj i j hi.1 g.1 hi.2 g.2 e
 exact Nat.le_antisymm (zq nd o (fun v k=>(p v).1 k)) (zq o nd (fun v k=>(p v).2 k))
theorem z9 {P Q:Nat->Bool}{z:Nat->Nat}:∀n,(∀i,i<n->P i=true->Q i=true)->fT P z n<=fT Q z n
 |0,_=>aD _
 |n+1,h=>by
  have b:=z9 (z:=z) n (fun i hi=>h i aa)
  rw[fT,fT];by_cases c:P n=true
  ·simp_all
  ·rw[aH c];omega
theorem z_ {P Q R:Nat->Bool}{z:Nat->Nat}:∀n,(∀i,i<n->R i=(P i||Q i)/\(P i&&Q i)=false)->fT R z n=fT P z n+fT Q z n
 |0,_=>rfl
 |n+1,h=>by obtain⟨b,c⟩:=h n aa;rw[fT,fT,fT,(z_ n (fun i hi=>h i aa)),b];cases hp:P n<;>cases hq:Q n<;>simp_all<;>omega
def iw (T:List cH)(i:Nat):Nat:=1+(T.getD i t0).2.1.length
def i9 (T:List cH)(i:Nat):Bool:=!(T.getD i t0).2.2.2&&!(T.getD i t0).2.2.1
def oB (T:List cH)(i:Nat):Bool:=!(T.getD i t0).2.2.2&&(T.getD i t0).2.2.1
theorem Aa (T:List cH):∀n,n<=T.length->dC (T.take n)=((fT (i9 T) (iw T) n:Int),(fT (oB T) (iw T) n:Int))
 |0,_=>by simp[dC,fT]
 |n+1,h=>by
  rw[fE T n aa t0,vJ,Aa T n aa];show iQ _ _=(((fT (i9 T) (iw T) n+if i9 T n=true then iw T n else 0:Nat):Int),((fT (oB T) (iw T) n+if oB T n=true then iw T n else 0:Nat):Int))
  unfold iQ i9 oB iw;generalize T.getD n t0=t;cases hd:t.2.2.2<;>cases ho:t.2.2.1<;>simp
theorem Ab (T:List cH):dC T=((fT (i9 T) (iw T) T.length:Int),(fT (oB T) (iw T) T.length:Int)):=by
 have:=Aa T T.length bY
 rwa [ba] at this
theorem ul (T:List cH)(L:List Bool):∀n,gY T L n=(fT (fun i=>L.getD i false) (iw T) n:Int)
 |0=>rfl
 |n+1=>by
  rw[gY,ul T L n,fT];split
  ·simp[iw]
  ·simp
section
variable {a:Wc}{S:co}{W:cn}{m:Nat->Int}{Y G:List Int}
theorem cz.size (h:cz a S W m Y G){i:Nat}(hi:cI W.T i):mY (ld a.N S.s.y S.s.g S.s.ws) (m i)=iw W.T i:=by unfold mY iw;rw[(h.parts hi).2.1];simp
theorem lZ {T:List cH}{i:Nat}(b:i<T.length)(c:(T.getD i t0).2.2.2=false):cI T i:=⟨b,c⟩
theorem cz.us (h:cz a S W m Y G)(hb:cJ a S.s):dC W.T=((S.s.y:Int),(S.s.g:Int)):=by
 have n:=hb.y1;have f:fT (i9 W.T) (iw W.T) W.T.length=gB (mY (ld a.N S.s.y S.s.g S.s.ws)) Y:=by
  refine uk (m:=m) (fun i hi hp=>?_) h.kv.inv.full.ty.nodup (fun i j hi d hp hq e=>?_) (fun v=>⟨fun b=>?_,?_⟩)
  ·unfold i9 at hp;simp at hp;exact h.size (lZ hi hp.1)
  ·unfold i9 at hp hq;simp at hp hq;exact h.inj i j (lZ hi hp.1) (lZ d hq.1) e
  ·obtain⟨i,hi,e⟩:=h.fZ v (aL b)
   refine⟨i,hi.1,?_,e⟩
   unfold i9;rw[hi.2];cases c:(W.T.getD i t0).2.2.1
   ·rfl
   ·have g:=h.kv.inv.full.io _ (h.old i hi c)
    have k:=h.kv.inv.full.im v b;omega
  ·rintro⟨i,hi,hp,e⟩
   unfold i9 at hp;simp at hp;rw[<-e];exact h.ia i (lZ hi hp.1) hp.2
 have l:fT (oB W.T) (iw W.T) W.T.length=gB (mY (ld a.N S.s.y S.s.g S.s.ws)) G:=by
  refine uk (m:=m) (fun i hi hp=>?_) h.kv.inv.full.ej.nodup (fun i j hi d hp hq e=>?_) (fun v=>⟨fun b=>?_,?_⟩)
  ·unfold oB at hp;simp at hp;exact h.size (lZ hi hp.1)
  ·unfold oB at hp hq;simp at hp hq;exact h.inj i j (lZ hi hp.1) (lZ d hq.1) e
  ·obtain⟨i,hi,e⟩:=h.fZ v (aK b)
   refine⟨i,hi.1,?_,e⟩
   unfold oB;rw[hi.2];cases c:(W.T.getD i t0).2.2.1
   ·have g:=h.kv.inv.full.im _ (h.ia i hi c)
    have k:=h.kv.inv.full.io v b;omega
   ·rfl
  ·rintro⟨i,hi,hp,e⟩
   unfold oB at hp;simp at hp;rw[<-e];exact h.old i (lZ hi hp.1) hp.2
 have o:=h.kv.inv.full.ty.sum;have p:=h.kv.inv.full.ej.sum;rw[Ab,f,l];exact Prod.ext aa aa
end
theorem cz.start (a:Wc)(n o:Nat):cz a (iP n o).1 (iP n o).2 (fun _=>0) [] []:=by
 have no:∀i,¬cI (iP n o).2.T i:=fun i hi=>absurd hi.1 (Nat.not_lt_zero i)
 have d:∀x∈(iP n o).1.s.rs,c7 x=true->cj x∈([]:List Int)\/cj x∈([]:List Int):=fun x c ha=>by
  have c:x∈tw 2 12:=c;have e:x=2:=by simpa[tw] using c
  rw[e,zV] at ha;cases ha
 exact
 {
  kv:=⟨⟨d_.start,d,fun v b=>(by simp_all)⟩,fun v b=>(by cases b)⟩
  rl:=by simp[iP],rv:=fun v b=>(List.eq_of_mem_replicate b▸dO.nil _)
  fv:=fun i hi=>absurd hi (no i),rs:=af
  ia:=fun i hi=>absurd hi (no i),old:=fun i hi=>absurd hi (no i),inj:=fun i _ hi=>absurd hi (no i)
  fZ:=fun v b=>by simp_all
  hd:=fun i hi=>absurd hi (no i),fd:=fun i hi=>absurd hi (no i),rg:=rfl,gv:=fun e he=>(by cases he),wt:=rfl,dD:=fun e he=>(by cases he)
  tl:=fun i=>by simp[iP,t0]}
section
variable {a:Wc}{S:co}{W:cn}{m:Nat->Int}{Y G:List Int}
theorem cz.qj (h:cz a S W m Y G)(d:W.T.length<=10000)(f:W.rg.length<=1000)(b:W.wt.length<=1000):gF W:=
 {
  iv:=⟨fun i hi hk=>by have:=oc _ _ (h.hd i hi).1;omega,fun i hi v c b=>(h.fv i hi v c).t b,fun e he=>⟨(h.dD e he).h0,(h.dD e he).h⟩,h.tl⟩
  rv:=fun v c b=>(h.rv v c).t b
  gv:=fun e he=>⟨⟨(h.gv e he).g0,(h.gv e he).g⟩,(h.gv e he).h0,(h.gv e he).h⟩
  wg:=fun e he=>⟨(h.dD e he).g0,(h.dD e he).g⟩
  tl:=d,gl:=f,wl:=b}
theorem cz.iv (h:cz a S W m Y G):gD W.T W.wt:=
 ⟨fun i hi hk=>by have:=oc _ _ (h.hd i hi).1;omega,fun i hi v b c=>(h.fv i hi v b).t c,fun e he=>⟨(h.dD e he).h0,(h.dD e he).h⟩,h.tl⟩
theorem cz.first (h:cz a S W m Y G)(c:Bool):fV W.T (jz W.T W.rs c):=
 ⟨p5 _ _ _,fun k hk=>by
  obtain⟨d,b⟩:=(lJ _ _ _ _).1 hk;rcases b with⟨_,b,_⟩|⟨v,f,g,e⟩
  ·exact⟨d,b⟩
  ·rw[<-e];exact((h.rv v f).t g).2⟩
theorem cz.field (h:cz a S W m Y G){i:Nat}(hi:cI W.T i){v:Int×Int}(c:v∈(W.T.getD i t0).2.1):∃k:Nat,k<(W.T.getD i t0).2.1.length/\(W.T.getD i t0).2.1.getD k (0,0)=v/\ld a.N S.s.y S.s.g S.s.ws (m i+1+k)=wv m v:=by
 obtain⟨k,hk,e⟩:=List.mem_iff_getElem.1 c;have b:(W.T.getD i t0).2.1.getD k (0,0)=v:=by rw[aG,aI hk,e];rfl
 exact⟨k,hk,b,by rw[h.fd i hi k hk,b]⟩
theorem cz.two (h:cz a S W m Y G){i:Nat}(hi:cI W.T i)(hk:(W.T.getD i t0).1=1\/(W.T.getD i t0).1=3\/(W.T.getD i t0).1=4):(W.T.getD i t0).2.1.length=2:=by have:=oc _ _ (h.hd i hi).1;omega
end
structure kK (k:cf)(z:C0)(C:Int->Prop):Prop where
 old:∀b∈z.G,C b
 p:∀c,(c∈k.T\/c∈z.G)->C c->pk (k.l0 z c)=1\/pk (k.l0 z c)=2->∀i:Nat,(i:Int)<pf (k.l0 z c)->k.cL (k.l0 z (c+1+i))=true->C (cj (k.l0 z (c+1+i)))
 w:∀c,(c∈k.T\/c∈z.G)->C c->pk (k.l0 z c)=3->k.cL (k.l0 z (c+1+1))=true->C (cj (k.l0 z (c+1+1)))
 e:∀c,(c∈k.T\/c∈z.G)->C c->pk (k.l0 z c)=4->(k.cL (k.l0 z (c+1+0))=true->C (cj (k.l0 z (c+1+0))))->k.cL (k.l0 z (c+1+1))=true->C (cj (k.l0 z (c+1+1)))
def kL (k:cf)(C:Int->Prop)(q:List b9):Prop:=∀e∈q,(k.cL e.1=true->C (cj e.1))->k.cL e.2=true->C (cj e.2)
def dd (k:cf)(C:Int->Prop)(s:ck):Prop:=∀a∈k.T,s.f a≠-1->C a
section
variable {k:cf}{z:C0}{s t:ck}{H D:List Int}{C:Int->Prop}
theorem m2 {x:Int}(h:k.cL x=true):cj x∈k.T:=by unfold cf.cL at h;simp at h;exact h.2
theorem l4 {x:Int}(h:k.ls s x=true):k.cL x=true:=by unfold cf.ls at h;rw[bh] at h;exact h.1
theorem dd.br (h:dd k C s)(x:Int)(f:k.cL x=true->C (cj x)):dd k C (k.br s x).2:=by
 unfold cf.br;split
 ·rename_i c;intro b hb d;by_cases e:b=cj x
  ·rw[e];exact f (l4 c)
  ·refine h b hb ?_;have g:(k.cp s (cj x)).f b=s.f b:=by unfold cf.cp gw;dsimp only;rw[aH e]
   have d:=d;rw[g] at d;exact d
 ·exact h
theorem dH.q6 (h:dH k z s H){a b i:Int}(c:k.or z s a b)(d:0<=i)(f:i<pf (k.l0 z a))(hl:k.cL (k.ld s (b+1+i))=true):k.ld s (b+1+i)=k.l0 z (a+1+i):=by
 rcases h.fd a b c i d f with e|⟨y1,g,j⟩
 ·exact e
 ·have hb:=h.iX (h.fh _ (m2 y1) g)
  have n1:=h.ci.hN';have l:=h.ci.hO;have m:=h.ci.hg;rw[j,mW h.ci hb.1 aa] at hl;cases hl
theorem dd.kf (h:dd k C s)(mi:dH k z s H){a b i:Int}(c:k.or z s a b)(d:0<=i)(f:i<pf (k.l0 z a))(g:k.cL (k.l0 z (a+1+i))=true->C (cj (k.l0 z (a+1+i)))):dd k C (k.kf s (b+1+i)):=
 h.br _ (fun hy=>by have e:=mi.q6 c d f hy;rw[e] at hy;rw[e];exact g hy)
theorem dd.f9 (h:dd k C s)(mi:dH k z s H){a b:Int}(c:k.or z s a b)(d:∀i:Nat,(i:Int)<pf (k.l0 z a)->k.cL (k.l0 z (a+1+i))=true->C (cj (k.l0 z (a+1+i)))):∀n:Nat,(n:Int)<=pf (k.l0 z a)->dd k C (k.f9 s b n)
 |0,_=>h
 |n+1,f=>by obtain⟨g,m1,e,_⟩:=mi.f9 c n aa;exact(dd.f9 h mi c d n aa).kf m1 (e.or c) aa aa (d n aa)
theorem um {a b:Int}(c:k.or z s a b):a∈k.T\/a∈z.G:=by
 rcases c with⟨e,h⟩|⟨h,_⟩
 ·simp_all
 ·exact aL h
theorem dd.or (h:dd k C s)(d:kK k z C){a b:Int}(f:k.or z s a b):C a:=by
 rcases f with⟨e,c⟩|⟨c,g,i⟩
 ·rw[e];exact d.old b c
 ·exact h a c ((g▸i))
theorem dd.lk (h:dd k C s)(mi:dH k z s H)(d:kK k z C){a b:Int}(c:k.or z s a b):dd k C (k.lk s b):=by
 have ha:=h.or d c;have hm:=um c;have f:=mi.hd a b c;have hb:=mi.bd (mi.mem c)
 have m:=dp (k.ld s b)
 unfold cf.lk;by_cases c1:pk (k.ld s b)=1\/pk (k.ld s b)=2
 ·rw[aJ c1];exact h.f9 mi c (d.p a hm ha (by simp_all)) _ (by rw[<-f];omega)
 ·rw[aH c1];by_cases c3:pk (k.ld s b)=3
  ·rw[aJ c3];have n:=h8 hb.2.2 (aK (aL c3))
   have hN:=mi.ci.hN';have hO:=mi.ci.hO;have hg:=mi.ci.hg;have i:=mi.turn (s.wk++[b]) s.ep s.rs s.nx (fun x j=>by
    rcases List.mem_append.1 j with e|e
    ·exact mi.ci.ip x e
    ·rw[List.mem_singleton] at e;omega) mi.ci.hL mi.ci.g7 mi.ci.gG
   have l:dd k C {s with wk:=s.wk++[b],ep:=s.ep,rs:=s.rs,nx:=s.nx}:=h;have g:=l.kf i c aa (by simp_all) (d.w a hm ha ((f▸c3)))
   have ea:b+1+1=b+2:=aa;rw[ea] at g;exact g
  ·rw[aH c3];split
   ·exact h
   ·exact h
theorem dd.lb (b:kK k z C):∀(n:Nat){s:ck}{H:List Int},LI k z s H D->dd k C s->dd k C (k.lb n s)
 |0,_,_,_,h=>h
 |n+1,s,H,l,h=>by
  unfold cf.lb;cases hn:hB k.N s.g s.nx
  ·simp_all
  ·have hb:=jc hn;obtain⟨a,c⟩:=l.mi.from (bm z.G (l.bo.resolve_right aa))
   obtain⟨d,m1,_,_⟩:=l.kC hn;exact dd.lb b n m1 (h.lk l.mi b c)
theorem dd.key (h:dd k C s)(mi:dH k z s H){a b:Int}(c:k.or z s a b)(d:0<pf (k.l0 z a))(hl:k.ls s (k.ld s (b+1))=false)(hy:k.cL (k.l0 z (a+1+0))=true):C (cj (k.l0 z (a+1+0))):=by
 refine h _ (m2 hy) ?_;have f:b+1+0=b+1:=aa;rcases mi.fd a b c 0 aa d with e|⟨y1,g,_⟩
 ·rw[f] at e;intro i;unfold cf.ls at hl;rw[e,hy,i] at hl;simp at hl
 ·exact g
theorem dd.qM (h:dd k C s)(l:LI k z s H D)(c:kK k z C){b:Int}(hb:b∈z.G++H)(f:pk (k.ld s b)=4)(d:k.ls s (k.ld s (b+1))=false):dd k C (k.kf (k.kf s (b+1)) (b+2)):=by
 obtain⟨a,o⟩:=l.mi.from hb;have n:=h8 (l.mi.bd hb).2.2 (aK (aK f))
 have p:=l.mi.hd a b o;have g:b+1+0=b+1:=aa;have j:b+1+1=b+2:=aa;obtain⟨q,m1,m,_,_⟩:=l.mi.kf (i:=0) o aa (by simp_all)
 have e:=(h.kf l.mi o aa (by simp_all) (h.key l.mi o (by simp_all) d)).kf m1 (m.or o) aa (by simp_all) (c.e a (um o) (h.or c o) (by simp_all) (h.key l.mi o (by simp_all) d))
 rw[g,j] at e;exact e
theorem dd.iq (c:kK k z C):∀(l left:List Int){s:ck}{H:List Int},LI k z s H D->(∀a∈l,a∈z.G++H/\pk (k.ld s a)=4)->dd k C s->dd k C (l.foldl k.cS (left,s)).2
 |[],_,_,_,_,_,h=>h
 |b::l,left,s,H,li,hl,h=>by
  rw[a9];cases hls:k.ls s _
  ·have d:k.cS (left,s) b=(left,k.kf (k.kf s (b+1)) (b+2)):=by unfold cf.cS;rw[aH (by rw[hls];simp)]
   rw[d];obtain⟨e,f⟩:=hl b ac;obtain⟨m,m1,g,i,n,o⟩:=li.qM e f;exact dd.iq c l left m1 (fun a ha=>by
    obtain⟨n1,j⟩:=hl a (aQ _ ha)
    exact⟨kF i n1,(g.hd li.mi m1.mi n1▸j)⟩) (h.qM li c e f hls)
  ·have d:k.cS (left,s) b=(left++[b],s):=by unfold cf.cS;rw[aJ hls]
   rw[d];exact dd.iq c l _ li (fun a ha=>hl a (aQ _ ha)) h
theorem dd.kv (b:kK k z C)(l:LI k z s H D)(w:dN k z s H)(h:dd k C s):dd k C (k.kv s).2:=dd.iq b s.ep [] l w.ep h
theorem dd.j7:∀(l:List Nat)(t:(ck×List b9)×Bool)(H:List Int),LI k z t.1.1 H D->dN k z t.1.1 H->(∀i∈l,i<t.1.2.length)->kL k C t.1.2->dd k C t.1.1->dd k C (l.foldl (dF k.al k.br) t).1.1/\kL k C (l.foldl (dF k.al k.br) t).1.2
 |[],_,_,_,_,_,q,h=>⟨h,q⟩
 |i::l,t,H,li,w,hl,q,h=>by
  rw[a9];by_cases c:(k.al t.1.1 (t.1.2.getD i (0,0)).2||!k.al t.1.1 (t.1.2.getD i (0,0)).1)=true
  ·have b:dF k.al k.br t i=t:=by unfold dF;rw[aJ c]
   rw[b];exact dd.j7 l t H li w (fun j e=>hl j (aQ _ e)) q h
  ·have b:dF k.al k.br t i=(((k.br t.1.1 (t.1.2.getD i (0,0)).2).2,t.1.2.set i ((t.1.2.getD i (0,0)).1,(k.br t.1.1 (t.1.2.getD i (0,0)).2).1)),true):=by unfold dF;rw[aH c]
   obtain⟨f,l1,w1,g,_⟩:=cZ.br _ H li w;obtain⟨_,_,_,y1,_,_,_⟩:=li.mi.br _;have c2:k.al t.1.1 (t.1.2.getD i (0,0)).1=true:=by simp_all
   have hg:k.cL (t.1.2.getD i (0,0)).1=true->_:=fun hy=>h _ (m2 hy) (fun d=>by unfold cf.al cf.ls at c2;rw[hy,d] at c2;simp at c2)
   rw[b];refine dd.j7 l _ f l1 w1 (fun j e=>?_) ?_ (h.br _ (q _ (getD_in (hl i ac)) hg))
   ·simp_all
   ·intro d hd;have hd:=hd;rcases List.mem_or_eq_of_mem_set hd with hd|rfl
    ·exact q d hd
    ·intro _ hy;rw[y1] at hy;cases hy
theorem dd.wa {t:ck×List b9}(l:LI k z t.1 H D)(w:dN k z t.1 H)(q:kL k C t.2)(h:dd k C t.1):dd k C (k.wa t).1.1/\kL k C (k.wa t).1.2:=
 dd.j7 _ (t,false) H l w (fun _ hi=>List.mem_range.1 hi) q h
theorem dd.cY (b:kK k z C):∀(n:Nat)(t:ck×List b9)(H:List Int),LI k z t.1 H D->dN k z t.1 H->kL k C t.2->dd k C t.1->dd k C (k.cY n t).1/\kL k C (k.cY n t).2
 |0,_,_,_,_,q,h=>⟨h,q⟩
 |n+1,t,H,l,w,q,h=>by
  obtain⟨g,l1,w1,m,_⟩:=cZ.lb (k.O+1) H l w;obtain⟨d,l2,c,o,_⟩:=cZ.kv g l1 w1;have e:=dd.kv b l1 w1 (dd.lb b (k.O+1) l h)
  obtain⟨i,j,w3,_,_⟩:=cZ.wa ((k.kv _).2,t.2) d l2 c;obtain⟨f,q3⟩:=dd.wa (t:=((k.kv _).2,t.2)) l2 c q e;unfold cf.cY;split
  ·exact dd.cY b n ((k.kv _).2,t.2) d l2 c q e
  ·split
   ·exact dd.cY b n _ i j w3 q3 f
   ·exact⟨f,q3⟩
theorem dd.ke (b:kK k z C){t:ck×List b9}(l:LI k z t.1 H D)(w:dN k z t.1 H)(q:kL k C t.2)(h:dd k C t.1)(x:Int)(c:k.cL x=true->C (cj x)):dd k C (k.ke t x).2.1/\kL k C (k.ke t x).2.2:=by obtain⟨d,l1,w1,_,_⟩:=cZ.br x H l w;exact dd.cY b _ ((k.br t.1 x).2,t.2) d l1 w1 q (h.br x c)
theorem dd.cK (l:LI k z s H D)(h:dd k C s)(b:∀i,i<s.rs.length->k.cL (s.rs.getD i 0)=true->C (cj (s.rs.getD i 0))):∀n,n<=s.rs.length->dd k C (k.cK s n)
 |0,_=>h
 |n+1,d=>by
  obtain⟨_,_,_,_,_,_,c,_⟩:=LI.cK l n aa;have:=(dd.cK l h b n aa).br ((k.cK s n).rs.getD n 0) (((c n bY)▸b n aa))
  exact this
theorem dd.lm (e:kK k z C)(c:Int)(M:List Int)(hz:d9 (k.l0 z) ((k.N:Int)+z.g) k.N z.G):∀(l:List Int){s:ck}{H D:List Int},LI k z s H D->(∀a∈l,a∈z.G\/(k.N:Int)+z.g<=a)->dd k C s->dd k C (l.foldl (k.f_ ((k.N:Int)+z.g) c M) s)
 |[],_,_,_,_,_,h=>h
 |b::l,s,H,D,li,hl,h=>by
  rw[a9];have i:=dp (k.ld s b)
  by_cases d:b∈z.G/\(fU k.N c b&&M.contains (cN k.N b))=true
  ·have hb:=(hz.mem b d.1).2.1;have f:k.f_ ((k.N:Int)+z.g) c M s b=k.lk s b:=by unfold cf.f_;rw[aJ (by rw[(li.mi.hd b b (aL ⟨rfl,d.1⟩))];omega),aJ d.2]
   rw[f];obtain⟨j,m1,m,⟨n,o⟩⟩:=li.lk d.1;exact dd.lm e c M hz l m1 (fun a ha=>hl a (aQ _ ha)) (h.lk li.mi e (aL ⟨rfl,d.1⟩))
  ·have f:k.f_ ((k.N:Int)+z.g) c M s b=s:=by
    unfold cf.f_;by_cases g:b∈z.G
    ·simp_all
    ·have:=(hl b ac).resolve_left g;rw[aH aa]
   rw[f];exact dd.lm e c M hz l li (fun a ha=>hl a (aQ _ ha)) h
end
section
variable {k:cf}{z:C0}{s t:ck}{H D:List Int}
theorem Ac (k:cf):∀(l left:List Int)(s:ck),left.length+l.length<=(l.foldl k.cS (left,s)).1.length->l.foldl k.cS (left,s)=(left++l,s)/\∀a∈l,k.ls s (k.ld s (a+1))=true
 |[],left,s,_=>⟨ac,fun a ha=>by cases ha⟩
 |b::l,left,s,h=>by
  rw[a9] at h⊢;cases hls:k.ls s _
  ·have c:k.cS (left,s) b=(left,k.kf (k.kf s (b+1)) (b+2)):=by unfold cf.cS;rw[aH (by rw[hls];simp)]
   rw[c] at h;have g:=(qN k l left (k.kf (k.kf s (b+1)) (b+2))).1;rw[List.length_cons] at h;omega
  ·have c:k.cS (left,s) b=(left++[b],s):=by unfold cf.cS;rw[aJ hls]
   rw[c] at h⊢;obtain⟨e,f⟩:=Ac k l (left++[b]) s (by rw[aZ,List.length_singleton];rw[List.length_cons] at h;omega)
   refine⟨by rw[e];simp,fun a ha=>?_⟩
   rcases List.mem_cons.1 ha with d|d
   ·rw[d];exact hls
   ·exact f a d
theorem Hv (h:(k.kv s).1=false):(k.kv s).2=s/\∀a∈s.ep,k.ls s (k.ld s (a+1))=true:=by
 unfold cf.kv cf.dT at h⊢;obtain⟨b,c⟩:=Ac k s.ep [] s (by simp_all)
 rw[b];exact⟨rfl,c⟩
theorem un:∀(n:Nat)(t:ck×List b9)(H:List Int),LI k z t.1 H D->dN k z t.1 H->ez k t.1->k.mu t.1<n->∀b∈(k.cY n t).1.ep,k.ls (k.cY n t).1 (k.ld (k.cY n t).1 (b+1))=true
 |0,t,H,_,_,_,e=>absurd e aa
 |n+1,t,H,h,w,hb,e=>by
  obtain⟨q,l1,w1,_,_,u⟩:=LI.pj (k.O+1) h w;obtain⟨c1,c2,c3⟩:=CI.lb h.mi.ci hb (k.O+1)
  obtain⟨i,c,v,j⟩:=CI.kv c1 c2;obtain⟨d,l2,f,_,_⟩:=l1.kv w1;unfold cf.cY;cases hk:(k.kv _).1
  ·obtain⟨g1,g2⟩:=Hv hk;obtain⟨x,l,B,F,m⟩:=CI.wa (s:=((k.kv _).2,t.2)) i c;cases hw:(k.wa ((k.kv _).2,t.2)).2
   ·rw[aH ac,t8 k _ hw];rw[g1];exact g2
   ·obtain⟨o,p,w3,_,_⟩:=cZ.wa ((k.kv _).2,t.2) d l2 f;have g:=m hw;dsimp only at g;exact un n _ o p w3 l aa
  ·rw[aJ rfl];have g:=j hk;exact un n ((k.kv _).2,t.2) d l2 f c (by dsimp only;omega)
structure e_ (k:cf)(s:ck)(q0 q:List b9):Prop where
 len:q.length=q0.length
 eq:∀n,n<q0.length->(q.getD n (0,0)).1=(q0.getD n (0,0)).1/\k.ml s (q0.getD n (0,0)).2 (q.getD n (0,0)).2
theorem e_.refl (s:ck)(q:List b9):e_ k s q q:=⟨rfl,fun _ _=>⟨rfl,aL rfl⟩⟩
theorem e_.jm {q0 q:List b9}(h:e_ k s q0 q)(p:df k s t):e_ k t q0 q:=⟨h.len,fun n b=>⟨(h.eq n b).1,p.ml (h.eq n b).2⟩⟩
theorem e_.snoc {q0 q:List b9}(h:e_ k s q0 q){e b:b9}(d:b.1=e.1)(f:k.ml s e.2 b.2):e_ k s (q0++[e]) (q++[b]):=by
 refine⟨by simp[h.len],fun n g=>?_⟩
 rw[aZ,List.length_singleton] at g;by_cases c:n<q0.length
 ·rw[ll _ _ _ _ c,ll _ _ _ _ ((h.len▸c))];exact h.eq n c
 ·have en:n=q0.length:=aa;subst en;rw[qZ,<-h.len,qZ];exact⟨d,f⟩
theorem e_.kG {q0:List b9}:∀(l:List Nat)(t:(ck×List b9)×Bool)(H:List Int),LI k z t.1.1 H D->dN k z t.1.1 H->(∀i∈l,i<t.1.2.length)->e_ k t.1.1 q0 t.1.2->e_ k (l.foldl (dF k.al k.br) t).1.1 q0 (l.foldl (dF k.al k.br) t).1.2
 |[],_,_,_,_,_,e=>e
 |i::l,t,H,h,w,hl,e=>by
  rw[a9];by_cases c:(k.al t.1.1 (t.1.2.getD i (0,0)).2||!k.al t.1.1 (t.1.2.getD i (0,0)).1)=true
  ·have d:dF k.al k.br t i=t:=by unfold dF;rw[aJ c]
   rw[d];exact e_.kG l t H h w (fun j f=>hl j (aQ _ f)) e
  ·have d:dF k.al k.br t i=(((k.br t.1.1 (t.1.2.getD i (0,0)).2).2,t.1.2.set i ((t.1.2.getD i (0,0)).1,(k.br t.1.1 (t.1.2.getD i (0,0)).2).1)),true):=by unfold dF;rw[aH c]
   obtain⟨g,l1,w1,m,_⟩:=cZ.br _ H h w;obtain⟨_,_,_,_,_,m1,_⟩:=h.mi.br _;rw[d];refine e_.kG l _ g l1 w1 (fun j f=>?_) ⟨?_,fun n b=>?_⟩
   ·simp_all
   ·show(t.1.2.set i _).length=_;rw[bf];exact e.len
   ·rw[pz _ _ _ _ _ (hl i ac)];by_cases en:i=n
    ·rw[aJ en];subst en;exact⟨(e.eq i b).1,m1 _ (e.eq i b).2⟩
    ·rw[aH en];exact⟨(e.eq n b).1,m.ml (e.eq n b).2⟩
theorem e_.wa {q0:List b9}{t:ck×List b9}(h:LI k z t.1 H D)(w:dN k z t.1 H)(e:e_ k t.1 q0 t.2):e_ k (k.wa t).1.1 q0 (k.wa t).1.2:=
 e_.kG _ (t,false) H h w (fun _ hi=>List.mem_range.1 hi) e
theorem e_.cY {q0:List b9}:∀(n:Nat)(t:ck×List b9)(H:List Int),LI k z t.1 H D->dN k z t.1 H->e_ k t.1 q0 t.2->e_ k (k.cY n t).1 q0 (k.cY n t).2
 |0,_,_,_,_,e=>e
 |n+1,t,H,h,w,e=>by
  obtain⟨g,l1,w1,i,_⟩:=cZ.lb (k.O+1) H h w;obtain⟨c,l2,b,j,_⟩:=cZ.kv g l1 w1;have d:=e.jm (i.trans j)
  obtain⟨l,m,w3,_,_⟩:=cZ.wa ((k.kv _).2,t.2) c l2 b;have f:=e_.wa (t:=((k.kv _).2,t.2)) l2 b d;unfold cf.cY;split
  ·exact e_.cY n ((k.kv _).2,t.2) c l2 b d
  ·split
   ·exact e_.cY n _ l m w3 f
   ·exact f
structure kM (k:cf)(z:C0)(D:List Int)(q0:List b9)(t:ck×List b9):Prop where
 li:∃H,LI k z t.1 H D/\dN k z t.1 H
 cb:ez k t.1
 wq:uh k t.1 t.2
 he:hB k.N t.1.g t.1.nx=false
 ep:∀b∈t.1.ep,k.ls t.1 (k.ld t.1 (b+1))=true
 q:e_ k t.1 q0 t.2
theorem kM.sp {q0:List b9}{t:ck×List b9}(h:LI k z t.1 H D)(w:dN k z t.1 H)(hb:ez k t.1)(e:e_ k t.1 q0 t.2):kM k z D q0 (k.sp t)/\df k t.1 (k.sp t).1:=by obtain⟨K,m1,b,c,_⟩:=cZ.sp t H h w;exact⟨⟨⟨K,m1,b⟩,(pr _ t h.mi.ci hb).2,qY _ t H h w hb aa,qO _ t H h w hb aa,un _ t H h w hb aa,e_.cY _ t H h w e⟩,c⟩
theorem kM.ke {q0:List b9}{t:ck×List b9}(h:kM k z D q0 t)(x:Int):kM k z D q0 (k.ke t x).2/\df k t.1 (k.ke t x).2.1/\(∀b,k.ml t.1 b x->k.ml (k.ke t x).2.1 b (k.ke t x).1)/\k.cL (k.ke t x).1=false/\k.al (k.ke t x).2.1 x=true:=by
 obtain⟨H,l,w⟩:=h.li;obtain⟨n,l1,w1,e,_⟩:=cZ.br x H l w;obtain⟨_,_,_,y1,_,m1,g,_⟩:=l.mi.br x;obtain⟨_,i,j,f⟩:=lV k t.1 x;have hb:ez k (k.br t.1 x).2:=⟨by rw[i,f];exact h.cb.wk,by rw[j,f];exact h.cb.ep⟩
 obtain⟨m,d⟩:=kM.sp (t:=((k.br t.1 x).2,t.2)) l1 w1 hb (h.q.jm e)
 refine⟨m,e.trans d,fun b hm=>d.ml (m1 b hm),y1,py d ?_⟩
 unfold cf.al cf.ls;cases c:k.cL x
 ·rfl
 ·simpa using g c
end
section
variable {a:Wc}{S:co}{W:cn}{m:Nat->Int}{Y G:List Int}
theorem cz.T (h:cz a S W m Y G)(hb:cJ a S.s):(S.s.j0 a).T=G++Y:=(kI h.kv.inv.full hb).2.2
theorem cz.memT (h:cz a S W m Y G)(hb:cJ a S.s){i:Nat}(hi:cI W.T i):m i∈(S.s.j0 a).T:=(h.T hb▸List.mem_append.2 ((h.mem hi).symm))
theorem cz.uo (h:cz a S W m Y G)(hb:cJ a S.s){c:Int}(hc:c∈(S.s.j0 a).T):∃i,cI W.T i/\m i=c:=by rw[h.T hb] at hc;exact h.fZ c ((List.mem_append.1 hc).symm)
theorem cz.jt (h:cz a S W m Y G)(hb:cJ a S.s){v:Int×Int}(b:dO W.T v):(S.s.j0 a).jt (wv m v)=(v.1==3):=by
 unfold b_.jt;rw[h.uj hb b];by_cases c:v.1=3
 ·rw[(h.vt hb b c).2,c,List.contains_iff_mem.2 (h.memT hb (b.t c).2)];rfl
 ·simp_all
theorem cz.j_ (h:cz a S W m Y G)(hb:cJ a S.s){i:Nat}(hi:cI W.T i):(S.s.j0 a).jt (ew 3 (m i))=true/\cj (ew 3 (m i))=m i:=by obtain⟨_,b,w3⟩:=h.word hb hi;unfold b_.jt;rw[b,w3,List.contains_iff_mem.2 (h.memT hb hi)];exact⟨rfl,rfl⟩
theorem cz.al (h:cz a S W m Y G)(hb:cJ a S.s)(s:cu){i:Nat}(hi:cI W.T i):(S.s.j0 a).al s (ew 3 (m i))=true↔s.f (m i)≠-1:=by obtain⟨w1,b⟩:=h.j_ hb hi;unfold b_.al b_.cV;rw[w1,b];simp
theorem cz.n3 (h:cz a S W m Y G)(hb:cJ a S.s)(s:cu){v:Int×Int}(c:dO W.T v)(b:v.1=3):(S.s.j0 a).cV s (wv m v)=false↔s.f (m v.2.toNat)≠-1:=by rw[ib b,<-h.al hb s (c.t b).2];unfold b_.al;simp
theorem cz.marked (h:cz a S W m Y G)(hb:cJ a S.s){s:cu}{q:List b9}(l:fJ (S.s.j0 a) s q)(hq:∀e∈W.wt,we m e∈q):fK W.T W.wt (fun i=>cI W.T i/\s.f (m i)≠-1):=by
 intro i _ F v N d;obtain⟨hi,n⟩:=F;have hk:mQ (S.s.j0 a) s (m i):=by
  rcases l.jD.cmp _ (h.memT hb hi) n with c|c|c
  ·rw[l.td] at c;cases c
  ·exact absurd c id
  ·exact c
 obtain⟨g,ab,_⟩:=h.parts hi;have g:pk ((S.s.j0 a).ld (m i))=(W.T.getD i t0).1:=g;rcases N with⟨c,hm⟩|⟨c,e⟩|⟨c,ad,e⟩|⟨c,j,he,ar,ag⟩
 ·obtain⟨k,ax,_,ai⟩:=h.field hi hm;have b:=h.fv i hi v hm;refine⟨(b.t d).2,(h.n3 hb s b d).1 ?_⟩
  have:=hk.p (by rw[g];exact c) k (by show(k:Int)<pf (ld a.N S.s.y S.s.g S.s.ws (m i));rw[ab];omega)
  have e:(S.s.j0 a).ld (m i+1+k)=wv m v:=ai;rw[e] at this
  exact this
 ·have hl:=h.two hi (aK (aL c))
  have hm:v∈(W.T.getD i t0).2.1:=(e▸getD_in aa)
  have b:=h.fv i hi v hm;refine⟨(b.t d).2,(h.n3 hb s b d).1 ?_⟩
  have:=hk.w (by rw[g];exact c)
  have o:(S.s.j0 a).ld (m i+2)=wv m v:=by exact z4
  rw[o] at this
  exact this
 ·have hl:=h.two hi (aK (aK c))
  have hm:v∈(W.T.getD i t0).2.1:=by simp_all
  have b:=h.fv i hi v hm;refine⟨(b.t d).2,(h.n3 hb s b d).1 ?_⟩
  have o:(S.s.j0 a).ld (m i+2)=wv m v:=by exact z4
  have fg:(S.s.j0 a).ld (m i+1)=wv m ((W.T.getD i t0).2.1.getD 0 (0,0)):=by
   have:=h.fd i hi 0 aa;show ld a.N S.s.y S.s.g S.s.ws (m i+1)=_;rw[<-this]
   congr 1
   omega
  rcases hk.e (by rw[g];exact c) with p|p
  ·have f:=l.ep _ p;rw[fg] at f;have t:=h.fv i hi _ (getD_in (x:=((0,0):Int×Int)) (show 0<(W.T.getD i t0).2.1.length by omega))
   have u:(S.s.j0 a).jt (wv m ((W.T.getD i t0).2.1.getD 0 (0,0)))=true:=by unfold b_.cV at f;rw[bh] at f;exact f.1
   rw[h.jt hb t] at u;have w:((W.T.getD i t0).2.1.getD 0 (0,0)).1=3:=by simpa using u
   have:=(h.n3 hb s t w).2 (ad w).2;rw[this] at f;cases f
  ·simp_all
 ·have B:=h.dD j he;have al:j.1.toNat=i:=aa;have ap:v.2.toNat=j.2.toNat:=by rw[ag]
  rw[ap];refine⟨B.h,(h.al hb s B.h).1 ?_⟩
  rcases l.wq _ (hq j he) with c|c
  ·exact c
  ·exfalso;have:=(h.al hb s hi).2 n;have c:(S.s.j0 a).al s (ew 3 (m j.1.toNat))=false:=c;rw[al,this] at c;cases c
def g_ (W:cn)(m:Nat->Int)(X:Nat->Prop)(c:Int):Prop:=∃i,cI W.T i/\m i=c/\X i
theorem cz.l5 (h:cz a S W m Y G){X:Nat->Prop}{i:Nat}(hi:cI W.T i):g_ W m X (m i)↔X i:=
 ⟨fun⟨j,c,e,b⟩=>(h.inj j i c hi e▸b),fun b=>⟨i,hi,rfl,b⟩⟩
theorem cz.closed (h:cz a S W m Y G)(hb:cJ a S.s){X:Nat->Prop}(w:fK W.T W.wt X)(N:∀v∈W.rs,v.1=3->X v.2.toNat):mZ (S.s.j0 a) (g_ W m X)/\px (S.s.j0 a) (g_ W m X) (W.wt.map (we m)):=by
 have key:∀{i:Nat}{v:Int×Int},cI W.T i->X i->dO W.T v->f8 W.T W.wt X i v->(S.s.j0 a).jt (wv m v)=true->g_ W m X (cj (wv m v)):=fun {i v} hi f g hk d=>by
  rw[h.jt hb g] at d;have l:v.1=3:=by simpa using d
  rw[(h.vt hb g l).2];exact⟨_,(g.t l).2,rfl,w i hi.1 f v hk l⟩
 have fl:∀{i:Nat},cI W.T i->∀k:Nat,(k:Int)<pf ((S.s.j0 a).ld (m i))->k<(W.T.getD i t0).2.1.length:=fun {i} hi k hk=>by have hk:(k:Int)<pf (ld a.N S.s.y S.s.g S.s.ws (m i)):=hk;rw[(h.parts hi).2.1] at hk;omega
 have kd:∀{i:Nat},cI W.T i->pk ((S.s.j0 a).ld (m i))=(W.T.getD i t0).1:=fun {i} hi=>(h.parts hi).1;have s:∀{i:Nat},cI W.T i->(W.T.getD i t0).2.1.length=2->(S.s.j0 a).ld (m i+2)=wv m ((W.T.getD i t0).2.1.getD 1 (0,0))/\(S.s.j0 a).ld (m i+1)=wv m ((W.T.getD i t0).2.1.getD 0 (0,0)):=fun {i} hi hl=>by
  constructor
  ·show ld a.N S.s.y S.s.g S.s.ws (m i+2)=_;rw[<-(h.fd i hi 1 aa)]
   congr 1
   omega
  ·show ld a.N S.s.y S.s.g S.s.ws (m i+1)=_;rw[<-(h.fd i hi 0 aa)]
   congr 1
   omega
 refine⟨⟨fun i hi d=>?_,fun c hc o hk i hi d=>?_,fun c hc o hk d=>?_,fun c hc o hk B d=>?_⟩,fun e he hg d=>?_⟩
 ·obtain⟨er,g⟩:=h.root hi;have er:(S.s.j0 a).s.rs.getD i 0=wv m (W.rs.getD i (0,0)):=er;rw[er] at d⊢;rw[h.jt hb g] at d;have l:(W.rs.getD i (0,0)).1=3:=by simpa using d
  rw[(h.vt hb g l).2];exact⟨_,(g.t l).2,rfl,N _ (getD_in ((h.rl▸hi))) l⟩
 ·obtain⟨j,b,rfl,f⟩:=o;have hl:=fl b i hi;have ab:(S.s.j0 a).ld (m j+1+i)=wv m ((W.T.getD j t0).2.1.getD i (0,0)):=h.fd j b i hl;rw[ab] at d⊢;rw[kd b] at hk;exact key b f (h.fv j b _ (getD_in hl)) (aL ⟨hk,getD_in hl⟩) d
 ·obtain⟨j,b,rfl,f⟩:=o;rw[kd b] at hk;have hl:=h.two b (aK (aL hk))
  rw[(s b hl).1] at d⊢;exact key b f (h.fv j b _ (getD_in aa)) (aK (aL ⟨hk,rfl⟩)) d
 ·obtain⟨j,b,rfl,f⟩:=o;rw[kd b] at hk;have hl:=h.two b (aK (aK hk))
  rw[(s b hl).1] at d⊢;rw[(s b hl).2] at B;have t:=h.fv j b _ (getD_in (x:=((0,0):Int×Int)) (show 0<(W.T.getD j t0).2.1.length by omega))
  refine key b f (h.fv j b _ (getD_in aa)) (aK (aK (aL ⟨hk,fun u=>?_,rfl⟩))) d;have q:=B (by rw[h.jt hb t];simpa using u)
  rw[(h.vt hb t u).2] at q;exact(h.l5 (t.t u).2).1 q
 ·obtain⟨p,F,rfl⟩:=List.mem_map.1 he;have n:=h.dD p F;obtain⟨g1,g2⟩:=h.j_ hb n.g;obtain⟨ag,ad⟩:=h.j_ hb n.h;have q:=hg g1;have q:g_ W m X (cj (ew 3 (m p.1.toNat))):=q;rw[g2] at q;show g_ W m X (cj (ew 3 (m p.2.toNat)))
  rw[ad];exact⟨_,n.h,rfl,w _ n.g.1 ((h.l5 n.g).1 q) (3,p.2) (aK (aK (aK ⟨n.k,p,F,by have:=n.g0;omega,rfl⟩))) rfl⟩
structure Rg (a:Wc)(S:co)(W:cn)(m:Nat->Int)(t:cu×List b9)(L:List Bool)(C:List b9):Prop where
 dA:fJ (S.s.j0 a) t.1 t.2
 sn:dJ (S.s.j0 a) (fun _=>True) t.1
 ok:fV W.T L
 ga:∀i,cI W.T i->(t.1.f (m i)≠-1↔cw L i)
 q:t.2=(W.wt++C).map (we m)
 c:∀e∈C,e∈W.rg/\cw L e.2.toNat
 r:∀v∈W.rs,v.1=3->cw L v.2.toNat
theorem Rg.is (e:cz a S W m Y G)(hb:cJ a S.s){t:cu×List b9}{L:List Bool}{C:List b9}(h:Rg a S W m t L C){x:Int}(b:cI W.T x.toNat):(S.s.j0 a).al t.1 (ew 3 (m x.toNat))=cG L x:=by
 unfold cG;have f:=e.al hb t.1 b;have d:=h.ga _ b;unfold cw at d;cases c:L.getD x.toNat false
 ·simp_all
 ·exact f.2 (d.2 c)
theorem Rg.uq (b:cz a S W m Y G)(hb:cJ a S.s){g:List Bool->List Bool}(hg:ed W.T W.wt g):nG (S.s.j0 a).fC g (we m) W.rg (Rg a S W m):=by
 refine⟨fun t L C e h he B=>?_,fun t L C e h he hy=>?_⟩
 ·have d:=b.gv e he;rw[<-Rg.is b hb h d.g] at B;exact nn (o:=dM cu) (is:=fun s x=>(S.s.j0 a).al s.1 x) (kp:=(S.s.j0 a).ke) (s:=t) (e:=we m e) B
 ·have d:=b.gv e he;rw[<-Rg.is b hb h d.g] at hy;obtain⟨k1,al,F,ap⟩:=h.dA.jD.ke (t:=t) (ew 3 (m e.2.toNat))
  have N:(S.s.j0 a).fC t (we m e)=(true,(((S.s.j0 a).ke t (ew 3 (m e.2.toNat))).2.1,t.2++[we m e])):=by refine(ns (o:=dM cu) (is:=fun s x=>(S.s.j0 a).al s.1 x) (kp:=(S.s.j0 a).ke) (s:=t) (e:=we m e) hy).trans ?_;show(true,(((S.s.j0 a).ke t (ew 3 (m e.2.toNat))).2.1,((S.s.j0 a).ke t (ew 3 (m e.2.toNat))).2.2++[we m e]))=_;rw[F]
  have ab:=(h.dA.cm (we m e)).1;rw[N] at ab;rw[N];obtain⟨o1,a2,a3⟩:=h.ok.put d.h;have ad:=hg _ o1.len o1.al;obtain⟨n1,ar,ax⟩:=h.ok.d8 hg b.iv d.h;have l:=ax;obtain⟨c1,c2⟩:=b.closed hb ad.cl (fun v q u=>l _ (h.r v q u))
  have c3:px (S.s.j0 a) (g_ W m (cw (d8 g L e.2))) t.2:=by
   rw[h.q,bC];intro x n;rcases List.mem_append.1 n with f|f
   ·exact c2 x f
   ·obtain⟨w,aB,rfl⟩:=List.mem_map.1 f;obtain⟨aF,aR⟩:=h.c w aB;have ag:=b.gv w aF;intro _ _;show g_ W m _ (cj (ew 3 (m w.2.toNat)))
    rw[(b.j_ hb ag.h).2];exact⟨_,ag.h,rfl,l _ aR⟩
  have s0:dJ (S.s.j0 a) (g_ W m (cw (d8 g L e.2))) t.1:=⟨fun c hc k=>by obtain⟨i,hi,rfl⟩:=b.uo hb hc;exact⟨i,hi,rfl,l i ((h.ga i hi).1 k)⟩,h.sn.ea⟩
  have s1:=dJ.ke c1 c3 s0 h.dA.jD (ew 3 (m e.2.toNat)) (fun _=>by rw[(b.j_ hb d.h).2];exact⟨_,d.h,rfl,ar⟩)
  refine⟨rfl,ab,⟨fun _ _ _=>trivial,s1.ea⟩,n1,fun i hi=>⟨fun k=>?_,fun aT=>?_⟩,?_,fun x n=>?_,fun v q u=>l _ (h.r v q u)⟩
  ·exact(b.l5 hi).1 (s1.snd _ (b.memT hb hi) k)
  ·have a0:=b.marked hb k1 (fun x n=>by rw[F,h.q];exact List.mem_map_of_mem (a7 _ n))
   refine(ad.lt _ a0 (fun j p=>?_) i aT).2;have ai:=o1.al j p;refine⟨ai,?_⟩
   unfold cw at p;rw[kl _ _ _ ((h.ok.len▸d.h.1))] at p;split at p
   ·rename_i a1;rw[<-a1];exact(b.al hb _ d.h).1 ap
   ·have k:=(h.ga j ai).2 p;rw[al.f _ k];exact k
  ·show t.2++[we m e]=_;rw[h.q,<-bj,bC (l₁:=W.wt++C)];rfl
  ·rcases List.mem_append.1 n with f|f
   ·exact⟨(h.c x f).1,l _ (h.c x f).2⟩
   ·simp_all
theorem Rg.start (b:cz a S W m Y G)(hb:cJ a S.s){g:List Bool->List Bool}(hg:ed W.T W.wt g):Rg a S W m (S.j2 a) (W.c0 g true) []:=by
 have s:=cX.start hb.n1 hb.o1 hb.y1 hb.g1;obtain⟨m1,_,ab⟩:=(c9.start s).cK 12;obtain⟨c,ad,d⟩:=c9.sp (t:=((S.s.j0 a).cK gJ 12,S.q)) m1;have d:(S.j2 a).2=S.q:=d;have f:=b.first true;have u:=hg _ f.len f.al;obtain⟨n1,ag⟩:=hg.ok b.iv f;have w:_:=fun v l o=>ag _ ((lJ _ _ _ _).2 ⟨((b.rv v l).t o).2.1,aK ⟨v,l,o,rfl⟩⟩)
 obtain⟨c1,c2⟩:=b.closed hb u.cl w;rw[<-b.wt] at c2;have cK:∀n,n<=12->dJ (S.s.j0 a) (g_ W m (cw (W.c0 g true))) ((S.s.j0 a).cK gJ n):=fun n=>by
  induction n with
  |zero=>
   intro _;show dJ _ _ gJ;exact⟨fun _ _ p=>absurd rfl p,fun _ ha=>by simp[gJ] at ha⟩
  |succ n ai=>
   intro ax;obtain⟨m1,_⟩:=(c9.start (X:=fun _=>False) s).cK n;exact(ai aa).ma _ (c1.rt n aa) (m1.ma _).2.1
 have s1:dJ (S.s.j0 a) (g_ W m (cw (W.c0 g true))) (S.j2 a).1:=dJ.cY c1 _ ((S.s.j0 a).cK gJ 12,S.q) c2 (cK 12 bY) m1;have c:fJ (S.s.j0 a) (S.j2 a).1 (S.j2 a).2:=c;refine⟨c,⟨fun _ _ _=>trivial,s1.ea⟩,n1,fun i hi=>⟨fun p=>(b.l5 hi).1 (s1.snd _ (b.memT hb hi) p),fun al=>?_⟩,?_,fun e he=>(by cases he),w⟩
 ·refine(u.lt _ (b.marked hb c (fun x ap=>by rw[d,b.wt];exact List.mem_map_of_mem ap)) (fun j B=>?_) i al).2;refine⟨f.al j B,?_⟩
  obtain⟨_,q⟩:=(lJ _ _ _ _).1 B;rcases q with⟨_,_,q⟩|⟨v,l,o,e⟩
  ·cases q
  ·obtain⟨k,hk,fg⟩:=List.mem_iff_getElem.1 l;have F:k<12:=(b.rl▸hk)
   obtain⟨er,N⟩:=b.root F;have ar:W.rs.getD k (0,0)=v:=by simp_all
   rw[ar] at er N;have j0:=ab k F;have er:(S.s.j0 a).s.rs.getD k 0=wv m v:=er;rw[er] at j0;rw[<-e];exact(b.n3 hb _ N o).1 (ad.cV j0)
 ·rw[d,b.wt,List.append_nil]
theorem Rg.settled (b:cz a S W m Y G)(hb:cJ a S.s){g:List Bool->List Bool}(hg:ed W.T W.wt g):Rg a S W m (S.cA a,((S.s.j0 a).eT (S.j2 a) S.r).2) (W.cR g true).1 (W.cR g true).2.1:=by
 have h0:=Rg.start b hb hg;have c:S.r.filter (fun e=>!(S.s.j0 a).al (S.j2 a).1 e.2)=(W.rg.filter (fun e=>!cG (W.c0 g true) e.2)).map (we m):=by rw[b.rg];exact kX _ _ _ W.rg (fun e he=>by show(!(S.s.j0 a).al _ (ew 3 (m e.2.toNat)))=_;rw[Rg.is b hb h0 (b.gv e he).h])
 obtain⟨d,_⟩:=(Rg.uq b hb hg).turns _ (W.rg.filter (fun e=>!cG _ e.2)) (S.j2 a) _ [] (fun e he=>(List.mem_filter.1 he).1) h0;have f:eJ (S.s.j0 a).fC ((S.r.filter (fun e=>!(S.s.j0 a).al (S.j2 a).1 e.2)).length+1) (S.j2 a) (S.r.filter (fun e=>!(S.s.j0 a).al (S.j2 a).1 e.2))=eJ (S.s.j0 a).fC (W.rg.length+1) (S.j2 a) ((W.rg.filter (fun e=>!cG (W.c0 g true) e.2)).map (we m)):=by rw[c];have hl:=bk (fun e=>!cG (W.c0 g true) e.2) W.rg;exact sO _ _ _ _ _ aa (by rw[aU];omega)
 have i:(S.s.j0 a).eT (S.j2 a) S.r=(eJ (S.s.j0 a).fC (W.rg.length+1) (S.j2 a) ((W.rg.filter (fun e=>!cG (W.c0 g true) e.2)).map (we m))).1:=by rw[<-f];rfl
 have j:(S.cA a,((S.s.j0 a).eT (S.j2 a) S.r).2)=(S.s.j0 a).eT (S.j2 a) S.r:=rfl;rw[j,i];exact d
end
section
variable {a:Wc}{S:co}{W:cn}{m:Nat->Int}{Y G D:List Int}
theorem cz.fS (h:cz a S W m Y G)(hb:cJ a S.s):(S.s.k0 a).T=Y:=nY h.kv.inv.full hb.n1 hb.y1 hb.o1 hb.g1
theorem cz.jK (h:cz a S W m Y G)(hb:cJ a S.s){v:Int}(b:v∈Y):v∉G:=fun c=>by have q1:=h.kv.inv.full.im v b;have d:=h.kv.inv.full.io v c;have:=hb.y1;omega
theorem cz.n5 (h:cz a S W m Y G)(hb:cJ a S.s){i:Nat}(hi:cI W.T i):(S.s.k0 a).cL (ew 3 (m i))=true↔m i∈Y:=by obtain⟨_,b,w3⟩:=h.word hb hi;unfold cf.cL;rw[b,w3,h.fS hb];simp
theorem cz.q7 (h:cz a S W m Y G)(hb:cJ a S.s){v:Int×Int}(b:dO W.T v)(hy:(S.s.k0 a).cL (wv m v)=true):v.1=3/\cj (wv m v)=m v.2.toNat:=by
 have c:c7 (wv m v)=true:=by unfold cf.cL at hy;rw[bh] at hy;exact hy.1
 rw[h.uj hb b] at c;have d:v.1=3:=by simpa using c
 exact⟨d,(h.vt hb b d).2⟩
theorem cz.jL (h:cz a S W m Y G)(hb:cJ a S.s)(s:ck){i:Nat}(hi:cI W.T i):(S.s.k0 a).al s (ew 3 (m i))=true↔(m i∈G\/s.f (m i)≠-1):=by
 have hy:=h.n5 hb hi;obtain⟨_,_,w3⟩:=h.word hb hi;unfold cf.al cf.ls;rw[w3];rcases h.mem hi with b|b
 ·rw[hy.2 b];have:=h.jK hb b;simp[this]
 ·have:(S.s.k0 a).cL (ew 3 (m i))=false:=by rw[Bool.eq_false_iff];intro c;exact h.jK hb (hy.1 c) b
  rw[this];simp[b]
theorem cz.Hw (h:cz a S W m Y G)(hb:cJ a S.s){s:ck}{i:Nat}(hi:cI W.T i)(hs:(S.s.k0 a).al s (ew 3 (m i))=true):∃b,(S.s.k0 a).or (S.s.z0 G) s (m i) b:=by
 rcases(h.jL hb s hi).1 hs with c|c
 ·exact⟨m i,aL ⟨rfl,c⟩⟩
 ·rcases h.mem hi with e|e
  ·exact⟨s.f (m i),aK ⟨(h.fS hb▸e),rfl,c⟩⟩
  ·exact⟨m i,aL ⟨rfl,e⟩⟩
def pA (a:Wc)(S:co)(G D:List Int):Prop:=∀v∈G,v∉D->∀i,0<=i->i<pf ((S.s.k0 a).l0 (S.s.z0 G) v)->(S.s.k0 a).cL ((S.s.k0 a).l0 (S.s.z0 G) (v+1+i))=false
theorem cz.ur (h:cz a S W m Y G)(hb:cJ a S.s)(hc:pA a S G D){q0:List b9}{t:ck×List b9}(f:kM (S.s.k0 a) (S.s.z0 G) D q0 t)(hq:∀e∈W.wt,∃n,n<q0.length/\q0.getD n (0,0)=we m e):
 fK W.T W.wt (fun i=>cI W.T i/\(S.s.k0 a).al t.1 (ew 3 (m i))=true):=by
 obtain⟨H,li,bp⟩:=f.li;have hz:∀v,(v∈(S.s.k0 a).T\/v∈(S.s.z0 G).G)->∀i,0<=i->i<pf ((S.s.k0 a).l0 (S.s.z0 G) v)->c7 ((S.s.k0 a).l0 (S.s.z0 G) (v+1+i))=true->cj ((S.s.k0 a).l0 (S.s.z0 G) (v+1+i))∈(S.s.k0 a).T\/cj ((S.s.k0 a).l0 (S.s.z0 G) (v+1+i))∈(S.s.z0 G).G:=fun v s i aR l ha=>by rw[h.fS hb] at s⊢;exact h.kv.inv.fd v s i aR l ha
 have told:∀{B x:Int}{j:Nat},cI W.T j->B=ew 3 (m j)->(S.s.k0 a).ml t.1 B x->(S.s.k0 a).al t.1 x=true->(S.s.k0 a).al t.1 (ew 3 (m j))=true:=fun {B x j} ab ad hm br=>by
  rcases hm with e|⟨_,u,_⟩
  ·simp_all
  ·rw[ad,(h.word hb ab).2.2] at u;exact(h.jL hb t.1 ab).2 (aK u)
 intro i _ aT v s w;obtain⟨hi,hs⟩:=aT;obtain⟨b,o⟩:=h.Hw hb hi hs;have ad:(S.s.k0 a).ld t.1 b=ld a.N S.s.y S.s.g S.s.ws (m i):=li.mi.hd _ _ o;obtain⟨bs,bt,_⟩:=h.parts hi;have F:∀{n:Nat},n<(W.T.getD i t0).2.1.length->((W.T.getD i t0).2.1.getD n (0,0)).1=3->¬((W.T.getD i t0).1=3/\n=0)->¬((W.T.getD i t0).1=4/\b∈t.1.ep)->(S.s.k0 a).al t.1 (ew 3 (m ((W.T.getD i t0).2.1.getD n (0,0)).2.toNat))=true:=fun {n} d ag n1 bx=>by
  have N:=h.fv i hi _ (getD_in (x:=((0,0):Int×Int)) d)
  have ai:=(N.t ag).2;have al:(S.s.k0 a).l0 (S.s.z0 G) (m i+1+n)=ew 3 (m ((W.T.getD i t0).2.1.getD n (0,0)).2.toNat):=(h.fd i hi n d).trans (ib ag)
  have l:(n:Int)<pf ((S.s.k0 a).l0 (S.s.z0 G) (m i)):=by
   show(n:Int)<pf (ld a.N S.s.y S.s.g S.s.ws (m i))
   omega
  have ap:=li.mi.fd (m i) b o n (Int.natCast_nonneg n) l;refine told ai al ap ?_;rcases ap with e|⟨y1,u,a0⟩
  ·rw[al] at e;have ha:c7 ((S.s.k0 a).ld t.1 (b+1+n))=true:=(e▸(h.word hb ai).2.1)
   have a1:(n:Int)<pf ((S.s.k0 a).ld t.1 b):=by simp_all
   rcases li.fields f.he hz hc (li.mi.mem o) (Int.natCast_nonneg n) a1 ha with c|⟨c1,c2,_⟩|⟨c1,c2⟩
   ·exact qX (li.mi.nW c)
   ·simp_all
   ·simp_all
  ·have a2:=li.mi.iX (li.mi.fh _ (m2 y1) u)
   have b0:=li.mi.ci.hN';have b1:=li.mi.ci.hO;have b2:=li.mi.ci.hg;rw[a0];exact qX (mW li.mi.ci a2.1 aa)
 rcases s with⟨c,hm⟩|⟨c,e⟩|⟨c,a3,e⟩|⟨c,p,he,b3,bb⟩
 ·obtain⟨n,d,en,_⟩:=h.field hi hm;have N:=h.fv i hi v hm;refine⟨(N.t w).2,?_⟩
  have:=F d ((en▸w)) (fun q=>by omega) (fun q=>by omega)
  rw[en] at this
  exact this
 ·have hl:=h.two hi (aK (aL c))
  have hm:v∈(W.T.getD i t0).2.1:=by simp_all
  refine⟨((h.fv i hi v hm).t w).2,?_⟩
  have:=F (n:=1) aa (by simp_all) (fun q=>by omega) (fun q=>by omega)
  rw[<-e] at this
  exact this
 ·have hl:=h.two hi (aK (aK c))
  have hm:v∈(W.T.getD i t0).2.1:=by simp_all
  refine⟨((h.fv i hi v hm).t w).2,?_⟩
  have ar:=h.fv i hi _ (getD_in (x:=((0,0):Int×Int)) (show 0<(W.T.getD i t0).2.1.length by omega))
  have bd:b∉t.1.ep:=fun be=>by
   have bg:b+1+0=b+1:=aa;have l:(0:Int)<pf ((S.s.k0 a).l0 (S.s.z0 G) (m i)):=by
    show(0:Int)<pf (ld a.N S.s.y S.s.g S.s.ws (m i))
    omega
   have g:=f.ep b be;rw[<-bg] at g;have fg:(S.s.k0 a).l0 (S.s.z0 G) (m i+1+0)=wv m ((W.T.getD i t0).2.1.getD 0 (0,0)):=h.fd i hi 0 aa;rw[(li.mi.q6 o (Int.le_refl 0) l (l4 g)),fg] at g;obtain⟨ax,bi⟩:=h.q7 hb ar (l4 g)
   have q1:=(cf.mL g).2.2;have k:=(cf.mL g).2.1;rw[bi] at q1 k;rw[h.fS hb] at k;rcases(h.jL hb t.1 (ar.t ax).2).1 (a3 ax).2 with w1|w1
   ·exact h.jK hb k w1
   ·exact w1 q1
  have:=F (n:=1) aa (by simp_all) (fun q=>by omega) (fun q=>bd q.2)
  rw[<-e] at this
  exact this
 ·have aF:=h.dD p he;have bl:p.1.toNat=i:=aa;have bn:v.2.toNat=p.2.toNat:=by rw[bb]
  rw[bn];refine⟨aF.h,?_⟩
  obtain⟨n,d,en⟩:=hq p he;obtain⟨q1,k⟩:=f.q.eq n d;rw[en] at q1 k;have bo:t.2.getD n (0,0)∈t.2:=getD_in ((f.q.len▸d))
  refine told aF.h rfl k ?_;rcases f.wq _ bo with w1|w1
  ·exact w1
  ·exfalso;have q1:(t.2.getD n (0,0)).1=ew 3 (m p.1.toNat):=q1;rw[q1,bl,hs] at w1;cases w1
theorem cz.Ad (h:cz a S W m Y G)(hb:cJ a S.s){X:Nat->Prop}(ab:fK W.T W.wt X)(t:∀i,cI W.T i->(W.T.getD i t0).2.2.1=true->X i):kK (S.s.k0 a) (S.s.z0 G) (g_ W m X):=by
 have key:∀{i:Nat}{v:Int×Int},cI W.T i->X i->dO W.T v->f8 W.T W.wt X i v->(S.s.k0 a).cL (wv m v)=true->g_ W m X (cj (wv m v)):=fun {i v} hi g u hk f=>by obtain⟨w,e⟩:=h.q7 hb u f;rw[e];exact⟨_,(u.t w).2,rfl,ab i hi.1 g v hk w⟩
 have kd:∀{i:Nat},cI W.T i->pk ((S.s.k0 a).l0 (S.s.z0 G) (m i))=(W.T.getD i t0).1/\pf ((S.s.k0 a).l0 (S.s.z0 G) (m i))=(W.T.getD i t0).2.1.length:=fun {i} hi=>⟨(h.parts hi).1,(h.parts hi).2.1⟩
 have o:∀{i:Nat},cI W.T i->∀{n:Nat},n<(W.T.getD i t0).2.1.length->(S.s.k0 a).l0 (S.s.z0 G) (m i+1+n)=wv m ((W.T.getD i t0).2.1.getD n (0,0)):=fun {i} hi {n} ad=>h.fd i hi n ad;refine⟨fun b B=>?_,fun c _ k hk i hi f=>?_,fun c _ k hk f=>?_,fun c _ k hk F f=>?_⟩
 ·obtain⟨i,hi,e⟩:=h.fZ b (aK B)
  refine⟨i,hi,e,t i hi ?_⟩
  cases c:(W.T.getD i t0).2.2.1
  ·exact absurd (e▸B) (h.jK hb (h.ia i hi c))
  ·rfl
 ·obtain⟨j,d,rfl,g⟩:=k;rw[(kd d).2] at hi;have hl:i<(W.T.getD j t0).2.1.length:=aa;rw[o d hl] at f⊢;rw[(kd d).1] at hk;exact key d g (h.fv j d _ (getD_in hl)) (aL ⟨hk,getD_in hl⟩) f
 ·obtain⟨j,d,rfl,g⟩:=k;rw[(kd d).1] at hk;have hl:=h.two d (aK (aL hk))
  have p:(S.s.k0 a).l0 (S.s.z0 G) (m j+1+1)=wv m ((W.T.getD j t0).2.1.getD 1 (0,0)):=o d (n:=1) aa;rw[p] at f⊢;exact key d g (h.fv j d _ (getD_in aa)) (aK (aL ⟨hk,rfl⟩)) f
 ·obtain⟨j,d,rfl,g⟩:=k;rw[(kd d).1] at hk;have hl:=h.two d (aK (aK hk))
  have p:(S.s.k0 a).l0 (S.s.z0 G) (m j+1+1)=wv m ((W.T.getD j t0).2.1.getD 1 (0,0)):=o d (n:=1) aa;have ag:(S.s.k0 a).l0 (S.s.z0 G) (m j+1+0)=wv m ((W.T.getD j t0).2.1.getD 0 (0,0)):=o d (n:=0) aa;rw[p] at f⊢;rw[ag] at F;have N:=h.fv j d _ (getD_in (x:=((0,0):Int×Int)) (show 0<(W.T.getD j t0).2.1.length by omega))
  refine key d g (h.fv j d _ (getD_in aa)) (aK (aK (aL ⟨hk,fun s=>?_,rfl⟩))) f;have l:=(N.t s).2;rcases h.mem l with w1|w1
  ·have q:=F ((ib s▸(h.n5 hb l).2 w1))
   rw[(h.vt hb N s).2] at q;exact(h.l5 l).1 q
  ·refine t _ l ?_;cases c:(W.T.getD _ t0).2.2.1
   ·exact absurd w1 (h.jK hb (h.ia _ l c))
   ·rfl
theorem cz.Ae (h:cz a S W m Y G)(hb:cJ a S.s){X:Nat->Prop}(p:fK W.T W.wt X)(t:∀i,cI W.T i->(W.T.getD i t0).2.2.1=true->X i){C:List b9}(g:∀e∈C,e∈W.rg/\X e.2.toNat){s:ck}{H:List Int}(mi:dH (S.s.k0 a) (S.s.z0 G) s H){q:List b9}(hq:e_ (S.s.k0 a) s ((W.wt++C).map (we m)) q):kL (S.s.k0 a) (g_ W m X) q:=by
 intro e he hg hy;obtain⟨n,u,en⟩:=List.mem_iff_getElem.1 he;have v:q.getD n (0,0)=e:=by simp_all
 have w:n<((W.wt++C).map (we m)).length:=(hq.len▸u)
 obtain⟨q1,j⟩:=hq.eq n w;have k:n<(W.wt++C).length:=by simp_all
 rw[v,jJ (we m) (W.wt++C) n (0,0) (0,0) k] at q1 j;have l:(W.wt++C).getD n (0,0)∈W.wt++C:=getD_in k;generalize (W.wt++C).getD n (0,0)=d at*;have b:iu W.T d:=by
  rcases List.mem_append.1 l with f|f
  ·exact h.dD d f
  ·exact h.gv d (g d f).1
 have x:e.2=ew 3 (m d.2.toNat):=by
  rcases j with f|⟨y1,B,F⟩
  ·exact f
  ·have N:=mi.iX (mi.fh _ (m2 y1) B)
   have ad:=mi.ci.hN';have ag:=mi.ci.hO;have ai:=mi.ci.hg;rw[F,mW mi.ci N.1 aa] at hy;cases hy
 have o:e.1=ew 3 (m d.1.toNat):=q1;rw[x,(h.word hb b.h).2.2];refine⟨_,b.h,rfl,?_⟩
 rcases List.mem_append.1 l with f|f
 ·have ab:X d.1.toNat:=by
   rcases h.mem b.g with w1|w1
   ·have:=hg ((o▸(h.n5 hb b.g).2 w1))
    rw[o,(h.word hb b.g).2.2] at this
    exact(h.l5 b.g).1 this
   ·refine t _ b.g ?_;cases c:(W.T.getD _ t0).2.2.1
    ·exact absurd w1 (h.jK hb (h.ia _ b.g c))
    ·rfl
  exact p _ b.g.1 ab (3,d.2) (aK (aK (aK ⟨b.k,d,f,by have:=b.g0;omega,rfl⟩))) rfl
 ·exact(g d f).2
structure i_ (a:Wc)(S:co)(W:cn)(m:Nat->Int)(G D:List Int)(t:ck×List b9)(L:List Bool)(C:List b9):Prop where
 dA:kM (S.s.k0 a) (S.s.z0 G) D ((W.wt++C).map (we m)) t
 ok:fV W.T L
 ga:∀i,cI W.T i->((S.s.k0 a).al t.1 (ew 3 (m i))=true↔cw L i)
 c:∀e∈C,e∈W.rg/\cw L e.2.toNat
 r:∀v∈W.rs,v.1=3->cw L v.2.toNat
 o:∀i,cI W.T i->(W.T.getD i t0).2.2.1=true->cw L i
theorem i_.is {t:ck×List b9}{L:List Bool}{C:List b9}(h:i_ a S W m G D t L C){x:Int}(d:cI W.T x.toNat):(S.s.k0 a).al t.1 (ew 3 (m x.toNat))=cG L x:=by
 unfold cG;have b:=h.ga _ d;cases c:L.getD x.toNat false
 ·rw[Bool.eq_false_iff];intro e;rw[b.1 e] at c;cases c
 ·exact b.2 c
theorem ut {C:List b9}:∀e∈W.wt,∃n,n<((W.wt++C).map (we m)).length/\((W.wt++C).map (we m)).getD n (0,0)=we m e:=fun e he=>by
 obtain⟨n,b,en⟩:=List.mem_iff_getElem.1 he;refine⟨n,by rw[aU,aZ];omega,?_⟩
 rw[jJ (we m) (W.wt++C) n (0,0) (0,0) (by rw[aZ];omega),aG,List.getElem?_append_left b,aI b,en];rfl
theorem i_.uq (b:cz a S W m Y G)(hb:cJ a S.s)(hc:pA a S G D){g:List Bool->List Bool}(hg:ed W.T W.wt g):nG (cm (dM ck) (fun s x=>(S.s.k0 a).al s.1 x) (S.s.k0 a).ke) g (we m) W.rg (i_ a S W m G D):=by
 refine⟨fun t L C e h he u=>?_,fun t L C e h he hy=>?_⟩
 ·have f:=b.gv e he;rw[<-h.is f.g] at u;exact nn u
 ·have f:=b.gv e he;rw[<-h.is f.g] at hy;obtain⟨k1,ad,ag,ai,k5⟩:=h.dA.ke _;rw[(ns (s:=t) hy)];obtain⟨o1,aT,aV⟩:=h.ok.put f.h;have w:=hg _ o1.len o1.al;obtain⟨n1,B,al⟩:=h.ok.d8 hg b.iv f.h;have F:=w.cl;have l:=al;have n:∀i,cI W.T i->(W.T.getD i t0).2.2.1=true->_:=fun i hi q=>l i (h.o i hi q)
  obtain⟨H,li,ap⟩:=h.dA.li;have s0:dd (S.s.k0 a) (g_ W m (cw (d8 g L e.2))) t.1:=fun c N p=>by
   rw[b.fS hb] at N;obtain⟨i,hi,rfl⟩:=b.fZ c (aL N)
   exact⟨i,hi,rfl,l i ((h.ga i hi).1 ((b.jL hb t.1 hi).2 (aK p)))⟩
  obtain⟨s1,_⟩:=dd.ke (b.Ad hb F n) li ap (b.Ae hb F n (fun x k=>⟨(h.c x k).1,l _ (h.c x k).2⟩) li.mi h.dA.q) s0 _ (fun _=>by rw[(b.word hb f.h).2.2];exact⟨_,f.h,rfl,B⟩)
  have ar:(W.wt++(C++[e])).map (we m)=(W.wt++C).map (we m)++[we m e]:=by rw[<-bj,bC];rfl
  refine⟨rfl,⟨k1.li,k1.cb,fun x k=>?_,k1.he,k1.ep,?_⟩,n1,fun i hi=>⟨fun p=>?_,fun ax=>?_⟩,fun x k=>?_,fun v aB aF=>l _ (h.r v aB aF),n⟩
  ·rcases List.mem_append.1 k with d|d
   ·exact k1.wq x d
   ·rw[List.mem_singleton.1 d];exact aL (qX ai)
  ·rw[ar];exact k1.q.snoc rfl (ag _ (aL rfl))
  ·rcases(b.jL hb _ hi).1 p with d|d
   ·refine n i hi ?_;cases c:(W.T.getD i t0).2.2.1
    ·exact absurd d (b.jK hb (b.ia _ hi c))
    ·rfl
   ·rcases b.mem hi with w1|w1
    ·exact(b.l5 hi).1 (s1 _ (by rw[b.fS hb];exact w1) d)
    ·refine n i hi ?_;cases c:(W.T.getD i t0).2.2.1
     ·exact absurd w1 (b.jK hb (b.ia _ hi c))
     ·rfl
  ·refine(w.lt _ (b.ur hb hc k1 ut) (fun j o=>?_) i ax).2;have ab:=o1.al j o;refine⟨ab,?_⟩
   unfold cw at o;rw[kl _ _ _ (by rw[h.ok.len];exact f.h.1)] at o;split at o
   ·rename_i aR;rw[<-aR];exact k5
   ·exact py ad ((h.ga j ab).2 o)
  ·rcases List.mem_append.1 k with d|d
   ·exact⟨(h.c x d).1,l _ (h.c x d).2⟩
   ·rw[List.mem_singleton.1 d];exact⟨he,B⟩
end
section
variable {a:Wc}{S:co}{W:cn}{m:Nat->Int}{Y G D:List Int}
theorem cz.Hx (h:cz a S W m Y G)(hb:cJ a S.s){i:Nat}(hi:cI W.T i)(b:m i∈G):(W.T.getD i t0).2.2.1=true:=by
 cases c:(W.T.getD i t0).2.2.1
 ·exact absurd b (h.jK hb (h.ia _ hi c))
 ·rfl
theorem i_.start (b:cz a S W m Y G)(hb:cJ a S.s)(bo:S.s.y<=a.O-S.s.g){g:List Bool->List Bool}(hg:ed W.T W.wt g):∃D,pA a S G D/\i_ a S W m G D (S.t3 a) (W.c0 g false) []:=by
 have h:=b.kv;have bp:=b.fS hb;have N:=LI.start h.inv.full hb.n0 hb.n1 hb.o1 hb.y1 hb.g1 hb.l1 bo;have aF:12<=(S.s.s0 a).rs.length:=by show 12<=S.s.rs.length;rw[hb.r1];exact aD _
 obtain⟨H1,o,br,⟨b9,bs⟩,l1,y1,_,m1⟩:=N.cK 12 aF;have aR:dB a.N S.s.y (S.s.s1 a).g (S.s.s1 a).ws=G++H1:=(o.mi.full.lists hb.n1 hb.y1 hb.o1 o.mi.ci.hg).2;have bt:(S.s.s1 a).nx=((S.s.k0 a).N:Int)+(S.s.z0 G).g:=(lg (S.s.k0 a) (S.s.s0 a) 12).2.2;have aT:d9 ((S.s.k0 a).l0 (S.s.z0 G)) (((S.s.k0 a).N:Int)+(S.s.z0 G).g) (S.s.k0 a).N (S.s.z0 G).G:=h.inv.full.ej;have hlo:∀x∈G++H1,x∈(S.s.z0 G).G\/((S.s.k0 a).N:Int)+(S.s.z0 G).g<=x:=fun x bx=>(List.mem_append.1 bx).imp id (fun f=>o.mi.hlo x f)
 obtain⟨ab,u,ad,aV,a0,⟨ca,cc⟩,_,hD⟩:=LI.po (dY a.O) S.s.M aT (G++H1) o ((dN.start a S.s G).cK N.mi 12 o.mi br ⟨_,bs⟩) hlo;have b0:(G++H1).foldl ((S.s.k0 a).f_ (((S.s.k0 a).N:Int)+(S.s.z0 G).g) (dY a.O) S.s.M) ((S.s.k0 a).cK (S.s.s0 a) 12)=S.s.s2 a:=by unfold eh.s2 cf.lm;rw[aR,bt];rfl
 have hlen:=qR (S.s.k0 a) (((S.s.k0 a).N:Int)+(S.s.z0 G).g) (dY a.O) S.s.M (G++H1) ((S.s.k0 a).cK (S.s.s0 a) 12)
 have B:=b.first false;have a1:=hg _ B.len B.al;obtain⟨n1,a2⟩:=hg.ok b.iv B;have a3:=a1.cl;have F:∀i,cI W.T i->(W.T.getD i t0).2.2.1=true->_:=fun i hi q=>a2 i ((lJ _ _ _ _).2 ⟨hi.1,aL ⟨q,hi.2,rfl⟩⟩)
 have bb:_:=fun v d n=>a2 _ ((lJ _ _ _ _).2 ⟨((b.rv v d).t n).2.1,aK ⟨v,d,n,rfl⟩⟩)
 have bd:=b.Ad hb a3 F;have b1:dd (S.s.k0 a) (g_ W m (cw (W.c0 g false))) (S.s.s0 a):=fun _ _ ag=>absurd rfl ag;have b2:=dd.cK N b1 (fun i hi hy=>by
  have hi:i<12:=(hb.r1▸hi)
  obtain⟨er,d⟩:=b.root hi;have er:(S.s.s0 a).rs.getD i 0=wv m (W.rs.getD i (0,0)):=er;rw[er] at hy⊢;obtain⟨n,ev⟩:=b.q7 hb d hy;rw[ev];exact⟨_,(d.t n).2,rfl,bb _ (getD_in ((b.rl▸hi))) n⟩) 12 aF
 have be:=dd.lm bd (dY a.O) S.s.M aT (G++H1) o hlo b2;rw[b0] at ad aV a0 hlen be;have cd:(G++H1).length<=2000:=(aR▸iD _ _)
 obtain⟨q1,q2,q3⟩:=lg _ _ 12;have cb:ez (S.s.k0 a) (S.s.s2 a):=by exact ua
 have bg:pA a S G u:=fun v d b3 i b4 b5=>by
  cases hc:(S.s.k0 a).cL _
  ·rfl
  ·exfalso;unfold cf.cL at hc;rw[bh,bp] at hc;have hm:=h.cd v d i b4 b5 hc.1 (List.contains_iff_mem.1 hc.2)
   exact b3 (hD v (a7 _ d) d hm)
 have b6:S.q=(W.wt++[]).map (we m):=by rw[List.append_nil];exact b.wt
 have bi:e_ (S.s.k0 a) (S.s.s2 a) ((W.wt++[]).map (we m)) S.q:=(b6▸e_.refl _ _)
 have ai:=b.Ae hb a3 F (fun e he=>(by cases he)) ad.mi bi;have key:∀s2:ck,LI (S.s.k0 a) (S.s.z0 G) s2 ab u->dN (S.s.k0 a) (S.s.z0 G) s2 ab->ez (S.s.k0 a) s2->e_ (S.s.k0 a) s2 ((W.wt++[]).map (we m)) S.q->dd (S.s.k0 a) (g_ W m (cw (W.c0 g false))) s2->kL (S.s.k0 a) (g_ W m (cw (W.c0 g false))) S.q->
  kM (S.s.k0 a) (S.s.z0 G) u ((W.wt++[]).map (we m)) ((S.s.k0 a).sp (s2,S.q))/\df (S.s.k0 a) s2 ((S.s.k0 a).sp (s2,S.q)).1/\dd (S.s.k0 a) (g_ W m (cw (W.c0 g false))) ((S.s.k0 a).sp (s2,S.q)).1:=fun s2 l w c e sn ai=>by
  obtain⟨p,al⟩:=kM.sp (t:=(s2,S.q)) l w c e;exact⟨p,al,(dd.cY bd _ (s2,S.q) ab l w ai sn).1⟩
 obtain⟨p,al,ap⟩:=key _ ad aV cb bi be ai;have p:=p;have ap:dd (S.s.k0 a) (g_ W m (cw (W.c0 g false))) (S.t3 a).1:=ap;refine⟨u,bg,p,n1,fun i hi=>⟨fun ag=>?_,fun b7=>?_⟩,fun e he=>(by cases he),bb,F⟩
 ·rcases b.mem hi with w1|w1
  ·rcases(b.jL hb _ hi).1 ag with f|f
   ·exact absurd f (b.jK hb w1)
   ·exact(b.l5 hi).1 (ap _ (by simp_all) f)
  ·exact F i hi (b.Hx hb hi w1)
 ·refine(a1.lt _ (b.ur hb bg p ut) (fun j bl=>?_) i b7).2;have ar:=B.al j bl;refine⟨ar,?_⟩
  obtain⟨_,ax⟩:=(lJ _ _ _ _).1 bl;rcases ax with⟨ax,_,_⟩|⟨v,d,n,e⟩
  ·exact(b.jL hb _ ar).2 (aL (b.old j ar ax))
  ·obtain⟨k,hk,fg⟩:=List.mem_iff_getElem.1 d;have aB:k<12:=(b.rl▸hk)
   obtain⟨er,b8⟩:=b.root aB;have ev:W.rs.getD k (0,0)=v:=by simp_all
   rw[ev] at er b8;have s:cI W.T v.2.toNat:=by simp_all
   refine py (a0.trans al) ?_;rw[<-e];rcases b.mem s with w1|w1
   ·have hm:=m1 k aB;have er:(S.s.s0 a).rs.getD k 0=wv m v:=er;rw[er,ib n] at hm;rcases hm with f|⟨_,bn,_⟩
    ·have:=y1 k aB;rw[f,((b.n5 hb s).2 w1)] at this
     cases this
    ·rw[(b.word hb s).2.2] at bn;exact(b.jL hb _ s).2 (aK bn)
   ·exact(b.jL hb _ s).2 (aL w1)
theorem i_.settled (b:cz a S W m Y G)(hb:cJ a S.s)(hc:pA a S G D){g:List Bool->List Bool}(hg:ed W.T W.wt g)(h0:i_ a S W m G D (S.t3 a) (W.c0 g false) []):i_ a S W m G D (S.s4 a,((S.s.k0 a).eT (S.t3 a) S.r).2) (W.cR g false).1 (W.cR g false).2.1:=by
 have c:S.r.filter (fun e=>!(S.s.k0 a).al (S.t3 a).1 e.2)=(W.rg.filter (fun e=>!cG (W.c0 g false) e.2)).map (we m):=by rw[b.rg];exact kX _ _ _ W.rg (fun e he=>by show(!(S.s.k0 a).al _ (ew 3 (m e.2.toNat)))=_;rw[h0.is (b.gv e he).h])
 obtain⟨d,_⟩:=(i_.uq b hb hc hg).turns _ (W.rg.filter (fun e=>!cG _ e.2)) (S.t3 a) _ [] (fun e he=>(List.mem_filter.1 he).1) h0;have f:eJ (cm (dM ck) (fun s x=>(S.s.k0 a).al s.1 x) (S.s.k0 a).ke) ((S.r.filter (fun e=>!(S.s.k0 a).al (S.t3 a).1 e.2)).length+1) (S.t3 a) (S.r.filter (fun e=>!(S.s.k0 a).al (S.t3 a).1 e.2))=eJ (cm (dM ck) (fun s x=>(S.s.k0 a).al s.1 x) (S.s.k0 a).ke) (W.rg.length+1) (S.t3 a) ((W.rg.filter (fun e=>!cG (W.c0 g false) e.2)).map (we m)):=by rw[c];have hl:=bk (fun e=>!cG (W.c0 g false) e.2) W.rg;exact sO _ _ _ _ _ aa (by rw[aU];omega)
 have i:(S.s.k0 a).eT (S.t3 a) S.r=(eJ (cm (dM ck) (fun s x=>(S.s.k0 a).al s.1 x) (S.s.k0 a).ke) (W.rg.length+1) (S.t3 a) ((W.rg.filter (fun e=>!cG (W.c0 g false) e.2)).map (we m))).1:=by rw[<-f];rfl
 have j:(S.s4 a,((S.s.k0 a).eT (S.t3 a) S.r).2)=(S.s.k0 a).eT (S.t3 a) S.r:=rfl;rw[j,i];exact d
end
end Go.Proofs.YtpkjkjhanlbcoaaGreat
