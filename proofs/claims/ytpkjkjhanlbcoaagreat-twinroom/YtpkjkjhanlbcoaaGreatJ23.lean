import Derived.Test.YtpkjkjhanlbcoaaGreatJ22
namespace Go.Proofs.YtpkjkjhanlbcoaaGreat
set_option maxRecDepth 100000
set_option maxHeartbeats 8000000
open Go.RowKit W Kp cf
def mF (T:List cD)(e:b7):Prop:=(0<=e.1/\cv T e.1.toNat)/\(T.getD e.1.toNat t0).1=5/\0<=e.2/\cv T e.2.toNat
structure d5 (s:ck)(j:Nat):Prop where
 kd:∀i,cv s.T i->1<=(s.T.getD i t0).1/\(s.T.getD i t0).1<=5
 fl:∀i,cv s.T i->(s.T.getD i t0).1=3\/(s.T.getD i t0).1=4->(s.T.getD i t0).2.1.length=2
 g5:∀i,cv s.T i->(s.T.getD i t0).1=5->(s.T.getD i t0).2.1=[]
 fv:∀i,cv s.T i->∀v∈(s.T.getD i t0).2.1,eZ s.T v
 tl:∀i,(s.T.getD i t0).2.1.length<=12
 rv:∀v∈s.rs,eZ s.T v
 rl:s.rs.length=12
 gv:∀e∈s.rg,mF s.T e
 wv:∀e∈s.wt,mF s.T e
 en:s.rg.length+s.wt.length<=24
 tj:s.T.length<=j
theorem d5.more {s:ck}{j k:Nat}(h:d5 s j)(hk:j<=k):d5 s k:={h with tj:=aT h.tj hk}
theorem d5.iv {s:ck}{j:Nat}(h:d5 s j):e4 s.T s.wt:=⟨h.fl,fun i hi v hv=>(h.fv i hi v hv).2,fun e he=>(h.wv e he).2.2,h.tl⟩
theorem d5.uW {s:ck}{j:Nat}(h:d5 s j)(b:j<=10000):fI s:=
 ⟨h.iv,fun v hv=>(h.rv v hv).2,fun e he=>⟨(h.gv e he).1,(h.gv e he).2.2⟩,fun e he=>(h.wv e he).1,aT h.tj b,by have:=h.en;omega,by have:=h.en;omega⟩
theorem d5.A0 {s:ck}{j:Nat}(h:d5 s j)(b:j<=10000):nt s.T s.wt:=
 ⟨h.fv,fun e he=>⟨(h.wv e he).1.1,(h.wv e he).2.2⟩,h.tl,aT h.tj b,by have:=h.en;omega⟩
theorem eZ.mono {T c:List cD}{v:Int×Int}(h:eZ T v)(hm:v.1=3->cv T v.2.toNat->cv c v.2.toNat):eZ c v:=⟨h.1,fun b=>⟨(h.2 b).1,hm b (h.2 b).2⟩⟩
theorem kU (T:List cD):eZ T (0,0):=⟨aa,fun h=>by cases h⟩
theorem A1 (T:List cD):eZ T (2,0):=⟨aa,fun h=>by cases h⟩
theorem d5.rt {s:ck}{j:Nat}(h:d5 s j)(i:Nat):eZ s.T (s.rs.getD i (0,0)):=by
 by_cases c:i<s.rs.length
 ·exact h.rv _ (getD_in c)
 ·rw[aE,List.getElem?_eq_none V];exact kU _
theorem d5.cut {s:ck}{j:Nat}(h:d5 s j)(w:j<=10000){g:List Bool->List Bool}(hg:dR s.T s.wt g)(bZ:Int)(mj:Bool):d5 (s.cut g bZ mj) j:=by
 unfold ck.cut;split
 ·exact h
 have hw:=h.uW w;have d:=Kc hw hg mj;have hl:=Kd s g mj;generalize F:(s.cR g mj).1=L at*;generalize G:(s.cR g mj).2.1=C at*;have m:=Ki d.ok;have gt:∀i,ct L i->(f8 L s.T s.T.length).getD i t0=fA L i (s.T.getD i t0):=fun i hi=>by rw[uV,aI (d.ok.al i hi).1]
 have tr:∀v,eZ s.T v->(v.1=3->ct L v.2.toNat)->_:=fun v hv hi=>hv.mono (fun b _=>(m _).2 (hi b))
 have ev:∀e,mF s.T e->ct L e.1.toNat->ct L e.2.toNat->mF (f8 L s.T s.T.length) e:=fun e he f k=>⟨⟨he.1.1,(m _).2 f⟩,by rw[gt _ f,rI];exact he.2.1,he.2.2.1,(m _).2 k⟩
 refine {kd:=fun i hi=>?_,fl:=fun i hi hk=>?_,g5:=fun i hi hk=>?_,fv:=fun i hi v hv=>?_,tl:=fun i=>?_,rv:=fun v hv=>?_,rl:=h.rl,gv:=fun e he=>?_,wv:=fun e he=>?_,en:=?_,tj:=?_}
 ·have hi:=(m i).1 hi;rw[gt i hi,rI];exact h.kd i (d.ok.al i hi)
 ·have hi:=(m i).1 hi;rw[gt i hi,rI] at hk;rw[gt i hi];have k:=h.fl i (d.ok.al i hi) hk;rcases rJ (L:=L) hi with⟨_,_,e⟩|⟨_,_,e⟩|⟨_,e⟩<;>rw[e]
  ·rfl
  ·rfl
  ·exact k
 ·have hi:=(m i).1 hi;rw[gt i hi,rI] at hk;rw[gt i hi];rcases rJ (t:=s.T.getD i t0) hi with⟨A,_,_⟩|⟨A,_,_⟩|⟨_,e⟩
  ·omega
  ·omega
  ·rw[e];exact h.g5 i (d.ok.al i hi) hk
 ·have hi:=(m i).1 hi;have ha:=d.ok.al i hi;rw[gt i hi] at hv;have cl:∀v,jC s.T s.wt (ct L) i v->v.1=3->_:=fun v hk b=>d.cl i ha.1 hi v hk b;rcases rJ (L:=L) hi with⟨_,_,e⟩|⟨u,_,e⟩|⟨B,e⟩
  ·rw[e] at hv;have:v=(2,0):=by simpa using hv
   rw[this];exact A1 _
  ·rw[e] at hv;have:v=(2,0)\/v=(s.T.getD i t0).2.1.getD 1 (0,0):=by simpa using hv
   rcases this with rfl|rfl
   ·exact A1 _
   ·exact tr _ (h.fv i ha _ (getD_in (by rw[h.fl i ha (aK u)];decide))) (fun b=>cl _ (aJ (aK ⟨u,rfl⟩)) b)
  ·rw[e] at hv;refine tr v (h.fv i ha v hv) (fun b=>?_)
   have hk:=h.kd i ha;by_cases D:(s.T.getD i t0).1=1\/(s.T.getD i t0).1=2
   ·exact cl v (aK ⟨D,hv⟩) b
   ·by_cases c5:(s.T.getD i t0).1=5
    ·rw[h.g5 i ha c5] at hv;cases hv
    ·have o:(s.T.getD i t0).1=3\/(s.T.getD i t0).1=4:=V;have h0:=nk (B o)
     have k:=h.fl i ha o;obtain⟨q,hq,eq⟩:=List.mem_iff_getElem.1 hv;have n:(s.T.getD i t0).2.1.getD q (0,0)=v:=by rw[aE,aL V,eq];rfl
     match q,hq,n with
     |0,_,n=>
      rw[n] at h0;exact h0 b
     |1,_,n=>
      rcases o with c|c
      ·exact cl v (aJ (aK ⟨c,n.symm⟩)) b
      ·exact cl v (aJ (aJ (aK ⟨c,h0,n.symm⟩))) b
     |q+2,hq,_=>omega
 ·rw[uV];split
  ·cases c:L.getD i false
   ·rw[AZ c];simp
   ·rcases rJ (L:=L) c with⟨_,_,e⟩|⟨_,_,e⟩|⟨_,e⟩<;>rw[e]
    ·simp
    ·simp
    ·exact h.tl i
  ·simp[t0]
 ·exact tr v (h.rv v hv) (fun b=>d.up _ (Ke hw hg mj hv b))
 ·obtain⟨f,k⟩:=List.mem_filter.1 he;rw[a_] at k;exact ev e (h.gv e f) k.2 (d.up _ k.1)
 ·obtain⟨f,k⟩:=List.mem_filter.1 he;rcases List.mem_append.1 f with f|f
  ·have hv:=h.wv e f;exact ev e hv k (d.cl e.1.toNat hv.1.2.1 k (3,e.2) (aJ (aJ (aJ ⟨hv.2.1,e,f,by have:=hv.1.1;omega,rfl⟩))) rfl)
  ·obtain⟨q1,E,q3⟩:=d.cC e f;exact ev e (h.gv e q1) E q3
 ·dsimp only;have l1:(s.rg.filter (fun e=>cL (s.c0 g mj) e.2&&cL L e.1)).length+(s.rg.filter (fun e=>!cL (s.c0 g mj) e.2)).length<=s.rg.length:=by
   have key:∀l:List b7,(l.filter (fun e=>cL (s.c0 g mj) e.2&&cL L e.1)).length+(l.filter (fun e=>!cL (s.c0 g mj) e.2)).length<=l.length:=fun l=>by
    induction l with
    |nil=>simp
    |cons x l H=>
     cases c:cL (s.c0 g mj) x.2
     ·rw[List.filter_cons_of_neg (by rw[c];simp),List.filter_cons_of_pos (by rw[c];rfl)];simp only [List.length_cons];omega
     ·rw[List.filter_cons_of_neg (p:=fun e:b7=>!cL (s.c0 g mj) e.2) (by rw[c];simp)];have:(List.filter (fun e:b7=>cL (s.c0 g mj) e.2&&cL L e.1) (x::l)).length<=(List.filter (fun e:b7=>cL (s.c0 g mj) e.2&&cL L e.1) l).length+1:=by
       rw[List.filter_cons];split
       ·simp
       ·omega
      simp only [List.length_cons];omega
   exact key s.rg
  have l2:=bq (fun e:b7=>cL L e.1) (s.wt++C)
  rw[aZ] at l2;have:=h.en;omega
 ·rw[jD];exact h.tj
theorem rK (T:List cD)(t:cD)(i:Nat):(T++[t]).getD i t0=if i=T.length then t else T.getD i t0:=by exact AC
theorem A2 (T:List cD)(k:Int)(fl:List _)(i:Nat):cv (T++[(k,fl,false,false)]) i↔cv T i\/i=T.length:=by unfold cv;rw[rK,aZ,List.length_singleton];exact AD
theorem Kj (g:List Bool->List Bool)(s:ck)(bZ:Int)(mj:Bool):(s.cut g bZ mj).rs=s.rs:=by unfold ck.cut;split<;>rfl
theorem Kk (g:gP)(b_ bZ:Int)(s:ck)(m:Int):(s.room g b_ bZ m).2.rs=s.rs:=by
 unfold ck.room;split
 ·rfl
 ·exact Kj _ _ _ _
theorem uX {k R A B n:Int}(h:dJ k R A B n=0):gS k n=0:=by
 unfold dJ at h;split at h
 ·omega
 ·split at h
  ·omega
  ·exact h
theorem A3 {R A B n:Int}(h:dJ 5 R A B n=0):0<=n/\n<=12:=by
 have b:=uX h;unfold gS at b;rw[aG aa,aI rfl] at b;unfold hc at b;split at b
 ·omega
 ·split at b<;>omega
theorem A4 {R A B n:Int}(h:dJ 1 R A B n=0):vc 1 n=0:=by have b:=uX h;unfold gS at b;rwa [aI rfl] at b
section
variable {s:ck}{j:Nat}{g:gP}{b_ bZ:Int}
theorem d5.room (h:d5 s j)(b:j<=10000)(hg:dR s.T s.wt (g s.T s.wt))(m:Int):d5 (s.room g b_ bZ m).2 j:=by
 unfold ck.room;split
 ·exact h
 ·exact h.cut b hg _ _
theorem d5.put (h:d5 s j){kd:Int}{fl:List _}(d:1<=kd)(f:kd<=5)(g:kd=3\/kd=4->fl.length=2)(k:kd=5->fl=[])(l:∀v∈fl,eZ s.T v)(hl:fl.length<=12):d5 (s.put kd fl) (j+1):=by
 have b:=A2 s.T kd fl;have tr:∀v,eZ s.T v->_:=fun v hv=>hv.mono (fun _ ha=>(b _).2 (aK ha))
 have gt:∀i,cv s.T i->(s.T++[(kd,fl,false,false)]).getD i t0=s.T.getD i t0:=fun i hi=>by rw[rK,aG (by have:=hi.1;omega)]
 have c:(s.T++[(kd,fl,false,false)]).getD s.T.length t0=(kd,fl,false,false):=by rw[rK,aI rfl]
 have ev:∀e,mF s.T e->mF (s.T++[(kd,fl,false,false)]) e:=fun e he=>⟨⟨he.1.1,(b _).2 (aK he.1.2)⟩,by rw[gt _ he.1.2];exact he.2.1,he.2.2.1,(b _).2 (aK he.2.2.2)⟩
 unfold ck.put;refine {kd:=fun i hi=>?_,fl:=fun i hi hk=>?_,g5:=fun i hi hk=>?_,fv:=fun i hi v hv=>?_,tl:=fun i=>?_,rv:=fun v hv=>tr v (h.rv v hv),rl:=h.rl,gv:=fun e he=>ev e (h.gv e he),wv:=fun e he=>ev e (h.wv e he),en:=h.en,tj:=?_}
 ·rcases(b i).1 hi with hi|rfl
  ·rw[gt i hi];exact h.kd i hi
  ·rw[c];exact⟨d,f⟩
 ·rcases(b i).1 hi with hi|rfl
  ·rw[gt i hi] at hk⊢;exact h.fl i hi hk
  ·rw[c] at hk⊢;exact g hk
 ·rcases(b i).1 hi with hi|rfl
  ·rw[gt i hi] at hk⊢;exact h.g5 i hi hk
  ·rw[c] at hk⊢;exact k hk
 ·rcases(b i).1 hi with hi|rfl
  ·rw[gt i hi] at hv;exact tr v (h.fv i hi v hv)
  ·rw[c] at hv;exact tr v (l v hv)
 ·rw[rK];split
  ·exact hl
  ·exact h.tl i
 ·rw[aZ,List.length_singleton];have:=h.tj;omega
theorem d5.pO (h:d5 s j)(c:j<=10000)(hg:dR s.T s.wt (g s.T s.wt)){kd:Int}{fl:List _}(d:1<=kd)(e:kd<=5)(f:kd=3\/kd=4->fl.length=2)(i:kd=5->fl=[])(k:∀v∈fl,v∈s.rs\/v=(0,0))(hl:fl.length<=12):
 d5 (s.bZ g b_ bZ kd fl).2.2 (j+1)/\eZ (s.bZ g b_ bZ kd fl).2.2.T (s.bZ g b_ bZ kd fl).1:=by
 have hr:=h.room c hg (b_:=b_) (bZ:=bZ) (1+fl.length)
 have hs:=Kk g b_ bZ s (1+fl.length)
 unfold ck.bZ;generalize s.room g b_ bZ _=p at*;split
 ·dsimp only;refine⟨hr.put d e f i (fun v hv=>?_) hl,?_⟩
  ·rcases k v hv with b|b
   ·exact hr.rv v (by rw[hs];exact b)
   ·rw[b];exact kU _
  ·have l:=hr.tj;refine⟨nJ _ V V,fun _=>⟨V,?_⟩⟩
   unfold ck.put;exact(A2 _ _ _ _).2 (aJ V)
 ·exact⟨hr.more (Nat.le_succ _),kU _⟩
theorem d5.pop (h:d5 s j)(d:j<=10000)(v:Int×Int):d5 (s.pop v).2.2 j/\eZ (s.pop v).2.2.T (s.pop v).1:=by
 unfold ck.pop;split
 ·split
  ·rename_i c;have he:=h.wv _ (getD_in (x:=(0,0)) c)
   have hb:=he.2.2.2.1;have ht:=h.tj;refine⟨{h with wv:=fun e hm=>?_,en:=?_},nJ _ he.2.2.1 (by dsimp only;omega),fun _=>he.2.2⟩
   ·refine h.wv e ?_;rcases List.mem_append.1 hm with b|b
    ·exact bA b
    ·exact List.mem_of_mem_drop b
   ·have:=h.en;dsimp only;rw[aZ,bv,List.length_drop];omega
  ·exact⟨h,kU _⟩
 ·exact⟨h,kU _⟩
theorem Kl {T:List cD}{v:Int×Int}(hv:eZ T v)(h:iG T v=true):(0<=v.2/\cv T v.2.toNat)/\(T.getD v.2.toNat t0).1=5:=by obtain⟨b,c⟩:=q8.1 h;exact⟨hv.2 b,c⟩
theorem d5.reg (h:d5 s j){t b:Int×Int}(ht:eZ s.T t)(hd:eZ s.T b):d5 (s.reg t b).2 j:=by
 unfold ck.reg;split
 ·rename_i c;split
  ·exact h
  ·obtain⟨q1,d⟩:=Kl hd c.2;refine {h with gv:=fun e he=>?_,en:=?_}
   ·rcases List.mem_append.1 he with he|he
    ·exact h.gv e he
    ·rw[List.mem_singleton.1 he];exact⟨q1,d,ht.2 c.1⟩
   ·dsimp only;exact qZ
 ·exact h
theorem A6 (T:List cD)(i q:Nat)(y:Int×Int)(k:Nat)(hi:i<T.length):(i9 T i q y).getD k t0=if k=i then((T.getD i t0).1,(T.getD i t0).2.1.set q y,(T.getD i t0).2.2) else T.getD k t0:=by
 rw[aE,List.getElem?_set];by_cases e:i=k
 ·subst e;rw[aI rfl,aI hi,aI rfl];rfl
 ·rw[aG e,aG (fun c=>e c.symm),<-aE]
theorem Km (T:List cD)(i q:Nat)(y:Int×Int)(hi:i<T.length)(k:Nat):cv (i9 T i q y) k↔cv T k:=by
 unfold cv;rw[A6 T i q y k hi,a3];split
 ·rename_i e;rw[e]
 ·exact Iff.rfl
theorem d5.set (h:d5 s j){v y:Int×Int}(I:Int)(hv:eZ s.T v)(hy:eZ s.T y):d5 (s.set v I y).2 j:=by
 unfold ck.set;split
 ·rename_i c;have g:jE s.T v=true:=by
   cases e:jE s.T v
   ·unfold ck.fc at c;rw[e,aG Z] at c;omega
   ·rfl
  obtain⟨l,m⟩:=jF.1 g;obtain⟨_,ha⟩:=hv.2 l;generalize v.2.toNat=i at*;have hi:=ha.1;have b:=Km s.T i I.toNat y hi;have gt:=fun k=>A6 s.T i I.toNat y k hi;have tr:∀v,eZ s.T v->_:=fun v hv=>hv.mono (fun _ ha=>(b _).2 ha)
  have k1:∀k,((i9 s.T i I.toNat y).getD k t0).1=(s.T.getD k t0).1:=fun k=>by
   rw[gt k];split
   ·rename_i e;rw[e]
   ·rfl
  have l1:∀k,((i9 s.T i I.toNat y).getD k t0).2.1.length=(s.T.getD k t0).2.1.length:=fun k=>by
   rw[gt k];split
   ·rename_i e;rw[e,a3]
   ·rfl
  have ev:∀e,mF s.T e->mF (i9 s.T i I.toNat y) e:=fun e he=>⟨⟨he.1.1,(b _).2 he.1.2⟩,by rw[k1];exact he.2.1,he.2.2.1,(b _).2 he.2.2.2⟩
  refine {kd:=fun k hk=>?_,fl:=fun k hk hq=>?_,g5:=fun k hk hq=>?_,fv:=fun k hk x d=>?_,tl:=fun k=>?_,rv:=fun x d=>tr x (h.rv x d),rl:=h.rl,gv:=fun e he=>ev e (h.gv e he),wv:=fun e he=>ev e (h.wv e he),en:=h.en,tj:=?_}
  ·rw[k1];exact h.kd k ((b k).1 hk)
  ·rw[k1] at hq;rw[l1];exact h.fl k ((b k).1 hk) hq
  ·rw[k1] at hq;have n:k≠i:=fun e=>m (by rw[<-e];exact hq)
   rw[gt k,aG n];exact h.g5 k ((b k).1 hk) hq
  ·rw[gt k] at d;split at d
   ·rename_i e;rcases List.mem_or_eq_of_mem_set d with f|f
    ·exact tr x (h.fv i ha x f)
    ·rw[f];exact tr y hy
   ·exact tr x (h.fv k ((b k).1 hk) x d)
  ·rw[l1];exact h.tl k
  ·rw[a3];exact h.tj
 ·exact h
theorem d5.root (h:d5 s j)(R:Nat){v:Int×Int}(hv:eZ s.T v):d5 {s with rs:=s.rs.set R v} j:=
 {
  h with
  rv:=fun x b=>(List.mem_or_eq_of_mem_set b).elim (h.rv x) (fun e=>by rw[e];exact hv)
  rl:=by rw[a3];exact h.rl}
theorem uY (s:ck)(i:Nat):s.rs.getD i (0,0)∈s.rs\/s.rs.getD i (0,0)=(0,0):=by
 by_cases c:i<s.rs.length
 ·exact aK (getD_in c)
 ·rw[aE,List.getElem?_eq_none V];exact aJ rfl
theorem d5.rts (h:d5 s j)(b:j<=10000)(hg:dR s.T s.wt (g s.T s.wt)){k R A B n:Int}(hc:dJ k R A B n=0)(I:Int):d5 (s.rt g b_ bZ k A.toNat B.toNat I n).2.2 (j+1)/\eZ (s.rt g b_ bZ k A.toNat B.toNat I n).2.2.T (s.rt g b_ bZ k A.toNat B.toNat I n).1:=by
 have hs:=h.more (Nat.le_succ j)
 have two:∀v∈[s.rs.getD A.toNat (0,0),s.rs.getD B.toNat (0,0)],v∈s.rs\/v=(0,0):=fun v hv=>by
  have:v=s.rs.getD A.toNat (0,0)\/v=s.rs.getD B.toNat (0,0):=by simpa using hv
  rcases this with rfl|rfl
  ·exact uY s _
  ·exact uY s _
 have d:∀x:Int,-1152921504606846976<=x->x<1152921504606846976->eZ s.T (1,x):=fun x w C=>⟨by simp[vc,rc];omega,fun h=>by cases h⟩
 unfold ck.rt;by_cases k1:k=1
 ·rw[aI k1];subst k1;exact⟨hs,A4 hc,fun h=>by cases h⟩
 rw[aG k1];by_cases f:k=3
 ·rw[aI f];exact⟨hs,h.rt _⟩
 rw[aG f];by_cases i:k=4
 ·rw[aI i];exact h.pO b hg aa aa Z Z two Z
 rw[aG i];by_cases k5:k=5
 ·rw[aI k5];subst k5;have hn:=A3 hc;exact h.pO b hg aa aa Z Z (fun v hv=>by rw[(List.mem_replicate.1 hv).2];exact uY s _) (by rw[List.length_replicate];omega)
 rw[aG k5];by_cases k6:k=6
 ·rw[aI k6];exact h.pO b hg aa aa Z Z two Z
 rw[aG k6];by_cases l:k=7
 ·rw[aI l];exact h.pO b hg aa aa Z Z two Z
 rw[aG l];by_cases m:k=8
 ·rw[aI m];exact h.pO b hg aa aa Z Z Z Z
 rw[aG m];by_cases o:k=10
 ·rw[aI o];have:=h.pop b (s.rs.getD A.toNat (0,0))
  exact⟨this.1.more (Nat.le_succ _),this.2⟩
 rw[aG o];by_cases p:k=11
 ·rw[aI p];refine⟨hs,?_⟩
  split
  ·rename_i c;by_cases e:jE s.T (s.rs.getD A.toNat (0,0))=true
   ·obtain⟨u,_⟩:=jF.1 e;by_cases ci:I.toNat<(s.T.getD (s.rs.getD A.toNat (0,0)).2.toNat t0).2.1.length
    ·exact h.fv _ ((h.rt A.toNat).2 u).2 _ (getD_in ci)
    ·rw[aE,List.getElem?_eq_none V];exact kU _
   ·unfold ck.fc at c;rw[aG e] at c;omega
  ·exact kU _
 rw[aG p];by_cases q:k=13
 ·rw[aI q];split
  ·refine⟨hs,d _ V ?_⟩
   have:=h.tl (s.rs.getD A.toNat (0,0)).2.toNat;omega
  ·exact⟨hs,kU _⟩
 rw[aG q];by_cases t:k=14
 ·rw[aI t];refine⟨hs,?_⟩
  split
  ·exact d _ aa aa
  ·exact d _ aa aa
 rw[aG t];exact⟨hs,kU _⟩
theorem d5.ip (h:d5 s j)(b:j<=10000)(hg:dR s.T s.wt (g s.T s.wt))(k R A B I n:Int):d5 (s.ip g b_ bZ k R A B I n).2 (j+1):=by
 have hs:=Nat.le_succ j;unfold ck.ip;by_cases hc:dJ k R A B n=0
 ·rw[aI hc];split
  ·exact(h.reg (h.rt _) (h.rt _)).more hs
  ·split
   ·exact(h.set I (h.rt _) (h.rt _)).more hs
   ·split
    ·exact(h.cut b hg _ _).more hs
    ·split
     ·exact(h.cut b hg _ _).more hs
     ·have hr:=h.rts b hg hc I (b_:=b_) (bZ:=bZ)
      split
      ·exact hr.1.root _ hr.2
      ·exact hr.1
 ·rw[aG hc];exact h.more hs
end
theorem d5.start:d5 ⟨[],List.replicate 12 (0,0),[],[]⟩ 0:=
 ⟨fun i hi=>absurd hi.1 Z,fun i hi=>absurd hi.1 Z,fun i hi=>absurd hi.1 Z,fun i hi=>absurd hi.1 Z,fun i=>by simp[t0],fun v hv=>by rw[(List.mem_replicate.1 hv).2];exact kU _,Z,fun e he=>by simp at he,fun e he=>by simp at he,Z,Z⟩
open Go.RowKit W
theorem Kn (T:List cD)(wt:List b7)(l:List _):hQ (tI T.length) (gQ T) (gR T wt) ([],[]) (dV.ez T wt l).2 (dV.ez T wt l).1:=
 oI (jq _) (e5.start _) (by rw[ns];simp) _
theorem Ko {T:List cD}{wt:List b7}(hw:nt T wt)(l:List _):(dV.ez T wt l).1.length=l.length/\(dV.ez T wt l).2.2.length<=10000/\∀nd∈(dV.ez T wt l).2.2,nd.2.length<=20000:=by
 have hv:=Kn T wt l;refine⟨?_,?_,fun nd b=>?_⟩
 ·unfold dV.ez;rw[mL,aW]
 ·rw[hv.ok.len];refine aT hv.ok.le ?_;rw[ns];exact hw.l1
 ·obtain⟨i,hi,e⟩:=List.mem_iff_getElem.1 b;obtain⟨c,q1,_,q3,_⟩:=hv.nw i (aX _) (by rw[<-hv.ok.len];exact hi)
  rw[aL hi,e] at q1;have q1:nd=c:=by simpa using q1
  rw[q1,q3];unfold gR;have d:=hw.tl ((dV.ez T wt l).2.1.getD i 0).toNat;have f:=hw.l2;rw[aZ,aW];split
  ·rw[aW];have:=bq (fun e:b7=>e.1==(dV.ez T wt l).2.1.getD i 0) wt;omega
  ·rw[List.length_nil];omega
section
variable {w:ax}{p:Nat}{T:List cD}{wt:List b7}{is:List Bool}
end
section
variable {rp rb:Nat}{b_ bZ:Int}{F:Nat->Prop}{s:ck}{w:ax}
end
section
variable {w:ax}{s:ck}{db mb xb:Nat}{v0 v1 v2:Value}{b_ bZ:Int}{D:List Bool}{wr:ax}{Kq:Option Addr}{ci:Nat}{L M:List Bool}{C:List b7}
end
section
variable {rp rb:Nat}{b_ bZ:Int}{F:Nat->Prop}{s:ck}{w:ax}
end
def wv (m:Nat->Int)(v:Int×Int):Int:=if v.1=3 then ew 3 (m v.2.toNat) else ew v.1 v.2
def we (m:Nat->Int)(e:b7):b7:=(ew 3 (m e.1.toNat),ew 3 (m e.2.toNat))
structure dM (T:List cD)(v:Int×Int):Prop where
 t:v.1=3->0<=v.2/\cv T v.2.toNat
 o:v.1≠3->vc v.1 v.2=0
structure iH (T:List cD)(e:b7):Prop where
 g0:0<=e.1
 g:cv T e.1.toNat
 k:(T.getD e.1.toNat t0).1=5
 h0:0<=e.2
 h:cv T e.2.toNat
structure cy (a:Wc)(S:cq)(W:ck)(m:Nat->Int)(Y G:List Int):Prop where
 kv:em a S.s Y G
 rl:W.rs.length=12
 rv:∀v∈W.rs,dM W.T v
 fv:∀i,cv W.T i->∀v∈(W.T.getD i t0).2.1,dM W.T v
 rs:S.s.rs=W.rs.map (wv m)
 iq:∀i,cv W.T i->(W.T.getD i t0).2.2.1=false->m i∈Y
 old:∀i,cv W.T i->(W.T.getD i t0).2.2.1=true->m i∈G
 inj:∀i j,cv W.T i->cv W.T j->m i=m j->i=j
 f6:∀v,(v∈Y\/v∈G)->∃i,cv W.T i/\m i=v
 hd:∀i,cv W.T i->hc (W.T.getD i t0).1 (W.T.getD i t0).2.1.length=0/\ld a.N S.s.y S.s.g S.s.ws (m i)=hw (W.T.getD i t0).1 (W.T.getD i t0).2.1.length
 fd:∀i,cv W.T i->∀k:Nat,k<(W.T.getD i t0).2.1.length->ld a.N S.s.y S.s.g S.s.ws (m i+1+k)=wv m ((W.T.getD i t0).2.1.getD k (0,0))
 rg:S.r=W.rg.map (we m)
 gv:∀e∈W.rg,iH W.T e
 wt:S.q=W.wt.map (we m)
 dy:∀e∈W.wt,iH W.T e
 tl:∀i,(W.T.getD i t0).2.1.length<=12
theorem pP {b:Type}(l:List b)(i j:Nat)(x c:b)(h:i<l.length):(l.set i x).getD j c=if i=j then x else l.getD j c:=by exact z4
theorem j6 {b c:Type}(f:b->c)(l:List b)(i:Nat)(d:b)(e:c)(h:i<l.length):(l.map f).getD i e=f (l.getD i d):=by rw[aE,List.getElem?_map,aE,aL h];rfl
theorem ir {m:Nat->Int}{v:Int×Int}(h:v.1=3):wv m v=ew 3 (m v.2.toNat):=by unfold wv;rw[aI h]
theorem jn {m:Nat->Int}{v:Int×Int}(h:v.1≠3):wv m v=ew v.1 v.2:=by unfold wv;rw[aG h]
theorem uZ {T:List cD}{m b:Nat->Int}(h:∀i,cv T i->b i=m i){v:Int×Int}(hv:dM T v):wv b v=wv m v:=by
 by_cases c:v.1=3
 ·rw[ir c,ir c,h _ (hv.t c).2]
 ·rw[jn c,jn c]
theorem A7 {T:List cD}{m b:Nat->Int}(h:∀i,cv T i->b i=m i){e:b7}(he:iH T e):we b e=we m e:=by unfold we;rw[h _ he.g,h _ he.h]
theorem dM.of {T:List cD}{k n:Int}(b:k≠3)(h:vc k n=0):dM T (k,n):=⟨fun e=>absurd e b,fun _=>h⟩
theorem dM.nil (T:List cD):dM T (0,0):=dM.of aa aa
theorem dM.mono {T b:List cD}(h:∀i,cv T i->cv b i){v:Int×Int}(hv:dM T v):dM b v:=⟨fun e=>⟨(hv.t e).1,h _ (hv.t e).2⟩,hv.o⟩
theorem Kr {N y g:Nat}{ws Y G:List Int}(h:dU N y g ws Y G)(hy:y<=N){b v i j:Int}(c:b∈Y\/b∈G)(hv:v∈Y\/v∈G)(f:0<=i)(k:i<pf (ld N y g ws b))(j0:0<=j)(l:j<pf (ld N y g ws v))(e:b+1+i=v+1+j):b=v:=by
 rcases c with c|c<;>rcases hv with hv|hv
 ·rcases Int.lt_trichotomy b v with d|d|d
  ·have:=h.ty.apart b c v hv d;omega
  ·exact d
  ·have:=h.ty.apart v hv b c d;omega
 ·have m:=m_ h c f k;have n:=na h hv j0 l;omega
 ·have m:=m_ h hv j0 l;have n:=na h c f k;omega
 ·exact y8 h c hv f k j0 l e
section
variable {a:Wc}{S:cq}{W:ck}{m:Nat->Int}{Y G:List Int}
theorem cy.mem (h:cy a S W m Y G){i:Nat}(hi:cv W.T i):m i∈Y\/m i∈G:=by
 cases e:(W.T.getD i t0).2.2.1
 ·exact aK (h.iq i hi e)
 ·exact aJ (h.old i hi e)
theorem cy.bd (h:cy a S W m Y G)(hb:cI a S.s){i:Nat}(hi:cv W.T i):0<=m i/\m i<1280:=by
 have c:=hb.n1;have d:=hb.o1;have e:=hb.y1;have f:=hb.g1;rcases h.mem hi with b|b
 ·have:=h.kv.inv.full.h_ _ b;omega
 ·have:=h.kv.inv.full.io _ b;omega
theorem cy.word (h:cy a S W m Y G)(hb:cI a S.s){i:Nat}(hi:cv W.T i):vc 3 (m i)=0/\cY (ew 3 (m i))=true/\cg (ew 3 (m i))=m i:=by have hB:=h.bd hb hi;have h0:=nJ (m i) hB.1 V;have b:=nI 3 (m i) h0;exact⟨h0,b.1,b.2 rfl⟩
theorem cy.vt (h:cy a S W m Y G)(hb:cI a S.s){v:Int×Int}(hv:dM W.T v)(b:v.1=3):cY (wv m v)=true/\cg (wv m v)=m v.2.toNat:=by rw[ir b];exact(h.word hb (hv.t b).2).2
theorem dM.no {T:List cD}{v:Int×Int}(hv:dM T v)(b:v.1≠3):cY (wv m v)=false:=by rw[jn b,(nI _ _ (hv.o b)).1];simpa using b
theorem cy.u_ (h:cy a S W m Y G)(hb:cI a S.s){v:Int×Int}(hv:dM W.T v):cY (wv m v)=(v.1==3):=by
 by_cases c:v.1=3
 ·rw[(h.vt hb hv c).1,c];rfl
 ·rw[hv.no c];simp[c]
theorem cy.at (h:cy a S W m Y G)(hb:cI a S.s){v:Int×Int}(hv:dM W.T v)(ha:cY (wv m v)=true):cg (wv m v)∈Y\/cg (wv m v)∈G:=by
 rw[h.u_ hb hv] at ha;have b:v.1=3:=by simpa using ha
 rw[(h.vt hb hv b).2];exact h.mem (hv.t b).2
theorem cy.dec (h:cy a S W m Y G)(hb:cI a S.s){v:Int×Int}(hv:dM W.T v):dc (wv m v)=0/\dk (wv m v)=v.1/\de (wv m v)=if v.1=3 then m v.2.toNat else v.2:=by
 by_cases c:v.1=3
 ·rw[ir c,aI c,c];exact pU 3 _ (h.word hb (hv.t c).2).1
 ·rw[jn c,aG c];exact pU _ _ (hv.o c)
theorem cy.A8 (h:cy a S W m Y G)(hb:cI a S.s){v b:Int×Int}(hv:dM W.T v)(d:dM W.T b)(e:wv m v=wv m b):v=b:=by
 obtain⟨_,k1,n1⟩:=h.dec hb hv;obtain⟨_,f,g⟩:=h.dec hb d;rw[e] at k1 n1;have e7:=k1.symm.trans f;rw[g] at n1;by_cases c:v.1=3
 ·have c2:=e7▸c
  rw[aI c,aI c2] at n1;have:=h.inj _ _ (d.t c2).2 (hv.t c).2 n1;have i:=(hv.t c).1;have j:=(d.t c2).1;exact Prod.ext e7 V
 ·rw[aG c,aG (e7▸c)] at n1;exact Prod.ext e7 n1.symm
theorem cy.parts (h:cy a S W m Y G){i:Nat}(hi:cv W.T i):pk (ld a.N S.s.y S.s.g S.s.ws (m i))=(W.T.getD i t0).1/\pf (ld a.N S.s.y S.s.g S.s.ws (m i))=(W.T.getD i t0).2.1.length/\pc (ld a.N S.s.y S.s.g S.s.ws (m i))=0:=by obtain⟨b,c⟩:=h.hd i hi;rw[c];exact pV _ _ b
theorem cy.tB (h:cy a S W m Y G)(hb:cI a S.s){v:Int×Int}(hv:dM W.T v):tB a.N S.s.y S.s.g S.s.ws (wv m v)=(v.1==3):=by
 by_cases c:v.1=3
 ·rw[(i7 (O:=a.O) h.kv.inv.full hb.n1 hb.y1 hb.o1 hb.g1).2 ⟨(h.vt hb hv c).1,h.at hb hv (h.vt hb hv c).1⟩,c];rfl
 ·have e:(v.1==3)=false:=by simpa using c
  rw[e,Bool.eq_false_iff];intro b;have:=((i7 (O:=a.O) h.kv.inv.full hb.n1 hb.y1 hb.o1 hb.g1).1 b).1;rw[hv.no c] at this
  cases this
theorem cy.root (h:cy a S W m Y G){i:Nat}(hi:i<12):S.s.rs.getD i 0=wv m (W.rs.getD i (0,0))/\dM W.T (W.rs.getD i (0,0)):=by
 have hl:i<W.rs.length:=by rw[h.rl];exact hi
 exact⟨by rw[h.rs];exact j6 _ _ _ _ _ hl,h.rv _ (getD_in hl)⟩
theorem cy.code (h:cy a S W m Y G)(hb:cI a S.s){A:Nat}(f:A<12)(I:Int):el a.N S.s.y S.s.g S.s.ws (S.s.rs.getD A 0) I=W.gc A I:=by
 obtain⟨e,hv⟩:=h.root f;rw[e];unfold el ck.gc ck.th;rw[h.tB hb hv];by_cases c:(W.rs.getD A (0,0)).1=3
 ·have b:((W.rs.getD A (0,0)).1==3)=true:=by simpa using c
  obtain⟨z,al⟩:=hv.t c;obtain⟨g,i,_⟩:=h.parts al;rw[b,aI rfl,aI c,(h.vt hb hv c).2,h.kv.inv.full.stands hb.y1 (h.mem al),g,i];have j:W.T.getD (W.rs.getD A (0,0)).2.toNat (0,[],false,false)=W.T.getD (W.rs.getD A (0,0)).2.toNat t0:=rfl;rw[j];by_cases c5:(W.T.getD (W.rs.getD A (0,0)).2.toNat t0).1=5
  ·rw[aI c5,aI (aJ c5)]
  ·have k:¬((W.rs.getD A (0,0)).2<0\/(W.T.getD (W.rs.getD A (0,0)).2.toNat t0).1=5):=fun d=>d.elim (fun d=>absurd z V) c5;rw[aG c5,aG k]
 ·have b:((W.rs.getD A (0,0)).1==3)=false:=by simpa using c
  rw[b,aG Z,aG c,aI (aK aa)]
theorem cy.put (h:cy a S W m Y G)(hb:cI a S.s)(k:Nat){v:Int×Int}(hv:dM W.T v):cy a ⟨{S.s with rs:=S.s.rs.set k (wv m v)},S.r,S.q⟩ {W with rs:=W.rs.set k v} m Y G:=
 {
  kv:=h.kv.root k _ (fun ha=>h.at hb hv ha),rl:=by rw[a3];exact h.rl
  rv:=fun b c=>(y3 c).elim (h.rv b) (fun e=>by rw[e];exact hv),fv:=h.fv
  rs:=by rw[h.rs,List.map_set]
  iq:=h.iq,old:=h.old,inj:=h.inj,f6:=h.f6,hd:=h.hd,fd:=h.fd,rg:=h.rg,gv:=h.gv,wt:=h.wt,dy:=h.dy,tl:=h.tl}
theorem cy.beside (h:cy a S W m Y G){r q:List b7}(hr:∀e∈r,iH W.T e)(hq:∀e∈q,iH W.T e):cy a ⟨S.s,r.map (we m),q.map (we m)⟩ {W with rg:=r,wt:=q} m Y G:=
 {kv:=h.kv,rl:=h.rl,rv:=h.rv,fv:=h.fv,rs:=h.rs,iq:=h.iq,old:=h.old,inj:=h.inj,f6:=h.f6,hd:=h.hd,fd:=h.fd,rg:=rfl,gv:=hr,wt:=rfl,dy:=hq,tl:=h.tl}
theorem Ks {T:List cD}{i:Nat}{t:cD}(hi:i<T.length)(hd:t.2.2.2=(T.getD i t0).2.2.2)(j:Nat):cv (T.set i t) j↔cv T j:=by
 unfold cv;rw[a3,pP _ _ _ _ _ hi];by_cases e:i=j
 ·subst e;rw[aI rfl,hd]
 ·rw[aG e]
theorem cy.store (h:cy a S W m Y G)(hb:cI a S.s){i k:Nat}(hi:cv W.T i)(hk:k<(W.T.getD i t0).2.1.length){v:Int×Int}(hv:dM W.T v){ws M:List Int}(ew:ws=S.s.ws.set (m i+1+k).toNat (wv m v))(t:em a {S.s with ws:=ws,M:=M} Y G):
 cy a ⟨{S.s with ws:=ws,M:=M},S.r,S.q⟩ {W with T:=W.T.set i ((W.T.getD i t0).1,(W.T.getD i t0).2.1.set k v,(W.T.getD i t0).2.2)} m Y G:=by
 have al:∀j,cv (W.T.set i ((W.T.getD i t0).1,(W.T.getD i t0).2.1.set k v,(W.T.getD i t0).2.2)) j↔cv W.T j:=Ks hi.1 rfl;have gt:∀j,(W.T.set i ((W.T.getD i t0).1,(W.T.getD i t0).2.1.set k v,(W.T.getD i t0).2.2)).getD j t0=if i=j then((W.T.getD i t0).1,(W.T.getD i t0).2.1.set k v,(W.T.getD i t0).2.2) else W.T.getD j t0:=fun j=>pP _ _ _ _ _ hi.1
 have gl:∀j,((W.T.set i ((W.T.getD i t0).1,(W.T.getD i t0).2.1.set k v,(W.T.getD i t0).2.2)).getD j t0).2.1.length=(W.T.getD j t0).2.1.length:=fun j=>by
  rw[gt];split
  ·rename_i e;subst e;simp
  ·rfl
 have g1:∀j,((W.T.set i ((W.T.getD i t0).1,(W.T.getD i t0).2.1.set k v,(W.T.getD i t0).2.2)).getD j t0).1=(W.T.getD j t0).1:=fun j=>by
  rw[gt];split
  ·rename_i e;subst e;rfl
  ·rfl
 have g2:∀j,((W.T.set i ((W.T.getD i t0).1,(W.T.getD i t0).2.1.set k v,(W.T.getD i t0).2.2)).getD j t0).2.2=(W.T.getD j t0).2.2:=fun j=>by
  rw[gt];split
  ·rename_i e;subst e;rfl
  ·rfl
 obtain⟨u,w,_⟩:=h.parts hi;have k1:(k:Int)<pf (ld a.N S.s.y S.s.g S.s.ws (m i)):=V;obtain⟨_,p⟩:=h.kv.inv.full.set hb.l1 hb.y1 hb.g1 (h.mem hi) (Int.natCast_nonneg k) k1;rw[<-ew] at p;have g:∀c,dM W.T c->_:=fun c d=>d.mono (fun j b=>(al j).2 b)
 have q:∀e,iH W.T e->iH (W.T.set i ((W.T.getD i t0).1,(W.T.getD i t0).2.1.set k v,(W.T.getD i t0).2.2)) e:=fun e he=>⟨he.g0,(al _).2 he.g,by rw[g1];exact he.k,he.h0,(al _).2 he.h⟩
 have x:=ju (jS h.kv.inv.full (h.mem hi) (Int.natCast_nonneg k) k1) hb.y1 hb.g1;exact
 {
  kv:=t,rl:=h.rl,rv:=fun c d=>g c (h.rv c d)
  fv:=fun j b c d=>by
   have f:=(al j).1 b;have d:=d;rw[gt] at d;split at d
   ·rename_i e;rcases y3 d with l|l
    ·exact g c (h.fv i hi c l)
    ·rw[l];exact g v hv
   ·exact g c (h.fv j f c d)
  rs:=h.rs
  iq:=fun j b e=>h.iq j ((al j).1 b) (by rw[<-g2];exact e)
  old:=fun j b e=>h.old j ((al j).1 b) (by rw[<-g2];exact e)
  inj:=fun j s b f e=>h.inj j s ((al j).1 b) ((al s).1 f) e
  f6:=fun c d=>by obtain⟨j,b,e⟩:=h.f6 c d;exact⟨j,(al j).2 b,e⟩
  hd:=fun j b=>by have f:=(al j).1 b;rw[gl,g1,p _ (h.mem f)];exact h.hd j f
  fd:=fun j b n hn=>by
   have f:=(al j).1 b;have hn:=hn;rw[gl] at hn;obtain⟨_,A,_⟩:=h.parts f;have n1:(n:Int)<pf (ld a.N S.s.y S.s.g S.s.ws (m j)):=V;have o:=jS h.kv.inv.full (h.mem f) (Int.natCast_nonneg n) n1;have B:=ju o hb.y1 hb.g1;rw[dY o,ew,ka _ _ _ _ (by have:=hb.l1;omega),<-dY o,h.fd j f n hn,gt];by_cases e:i=j
   ·subst e;rw[aI rfl];show _=wv m _;rw[pP _ _ _ _ _ hk];by_cases e7:k=n
    ·subst e7;rw[aI rfl,aI rfl]
    ·rw[aG e7,aG V]
   ·rw[aG e,aG (fun l=>e ?_)];exact h.inj i j hi f (Kr h.kv.inv.full hb.y1 (h.mem hi) (h.mem f) (Int.natCast_nonneg k) k1 (Int.natCast_nonneg n) n1 V)
  rg:=h.rg,gv:=fun e he=>q e (h.gv e he),wt:=h.wt,dy:=fun e he=>q e (h.dy e he)
  tl:=fun j=>by rw[gl];exact h.tl j}
theorem A9 {T:List cD}{t:cD}(ht:t.2.2.2=false)(j:Nat):cv (T++[t]) j↔cv T j\/j=T.length:=by
 unfold cv;rcases Nat.lt_trichotomy j T.length with b|b|b
 ·rw[aE,List.getElem?_append_left b,<-aE];exact⟨fun q=>aK ⟨b,q.2⟩,fun q=>q.elim (fun q=>⟨by simp;omega,q.2⟩) (fun e=>absurd b V)⟩
 ·subst b;rw[aE,List.getElem?_append_right bW];simp[ht]
 ·simp;omega
theorem lN {b:Type}(l:List b)(t c:b)(j:Nat)(h:j<l.length):(l++[t]).getD j c=l.getD j c:=by rw[aE,List.getElem?_append_left h,<-aE]
theorem nE {b:Type}(l:List b)(t c:b):(l++[t]).getD l.length c=t:=by simp
def nF (m:Nat->Int)(n:Nat)(y:Int)(i:Nat):Int:=if i=n then y else m i
theorem cy.new (h:cy a S W m Y G){kd:Int}{l:List _}(hk:hc kd l.length=0)(w:∀v∈l,dM W.T v){c:eb}(er:c.rs=S.s.rs)(F:c.y<=a.N)(t:em a c (Y++[(S.s.y:Int)]) G)
 (B:ld a.N c.y c.g c.ws S.s.y=hw kd l.length)(C:∀k:Nat,k<l.length->ld a.N c.y c.g c.ws (S.s.y+1+k)=wv m (l.getD k (0,0)))
 (h0:∀v,(v∈Y\/v∈G)->ld a.N c.y c.g c.ws v=ld a.N S.s.y S.s.g S.s.ws v)(D:∀v,(v∈Y\/v∈G)->∀k:Nat,(k:Int)<pf (ld a.N S.s.y S.s.g S.s.ws v)->ld a.N c.y c.g c.ws (v+1+k)=ld a.N S.s.y S.s.g S.s.ws (v+1+k)):
 cy a ⟨c,S.r,S.q⟩ {W with T:=W.T++[(kd,l,false,false)]} (nF m W.T.length S.s.y) (Y++[(S.s.y:Int)]) G:=by
 have al:∀j,cv (W.T++[(kd,l,false,false)]) j↔cv W.T j\/j=W.T.length:=A9 rfl;have f:∀i,cv W.T i->nF m W.T.length S.s.y i=m i:=fun i hi=>by unfold nF;rw[aG (by have:=hi.1;omega)]
 have p:nF m W.T.length S.s.y W.T.length=S.s.y:=by unfold nF;rw[aI rfl]
 have u:∀n,dM W.T n->_:=fun n g=>g.mono (fun j d=>(al j).2 (aK d))
 have x:∀e,iH W.T e->iH (W.T++[(kd,l,false,false)]) e:=fun e he=>⟨he.g0,(al _).2 (aK he.g),by rw[lN _ _ _ _ he.g.1];exact he.k,he.h0,(al _).2 (aK he.h)⟩
 have A:∀j,cv W.T j->m j≠S.s.y:=fun j d e=>by
  rcases h.mem d with b|b
  ·have:=h.kv.inv.full.h_ _ b;omega
  ·have E:(S.s.y:Int)∈Y++[(S.s.y:Int)]:=Z;have n1:=t.inv.full.h_ _ E;have H:=t.inv.full.io _ b;omega
 exact
 {
  kv:=t,rl:=h.rl,rv:=fun n g=>u n (h.rv n g)
  fv:=fun j d n g=>by
   rcases(al j).1 d with b|b
   ·have g:=g;rw[lN _ _ _ _ b.1] at g;exact u n (h.fv j b n g)
   ·have g:=g;rw[b,nE] at g;exact u n (w n g)
  rs:=by show c.rs=W.rs.map _;rw[er,h.rs];exact List.map_congr_left (fun v hv=>(uZ f (h.rv v hv)).symm)
  iq:=fun j d e=>by
   rcases(al j).1 d with b|b
   ·have e:=e;rw[lN _ _ _ _ b.1] at e;rw[f j b];exact aY _ (h.iq j b e)
   ·rw[b,p];simp
  old:=fun j d e=>by
   have e:=e;rcases(al j).1 d with b|b
   ·rw[lN _ _ _ _ b.1] at e;rw[f j b];exact h.old j b e
   ·rw[b,nE] at e;cases e
  inj:=fun i j hi d e=>by
   rcases(al i).1 hi with b|b<;>rcases(al j).1 d with q|q
   ·rw[f i b,f j q] at e;exact h.inj i j b q e
   ·rw[f i b,q,p] at e;exact absurd e (A i b)
   ·rw[f j q,b,p] at e;exact absurd e.symm (A j q)
   ·omega
  f6:=fun v hv=>by
   have s:(v∈Y\/v∈G)\/v=S.s.y:=by
    rcases hv with hv|hv
    ·rcases List.mem_append.1 hv with b|b
     ·exact aK (aK b)
     ·exact aJ (List.mem_singleton.1 b)
    ·exact aK (aJ hv)
   rcases s with s|s
   ·obtain⟨j,d,e⟩:=h.f6 v s;exact⟨j,(al j).2 (aK d),by rw[f j d];exact e⟩
   ·exact⟨W.T.length,(al _).2 (aJ rfl),by rw[p,s]⟩
  hd:=fun j d=>by
   show hc _ _=0/\ld a.N c.y c.g c.ws _=hw _ _;rcases(al j).1 d with b|b
   ·rw[lN _ _ _ _ b.1,f j b,h0 _ (h.mem b)];exact h.hd j b
   ·rw[b,nE,p];exact⟨hk,B⟩
  fd:=fun j d k o=>by
   have o:=o;show ld a.N c.y c.g c.ws _=wv _ _;rcases(al j).1 d with b|b
   ·rw[lN _ _ _ _ b.1] at o⊢;rw[f j b,D _ (h.mem b) k (by rw[(h.parts b).2.1];omega),h.fd j b k o];exact(uZ f (h.fv j b _ (getD_in o))).symm
   ·rw[b,nE] at o⊢;rw[p,C k o];exact(uZ f (w _ (getD_in o))).symm
  rg:=by show S.r=W.rg.map _;rw[h.rg];exact List.map_congr_left (fun e he=>(A7 f (h.gv e he)).symm)
  gv:=fun e he=>x e (h.gv e he)
  wt:=by show S.q=W.wt.map _;rw[h.wt];exact List.map_congr_left (fun e he=>(A7 f (h.dy e he)).symm)
  dy:=fun e he=>x e (h.dy e he)
  tl:=fun j=>by
   show((W.T++[(kd,l,false,false)]).getD j t0).2.1.length<=12;rcases Nat.lt_trichotomy j W.T.length with b|b|b
   ·rw[lN _ _ _ _ b];exact h.tl j
   ·rw[b,nE];have:=iS _ _ hk;show l.length<=12;omega
   ·rw[aE,List.getElem?_eq_none (by simp;omega)];simp[t0]}
end
def fU (P:Nat->Bool)(z:Nat->Nat):Nat->Nat
 |0=>0
 |n+1=>fU P z n+if P n=true then z n else 0
theorem A_ {P:Nat->Bool}{z:Nat->Nat}{m:Nat->Int}{f:Int->Nat}:∀n,(∀i,i<n->P i=true->f (m i)=z i)->fU P z n=f5 f (((List.range n).filter P).map m)
 |0,_=>by simp[fU,f5]
 |n+1,h=>by
  rw[fU,A_ n (fun i hi hp=>h i V hp),List.range_succ,List.filter_append,List.map_append,yU];cases c:P n
  ·simp[c,f5]
  ·simp[c,f5,h n V c]
theorem vd {P:Nat->Bool}{z:Nat->Nat}{m:Nat->Int}{f:Int->Nat}{n:Nat}{l:List Int}(o:∀i,i<n->P i=true->f (m i)=z i)(hn:l.Nodup)(inj:∀i j,i<n->j<n->P i=true->P j=true->m i=m j->i=j)(hl:∀v,v∈l↔∃i,i<n/\P i=true/\m i=v):fU P z n=f5 f l:=by
 rw[A_ n o];have k:∀v,v∈((List.range n).filter P).map m↔v∈l:=fun v=>by
  rw[hl v];simp only [List.mem_map,List.mem_filter,List.mem_range];constructor
  ·rintro⟨i,⟨b,c⟩,d⟩
   exact⟨i,b,c,d⟩
  ·rintro⟨i,b,c,d⟩
   exact⟨i,⟨b,c⟩,d⟩
 have nd:(((List.range n).filter P).map m).Nodup:=by
  unfold List.Nodup;rw[List.pairwise_map];refine List.Pairwise.imp_of_mem (fun {i j} hi g p e=>p ?_) (List.nodup_range.filter _)
  simp only [List.mem_filter,List.mem_range] at hi g;exact inj i j hi.1 g.1 hi.2 g.2 e
 exact Nat.le_antisymm (tZ nd hn (fun v hv=>(k v).1 hv)) (tZ hn nd (fun v hv=>(k v).2 hv))
theorem Ba {P Q:Nat->Bool}{z:Nat->Nat}:∀n,(∀i,i<n->P i=true->Q i=true)->fU P z n<=fU Q z n
 |0,_=>aD _
 |n+1,h=>by
  have b:=Ba (z:=z) n (fun i hi=>h i V)
  rw[fU,fU];by_cases c:P n=true
  ·rw[aI c,aI (h n V c)];omega
  ·rw[aG c];omega
theorem Bb {P Q R:Nat->Bool}{z:Nat->Nat}:∀n,(∀i,i<n->R i=(P i||Q i)/\(P i&&Q i)=false)->fU R z n=fU P z n+fU Q z n
 |0,_=>rfl
 |n+1,h=>by obtain⟨b,c⟩:=h n V;rw[fU,fU,fU,(Bb n (fun i hi=>h i V)),b];cases hp:P n<;>cases hq:Q n<;>simp_all<;>omega
def iI (T:List cD)(i:Nat):Nat:=1+(T.getD i t0).2.1.length
def jo (T:List cD)(i:Nat):Bool:=!(T.getD i t0).2.2.2&&!(T.getD i t0).2.2.1
def oB (T:List cD)(i:Nat):Bool:=!(T.getD i t0).2.2.2&&(T.getD i t0).2.2.1
theorem Bd (T:List cD):∀n,n<=T.length->ec (T.take n)=((fU (jo T) (iI T) n:Int),(fU (oB T) (iI T) n:Int))
 |0,_=>by simp[ec,fU]
 |n+1,h=>by
  rw[gy T n V t0,x1,Bd T n V];show i4 _ _=(((fU (jo T) (iI T) n+if jo T n=true then iI T n else 0:Nat):Int),((fU (oB T) (iI T) n+if oB T n=true then iI T n else 0:Nat):Int))
  unfold i4 jo oB iI;generalize T.getD n t0=t;cases hd:t.2.2.2<;>cases ho:t.2.2.1<;>simp
theorem Be (T:List cD):ec T=((fU (jo T) (iI T) T.length:Int),(fU (oB T) (iI T) T.length:Int)):=by
 have:=Bd T T.length bW
 rwa [bm] at this
theorem vf (T:List cD)(L:List Bool):∀n,iF T L n=(fU (fun i=>L.getD i false) (iI T) n:Int)
 |0=>rfl
 |n+1=>by
  rw[iF,vf T L n,fU];split
  ·simp[iI]
  ·simp
section
variable {a:Wc}{S:cq}{W:ck}{m:Nat->Int}{Y G:List Int}
theorem cy.size (h:cy a S W m Y G){i:Nat}(hi:cv W.T i):kL (ld a.N S.s.y S.s.g S.s.ws) (m i)=iI W.T i:=by unfold kL iI;rw[(h.parts hi).2.1];simp
theorem mG {T:List cD}{i:Nat}(b:i<T.length)(c:(T.getD i t0).2.2.2=false):cv T i:=⟨b,c⟩
theorem cy.us (h:cy a S W m Y G)(hb:cI a S.s):ec W.T=((S.s.y:Int),(S.s.g:Int)):=by
 have l:=hb.y1;have d:fU (jo W.T) (iI W.T) W.T.length=f5 (kL (ld a.N S.s.y S.s.g S.s.ws)) Y:=by
  refine vd (m:=m) (fun i hi hp=>?_) h.kv.inv.full.ty.nodup (fun i j hi b hp hq e=>?_) (fun v=>⟨fun hv=>?_,?_⟩)
  ·unfold jo at hp;simp at hp;exact h.size (mG hi hp.1)
  ·unfold jo at hp hq;simp at hp hq;exact h.inj i j (mG hi hp.1) (mG b hq.1) e
  ·obtain⟨i,hi,e⟩:=h.f6 v (aK hv)
   refine⟨i,hi.1,?_,e⟩
   unfold jo;rw[hi.2];cases c:(W.T.getD i t0).2.2.1
   ·rfl
   ·have f:=h.kv.inv.full.io _ (h.old i hi c)
    have g:=h.kv.inv.full.h_ v hv;omega
  ·rintro⟨i,hi,hp,e⟩
   unfold jo at hp;simp at hp;rw[<-e];exact h.iq i (mG hi hp.1) hp.2
 have k:fU (oB W.T) (iI W.T) W.T.length=f5 (kL (ld a.N S.s.y S.s.g S.s.ws)) G:=by
  refine vd (m:=m) (fun i hi hp=>?_) h.kv.inv.full.dX.nodup (fun i j hi b hp hq e=>?_) (fun v=>⟨fun hv=>?_,?_⟩)
  ·unfold oB at hp;simp at hp;exact h.size (mG hi hp.1)
  ·unfold oB at hp hq;simp at hp hq;exact h.inj i j (mG hi hp.1) (mG b hq.1) e
  ·obtain⟨i,hi,e⟩:=h.f6 v (aJ hv)
   refine⟨i,hi.1,?_,e⟩
   unfold oB;rw[hi.2];cases c:(W.T.getD i t0).2.2.1
   ·have f:=h.kv.inv.full.h_ _ (h.iq i hi c)
    have g:=h.kv.inv.full.io v hv;omega
   ·rfl
  ·rintro⟨i,hi,hp,e⟩
   unfold oB at hp;simp at hp;rw[<-e];exact h.old i (mG hi hp.1) hp.2
 have n:=h.kv.inv.full.ty.sum;have o:=h.kv.inv.full.dX.sum;rw[Be,d,k];exact Prod.ext V V
theorem Kt:ew 0 0=2:=aa
end
theorem cy.start (a:Wc)(n o:Nat):cy a (g_ n o).1 (g_ n o).2 (fun _=>0) [] []:=by
 have no:∀i,¬cv (g_ n o).2.T i:=fun i hi=>absurd hi.1 (Nat.not_lt_zero i)
 have d:∀x∈(g_ n o).1.s.rs,cY x=true->cg x∈([]:List Int)\/cg x∈([]:List Int):=fun x c ha=>by
  have c:x∈tw 2 12:=c;have e:x=2:=by simpa[tw] using c
  rw[e,zy] at ha;cases ha
 exact
 {
  kv:=⟨⟨dU.start,d,fun v hv=>(by rcases hv with b|b<;>cases b)⟩,fun v hv=>(by cases hv)⟩
  rl:=by simp[g_],rv:=fun v hv=>by rw[List.eq_of_mem_replicate hv];exact dM.nil _
  fv:=fun i hi=>absurd hi (no i),rs:=by show tw 2 12=(List.replicate 12 ((0,0):Int×Int)).map (wv fun _=>0);decide
  iq:=fun i hi=>absurd hi (no i),old:=fun i hi=>absurd hi (no i),inj:=fun i _ hi=>absurd hi (no i)
  f6:=fun v hv=>by rcases hv with b|b<;>cases b
  hd:=fun i hi=>absurd hi (no i),fd:=fun i hi=>absurd hi (no i),rg:=rfl,gv:=fun e he=>(by cases he),wt:=rfl,dy:=fun e he=>(by cases he)
  tl:=fun i=>by simp[g_,t0]}
section
variable {a:Wc}{S:cq}{W:ck}{m:Nat->Int}{Y G:List Int}
theorem cy.uW (h:cy a S W m Y G)(c:W.T.length<=10000)(d:W.rg.length<=1000)(b:W.wt.length<=1000):fI W:=
 {
  iv:=⟨fun i hi hk=>by have:=oG _ _ (h.hd i hi).1;omega,fun i hi v hv b=>(h.fv i hi v hv).t b,fun e he=>⟨(h.dy e he).h0,(h.dy e he).h⟩,h.tl⟩
  rv:=fun v hv b=>(h.rv v hv).t b
  gv:=fun e he=>⟨⟨(h.gv e he).g0,(h.gv e he).g⟩,(h.gv e he).h0,(h.gv e he).h⟩
  wg:=fun e he=>⟨(h.dy e he).g0,(h.dy e he).g⟩
  tl:=c,gl:=d,wl:=b}
theorem cy.iv (h:cy a S W m Y G):e4 W.T W.wt:=
 ⟨fun i hi hk=>by have:=oG _ _ (h.hd i hi).1;omega,fun i hi v hv b=>(h.fv i hi v hv).t b,fun e he=>⟨(h.dy e he).h0,(h.dy e he).h⟩,h.tl⟩
theorem cy.first (h:cy a S W m Y G)(mj:Bool):gE W.T (jY W.T W.rs mj):=
 ⟨z8 _ _ _,fun k hk=>by
  obtain⟨c,b⟩:=(kw _ _ _ _).1 hk;rcases b with⟨_,b,_⟩|⟨v,hv,d,e⟩
  ·exact⟨c,b⟩
  ·rw[<-e];exact((h.rv v hv).t d).2⟩
theorem cy.field (h:cy a S W m Y G){i:Nat}(hi:cv W.T i){v:Int×Int}(hv:v∈(W.T.getD i t0).2.1):∃k:Nat,k<(W.T.getD i t0).2.1.length/\(W.T.getD i t0).2.1.getD k (0,0)=v/\ld a.N S.s.y S.s.g S.s.ws (m i+1+k)=wv m v:=by
 obtain⟨k,hk,e⟩:=List.mem_iff_getElem.1 hv;have b:(W.T.getD i t0).2.1.getD k (0,0)=v:=by rw[aE,aL hk,e];rfl
 exact⟨k,hk,b,by rw[h.fd i hi k hk,b]⟩
theorem cy.two (h:cy a S W m Y G){i:Nat}(hi:cv W.T i)(hk:(W.T.getD i t0).1=1\/(W.T.getD i t0).1=3\/(W.T.getD i t0).1=4):(W.T.getD i t0).2.1.length=2:=by have:=oG _ _ (h.hd i hi).1;omega
end
structure kV (k:ce)(z:C0)(C:Int->Prop):Prop where
 old:∀b∈z.G,C b
 p:∀c,(c∈k.T\/c∈z.G)->C c->pk (k.l0 z c)=1\/pk (k.l0 z c)=2->∀i:Nat,(i:Int)<pf (k.l0 z c)->k.cK (k.l0 z (c+1+i))=true->C (cg (k.l0 z (c+1+i)))
 w:∀c,(c∈k.T\/c∈z.G)->C c->pk (k.l0 z c)=3->k.cK (k.l0 z (c+1+1))=true->C (cg (k.l0 z (c+1+1)))
 e:∀c,(c∈k.T\/c∈z.G)->C c->pk (k.l0 z c)=4->(k.cK (k.l0 z (c+1+0))=true->C (cg (k.l0 z (c+1+0))))->k.cK (k.l0 z (c+1+1))=true->C (cg (k.l0 z (c+1+1)))
def kW (k:ce)(C:Int->Prop)(q:List b7):Prop:=∀e∈q,(k.cK e.1=true->C (cg e.1))->k.cK e.2=true->C (cg e.2)
def c9 (k:ce)(C:Int->Prop)(s:cj):Prop:=∀a∈k.T,s.f a≠-1->C a
section
variable {k:ce}{z:C0}{s t:cj}{H D:List Int}{C:Int->Prop}
theorem nG {x:Int}(h:k.cK x=true):cg x∈k.T:=by unfold ce.cK at h;simp at h;exact h.2
theorem mH {x:Int}(h:k.ls s x=true):k.cK x=true:=by unfold ce.ls at h;rw[a_] at h;exact h.1
theorem c9.br (h:c9 k C s)(x:Int)(f:k.cK x=true->C (cg x)):c9 k C (k.br s x).2:=by
 unfold ce.br;split
 ·rename_i c;intro b hb d;by_cases e:b=cg x
  ·rw[e];exact f (mH c)
  ·refine h b hb ?_;have g:(k.cp s (cg x)).f b=s.f b:=by unfold ce.cp gA;dsimp only;rw[aG e]
   have d:=d;rw[g] at d;exact d
 ·exact h
theorem dE.rL (h:dE k z s H){a b i:Int}(ho:k.or z s a b)(c:0<=i)(d:i<pf (k.l0 z a))(hl:k.cK (k.ld s (b+1+i))=true):k.ld s (b+1+i)=k.l0 z (a+1+i):=by
 rcases h.fd a b ho i c d with e|⟨y1,f,g⟩
 ·exact e
 ·have hb:=h.i6 (h.fh _ (nG y1) f)
  have n1:=h.ci.hN';have j:=h.ci.hO;have l:=h.ci.hg;rw[g,nf h.ci hb.1 V] at hl;cases hl
theorem c9.kf (h:c9 k C s)(mi:dE k z s H){a b i:Int}(ho:k.or z s a b)(c:0<=i)(d:i<pf (k.l0 z a))(f:k.cK (k.l0 z (a+1+i))=true->C (cg (k.l0 z (a+1+i)))):c9 k C (k.kf s (b+1+i)):=
 h.br _ (fun hy=>by have e:=mi.rL ho c d hy;rw[e] at hy;rw[e];exact f hy)
theorem c9.fV (h:c9 k C s)(mi:dE k z s H){a b:Int}(ho:k.or z s a b)(c:∀i:Nat,(i:Int)<pf (k.l0 z a)->k.cK (k.l0 z (a+1+i))=true->C (cg (k.l0 z (a+1+i)))):∀n:Nat,(n:Int)<=pf (k.l0 z a)->c9 k C (k.fV s b n)
 |0,_=>h
 |n+1,hn=>by obtain⟨e,m1,d,_⟩:=mi.fV ho n V;exact(c9.fV h mi ho c n V).kf m1 (d.or ho) V V (c n V)
theorem vg {a b:Int}(ho:k.or z s a b):a∈k.T\/a∈z.G:=by
 rcases ho with⟨e,h⟩|⟨h,_⟩
 ·rw[e];exact aJ h
 ·exact aK h
theorem c9.or (h:c9 k C s)(d:kV k z C){a b:Int}(ho:k.or z s a b):C a:=by
 rcases ho with⟨e,c⟩|⟨c,f,g⟩
 ·rw[e];exact d.old b c
 ·exact h a c (by rw[f];exact g)
theorem c9.lk (h:c9 k C s)(mi:dE k z s H)(d:kV k z C){a b:Int}(ho:k.or z s a b):c9 k C (k.lk s b):=by
 have ha:=h.or d ho;have hm:=vg ho;have c:=mi.hd a b ho;have hb:=mi.bd (mi.mem ho)
 have l:=dj (k.ld s b)
 unfold ce.lk;by_cases c1:pk (k.ld s b)=1\/pk (k.ld s b)=2
 ·rw[aI c1];exact h.fV mi ho (d.p a hm ha (by rw[<-c];exact c1)) _ (by rw[<-c];omega)
 ·rw[aG c1];by_cases c3:pk (k.ld s b)=3
  ·rw[aI c3];have m:=il hb.2.2 (aJ (aK c3))
   have hN:=mi.ci.hN';have hO:=mi.ci.hO;have hg:=mi.ci.hg;have g:=mi.turn (s.wk++[b]) s.ep s.rs s.nx (fun x i=>by
    rcases List.mem_append.1 i with e|e
    ·exact mi.ci.iA x e
    ·rw[bw] at e;omega) mi.ci.ia mi.ci.g9 mi.ci.jv
   have j:c9 k C {s with wk:=s.wk++[b],ep:=s.ep,rs:=s.rs,nx:=s.nx}:=h;have f:=j.kf g ho V (by rw[<-c];omega) (d.w a hm ha (by rw[<-c];exact c3))
   have ea:b+1+1=b+2:=V;rw[ea] at f;exact f
  ·rw[aG c3];split
   ·exact h
   ·exact h
theorem c9.lb (b:kV k z C):∀(n:Nat){s:cj}{H:List Int},LI k z s H D->c9 k C s->c9 k C (k.lb n s)
 |0,_,_,_,h=>h
 |n+1,s,H,l,h=>by
  unfold ce.lb;cases hn:hB k.N s.g s.nx
  ·rw[aG Z];exact h
  ·have hb:=js hn;obtain⟨a,ho⟩:=l.mi.from (a9 z.G (l.bo.resolve_right V))
   obtain⟨c,m1,_,_⟩:=l.kI hn;exact c9.lb b n m1 (h.lk l.mi b ho)
theorem c9.key (h:c9 k C s)(mi:dE k z s H){a b:Int}(ho:k.or z s a b)(c:0<pf (k.l0 z a))(hl:k.ls s (k.ld s (b+1))=false)(hy:k.cK (k.l0 z (a+1+0))=true):C (cg (k.l0 z (a+1+0))):=by
 refine h _ (nG hy) ?_;have d:b+1+0=b+1:=V;rcases mi.fd a b ho 0 V c with e|⟨y1,f,_⟩
 ·rw[d] at e;intro g;unfold ce.ls at hl;rw[e,hy,g] at hl;simp at hl
 ·exact f
theorem c9.qK (h:c9 k C s)(l:LI k z s H D)(d:kV k z C){b:Int}(hb:b∈z.G++H)(e:pk (k.ld s b)=4)(f:k.ls s (k.ld s (b+1))=false):c9 k C (k.kf (k.kf s (b+1)) (b+2)):=by
 obtain⟨a,o⟩:=l.mi.from hb;have p:=il (l.mi.bd hb).2.2 (aJ (aJ e))
 have c:=l.mi.hd a b o;have j:b+1+0=b+1:=V;have m:b+1+1=b+2:=V;obtain⟨q,m1,n,_,_⟩:=l.mi.kf (i:=0) o V (by rw[<-c];omega)
 have g:=(h.kf l.mi o V (by rw[<-c];omega) (h.key l.mi o (by rw[<-c];omega) f)).kf m1 (n.or o) V (by rw[<-c];omega) (d.e a (vg o) (h.or d o) (by rw[<-c];exact e) (h.key l.mi o (by rw[<-c];omega) f))
 rw[j,m] at g;exact g
theorem c9.iD (c:kV k z C):∀(l left:List Int){s:cj}{H:List Int},LI k z s H D->(∀a∈l,a∈z.G++H/\pk (k.ld s a)=4)->c9 k C s->c9 k C (l.foldl k.cP (left,s)).2
 |[],_,_,_,_,_,h=>h
 |b::l,left,s,H,li,hl,h=>by
  rw[a8];cases hls:k.ls s _
  ·have d:k.cP (left,s) b=(left,k.kf (k.kf s (b+1)) (b+2)):=by unfold ce.cP;rw[aG (by rw[hls];simp)]
   rw[d];obtain⟨e,f⟩:=hl b Z;obtain⟨m,m1,g,i,n,o⟩:=li.qK e f;exact c9.iD c l left m1 (fun a ha=>by
    obtain⟨n1,j⟩:=hl a (aN _ ha)
    exact⟨kN i n1,by rw[g.hd li.mi m1.mi n1];exact j⟩) (h.qK li c e f hls)
  ·have d:k.cP (left,s) b=(left++[b],s):=by unfold ce.cP;rw[aI hls]
   rw[d];exact c9.iD c l _ li (fun a ha=>hl a (aN _ ha)) h
theorem c9.kv (b:kV k z C)(l:LI k z s H D)(w:dL k z s H)(h:c9 k C s):c9 k C (k.kv s).2:=c9.iD b s.ep [] l w.ep h
theorem c9.kq:∀(l:List Nat)(t:(cj×List b7)×Bool)(H:List Int),LI k z t.1.1 H D->dL k z t.1.1 H->(∀i∈l,i<t.1.2.length)->kW k C t.1.2->c9 k C t.1.1->c9 k C (l.foldl (dC k.al k.br) t).1.1/\kW k C (l.foldl (dC k.al k.br) t).1.2
 |[],_,_,_,_,_,q,h=>⟨h,q⟩
 |i::l,t,H,li,w,hl,q,h=>by
  rw[a8];by_cases c:(k.al t.1.1 (t.1.2.getD i (0,0)).2||!k.al t.1.1 (t.1.2.getD i (0,0)).1)=true
  ·have b:dC k.al k.br t i=t:=by unfold dC;rw[aI c]
   rw[b];exact c9.kq l t H li w (fun j e=>hl j (aN _ e)) q h
  ·have b:dC k.al k.br t i=(((k.br t.1.1 (t.1.2.getD i (0,0)).2).2,t.1.2.set i ((t.1.2.getD i (0,0)).1,(k.br t.1.1 (t.1.2.getD i (0,0)).2).1)),true):=by unfold dC;rw[aG c]
   obtain⟨f,l1,w1,g,_⟩:=cX.br _ H li w;obtain⟨_,_,_,y1,_,_,_⟩:=li.mi.br _;have c2:k.al t.1.1 (t.1.2.getD i (0,0)).1=true:=by
    cases d:k.al t.1.1 _
    ·rw[d] at c;simp at c
    ·rfl
   have hg:k.cK (t.1.2.getD i (0,0)).1=true->_:=fun hy=>h _ (nG hy) (fun d=>by unfold ce.al ce.ls at c2;rw[hy,d] at c2;simp at c2)
   rw[b];refine c9.kq l _ f l1 w1 (fun j e=>?_) ?_ (h.br _ (q _ (getD_in (hl i Z)) hg))
   ·show j<(t.1.2.set i _).length;rw[a3];exact hl j (aN _ e)
   ·intro d hd;have hd:=hd;rcases List.mem_or_eq_of_mem_set hd with hd|rfl
    ·exact q d hd
    ·intro _ hy;rw[y1] at hy;cases hy
theorem c9.wa {t:cj×List b7}(l:LI k z t.1 H D)(w:dL k z t.1 H)(q:kW k C t.2)(h:c9 k C t.1):c9 k C (k.wa t).1.1/\kW k C (k.wa t).1.2:=
 c9.kq _ (t,false) H l w (fun _ hi=>List.mem_range.1 hi) q h
theorem c9.cW (b:kV k z C):∀(n:Nat)(t:cj×List b7)(H:List Int),LI k z t.1 H D->dL k z t.1 H->kW k C t.2->c9 k C t.1->c9 k C (k.cW n t).1/\kW k C (k.cW n t).2
 |0,_,_,_,_,q,h=>⟨h,q⟩
 |n+1,t,H,l,w,q,h=>by
  obtain⟨g,l1,w1,o,_⟩:=cX.lb (k.O+1) H l w;obtain⟨d,l2,c,p,_⟩:=cX.kv g l1 w1;have e:=c9.kv b l1 w1 (c9.lb b (k.O+1) l h)
  obtain⟨i,j,m,_,_⟩:=cX.wa ((k.kv _).2,t.2) d l2 c;obtain⟨f,q3⟩:=c9.wa (t:=((k.kv _).2,t.2)) l2 c q e;unfold ce.cW;split
  ·exact c9.cW b n ((k.kv _).2,t.2) d l2 c q e
  ·split
   ·exact c9.cW b n _ i j m q3 f
   ·exact⟨f,q3⟩
theorem c9.ke (b:kV k z C){t:cj×List b7}(l:LI k z t.1 H D)(w:dL k z t.1 H)(q:kW k C t.2)(h:c9 k C t.1)(x:Int)(c:k.cK x=true->C (cg x)):c9 k C (k.ke t x).2.1/\kW k C (k.ke t x).2.2:=by obtain⟨d,l1,w1,_,_⟩:=cX.br x H l w;exact c9.cW b _ ((k.br t.1 x).2,t.2) d l1 w1 q (h.br x c)
theorem c9.cJ (l:LI k z s H D)(h:c9 k C s)(hr:∀i,i<s.rs.length->k.cK (s.rs.getD i 0)=true->C (cg (s.rs.getD i 0))):∀n,n<=s.rs.length->c9 k C (k.cJ s n)
 |0,_=>h
 |n+1,hn=>by
  obtain⟨_,_,_,_,_,_,b,_⟩:=LI.cJ l n V;have:=(c9.cJ l h hr n V).br ((k.cJ s n).rs.getD n 0) (by rw[(b n bW)];exact hr n V)
  exact this
theorem c9.lm (d:kV k z C)(c:Int)(M:List Int)(hz:d6 (k.l0 z) ((k.N:Int)+z.g) k.N z.G):∀(l:List Int){s:cj}{H D:List Int},LI k z s H D->(∀a∈l,a∈z.G\/(k.N:Int)+z.g<=a)->c9 k C s->c9 k C (l.foldl (k.gm ((k.N:Int)+z.g) c M) s)
 |[],_,_,_,_,_,h=>h
 |b::l,s,H,D,li,hl,h=>by
  rw[a8];have g:=dj (k.ld s b)
  by_cases jA:b∈z.G/\(f3 k.N c b&&M.contains (cN k.N b))=true
  ·have hb:=(hz.mem b jA.1).2.1;have f:k.gm ((k.N:Int)+z.g) c M s b=k.lk s b:=by unfold ce.gm;rw[aI (by rw[(li.mi.hd b b (aK ⟨rfl,jA.1⟩))];omega),aI jA.2]
   rw[f];obtain⟨i,m1,j,⟨m,n⟩⟩:=li.lk jA.1;exact c9.lm d c M hz l m1 (fun a ha=>hl a (aN _ ha)) (h.lk li.mi d (aK ⟨rfl,jA.1⟩))
  ·have f:k.gm ((k.N:Int)+z.g) c M s b=s:=by exact zl
   rw[f];exact c9.lm d c M hz l li (fun a ha=>hl a (aN _ ha)) h
end
section
variable {k:ce}{z:C0}{s t:cj}{H D:List Int}
theorem Bf (k:ce):∀(l left:List Int)(s:cj),left.length+l.length<=(l.foldl k.cP (left,s)).1.length->l.foldl k.cP (left,s)=(left++l,s)/\∀a∈l,k.ls s (k.ld s (a+1))=true
 |[],left,s,_=>⟨Z,fun a ha=>by cases ha⟩
 |b::l,left,s,h=>by
  rw[a8] at h⊢;cases hls:k.ls s _
  ·have c:k.cP (left,s) b=(left,k.kf (k.kf s (b+1)) (b+2)):=by unfold ce.cP;rw[aG (by rw[hls];simp)]
   rw[c] at h;have g:=(qL k l left (k.kf (k.kf s (b+1)) (b+2))).1;rw[bz] at h;omega
  ·have c:k.cP (left,s) b=(left++[b],s):=by unfold ce.cP;rw[aI hls]
   rw[c] at h⊢;obtain⟨e,f⟩:=Bf k l (left++[b]) s (by rw[aZ,List.length_singleton];rw[bz] at h;omega)
   refine⟨by rw[e];simp,fun a ha=>?_⟩
   rcases List.mem_cons.1 ha with d|d
   ·rw[d];exact hls
   ·exact f a d
theorem Ku (h:(k.kv s).1=false):(k.kv s).2=s/\∀a∈s.ep,k.ls s (k.ld s (a+1))=true:=by
 unfold ce.kv ce.dv at h⊢;obtain⟨b,c⟩:=Bf k s.ep [] s (by have:=of_decide_eq_false h;simp only [List.length_nil,Nat.zero_add];omega)
 rw[b];exact⟨rfl,c⟩
theorem vh:∀(n:Nat)(t:cj×List b7)(H:List Int),LI k z t.1 H D->dL k z t.1 H->ef k t.1->k.mu t.1<n->∀b∈(k.cW n t).1.ep,k.ls (k.cW n t).1 (k.ld (k.cW n t).1 (b+1))=true
 |0,t,H,_,_,_,e=>absurd e V
 |n+1,t,H,h,w,hb,e=>by
  obtain⟨u,l1,w1,_,_,v⟩:=LI.oj (k.O+1) h w;obtain⟨c1,c2,c3⟩:=CI.lb h.mi.ci hb (k.O+1)
  obtain⟨i,c,x,j⟩:=CI.kv c1 c2;obtain⟨d,l2,f,_,_⟩:=l1.kv w1;unfold ce.cW;cases hk:(k.kv _).1
  ·obtain⟨g1,g2⟩:=Ku hk;obtain⟨A,l,B,C,m⟩:=CI.wa (s:=((k.kv _).2,t.2)) i c;cases hw:(k.wa ((k.kv _).2,t.2)).2
   ·rw[aG Z,t6 k _ hw];rw[g1];exact g2
   ·obtain⟨o,p,q,_,_⟩:=cX.wa ((k.kv _).2,t.2) d l2 f;have g:=m hw;dsimp only at g;exact vh n _ o p q l V
  ·rw[aI rfl];have g:=j hk;exact vh n ((k.kv _).2,t.2) d l2 f c (by dsimp only;omega)
structure fi (k:ce)(s:cj)(q0 q:List b7):Prop where
 len:q.length=q0.length
 eq:∀n,n<q0.length->(q.getD n (0,0)).1=(q0.getD n (0,0)).1/\k.ml s (q0.getD n (0,0)).2 (q.getD n (0,0)).2
theorem fi.refl (s:cj)(q:List b7):fi k s q q:=⟨rfl,fun _ _=>⟨rfl,aK rfl⟩⟩
theorem fi.iX {q0 q:List b7}(h:fi k s q0 q)(p:dh k s t):fi k t q0 q:=⟨h.len,fun n hn=>⟨(h.eq n hn).1,p.ml (h.eq n hn).2⟩⟩
theorem fi.snoc {q0 q:List b7}(h:fi k s q0 q){e b:b7}(d:b.1=e.1)(f:k.ml s e.2 b.2):fi k s (q0++[e]) (q++[b]):=by
 refine⟨by simp[h.len],fun n hn=>?_⟩
 rw[aZ,List.length_singleton] at hn;by_cases c:n<q0.length
 ·rw[lN _ _ _ _ c,lN _ _ _ _ (by rw[h.len];exact c)];exact h.eq n c
 ·have en:n=q0.length:=V;subst en;rw[nE,<-h.len,nE];exact⟨d,f⟩
theorem fi.kO {q0:List b7}:∀(l:List Nat)(t:(cj×List b7)×Bool)(H:List Int),LI k z t.1.1 H D->dL k z t.1.1 H->(∀i∈l,i<t.1.2.length)->fi k t.1.1 q0 t.1.2->fi k (l.foldl (dC k.al k.br) t).1.1 q0 (l.foldl (dC k.al k.br) t).1.2
 |[],_,_,_,_,_,e=>e
 |i::l,t,H,h,w,hl,e=>by
  rw[a8];by_cases c:(k.al t.1.1 (t.1.2.getD i (0,0)).2||!k.al t.1.1 (t.1.2.getD i (0,0)).1)=true
  ·have b:dC k.al k.br t i=t:=by unfold dC;rw[aI c]
   rw[b];exact fi.kO l t H h w (fun j d=>hl j (aN _ d)) e
  ·have b:dC k.al k.br t i=(((k.br t.1.1 (t.1.2.getD i (0,0)).2).2,t.1.2.set i ((t.1.2.getD i (0,0)).1,(k.br t.1.1 (t.1.2.getD i (0,0)).2).1)),true):=by unfold dC;rw[aG c]
   obtain⟨f,l1,w1,g,_⟩:=cX.br _ H h w;obtain⟨_,_,_,_,_,m1,_⟩:=h.mi.br _;rw[b];refine fi.kO l _ f l1 w1 (fun j d=>?_) ⟨?_,fun n hn=>?_⟩
   ·show j<(t.1.2.set i _).length;rw[a3];exact hl j (aN _ d)
   ·show(t.1.2.set i _).length=_;rw[a3];exact e.len
   ·rw[pP _ _ _ _ _ (hl i Z)];by_cases en:i=n
    ·rw[aI en];subst en;exact⟨(e.eq i hn).1,m1 _ (e.eq i hn).2⟩
    ·rw[aG en];exact⟨(e.eq n hn).1,g.ml (e.eq n hn).2⟩
theorem fi.wa {q0:List b7}{t:cj×List b7}(h:LI k z t.1 H D)(w:dL k z t.1 H)(e:fi k t.1 q0 t.2):fi k (k.wa t).1.1 q0 (k.wa t).1.2:=
 fi.kO _ (t,false) H h w (fun _ hi=>List.mem_range.1 hi) e
theorem fi.cW {q0:List b7}:∀(n:Nat)(t:cj×List b7)(H:List Int),LI k z t.1 H D->dL k z t.1 H->fi k t.1 q0 t.2->fi k (k.cW n t).1 q0 (k.cW n t).2
 |0,_,_,_,_,e=>e
 |n+1,t,H,h,w,e=>by
  obtain⟨g,l1,w1,i,_⟩:=cX.lb (k.O+1) H h w;obtain⟨c,l2,b,j,_⟩:=cX.kv g l1 w1;have d:=e.iX (i.trans j)
  obtain⟨l,m,o,_,_⟩:=cX.wa ((k.kv _).2,t.2) c l2 b;have f:=fi.wa (t:=((k.kv _).2,t.2)) l2 b d;unfold ce.cW;split
  ·exact fi.cW n ((k.kv _).2,t.2) c l2 b d
  ·split
   ·exact fi.cW n _ l m o f
   ·exact f
structure kX (k:ce)(z:C0)(D:List Int)(q0:List b7)(t:cj×List b7):Prop where
 li:∃H,LI k z t.1 H D/\dL k z t.1 H
 cb:ef k t.1
 wq:uf k t.1 t.2
 he:hB k.N t.1.g t.1.nx=false
 ep:∀b∈t.1.ep,k.ls t.1 (k.ld t.1 (b+1))=true
 q:fi k t.1 q0 t.2
theorem kX.sp {q0:List b7}{t:cj×List b7}(h:LI k z t.1 H D)(w:dL k z t.1 H)(hb:ef k t.1)(e:fi k t.1 q0 t.2):kX k z D q0 (k.sp t)/\dh k t.1 (k.sp t).1:=by obtain⟨K,m1,b,c,_⟩:=cX.sp t H h w;exact⟨⟨⟨K,m1,b⟩,(px _ t h.mi.ci hb).2,qW _ t H h w hb V,qM _ t H h w hb V,vh _ t H h w hb V,fi.cW _ t H h w e⟩,c⟩
theorem kX.ke {q0:List b7}{t:cj×List b7}(h:kX k z D q0 t)(x:Int):kX k z D q0 (k.ke t x).2/\dh k t.1 (k.ke t x).2.1/\(∀b,k.ml t.1 b x->k.ml (k.ke t x).2.1 b (k.ke t x).1)/\k.cK (k.ke t x).1=false/\k.al (k.ke t x).2.1 x=true:=by
 obtain⟨H,l,w⟩:=h.li;obtain⟨n,l1,w1,e,_⟩:=cX.br x H l w;obtain⟨_,_,_,y1,_,m1,g,_⟩:=l.mi.br x;obtain⟨_,i,j,f⟩:=l9 k t.1 x;have hb:ef k (k.br t.1 x).2:=⟨by rw[i,f];exact h.cb.wk,by rw[j,f];exact h.cb.ep⟩
 obtain⟨m,d⟩:=kX.sp (t:=((k.br t.1 x).2,t.2)) l1 w1 hb (h.q.iX e)
 refine⟨m,e.trans d,fun b hm=>d.ml (m1 b hm),y1,pC d ?_⟩
 unfold ce.al ce.ls;cases c:k.cK x
 ·rfl
 ·simpa using g c
end
end Go.Proofs.YtpkjkjhanlbcoaaGreat
