import Derived.Test.YtpkjkjhanlbcoaaGreatJ41
namespace Go.Proofs.YtpkjkjhanlbcoaaGreat
set_option maxRecDepth 100000
set_option maxHeartbeats 8000000
open Tryz
open Go.RowKit W Kp cf
theorem uL {P:Prop}(h:P:=by go_wp2_with fail;refine fin _ ?_;intro w1 hb;obtain⟨c0,c1,hz⟩:=vL hb;obtain⟨_,hf⟩:=nJ hb;have f0:=hf w.heap.size 0 Z;have f1:=hf w.heap.size 1 Z;simp[go_sem] at f0 f1;go_wp2;exact a3 (v:=.agg #[ah 1,ah (-1)]) (by simp[results,results14,go_sem,c0,c1]) rfl ⟨rfl,(((bX.alloc bW _).trans (hb.mono Z)).setCell bW _).setCell bW _⟩):P:=h
def mE (T:List cD)(e:b7):Prop:=(0<=e.1/\cv T e.1.toNat)/\(T.getD e.1.toNat t0).1=5/\0<=e.2/\cv T e.2.toNat
structure d3 (s:ck)(j:Nat):Prop where
 kd:∀i,cv s.T i->1<=(s.T.getD i t0).1/\(s.T.getD i t0).1<=5
 fl:∀i,cv s.T i->(s.T.getD i t0).1=3\/(s.T.getD i t0).1=4->(s.T.getD i t0).2.1.length=2
 g5:∀i,cv s.T i->(s.T.getD i t0).1=5->(s.T.getD i t0).2.1=[]
 fv:∀i,cv s.T i->∀v∈(s.T.getD i t0).2.1,eZ s.T v
 tl:∀i,(s.T.getD i t0).2.1.length<=12
 rv:∀v∈s.rs,eZ s.T v
 rl:s.rs.length=12
 gv:∀e∈s.rg,mE s.T e
 wv:∀e∈s.wt,mE s.T e
 en:s.rg.length+s.wt.length<=24
 tj:s.T.length<=j
theorem d3.more {s:ck}{j k:Nat}(h:d3 s j)(hk:j<=k):d3 s k:={h with tj:=aT h.tj hk}
theorem d3.iv {s:ck}{j:Nat}(h:d3 s j):e4 s.T s.wt:=⟨h.fl,fun i hi v hv=>(h.fv i hi v hv).2,fun e he=>(h.wv e he).2.2,h.tl⟩
theorem d3.uM {s:ck}{j:Nat}(h:d3 s j)(b:j<=10000):fH s:=
 ⟨h.iv,fun v hv=>(h.rv v hv).2,fun e he=>⟨(h.gv e he).1,(h.gv e he).2.2⟩,fun e he=>(h.wv e he).1,aT h.tj b,by have:=h.en;omega,by have:=h.en;omega⟩
theorem d3.AO {s:ck}{j:Nat}(h:d3 s j)(b:j<=10000):nn s.T s.wt:=
 ⟨h.fv,fun e he=>⟨(h.wv e he).1.1,(h.wv e he).2.2⟩,h.tl,aT h.tj b,by have:=h.en;omega⟩
theorem eZ.mono {T c:List cD}{v:Int×Int}(h:eZ T v)(hm:v.1=3->cv T v.2.toNat->cv c v.2.toNat):eZ c v:=⟨h.1,fun b=>⟨(h.2 b).1,hm b (h.2 b).2⟩⟩
theorem kT (T:List cD):eZ T (0,0):=⟨aa,fun h=>by cases h⟩
theorem AP (T:List cD):eZ T (2,0):=⟨aa,fun h=>by cases h⟩
theorem d3.rt {s:ck}{j:Nat}(h:d3 s j)(i:Nat):eZ s.T (s.rs.getD i (0,0)):=by
 by_cases c:i<s.rs.length
 ·exact h.rv _ (getD_in c)
 ·rw[aE,List.getElem?_eq_none V];exact kT _
theorem d3.cut {s:ck}{j:Nat}(h:d3 s j)(w:j<=10000){g:List Bool->List Bool}(hg:dR s.T s.wt g)(bZ:Int)(mj:Bool):d3 (s.cut g bZ mj) j:=by
 unfold ck.cut;split
 ·exact h
 have hw:=h.uM w;have d:=JX hw hg mj;have hl:=JY s g mj;generalize F:(s.cR g mj).1=L at*;generalize G:(s.cR g mj).2.1=C at*;have m:=J3 d.ok;have gt:∀i,ct L i->(f6 L s.T s.T.length).getD i t0=fz L i (s.T.getD i t0):=fun i hi=>by rw[uK,aI (d.ok.al i hi).1]
 have tr:∀v,eZ s.T v->(v.1=3->ct L v.2.toNat)->_:=fun v hv hi=>hv.mono (fun b _=>(m _).2 (hi b))
 have ev:∀e,mE s.T e->ct L e.1.toNat->ct L e.2.toNat->mE (f6 L s.T s.T.length) e:=fun e he f k=>⟨⟨he.1.1,(m _).2 f⟩,by rw[gt _ f,rC];exact he.2.1,he.2.2.1,(m _).2 k⟩
 refine {kd:=fun i hi=>?_,fl:=fun i hi hk=>?_,g5:=fun i hi hk=>?_,fv:=fun i hi v hv=>?_,tl:=fun i=>?_,rv:=fun v hv=>?_,rl:=h.rl,gv:=fun e he=>?_,wv:=fun e he=>?_,en:=?_,tj:=?_}
 ·have hi:=(m i).1 hi;rw[gt i hi,rC];exact h.kd i (d.ok.al i hi)
 ·have hi:=(m i).1 hi;rw[gt i hi,rC] at hk;rw[gt i hi];have k:=h.fl i (d.ok.al i hi) hk;rcases rD (L:=L) hi with⟨_,_,e⟩|⟨_,_,e⟩|⟨_,e⟩<;>rw[e]
  ·rfl
  ·rfl
  ·exact k
 ·have hi:=(m i).1 hi;rw[gt i hi,rC] at hk;rw[gt i hi];rcases rD (t:=s.T.getD i t0) hi with⟨A,_,_⟩|⟨A,_,_⟩|⟨_,e⟩
  ·omega
  ·omega
  ·rw[e];exact h.g5 i (d.ok.al i hi) hk
 ·have hi:=(m i).1 hi;have ha:=d.ok.al i hi;rw[gt i hi] at hv;have cl:∀v,jC s.T s.wt (ct L) i v->v.1=3->_:=fun v hk b=>d.cl i ha.1 hi v hk b;rcases rD (L:=L) hi with⟨_,_,e⟩|⟨u,_,e⟩|⟨B,e⟩
  ·rw[e] at hv;have:v=(2,0):=by simpa using hv
   rw[this];exact AP _
  ·rw[e] at hv;have:v=(2,0)\/v=(s.T.getD i t0).2.1.getD 1 (0,0):=by simpa using hv
   rcases this with rfl|rfl
   ·exact AP _
   ·exact tr _ (h.fv i ha _ (getD_in (by rw[h.fl i ha (aK u)];decide))) (fun b=>cl _ (aJ (aK ⟨u,rfl⟩)) b)
  ·rw[e] at hv;refine tr v (h.fv i ha v hv) (fun b=>?_)
   have hk:=h.kd i ha;by_cases D:(s.T.getD i t0).1=1\/(s.T.getD i t0).1=2
   ·exact cl v (aK ⟨D,hv⟩) b
   ·by_cases c5:(s.T.getD i t0).1=5
    ·rw[h.g5 i ha c5] at hv;cases hv
    ·have o:(s.T.getD i t0).1=3\/(s.T.getD i t0).1=4:=V;have h0:=ng (B o)
     have k:=h.fl i ha o;obtain⟨q,hq,eq⟩:=List.mem_iff_getElem.1 hv;have n:(s.T.getD i t0).2.1.getD q (0,0)=v:=by rw[aE,aL V,eq];rfl
     match q,hq,n with
     |0,_,n=>
      rw[n] at h0;exact h0 b
     |1,_,n=>
      rcases o with c|c
      ·exact cl v (aJ (aK ⟨c,n.symm⟩)) b
      ·exact cl v (aJ (aJ (aK ⟨c,h0,n.symm⟩))) b
     |q+2,hq,_=>omega
 ·rw[uK];split
  ·cases c:L.getD i false
   ·rw[AN c];simp
   ·rcases rD (L:=L) c with⟨_,_,e⟩|⟨_,_,e⟩|⟨_,e⟩<;>rw[e]
    ·simp
    ·simp
    ·exact h.tl i
  ·simp[t0]
 ·exact tr v (h.rv v hv) (fun b=>d.up _ (JZ hw hg mj hv b))
 ·obtain⟨f,k⟩:=List.mem_filter.1 he;rw[a_] at k;exact ev e (h.gv e f) k.2 (d.up _ k.1)
 ·obtain⟨f,k⟩:=List.mem_filter.1 he;rcases List.mem_append.1 f with f|f
  ·have hv:=h.wv e f;exact ev e hv k (d.cl e.1.toNat hv.1.2.1 k (3,e.2) (aJ (aJ (aJ ⟨hv.2.1,e,f,by have:=hv.1.1;omega,rfl⟩))) rfl)
  ·obtain⟨q1,E,q3⟩:=d.cC e f;exact ev e (h.gv e q1) E q3
 ·dsimp only;have l1:(s.rg.filter (fun e=>cL (s.c0 g mj) e.2&&cL L e.1)).length+(s.rg.filter (fun e=>!cL (s.c0 g mj) e.2)).length<=s.rg.length:=by
   have key:∀l:List b7,(l.filter (fun e=>cL (s.c0 g mj) e.2&&cL L e.1)).length+(l.filter (fun e=>!cL (s.c0 g mj) e.2)).length<=l.length:=fun l=>by
    induction l with
    |nil=>simp
    |cons x l H=>
     cases c:cL (s.c0 g mj) x.2
     ·rw[List.filter_cons_of_neg (by rw[c];simp),List.filter_cons_of_pos (by rw[c];rfl)];simp only [List.length_cons];omega
     ·rw[List.filter_cons_of_neg (p:=fun e:b7=>!cL (s.c0 g mj) e.2) (by rw[c];simp)];have:(List.filter (fun e:b7=>cL (s.c0 g mj) e.2&&cL L e.1) (x::l)).length<=(List.filter (fun e:b7=>cL (s.c0 g mj) e.2&&cL L e.1) l).length+1:=by
       rw[List.filter_cons];split
       ·simp
       ·omega
      simp only [List.length_cons];omega
   exact key s.rg
  have l2:=bm (fun e:b7=>cL L e.1) (s.wt++C)
  rw[aX] at l2;have:=h.en;omega
 ·rw[jD];exact h.tj
theorem rE (T:List cD)(t:cD)(i:Nat):(T++[t]).getD i t0=if i=T.length then t else T.getD i t0:=by exact Ar
theorem AQ (T:List cD)(k:Int)(fl:List _)(i:Nat):cv (T++[(k,fl,false,false)]) i↔cv T i\/i=T.length:=by unfold cv;rw[rE,aX,List.length_singleton];exact As
theorem J4 (g:List Bool->List Bool)(s:ck)(bZ:Int)(mj:Bool):(s.cut g bZ mj).rs=s.rs:=by unfold ck.cut;split<;>rfl
theorem J5 (g:gO)(b_ bZ:Int)(s:ck)(m:Int):(s.room g b_ bZ m).2.rs=s.rs:=by
 unfold ck.room;split
 ·rfl
 ·exact J4 _ _ _ _
theorem uN {k R A B n:Int}(h:dJ k R A B n=0):gR k n=0:=by
 unfold dJ at h;split at h
 ·omega
 ·split at h
  ·omega
  ·exact h
theorem AR {R A B n:Int}(h:dJ 5 R A B n=0):0<=n/\n<=12:=by
 have b:=uN h;unfold gR at b;rw[aG aa,aI rfl] at b;unfold hc at b;split at b
 ·omega
 ·split at b<;>omega
theorem AS {R A B n:Int}(h:dJ 1 R A B n=0):vc 1 n=0:=by have b:=uN h;unfold gR at b;rwa [aI rfl] at b
section
variable {s:ck}{j:Nat}{g:gO}{b_ bZ:Int}
theorem d3.room (h:d3 s j)(b:j<=10000)(hg:dR s.T s.wt (g s.T s.wt))(m:Int):d3 (s.room g b_ bZ m).2 j:=by
 unfold ck.room;split
 ·exact h
 ·exact h.cut b hg _ _
theorem d3.put (h:d3 s j){kd:Int}{fl:List _}(d:1<=kd)(f:kd<=5)(g:kd=3\/kd=4->fl.length=2)(k:kd=5->fl=[])(l:∀v∈fl,eZ s.T v)(hl:fl.length<=12):d3 (s.put kd fl) (j+1):=by
 have b:=AQ s.T kd fl;have tr:∀v,eZ s.T v->_:=fun v hv=>hv.mono (fun _ ha=>(b _).2 (aK ha))
 have gt:∀i,cv s.T i->(s.T++[(kd,fl,false,false)]).getD i t0=s.T.getD i t0:=fun i hi=>by rw[rE,aG (by have:=hi.1;omega)]
 have c:(s.T++[(kd,fl,false,false)]).getD s.T.length t0=(kd,fl,false,false):=by rw[rE,aI rfl]
 have ev:∀e,mE s.T e->mE (s.T++[(kd,fl,false,false)]) e:=fun e he=>⟨⟨he.1.1,(b _).2 (aK he.1.2)⟩,by rw[gt _ he.1.2];exact he.2.1,he.2.2.1,(b _).2 (aK he.2.2.2)⟩
 unfold ck.put;refine {kd:=fun i hi=>?_,fl:=fun i hi hk=>?_,g5:=fun i hi hk=>?_,fv:=fun i hi v hv=>?_,tl:=fun i=>?_,rv:=fun v hv=>tr v (h.rv v hv),rl:=h.rl,gv:=fun e he=>ev e (h.gv e he),wv:=fun e he=>ev e (h.wv e he),en:=h.en,tj:=?_}
 ·rcases(b i).1 hi with hi|rfl
  ·rw[gt i hi];exact h.kd i hi
  ·rw[c];exact⟨d,f⟩
 ·rcases(b i).1 hi with hi|rfl
  ·rw[gt i hi] at hk⊢;exact h.fl i hi hk
  ·rw[c] at hk⊢;exact g hk
 ·rcases(b i).1 hi with hi|rfl
  ·rw[gt i hi] at hk⊢;exact h.g5 i hi hk
  ·rw[c] at hk⊢;exact k hk
 ·rcases(b i).1 hi with hi|rfl
  ·rw[gt i hi] at hv;exact tr v (h.fv i hi v hv)
  ·rw[c] at hv;exact tr v (l v hv)
 ·rw[rE];split
  ·exact hl
  ·exact h.tl i
 ·rw[aX,List.length_singleton];have:=h.tj;omega
theorem d3.pN (h:d3 s j)(c:j<=10000)(hg:dR s.T s.wt (g s.T s.wt)){kd:Int}{fl:List _}(d:1<=kd)(e:kd<=5)(f:kd=3\/kd=4->fl.length=2)(i:kd=5->fl=[])(k:∀v∈fl,v∈s.rs\/v=(0,0))(hl:fl.length<=12):
 d3 (s.bZ g b_ bZ kd fl).2.2 (j+1)/\eZ (s.bZ g b_ bZ kd fl).2.2.T (s.bZ g b_ bZ kd fl).1:=by
 have hr:=h.room c hg (b_:=b_) (bZ:=bZ) (1+fl.length)
 have hs:=J5 g b_ bZ s (1+fl.length)
 unfold ck.bZ;generalize s.room g b_ bZ _=p at*;split
 ·dsimp only;refine⟨hr.put d e f i (fun v hv=>?_) hl,?_⟩
  ·rcases k v hv with b|b
   ·exact hr.rv v (by rw[hs];exact b)
   ·rw[b];exact kT _
  ·have l:=hr.tj;refine⟨nG _ V V,fun _=>⟨V,?_⟩⟩
   unfold ck.put;exact(AQ _ _ _ _).2 (aJ V)
 ·exact⟨hr.more (Nat.le_succ _),kT _⟩
theorem d3.pop (h:d3 s j)(d:j<=10000)(v:Int×Int):d3 (s.pop v).2.2 j/\eZ (s.pop v).2.2.T (s.pop v).1:=by
 unfold ck.pop;split
 ·split
  ·rename_i c;have he:=h.wv _ (getD_in (x:=(0,0)) c)
   have hb:=he.2.2.2.1;have ht:=h.tj;refine⟨{h with wv:=fun e hm=>?_,en:=?_},nG _ he.2.2.1 (by dsimp only;omega),fun _=>he.2.2⟩
   ·refine h.wv e ?_;rcases List.mem_append.1 hm with b|b
    ·exact List.mem_of_mem_take b
    ·exact List.mem_of_mem_drop b
   ·have:=h.en;dsimp only;rw[aX,bw,List.length_drop];omega
  ·exact⟨h,kT _⟩
 ·exact⟨h,kT _⟩
theorem J6 {T:List cD}{v:Int×Int}(hv:eZ T v)(h:iF T v=true):(0<=v.2/\cv T v.2.toNat)/\(T.getD v.2.toNat t0).1=5:=by obtain⟨b,c⟩:=qW.1 h;exact⟨hv.2 b,c⟩
theorem d3.reg (h:d3 s j){t b:Int×Int}(ht:eZ s.T t)(hd:eZ s.T b):d3 (s.reg t b).2 j:=by
 unfold ck.reg;split
 ·rename_i c;split
  ·exact h
  ·obtain⟨q1,d⟩:=J6 hd c.2;refine {h with gv:=fun e he=>?_,en:=?_}
   ·rcases List.mem_append.1 he with he|he
    ·exact h.gv e he
    ·rw[List.mem_singleton.1 he];exact⟨q1,d,ht.2 c.1⟩
   ·dsimp only;rw[aX,List.length_singleton];omega
 ·exact h
theorem AT (T:List cD)(i q:Nat)(y:Int×Int)(k:Nat)(hi:i<T.length):(i_ T i q y).getD k t0=if k=i then((T.getD i t0).1,(T.getD i t0).2.1.set q y,(T.getD i t0).2.2) else T.getD k t0:=by
 rw[aE,List.getElem?_set];by_cases e:i=k
 ·subst e;rw[aI rfl,aI hi,aI rfl];rfl
 ·rw[aG e,aG (fun c=>e c.symm),<-aE]
theorem J7 (T:List cD)(i q:Nat)(y:Int×Int)(hi:i<T.length)(k:Nat):cv (i_ T i q y) k↔cv T k:=by
 unfold cv;rw[AT T i q y k hi,a4];split
 ·rename_i e;rw[e]
 ·exact Iff.rfl
theorem d3.set (h:d3 s j){v y:Int×Int}(I:Int)(hv:eZ s.T v)(hy:eZ s.T y):d3 (s.set v I y).2 j:=by
 unfold ck.set;split
 ·rename_i c;have g:jE s.T v=true:=by
   cases e:jE s.T v
   ·unfold ck.fc at c;rw[e,aG Z] at c;omega
   ·rfl
  obtain⟨l,m⟩:=jF.1 g;obtain⟨_,ha⟩:=hv.2 l;generalize v.2.toNat=i at*;have hi:=ha.1;have b:=J7 s.T i I.toNat y hi;have gt:=fun k=>AT s.T i I.toNat y k hi;have tr:∀v,eZ s.T v->_:=fun v hv=>hv.mono (fun _ ha=>(b _).2 ha)
  have k1:∀k,((i_ s.T i I.toNat y).getD k t0).1=(s.T.getD k t0).1:=fun k=>by
   rw[gt k];split
   ·rename_i e;rw[e]
   ·rfl
  have l1:∀k,((i_ s.T i I.toNat y).getD k t0).2.1.length=(s.T.getD k t0).2.1.length:=fun k=>by
   rw[gt k];split
   ·rename_i e;rw[e,a4]
   ·rfl
  have ev:∀e,mE s.T e->mE (i_ s.T i I.toNat y) e:=fun e he=>⟨⟨he.1.1,(b _).2 he.1.2⟩,by rw[k1];exact he.2.1,he.2.2.1,(b _).2 he.2.2.2⟩
  refine {kd:=fun k hk=>?_,fl:=fun k hk hq=>?_,g5:=fun k hk hq=>?_,fv:=fun k hk x d=>?_,tl:=fun k=>?_,rv:=fun x d=>tr x (h.rv x d),rl:=h.rl,gv:=fun e he=>ev e (h.gv e he),wv:=fun e he=>ev e (h.wv e he),en:=h.en,tj:=?_}
  ·rw[k1];exact h.kd k ((b k).1 hk)
  ·rw[k1] at hq;rw[l1];exact h.fl k ((b k).1 hk) hq
  ·rw[k1] at hq;have n:k≠i:=fun e=>m (by rw[<-e];exact hq)
   rw[gt k,aG n];exact h.g5 k ((b k).1 hk) hq
  ·rw[gt k] at d;split at d
   ·rename_i e;rcases List.mem_or_eq_of_mem_set d with f|f
    ·exact tr x (h.fv i ha x f)
    ·rw[f];exact tr y hy
   ·exact tr x (h.fv k ((b k).1 hk) x d)
  ·rw[l1];exact h.tl k
  ·rw[a4];exact h.tj
 ·exact h
theorem d3.root (h:d3 s j)(R:Nat){v:Int×Int}(hv:eZ s.T v):d3 {s with rs:=s.rs.set R v} j:=
 {
  h with
  rv:=fun x b=>(List.mem_or_eq_of_mem_set b).elim (h.rv x) (fun e=>by rw[e];exact hv)
  rl:=by rw[a4];exact h.rl}
theorem uO (s:ck)(i:Nat):s.rs.getD i (0,0)∈s.rs\/s.rs.getD i (0,0)=(0,0):=by
 by_cases c:i<s.rs.length
 ·exact aK (getD_in c)
 ·rw[aE,List.getElem?_eq_none V];exact aJ rfl
theorem d3.rts (h:d3 s j)(b:j<=10000)(hg:dR s.T s.wt (g s.T s.wt)){k R A B n:Int}(hc:dJ k R A B n=0)(I:Int):d3 (s.rt g b_ bZ k A.toNat B.toNat I n).2.2 (j+1)/\eZ (s.rt g b_ bZ k A.toNat B.toNat I n).2.2.T (s.rt g b_ bZ k A.toNat B.toNat I n).1:=by
 have hs:=h.more (Nat.le_succ j)
 have two:∀v∈[s.rs.getD A.toNat (0,0),s.rs.getD B.toNat (0,0)],v∈s.rs\/v=(0,0):=fun v hv=>by
  have:v=s.rs.getD A.toNat (0,0)\/v=s.rs.getD B.toNat (0,0):=by simpa using hv
  rcases this with rfl|rfl
  ·exact uO s _
  ·exact uO s _
 have d:∀x:Int,-1152921504606846976<=x->x<1152921504606846976->eZ s.T (1,x):=fun x w C=>⟨by simp[vc,rc];omega,fun h=>by cases h⟩
 unfold ck.rt;by_cases k1:k=1
 ·rw[aI k1];subst k1;exact⟨hs,AS hc,fun h=>by cases h⟩
 rw[aG k1];by_cases f:k=3
 ·rw[aI f];exact⟨hs,h.rt _⟩
 rw[aG f];by_cases i:k=4
 ·rw[aI i];exact h.pN b hg aa aa Z Z two Z
 rw[aG i];by_cases k5:k=5
 ·rw[aI k5];subst k5;have hn:=AR hc;exact h.pN b hg aa aa Z Z (fun v hv=>by rw[(List.mem_replicate.1 hv).2];exact uO s _) (by rw[List.length_replicate];omega)
 rw[aG k5];by_cases k6:k=6
 ·rw[aI k6];exact h.pN b hg aa aa Z Z two Z
 rw[aG k6];by_cases l:k=7
 ·rw[aI l];exact h.pN b hg aa aa Z Z two Z
 rw[aG l];by_cases m:k=8
 ·rw[aI m];exact h.pN b hg aa aa Z Z Z Z
 rw[aG m];by_cases o:k=10
 ·rw[aI o];have:=h.pop b (s.rs.getD A.toNat (0,0))
  exact⟨this.1.more (Nat.le_succ _),this.2⟩
 rw[aG o];by_cases p:k=11
 ·rw[aI p];refine⟨hs,?_⟩
  split
  ·rename_i c;by_cases e:jE s.T (s.rs.getD A.toNat (0,0))=true
   ·obtain⟨u,_⟩:=jF.1 e;by_cases ci:I.toNat<(s.T.getD (s.rs.getD A.toNat (0,0)).2.toNat t0).2.1.length
    ·exact h.fv _ ((h.rt A.toNat).2 u).2 _ (getD_in ci)
    ·rw[aE,List.getElem?_eq_none V];exact kT _
   ·unfold ck.fc at c;rw[aG e] at c;omega
  ·exact kT _
 rw[aG p];by_cases q:k=13
 ·rw[aI q];split
  ·refine⟨hs,d _ V ?_⟩
   have:=h.tl (s.rs.getD A.toNat (0,0)).2.toNat;omega
  ·exact⟨hs,kT _⟩
 rw[aG q];by_cases t:k=14
 ·rw[aI t];refine⟨hs,?_⟩
  split
  ·exact d _ aa aa
  ·exact d _ aa aa
 rw[aG t];exact⟨hs,kT _⟩
theorem d3.ik (h:d3 s j)(b:j<=10000)(hg:dR s.T s.wt (g s.T s.wt))(k R A B I n:Int):d3 (s.ik g b_ bZ k R A B I n).2 (j+1):=by
 have hs:=Nat.le_succ j;unfold ck.ik;by_cases hc:dJ k R A B n=0
 ·rw[aI hc];split
  ·exact(h.reg (h.rt _) (h.rt _)).more hs
  ·split
   ·exact(h.set I (h.rt _) (h.rt _)).more hs
   ·split
    ·exact(h.cut b hg _ _).more hs
    ·split
     ·exact(h.cut b hg _ _).more hs
     ·have hr:=h.rts b hg hc I (b_:=b_) (bZ:=bZ)
      split
      ·exact hr.1.root _ hr.2
      ·exact hr.1
 ·rw[aG hc];exact h.more hs
end
theorem d3.start:d3 ⟨[],List.replicate 12 (0,0),[],[]⟩ 0:=
 ⟨fun i hi=>absurd hi.1 Z,fun i hi=>absurd hi.1 Z,fun i hi=>absurd hi.1 Z,fun i hi=>absurd hi.1 Z,fun i=>by simp[t0],fun v hv=>by rw[(List.mem_replicate.1 hv).2];exact kT _,Z,fun e he=>by simp at he,fun e he=>by simp at he,Z,Z⟩
open Go.RowKit W
theorem J8 (c a:Int)(w:ax):
 Calls prog 39 #[ah c,ah a] w fun e w'=>e=.returned (.agg #[ah c,ah a])/\aw w w':=by
 go_enter func39,ntmps39;go_wp2_with fail;exact a3 (v:=.agg #[ah c,ah a]) (by simp[results,results39,go_sem]) rfl ⟨rfl,bX.alloc bW _⟩
theorem J9 (n o:Int)(w:ax)(h0:16<=n)(b:n<=256)(c:0<=o)(d:o<=1024):
 Calls prog 14 #[ah n,ah o] w fun e w'=>e=.returned (.agg #[ah 0,ah 0])/\aw w w':=by
 go_enter func14,ntmps14;go_wp2_with fail;exact a3 (v:=.agg #[ah 0,ah 0]) (by simp[results,results14,go_sem]) rfl ⟨rfl,bX.alloc bW _⟩
theorem J_ (n o:Int)(w:ax)(h:n<16\/256<n\/o<0\/1024<o):
 Calls prog 14 #[ah n,ah o] w fun e w'=>e=.returned (.agg #[ah 1,ah (-1)])/\aw w w':=by
 have fin:∀(R:Ending->ax->Prop),(∀w1,Below (w.alloc (.cells #[.int .i64 0,.int .i64 0] 28)).heap.size (w.alloc (.cells #[.int .i64 0,.int .i64 0] 28)) w1->R (.returned (.agg #[ah 1,ah (-1)])) w1)->Calls prog 39 #[ah 1,ah (-1)] (w.alloc (.cells #[.int .i64 0,.int .i64 0] 28)) R:=by
  intro R b;refine(J8 1 (-1) _).mono ?_;rintro e w1 ⟨rfl,hb⟩
  exact b w1 hb
 by_cases c:n<16
 ·go_enter func14,ntmps14;exact uL
 by_cases d:256<n
 ·go_enter func14,ntmps14;exact uL
 by_cases f:o<0
 ·go_enter func14,ntmps14;exact uL
 have g:1024<o:=V;go_enter func14,ntmps14;go_wp2_with fail;refine fin _ ?_;intro w1 hb;obtain⟨c0,c1,hz⟩:=vL hb;obtain⟨_,hf⟩:=nJ hb;have f0:=hf w.heap.size 0 Z;have f1:=hf w.heap.size 1 Z;simp[go_sem] at f0 f1;go_wp2;exact a3 (v:=.agg #[ah 1,ah (-1)]) (by simp[results,results14,go_sem,c0,c1]) rfl ⟨rfl,(((bX.alloc bW _).trans (hb.mono Z)).setCell bW _).setCell bW _⟩
theorem Ka (T:List cD)(wt:List b7)(l:List _):iq (tI T.length) (gP T) (gQ T wt) ([],[]) (dU.ez T wt l).2 (dU.ez T wt l).1:=
 pV (jI _) (e9.start _) (by rw[nm];simp) _
theorem Kb {T:List cD}{wt:List b7}(hw:nn T wt)(l:List _):(dU.ez T wt l).1.length=l.length/\(dU.ez T wt l).2.2.length<=10000/\∀nd∈(dU.ez T wt l).2.2,nd.2.length<=20000:=by
 have hv:=Ka T wt l;refine⟨?_,?_,fun nd b=>?_⟩
 ·unfold dU.ez;rw[nH,aW]
 ·rw[hv.ok.len];refine aT hv.ok.le ?_;rw[nm];exact hw.l1
 ·obtain⟨i,hi,e⟩:=List.mem_iff_getElem.1 b;obtain⟨c,q1,_,q3,_⟩:=hv.nw i (aZ _) (by rw[<-hv.ok.len];exact hi)
  rw[aL hi,e] at q1;have q1:nd=c:=by simpa using q1
  rw[q1,q3];unfold gQ;have d:=hw.tl ((dU.ez T wt l).2.1.getD i 0).toNat;have f:=hw.l2;rw[aX,aW];split
  ·rw[aW];have:=bm (fun e:b7=>e.1==(dU.ez T wt l).2.1.getD i 0) wt;omega
  ·rw[List.length_nil];omega
section
variable {w:ax}{p:Nat}{T:List cD}{wt:List b7}{is:List Bool}
end
section
variable {rp rb:Nat}{b_ bZ:Int}{F:Nat->Prop}{s:ck}{w:ax}
end
section
variable {w:ax}{s:ck}{db mb xb:Nat}{v0 v1 v2:Value}{b_ bZ:Int}{D:List Bool}{wr:ax}{Kc:Option Addr}{ci:Nat}{L M:List Bool}{C:List b7}
end
section
variable {rp rb:Nat}{b_ bZ:Int}{F:Nat->Prop}{s:ck}{w:ax}
end
end Go.Proofs.YtpkjkjhanlbcoaaGreat
