import Derived.Test.YtjpjpjemibgjpaaGreatJ10
namespace Go.Proofs.YtjpjpjemibgjpaaGreat
set_option maxRecDepth 100000
set_option maxHeartbeats 2000000
open Tryz
open Go.RowKit W Kp cg
theorem Es {T:List cG}{wt:List bZ}(d:gy T wt):∃g,d9 T wt g:=by
 classical
 refine⟨fun is=>(List.range is.length).map (fun i=>decide (∀X:Nat->Prop,fG T wt X->(∀k,cu is k->X k)->X i)),fun is hl e=>?_⟩
 have key:∀i,cu ((List.range is.length).map (fun i=>decide (∀X:Nat->Prop,fG T wt X->(∀k,cu is k->X k)->X i))) i↔i<is.length/\∀X:Nat->Prop,fG T wt X->(∀k,cu is k->X k)->X i:=by
  intro i;unfold cu;by_cases hi:i<is.length
  ·rw[aC,bq,List.getElem?_range hi];simp[hi]
  ·simp[hi]
 refine⟨Z,fun i hi=>(key i).2 ⟨hi.lt,fun X _ b=>b i hi⟩,fun i hi f v j l=>?_,fun X b hs i hi=>((key i).1 hi).2 X b hs⟩
 have c:∀X:Nat->Prop,fG T wt X->(∀k,cu is k->X k)->_:=fun X b hs=>b i hi (((key i).1 f).2 X b hs) v (j.mono (fun k hk=>((key k).1 hk).2 X b hs)) l;exact(key _).2 ⟨by rw[hl];exact(c (cH T) d.cls e).1,c⟩
theorem Eu:∃g:gS,∀T wt,gy T wt->d9 T wt (g T wt):=by
 classical
 refine⟨fun T wt=>if h:∃g,d9 T wt g then h.choose else id,fun T wt b=>?_⟩
 have h:=Es b;dsimp only;rw[dif_pos h];exact h.choose_spec
section
variable {σ:Type}{is:σ->Int->Bool}{kp:σ->Int->σ}{I:σ->List bZ->Prop}{R:List bZ}
theorem s7 (hk:∀s C e,I s C->e∈R->is s e.1=true->I (kp s e.2) (C++[e])):∀(l:List bZ)(s:σ)(C D:List bZ),(∀e∈l,e∈R)->I s C->I (cg.pass is kp l s C D).1 (cg.pass is kp l s C D).2.1
 |[],_,_,_,_,h=>h
 |e::r,s,C,D,b,h=>by
  unfold cg.pass;have d:_:=fun x f=>b x (aO _ f)
  split
  ·rename_i c;exact s7 hk r _ _ _ d (hk s C e h (b e Z) c)
  ·exact s7 hk r _ _ _ d h
theorem xR (hk:∀s C e,I s C->e∈R->is s e.1=true->I (kp s e.2) (C++[e])):∀(n:Nat)(D:List bZ)(s:σ)(C:List bZ),(∀e∈D,e∈R)->I s C->I (cg.turns is kp n D s C).1 (cg.turns is kp n D s C).2.1
 |0,_,_,_,_,h=>h
 |n+1,D,s,C,b,h=>by
  have c:=s7 hk D s C [] b h;unfold cg.turns;split
  ·exact c
  ·exact xR hk n _ _ _ (fun e he=>b e (xO _ _ D s C e he)) c
end
structure Ev (s:cj)(g:List Bool->List Bool)(mj:Bool)(L:List Bool)(C:List bZ):Prop where
 ok:fR s.T L
 up:∀k,cu (s.c0 g mj) k->cu L k
 cl:fG s.T s.wt (cu L)
 cC:∀e∈C,e∈s.rg/\cu L e.1.toNat/\cu L e.2.toNat
 lt:∀X,fG s.T s.wt X->(∀k,cu (s.c0 g mj) k->X k)->(∀e∈s.rg,cD (s.c0 g mj) e.2=false->X e.2.toNat)->∀k,cu L k->X k
theorem xS {s:cj}(h:gA s){g:List Bool->List Bool}(hg:d9 s.T s.wt g)(b:Bool):jz s.T s.wt (jA s.T s.rs b) (s.c0 g b)/\fR s.T (s.c0 g b):=by have c:=h.first b;exact⟨hg _ c.len c.al,(hg.ok h.iv c).1⟩
theorem Ew {s:cj}(h:gA s){g:List Bool->List Bool}(hg:d9 s.T s.wt g)(b:Bool):Ev s g b (s.cR g b).1 (s.cR g b).2.1:=by
 obtain⟨p,q⟩:=xS h hg b;refine xR (fun L C e c he t=>?_) _ _ _ _ (fun e he=>he) ⟨q,fun k hk=>hk,p.cl,fun e he=>by simp at he,fun X _ f _ k hk=>f k hk⟩
 obtain⟨he,m⟩:=List.mem_filter.1 he;have m:cD (s.c0 g b) e.2=false:=by simpa using m
 have ha:=(h.gv e he).2;obtain⟨n,u,v⟩:=c.ok.put ha.2;have j:=hg _ n.len n.al;have l:∀k,cu L k->_:=fun k hk=>j.up k (v k hk)
 refine⟨(hg.ok h.iv n).1,fun k hk=>l k (c.up k hk),j.cl,fun x d=>?_,fun X f h0 o k hk=>?_⟩
 ·rcases List.mem_append.1 d with d|d
  ·obtain⟨q1,w,q3⟩:=c.cC x d;exact⟨q1,l _ w,l _ q3⟩
  ·rw[List.mem_singleton.1 d];exact⟨he,l _ t,j.up _ u⟩
 ·refine j.lt X f (fun i hi=>?_) k hk;unfold cu at hi;rw[kn _ _ _ (by rw[c.ok.len];exact ha.2.1)] at hi;split at hi
  ·rename_i A;rw[<-A];exact o e he m
  ·exact c.lt X f h0 o i hi
theorem Ex (s:cj)(g:List Bool->List Bool)(b:Bool):(s.cR g b).2.1.length<=(s.rg.filter (fun e=>!cD (s.c0 g b) e.2)).length:=by
 have:=u_ (is:=cD) (kp:=d4 g) (s.rg.length+1) (s.rg.filter (fun e=>!cD (s.c0 g b) e.2)) (s.c0 g b) [];unfold cj.cR;simp only [List.length_nil] at this
 omega
theorem Ey {s:cj}(h:gA s){g:List Bool->List Bool}(hg:d9 s.T s.wt g)(b:Bool){v:Int×Int}(c:v∈s.rs)(d:v.1=3):cu (s.c0 g b) v.2.toNat:=
 (xS h hg b).1.up _ ((lL _ _ _ _).2 ⟨(h.rv v c d).2.1,aI ⟨v,c,d,rfl⟩⟩)
theorem s8 (L:List Bool)(T:List cG)(i:Nat):(eu L T T.length).getD i t0=if i<T.length then eE L i (T.getD i t0) else t0:=by
 by_cases h:i<T.length
 ·rw[p9 L T T.length i bW h,aH h,aH h]
 ·rw[aE h,aC,List.getElem?_eq_none (by rw[i2];omega)];rfl
theorem xT {L:List Bool}{i:Nat}{t:cG}(b:L.getD i false=false):eE L i t=(t.1,[],t.2.2.1,true):=by unfold eE;rw[aE (by rw[b];simp)]
theorem qk (L:List Bool)(i:Nat)(t:cG):(eE L i t).1=t.1:=by unfold eE;split<;>rfl
theorem Ez {L:List Bool}{i:Nat}{t:cG}(b:L.getD i false=true):(eE L i t).2.2=(true,t.2.2.2):=by unfold eE;rw[aH b]
theorem EA {T:List cG}{L:List Bool}(h:fR T L)(i:Nat):cH (eu L T T.length) i↔cu L i:=by
 unfold cH;rw[i2,s8];constructor
 ·rintro⟨d,b⟩
  rw[aH d] at b;unfold cu;cases c:L.getD i false
  ·rw[xT c] at b;cases b
  ·rfl
 ·intro hi;have ha:=h.al i hi;refine⟨ha.1,?_⟩
  rw[aH ha.1,Ez hi];exact ha.2
theorem ql {L:List Bool}{i:Nat}{t:cG}(b:L.getD i false=true):
 (t.1=4/\dq L (t.2.1.getD 0 (0,0))=false/\(eE L i t).2.1=[(2,0),(2,0)])\/(t.1=3/\dq L (t.2.1.getD 0 (0,0))=false/\(eE L i t).2.1=[(2,0),t.2.1.getD 1 (0,0)])\/((t.1=3\/t.1=4->dq L (t.2.1.getD 0 (0,0))=true)/\(eE L i t).2.1=t.2.1):=by
 unfold eE;rw[aH b];by_cases c4:t.1=4/\dq L (t.2.1.getD 0 (0,0))=false
 ·rw[aH c4];exact aJ ⟨c4.1,c4.2,rfl⟩
 ·rw[aE c4];by_cases c3:t.1=3/\dq L (t.2.1.getD 0 (0,0))=false
  ·rw[aH c3];exact aI (aJ ⟨c3.1,c3.2,rfl⟩)
  ·rw[aE c3];refine aI (aI ⟨fun h=>?_,rfl⟩)
   cases c:dq L _
   ·rcases h with h|h
    ·exact absurd ⟨h,c⟩ c3
    ·exact absurd ⟨h,c⟩ c4
   ·rfl
def lQ (T:List cG)(e:bZ):Prop:=(0<=e.1/\cH T e.1.toNat)/\(T.getD e.1.toNat t0).1=5/\0<=e.2/\cH T e.2.toNat
structure dD (s:cj)(j:Nat):Prop where
 kd:∀i,cH s.T i->1<=(s.T.getD i t0).1/\(s.T.getD i t0).1<=5
 fl:∀i,cH s.T i->(s.T.getD i t0).1=3\/(s.T.getD i t0).1=4->(s.T.getD i t0).2.1.length=2
 g5:∀i,cH s.T i->(s.T.getD i t0).1=5->(s.T.getD i t0).2.1=[]
 fv:∀i,cH s.T i->∀v∈(s.T.getD i t0).2.1,eV s.T v
 tl:∀i,(s.T.getD i t0).2.1.length<=12
 rv:∀v∈s.rs,eV s.T v
 rl:s.rs.length=12
 gv:∀e∈s.rg,lQ s.T e
 wv:∀e∈s.wt,lQ s.T e
 en:s.rg.length+s.wt.length<=24
 tj:s.T.length<=j
theorem dD.more {s:cj}{j k:Nat}(h:dD s j)(hk:j<=k):dD s k:={h with tj:=aP h.tj hk}
theorem dD.iv {s:cj}{j:Nat}(h:dD s j):gy s.T s.wt:=⟨h.fl,fun i hi v b=>(h.fv i hi v b).2,fun e he=>(h.wv e he).2.2,h.tl⟩
theorem dD.qm {s:cj}{j:Nat}(h:dD s j)(b:j<=10000):gA s:=
 ⟨h.iv,fun v c=>(h.rv v c).2,fun e he=>⟨(h.gv e he).1,(h.gv e he).2.2⟩,fun e he=>(h.wv e he).1,aP h.tj b,by have:=h.en;omega,by have:=h.en;omega⟩
theorem dD.xU {s:cj}{j:Nat}(h:dD s j)(b:j<=10000):nK s.T s.wt:=
 ⟨h.fv,fun e he=>⟨(h.wv e he).1.1,(h.wv e he).2.2⟩,h.tl,aP h.tj b,by have:=h.en;omega⟩
theorem eV.mono {T c:List cG}{v:Int×Int}(h:eV T v)(hm:v.1=3->cH T v.2.toNat->cH c v.2.toNat):eV c v:=⟨h.1,fun b=>⟨(h.2 b).1,hm b (h.2 b).2⟩⟩
theorem kC (T:List cG):eV T (0,0):=⟨aa,fun h=>by cases h⟩
theorem xV (T:List cG):eV T (2,0):=⟨aa,fun h=>by cases h⟩
theorem dD.rt {s:cj}{j:Nat}(h:dD s j)(i:Nat):eV s.T (s.rs.getD i (0,0)):=by
 by_cases c:i<s.rs.length
 ·exact h.rv _ (getD_in c)
 ·rw[aC,List.getElem?_eq_none V];exact kC _
theorem dD.cut {s:cj}{j:Nat}(h:dD s j)(D:j<=10000){g:List Bool->List Bool}(hg:d9 s.T s.wt g)(bY:Int)(d:Bool):dD (s.cut g bY d) j:=by
 unfold cj.cut;split
 ·exact h
 have hw:=h.qm D;have k:=Ew hw hg d;have hl:=Ex s g d;generalize I:(s.cR g d).1=L at*;generalize J:(s.cR g d).2.1=C at*;have o:=EA k.ok;have u:∀i,cu L i->(eu L s.T s.T.length).getD i t0=eE L i (s.T.getD i t0):=fun i hi=>by rw[s8,aH (k.ok.al i hi).1]
 have tr:∀v,eV s.T v->(v.1=3->cu L v.2.toNat)->_:=fun v b hi=>b.mono (fun f _=>(o _).2 (hi f))
 have ev:∀e,lQ s.T e->cu L e.1.toNat->cu L e.2.toNat->lQ (eu L s.T s.T.length) e:=fun e he m n=>⟨⟨he.1.1,(o _).2 m⟩,by rw[u _ m,qk];exact he.2.1,he.2.2.1,(o _).2 n⟩
 refine {kd:=fun i hi=>?_,fl:=fun i hi hk=>?_,g5:=fun i hi hk=>?_,fv:=fun i hi v b=>?_,tl:=fun i=>?_,rv:=fun v b=>?_,rl:=h.rl,gv:=fun e he=>?_,wv:=fun e he=>?_,en:=?_,tj:=?_}
 ·have hi:=(o i).1 hi;rw[u i hi,qk];exact h.kd i (k.ok.al i hi)
 ·have hi:=(o i).1 hi;rw[u i hi,qk] at hk;rw[u i hi];have n:=h.fl i (k.ok.al i hi) hk;rcases ql (L:=L) hi with⟨_,_,e⟩|⟨_,_,e⟩|⟨_,e⟩<;>rw[e]
  ·rfl
  ·rfl
  ·exact n
 ·have hi:=(o i).1 hi;rw[u i hi,qk] at hk;rw[u i hi];rcases ql (t:=s.T.getD i t0) hi with⟨E,_,_⟩|⟨E,_,_⟩|⟨_,e⟩
  ·omega
  ·omega
  ·rw[e];exact h.g5 i (k.ok.al i hi) hk
 ·have hi:=(o i).1 hi;have ha:=k.ok.al i hi;rw[u i hi] at b;have cl:∀v,f3 s.T s.wt (cu L) i v->v.1=3->_:=fun v hk f=>k.cl i ha.1 hi v hk f;rcases ql (L:=L) hi with⟨_,_,e⟩|⟨B,_,e⟩|⟨F,e⟩
  ·rw[e] at b;have:v=(2,0):=by simpa using b
   rw[this];exact xV _
  ·rw[e] at b;have:v=(2,0)\/v=(s.T.getD i t0).2.1.getD 1 (0,0):=by simpa using b
   rcases this with rfl|rfl
   ·exact xV _
   ·exact tr _ (h.fv i ha _ (getD_in (by rw[h.fl i ha (aJ B)];decide))) (fun f=>cl _ (aI (aJ ⟨B,rfl⟩)) f)
  ·rw[e] at b;refine tr v (h.fv i ha v b) (fun f=>?_)
   have hk:=h.kd i ha;by_cases G:(s.T.getD i t0).1=1\/(s.T.getD i t0).1=2
   ·exact cl v (aJ ⟨G,b⟩) f
   ·by_cases c5:(s.T.getD i t0).1=5
    ·rw[h.g5 i ha c5] at b;cases b
    ·have A:(s.T.getD i t0).1=3\/(s.T.getD i t0).1=4:=V;have h0:=mC (F A)
     have n:=h.fl i ha A;obtain⟨q,hq,eq⟩:=List.mem_iff_getElem.1 b;have w:(s.T.getD i t0).2.1.getD q (0,0)=v:=by rw[aC,aG V,eq];rfl
     match q,hq,w with
     |0,_,w=>
      rw[w] at h0;exact h0 f
     |1,_,w=>
      rcases A with c|c
      ·exact cl v (aI (aJ ⟨c,w.symm⟩)) f
      ·exact cl v (aI (aI (aJ ⟨c,h0,w.symm⟩))) f
     |q+2,hq,_=>omega
 ·rw[s8];split
  ·cases c:L.getD i false
   ·rw[xT c];simp
   ·rcases ql (L:=L) c with⟨_,_,e⟩|⟨_,_,e⟩|⟨_,e⟩<;>rw[e]
    ·simp
    ·simp
    ·exact h.tl i
  ·simp[t0]
 ·exact tr v (h.rv v b) (fun f=>k.up _ (Ey hw hg d b f))
 ·obtain⟨m,n⟩:=List.mem_filter.1 he;rw[ba] at n;exact ev e (h.gv e m) n.2 (k.up _ n.1)
 ·obtain⟨m,n⟩:=List.mem_filter.1 he;rcases List.mem_append.1 m with m|m
  ·have b:=h.wv e m;exact ev e b n (k.cl e.1.toNat b.1.2.1 n (3,e.2) (aI (aI (aI ⟨b.2.1,e,m,by have:=b.1.1;omega,rfl⟩))) rfl)
  ·obtain⟨q1,H,q3⟩:=k.cC e m;exact ev e (h.gv e q1) H q3
 ·dsimp only;have l1:(s.rg.filter (fun e=>cD (s.c0 g d) e.2&&cD L e.1)).length+(s.rg.filter (fun e=>!cD (s.c0 g d) e.2)).length<=s.rg.length:=by
   have key:∀l:List bZ,(l.filter (fun e=>cD (s.c0 g d) e.2&&cD L e.1)).length+(l.filter (fun e=>!cD (s.c0 g d) e.2)).length<=l.length:=fun l=>by
    induction l with
    |nil=>simp
    |cons x l K=>
     cases c:cD (s.c0 g d) x.2
     ·rw[List.filter_cons_of_neg (by rw[c];simp),List.filter_cons_of_pos (by rw[c];rfl)];simp only [List.length_cons];omega
     ·rw[List.filter_cons_of_neg (p:=fun e:bZ=>!cD (s.c0 g d) e.2) (by rw[c];simp)];have:(List.filter (fun e:bZ=>cD (s.c0 g d) e.2&&cD L e.1) (x::l)).length<=(List.filter (fun e:bZ=>cD (s.c0 g d) e.2&&cD L e.1) l).length+1:=by
       rw[List.filter_cons];split
       ·simp
       ·omega
      simp only [List.length_cons];omega
   exact key s.rg
  have l2:=bk (fun e:bZ=>cD L e.1) (s.wt++C)
  rw[aW] at l2;have:=h.en;omega
 ·rw[i2];exact h.tj
theorem qn (T:List cG)(t:cG)(i:Nat):(T++[t]).getD i t0=if i=T.length then t else T.getD i t0:=by
 rw[aC,aC,List.getElem?_append];by_cases h:i<T.length
 ·rw[aH h,aE V]
 ·rw[aE h];by_cases e:i=T.length
  ·subst e;simp
  ·rw[aE e,List.getElem?_eq_none (by simp;omega),List.getElem?_eq_none V]
theorem xW (T:List cG)(k:Int)(fl:List _)(i:Nat):cH (T++[(k,fl,false,false)]) i↔cH T i\/i=T.length:=by
 unfold cH;rw[qn,aW,List.length_singleton];by_cases e:i=T.length
 ·rw[aH e];exact⟨fun _=>aI e,fun _=>⟨V,rfl⟩⟩
 ·rw[aE e];exact⟨fun h=>aJ ⟨V,h.2⟩,fun h=>h.elim (fun h=>⟨V,h.2⟩) (fun h=>absurd h e)⟩
theorem EB (g:List Bool->List Bool)(s:cj)(bY:Int)(b:Bool):(s.cut g bY b).rs=s.rs:=by unfold cj.cut;split<;>rfl
theorem EC (g:gS)(b9 bY:Int)(s:cj)(m:Int):(s.room g b9 bY m).2.rs=s.rs:=by
 unfold cj.room;split
 ·rfl
 ·exact EB _ _ _ _
theorem s9 {k R A B n:Int}(h:dF k R A B n=0):d8 k n=0:=by
 unfold dF at h;split at h
 ·omega
 ·split at h
  ·omega
  ·exact h
theorem s_ {R A B n:Int}(h:dF 5 R A B n=0):0<=n/\n<=12:=by
 have b:=s9 h;unfold d8 at b;rw[aE aa,aH rfl] at b;unfold hc at b;split at b
 ·omega
 ·split at b<;>omega
theorem xX {R A B n:Int}(h:dF 1 R A B n=0):vc 1 n=0:=by have b:=s9 h;unfold d8 at b;rwa [aH rfl] at b
section
variable {s:cj}{j:Nat}{g:gS}{b9 bY:Int}
theorem dD.room (h:dD s j)(b:j<=10000)(hg:d9 s.T s.wt (g s.T s.wt))(m:Int):dD (s.room g b9 bY m).2 j:=by
 unfold cj.room;split
 ·exact h
 ·exact h.cut b hg _ _
theorem dD.put (h:dD s j){kd:Int}{fl:List _}(g:1<=kd)(k:kd<=5)(l:kd=3\/kd=4->fl.length=2)(m:kd=5->fl=[])(n:∀v∈fl,eV s.T v)(hl:fl.length<=12):dD (s.put kd fl) (j+1):=by
 have c:=xW s.T kd fl;have tr:∀v,eV s.T v->_:=fun v b=>b.mono (fun _ ha=>(c _).2 (aJ ha))
 have d:∀i,cH s.T i->(s.T++[(kd,fl,false,false)]).getD i t0=s.T.getD i t0:=fun i hi=>by rw[qn,aE (by have:=hi.1;omega)]
 have f:(s.T++[(kd,fl,false,false)]).getD s.T.length t0=(kd,fl,false,false):=by rw[qn,aH rfl]
 have ev:∀e,lQ s.T e->lQ (s.T++[(kd,fl,false,false)]) e:=fun e he=>⟨⟨he.1.1,(c _).2 (aJ he.1.2)⟩,by rw[d _ he.1.2];exact he.2.1,he.2.2.1,(c _).2 (aJ he.2.2.2)⟩
 unfold cj.put;refine {kd:=fun i hi=>?_,fl:=fun i hi hk=>?_,g5:=fun i hi hk=>?_,fv:=fun i hi v b=>?_,tl:=fun i=>?_,rv:=fun v b=>tr v (h.rv v b),rl:=h.rl,gv:=fun e he=>ev e (h.gv e he),wv:=fun e he=>ev e (h.wv e he),en:=h.en,tj:=?_}
 ·rcases(c i).1 hi with hi|rfl
  ·rw[d i hi];exact h.kd i hi
  ·rw[f];exact⟨g,k⟩
 ·rcases(c i).1 hi with hi|rfl
  ·rw[d i hi] at hk⊢;exact h.fl i hi hk
  ·rw[f] at hk⊢;exact l hk
 ·rcases(c i).1 hi with hi|rfl
  ·rw[d i hi] at hk⊢;exact h.g5 i hi hk
  ·rw[f] at hk⊢;exact m hk
 ·rcases(c i).1 hi with hi|rfl
  ·rw[d i hi] at b;exact tr v (h.fv i hi v b)
  ·rw[f] at b;exact tr v (n v b)
 ·rw[qn];split
  ·exact hl
  ·exact h.tl i
 ·rw[aW,List.length_singleton];have:=h.tj;omega
theorem dD.oV (h:dD s j)(d:j<=10000)(hg:d9 s.T s.wt (g s.T s.wt)){kd:Int}{fl:List _}(e:1<=kd)(f:kd<=5)(i:kd=3\/kd=4->fl.length=2)(k:kd=5->fl=[])(l:∀v∈fl,v∈s.rs\/v=(0,0))(hl:fl.length<=12):
 dD (s.bY g b9 bY kd fl).2.2 (j+1)/\eV (s.bY g b9 bY kd fl).2.2.T (s.bY g b9 bY kd fl).1:=by
 have b:=h.room d hg (b9:=b9) (bY:=bY) (1+fl.length)
 have hs:=EC g b9 bY s (1+fl.length)
 unfold cj.bY;generalize s.room g b9 bY _=p at*;split
 ·dsimp only;refine⟨b.put e f i k (fun v m=>?_) hl,?_⟩
  ·rcases l v m with c|c
   ·exact b.rv v (by rw[hs];exact c)
   ·rw[c];exact kC _
  ·have n:=b.tj;refine⟨l_ _ V V,fun _=>⟨V,?_⟩⟩
   unfold cj.put;exact(xW _ _ _ _).2 (aI V)
 ·exact⟨b.more (Nat.le_succ _),kC _⟩
theorem dD.pop (h:dD s j)(d:j<=10000)(v:Int×Int):dD (s.pop v).2.2 j/\eV (s.pop v).2.2.T (s.pop v).1:=by
 unfold cj.pop;split
 ·split
  ·rename_i c;have he:=h.wv _ (getD_in (x:=(0,0)) c)
   have f:=he.2.2.2.1;have ht:=h.tj;refine⟨{h with wv:=fun e hm=>?_,en:=?_},l_ _ he.2.2.1 (by dsimp only;omega),fun _=>he.2.2⟩
   ·refine h.wv e ?_;rcases List.mem_append.1 hm with b|b
    ·exact bE b
    ·exact List.mem_of_mem_drop b
   ·have:=h.en;dsimp only;rw[aW,bf,List.length_drop];omega
  ·exact⟨h,kC _⟩
 ·exact⟨h,kC _⟩
theorem ED {T:List cG}{v:Int×Int}(b:eV T v)(h:jT T v=true):(0<=v.2/\cH T v.2.toNat)/\(T.getD v.2.toNat t0).1=5:=by obtain⟨c,d⟩:=mI.1 h;exact⟨b.2 c,d⟩
theorem dD.reg (h:dD s j){t b:Int×Int}(ht:eV s.T t)(hd:eV s.T b):dD (s.reg t b).2 j:=by
 unfold cj.reg;split
 ·rename_i c;split
  ·exact h
  ·obtain⟨q1,d⟩:=ED hd c.2;refine {h with gv:=fun e he=>?_,en:=?_}
   ·rcases List.mem_append.1 he with he|he
    ·exact h.gv e he
    ·rw[List.mem_singleton.1 he];exact⟨q1,d,ht.2 c.1⟩
   ·dsimp only;rw[aW,List.length_singleton];omega
 ·exact h
theorem xY (T:List cG)(i q:Nat)(y:Int×Int)(k:Nat)(hi:i<T.length):(mJ T i q y).getD k t0=if k=i then((T.getD i t0).1,(T.getD i t0).2.1.set q y,(T.getD i t0).2.2) else T.getD k t0:=by
 rw[aC,List.getElem?_set];by_cases e:i=k
 ·subst e;rw[aH rfl,aH hi,aH rfl];rfl
 ·rw[aE e,aE (fun c=>e c.symm),<-aC]
theorem EE (T:List cG)(i q:Nat)(y:Int×Int)(hi:i<T.length)(k:Nat):cH (mJ T i q y) k↔cH T k:=by
 unfold cH;rw[xY T i q y k hi,aX];split
 ·rename_i e;rw[e]
 ·exact Iff.rfl
theorem dD.set (h:dD s j){v y:Int×Int}(I:Int)(g:eV s.T v)(hy:eV s.T y):dD (s.set v I y).2 j:=by
 unfold cj.set;split
 ·rename_i c;have m:ig s.T v=true:=by
   cases e:ig s.T v
   ·unfold cj.fc at c;rw[e,aE Z] at c;omega
   ·rfl
  obtain⟨n,o⟩:=kA.1 m;obtain⟨_,ha⟩:=g.2 n;generalize v.2.toNat=i at*;have hi:=ha.1;have b:=EE s.T i I.toNat y hi;have f:=fun k=>xY s.T i I.toNat y k hi;have tr:∀v,eV s.T v->_:=fun v g=>g.mono (fun _ ha=>(b _).2 ha)
  have k1:∀k,((mJ s.T i I.toNat y).getD k t0).1=(s.T.getD k t0).1:=fun k=>by
   rw[f k];split
   ·rename_i e;rw[e]
   ·rfl
  have l1:∀k,((mJ s.T i I.toNat y).getD k t0).2.1.length=(s.T.getD k t0).2.1.length:=fun k=>by
   rw[f k];split
   ·rename_i e;rw[e,aX]
   ·rfl
  have ev:∀e,lQ s.T e->lQ (mJ s.T i I.toNat y) e:=fun e he=>⟨⟨he.1.1,(b _).2 he.1.2⟩,by rw[k1];exact he.2.1,he.2.2.1,(b _).2 he.2.2.2⟩
  refine {kd:=fun k hk=>?_,fl:=fun k hk hq=>?_,g5:=fun k hk hq=>?_,fv:=fun k hk x d=>?_,tl:=fun k=>?_,rv:=fun x d=>tr x (h.rv x d),rl:=h.rl,gv:=fun e he=>ev e (h.gv e he),wv:=fun e he=>ev e (h.wv e he),en:=h.en,tj:=?_}
  ·rw[k1];exact h.kd k ((b k).1 hk)
  ·rw[k1] at hq;rw[l1];exact h.fl k ((b k).1 hk) hq
  ·rw[k1] at hq;have p:k≠i:=fun e=>o (by rw[<-e];exact hq)
   rw[f k,aE p];exact h.g5 k ((b k).1 hk) hq
  ·rw[f k] at d;split at d
   ·rename_i e;rcases bB d with l|l
    ·exact tr x (h.fv i ha x l)
    ·rw[l];exact tr y hy
   ·exact tr x (h.fv k ((b k).1 hk) x d)
  ·rw[l1];exact h.tl k
  ·rw[aX];exact h.tj
 ·exact h
theorem dD.root (h:dD s j)(R:Nat){v:Int×Int}(b:eV s.T v):dD {s with rs:=s.rs.set R v} j:=
 {
  h with
  rv:=fun x c=>(bB c).elim (h.rv x) (fun e=>by rw[e];exact b)
  rl:=by rw[aX];exact h.rl}
theorem ta (s:cj)(i:Nat):s.rs.getD i (0,0)∈s.rs\/s.rs.getD i (0,0)=(0,0):=by
 by_cases c:i<s.rs.length
 ·exact aJ (getD_in c)
 ·rw[aC,List.getElem?_eq_none V];exact aI rfl
theorem dD.rts (h:dD s j)(b:j<=10000)(hg:d9 s.T s.wt (g s.T s.wt)){k R A B n:Int}(hc:dF k R A B n=0)(I:Int):dD (s.rt g b9 bY k A.toNat B.toNat I n).2.2 (j+1)/\eV (s.rt g b9 bY k A.toNat B.toNat I n).2.2.T (s.rt g b9 bY k A.toNat B.toNat I n).1:=by
 have hs:=h.more (Nat.le_succ j)
 have two:∀v∈[s.rs.getD A.toNat (0,0),s.rs.getD B.toNat (0,0)],v∈s.rs\/v=(0,0):=fun v d=>by
  have:v=s.rs.getD A.toNat (0,0)\/v=s.rs.getD B.toNat (0,0):=by simpa using d
  rcases this with rfl|rfl
  ·exact ta s _
  ·exact ta s _
 have f:∀x:Int,-1152921504606846976<=x->x<1152921504606846976->eV s.T (1,x):=fun x C D=>⟨by simp[vc,rc];omega,fun h=>by cases h⟩
 unfold cj.rt;by_cases k1:k=1
 ·rw[aH k1];subst k1;exact⟨hs,xX hc,fun h=>by cases h⟩
 rw[aE k1];by_cases i:k=3
 ·rw[aH i];exact⟨hs,h.rt _⟩
 rw[aE i];by_cases l:k=4
 ·rw[aH l];exact h.oV b hg aa aa Z Z two Z
 rw[aE l];by_cases k5:k=5
 ·rw[aH k5];subst k5;have E:=s_ hc;exact h.oV b hg aa aa Z Z (fun v d=>by rw[(List.mem_replicate.1 d).2];exact ta s _) (by rw[bw];omega)
 rw[aE k5];by_cases k6:k=6
 ·rw[aH k6];exact h.oV b hg aa aa Z Z two Z
 rw[aE k6];by_cases m:k=7
 ·rw[aH m];exact h.oV b hg aa aa Z Z two Z
 rw[aE m];by_cases o:k=8
 ·rw[aH o];exact h.oV b hg aa aa Z Z Z Z
 rw[aE o];by_cases p:k=10
 ·rw[aH p];have:=h.pop b (s.rs.getD A.toNat (0,0))
  exact⟨this.1.more (Nat.le_succ _),this.2⟩
 rw[aE p];by_cases q:k=11
 ·rw[aH q];refine⟨hs,?_⟩
  split
  ·rename_i c;by_cases e:ig s.T (s.rs.getD A.toNat (0,0))=true
   ·obtain⟨w,_⟩:=kA.1 e;by_cases ci:I.toNat<(s.T.getD (s.rs.getD A.toNat (0,0)).2.toNat t0).2.1.length
    ·exact h.fv _ ((h.rt A.toNat).2 w).2 _ (getD_in ci)
    ·rw[aC,List.getElem?_eq_none V];exact kC _
   ·unfold cj.fc at c;rw[aE e] at c;omega
  ·exact kC _
 rw[aE q];by_cases t:k=13
 ·rw[aH t];split
  ·refine⟨hs,f _ V ?_⟩
   have:=h.tl (s.rs.getD A.toNat (0,0)).2.toNat;omega
  ·exact⟨hs,kC _⟩
 rw[aE t];by_cases u:k=14
 ·rw[aH u];refine⟨hs,?_⟩
  split
  ·exact f _ aa aa
  ·exact f _ aa aa
 rw[aE u];exact⟨hs,kC _⟩
theorem dD.es (h:dD s j)(b:j<=10000)(hg:d9 s.T s.wt (g s.T s.wt))(k R A B I n:Int):dD (s.es g b9 bY k R A B I n).2 (j+1):=by
 have hs:=Nat.le_succ j;unfold cj.es;by_cases hc:dF k R A B n=0
 ·rw[aH hc];split
  ·exact(h.reg (h.rt _) (h.rt _)).more hs
  ·split
   ·exact(h.set I (h.rt _) (h.rt _)).more hs
   ·split
    ·exact(h.cut b hg _ _).more hs
    ·split
     ·exact(h.cut b hg _ _).more hs
     ·have c:=h.rts b hg hc I (b9:=b9) (bY:=bY)
      split
      ·exact c.1.root _ c.2
      ·exact c.1
 ·rw[aE hc];exact h.more hs
end
theorem dD.start:dD ⟨[],List.replicate 12 (0,0),[],[]⟩ 0:=
 ⟨fun i hi=>absurd hi.1 Z,fun i hi=>absurd hi.1 Z,fun i hi=>absurd hi.1 Z,fun i hi=>absurd hi.1 Z,fun i=>by simp[t0],fun v b=>by rw[(List.mem_replicate.1 b).2];exact kC _,Z,fun e he=>by simp at he,fun e he=>by simp at he,Z,Z⟩
section
variable {s:cj}{j:Nat}
theorem qo (hi:dD s j)(A:Nat):((s.rs.getD A (0,0)).1=3/\s.th A=(s.rs.getD A (0,0)).2/\0<=(s.rs.getD A (0,0)).2/\(s.rs.getD A (0,0)).2.toNat<s.T.length)\/((s.rs.getD A (0,0)).1≠3/\s.th A=-1):=by
 have hq:=hi.rt A;unfold cj.th;by_cases c:(s.rs.getD A (0,0)).1=3
 ·rw[aH c];exact aJ ⟨c,rfl,(hq.2 c).1,(hq.2 c).2.1⟩
 ·rw[aE c];exact aI ⟨c,rfl⟩
theorem oW (hi:dD s j)(A:Nat):0<=s.th A->s.th A<s.T.length:=fun h=>by
 rcases qo hi A with⟨_,e,h0,b⟩|⟨_,e⟩
 ·rw[e];omega
 ·omega
theorem xZ (hi:dD s j)(A:Nat):(jT s.T (s.rs.getD A (0,0))=true/\s.gd A=(s.rs.getD A (0,0)).2/\0<=(s.rs.getD A (0,0)).2)\/(¬jT s.T (s.rs.getD A (0,0))=true/\s.gd A=-1):=by
 unfold cj.gd;rcases qo hi A with⟨b,e,h0,f⟩|⟨b,e⟩
 ·rw[e,aE V];by_cases c:(s.T.getD (s.rs.getD A (0,0)).2.toNat t0).1=5
  ·exact aJ ⟨mI.2 ⟨b,c⟩,aH c,h0⟩
  ·exact aI ⟨fun d=>c (mI.1 d).2,aE c⟩
 ·rw[e,aH aa];exact aI ⟨fun d=>b (mI.1 d).1,rfl⟩
theorem te (hi:dD s j)(A:Nat):(ig s.T (s.rs.getD A (0,0))=true/\s.th A=(s.rs.getD A (0,0)).2/\¬(s.th A<0\/(s.T.getD (s.th A).toNat (0,[],false,false)).1=5))\/(¬ig s.T (s.rs.getD A (0,0))=true/\(s.th A<0\/(s.T.getD (s.th A).toNat (0,[],false,false)).1=5)):=by
 rcases qo hi A with⟨d,e,h0,f⟩|⟨d,e⟩
 ·rw[e];by_cases c:(s.T.getD (s.rs.getD A (0,0)).2.toNat t0).1=5
  ·exact aI ⟨fun b=>(kA.1 b).2 c,aI c⟩
  ·exact aJ ⟨kA.2 ⟨d,c⟩,rfl,fun b=>b.elim (fun b=>by omega) (fun b=>c b)⟩
 ·exact aI ⟨fun b=>d (kA.1 b).1,aJ V⟩
theorem x4 (hi:dD s j)(A:Nat)(I:Int):s.fc (s.rs.getD A (0,0)) I=s.gc A I:=by
 unfold cj.fc cj.gc;rcases te hi A with⟨b,d,c⟩|⟨b,c⟩
 ·rw[aH b,aE c,d];rfl
 ·rw[aE b,aH c]
theorem x5 (hi:dD s j)(A:Nat)(I:Int)(h:s.gc A I=0):s.th A=(s.rs.getD A (0,0)).2:=by
 unfold cj.gc at h;rcases te hi A with⟨b,c,d⟩|⟨b,d⟩
 ·exact c
 ·omega
end
section
variable {rp rb j:Nat}{b9 bY:Int}{F:Nat->Prop}{s:cj}{w:au}{g:gS}
theorem EF (h:(cn rp rb b9 bY).J F s w)(hi:dD s j)(hg:d9 s.T s.wt (g s.T s.wt))(E:j<=10000)(h0:0<=bY)(m:bY<=100000)(u:0<=b9)(m1:b9<=100000)(k R A B I n:Int):
 Calls prog 14 #[aj rp,gm k R A B I n] w fun e w'=>∃i,e=.returned (ah (s.es g b9 bY k R A B I n).1)/\(cn rp rb b9 bY).J i (s.es g b9 bY k R A B I n).2 w'/\b_ F w i w':=by
 have o:=hi.qm E;have x:=o.t12;by_cases hc:dF k R A B n=0
 case neg=>
  have e:s.es g b9 bY k R A B I n=(dF k R A B n,s):=by unfold cj.es;rw[aE hc]
  rw[e];refine(DQ h k R A B I n hc).mono ?_;rintro e w' ⟨rfl,C,D⟩
  exact⟨F,rfl,C,D⟩
 have hs:=DP I hc;have l:cP k=3\/cP k=6\/cP k=7->∃a:Nat,A=a/\a<12:=fun v=>by have m:=nD hc v;exact⟨A.toNat,V,V⟩
 have t:cP k=6\/cP k=7->∃a:Nat,B=a/\a<12:=fun v=>by have m:=nE hc v;exact⟨B.toNat,V,V⟩
 have f:cP k=1\/cP k=3\/cP k=7->∃a:Nat,R=a/\a<12:=fun v=>by have m:=xB hc v;exact⟨R.toNat,V,V⟩
 have one:∀cd p,s.es g b9 bY k R A B I n=(cd,p)->(Calls prog 14 #[aj rp,gm k R A B I n] w fun e w'=>∃i,e=.returned (ah cd)/\(cn rp rb b9 bY).J i p w'/\b_ F w i w')->Calls prog 14 #[aj rp,gm k R A B I n] w fun e w'=>∃i,e=.returned (ah (s.es g b9 bY k R A B I n).1)/\(cn rp rb b9 bY).J i (s.es g b9 bY k R A B I n).2 w'/\b_ F w i w':=fun cd p e P=>by rw[e];exact P
 have two:∀cd p,s.es g b9 bY k R A B I n=(cd,p)->(Calls prog 14 #[aj rp,gm k R A B I n] w fun e w'=>e=.returned (ah cd)/\(cn rp rb b9 bY).J F p w'/\b_ F w F w')->Calls prog 14 #[aj rp,gm k R A B I n] w fun e w'=>∃i,e=.returned (ah (s.es g b9 bY k R A B I n).1)/\(cn rp rb b9 bY).J i (s.es g b9 bY k R A B I n).2 w'/\b_ F w i w':=fun cd p e P=>by
  rw[e];refine P.mono ?_;rintro e w' ⟨rfl,C,D⟩
  exact⟨F,rfl,C,D⟩
 rcases oD k with rfl|rfl|rfl|rfl|rfl|rfl|rfl|rfl|rfl|rfl|rfl|rfl|rfl|rfl|rfl|rfl|hk
 ·obtain⟨R,rfl,b⟩:=f aa;refine two _ _ ?_ (DR h R b A B I n hs)
  unfold cj.es;rw[aH hc];rfl
 ·obtain⟨R,rfl,b⟩:=f aa;refine two _ _ ?_ (DS h R b A B I n hs)
  unfold cj.es;rw[aH hc];rfl
 ·obtain⟨R,rfl,b⟩:=f aa;obtain⟨A,rfl,d⟩:=l aa;refine two _ _ ?_ (DT h R A b d B I n hs)
  unfold cj.es;rw[aH hc];rfl
 ·obtain⟨R,rfl,b⟩:=f aa;obtain⟨A,rfl,d⟩:=l aa;obtain⟨B,rfl,hB⟩:=t aa;refine one _ _ ?_ (DX h o h0 m u m1 g hg R A B b d hB I n hs)
  unfold cj.es;rw[aH hc];rfl
 ·obtain⟨R,rfl,b⟩:=f aa;obtain⟨A,rfl,d⟩:=l aa;have G:=s_ hc;obtain⟨n,rfl⟩:=Int.eq_ofNat_of_zero_le G.1;refine one _ _ ?_ (D2 h o h0 m u m1 g hg R A n b d V B I hs)
  unfold cj.es;rw[aH hc];rfl
 ·obtain⟨R,rfl,b⟩:=f aa;obtain⟨A,rfl,d⟩:=l aa;obtain⟨B,rfl,hB⟩:=t aa;refine one _ _ ?_ (DY h o h0 m u m1 g hg R A B b d hB I n hs)
  unfold cj.es;rw[aH hc];rfl
 ·obtain⟨R,rfl,b⟩:=f aa;obtain⟨A,rfl,d⟩:=l aa;obtain⟨B,rfl,hB⟩:=t aa;refine one _ _ ?_ (DZ h o h0 m u m1 g hg R A B b d hB I n hs)
  unfold cj.es;rw[aH hc];rfl
 ·obtain⟨R,rfl,b⟩:=f aa;refine one _ _ ?_ (D0 h o h0 m u m1 g hg R b A B I n hs)
  unfold cj.es;rw[aH hc];rfl
 ·obtain⟨A,rfl,d⟩:=l aa;obtain⟨B,rfl,hB⟩:=t aa;refine one _ _ ?_ (D7 h A B d hB (oW hi B) (by have:=hi.en;omega) (by have:=hi.en;omega) R I n hs)
  have e:s.es g b9 bY 9 R A B I n=s.reg (s.rs.getD A (0,0)) (s.rs.getD B (0,0)):=by unfold cj.es;rw[aH hc];rfl
  rw[e];unfold cj.reg;rcases qo hi A with⟨a1,a2,H,_⟩|⟨a1,a2⟩
  ·rcases xZ hi B with⟨b1,b2,b3⟩|⟨b1,b2⟩
   ·have n1:¬(s.th A<0\/s.gd B<0):=by rw[a2,b2];omega
    by_cases c:24<=s.rg.length+s.wt.length
    ·have q:s.jC A B=3:=by unfold cj.jC;rw[aE n1,aH c]
     rw[q,aH ⟨a1,b1⟩,aH c];rfl
    ·have q:s.jC A B=0:=by unfold cj.jC;rw[aE n1,aE c]
     rw[q,aH ⟨a1,b1⟩,aE c,aH rfl,a2,b2]
   ·have q:s.jC A B=2:=by unfold cj.jC;rw[aH (aI (by rw[b2];decide))]
    rw[q,aE (fun c=>b1 c.2)];rfl
  ·have q:s.jC A B=2:=by unfold cj.jC;rw[aH (aJ (by rw[a2];decide))]
   rw[q,aE (fun c=>a1 c.1)];rfl
 ·obtain⟨R,rfl,b⟩:=f aa;obtain⟨A,rfl,d⟩:=l aa;refine one _ _ ?_ (El h R A b d B I n hs (oW hi A) (by have:=hi.en;omega))
  have e:s.es g b9 bY 10 R A B I n=if(s.pop (s.rs.getD A (0,0))).2.1=0 then(0,{(s.pop (s.rs.getD A (0,0))).2.2 with rs:=(s.pop (s.rs.getD A (0,0))).2.2.rs.set R (s.pop (s.rs.getD A (0,0))).1}) else((s.pop (s.rs.getD A (0,0))).2.1,(s.pop (s.rs.getD A (0,0))).2.2):=by unfold cj.es;rw[aH hc];rfl
  rw[e];unfold cj.pop;rcases xZ hi A with⟨b1,b2,b3⟩|⟨b1,b2⟩
  ·have n1:¬s.gd A<0:=by rw[b2];omega
   rw[aH b1,aE n1,aE n1,b2];by_cases c:dR (s.rs.getD A (0,0)).2 s.wt<s.wt.length
   ·rw[aH c,aH c,aH c];rfl
   ·rw[aE c,aE c,aE c];rfl
  ·rw[aE b1,b2];rfl
 ·obtain⟨R,rfl,b⟩:=f aa;obtain⟨A,rfl,d⟩:=l aa;refine two _ _ ?_ (D_ h R A b d I (oW hi A) x o.tl B n hs)
  have e:s.es g b9 bY 11 R A B I n=if s.fc (s.rs.getD A (0,0)) I=0 then(0,{s with rs:=s.rs.set R (if s.fc (s.rs.getD A (0,0)) I=0 then(s.T.getD (s.rs.getD A (0,0)).2.toNat t0).2.1.getD I.toNat (0,0) else(0,0))}) else(s.fc (s.rs.getD A (0,0)) I,s):=by unfold cj.es;rw[aH hc];rfl
  rw[e,x4 hi];by_cases c:s.gc A I=0
  ·rw[aH c,aH c,aH c,c];unfold cj.gf;rw[x5 hi A I c];rfl
  ·rw[aE c,aE c]
 ·obtain⟨A,rfl,d⟩:=l aa;obtain⟨B,rfl,hB⟩:=t aa;refine one _ _ ?_ (Ea h A B d hB I (oW hi A) x o.tl R n hs)
  have e:s.es g b9 bY 12 R A B I n=(s.fc (s.rs.getD A (0,0)) I,if s.fc (s.rs.getD A (0,0)) I=0 then {s with T:=mJ s.T (s.rs.getD A (0,0)).2.toNat I.toNat (s.rs.getD B (0,0))} else s):=by unfold cj.es;rw[aH hc];rfl
  rw[e,x4 hi];by_cases c:s.gc A I=0
  ·rw[aH c,aH c];unfold cj.qj;rw[x5 hi A I c];rfl
  ·rw[aE c,aE c]
 ·obtain⟨R,rfl,b⟩:=f aa;obtain⟨A,rfl,d⟩:=l aa;refine two _ _ ?_ (Em h R A b d B I n hs (oW hi A) x)
  have e:s.es g b9 bY 13 R A B I n=if(if ig s.T (s.rs.getD A (0,0))=true then((1,((s.T.getD (s.rs.getD A (0,0)).2.toNat t0).2.1.length:Int)),0,s) else((0,0),2,s):(Int×Int)×Int×cj).2.1=0 then(0,{(if ig s.T (s.rs.getD A (0,0))=true then((1,((s.T.getD (s.rs.getD A (0,0)).2.toNat t0).2.1.length:Int)),0,s) else((0,0),2,s):(Int×Int)×Int×cj).2.2 with rs:=(if ig s.T (s.rs.getD A (0,0))=true then((1,((s.T.getD (s.rs.getD A (0,0)).2.toNat t0).2.1.length:Int)),0,s) else((0,0),2,s):(Int×Int)×Int×cj).2.2.rs.set R (if ig s.T (s.rs.getD A (0,0))=true then((1,((s.T.getD (s.rs.getD A (0,0)).2.toNat t0).2.1.length:Int)),0,s) else((0,0),2,s):(Int×Int)×Int×cj).1}) else((if ig s.T (s.rs.getD A (0,0))=true then((1,((s.T.getD (s.rs.getD A (0,0)).2.toNat t0).2.1.length:Int)),0,s) else((0,0),2,s):(Int×Int)×Int×cj).2.1,(if ig s.T (s.rs.getD A (0,0))=true then((1,((s.T.getD (s.rs.getD A (0,0)).2.toNat t0).2.1.length:Int)),0,s) else((0,0),2,s):(Int×Int)×Int×cj).2.2):=by unfold cj.es;rw[aH hc];rfl
  rw[e];rcases te hi A with⟨b1,b2,b3⟩|⟨b1,b3⟩
  ·rw[aH b1,aE b3,aE b3,b2];rfl
  ·rw[aE b1,aH b3,aH b3];rfl
 ·obtain⟨R,rfl,b⟩:=f aa;obtain⟨A,rfl,d⟩:=l aa;obtain⟨B,rfl,hB⟩:=t aa;refine two _ _ ?_ (Ep h R A B b d hB I n hs)
  unfold cj.es;rw[aH hc];rfl
 ·refine one _ _ ?_ (xD h o h0 m false (g s.T s.wt) hg 15 R A B I n rfl hs)
  unfold cj.es;rw[aH hc];rfl
 ·refine one _ _ ?_ (xD h o h0 m true (g s.T s.wt) hg 16 R A B I n rfl hs)
  unfold cj.es;rw[aH hc];rfl
 ·exfalso;unfold dF at hc;rw[aH (oE hk)] at hc;omega
end
def jg (e:TypeId):Prop:=e=96\/e=60\/e=3\/e=87
structure eZ (B:Nat)(w w':au):Prop where
 os:w'.os=w.os
 tape:w'.tape=w.tape
 output:w'.output=w.output
 size:w.heap.size<=w'.heap.size
 low:∀k:Nat,k<w.heap.size->k<B->w'.heap[k]?=w.heap[k]?
 fF:∀(k:Nat) cs e m,w.heap[k]?=some (Obj.cells cs e m)->¬jg e->w'.heap[k]?=w.heap[k]?
section
variable {B:Nat}{w w' w'':au}
theorem eZ.refl (B:Nat)(w:au):eZ B w w:=⟨rfl,rfl,rfl,aA _,fun _ _ _=>rfl,fun _ _ _ _ _ _=>rfl⟩
theorem eZ.trans (h:eZ B w w')(k:eZ B w' w''):eZ B w w'':=
 ⟨k.os.trans h.os,k.tape.trans h.tape,k.output.trans h.output,aP h.size k.size,fun i hi d=>(k.low i (aM hi h.size) d).trans (h.low i hi d),fun i b e m hi c=>(k.fF i b e m ((h.fF i b e m hi c).trans hi) c).trans (h.fF i b e m hi c)⟩
theorem eZ.of (h:Below w.heap.size w w'):eZ B w w':=⟨h.os,h.tape,h.output,h.size,fun k hk _=>h.block k hk,fun k _ _ _ hi _=>h.block k (lt_of_some hi)⟩
theorem eZ.below (h:eZ B w w')(hB:B<=w.heap.size):Below B w w':=⟨h.os,h.tape,h.output,h.size,fun k hk=>h.low k V hk⟩
theorem eZ.fr {X:Nat->Prop}(f:Fr X w w')(d:∀k,X k->B<=k/\∀b e m,w.heap[k]?=some (Obj.cells b e m)->jg e):eZ B w w':=
 ⟨f.os,f.tape,f.output,f.size,fun k hk i=>f.block k hk (fun c=>by have:=(d k c).1;omega),fun k b e m hk g=>f.block k (lt_of_some hk) (fun c=>g ((d k c).2 b e m hk))⟩
theorem eZ.new {X:Nat->Prop}(h:eZ B w w')(f:Fr X w' w'')(c:∀k,X k->w.heap.size<=k):eZ B w w'':=
 ⟨f.os.trans h.os,f.tape.trans h.tape,f.output.trans h.output,aP h.size f.size,fun k hk d=>(f.block k (aM hk h.size) (fun b=>by have:=c k b;omega)).trans (h.low k hk d),fun k g e m hk i=>(f.block k (aM (lt_of_some hk) h.size) (fun b=>by have j:=c k b;have l:=lt_of_some hk;omega)).trans (h.fF k g e m hk i)⟩
theorem f7.kw {d:Option Addr}{l:List _}(h:f7 w d l)(k:eZ B w w'):f7 w' d l:=by
 have hk:0<l.length->∀b,d=some b->w'.heap[b.block]?=w.heap[b.block]?:=fun hp b e=>by obtain⟨g,i,j,c,f⟩:=h.2 hp;rw[c] at e;cases e;exact k.fF _ _ _ _ f (by unfold jg;decide)
 refine⟨h.1.keep k.size hk,fun hp=>?_⟩
 obtain⟨g,i,j,c,f⟩:=h.2 hp;exact⟨g,i,j,c,(hk hp _ c).trans f⟩
end
def Kx (w0 w:au)(m:List dm)(w':au)(b:List dm):Prop:=eZ w0.heap.size w w'/\∀k,fA b k->fA m k\/w.heap.size<=k
theorem Kx.refl (w0 w:au)(m:List dm):Kx w0 w m w m:=⟨eZ.refl _ _,fun _ h=>aJ h⟩
theorem Kx.trans {w0 w w' b:au}{m c d:List dm}(h:Kx w0 w m w' c)(k:Kx w0 w' c b d):Kx w0 w m b d:=
 ⟨h.1.trans k.1,fun i hi=>(k.2 i hi).elim (h.2 i) (fun e=>aI (aP h.1.size e))⟩
theorem Kx.of {w0 w w':au}{m:List dm}(h:Below w.heap.size w w'):Kx w0 w m w' m:=⟨eZ.of h,fun _ b=>aJ b⟩
abbrev kD (mb b c fb:Nat):Value:=.func (.func 49) #[] #[aj mb,aj b,aj c,aj fb]
structure eh (w0 w:au)(mb bb vb fb:Nat)(s:cL)(va vn vr:Value)(m:List dm):Prop where
 dt:Below w0.heap.size w0 w
 lo:w0.heap.size<=mb/\w0.heap.size<=vb/\w0.heap.size<=fb
 fc:w.heap[fb]?=some (.cells #[kD mb bb vb fb] 111 (0,0))
 mc:w.heap[mb]?=some (.cells #[va] 96 (0,0))
 vc:w.heap[vb]?=some (.cells #[vr,vn] 60 (0,0))
 mr:w.ownsRow w0.heap.size 3 1 va s.1.length (s.1.map (Value.int .i64))
 nr:w.ownsRow w0.heap.size 87 2 vn m.length (nv m)
 nd:iu m=s.2
 fl:∀x∈m,f7 w x.2.1 x.2.2.2
section
variable {w0 w w':au}{mb bb vb fb:Nat}{s:cL}{va vn vr:Value}{m:List dm}
theorem eh.tf (h:eh w0 w mb bb vb fb s va vn vr m)(k:Nat)(hk:fA m k):k<w.heap.size:=by exact wT
theorem eh.len (h:eh w0 w mb bb vb fb s va vn vr m):m.length=s.2.length:=by rw[<-h.nd];simp[iu]
theorem eh.cells (h:eh w0 w mb bb vb fb s va vn vr m):w.cell? (am mb 0)=some va/\w.cell? (am vb 1)=some vn/\w.cell? (am fb 0)=some (kD mb bb vb fb)/\mb<w.heap.size/\vb<w.heap.size/\fb<w.heap.size/\(∀o,w.frozen? (am mb o)=false)/\(∀o,w.frozen? (am vb o)=false)/\w.cell? (am vb 0)=some vr:=
 ⟨by simp[World.cell?,h.mc],by simp[World.cell?,h.vc],by simp[World.cell?,h.fc],lt_of_some h.mc,lt_of_some h.vc,lt_of_some h.fc,fun o=>by simp[World.frozen?,h.mc],fun o=>by simp[World.frozen?,h.vc],by simp[World.cell?,h.vc]⟩
theorem eh.but {X:Nat->Prop}(h:eh w0 w mb bb vb fb s va vn vr m)(f:Fr X w w')(o:∀k,k<w.heap.size->X k->(∃c,w.heap[k]?=some (.cells c 77 (0,0)))/\¬fA m k/\w0.heap.size<=k):eh w0 w' mb bb vb fb s va vn vr m:=by
 have hk:∀k c e A,w.heap[k]?=some (Obj.cells c e A)->e≠77->_=_:=fun k c e A hk p=>f.block k (lt_of_some hk) (fun d=>by obtain⟨⟨G,q⟩,_⟩:=o k (lt_of_some hk) d;rw[hk] at q;simp at q;exact p q.2.1)
 have B:∀{b n sz:Nat}{e:TypeId}{v:Value}{l:List Value},w.ownsRow b e sz v n l->e≠77->_:=fun C p=>cv C (fun k F=>by obtain⟨c,hc⟩:=dZ C k F;exact hk k _ _ _ hc p)
 refine⟨⟨f.os.trans h.dt.os,f.tape.trans h.dt.tape,f.output.trans h.dt.output,aP h.dt.size f.size,fun k t=>(f.block k (aM t h.dt.size) (fun d=>?_)).trans (h.dt.block k t)⟩,h.lo,(hk _ _ _ _ h.fc aa).trans h.fc,(hk _ _ _ _ h.mc aa).trans h.mc,(hk _ _ _ _ h.vc aa).trans h.vc,B h.mr aa,B h.nr aa,h.nd,fun x i=>?_⟩
 ·have:=(o k (aM t h.dt.size) d).2.2;omega
 ·have D:0<x.2.2.2.length->∀a,x.2.1=some a->w'.heap[a.block]?=w.heap[a.block]?:=fun hp a e=>by obtain⟨E,u,c,g,j⟩:=(h.fl x i).2 hp;rw[g] at e;cases e;exact f.block _ (lt_of_some j) (fun d=>(o _ (lt_of_some j) d).2.1 ⟨x,i,hp,u,g⟩)
  refine⟨(h.fl x i).1.keep f.size D,fun hp=>?_⟩
  obtain⟨E,u,c,g,j⟩:=(h.fl x i).2 hp;exact⟨E,u,c,g,(D hp _ g).trans j⟩
theorem eh.below (h:eh w0 w mb bb vb fb s va vn vr m)(b:Below w.heap.size w w'):eh w0 w' mb bb vb fb s va vn vr m:=
 h.but (X:=fun _=>False) (Fr.of b) (fun _ _ c=>c.elim)
theorem eh.meets (h:eh w0 w mb bb vb fb s va vn vr m)(a:Int){w1:au}{g:Value}(f:Fr (fun k=>some k=va.ownBlock) w w1)(n:w1.ownsRow w0.heap.size 3 1 g (s.1++[a]).length ((s.1++[a]).map (Value.int .i64))):eh w0 (w1.setCell ⟨mb,0,none⟩ g) mb bb vb fb (s.1++[a],s.2) g vn vr m/\eZ w0.heap.size w (w1.setCell ⟨mb,0,none⟩ g):=by
 have i:∀k,some k=va.ownBlock->_:=fun k e=>dZ h.mr k e;have o:Fr (fun k=>some k=va.ownBlock\/k=mb) w (w1.setCell ⟨mb,0,none⟩ g):=(f.mono (fun _ b=>aJ b)).set mb _ _ (aI rfl)
 have hk:∀k d e j,w.heap[k]?=some (Obj.cells d e j)->e≠3->e≠96->_=_:=fun k d e j hk p q=>o.block k (lt_of_some hk) (fun b=>by
  rcases b with b|b
  ·obtain⟨l,c⟩:=i k b;rw[hk] at c;simp at c;exact p c.2.1
  ·rw[b,h.mc] at hk;simp at hk;exact q hk.2.1.symm)
 have kw:=eZ.fr o (fun k b=>by
  rcases b with b|b
  ·refine⟨(ce h.mr k b).1,fun d e j hc=>?_⟩
   obtain⟨l,c⟩:=i k b;rw[hc] at c;simp at c;exact aI (aI (aJ c.2.1))
  ·refine⟨by rw[b];exact h.lo.1,fun d e j hc=>?_⟩
   rw[b,h.mc] at hc;simp at hc;exact aJ hc.2.1.symm)
 refine⟨⟨h.dt.trans (kw.below h.dt.size),h.lo,(hk _ _ _ _ h.fc aa aa).trans h.fc,?_,(hk _ _ _ _ h.vc aa aa).trans h.vc,cv n (fun k e=>aN _ _ _ _ (fun t=>?_)),cv h.nr (fun k u=>by obtain⟨d,hc⟩:=dZ h.nr k u;exact hk k _ _ _ hc aa aa),h.nd,fun x v=>(h.fl x v).kw kw⟩,kw⟩
 ·have hq:=(f.block mb (lt_of_some h.mc) (fun e=>by obtain⟨l,c⟩:=i mb e;rw[h.mc] at c;simp at c)).trans h.mc;simp only [World.setCell,Array.getElem?_modify,if_true,hq,Option.map_some];simp
 ·obtain⟨d,hc⟩:=dZ n k e;have hq:=(f.block mb (lt_of_some h.mc) (fun e=>by obtain⟨l,c⟩:=i mb e;rw[h.mc] at c;simp at c)).trans h.mc;rw[t,hq] at hc;simp at hc
theorem eh.EG (h:eh w0 w mb bb vb fb s va vn vr m)(k0:Int){w1:au}{i:Value}(f:Fr (fun k=>some k=vn.ownBlock) w w1)(n:w1.ownsRow w0.heap.size 87 2 i (m++[(k0,none,0,[])]).length (nv (m++[(k0,none,0,[])]))):eh w0 (w1.setCell ⟨vb,1,none⟩ i) mb bb vb fb (s.1,s.2++[(k0,[])]) va i vr (m++[(k0,none,0,[])])/\eZ w0.heap.size w (w1.setCell ⟨vb,1,none⟩ i):=by
 have l:∀k,some k=vn.ownBlock->_:=fun k e=>dZ h.nr k e;have o:Fr (fun k=>some k=vn.ownBlock\/k=vb) w (w1.setCell ⟨vb,1,none⟩ i):=(f.mono (fun _ b=>aJ b)).set vb _ _ (aI rfl)
 have hk:∀k d e j,w.heap[k]?=some (Obj.cells d e j)->e≠87->e≠60->_=_:=fun k d e j hk q t=>o.block k (lt_of_some hk) (fun b=>by
  rcases b with b|b
  ·obtain⟨p,c⟩:=l k b;rw[hk] at c;simp at c;exact q c.2.1
  ·rw[b,h.vc] at hk;simp at hk;exact t hk.2.1.symm)
 have kw:=eZ.fr o (fun k b=>by
  rcases b with b|b
  ·refine⟨(ce h.nr k b).1,fun d e j hc=>?_⟩
   obtain⟨p,c⟩:=l k b;rw[hc] at c;simp at c;exact aI (aI (aI c.2.1))
  ·refine⟨by rw[b];exact h.lo.2.1,fun d e j hc=>?_⟩
   rw[b,h.vc] at hc;simp at hc;exact aI (aJ hc.2.1.symm))
 have hq:=(f.block vb (lt_of_some h.vc) (fun e=>by obtain⟨p,c⟩:=l vb e;rw[h.vc] at c;simp at c)).trans h.vc;refine⟨⟨h.dt.trans (kw.below h.dt.size),h.lo,(hk _ _ _ _ h.fc aa aa).trans h.fc,(hk _ _ _ _ h.mc aa aa).trans h.mc,?_,cv h.mr (fun k u=>by obtain⟨d,hc⟩:=dZ h.mr k u;exact hk k _ _ _ hc aa aa),cv n (fun k e=>aN _ _ _ _ (fun v=>?_)),?_,fun x g=>?_⟩,kw⟩
 ·simp only [World.setCell,Array.getElem?_modify,if_true,hq,Option.map_some];simp
 ·obtain⟨d,hc⟩:=dZ n k e;rw[v,hq] at hc;simp at hc
 ·have:=h.nd;simp[iu] at this⊢
  exact this
 ·rcases List.mem_append.1 g with g|g
  ·exact(h.fl x g).kw kw
  ·simp at g;subst g;exact f7.nil
theorem eh.filled {g l len:Nat}(h:eh w0 w mb bb vb fb s va (.slice (ak g) len l) vr m){i:Nat}{k0:Int}{v0:List _}(hi:s.2[i]?=some (k0,v0)){base c2:Nat}{a2:Option Addr}{b:List _}
 (hr:w.ownsRow base 77 2 (.slice a2 b.length c2) b.length (ev b)):
 eh w0 (w.setCell ⟨g,i*2+1,none⟩ (.slice a2 b.length c2)) mb bb vb fb (s.1,s.2.set i (k0,b)) va (.slice (ak g) len l) vr (m.set i (k0,a2,c2,b))/\eZ w0.heap.size w (w.setCell ⟨g,i*2+1,none⟩ (.slice a2 b.length c2))/\(∀k,fA (m.set i (k0,a2,c2,b)) k->fA m k\/base<=k):=by
 obtain⟨B,n⟩:=dZ h.nr g rfl;have p:Fr (fun k=>k=g) w (w.setCell ⟨g,i*2+1,none⟩ (.slice a2 b.length c2)):=(Fr.refl _ w).set g _ _ rfl;have hk:∀k c e j,w.heap[k]?=some (Obj.cells c e j)->e≠87->_=_:=fun k c e j hk q=>p.block k (lt_of_some hk) (fun d=>by rw[d,n] at hk;simp at hk;exact q hk.2.1.symm)
 have kw:=eZ.fr p (fun k d=>by
  refine⟨by rw[d];exact(ce h.nr g rfl).1,fun c e j hc=>?_⟩
  rw[d,n] at hc;simp at hc;exact aI (aI (aI hc.2.1.symm)))
 obtain⟨x,hx,t⟩:∃x:dm,m[i]?=some x/\(x.1,x.2.2.2)=(k0,v0):=by exact w7
 have u:x.1=k0:=congrArg Prod.fst t;have v:len=m.length:=by
  rcases h.nr.2 with⟨f,_⟩|⟨C,D,E,f,_⟩
  ·simp at f
  ·simp at f;exact f.2.1
 refine⟨⟨h.dt.trans (kw.below h.dt.size),h.lo,(hk _ _ _ _ h.fc aa).trans h.fc,(hk _ _ _ _ h.mc aa).trans h.mc,(hk _ _ _ _ h.vc aa).trans h.vc,cv h.mr (fun k e=>by obtain⟨c,hc⟩:=dZ h.mr k e;exact hk k _ _ _ hc aa),?_,?_,fun y hy=>?_⟩,kw,fun k A=>?_⟩
 ·rw[aX,<-u,rZ m i x a2 c2 b hx];have:=h.nr;rw[<-v] at this⊢
  exact jq this _ _
 ·rw[iu,List.map_set];show((iu m).set i (k0,b))=_;rw[h.nd]
 ·rcases bB hy with hy|hy
  ·exact(h.fl y hy).kw kw
  ·subst hy;exact(f7.of hr).kw kw
 ·obtain⟨y,hy,hl,o,e⟩:=A;exact w6
end
section
variable {w0 w:au}{mb bb vb fb:Nat}{s:cL}{va vn vr:Value}{m:List dm}
abbrev jV (k x:Int)(mb bb vb fb:Nat):Array Value:=#[.agg #[ah k,ah x],aj mb,aj bb,aj vb,aj fb]
theorem x6 (w:au)(k x:Int)(f:k≠3):Calls prog 49 (jV k x mb bb vb fb) w fun e w'=>e=.returned (.agg #[ah k,ah x])/\Below w.heap.size w w':=by
 have b:=hide ((an w (.cells #[.int .i64 k,.int .i64 x] 77)).alloc Z (.cells #[.int .i64 k,.int .i64 x] 77))
 have hg:=aL (w.alloc (.cells #[.int .i64 k,.int .i64 x] 77)) (.cells #[.int .i64 k,.int .i64 x] 77)
 have c:=hide hg;go_enter func49,ntmps49;go_wp2_with fail;have d:(w.alloc (.cells #[.int .i64 k,.int .i64 x] 77)).heap.size=w.heap.size+1:=Z;have hg:=c.o;rw[d] at hg;have g0:((w.alloc (.cells #[.int .i64 k,.int .i64 x] 77)).alloc (.cells #[.int .i64 k,.int .i64 x] 77)).cell? (am (w.heap.size+1) 0)=some (ah k):=by unfold World.cell?;rw[hg];rfl
 have g1:((w.alloc (.cells #[.int .i64 k,.int .i64 x] 77)).alloc (.cells #[.int .i64 k,.int .i64 x] 77)).cell? (am (w.heap.size+1) 1)=some (ah x):=by unfold World.cell?;rw[hg];rfl
 exact bv (v:=.agg #[ah k,ah x]) (by simp[results,results49,go_sem,g0,g1]) rfl ⟨rfl,b.o⟩
theorem x7 (h:eh w0 w mb bb vb fb s va vn vr m)(x:Int)(hl:s.1.length<=100000)(hs:s.1.contains x=true):Calls prog 49 (jV 3 x mb bb vb fb) w fun e w'=>e=.returned (.agg #[ah 3,ah (s.1.idxOf x)])/\Below w.heap.size w w':=by
 obtain⟨ms,R⟩:=s;dsimp only at hl hs⊢;have I:=List.idxOf_lt_length_of_mem (List.contains_iff_mem.1 hs)
 obtain⟨J,K,L⟩:=dQ h.mr;subst L;obtain⟨f,cb,M⟩:=dW h.mr (by show 0<ms.length;omega)
 obtain⟨rfl,rfl⟩:J=ak f/\K=cb:=by simpa using M
 have n:=(an w (.cells #[.int .i64 3,.int .i64 x] 77)).alloc Z (.cells #[.int .i64 0,.int .i64 0] 77)
 have A:av (Below w.heap.size w ((w.alloc (.cells #[.int .i64 3,.int .i64 x] 77)).alloc (.cells #[.int .i64 0,.int .i64 0] 77))):=n;have B:av (∀j,j<ms.length->((w.alloc (.cells #[.int .i64 3,.int .i64 x] 77)).alloc (.cells #[.int .i64 0,.int .i64 0] 77)).cell? (am f j)=some (ah (ms.getD j 0))):=fun j b=>by have C:=(e8 h.mr (i:=j) (u:=ah (ms.getD j 0)) (by show(ms.map (Value.int .i64))[j]?=_;rw[bq,aG b,aC,aG b];rfl)).1;exact(n.cell (p:=am f j) (aK w _ C)).trans C
 have c0:=(n.cell (p:=am mb 0) h.cells.2.2.2.1).trans h.cells.1;have D:av (ms.getD (ms.idxOf x) 0=x/\∀j,ms.getD j 0=x->j<ms.length->ms.idxOf x<=j):=⟨by
  rw[aC,aG I];simp,fun j b N=>by
  rcases Nat.lt_or_ge j (ms.idxOf x) with o|o
  ·exfalso;rw[aC,aG N] at b;have b:ms[j]=x:=b;have q:=List.not_of_lt_findIdx (p:=fun y=>y==x) (xs:=ms) o;simp[b] at q
  ·exact o⟩
 generalize S:ms.idxOf x=E at*;go_enter func49,ntmps49;go_wp2_with fail;have g:av (((w.alloc (.cells #[.int .i64 3,.int .i64 x] 77)).alloc (.cells #[.int .i64 0,.int .i64 0] 77)).heap[w.heap.size+1]?=some (.cells #[.int .i64 0,.int .i64 0] 77 (0,0))/\((w.alloc (.cells #[.int .i64 3,.int .i64 x] 77)).alloc (.cells #[.int .i64 0,.int .i64 0] 77)).heap[w.heap.size]?=some (.cells #[.int .i64 3,.int .i64 x] 77 (0,0))/\((w.alloc (.cells #[.int .i64 3,.int .i64 x] 77)).alloc (.cells #[.int .i64 0,.int .i64 0] 77)).heap.size=w.heap.size+2):=by
  refine⟨?_,?_,Z⟩
  ·have:=aL (w.alloc (.cells #[.int .i64 3,.int .i64 x] 77)) (.cells #[.int .i64 0,.int .i64 0] 77)
   have e:(w.alloc (.cells #[.int .i64 3,.int .i64 x] 77)).heap.size=w.heap.size+1:=Z;rw[e] at this
   exact this
  ·exact(((aD (w.alloc (.cells #[.int .i64 3,.int .i64 x] 77)).heap.size (w.alloc (.cells #[.int .i64 3,.int .i64 x] 77))).alloc bW (.cells #[.int .i64 0,.int .i64 0] 77)).block w.heap.size Z).trans (aL w (.cells #[.int .i64 3,.int .i64 x] 77))
 generalize (w.alloc (.cells #[.int .i64 3,.int .i64 x] 77)).alloc (.cells #[.int .i64 0,.int .i64 0] 77)=l at*
 go_loopw [7] (fun iv wr=>∃j:Nat,j<=E/\iv=ah j/\av (Below l.heap.size l wr)) (fun iv _=>ms.length-(intOf iv).toNat)
 case atStart=>exact⟨0,aS _,rfl,aD _ _⟩
 case round=>
  obtain⟨j,b,rfl,c⟩:=hrel;have z0:=(c.o.cell (p:=am mb 0) (aK l _ c0)).trans c0;have t:j<ms.length:=V;have O:=(c.o.cell (p:=am f j) (aK l _ (B.o j t))).trans (B.o j t)
  have F:=(c.o.block w.heap.size (lt_of_some g.o.2.1)).trans g.o.2.1;have d:=(c.o.block (w.heap.size+1) (lt_of_some g.o.1)).trans g.o.1;have y1:wr.cell? (am w.heap.size 1)=some (ah x):=ay F
  have r0:wr.cell? (am (w.heap.size+1) 0)=some (ah 0):=ay d
  have r1:wr.cell? (am (w.heap.size+1) 1)=some (ah 0):=ay d
  have G:wr.frozen? (am (w.heap.size+1) 0)=false:=az d
  have U:wr.frozen? (am (w.heap.size+1) 1)=false:=az d
  have j0:(0:Int)<=(j:Int):=V;have W:(j:Int)<(ms.length:Int):=V;clear F d;by_cases P:j=E
  ·subst P;rw[D.o.1] at O;go_wp2_with fail
   go_quiet (fail)
   go_wp2_with fail;have Q:Fr (fun k=>k=w.heap.size+1) wr (((wr.drewN nq).setCell ⟨w.heap.size+1,0,none⟩ (.int .i64 3)).setCell ⟨w.heap.size+1,1,none⟩ (.int .i64 j)):=by
    have G:Fr (fun k=>k=w.heap.size+1) wr (wr.drewN nq):=Fr.of (below_drewN bX nq)
    exact(G.set (w.heap.size+1) 0 _ rfl).set (w.heap.size+1) 1 _ rfl
   have g0:(((wr.drewN nq).setCell ⟨w.heap.size+1,0,none⟩ (.int .i64 3)).setCell ⟨w.heap.size+1,1,none⟩ (.int .i64 j)).cell? (am (w.heap.size+1) 0)=some (ah 3):=by rw[a5 _ _ _ _ Z];exact a9 _ _ _ (u:=ah 0) r0
   have g1:(((wr.drewN nq).setCell ⟨w.heap.size+1,0,none⟩ (.int .i64 3)).setCell ⟨w.heap.size+1,1,none⟩ (.int .i64 j)).cell? (am (w.heap.size+1) 1)=some (ah j):=a9 _ _ _ (u:=ah 0) ((a5 _ _ _ _ Z).trans r1)
   have H:=A.o.trans (c.o.mono A.o.size)
   exact bv (v:=.agg #[ah 3,ah j]) (by simp[results,results49,go_sem,g0,g1]) rfl ⟨rfl,H.trans (Q.below H.size (fun k e=>by have e:=e;omega))⟩
  ·have X:(ms.getD j 0==x)=false:=by
    have:ms.getD j 0≠x:=fun e=>by have:=D.o.2 j e t;omega
    simpa using this
   generalize ms.getD j 0=y at*;go_wp2_with fail
   go_quiet (fail)
   go_wp2_with fail;go_roundw;exact⟨j+1,V,af,below_drewN c.o _⟩
   simp[intOf];omega
end
structure dJ (w0 w3 wr:au)(mb bb vb fb:Nat)(vr:Value)(m1:List dm)(P:List (Int×Int)×cL)(la:Option Addr)(lc:Nat)(va vn:Value)(m':List dm):Prop where
 hs:w0.heap.size<=w3.heap.size
 wv:eh w0 wr mb bb vb fb P.2 va vn vr m'
 kx:Kx w0 w3 m1 wr m'
 row:wr.ownsRow w3.heap.size 77 2 (.slice la P.1.length lc) P.1.length (ev P.1)
 no:∀k,fA m' k->¬some k=(Value.slice la P.1.length lc).ownBlock
section
variable {w0 w3 wr:au}{mb bb vb fb:Nat}{vr va vn:Value}{m1 m':List dm}{P:List (Int×Int)×cL}{la:Option Addr}{lc:Nat}
theorem dJ.start (h:eh w0 w3 mb bb vb fb P.2 va vn vr m1)(hp:P.1=[]):dJ w0 w3 w3 mb bb vb fb vr m1 P none 0 va vn m1:=
 ⟨h.dt.size,h,Kx.refl _ _ _,by rw[hp];exact a7 _ _ _ _,fun k _ e=>by cases e⟩
theorem dJ.call (h:dJ w0 w3 wr mb bb vb fb vr m1 P la lc va vn m'){b:au}{f:cL}{g i:Value}{c:List dm}(l:eh w0 b mb bb vb fb f g i vr c)(d:Kx w0 wr m' b c):dJ w0 w3 b mb bb vb fb vr m1 (P.1,f) la lc g i c:=
 ⟨h.hs,l,h.kx.trans d,cv h.row (fun k e=>by
  obtain⟨m,hc⟩:=dZ h.row k e;exact d.1.fF k _ _ _ hc (by unfold jg;decide)),fun k hk e=>by
  rcases d.2 k hk with j|j
  ·exact h.no k j e
  ·have:=(ce h.row k e).2;omega⟩
theorem dJ.below (h:dJ w0 w3 wr mb bb vb fb vr m1 P la lc va vn m'){b:au}(c:Below wr.heap.size wr b):dJ w0 w3 b mb bb vb fb vr m1 P la lc va vn m':=
 h.call (h.wv.below c) (Kx.of c)
theorem dJ.push (h:dJ w0 w3 wr mb bb vb fb vr m1 P la lc va vn m'){wq f:au}(hq:Below wr.heap.size wr wq){v:Int×Int}{c:Option Addr}{d:Nat}(hg:wq.grownBy f (Value.slice la P.1.length lc).ownBlock)(i:f.ownsRow w3.heap.size 77 2 (.slice c (P.1.length+1) d) (P.1.length+1) (ev P.1++ev [v]))(j:(Value.slice c (P.1.length+1) d).ownBlock=(Value.slice la P.1.length lc).ownBlock\/(Value.slice c (P.1.length+1) d).ownBlock=some wq.heap.size):
 dJ w0 w3 f mb bb vb fb vr m1 (P.1++[v],P.2) c d va vn m':=by
 have fr:=(Fr.of hq).grown hg (fun k e=>aJ (by simpa using e.symm))
 have g:(P.1++[v]).length=P.1.length+1:=Z;have l:ev (P.1++[v])=ev P.1++ev [v]:=by simp[ev]
 refine⟨h.hs,h.wv.but fr (fun k hk e=>?_),⟨h.kx.1.new fr (fun k e=>(ce h.row k e).1),h.kx.2⟩,by rw[g,l];exact i,fun k hk e=>?_⟩
 ·refine⟨dZ h.row k e,fun b=>h.no k b e,?_⟩
  have m:=(ce h.row k e).1;have:=h.hs;omega
 ·rw[g] at e;rcases j with b|b
  ·rw[b] at e;exact h.no k hk e
  ·rw[b] at e;have e:k=wq.heap.size:=by simpa using e
   have:=h.wv.tf k hk;have:=hq.size;omega
theorem dJ.box (h:dJ w0 w3 wr mb bb vb fb vr m1 P la lc va vn m'){b:Nat}{d:au}(f:Fr (fun k=>k=b) wr d)(i:w3.heap.size<=b)(ht:b<wr.heap.size->(∃g,wr.heap[b]?=some (.cells g 77 (0,0)))/\¬fA m' b/\¬some b=(Value.slice la P.1.length lc).ownBlock):dJ w0 w3 d mb bb vb fb vr m1 P la lc va vn m':=
 ⟨h.hs,h.wv.but f (fun k hk e=>by
  have e:=e;subst e;have:=h.hs;exact⟨(ht hk).1,(ht hk).2.1,V⟩),⟨h.kx.1.new f (fun k e=>by have e:=e;omega),h.kx.2⟩,cv h.row (fun k e=>f.block k (ce h.row k e).2 (fun c=>by
  have c:=c;subst c;exact(ht (ce h.row k e).2).2.2 e)),h.no⟩
theorem dJ.late {W:au}(d:dJ w0 w3 W mb bb vb fb vr m1 P la lc va vn m'){b:au}{g:cL}{i j:Value}{f:List dm}(n:dJ w0 w3 b mb bb vb fb vr m1 (P.1,g) la lc i j f)(l:Kx w0 (W.alloc (.cells #[.int .i64 0,.int .i64 0] 77)) m' b f)(v1 v2:Int):
 b.heap[W.heap.size]?=some (.cells #[ah 0,ah 0] 77 (0,0))/\dJ w0 w3 ((b.setCell ⟨W.heap.size,0,none⟩ (.int .i64 v1)).setCell ⟨W.heap.size,1,none⟩ (.int .i64 v2)) mb bb vb fb vr m1 (P.1,g) la lc i j f:=by
 have hc:=aL W (.cells #[.int .i64 0,.int .i64 0] 77)
 have m:=(l.1.fF _ _ _ _ hc (by unfold jg;decide)).trans hc;refine⟨m,n.box (((Fr.refl (fun k=>k=W.heap.size) b).set _ 0 _ rfl).set _ 1 _ rfl) d.kx.1.size (fun _=>⟨⟨_,m⟩,fun c=>?_,fun e=>?_⟩)⟩
 ·rcases l.2 _ c with c|c
  ·have:=d.wv.tf _ c;omega
  ·simp at c;omega
 ·have:=(ce d.row W.heap.size e).2;omega
end
namespace eR
def begins:=mG.begins
abbrev find:=mG.find
section
variable {w0 w3 wb:au}{mb bb vb fb:Nat}{vr:Value}
theorem x8 {wr:au}{mB m1 b:List dm}{P:List (Int×Int)×cL}{c:Option Addr}{d n rb:Nat}{o m:Value}{k0:Int}{v0:List (Int×Int)}(h:dJ w0 w3 wr mb bb vb fb vr m1 P c d o m b)(p:P.2.2[n]?=some (k0,v0))(x:P.2.2.length<=100000)(i:wr.heap[rb]?=some (.cells #[ah 0,ah 0] 77 (0,0)))(L:rb<w3.heap.size)(hlo:w0.heap.size<=rb)(A:¬fA b rb)(M:wb.heap.size<=rb)(q:Kx w0 wb mB wr b):
 ∃g j u,m=.slice (ak g) b.length j/\wr.cell? (am vb 1)=some (.slice (ak g) b.length j)/\n<b.length/\b.length<=100000/\wr.cell? (am g (n*2+1))=some u/\wr.frozen? (am g (n*2+1))=false/\wr.cell? (am rb 0)=some (ah 0)/\wr.cell? (am rb 1)=some (ah 0)/\wr.frozen? (am rb 0)=false/\wr.frozen? (am rb 1)=false/\g≠rb/\
  av ((∃s,eh w0 (((wr.setCell ⟨g,n*2+1,none⟩ (.slice c P.1.length d)).setCell ⟨rb,0,none⟩ (.int .i64 3)).setCell ⟨rb,1,none⟩ (.int .i64 n)) mb bb vb fb (P.2.1,P.2.2.set n (k0,P.1)) o m vr s/\Kx w0 wb mB (((wr.setCell ⟨g,n*2+1,none⟩ (.slice c P.1.length d)).setCell ⟨rb,0,none⟩ (.int .i64 3)).setCell ⟨rb,1,none⟩ (.int .i64 n)) s)/\(((wr.setCell ⟨g,n*2+1,none⟩ (.slice c P.1.length d)).setCell ⟨rb,0,none⟩ (.int .i64 3)).setCell ⟨rb,1,none⟩ (.int .i64 n)).cell? (am rb 0)=some (ah 3)/\(((wr.setCell ⟨g,n*2+1,none⟩ (.slice c P.1.length d)).setCell ⟨rb,0,none⟩ (.int .i64 3)).setCell ⟨rb,1,none⟩ (.int .i64 n)).cell? (am rb 1)=some (ah n)):=by
 have t:n<b.length:=by rw[h.wv.len];exact(List.getElem?_eq_some_iff.1 p).1
 have B:b.length<=100000:=by rw[h.wv.len];exact x
 obtain⟨C,j,D⟩:=dQ h.wv.nr;subst D;obtain⟨g,E,F⟩:=dW h.wv.nr V;obtain⟨rfl,rfl⟩:C=some _/\j=E:=by simpa using F
 obtain⟨y,hy⟩:∃y,b[n]?=some y:=⟨_,aG t⟩
 obtain⟨_,G⟩:=ng b n y hy;obtain⟨n1,H⟩:=e8 h.wv.nr G;have r0:wr.cell? (am rb 0)=some (ah 0):=ay i
 have r1:wr.cell? (am rb 1)=some (ah 0):=ay i
 have I:wr.frozen? (am rb 0)=false:=az i
 have J:wr.frozen? (am rb 1)=false:=az i
 obtain⟨N,v⟩:=dZ h.wv.nr g rfl;have l:g≠rb:=fun e=>by rw[e,i] at v;simp at v
 refine⟨g,j,_,rfl,h.wv.cells.2.1,t,B,n1,H,r0,r1,I,J,l,?_,?_,?_⟩
 ·obtain⟨a1,a2,w⟩:=h.wv.filled p h.row;have fr:Fr (fun k=>k=rb) (wr.setCell ⟨g,n*2+1,none⟩ (.slice c P.1.length d)) (((wr.setCell ⟨g,n*2+1,none⟩ (.slice c P.1.length d)).setCell ⟨rb,0,none⟩ (.int .i64 3)).setCell ⟨rb,1,none⟩ (.int .i64 n)):=((Fr.refl (fun k=>k=rb) _).set rb 0 _ rfl).set rb 1 _ rfl;have K:(wr.setCell ⟨g,n*2+1,none⟩ (.slice c P.1.length d)).heap[rb]?=some (.cells #[ah 0,ah 0] 77 (0,0)):=(aN _ _ _ _ (show rb≠g from fun e=>l e.symm)).trans i;refine⟨_,a1.but fr (fun k _ e=>?_),⟨(q.1.trans a2).new fr (fun k e=>by have e:=e;omega),fun k hk=>?_⟩⟩
  ·have e:=e;subst e;refine⟨⟨_,K⟩,fun f=>?_,hlo⟩
   rcases w k f with f|f
   ·exact A f
   ·omega
  ·rcases w k hk with f|f
   ·exact q.2 k f
   ·right;omega
 ·rw[a5 _ _ _ _ Z];exact a9 _ _ _ ((a5 _ _ _ _ (fun e=>l (by injection e))).trans r0)
 ·exact a9 _ _ _ ((a5 _ _ _ _ Z).trans ((a5 _ _ _ _ (fun e=>l (by injection e))).trans r1))
end
end eR
end Go.Proofs.YtjpjpjemibgjpaaGreat
