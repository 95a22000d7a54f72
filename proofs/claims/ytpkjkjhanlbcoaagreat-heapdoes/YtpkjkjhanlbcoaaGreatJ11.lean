import Derived.Test.YtpkjkjhanlbcoaaGreatJ10
namespace Go.Proofs.YtpkjkjhanlbcoaaGreat
set_option maxRecDepth 100000
set_option maxHeartbeats 8000000
open Tryz
open Go.RowKit W Kp ch
theorem Ei (T:List cH)(t:cH)(i:Nat):(T++[t]).getD i t0=if i=T.length then t else T.getD i t0:=by grind
theorem xJ (T:List cH)(k:Int)(fl:List _)(i:Nat):cI (T++[(k,fl,false,false)]) i↔cI T i\/i=T.length:=by grind [cI]
theorem Ej (g:List Bool->List Bool)(s:cn)(b8:Int)(b:Bool):(s.cut g b8 b).rs=s.rs:=by grind [cn.cut]
theorem Ek (g:gZ)(ca b8:Int)(s:cn)(m:Int):(s.room g ca b8 m).2.rs=s.rs:=by grind [Ej,cn.room]
theorem sU {k R A B n:Int}(h:dP k R A B n=0):em k n=0:=by grind [dP]
theorem sV {R A B n:Int}(h:dP 5 R A B n=0):0<=n/\n<=12:=by
 have b:=sU h
 grind [em,hc]
theorem xK {R A B n:Int}(h:dP 1 R A B n=0):vc 1 n=0:=by have b:=sU h;assumption
section
variable {s:cn}{j:Nat}{g:gZ}{ca b8:Int}
theorem dG.room (h:dG s j)(b:j<=10000)(hg:ed s.T s.wt (g s.T s.wt))(m:Int):dG (s.room g ca b8 m).2 j:=by grind [cut,cn.room]
theorem dG.put (h:dG s j){kd:Int}{fl:List _}(f:1<=kd)(g:kd<=5)(k:kd=3\/kd=4->fl.length=2)(l:kd=5->fl=[])(m:∀v∈fl,e3 s.T v)(hl:fl.length<=12):dG (s.put kd fl) (j+1):=by
 have b:=xJ s.T kd fl;have tr:∀v,e3 s.T v->_:=fun v c=>c.mono (fun _ ha=>(b _).2 (aL ha))
 have d:∀i,cI s.T i->(s.T++[(kd,fl,false,false)]).getD i t0=s.T.getD i t0:=fun i hi=>by rw[Ei,aH (by have:=hi.1;omega)]
 have n:(s.T++[(kd,fl,false,false)]).getD s.T.length t0=(kd,fl,false,false):=by simp_all
 have ev:∀e,lO s.T e->lO (s.T++[(kd,fl,false,false)]) e:=fun e he=>⟨⟨he.1.1,(b _).2 (aL he.1.2)⟩,(d _ he.1.2▸he.2.1),he.2.2.1,(b _).2 (aL he.2.2.2)⟩
 unfold cn.put;refine {kd:=fun i hi=>?_,fl:=fun i hi hk=>?_,g5:=fun i hi hk=>?_,fv:=fun i hi v c=>?_,tl:=fun i=>?_,rv:=fun v c=>tr v (h.rv v c),rl:=h.rl,gv:=fun e he=>ev e (h.gv e he),wv:=fun e he=>ev e (h.wv e he),en:=h.en,tj:=?_}
 ·rcases(b i).1 hi with hi|rfl
  ·rw[d i hi];exact h.kd i hi
  grind
 ·rcases(b i).1 hi with hi|rfl
  all_goals grind [fl]
 ·rcases(b i).1 hi with hi|rfl
  all_goals grind [g5]
 ·rcases(b i).1 hi with hi|rfl
  ·rw[d i hi] at c;exact tr v (h.fv i hi v c)
  ·simp_all
 ·grind [tl]
 simp_all [tj]
theorem dG.oT (h:dG s j)(c:j<=10000)(hg:ed s.T s.wt (g s.T s.wt)){kd:Int}{fl:List _}(d:1<=kd)(e:kd<=5)(f:kd=3\/kd=4->fl.length=2)(i:kd=5->fl=[])(k:∀v∈fl,v∈s.rs\/v=(0,0))(hl:fl.length<=12):
 dG (s.b8 g ca b8 kd fl).2.2 (j+1)/\e3 (s.b8 g ca b8 kd fl).2.2.T (s.b8 g ca b8 kd fl).1:=by
 have b:=h.room c hg (ca:=ca) (b8:=b8) (1+fl.length)
 have hs:=Ek g ca b8 s (1+fl.length)
 unfold cn.b8;generalize s.room g ca b8 _=p at*;split
 ·dsimp only;refine⟨b.put d e f i (fun v l=>?_) hl,?_⟩
  ·grind [rv,kA]
  ·have m:=b.tj;refine⟨l8 _ aa aa,fun _=>⟨aa,?_⟩⟩
   grind [xJ,cn.put]
 ·exact⟨b.more aa,kA _⟩
theorem dG.pop (h:dG s j)(b:j<=10000)(v:Int×Int):dG (s.pop v).2.2 j/\e3 (s.pop v).2.2.T (s.pop v).1:=by
 unfold cn.pop;split
 ·split
  ·rename_i c;have he:=h.wv _ (getD_in (x:=(0,0)) c)
   have hb:=he.2.2.2.1;have ht:=h.tj;refine⟨{h with wv:=fun e hm=>?_,en:=?_},l8 _ he.2.2.1 (by grind),fun _=>he.2.2⟩
   ·grind [wv]
   ·have:=h.en
    grind
  grind [kA]
 grind [kA]
theorem El {T:List cH}{v:Int×Int}(b:e3 T v)(h:jR T v=true):(0<=v.2/\cI T v.2.toNat)/\(T.getD v.2.toNat t0).1=5:=by obtain⟨c,d⟩:=mG.1 h;exact⟨b.2 c,d⟩
theorem dG.reg (h:dG s j){t b:Int×Int}(ht:e3 s.T t)(hd:e3 s.T b):dG (s.reg t b).2 j:=by
 unfold cn.reg;split
 ·rename_i c;split
  ·omega
  ·obtain⟨q1,d⟩:=El hd c.2;refine {h with gv:=fun e he=>?_,en:=?_}
   ·rcases List.mem_append.1 he with he|he
    ·grind [gv]
    ·rw[List.mem_singleton.1 he];exact⟨q1,d,ht.2 c.1⟩
   grind
 omega
theorem Em (T:List cH)(i q:Nat)(y:Int×Int)(k:Nat)(hi:i<T.length):(mH T i q y).getD k t0=if k=i then((T.getD i t0).1,(T.getD i t0).2.1.set q y,(T.getD i t0).2.2) else T.getD k t0:=by grind
theorem Ep (T:List cH)(i q:Nat)(y:Int×Int)(hi:i<T.length)(k:Nat):cI (mH T i q y) k↔cI T k:=by grind [cI]
theorem dG.set (h:dG s j){v y:Int×Int}(I:Int)(f:e3 s.T v)(hy:e3 s.T y):dG (s.set v I y).2 j:=by
 unfold cn.set;split
 ·rename_i c;have l:iF s.T v=true:=by grind [cn.fc]
  obtain⟨m,o⟩:=ky.1 l;obtain⟨_,ha⟩:=f.2 m;generalize v.2.toNat=i at*;have hi:=ha.1;have d:=Ep s.T i I.toNat y hi;have n:=fun k=>Em s.T i I.toNat y k hi;have tr:∀v,e3 s.T v->_:=fun v f=>f.mono (fun _ ha=>(d _).2 ha)
  have k1:∀k,((mH s.T i I.toNat y).getD k t0).1=(s.T.getD k t0).1:=fun k=>by grind
  have l1:∀k,((mH s.T i I.toNat y).getD k t0).2.1.length=(s.T.getD k t0).2.1.length:=fun k=>by grind
  have ev:∀e,lO s.T e->lO (mH s.T i I.toNat y) e:=fun e he=>⟨⟨he.1.1,(d _).2 he.1.2⟩,by rw[k1];exact he.2.1,he.2.2.1,(d _).2 he.2.2.2⟩
  refine {kd:=fun k hk=>?_,fl:=fun k hk hq=>?_,g5:=fun k hk hq=>?_,fv:=fun k hk x b=>?_,tl:=fun k=>?_,rv:=fun x b=>tr x (h.rv x b),rl:=h.rl,gv:=fun e he=>ev e (h.gv e he),wv:=fun e he=>ev e (h.wv e he),en:=h.en,tj:=?_}
  ·rw[k1];exact h.kd k (by grind)
  ·grind [fl]
  ·grind [g5]
  ·rw[n k] at b;split at b
   ·rename_i e;rcases List.mem_or_eq_of_mem_set b with g|g
    ·exact tr x (h.fv i ha x g)
    ·simp_all
   ·exact tr x (h.fv k ((d k).1 hk) x b)
  ·grind [tl]
  simp_all [tj]
 omega
theorem dG.root (h:dG s j)(R:Nat){v:Int×Int}(b:e3 s.T v):dG {s with rs:=s.rs.set R v} j:=
 {
  h with
  rv:=fun x c=>(by grind [rv])
  rl:=by grind [rl]}
theorem sW (s:cn)(i:Nat):s.rs.getD i (0,0)∈s.rs\/s.rs.getD i (0,0)=(0,0):=by grind
theorem dG.rts (h:dG s j)(b:j<=10000)(hg:ed s.T s.wt (g s.T s.wt)){k R A B n:Int}(hc:dP k R A B n=0)(I:Int):dG (s.rt g ca b8 k A.toNat B.toNat I n).2.2 (j+1)/\e3 (s.rt g ca b8 k A.toNat B.toNat I n).2.2.T (s.rt g ca b8 k A.toNat B.toNat I n).1:=by
 have hs:=h.more (Nat.le_succ j)
 have two:∀v∈[s.rs.getD A.toNat (0,0),s.rs.getD B.toNat (0,0)],v∈s.rs\/v=(0,0):=fun v d=>by
  have:v=s.rs.getD A.toNat (0,0)\/v=s.rs.getD B.toNat (0,0):=by simpa using d
  rcases this with rfl|rfl
  ·exact sW s _
  ·exact sW s _
 have u:∀x:Int,-1152921504606846976<=x->x<1152921504606846976->e3 s.T (1,x):=fun x F N=>⟨by simp[vc,rc];omega,fun h=>by cases h⟩
 unfold cn.rt;by_cases k1:k=1
 ·rw[aJ k1];subst k1;exact⟨hs,xK hc,fun h=>by cases h⟩
 rw[aH k1];by_cases f:k=3
 ·rw[aJ f];exact⟨hs,h.rt _⟩
 rw[aH f];by_cases i:k=4
 ·rw[aJ i];exact h.oT b hg ae ae ac ac two ac
 rw[aH i];by_cases k5:k=5
 ·rw[aJ k5];subst k5;have S:=sV hc;exact h.oT b hg ae ae ac ac (fun v d=>((List.mem_replicate.1 d).2▸sW s _)) (by simp_all)
 rw[aH k5];by_cases k6:k=6
 ·rw[aJ k6];exact h.oT b hg ae ae ac ac two ac
 rw[aH k6];by_cases l:k=7
 ·rw[aJ l];exact h.oT b hg ae ae ac ac two ac
 rw[aH l];by_cases m:k=8
 ·rw[aJ m];exact h.oT b hg ae ae ac ac ac ac
 rw[aH m];by_cases o:k=10
 ·rw[aJ o];have:=h.pop b (s.rs.getD A.toNat (0,0))
  exact⟨this.1.more (Nat.le_succ _),this.2⟩
 rw[aH o];by_cases p:k=11
 ·rw[aJ p];refine⟨hs,?_⟩
  split
  ·rename_i c;by_cases e:iF s.T (s.rs.getD A.toNat (0,0))=true
   ·obtain⟨w,_⟩:=ky.1 e;by_cases ci:I.toNat<(s.T.getD (s.rs.getD A.toNat (0,0)).2.toNat t0).2.1.length
    ·exact h.fv _ ((h.rt A.toNat).2 w).2 _ (getD_in ci)
    ·rw[aG,List.getElem?_eq_none aa];exact kA _
   ·unfold cn.fc at c;rw[aH e] at c;omega
  ·exact kA _
 rw[aH p];by_cases q:k=13
 ·rw[aJ q];split
  ·refine⟨hs,u _ aa ?_⟩
   have:=h.tl (s.rs.getD A.toNat (0,0)).2.toNat;omega
  ·exact⟨hs,kA _⟩
 rw[aH q];by_cases t:k=14
 ·rw[aJ t];refine⟨hs,?_⟩
  split
  ·simp_all
  ·simp_all
 rw[aH t];exact⟨hs,kA _⟩
theorem dG.eB (h:dG s j)(b:j<=10000)(hg:ed s.T s.wt (g s.T s.wt))(k R A B I n:Int):dG (s.eB g ca b8 k R A B I n).2 (j+1):=by
 have hs:=Nat.le_succ j;unfold cn.eB;by_cases hc:dP k R A B n=0
 ·rw[aJ hc];split
  ·grind [more,reg,rt]
  ·split
   ·grind [more,set,rt]
   ·split
    ·exact(h.cut b hg _ _).more hs
    ·split
     ·exact(h.cut b hg _ _).more hs
     grind [rts,root]
 grind [more]
end
theorem dG.start:dG ⟨[],List.replicate 12 (0,0),[],[]⟩ 0:=
 ⟨fun i hi=>absurd hi.1 ac,fun i hi=>absurd hi.1 ac,fun i hi=>absurd hi.1 ac,fun i hi=>absurd hi.1 ac,fun i=>by simp[t0],fun v b=>by grind [kA],ac,fun e he=>by grind,fun e he=>by grind,ac,ac⟩
section
variable {s:cn}{j:Nat}
theorem qk (hi:dG s j)(A:Nat):((s.rs.getD A (0,0)).1=3/\s.th A=(s.rs.getD A (0,0)).2/\0<=(s.rs.getD A (0,0)).2/\(s.rs.getD A (0,0)).2.toNat<s.T.length)\/((s.rs.getD A (0,0)).1≠3/\s.th A=-1):=by
 have hq:=hi.rt A;unfold cn.th;by_cases c:(s.rs.getD A (0,0)).1=3
 ·rw[aJ c];exact aL ⟨c,rfl,(hq.2 c).1,(hq.2 c).2.1⟩
 ·omega
theorem oU (hi:dG s j)(A:Nat):0<=s.th A->s.th A<s.T.length:=fun h=>by
 rcases qk hi A with⟨_,e,h0,b⟩|⟨_,e⟩
 ·rw[e];omega
 ·omega
theorem xL (hi:dG s j)(A:Nat):(jR s.T (s.rs.getD A (0,0))=true/\s.gd A=(s.rs.getD A (0,0)).2/\0<=(s.rs.getD A (0,0)).2)\/(¬jR s.T (s.rs.getD A (0,0))=true/\s.gd A=-1):=by
 unfold cn.gd;rcases qk hi A with⟨b,e,h0,f⟩|⟨b,e⟩
 ·rw[e,aH aa];by_cases c:(s.T.getD (s.rs.getD A (0,0)).2.toNat t0).1=5
  ·exact aL ⟨mG.2 ⟨b,c⟩,aJ c,h0⟩
  ·exact aK ⟨fun d=>c (mG.1 d).2,aH c⟩
 ·rw[e,aJ ae];exact aK ⟨fun d=>b (mG.1 d).1,rfl⟩
theorem sX (hi:dG s j)(A:Nat):(iF s.T (s.rs.getD A (0,0))=true/\s.th A=(s.rs.getD A (0,0)).2/\¬(s.th A<0\/(s.T.getD (s.th A).toNat (0,[],false,false)).1=5))\/(¬iF s.T (s.rs.getD A (0,0))=true/\(s.th A<0\/(s.T.getD (s.th A).toNat (0,[],false,false)).1=5)):=by
 rcases qk hi A with⟨d,e,h0,f⟩|⟨d,e⟩
 ·rw[e];by_cases c:(s.T.getD (s.rs.getD A (0,0)).2.toNat t0).1=5
  ·exact aK ⟨fun b=>(ky.1 b).2 c,aK c⟩
  ·exact aL ⟨ky.2 ⟨d,c⟩,rfl,fun b=>b.elim (fun b=>by omega) (fun b=>c b)⟩
 ·exact aK ⟨fun b=>d (ky.1 b).1,aL aa⟩
theorem xM (hi:dG s j)(A:Nat)(I:Int):s.fc (s.rs.getD A (0,0)) I=s.gc A I:=by
 unfold cn.fc cn.gc;rcases sX hi A with⟨b,d,c⟩|⟨b,c⟩
 ·rw[aJ b,aH c,d];rfl
 ·simp_all
theorem xN (hi:dG s j)(A:Nat)(I:Int)(h:s.gc A I=0):s.th A=(s.rs.getD A (0,0)).2:=by
 unfold cn.gc at h;rcases sX hi A with⟨b,c,d⟩|⟨b,d⟩
 ·exact c
 ·omega
end
section
variable {rp rb j:Nat}{ca b8:Int}{F:Nat->Prop}{s:cn}{w:aw}{g:gZ}
theorem Er (h:(cq rp rb ca b8).J F s w)(hi:dG s j)(hg:ed s.T s.wt (g s.T s.wt))(W:j<=10000)(h0:0<=b8)(m:b8<=100000)(u:0<=ca)(m1:ca<=100000)(k R A B I n:Int):
 Calls prog 21 #[am rp,gt k R A B I n] w fun e w'=>∃i,e=.returned (ak (s.eB g ca b8 k R A B I n).1)/\(cq rp rb ca b8).J i (s.eB g ca b8 k R A B I n).2 w'/\ce F w i w':=by
 have o:=hi.qj W;have x:=o.t12;by_cases hc:dP k R A B n=0
 case neg=>
  have e:s.eB g ca b8 k R A B I n=(dP k R A B n,s):=by unfold cn.eB;rw[aH hc]
  rw[e];refine(DB h k R A B I n hc).mono ?_;rintro e w' ⟨rfl,N,S⟩
  exact⟨F,rfl,N,S⟩
 have hs:=DA I hc;have l:cU k=3\/cU k=6\/cU k=7->∃a:Nat,A=a/\a<12:=fun v=>by have m:=nz hc v;exact⟨A.toNat,aa,aa⟩
 have t:cU k=6\/cU k=7->∃a:Nat,B=a/\a<12:=fun v=>by have m:=nA hc v;exact⟨B.toNat,aa,aa⟩
 have f:cU k=1\/cU k=3\/cU k=7->∃a:Nat,R=a/\a<12:=fun v=>by have m:=xl hc v;exact⟨R.toNat,aa,aa⟩
 have one:∀cd p,s.eB g ca b8 k R A B I n=(cd,p)->(Calls prog 21 #[am rp,gt k R A B I n] w fun e w'=>∃i,e=.returned (ak cd)/\(cq rp rb ca b8).J i p w'/\ce F w i w')->Calls prog 21 #[am rp,gt k R A B I n] w fun e w'=>∃i,e=.returned (ak (s.eB g ca b8 k R A B I n).1)/\(cq rp rb ca b8).J i (s.eB g ca b8 k R A B I n).2 w'/\ce F w i w':=fun cd p e P=>by simp_all
 have two:∀cd p,s.eB g ca b8 k R A B I n=(cd,p)->(Calls prog 21 #[am rp,gt k R A B I n] w fun e w'=>e=.returned (ak cd)/\(cq rp rb ca b8).J F p w'/\ce F w F w')->Calls prog 21 #[am rp,gt k R A B I n] w fun e w'=>∃i,e=.returned (ak (s.eB g ca b8 k R A B I n).1)/\(cq rp rb ca b8).J i (s.eB g ca b8 k R A B I n).2 w'/\ce F w i w':=fun cd p e P=>by
  rw[e];refine P.mono ?_;rintro e w' ⟨rfl,N,S⟩
  exact⟨F,rfl,N,S⟩
 rcases oA k with rfl|rfl|rfl|rfl|rfl|rfl|rfl|rfl|rfl|rfl|rfl|rfl|rfl|rfl|rfl|rfl|hk
 ·obtain⟨R,rfl,b⟩:=f ae;refine two _ _ ?_ (DC h R b A B I n hs)
  unfold cn.eB;rw[aJ hc];rfl
 ·obtain⟨R,rfl,b⟩:=f ae;refine two _ _ ?_ (DD h R b A B I n hs)
  unfold cn.eB;rw[aJ hc];rfl
 ·obtain⟨R,rfl,b⟩:=f ae;obtain⟨A,rfl,d⟩:=l ae;refine two _ _ ?_ (DE h R A b d B I n hs)
  unfold cn.eB;rw[aJ hc];rfl
 ·obtain⟨R,rfl,b⟩:=f ae;obtain⟨A,rfl,d⟩:=l ae;obtain⟨B,rfl,hB⟩:=t ae;refine one _ _ ?_ (DI h o h0 m u m1 g hg R A B b d hB I n hs)
  unfold cn.eB;rw[aJ hc];rfl
 ·obtain⟨R,rfl,b⟩:=f ae;obtain⟨A,rfl,d⟩:=l ae;have ab:=sV hc;obtain⟨n,rfl⟩:=Int.eq_ofNat_of_zero_le ab.1;refine one _ _ ?_ (DN h o h0 m u m1 g hg R A n b d aa B I hs)
  unfold cn.eB;rw[aJ hc];rfl
 ·obtain⟨R,rfl,b⟩:=f ae;obtain⟨A,rfl,d⟩:=l ae;obtain⟨B,rfl,hB⟩:=t ae;refine one _ _ ?_ (DJ h o h0 m u m1 g hg R A B b d hB I n hs)
  unfold cn.eB;rw[aJ hc];rfl
 ·obtain⟨R,rfl,b⟩:=f ae;obtain⟨A,rfl,d⟩:=l ae;obtain⟨B,rfl,hB⟩:=t ae;refine one _ _ ?_ (DK h o h0 m u m1 g hg R A B b d hB I n hs)
  unfold cn.eB;rw[aJ hc];rfl
 ·obtain⟨R,rfl,b⟩:=f ae;refine one _ _ ?_ (DL h o h0 m u m1 g hg R b A B I n hs)
  unfold cn.eB;rw[aJ hc];rfl
 ·obtain⟨A,rfl,d⟩:=l ae;obtain⟨B,rfl,hB⟩:=t ae;refine one _ _ ?_ (DS h A B d hB (oU hi B) (by have:=hi.en;omega) (by have:=hi.en;omega) R I n hs)
  have e:s.eB g ca b8 9 R A B I n=s.reg (s.rs.getD A (0,0)) (s.rs.getD B (0,0)):=by unfold cn.eB;rw[aJ hc];rfl
  rw[e];unfold cn.reg;rcases qk hi A with⟨a1,a2,ad,_⟩|⟨a1,a2⟩
  ·rcases xL hi B with⟨b1,b2,b3⟩|⟨b1,b2⟩
   ·have n1:¬(s.th A<0\/s.gd B<0):=aa;by_cases c:24<=s.rg.length+s.wt.length
    ·have q:s.jB A B=3:=by unfold cn.jB;rw[aH n1,aJ c]
     rw[q,aJ ⟨a1,b1⟩,aJ c];rfl
    ·have q:s.jB A B=0:=by unfold cn.jB;rw[aH n1,aH c]
     rw[q,aJ ⟨a1,b1⟩,aH c,aJ rfl,a2,b2]
   ·have q:s.jB A B=2:=by unfold cn.jB;rw[aJ (aK (by rw[b2];decide))]
    rw[q,aH (fun c=>b1 c.2)];rfl
  ·have q:s.jB A B=2:=by unfold cn.jB;rw[aJ (aL (by rw[a2];decide))]
   rw[q,aH (fun c=>a1 c.1)];rfl
 ·obtain⟨R,rfl,b⟩:=f ae;obtain⟨A,rfl,d⟩:=l ae;refine one _ _ ?_ (D7 h R A b d B I n hs (oU hi A) (by have:=hi.en;omega))
  have e:s.eB g ca b8 10 R A B I n=if(s.pop (s.rs.getD A (0,0))).2.1=0 then(0,{(s.pop (s.rs.getD A (0,0))).2.2 with rs:=(s.pop (s.rs.getD A (0,0))).2.2.rs.set R (s.pop (s.rs.getD A (0,0))).1}) else((s.pop (s.rs.getD A (0,0))).2.1,(s.pop (s.rs.getD A (0,0))).2.2):=by unfold cn.eB;rw[aJ hc];rfl
  rw[e];unfold cn.pop;rcases xL hi A with⟨b1,b2,b3⟩|⟨b1,b2⟩
  ·have n1:¬s.gd A<0:=aa;rw[aJ b1,aH n1,aH n1,b2];by_cases c:dV (s.rs.getD A (0,0)).2 s.wt<s.wt.length
   ·simp_all
   ·rw[aH c,aH c,aH c];rfl
  ·simp_all
 ·obtain⟨R,rfl,b⟩:=f ae;obtain⟨A,rfl,d⟩:=l ae;refine two _ _ ?_ (DT h R A b d I (oU hi A) x o.tl B n hs)
  have e:s.eB g ca b8 11 R A B I n=if s.fc (s.rs.getD A (0,0)) I=0 then(0,{s with rs:=s.rs.set R (if s.fc (s.rs.getD A (0,0)) I=0 then(s.T.getD (s.rs.getD A (0,0)).2.toNat t0).2.1.getD I.toNat (0,0) else(0,0))}) else(s.fc (s.rs.getD A (0,0)) I,s):=by unfold cn.eB;rw[aJ hc];rfl
  rw[e,xM hi];by_cases c:s.gc A I=0
  ·rw[aJ c,aJ c,aJ c,c];unfold cn.gf;rw[xN hi A I c];rfl
  ·rw[aH c,aH c]
 ·obtain⟨A,rfl,d⟩:=l ae;obtain⟨B,rfl,hB⟩:=t ae;refine one _ _ ?_ (DU h A B d hB I (oU hi A) x o.tl R n hs)
  have e:s.eB g ca b8 12 R A B I n=(s.fc (s.rs.getD A (0,0)) I,if s.fc (s.rs.getD A (0,0)) I=0 then {s with T:=mH s.T (s.rs.getD A (0,0)).2.toNat I.toNat (s.rs.getD B (0,0))} else s):=by unfold cn.eB;rw[aJ hc];rfl
  rw[e,xM hi];by_cases c:s.gc A I=0
  ·rw[aJ c,aJ c];unfold cn.qf;rw[xN hi A I c];rfl
  ·simp_all
 ·obtain⟨R,rfl,b⟩:=f ae;obtain⟨A,rfl,d⟩:=l ae;refine two _ _ ?_ (D8 h R A b d B I n hs (oU hi A) x)
  have e:s.eB g ca b8 13 R A B I n=if(if iF s.T (s.rs.getD A (0,0))=true then((1,((s.T.getD (s.rs.getD A (0,0)).2.toNat t0).2.1.length:Int)),0,s) else((0,0),2,s):(Int×Int)×Int×cn).2.1=0 then(0,{(if iF s.T (s.rs.getD A (0,0))=true then((1,((s.T.getD (s.rs.getD A (0,0)).2.toNat t0).2.1.length:Int)),0,s) else((0,0),2,s):(Int×Int)×Int×cn).2.2 with rs:=(if iF s.T (s.rs.getD A (0,0))=true then((1,((s.T.getD (s.rs.getD A (0,0)).2.toNat t0).2.1.length:Int)),0,s) else((0,0),2,s):(Int×Int)×Int×cn).2.2.rs.set R (if iF s.T (s.rs.getD A (0,0))=true then((1,((s.T.getD (s.rs.getD A (0,0)).2.toNat t0).2.1.length:Int)),0,s) else((0,0),2,s):(Int×Int)×Int×cn).1}) else((if iF s.T (s.rs.getD A (0,0))=true then((1,((s.T.getD (s.rs.getD A (0,0)).2.toNat t0).2.1.length:Int)),0,s) else((0,0),2,s):(Int×Int)×Int×cn).2.1,(if iF s.T (s.rs.getD A (0,0))=true then((1,((s.T.getD (s.rs.getD A (0,0)).2.toNat t0).2.1.length:Int)),0,s) else((0,0),2,s):(Int×Int)×Int×cn).2.2):=by unfold cn.eB;rw[aJ hc];rfl
  rw[e];rcases sX hi A with⟨b1,b2,b3⟩|⟨b1,b3⟩
  ·rw[aJ b1,aH b3,aH b3,b2];rfl
  ·simp_all
 ·obtain⟨R,rfl,b⟩:=f ae;obtain⟨A,rfl,d⟩:=l ae;obtain⟨B,rfl,hB⟩:=t ae;refine two _ _ ?_ (D9 h R A B b d hB I n hs)
  unfold cn.eB;rw[aJ hc];rfl
 ·refine one _ _ ?_ (xn h o h0 m false (g s.T s.wt) hg 15 R A B I n rfl hs)
  unfold cn.eB;rw[aJ hc];rfl
 ·refine one _ _ ?_ (xn h o h0 m true (g s.T s.wt) hg 16 R A B I n rfl hs)
  unfold cn.eB;rw[aJ hc];rfl
 ·exfalso;unfold dP at hc;rw[aJ (oC hk)] at hc;omega
end
def jg (e:TypeId):Prop:=e=74\/e=60\/e=3\/e=107
structure e5 (B:Nat)(w w':aw):Prop where
 os:w'.os=w.os
 tape:w'.tape=w.tape
 output:w'.output=w.output
 size:w.heap.size<=w'.heap.size
 low:∀k:Nat,k<w.heap.size->k<B->w'.heap[k]?=w.heap[k]?
 fR:∀(k:Nat) cs e m,w.heap[k]?=some (Obj.cells cs e m)->¬jg e->w'.heap[k]?=w.heap[k]?
section
variable {B:Nat}{w w' w'':aw}
theorem e5.refl (B:Nat)(w:aw):e5 B w w:=⟨rfl,rfl,rfl,aD _,fun _ _ _=>rfl,fun _ _ _ _ _ _=>rfl⟩
theorem e5.trans (h:e5 B w w')(k:e5 B w' w''):e5 B w w'':=
 ⟨k.os.trans h.os,k.tape.trans h.tape,k.output.trans h.output,aS h.size k.size,fun i hi hb=>(k.low i (aO hi h.size) hb).trans (h.low i hi hb),fun i b e m hi c=>(k.fR i b e m ((h.fR i b e m hi c).trans hi) c).trans (h.fR i b e m hi c)⟩
theorem e5.of (h:Below w.heap.size w w'):e5 B w w':=⟨h.os,h.tape,h.output,h.size,fun k hk _=>h.block k hk,fun k _ _ _ hi _=>h.block k (lt_of_some hi)⟩
theorem e5.below (h:e5 B w w')(hB:B<=w.heap.size):Below B w w':=⟨h.os,h.tape,h.output,h.size,fun k hk=>h.low k aa hk⟩
theorem e5.fr {X:Nat->Prop}(f:Fr X w w')(d:∀k,X k->B<=k/\∀b e m,w.heap[k]?=some (Obj.cells b e m)->jg e):e5 B w w':=
 ⟨f.os,f.tape,f.output,f.size,fun k hk hb=>f.block k hk (fun c=>by have:=(d k c).1;omega),fun k b e m hk g=>f.block k (lt_of_some hk) (fun c=>g ((d k c).2 b e m hk))⟩
theorem e5.new {X:Nat->Prop}(h:e5 B w w')(f:Fr X w' w'')(c:∀k,X k->w.heap.size<=k):e5 B w w'':=
 ⟨f.os.trans h.os,f.tape.trans h.tape,f.output.trans h.output,aS h.size f.size,fun k hk hb=>(f.block k (aO hk h.size) (fun b=>by have:=c k b;omega)).trans (h.low k hk hb),fun k d e m hk g=>(f.block k (aO (lt_of_some hk) h.size) (fun b=>by have i:=c k b;have j:=lt_of_some hk;omega)).trans (h.fR k d e m hk g)⟩
theorem ge.kw {d:Option Addr}{l:List _}(h:ge w d l)(k:e5 B w w'):ge w' d l:=by
 have hk:0<l.length->∀b,d=some b->w'.heap[b.block]?=w.heap[b.block]?:=fun hp b e=>by obtain⟨f,g,i,c,hb⟩:=h.2 hp;rw[c] at e;cases e;exact k.fR _ _ _ _ hb (by unfold jg;decide)
 refine⟨h.1.keep k.size hk,fun hp=>?_⟩
 obtain⟨f,g,i,c,hb⟩:=h.2 hp;exact⟨f,g,i,c,(hk hp _ c).trans hb⟩
end
def Kx (w0 w:aw)(m:List du)(w':aw)(b:List du):Prop:=e5 w0.heap.size w w'/\∀k,fF b k->fF m k\/w.heap.size<=k
theorem Kx.refl (w0 w:aw)(m:List du):Kx w0 w m w m:=⟨e5.refl _ _,fun _ h=>aL h⟩
theorem Kx.trans {w0 w w' b:aw}{m c d:List du}(h:Kx w0 w m w' c)(k:Kx w0 w' c b d):Kx w0 w m b d:=
 ⟨h.1.trans k.1,fun i hi=>(k.2 i hi).elim (h.2 i) (fun e=>aK (aS h.1.size e))⟩
theorem Kx.of {w0 w w':aw}{m:List du}(h:Below w.heap.size w w'):Kx w0 w m w' m:=⟨e5.of h,fun _ b=>aL b⟩
abbrev kB (mb b c fb:Nat):Value:=.func (.func 66) #[] #[am mb,am b,am c,am fb]
structure et (w0 w:aw)(mb bb vb fb:Nat)(s:cP)(va vn vr:Value)(m:List du):Prop where
 dx:Below w0.heap.size w0 w
 lo:w0.heap.size<=mb/\w0.heap.size<=vb/\w0.heap.size<=fb
 fc:w.heap[fb]?=some (.cells #[kB mb bb vb fb] 130 (0,0))
 mc:w.heap[mb]?=some (.cells #[va] 74 (0,0))
 vc:w.heap[vb]?=some (.cells #[vr,vn] 60 (0,0))
 mr:w.ownsRow w0.heap.size 3 1 va s.1.length (s.1.map (Value.int .i64))
 nr:w.ownsRow w0.heap.size 107 2 vn m.length (nv m)
 nd:ie m=s.2
 fl:∀x∈m,ge w x.2.1 x.2.2.2
section
variable {w0 w w':aw}{mb bb vb fb:Nat}{s:cP}{va vn vr:Value}{m:List du}
theorem et.sY (h:et w0 w mb bb vb fb s va vn vr m)(k:Nat)(hk:fF m k):k<w.heap.size:=by
 obtain⟨x,c,hl,o,e⟩:=hk;obtain⟨b,d,f,g,hb⟩:=(h.fl x c).2 hl
 grind
theorem et.len (h:et w0 w mb bb vb fb s va vn vr m):m.length=s.2.length:=by rw[<-h.nd];simp[ie]
theorem et.cells (h:et w0 w mb bb vb fb s va vn vr m):w.cell? (ao mb 0)=some va/\w.cell? (ao vb 1)=some vn/\w.cell? (ao fb 0)=some (kB mb bb vb fb)/\mb<w.heap.size/\vb<w.heap.size/\fb<w.heap.size/\(∀o,w.frozen? (ao mb o)=false)/\(∀o,w.frozen? (ao vb o)=false)/\w.cell? (ao vb 0)=some vr:=
 ⟨by simp[World.cell?,h.mc],by simp[World.cell?,h.vc],by simp[World.cell?,h.fc],lt_of_some h.mc,lt_of_some h.vc,lt_of_some h.fc,fun o=>by simp[World.frozen?,h.mc],fun o=>by simp[World.frozen?,h.vc],by simp[World.cell?,h.vc]⟩
theorem et.but {X:Nat->Prop}(h:et w0 w mb bb vb fb s va vn vr m)(f:Fr X w w')(i:∀k,k<w.heap.size->X k->(∃c,w.heap[k]?=some (.cells c 97 (0,0)))/\¬fF m k/\w0.heap.size<=k):et w0 w' mb bb vb fb s va vn vr m:=by
 have hk:∀k c e t,w.heap[k]?=some (Obj.cells c e t)->e≠97->_=_:=fun k c e t hk j=>f.block k (lt_of_some hk) (fun d=>by obtain⟨⟨ab,o⟩,_⟩:=i k (lt_of_some hk) d;rw[hk] at o;simp at o;exact j o.2.1)
 have u:∀{b n sz:Nat}{e:TypeId}{v:Value}{l:List Value},w.ownsRow b e sz v n l->e≠97->_:=fun B j=>cy B (fun k N=>by obtain⟨c,hc⟩:=d6 B k N;exact hk k _ _ _ hc j)
 refine⟨⟨f.os.trans h.dx.os,f.tape.trans h.dx.tape,f.output.trans h.dx.output,aS h.dx.size f.size,fun k p=>(f.block k (aO p h.dx.size) (fun d=>?_)).trans (h.dx.block k p)⟩,h.lo,(by grind [fc]),(by grind [mc]),(by grind [vc]),u h.mr ae,u h.nr ae,h.nd,fun x g=>?_⟩
 ·have:=(i k (aO p h.dx.size) d).2.2;omega
 ·have hb:0<x.2.2.2.length->∀a,x.2.1=some a->w'.heap[a.block]?=w.heap[a.block]?:=fun hp a e=>by obtain⟨S,F,c,q,W⟩:=(h.fl x g).2 hp;rw[q] at e;cases e;exact f.block _ (by grind) (fun d=>(i _ (by grind) d).2.1 ⟨x,g,hp,F,q⟩)
  refine⟨(h.fl x g).1.keep f.size hb,fun hp=>?_⟩
  obtain⟨S,F,c,q,W⟩:=(h.fl x g).2 hp
  grind
theorem et.below (h:et w0 w mb bb vb fb s va vn vr m)(hb:Below w.heap.size w w'):et w0 w' mb bb vb fb s va vn vr m:=
 h.but (X:=fun _=>False) (Fr.of hb) (by grind)
theorem et.meets (h:et w0 w mb bb vb fb s va vn vr m)(a:Int){w1:aw}{g:Value}(f:Fr (fun k=>some k=va.ownBlock) w w1)(l:w1.ownsRow w0.heap.size 3 1 g (s.1++[a]).length ((s.1++[a]).map (Value.int .i64))):et w0 (w1.setCell ⟨mb,0,none⟩ g) mb bb vb fb (s.1++[a],s.2) g vn vr m/\e5 w0.heap.size w (w1.setCell ⟨mb,0,none⟩ g):=by
 have j:∀k,some k=va.ownBlock->_:=fun k e=>d6 h.mr k e;have n:Fr (fun k=>some k=va.ownBlock\/k=mb) w (w1.setCell ⟨mb,0,none⟩ g):=(by grind [Fr.set,Fr.mono])
 have hk:∀k d e i,w.heap[k]?=some (Obj.cells d e i)->e≠3->e≠74->_=_:=fun k d e i hk t u=>n.block k (by grind) (fun b=>by
  rcases b with b|b
  ·grind
  ·rw[b,h.mc] at hk
   grind)
 have kw:=e5.fr n (fun k b=>by
  rcases b with b|b
  ·refine⟨(cg h.mr k b).1,fun d e i hc=>?_⟩
   obtain⟨o,c⟩:=j k b;rw[hc] at c;simp at c;exact aK (aK (aL c.2.1))
  ·refine⟨(b▸h.lo.1),fun d e i hc=>?_⟩
   rw[b,h.mc] at hc;simp at hc;exact aL hc.2.1.symm)
 refine⟨⟨h.dx.trans (kw.below h.dx.size),h.lo,(by grind [fc]),?_,(by grind [vc]),cy l (fun k e=>aP _ _ _ _ (fun v=>?_)),cy h.nr (fun k p=>by
  obtain⟨d,hc⟩:=d6 h.nr k p
  grind),h.nd,fun x q=>(h.fl x q).kw kw⟩,kw⟩
 ·have hq:=(f.block mb (lt_of_some h.mc) (fun e=>by
   obtain⟨o,c⟩:=j mb e;rw[h.mc] at c
   grind)).trans h.mc
  simp only [World.setCell,Array.getElem?_modify,if_true,hq,Option.map_some];simp
 ·obtain⟨d,hc⟩:=d6 l k e;have hq:=(f.block mb (lt_of_some h.mc) (fun e=>by
   obtain⟨o,c⟩:=j mb e;rw[h.mc] at c
   grind)).trans h.mc
  grind
theorem et.Es (h:et w0 w mb bb vb fb s va vn vr m)(k0:Int){w1:aw}{c:Value}(f:Fr (fun k=>some k=vn.ownBlock) w w1)(o:w1.ownsRow w0.heap.size 107 2 c (m++[(k0,none,0,[])]).length (nv (m++[(k0,none,0,[])]))):et w0 (w1.setCell ⟨vb,1,none⟩ c) mb bb vb fb (s.1,s.2++[(k0,[])]) va c vr (m++[(k0,none,0,[])])/\e5 w0.heap.size w (w1.setCell ⟨vb,1,none⟩ c):=by
 have l:∀k,some k=vn.ownBlock->_:=fun k e=>d6 h.nr k e;have n:Fr (fun k=>some k=vn.ownBlock\/k=vb) w (w1.setCell ⟨vb,1,none⟩ c):=(by grind [Fr.set,Fr.mono])
 have hk:∀k d e i,w.heap[k]?=some (Obj.cells d e i)->e≠107->e≠60->_=_:=fun k d e i hk t u=>n.block k (by grind) (fun b=>by
  rcases b with b|b
  ·grind
  ·rw[b,h.vc] at hk
   grind)
 have kw:=e5.fr n (fun k b=>by
  rcases b with b|b
  ·refine⟨(cg h.nr k b).1,fun d e i hc=>?_⟩
   obtain⟨p,g⟩:=l k b;rw[hc] at g;simp at g;exact aK (aK (aK g.2.1))
  ·refine⟨(b▸h.lo.2.1),fun d e i hc=>?_⟩
   rw[b,h.vc] at hc;simp at hc;exact aK (aL hc.2.1.symm))
 have hq:=(f.block vb (lt_of_some h.vc) (fun e=>by
  obtain⟨p,g⟩:=l vb e;rw[h.vc] at g
  grind)).trans h.vc
 refine⟨⟨h.dx.trans (kw.below h.dx.size),h.lo,(by grind [fc]),(by grind [mc]),?_,cy h.mr (fun k q=>by
  obtain⟨d,hc⟩:=d6 h.mr k q
  grind),cy o (fun k e=>aP _ _ _ _ (fun v=>?_)),?_,fun x j=>?_⟩,kw⟩
 ·simp only [World.setCell,Array.getElem?_modify,if_true,hq,Option.map_some];simp
 ·grind [d6]
 ·have:=h.nd
  grind [ie]
 ·rcases List.mem_append.1 j with j|j
  ·exact(h.fl x j).kw kw
  grind [ge.nil]
theorem et.filled {g j len:Nat}(h:et w0 w mb bb vb fb s va (.slice (an g) len j) vr m){i:Nat}{k0:Int}{v0:List _}(hi:s.2[i]?=some (k0,v0)){base c2:Nat}{a2:Option Addr}{b:List _}
 (hr:w.ownsRow base 97 2 (.slice a2 b.length c2) b.length (ev b)):
 et w0 (w.setCell ⟨g,i*2+1,none⟩ (.slice a2 b.length c2)) mb bb vb fb (s.1,s.2.set i (k0,b)) va (.slice (an g) len j) vr (m.set i (k0,a2,c2,b))/\e5 w0.heap.size w (w.setCell ⟨g,i*2+1,none⟩ (.slice a2 b.length c2))/\(∀k,fF (m.set i (k0,a2,c2,b)) k->fF m k\/base<=k):=by
 obtain⟨t,n⟩:=d6 h.nr g rfl;have l:Fr (fun k=>k=g) w (w.setCell ⟨g,i*2+1,none⟩ (.slice a2 b.length c2)):=(by grind [Fr.set,Fr.refl])
 have hk:∀k c e d,w.heap[k]?=some (Obj.cells c e d)->e≠107->_=_:=fun k c e d hk u=>l.block k (lt_of_some hk) (fun f=>by simp_all)
 have kw:=e5.fr l (fun k f=>by
  refine⟨(f▸(cg h.nr g rfl).1),fun c e d hc=>?_⟩
  rw[f,n] at hc;simp at hc;exact aK (aK (aK hc.2.1.symm)))
 obtain⟨x,v,B⟩:∃x:du,m[i]?=some x/\(x.1,x.2.2.2)=(k0,v0):=by
  have:=hi;rw[<-h.nd,ie,bv] at this
  grind
 have F:x.1=k0:=(by grind)
 have N:len=m.length:=by
  rcases h.nr.2 with⟨p,_⟩|⟨S,W,ab,p,_⟩
  all_goals grind
 refine⟨⟨h.dx.trans (kw.below h.dx.size),h.lo,(by grind [fc]),(by grind [mc]),(by grind [vc]),cy h.mr (fun k e=>by
  obtain⟨c,hc⟩:=d6 h.mr k e
  grind),?_,?_,fun y hy=>?_⟩,kw,fun k q=>?_⟩
 ·grind [rQ,nr,jp]
 ·rw[ie,List.map_set];show((ie m).set i (k0,b))=_;rw[h.nd]
 ·rcases List.mem_or_eq_of_mem_set hy with hy|hy
  ·exact(h.fl y hy).kw kw
  ·subst hy;exact(ge.of hr).kw kw
 ·obtain⟨y,hy,hl,o,e⟩:=q;exact wU
end
section
variable {w0 w:aw}{mb bb vb fb:Nat}{s:cP}{va vn vr:Value}{m:List du}
abbrev jT (k x:Int)(mb bb vb fb:Nat):Array Value:=#[.agg #[ak k,ak x],am mb,am bb,am vb,am fb]
theorem xO (w:aw)(k x:Int)(f:k≠3):Calls prog 66 (jT k x mb bb vb fb) w fun e w'=>e=.returned (.agg #[ak k,ak x])/\Below w.heap.size w w':=by
 have b:=hide ((aq w (.cells #[.int .i64 k,.int .i64 x] 97)).alloc ac (.cells #[.int .i64 k,.int .i64 x] 97))
 have hg:=aN (w.alloc (.cells #[.int .i64 k,.int .i64 x] 97)) (.cells #[.int .i64 k,.int .i64 x] 97)
 have c:=hide hg;go_enter func66,ntmps66;go_wp2_with fail;have d:(w.alloc (.cells #[.int .i64 k,.int .i64 x] 97)).heap.size=w.heap.size+1:=ac;have hg:=c.o;rw[d] at hg;have g0:((w.alloc (.cells #[.int .i64 k,.int .i64 x] 97)).alloc (.cells #[.int .i64 k,.int .i64 x] 97)).cell? (ao (w.heap.size+1) 0)=some (ak k):=by unfold World.cell?;rw[hg];rfl
 have g1:((w.alloc (.cells #[.int .i64 k,.int .i64 x] 97)).alloc (.cells #[.int .i64 k,.int .i64 x] 97)).cell? (ao (w.heap.size+1) 1)=some (ak x):=by unfold World.cell?;rw[hg];rfl
 exact bz (v:=.agg #[ak k,ak x]) (by simp[results,results66,go_sem,g0,g1]) rfl ⟨rfl,b.o⟩
theorem xP (h:et w0 w mb bb vb fb s va vn vr m)(x:Int)(hl:s.1.length<=100000)(hs:s.1.contains x=true):Calls prog 66 (jT 3 x mb bb vb fb) w fun e w'=>e=.returned (.agg #[ak 3,ak (s.1.idxOf x)])/\Below w.heap.size w w':=by
 obtain⟨ms,aT⟩:=s;dsimp only at hl hs⊢;have ag:=List.idxOf_lt_length_of_mem (List.contains_iff_mem.1 hs)
 obtain⟨ai,al,ap⟩:=dU h.mr;subst ap;obtain⟨ab,cb,ar⟩:=d4 h.mr (by show 0<ms.length;omega)
 obtain⟨rfl,rfl⟩:ai=an ab/\al=cb:=by simpa using ar
 have hb:=(aq w (.cells #[.int .i64 3,.int .i64 x] 97)).alloc ac (.cells #[.int .i64 0,.int .i64 0] 97)
 have o:ay (Below w.heap.size w ((w.alloc (.cells #[.int .i64 3,.int .i64 x] 97)).alloc (.cells #[.int .i64 0,.int .i64 0] 97))):=hb;have t:ay (∀j,j<ms.length->((w.alloc (.cells #[.int .i64 3,.int .i64 x] 97)).alloc (.cells #[.int .i64 0,.int .i64 0] 97)).cell? (ao ab j)=some (ak (ms.getD j 0))):=fun j b=>by have B:=(fe h.mr (i:=j) (u:=ak (ms.getD j 0)) (by show(ms.map (Value.int .i64))[j]?=_;rw[bv,aI b,aG,aI b];rfl)).1;exact(hb.cell (p:=ao ab j) (aM w _ B)).trans B
 have c0:=(hb.cell (p:=ao mb 0) h.cells.2.2.2.1).trans h.cells.1;have F:ay (ms.getD (ms.idxOf x) 0=x/\∀j,ms.getD j 0=x->j<ms.length->ms.idxOf x<=j):=⟨by
  rw[aG,aI ag];simp,fun j b ax=>by
  rcases Nat.lt_or_ge j (ms.idxOf x) with l|l
  ·exfalso;rw[aG,aI ax] at b;have b:ms[j]=x:=b;have q:=List.not_of_lt_findIdx (p:=fun y=>y==x) (xs:=ms) l;simp[b] at q
  ·exact l⟩
 generalize aV:ms.idxOf x=N at*;go_enter func66,ntmps66;go_wp2_with fail;have f:ay (((w.alloc (.cells #[.int .i64 3,.int .i64 x] 97)).alloc (.cells #[.int .i64 0,.int .i64 0] 97)).heap[w.heap.size+1]?=some (.cells #[.int .i64 0,.int .i64 0] 97 (0,0))/\((w.alloc (.cells #[.int .i64 3,.int .i64 x] 97)).alloc (.cells #[.int .i64 0,.int .i64 0] 97)).heap[w.heap.size]?=some (.cells #[.int .i64 3,.int .i64 x] 97 (0,0))/\((w.alloc (.cells #[.int .i64 3,.int .i64 x] 97)).alloc (.cells #[.int .i64 0,.int .i64 0] 97)).heap.size=w.heap.size+2):=by
  refine⟨?_,?_,ac⟩
  ·have:=aN (w.alloc (.cells #[.int .i64 3,.int .i64 x] 97)) (.cells #[.int .i64 0,.int .i64 0] 97)
   have e:(w.alloc (.cells #[.int .i64 3,.int .i64 x] 97)).heap.size=w.heap.size+1:=ac;rw[e] at this
   exact this
  ·exact(((aE (w.alloc (.cells #[.int .i64 3,.int .i64 x] 97)).heap.size (w.alloc (.cells #[.int .i64 3,.int .i64 x] 97))).alloc bY (.cells #[.int .i64 0,.int .i64 0] 97)).block w.heap.size ac).trans (aN w (.cells #[.int .i64 3,.int .i64 x] 97))
 generalize (w.alloc (.cells #[.int .i64 3,.int .i64 x] 97)).alloc (.cells #[.int .i64 0,.int .i64 0] 97)=g at*
 go_loopw [7] (fun iv wr=>∃j:Nat,j<=N/\iv=ak j/\ay (Below g.heap.size g wr)) (fun iv _=>ms.length-(intOf iv).toNat)
 case atStart=>exact⟨0,aX _,rfl,aE _ _⟩
 case round=>
  obtain⟨j,b,rfl,c⟩:=hrel;have z0:=(c.o.cell (p:=ao mb 0) (aM g _ c0)).trans c0;have n:j<ms.length:=aa;have aB:=(c.o.cell (p:=ao ab j) (aM g _ (t.o j n))).trans (t.o j n)
  have S:=(c.o.block w.heap.size (lt_of_some f.o.2.1)).trans f.o.2.1;have d:=(c.o.block (w.heap.size+1) (lt_of_some f.o.1)).trans f.o.1;have y1:wr.cell? (ao w.heap.size 1)=some (ak x):=aA S
  have r0:wr.cell? (ao (w.heap.size+1) 0)=some (ak 0):=aA d
  have r1:wr.cell? (ao (w.heap.size+1) 1)=some (ak 0):=aA d
  have W:wr.frozen? (ao (w.heap.size+1) 0)=false:=aC d
  have a0:wr.frozen? (ao (w.heap.size+1) 1)=false:=aC d
  have j0:(0:Int)<=(j:Int):=aa;have a1:(j:Int)<(ms.length:Int):=aa;clear S d;by_cases aF:j=N
  ·subst aF;rw[F.o.1] at aB;go_wp2_with fail
   go_quiet (fail)
   go_wp2_with fail;have aR:Fr (fun k=>k=w.heap.size+1) wr (((wr.drewN nq).setCell ⟨w.heap.size+1,0,none⟩ (.int .i64 3)).setCell ⟨w.heap.size+1,1,none⟩ (.int .i64 j)):=by
    have W:Fr (fun k=>k=w.heap.size+1) wr (wr.drewN nq):=Fr.of (below_drewN bZ nq)
    exact(W.set (w.heap.size+1) 0 _ rfl).set (w.heap.size+1) 1 _ rfl
   have g0:(((wr.drewN nq).setCell ⟨w.heap.size+1,0,none⟩ (.int .i64 3)).setCell ⟨w.heap.size+1,1,none⟩ (.int .i64 j)).cell? (ao (w.heap.size+1) 0)=some (ak 3):=by rw[a5 _ _ _ _ ac];exact a8 _ _ _ (u:=ak 0) r0
   have g1:(((wr.drewN nq).setCell ⟨w.heap.size+1,0,none⟩ (.int .i64 3)).setCell ⟨w.heap.size+1,1,none⟩ (.int .i64 j)).cell? (ao (w.heap.size+1) 1)=some (ak j):=a8 _ _ _ (u:=ak 0) ((a5 _ _ _ _ ac).trans r1)
   have ad:=o.o.trans (c.o.mono o.o.size)
   exact bz (v:=.agg #[ak 3,ak j]) (by simp[results,results66,go_sem,g0,g1]) rfl ⟨rfl,ad.trans (aR.below ad.size (fun k e=>by have e:=e;omega))⟩
  ·have a2:(ms.getD j 0==x)=false:=by
    have:ms.getD j 0≠x:=fun e=>by have:=F.o.2 j e n;omega
    simpa using this
   generalize ms.getD j 0=y at*;go_wp2_with fail
   go_quiet (fail)
   go_wp2_with fail;go_roundw;exact⟨j+1,aa,aj,below_drewN c.o _⟩
   simp[intOf];omega
end
structure dL (w0 w3 wr:aw)(mb bb vb fb:Nat)(vr:Value)(m1:List du)(P:List (Int×Int)×cP)(la:Option Addr)(lc:Nat)(va vn:Value)(m':List du):Prop where
 hs:w0.heap.size<=w3.heap.size
 wv:et w0 wr mb bb vb fb P.2 va vn vr m'
 kx:Kx w0 w3 m1 wr m'
 row:wr.ownsRow w3.heap.size 97 2 (.slice la P.1.length lc) P.1.length (ev P.1)
 no:∀k,fF m' k->¬some k=(Value.slice la P.1.length lc).ownBlock
section
variable {w0 w3 wr:aw}{mb bb vb fb:Nat}{vr va vn:Value}{m1 m':List du}{P:List (Int×Int)×cP}{la:Option Addr}{lc:Nat}
theorem dL.start (h:et w0 w3 mb bb vb fb P.2 va vn vr m1)(hp:P.1=[]):dL w0 w3 w3 mb bb vb fb vr m1 P none 0 va vn m1:=
 ⟨h.dx.size,h,Kx.refl _ _ _,by rw[hp];exact a6 _ _ _ _,fun k _ e=>by cases e⟩
theorem dL.call (h:dL w0 w3 wr mb bb vb fb vr m1 P la lc va vn m'){b:aw}{f:cP}{g i:Value}{c:List du}(l:et w0 b mb bb vb fb f g i vr c)(d:Kx w0 wr m' b c):dL w0 w3 b mb bb vb fb vr m1 (P.1,f) la lc g i c:=
 ⟨h.hs,l,h.kx.trans d,cy h.row (fun k e=>by
  obtain⟨m,hc⟩:=d6 h.row k e;exact d.1.fR k _ _ _ hc (by unfold jg;decide)),fun k hk e=>by
  rcases d.2 k hk with j|j
  ·exact h.no k j e
  ·have:=(cg h.row k e).2;omega⟩
theorem dL.below (h:dL w0 w3 wr mb bb vb fb vr m1 P la lc va vn m'){b:aw}(hb:Below wr.heap.size wr b):dL w0 w3 b mb bb vb fb vr m1 P la lc va vn m':=
 h.call (h.wv.below hb) (Kx.of hb)
theorem dL.push (h:dL w0 w3 wr mb bb vb fb vr m1 P la lc va vn m'){wq f:aw}(hq:Below wr.heap.size wr wq){v:Int×Int}{c:Option Addr}{d:Nat}(hg:wq.grownBy f (Value.slice la P.1.length lc).ownBlock)(i:f.ownsRow w3.heap.size 97 2 (.slice c (P.1.length+1) d) (P.1.length+1) (ev P.1++ev [v]))(j:(Value.slice c (P.1.length+1) d).ownBlock=(Value.slice la P.1.length lc).ownBlock\/(Value.slice c (P.1.length+1) d).ownBlock=some wq.heap.size):
 dL w0 w3 f mb bb vb fb vr m1 (P.1++[v],P.2) c d va vn m':=by
 have fr:=(Fr.of hq).grown hg (fun k e=>aL (by simpa using e.symm))
 have g:(P.1++[v]).length=P.1.length+1:=ac;have l:ev (P.1++[v])=ev P.1++ev [v]:=by simp[ev]
 refine⟨h.hs,h.wv.but fr (fun k hk e=>?_),⟨h.kx.1.new fr (fun k e=>(cg h.row k e).1),h.kx.2⟩,by rw[g,l];exact i,fun k hk e=>?_⟩
 ·refine⟨d6 h.row k e,fun b=>h.no k b e,?_⟩
  have m:=(cg h.row k e).1;have:=h.hs;omega
 ·rw[g] at e;rcases j with b|b
  ·rw[b] at e;exact h.no k hk e
  ·rw[b] at e;have e:k=wq.heap.size:=by simpa using e
   have:=h.wv.sY k hk;have:=hq.size;omega
theorem dL.box (h:dL w0 w3 wr mb bb vb fb vr m1 P la lc va vn m'){b:Nat}{d:aw}(f:Fr (fun k=>k=b) wr d)(hb:w3.heap.size<=b)(ht:b<wr.heap.size->(∃g,wr.heap[b]?=some (.cells g 97 (0,0)))/\¬fF m' b/\¬some b=(Value.slice la P.1.length lc).ownBlock):dL w0 w3 d mb bb vb fb vr m1 P la lc va vn m':=
 ⟨h.hs,h.wv.but f (fun k hk e=>by
  have e:=e;subst e;have:=h.hs;exact⟨(ht hk).1,(ht hk).2.1,aa⟩),⟨h.kx.1.new f (fun k e=>by have e:=e;omega),h.kx.2⟩,cy h.row (fun k e=>f.block k (cg h.row k e).2 (fun c=>by
  have c:=c;subst c;exact(ht (cg h.row k e).2).2.2 e)),h.no⟩
theorem dL.late {W:aw}(d:dL w0 w3 W mb bb vb fb vr m1 P la lc va vn m'){b:aw}{g:cP}{i j:Value}{f:List du}(n:dL w0 w3 b mb bb vb fb vr m1 (P.1,g) la lc i j f)(l:Kx w0 (W.alloc (.cells #[.int .i64 0,.int .i64 0] 97)) m' b f)(v1 v2:Int):
 b.heap[W.heap.size]?=some (.cells #[ak 0,ak 0] 97 (0,0))/\dL w0 w3 ((b.setCell ⟨W.heap.size,0,none⟩ (.int .i64 v1)).setCell ⟨W.heap.size,1,none⟩ (.int .i64 v2)) mb bb vb fb vr m1 (P.1,g) la lc i j f:=by
 have hc:=aN W (.cells #[.int .i64 0,.int .i64 0] 97)
 have m:=(l.1.fR _ _ _ _ hc (by unfold jg;decide)).trans hc;refine⟨m,n.box (((Fr.refl (fun k=>k=W.heap.size) b).set _ 0 _ rfl).set _ 1 _ rfl) d.kx.1.size (fun _=>⟨⟨_,m⟩,fun c=>?_,fun e=>?_⟩)⟩
 ·rcases l.2 _ c with c|c
  ·have:=d.wv.sY _ c;omega
  ·simp at c;omega
 ·have:=(cg d.row W.heap.size e).2;omega
end
namespace eX
def begins:=mD.begins
abbrev find:=mD.find
section
variable {w0 w3 wb:aw}{mb bb vb fb:Nat}{vr:Value}
theorem xQ {wr:aw}{mB m1 b:List du}{P:List (Int×Int)×cP}{c:Option Addr}{d n rb:Nat}{o m:Value}{k0:Int}{v0:List (Int×Int)}(h:dL w0 w3 wr mb bb vb fb vr m1 P c d o m b)(p:P.2.2[n]?=some (k0,v0))(x:P.2.2.length<=100000)(i:wr.heap[rb]?=some (.cells #[ak 0,ak 0] 97 (0,0)))(ar:rb<w3.heap.size)(hlo:w0.heap.size<=rb)(B:¬fF b rb)(ax:wb.heap.size<=rb)(q:Kx w0 wb mB wr b):
 ∃g j u,m=.slice (an g) b.length j/\wr.cell? (ao vb 1)=some (.slice (an g) b.length j)/\n<b.length/\b.length<=100000/\wr.cell? (ao g (n*2+1))=some u/\wr.frozen? (ao g (n*2+1))=false/\wr.cell? (ao rb 0)=some (ak 0)/\wr.cell? (ao rb 1)=some (ak 0)/\wr.frozen? (ao rb 0)=false/\wr.frozen? (ao rb 1)=false/\g≠rb/\
  ay ((∃s,et w0 (((wr.setCell ⟨g,n*2+1,none⟩ (.slice c P.1.length d)).setCell ⟨rb,0,none⟩ (.int .i64 3)).setCell ⟨rb,1,none⟩ (.int .i64 n)) mb bb vb fb (P.2.1,P.2.2.set n (k0,P.1)) o m vr s/\Kx w0 wb mB (((wr.setCell ⟨g,n*2+1,none⟩ (.slice c P.1.length d)).setCell ⟨rb,0,none⟩ (.int .i64 3)).setCell ⟨rb,1,none⟩ (.int .i64 n)) s)/\(((wr.setCell ⟨g,n*2+1,none⟩ (.slice c P.1.length d)).setCell ⟨rb,0,none⟩ (.int .i64 3)).setCell ⟨rb,1,none⟩ (.int .i64 n)).cell? (ao rb 0)=some (ak 3)/\(((wr.setCell ⟨g,n*2+1,none⟩ (.slice c P.1.length d)).setCell ⟨rb,0,none⟩ (.int .i64 3)).setCell ⟨rb,1,none⟩ (.int .i64 n)).cell? (ao rb 1)=some (ak n)):=by
 have t:n<b.length:=by rw[h.wv.len];exact(List.getElem?_eq_some_iff.1 p).1
 have F:b.length<=100000:=by rw[h.wv.len];exact x
 obtain⟨N,j,S⟩:=dU h.wv.nr;subst S;obtain⟨g,W,ab⟩:=d4 h.wv.nr aa;obtain⟨rfl,rfl⟩:N=some _/\j=W:=by simpa using ab
 obtain⟨y,hy⟩:∃y,b[n]?=some y:=⟨_,aI t⟩
 obtain⟨_,ad⟩:=na b n y hy;obtain⟨n1,ag⟩:=fe h.wv.nr ad;have r0:wr.cell? (ao rb 0)=some (ak 0):=aA i
 have r1:wr.cell? (ao rb 1)=some (ak 0):=aA i
 have ai:wr.frozen? (ao rb 0)=false:=aC i
 have al:wr.frozen? (ao rb 1)=false:=aC i
 obtain⟨aB,v⟩:=d6 h.wv.nr g rfl;have l:g≠rb:=fun e=>by rw[e,i] at v;simp at v
 refine⟨g,j,_,rfl,h.wv.cells.2.1,t,F,n1,ag,r0,r1,ai,al,l,?_,?_,?_⟩
 ·obtain⟨a1,a2,w⟩:=h.wv.filled p h.row;have fr:Fr (fun k=>k=rb) (wr.setCell ⟨g,n*2+1,none⟩ (.slice c P.1.length d)) (((wr.setCell ⟨g,n*2+1,none⟩ (.slice c P.1.length d)).setCell ⟨rb,0,none⟩ (.int .i64 3)).setCell ⟨rb,1,none⟩ (.int .i64 n)):=((Fr.refl (fun k=>k=rb) _).set rb 0 _ rfl).set rb 1 _ rfl;have ap:(wr.setCell ⟨g,n*2+1,none⟩ (.slice c P.1.length d)).heap[rb]?=some (.cells #[ak 0,ak 0] 97 (0,0)):=(aP _ _ _ _ (show rb≠g from fun e=>l e.symm)).trans i;refine⟨_,a1.but fr (fun k _ e=>?_),⟨(q.1.trans a2).new fr (fun k e=>by have e:=e;omega),fun k hk=>?_⟩⟩
  ·have e:=e;subst e;refine⟨⟨_,ap⟩,fun f=>?_,hlo⟩
   rcases w k f with f|f
   ·exact B f
   ·omega
  ·rcases w k hk with f|f
   ·exact q.2 k f
   ·right;omega
 ·rw[a5 _ _ _ _ ac];exact a8 _ _ _ ((a5 _ _ _ _ (fun e=>l (by injection e))).trans r0)
 ·exact a8 _ _ _ ((a5 _ _ _ _ ac).trans ((a5 _ _ _ _ (fun e=>l (by injection e))).trans r1))
end
end eX
namespace eX
def ql (w0:aw)(mb b c fb:Nat)(T:List cH)(M:cP->Int->cP)(n:Nat):Prop:=
 ∀(w:aw)(s:cP)(f g vr:Value)(m:List du)(v:Int×Int),et w0 w mb b c fb s f g vr m->eU (tI T.length) s->e3 T v->T.length<=s.1.length+n->
  Calls prog 66 (jT v.1 v.2 mb b c fb) w fun e w'=>∃i j d,e=.returned (.agg #[ak (dw M (tI T.length) s (dK v)).1.1,ak (dw M (tI T.length) s (dK v)).1.2])/\et w0 w' mb b c fb (dw M (tI T.length) s (dK v)).2 i j vr d/\Kx w0 w m w' d
structure Own (w3:aw)(xb rb tb:Nat)(x kd:Int)(ft:Value)(o d:Bool):Prop where
 x:w3.heap[xb]?=some (.cells #[ak 3,ak x] 97 (0,0))
 r:w3.heap[rb]?=some (.cells #[ak 0,ak 0] 97 (0,0))
 t:w3.heap[tb]?=some (.cells #[ak kd,ft,.bool o,.bool d] 118 (0,0))
theorem Own.kx {w0 w3 wr:aw}{m1 e:List du}{b rb tb:Nat}{x kd:Int}{c:Value}{o d:Bool}(h:Own w3 b rb tb x kd c o d)(k:Kx w0 w3 m1 wr e):Own wr b rb tb x kd c o d:=
 ⟨(k.1.fR _ _ _ _ h.x (by unfold jg;decide)).trans h.x,(k.1.fR _ _ _ _ h.r (by unfold jg;decide)).trans h.r,(k.1.fR _ _ _ _ h.t (by unfold jg;decide)).trans h.t⟩
theorem sZ {w:aw}(a b:Int):∀c,(an w.heap.size:Option Addr)=some c->∀k u,(ev [(a,b)])[k]?=some u->(w.alloc (.cells #[.int .i64 a,.int .i64 b] 97)).cell? (c.add k)=some u:=fun c e k u hk=>by
 have sv:=aN w (.cells #[.int .i64 a,.int .i64 b] 97)
 exact mD.xe
section
variable {w0 w3 wb:aw}{mb bb vb fb:Nat}{vr:Value}
theorem Eu {s0 s1 dj dk dl dm dn dp dq dr ds dt dv dx dy dz dA dB dC dD dE dF dG dH dI dJ dM dN dO dP dQ dR dS dT dU dV dW dX dY dZ d0 d1 d2 d3 d4 d5 d6 d7 d8 d9 ea eb iK ec ed ee ef eg eh ei ej ek el em en eo ep eq er es eu ex ey ez eA eB eC eD eE eF eG eH eI eJ eK eL eM eN eO eP eQ eR eS eT eV eW eX eY eZ e0 e1 e2 e4 e5 e6 e7 e8 e9 fa fc fd fe ff fg fh:Value}{Q:Exit->Act->aw->Prop}{cc:aw}{mB m1 cd:List du}{P:List (Int×Int)×cP}{bp:Option Addr}{br n ce rp cf rb tb:Nat}{ch ci fi:Value}{k0 x kd:Int}{fj fk:Bool}{v0:List (Int×Int)}{T:List cH}{wt:List b9}{M:cP->Int->cP}{o:cP}{l0:List Int}
 (h:dL w0 w3 cc mb bb vb fb vr m1 P bp br ch ci cd)(cE:P=dh M (tI T.length) o l0)(hM:kg (tI T.length) (fM T) (fN T wt) ce M)(cF:ql w0 mb bb vb fb T M ce)(hO:eU (tI T.length) o)(cj:T.length<=o.1.length+ce)(cG:Own w3 cf rb tb x kd fi fj fk)(hw:nH T wt)(ck:w0.cell? (ao bb 0)=some (am rp))(fl:∃ap c3,w0.cell? (ao rp 3)=some (.slice ap wt.length c3)/\c8 w0 ap wt)
 (cI:∀b:List (Int×Int)×cP,b=dh M (tI T.length) o (l0++if kd=5 then(wt.filter (fun e=>e.1==x)).map (fun e=>ew 3 e.2) else[])->b.2.2[n]?=some (k0,v0)/\b.2.2.length<=100000/\b.1.length<=100000)(cJ:∀k,k<=wt.length->(dh M (tI T.length) o (l0++((wt.take k).filter (fun e=>e.1==x)).map (fun e=>ew 3 e.2))).1.length<=100000)
 (ai:rb<w3.heap.size)(hlo:w0.heap.size<=rb)(cK:¬fF m1 rb)(cL:wb.heap.size<=rb)(cM:Kx w0 wb mB w3 m1)
 (cN:∀(a:Act)(w':aw)(cl cm:Value)(ab:List du)(b:List (Int×Int)×cP),b=dh M (tI T.length) o (l0++if kd=5 then(wt.filter (fun e=>e.1==x)).map (fun e=>ew 3 e.2) else[])->a.tmps.getD 6 undef=am rb->a.defers=[]->w'.cell? (ao rb 0)=some (ak 3)->w'.cell? (ao rb 1)=some (ak n)->et w0 w' mb bb vb fb (b.2.1,b.2.2.set n (k0,b.1)) cl cm vr ab->Kx w0 wb mB w' ab->Q .ret a w'):
 Code.wp prog ((find 18 (Tryz.f66.body.getD .skip)).getD .skip) Q ⟨#[s0,s1,am bb,am vb,am fb,am cf,am rb,dj,ak n,am tb,.slice bp P.1.length br,dk,dl,dm,dn,dp,dq,dr,ds,dt,dv,dx,dy,dz,dA,dB,dC,dD,dE,dF,dG,dH,dI,dJ,dM,dN,dO,dP,dQ,dR,dS,dT,dU,dV,dW,dX,dY,dZ,d0,d1,d2,d3,d4,d5,d6,d7,d8,d9,ea,eb,iK,ec,ed,ee,ef,eg,eh,ei,ej,ek,el,em,en,eo,ep,eq,er,es,eu,ex,ey,ez,eA,eB,eC,eD,eE,eF,eG,eH,eI,eJ,eK,eL,eM,eN,eO,eP,eQ,eR,eS,eT,eV,eW,eX,eY,eZ,e0,e1,e2,e4,e5,e6,e7,e8,e9,fa,fc,fd,fe,ff,fg,fh],[]⟩ cc:=by
 conv=>arg 2;whnf
 have cO:ay (∀(a:Act)(w':aw)(cl cm:Value)(ab:List du)(b:List (Int×Int)×cP),b=dh M (tI T.length) o (l0++if kd=5 then(wt.filter (fun e=>e.1==x)).map (fun e=>ew 3 e.2) else[])->a.tmps.getD 6 undef=am rb->a.defers=[]->w'.cell? (ao rb 0)=some (ak 3)->w'.cell? (ao rb 1)=some (ak n)->et w0 w' mb bb vb fb (b.2.1,b.2.2.set n (k0,b.1)) cl cm vr ab->Kx w0 wb mB w' ab->_):=cN;obtain⟨ap,c3,cn,cQ⟩:=fl;have co:ay (∀w',Below w0.heap.size w0 w'->_/\_/\_):=fun w' hb=>⟨(hb.cell (p:=ao bb 0) (aM w0 _ ck)).trans ck,(hb.cell (p:=ao rp 3) (aM w0 _ cn)).trans cn,cQ.below hb⟩
 have cR:ay (_):=cG;have fm:ay (_):=cF;have cS:ay (_):=hw;have fn:ay (∀l,_):=fun l=>m6 hM hO (by rw[jS];exact cj) l;have cp:ay (_/\_):=⟨cI,cj⟩
 have fo:ay (∀k,k<=wt.length->_):=cJ;have ad:ay (_/\_/\_/\_/\_):=⟨ai,hlo,cK,cL,cM⟩
 have t:ay (dL w0 w3 cc mb bb vb fb vr m1 P bp br ch ci cd):=h;have v:ay (P=dh M (tI T.length) o (l0++((wt.take 0).filter (fun e=>e.1==x)).map (fun e=>ew 3 e.2))):=by show _=_;rw[cE];simp
 have fT:=hw.l2;obtain⟨fp,fq,fr,fs,ft⟩:=info_parts my;clear cN cI cF hw cG h ck cn cQ ai hlo cK cL cM hO hM cj cJ cE;have cT:ay (∀{wr:aw}{b:List (Int×Int)×cP}{f:Option Addr}{i:Nat}{B F:Value}{m:List du},dL w0 w3 wr mb bb vb fb vr m1 b f i B F m->b=dh M (tI T.length) o (l0++if kd=5 then(wt.filter (fun e=>e.1==x)).map (fun e=>ew 3 e.2) else[])->wr.heap[rb]?=some (.cells #[ak 0,ak 0] 97 (0,0))/\¬fF m rb/\Kx w0 wb mB wr m):=fun {wr b f i B F m} aF _=>by
  refine⟨(cR.o.kx aF.kx).r,fun bs=>?_,ad.o.2.2.2.2.trans aF.kx⟩
  rcases aF.kx.2 rb bs with bs|bs
  ·exact ad.o.2.2.1 bs
  ·have:=ad.o.1;omega
 go_wp2_with fail
 go_loopw [10,13] (fun fu iv wr=>∃(j:Nat)(b:List (Int×Int)×cP)(f:Option Addr)(i:Nat)(B F:Value)(m:List du),j<=wt.length/\fu=.slice f b.1.length i/\iv=ak j/\ay ((kd≠5->j=0)/\b=dh M (tI T.length) o (l0++((wt.take j).filter (fun e=>e.1==x)).map (fun e=>ew 3 e.2)))/\ay (dL w0 w3 wr mb bb vb fb vr m1 b f i B F m)) (fun _ iv _=>wt.length-(intOf iv).toNat)
 case atStart=>exact⟨0,P,bp,br,ch,ci,cd,aX _,rfl,rfl,⟨fun _=>rfl,v.o⟩,t⟩
 case round=>
  clear v t;obtain⟨j,b,f,i,B,F,m,fv,rfl,rfl,v,t⟩:=hrel;obtain⟨cU,cV,cW⟩:=co.o wr t.o.wv.dx;have cq:=cR.o.kx t.o.kx;have t0:wr.cell? (ao tb 0)=some (ak kd):=aA cq.t
  have fw:wr.cell? (ao cf 1)=some (ak x):=aA cq.x
  have q0:(0:Int)<=(j:Int):=aa;clear cq;by_cases k5:kd=5
  ·subst k5;by_cases ai:j<wt.length
   ·have q1:(j:Int)<(wt.length:Int):=aa;obtain⟨aR,bt,rfl,fU,cr⟩:=cW aa;obtain⟨cs,y1⟩:=cr j ai;have bx:wt.getD j (0,0)∈wt:=getD_in ai;obtain⟨ct,b0,b6⟩:=cS.o.wv _ bx;have aT:=mD.sx (fun e:b9=>e.1==x) wt j ai (0,0)
    obtain⟨b7,s,cu⟩:∃b7 s,wt.getD j (0,0)=(b7,s):=⟨_,_,rfl⟩
    have cX:ay (_=_):=cu;rw[cu] at cs y1 ct b0 b6 aT bx;dsimp only at cs y1 ct b0 b6 aT;clear cu;cases hq:(b7==x)
    ·have b8:ay (((5:Int)≠5->j+1=0)/\b=dh M (tI T.length) o (l0++((wt.take (j+1)).filter (fun e=>e.1==x)).map (fun e=>ew 3 e.2))):=⟨fun c=>absurd rfl c,by rw[aT,hq];simpa using v.o.2⟩
     clear aT v cr bx;have fx:ay (∀q,dL w0 w3 (wr.drewN q) mb bb vb fb vr m1 b f i B F m):=fun q=>t.o.below (below_drewN bZ q)
     as_aux_lemma=>
     go_wp2_with fail
     go_quiet (fail)
     go_wp2_with fail;go_roundw
     case rel=>exact⟨j+1,b,f,i,B,F,m,aa,rfl,aj,b8,fx.o _⟩
     case measure=>simp[intOf];omega
    ·have fV:b7=x:=by simpa using hq
     have cY:e3 T (3,s):=⟨l8 s b0 (by have:=cS.o.l1;have:=b6.1;omega),fun _=>⟨b0,b6⟩⟩
     have ca:=fn.o (l0++((wt.take j).filter (fun e=>e.1==x)).map (fun e=>ew 3 e.2))
     rw[<-v.o.2] at ca;have cb:ay (∀W:aw,dL w0 w3 W mb bb vb fb vr m1 b f i B F m->Calls prog 66 (jT 3 s mb bb vb fb) W fun e w'=>∃N S w,e=.returned (.agg #[ak (dw M (tI T.length) b.2 (dK (3,s))).1.1,ak (dw M (tI T.length) b.2 (dK (3,s))).1.2])/\dL w0 w3 w' mb bb vb fb vr m1 (b.1,(dw M (tI T.length) b.2 (dK (3,s))).2) f i N S w/\Kx w0 W m w' w):=fun W aF=>by
      refine(fm.o W b.2 B F vr m (3,s) aF.wv ca.ok cY (by have a0:=ca.le;have fW:=cp.o.2;omega)).mono ?_;rintro e d ⟨N,S,w,rfl,fy,a3⟩
      exact⟨N,S,w,rfl,aF.call fy a3,a3⟩
     have cZ:ay (∀q,dL w0 w3 (wr.drewN q) mb bb vb fb vr m1 b f i B F m):=fun q=>t.o.below (below_drewN bZ q)
     have b8:ay (((5:Int)≠5->j+1=0)/\(b.1++[(dw M (tI T.length) b.2 (dK (3,s))).1],(dw M (tI T.length) b.2 (dK (3,s))).2)=dh M (tI T.length) o (l0++((wt.take (j+1)).filter (fun e=>e.1==x)).map (fun e=>ew 3 e.2))):=⟨fun c=>absurd rfl c,by
      rw[aT,hq,aJ rfl,bC,<-bj];show _=dh M (tI T.length) o (_++[dK (3,s)])
      rw[od,<-v.o.2]⟩
     have fX:b.1.length<=100000:=by rw[v.o.2];exact fo.o j fv
     have c6:=t.o.wv.cells.2.2.1;generalize dw M (tI T.length) b.2 (dK (3,s))=fz at*;obtain⟨⟨v1,v2⟩,bd⟩:=fz;dsimp only at cb b8;clear aT v cr bx ca cY ct t;go_wp2_with fail
     go_quiet (fail)
     go_wp2_with fail;have aV:=cZ.o nq;have c7:(wr.drewN nq).cell? (ao fb 0)=some (kB mb bb vb fb):=c6;have c9:(wr.drewN nq).cell? (ao bb 0)=some (am rp):=cU;have da:(wr.drewN nq).cell? (ao rp 3)=some (.slice (some ⟨aR,bt,none⟩) wt.length c3):=cV;have db:(wr.drewN nq).cell? (ao aR (bt+j*2+1))=some (ak s):=y1;generalize wr.drewN nq=W at*;have n1:W.heap.size≠fb:=by have:fb<W.heap.size:=aM W _ c7;omega
     have fA:W.heap.size≠bb:=by have:bb<W.heap.size:=aM W _ c9;omega
     have fB:W.heap.size≠rp:=by have:rp<W.heap.size:=aM W _ da;omega
     have n4:W.heap.size≠aR:=by have:aR<W.heap.size:=aM W _ db;omega
     have cv:=cb.o W.drew (aV.below (aE _ W).drew)
     have cw:=cb.o (W.alloc (.cells #[.int .i64 0,.int .i64 0] 97)).drew (aV.below ((aE _ W).alloc bY _).drew)
     have aV:ay (dL w0 w3 W mb bb vb fb vr m1 b f i B F m):=aV;clear cZ cb cs y1 c6 cU cV cW t0 fw
     go_region_held3 (fun w'=>w'.cell? (ao fb 0)=some (kB mb bb vb fb)/\w'.cell? (ao bb 0)=some (am rp)/\w'.cell? (ao rp 3)=some (.slice (some ⟨aR,bt,none⟩) wt.length c3)/\w'.cell? (ao aR (bt+j*2+1))=some (ak s)) (go_keep) (first|(go_at_call 66;refine cv.mono ?_;clear cv cw;rintro e d ⟨N,S,w,rfl,ag,_⟩;have dc:ay (dL w0 w3 d mb bb vb fb vr m1 (b.1,bd) f i N S w):=ag;obtain⟨b1,b2,b3⟩:=co.o d ag.wv.dx;have b4:=ag.wv.cells.2.2.1;obtain⟨_,_,cx,_,be⟩:=b3 aa;cases cx;have b5:=(be j ai).2;rw[cX.o] at b5;clear ag b3 be)|(go_at_call 66;refine cw.mono ?_;clear cv cw;rintro e d ⟨N,S,w,rfl,ag,a3⟩;have ar:=aV.o.late ag (show Kx w0 (W.alloc (.cells #[.int .i64 0,.int .i64 0] 97)) m d w from(Kx.of bZ.drew).trans a3) v1 v2;have dd:ay (dL w0 w3 ((d.setCell ⟨W.heap.size,0,none⟩ (.int .i64 v1)).setCell ⟨W.heap.size,1,none⟩ (.int .i64 v2)) mb bb vb fb vr m1 (b.1,bd) f i N S w/\d.heap[W.heap.size]?=some (.cells #[ak 0,ak 0] 97 (0,0))):=⟨ar.2,ar.1⟩;have c0:d.cell? (ao W.heap.size 0)=some (ak 0):=aA ar.1;have c1:d.cell? (ao W.heap.size 1)=some (ak 0):=aA ar.1;have c2:d.frozen? (ao W.heap.size 0)=false:=aC ar.1;have c4:d.frozen? (ao W.heap.size 1)=false:=aC ar.1;obtain⟨b1,b2,b3⟩:=co.o d ag.wv.dx;have b4:=ag.wv.cells.2.2.1;obtain⟨_,_,cx,_,be⟩:=b3 aa;cases cx;have b5:=(be j ai).2;rw[cX.o] at b5;clear ag b3 be ar a3))
     all_goals
      first
      |(
       have ax:ay (dL w0 w3 (d.alloc (.cells #[.int .i64 v1,.int .i64 v2] 97)) mb bb vb fb vr m1 (b.1,bd) f i N S w/\(d.alloc (.cells #[.int .i64 v1,.int .i64 v2] 97)).cell? (ao d.heap.size 0)=some (ak v1)/\(d.alloc (.cells #[.int .i64 v1,.int .i64 v2] 97)).cell? (ao d.heap.size 1)=some (ak v2)):=⟨dc.o.below ((aE _ d).alloc bY _),by have cz:=aN d (.cells #[.int .i64 v1,.int .i64 v2] 97);unfold World.cell?;dsimp only;rw[cz];rfl,by have cz:=aN d (.cells #[.int .i64 v1,.int .i64 v2] 97);unfold World.cell?;dsimp only;rw[cz];rfl⟩
       clear dc b1 b2 b4 b5;generalize d.alloc (.cells #[.int .i64 v1,.int .i64 v2] 97)=al at*;generalize d.heap.size=fC at*)
      |(
       have ax:ay (dL w0 w3 ((d.setCell ⟨W.heap.size,0,none⟩ (.int .i64 v1)).setCell ⟨W.heap.size,1,none⟩ (.int .i64 v2)) mb bb vb fb vr m1 (b.1,bd) f i N S w/\((d.setCell ⟨W.heap.size,0,none⟩ (.int .i64 v1)).setCell ⟨W.heap.size,1,none⟩ (.int .i64 v2)).cell? (ao W.heap.size 0)=some (ak v1)/\((d.setCell ⟨W.heap.size,0,none⟩ (.int .i64 v1)).setCell ⟨W.heap.size,1,none⟩ (.int .i64 v2)).cell? (ao W.heap.size 1)=some (ak v2)):=⟨dd.o.1,by rw[a5 _ _ _ _ ac];exact a8 _ _ _ (u:=ak 0) c0,a8 _ _ _ (u:=ak 0) ((a5 _ _ _ _ ac).trans c1)⟩
       clear dd b1 b2 b4 b5 c0 c1 c2 c4;generalize (d.setCell ⟨W.heap.size,0,none⟩ (.int .i64 v1)).setCell ⟨W.heap.size,1,none⟩ (.int .i64 v2)=al at*;clear c7 c9 da db n1 fA fB n4 aV;generalize W.heap.size=fC at*)
     all_goals
      have k1:=ax.o.2.1;have fY:=ax.o.2.2;have de:ay (Below al.heap.size al (al.alloc (.cells #[.int .i64 v1,.int .i64 v2] 97))):=aq al _;have fD:ay (∀a,(an al.heap.size:Option Addr)=some a->∀k u,(ev [(v1,v2)])[k]?=some u->_=_):=sZ v1 v2;have cA:=cy ax.o.1.row (fun k e=>de.o.block k (cg ax.o.1.row k e).2)
      dsimp only at cA;have fE:ay (_):=ax.o.1.kx.1.size
      go_upto_region 20 with(at_builtin;refine je _ rfl _ _ 57 rfl w3.heap.size 97 fp (.agg #[ak 0,ak 0]) 2 16 underlying57 fq fr fs ft rfl ae (.slice f b.1.length i) b.1.length (ev b.1) rfl cA (an al.heap.size) 1 1 (ev [(v1,v2)]) rfl rfl (fun e=>by cases e) fD.o (i0 _) (by unfold maxLen;omega) aa (by have:=fE.o;simp;omega) ?_;intro fG fH fZ df dg di;have fI:ay (_):=(ax.o.1.push de.o dg df di))
      clear df dg di cA;go_wp2_with fail;go_roundw
      case rel=>exact⟨j+1,(b.1++[(v1,v2)],bd),fG,fH,N,S,w,aa,ac,aj,b8,fI⟩
      case measure=>simp[intOf];omega
   ·obtain rfl:j=wt.length:=aa;have aB:ay (b=dh M (tI T.length) o (l0++if(5:Int)=5 then(wt.filter (fun e=>e.1==x)).map (fun e=>ew 3 e.2) else[])):=by have a0:=v.o.2;rw[ba] at a0;show _=_;rw[aJ rfl];exact a0
    obtain⟨bg,bi,bl⟩:=cT.o t.o aB.o;obtain⟨bn,bo,_⟩:=cp.o.1 _ aB.o;obtain⟨g,fJ,u,cB,c1,c2,fK,c4,c5,fL,fO,fP,fQ,fR,cC⟩:=xQ t.o bn bo bg ad.o.1 ad.o.2.1 bi ad.o.2.2.2.1 bl;have g0:(0:Int)<=(n:Int):=aa;have g1:(n:Int)<(m.length:Int):=aa;clear bg bi bl bn bo cB;go_wp2_with fail;obtain⟨⟨ab,a1,a2⟩,ap,cD⟩:=cC.o;exact cO.o _ _ _ _ ab b aB.o rfl rfl ap cD a1 a2
  ·have f0:(kd==5)=false:=by simpa using k5
   have fS:=v.o.1 k5;subst fS;have aB:ay (b=dh M (tI T.length) o (l0++if kd=5 then(wt.filter (fun e=>e.1==x)).map (fun e=>ew 3 e.2) else[])):=by have a0:=v.o.2;show _=_;rw[aH k5];simpa using a0
   obtain⟨bg,bi,bl⟩:=cT.o t.o aB.o;obtain⟨bn,bo,_⟩:=cp.o.1 _ aB.o;obtain⟨g,fJ,u,cB,c1,c2,fK,c4,c5,fL,fO,fP,fQ,fR,cC⟩:=xQ t.o bn bo bg ad.o.1 ad.o.2.1 bi ad.o.2.2.2.1 bl;have g0:(0:Int)<=(n:Int):=aa;have g1:(n:Int)<(m.length:Int):=aa;clear bg bi bl bn bo cB;go_wp2_with fail
   all_goals
    obtain⟨⟨ab,a1,a2⟩,ap,cD⟩:=cC.o;exact cO.o _ _ _ _ ab b aB.o rfl rfl ap cD a1 a2
end
end eX
end Go.Proofs.YtpkjkjhanlbcoaaGreat
