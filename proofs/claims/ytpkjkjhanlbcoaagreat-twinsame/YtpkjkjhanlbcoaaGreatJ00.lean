import Derived.Laws.BitsAllLaws
import Derived.Laws.BitsLemmas
namespace Go.Proofs.YtpkjkjhanlbcoaaGreat
theorem V{P:Prop}(h:P:=by omega):P:=h
theorem Z{P:Prop}(h:P:=by simp):P:=h
theorem aa{P:Prop}(h:P:=by decide):P:=h
namespace W
open Go
theorem lL (w:Int):(BitVec.ofInt 64 w).toNat=(w%18446744073709551616).toNat:=by rw[BitVec.toNat_ofInt];rfl
theorem BB (w:Int):bits .and .i64 w 3=w%4:=by show IntKind.i64.wrap (((BitVec.ofInt 64 w) &&& (BitVec.ofInt 64 3)).toNat:Int)=w%4;rw[BitVec.toNat_and,lL,lL];have e:((3:Int)%18446744073709551616).toNat=3:=aa;rw[e,nat_mask2,IntKind.wrap_i64];omega
theorem BC (w:Int):bits .and .i64 w 15=w%16:=by show IntKind.i64.wrap (((BitVec.ofInt 64 w) &&& (BitVec.ofInt 64 15)).toNat:Int)=w%16;rw[BitVec.toNat_and,lL,lL];have e:((15:Int)%18446744073709551616).toNat=15:=aa;rw[e,nat_mask4,IntKind.wrap_i64];omega
theorem BD (x t:Int)(h:x%4=0)(b:-9223372036854775808<=x)(c:x<=9223372036854775804)(t0:0<=t)(d:t<4):bits .or .i64 x t=x+t:=by show IntKind.i64.wrap (((BitVec.ofInt 64 x) ||| (BitVec.ofInt 64 t)).toNat:Int)=x+t;rw[BitVec.toNat_or,lL,lL,nat_join 2 _ _ V V,IntKind.wrap_i64];omega
theorem BE (x t:Int)(h:x%16=0)(b:-9223372036854775808<=x)(c:x<=9223372036854775792)(t0:0<=t)(d:t<16):bits .or .i64 x t=x+t:=by show IntKind.i64.wrap (((BitVec.ofInt 64 x) ||| (BitVec.ofInt 64 t)).toNat:Int)=x+t;rw[BitVec.toNat_or,lL,lL,nat_join 4 _ _ V V,IntKind.wrap_i64];omega
def rc (n low:Int):Int:=if n<low then 1 else if 1152921504606846976<=n then 1 else 0
def vc (k n:Int):Int:=
 if k=0 then(if n=0 then 0 else 7) else if k=2 then(if n=0 then 0 else 7)
 else if k=1 then rc n (-1152921504606846976) else if k=3 then rc n 0 else 2
def tg (k:Int):Int:=if k=1 then 0 else if k=3 then 1 else if k=0 then 2 else 3
def iH (t:Int):Int:=if t=0 then 1 else if t=1 then 3 else if t=2 then 0 else 2
def ew (k n:Int):Int:=if vc k n=0 then 4*n+tg k else 0
theorem vz (k:Int):0<=tg k/\tg k<4:=by unfold tg;repeat' split<;>omega
theorem BF (k n:Int)(h:vc k n=0):-1152921504606846976<=n/\n<1152921504606846976:=by unfold vc rc at h;repeat' split at h<;>omega
theorem BG (k n:Int)(b:-1152921504606846976<=n)(c:n<1152921504606846976):bits .or .i64 (n*4) (tg k)=4*n+tg k:=by have ht:=vz k;rw[BD (n*4) (tg k) V V V ht.1 ht.2];omega
def dc (w:Int):Int:=vc (iH (w%4)) (w/4)
def dk (w:Int):Int:=if dc w=0 then iH (w%4) else 0
def de (w:Int):Int:=if dc w=0 then w/4 else 0
def hc (k f:Int):Int:=
 if k=1 then(if f=2 then 0 else 1) else if k=3 then(if f=2 then 0 else 1) else if k=4 then(if f=2 then 0 else 1)
 else if k=2 then(if f<0 then 1 else if 12<f then 1 else 0) else if k=5 then(if f=0 then 0 else 1) else 2
def hw (k f:Int):Int:=if hc k f=0 then 16*f+k else 0
def pc (h:Int):Int:=if hc (h%16) (h/16)=0 then 0 else 7
def pk (h:Int):Int:=if hc (h%16) (h/16)=0 then h%16 else 0
def pf (h:Int):Int:=if hc (h%16) (h/16)=0 then h/16 else 0
theorem iS (k f:Int)(h:hc k f=0):1<=k/\k<=5/\0<=f/\f<=12:=by unfold hc at h;repeat' split at h<;>omega
theorem BH (k f:Int)(h:hc k f=0):bits .or .i64 (f*16) k=16*f+k:=by have hb:=iS k f h;rw[BE (f*16) k V V V V V];omega
theorem rV (k f:Int)(h:hc k f=0):hw k f=16*f+k:=by unfold hw;rw[if_pos h]
theorem BI (k f:Int)(h:hc k f≠0):hw k f=0:=by unfold hw;rw[if_neg h]
theorem rW (k n:Int)(h:vc k n=0):ew k n=4*n+tg k:=by unfold ew;rw[if_pos h]
theorem BJ (k n:Int)(h:vc k n≠0):ew k n=0:=by unfold ew;rw[if_neg h]
theorem oF (k f:Int)(h:hc k f=0):(k=1/\f=2)\/(k=3/\f=2)\/(k=4/\f=2)\/(k=2/\0<=f/\f<=12)\/(k=5/\f=0):=by unfold hc at h;repeat' split at h<;>omega
theorem BK (k f:Int)(b:k≠1)(c:k≠2)(d:k≠3)(e:k≠4)(g:k≠5):hc k f=2:=by unfold hc;rw[if_neg b,if_neg d,if_neg e,if_neg c,if_neg g]
theorem BL (k f:Int)(h:hc k f≠0):
 ((k=1/\f<2)\/(k=1/\2<f)\/(k=3/\f<2)\/(k=3/\2<f)\/(k=4/\f<2)\/(k=4/\2<f)\/(k=2/\f<0)\/(k=2/\12<f)\/(k=5/\f<0)\/(k=5/\0<f))\/(k≠1/\k≠2/\k≠3/\k≠4/\k≠5):=by
 unfold hc at h;repeat' split at h<;>omega
theorem BM (k f:Int)(h:(k=1/\f<2)\/(k=1/\2<f)\/(k=3/\f<2)\/(k=3/\2<f)\/(k=4/\f<2)\/(k=4/\2<f)\/(k=2/\f<0)\/(k=2/\12<f)\/(k=5/\f<0)\/(k=5/\0<f)):hc k f=1:=by
 rcases h with⟨rfl,h⟩|⟨rfl,h⟩|⟨rfl,h⟩|⟨rfl,h⟩|⟨rfl,h⟩|⟨rfl,h⟩|⟨rfl,h⟩|⟨rfl,h⟩|⟨rfl,h⟩|⟨rfl,h⟩
 all_goals (simp[hc];omega)
def fl (k:Int):Int:=if k=1 then 2 else if k=3 then 2 else if k=4 then 2 else 0
def fm (k:Int):Int:=if k=1 then 2 else if k=3 then 2 else if k=4 then 2 else if k=2 then 12 else 0
def fk (k:Int):Bool:=k==1||k==3||k==4||k==2||k==5
def cY (x:Int):Bool:=dc x==0&&dk x==3
def cg (x:Int):Int:=if cY x then de x else 0
theorem lM (x:Int)(h:cY x=true):cg x=de x:=by unfold cg;rw[if_pos h]
theorem vA (x:Int)(h:cY x=false):cg x=0:=by unfold cg;rw[h];rfl
theorem BN (k n:Int)(h:vc k n=0):k=0\/k=1\/k=2\/k=3:=by unfold vc at h;repeat' split at h<;>omega
theorem BO (k:Int)(h:k=0\/k=1\/k=2\/k=3):iH (tg k)=k:=by rcases h with rfl|rfl|rfl|rfl<;>rfl
theorem pT (k n:Int)(h:vc k n=0):dc (ew k n)=0/\dk (ew k n)=k/\de (ew k n)=n:=by
 have ht:=vz k;have e:ew k n=4*n+tg k:=rW k n h;have b:ew k n%4=tg k:=V;have c:ew k n/4=n:=V;have d:iH (tg k)=k:=BO k (BN k n h)
 have hd:dc (ew k n)=0:=by unfold dc;rw[b,c,d,h]
 exact⟨hd,by unfold dk;rw[if_pos hd,b,d],by unfold de;rw[if_pos hd,c]⟩
theorem BP (t:Int)(b:0<=t)(c:t<4):tg (iH t)=t:=by have:t=0\/t=1\/t=2\/t=3:=V;rcases this with rfl|rfl|rfl|rfl<;>rfl
theorem vB (x:Int)(h:dc x=0):vc (dk x) (de x)=0/\ew (dk x) (de x)=x:=by
 have b:dk x=iH (x%4):=by unfold dk;rw[if_pos h]
 have c:de x=x/4:=by unfold de;rw[if_pos h]
 have hv:vc (dk x) (de x)=0:=by rw[b,c];exact h
 refine⟨hv,?_⟩
 rw[rW _ _ hv,b,c,BP _ V V];omega
theorem nF (k n:Int)(h:vc k n=0):cY (ew k n)=(k==3)/\(k=3->cg (ew k n)=n):=by
 obtain⟨b,c,d⟩:=pT k n h;have hb:cY (ew k n)=(k==3):=by unfold cY;rw[b,c];rfl
 exact⟨hb,fun e=>by rw[lM _ (by rw[hb,e];rfl),d]⟩
theorem nG (n:Int)(b:0<=n)(c:n<1152921504606846976):vc 3 n=0:=by simp[vc,rc];omega
theorem pU (k f:Int)(h:hc k f=0):pk (hw k f)=k/\pf (hw k f)=f/\pc (hw k f)=0:=by have b:=iS k f h;rw[rV k f h];have c:(16*f+k)%16=k:=V;have d:(16*f+k)/16=f:=V;unfold pk pf pc;rw[c,d,if_pos h,if_pos h,if_pos h];exact⟨rfl,rfl,rfl⟩
theorem BQ (x:Int)(h:pc x=0):hc (pk x) (pf x)=0/\hw (pk x) (pf x)=x:=by
 have c:hc (x%16) (x/16)=0:=by
  unfold pc at h;split at h
  ·assumption
  ·omega
 have b:pk x=x%16:=by unfold pk;rw[if_pos c]
 have d:pf x=x/16:=by unfold pf;rw[if_pos c]
 rw[b,d,rV _ _ c];exact⟨c,V⟩
end W
namespace Kp
abbrev BR:=List (Int×Int)
def mu (L:BR)(A:List Int):Nat:=(L.filter (fun e=>!A.contains e.1)).length
end Kp
namespace cf
open Kp
abbrev b7:=Int×Int
section
variable {σ gZ:Type}
def pass (is:σ->Int->Bool)(kp:σ->Int->σ):List b7->σ->List b7->List b7->σ×List b7×List b7
 |[],s,C,D=>(s,C,D)
 |e::r,s,C,D=>if is s e.1 then pass is kp r (kp s e.2) (C++[e]) D else pass is kp r s C (D++[e])
def turns (is:σ->Int->Bool)(kp:σ->Int->σ):Nat->List b7->σ->List b7->σ×List b7×List b7
 |0,D,s,C=>(s,C,D)
 |n+1,D,s,C=>if(pass is kp D s C []).2.1.length=C.length then pass is kp D s C [] else turns is kp n (pass is kp D s C []).2.2 (pass is kp D s C []).1 (pass is kp D s C []).2.1
variable {is:σ->Int->Bool}{kp:σ->Int->σ}
theorem rX:∀(l:List b7)(s:σ)(C D:List b7),(pass is kp l s C D).2.1.length+(pass is kp l s C D).2.2.length=C.length+D.length+l.length/\C.length<=(pass is kp l s C D).2.1.length
 |[],s,C,D=>by simp[pass]
 |e::r,s,C,D=>by
  unfold pass;split
  ·have:=rX r (kp s e.2) (C++[e]) D;simp at this⊢
   omega
  ·have:=rX r s C (D++[e])
   simp at this⊢
   omega
theorem BS {n:Nat}{D:List b7}{s:σ}{C:List b7}(h:(pass is kp D s C []).2.1.length≠C.length):turns is kp (n+1) D s C=turns is kp n (pass is kp D s C []).2.2 (pass is kp D s C []).1 (pass is kp D s C []).2.1:=by rw[turns,if_neg h]
theorem BU {n:Nat}{D:List b7}{s:σ}{C:List b7}(h:(pass is kp D s C []).2.1.length=C.length):turns is kp (n+1) D s C=pass is kp D s C []:=by rw[turns,if_pos h]
theorem rY (x:b7):∀(l:List b7)(s:σ)(C D:List b7),(pass is kp l s C D).2.1.count x+(pass is kp l s C D).2.2.count x=C.count x+D.count x+l.count x
 |[],s,C,D=>by simp[pass]
 |e::r,s,C,D=>by
  unfold pass;split
  ·rw[rY x r (kp s e.2) (C++[e]) D,List.count_append,List.count_cons,List.count_cons,List.count_nil];omega
  ·rw[rY x r s C (D++[e]),List.count_append,List.count_cons,List.count_cons,List.count_nil];omega
theorem vC (x:b7):∀(n:Nat)(D:List b7)(s:σ)(C:List b7),(turns is kp n D s C).2.1.count x+(turns is kp n D s C).2.2.count x=C.count x+D.count x
 |0,D,s,C=>by simp[turns]
 |n+1,D,s,C=>by
  have h:=rY (is:=is) (kp:=kp) x D s C [];unfold turns;split
  ·rw[h];simp
  ·rw[vC x n,h];simp
theorem vD:∀(n:Nat)(D:List b7)(s:σ)(C:List b7),(turns is kp n D s C).2.1.length+(turns is kp n D s C).2.2.length=C.length+D.length
 |0,D,s,C=>by simp[turns]
 |n+1,D,s,C=>by
  have h:=(rX (is:=is) (kp:=kp) D s C []).1;unfold turns;split
  ·rw[h];simp
  ·rw[vD n,h];simp
end
end cf
namespace cf
theorem gx {b:Type}(l:List b)(i:Nat)(h:i<l.length)(z:b):l.take (i+1)=l.take i++[l.getD i z]:=by rw[List.take_add_one,List.getElem?_eq_getElem h];simp[List.getElem?_eq_getElem h]
section
variable {σ:Type}{is:σ->Int->Bool}{kp:σ->Int->σ}
variable {r:List b7}{D M:List Bool}{P:σ×List b7×List b7}{i:Nat}{A:σ}{C:List b7}
end
end cf
open W
abbrev cQ:=List Int×List (Int×List (Int×Int))
def eg (M:cQ->Int->cQ)(T:List Int)(s:cQ)(x:Int):(Int×Int)×cQ:=
 if dk x=3 then(if T.contains (de x)=true then(if s.1.contains (de x)=true then((3,(s.1.idxOf (de x):Int)),s) else((3,(s.1.length:Int)),M s (de x))) else((0,0),s))
 else((dk x,de x),s)
def dz (M:cQ->Int->cQ)(T:List Int)(s:cQ)(l:List Int):List (Int×Int)×cQ:=l.foldl (fun r x=>(r.1++[(eg M T r.2 x).1],(eg M T r.2 x).2)) ([],s)
theorem BV (M:cQ->Int->cQ)(T:List Int)(s:cQ):dz M T s []=([],s):=rfl
theorem rZ (M:cQ->Int->cQ)(T:List Int)(s:cQ)(l:List Int)(x:Int):dz M T s (l++[x])=((dz M T s l).1++[(eg M T (dz M T s l).2 x).1],(eg M T (dz M T s l).2 x).2):=by simp[dz,List.foldl_append]
theorem a8 {α:Type _}{β:Type _}{a:α}{l:List α}{f:β -> α -> β}{b:β}:List.foldl f b (a :: l) = List.foldl f (f b a) l:=List.foldl_cons ..
theorem nH (M:cQ->Int->cQ)(T:List Int)(s:cQ)(l:List Int):(dz M T s l).1.length=l.length:=by
 have key:∀(l:List Int)(r:List (Int×Int)×cQ),(l.foldl (fun r x=>(r.1++[(eg M T r.2 x).1],(eg M T r.2 x).2)) r).1.length=r.1.length+l.length:=by
  intro l
  induction l with
  |nil=>simp
  |cons x l b=>
   intro r;rw[a8,b];simp;omega
 simpa[dz] using key l ([],s)
def met (T:List Int)(kd:Int->Int)(sh:Int->List Int):Nat->cQ->Int->cQ
 |0,s,_=>s
 |n+1,s,a=>((dz (met T kd sh n) T (s.1++[a],s.2++[(kd a,[])]) (sh a)).2.1,(dz (met T kd sh n) T (s.1++[a],s.2++[(kd a,[])]) (sh a)).2.2.set s.1.length (kd a,(dz (met T kd sh n) T (s.1++[a],s.2++[(kd a,[])]) (sh a)).1))
structure e9 (T:List Int)(s:cQ):Prop where
 nd:s.1.Nodup
 sub:∀a∈s.1,a∈T
 len:s.2.length=s.1.length
theorem e9.le {T:List Int}{s:cQ}(h:e9 T s):s.1.length<=T.length:=h.nd.length_le_of_subset h.sub
theorem e9.start (T:List Int):e9 T ([],[]):=⟨List.nodup_nil,Z,rfl⟩
theorem e9.lt {T:List Int}{s:cQ}(h:e9 T s){a:Int}(ha:a∈T)(hn:a∉s.1):s.1.length<T.length:=by
 have c:e9 T (s.1++[a],s.2++[(0,[])]):=⟨by
  rw[List.nodup_append];exact⟨h.nd,Z,fun x b y hy e=>hn (by simp at hy;rw[<-hy,<-e];exact b)⟩,fun x b=>by
  rcases List.mem_append.1 b with b|b
  ·exact h.sub x b
  ·simp at b;rw[b];exact ha,by simp[h.len]⟩
 have:=c.le;simp at this
 omega
theorem e9.more {T:List Int}{s:cQ}(h:e9 T s){a:Int}(ha:a∈T)(hn:a∉s.1)(nd:Int×List _):e9 T (s.1++[a],s.2++[nd]):=
 ⟨by
  rw[List.nodup_append];exact⟨h.nd,Z,fun x b y hy e=>hn (by simp at hy;rw[<-hy,<-e];exact b)⟩,fun x b=>by
  rcases List.mem_append.1 b with b|b
  ·exact h.sub x b
  ·simp at b;rw[b];exact ha,by simp[h.len]⟩
def nI (n:Nat)(v:Int×Int):Prop:=v.1=3->0<=v.2/\v.2<n
theorem nI.mono {n m:Nat}{v:Int×Int}(h:nI n v)(hm:n<=m):nI m v:=fun e=>⟨(h e).1,by have:=(h e).2;omega⟩
structure ip (T:List Int)(kd:Int->Int)(sh:Int->List Int)(s s':cQ)(vs:List (Int×Int)):Prop where
 ok:e9 T s'
 pre:s.1 <+: s'.1
 old:∀i,i<s.1.length->s'.2[i]?=s.2[i]?
 ec:∀v∈vs,nI s'.1.length v
 nw:∀i,s.1.length<=i->i<s'.1.length->∃nd:Int×List (Int×Int),s'.2[i]?=some nd/\nd.1=kd (s'.1.getD i 0)/\nd.2.length=(sh (s'.1.getD i 0)).length/\(∀v∈nd.2,nI s'.1.length v)/\
  ((3,(i:Int))∈vs\/∃j,s.1.length<=j/\j<i/\∃nj:Int×List (Int×Int),s'.2[j]?=some nj/\(3,(i:Int))∈nj.2)
section
variable {T:List Int}{kd:Int->Int}{sh:Int->List Int}
theorem ip.refl {s:cQ}(h:e9 T s){b:List _}(ht:∀v∈b,nI s.1.length v):ip T kd sh s s b:=
 ⟨h,List.prefix_refl _,fun _ _=>rfl,ht,fun i c d=>V⟩
theorem ip.le {s b:cQ}{c:List (Int×Int)}(h:ip T kd sh s b c):s.1.length<=b.1.length:=h.pre.length_le
theorem r4 {l b:List Int}(h:l <+: b){i:Nat}(hi:i<l.length):b.getD i 0=l.getD i 0:=by obtain⟨t,rfl⟩:=h;simp[List.getElem?_append_left hi]
theorem aK {a b:Prop}(h:a):a \/ b:=by intros;apply Or.inl<;>assumption
theorem aX {α:Type _}{a:α}{«as»:List α}(bs:List α):a ∈ «as» -> a ∈ «as» ++ bs:=by intros;apply List.mem_append_left<;>assumption
theorem aJ {a b:Prop}(h:b):a \/ b:=by intros;apply Or.inr<;>assumption
theorem a9 {α:Type _}{b:α}(«as»:List α){bs:List α}:b ∈ bs -> b ∈ «as» ++ bs:=by intros;apply List.mem_append_right<;>assumption
theorem ip.trans {s c m:cQ}{n us:List _}(h:ip T kd sh s c n)(k:ip T kd sh c m us):ip T kd sh s m (n++us):=by
 have l1:=h.le;have l2:=k.le;refine⟨k.ok,h.pre.trans k.pre,fun i hi=>(k.old i V).trans (h.old i hi),fun v hv=>?_,fun i p q=>?_⟩
 ·rcases List.mem_append.1 hv with hv|hv
  ·exact(h.ec v hv).mono l2
  ·exact k.ec v hv
 ·by_cases hi:i<c.1.length
  ·obtain⟨nd,d,e,f,g,b⟩:=h.nw i p hi;refine⟨nd,(k.old i hi).trans d,by rw[r4 k.pre hi];exact e,by rw[r4 k.pre hi];exact f,fun v hv=>(g v hv).mono l2,?_⟩
   rcases b with b|⟨j,o,j2,l,cA,cE⟩
   ·exact aK (aX _ b)
   ·exact aJ ⟨j,o,j2,l,(k.old j V).trans cA,cE⟩
  ·obtain⟨nd,d,e,f,g,b⟩:=k.nw i V q;refine⟨nd,d,e,f,g,?_⟩
   rcases b with b|⟨j,o,j2,l,cA,cE⟩
   ·exact aK (a9 _ b)
   ·exact aJ ⟨j,V,j2,l,cA,cE⟩
def kX (T:List Int)(kd:Int->Int)(sh:Int->List Int)(n:Nat)(M:cQ->Int->cQ):Prop:=
 ∀s a,e9 T s->a∈T->a∉s.1->T.length<=s.1.length+n->ip T kd sh s (M s a) [(3,(s.1.length:Int))]
theorem aI {c:Prop}{h:Decidable c}(hc:c){α:Sort _}{t e:α}:(if c then t else e) = t:=by intros;apply if_pos<;>assumption
theorem aG {c:Prop}{h:Decidable c}(hnc:¬c){α:Sort _}{t e:α}:(if c then t else e) = e:=by intros;apply if_neg<;>assumption
theorem oG {n:Nat}{M:cQ->Int->cQ}(hM:kX T kd sh n M){s:cQ}(h:e9 T s)(hn:T.length<=s.1.length+n)(x:Int):ip T kd sh s (eg M T s x).2 [(eg M T s x).1]:=by
 unfold eg;by_cases b:dk x=3
 ·rw[aI b];by_cases d:T.contains (de x)=true
  ·rw[aI d];by_cases hs:s.1.contains (de x)=true
   ·rw[aI hs];refine ip.refl h (fun v hv=>?_)
    simp at hv;subst hv;intro _;have:=List.idxOf_lt_length_of_mem (List.contains_iff_mem.1 hs)
    exact⟨V,by simpa using this⟩
   ·rw[aG hs];exact hM s (de x) h (List.contains_iff_mem.1 d) (fun c=>hs (List.contains_iff_mem.2 c)) hn
  ·rw[aG d];refine ip.refl h (fun v hv=>?_)
   simp at hv;subst hv;intro e;simp at e
 ·rw[aG b];refine ip.refl h (fun v hv=>?_)
  simp at hv;subst hv;intro e;exact absurd e b
theorem bW{n:Nat}:n<=n:=Nat.le_refl n
theorem bu {α:Type _}{l:List α}:List.take l.length l = l:=List.take_length ..
theorem pV {n:Nat}{M:cQ->Int->cQ}(hM:kX T kd sh n M){s:cQ}(h:e9 T s)(hn:T.length<=s.1.length+n)(l:List Int):ip T kd sh s (dz M T s l).2 (dz M T s l).1:=by
 have key:∀k,k<=l.length->ip T kd sh s (dz M T s (l.take k)).2 (dz M T s (l.take k)).1:=by
  intro k
  induction k with
  |zero=>intro _;exact ip.refl h (by simp[BV])
  |succ k b=>
   intro hk;have b:=b V;rw[List.take_succ_eq_append_getElem V,rZ];have hl:=b.le;exact b.trans (oG hM b.ok V _)
 have:=key l.length bW
 rwa [bu] at this
theorem aD (n:Nat):n <= n:=Nat.le_refl ..
theorem jG:∀n,kX T kd sh n (met T kd sh n)
 |0=>fun s a h ha hn hl=>by have:=h.lt ha hn;omega
 |n+1=>fun s a h ha hn hl=>by
  have o:=h.more ha hn (kd a,[])
  have g:=pV (jG n) o (by simp;omega) (sh a)
  have d:=nH (met T kd sh n) T (s.1++[a],s.2++[(kd a,[])]) (sh a)
  show ip T kd sh s ((dz (met T kd sh n) T (s.1++[a],s.2++[(kd a,[])]) (sh a)).2.1,(dz (met T kd sh n) T (s.1++[a],s.2++[(kd a,[])]) (sh a)).2.2.set s.1.length (kd a,(dz (met T kd sh n) T (s.1++[a],s.2++[(kd a,[])]) (sh a)).1)) _;generalize dz (met T kd sh n) T (s.1++[a],s.2++[(kd a,[])]) (sh a)=r at g d⊢;obtain⟨f,b⟩:=r;dsimp only at g d⊢;have p:=g.le;have c:=g.ok;have hp:=g.pre;have ho:=g.old;have ht:=g.ec;have hw:=g.nw;simp only [List.length_append,List.length_cons,List.length_nil] at p ho hw d hp⊢;have m:b.1.getD s.1.length 0=a:=by rw[r4 hp Z];simp
  refine⟨⟨c.nd,c.sub,by simp[c.len]⟩,(List.prefix_append _ _).trans hp,fun i hi=>?_,fun v hv=>?_,fun i A k=>?_⟩
  ·rw[List.getElem?_set_ne V,ho i V,List.getElem?_append_left (by rw[h.len];exact hi)]
  ·simp at hv;subst hv;exact fun _=>⟨V,by show((s.1.length:Nat):Int)<((b.1.length:Nat):Int);omega⟩
  ·have k:i<b.1.length:=k;by_cases e:i=s.1.length
   ·subst e;exact⟨(kd a,f),by rw[List.getElem?_set_self (by rw[c.len];omega)],by show kd a=kd (b.1.getD s.1.length 0);rw[m],by show f.length=(sh (b.1.getD s.1.length 0)).length;rw[m];exact d,ht,aK Z⟩
   ·obtain⟨nd,q,t,u,w,l⟩:=hw i V k;refine⟨nd,by rw[List.getElem?_set_ne V];exact q,t,u,w,aJ ?_⟩
    rcases l with l|⟨j,B,j2,x,cA,cE⟩
    ·exact⟨s.1.length,aD _,V,(kd a,f),by rw[List.getElem?_set_self (by rw[c.len];omega)],l⟩
    ·exact⟨j,V,j2,x,by rw[List.getElem?_set_ne V];exact cA,cE⟩
end
end Go.Proofs.YtpkjkjhanlbcoaaGreat
