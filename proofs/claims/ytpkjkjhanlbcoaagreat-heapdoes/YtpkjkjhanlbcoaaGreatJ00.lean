import Derived.Laws.BitsAllLaws
import Derived.Laws.BitsLemmas
namespace Go.Proofs.YtpkjkjhanlbcoaaGreat
theorem aa{P:Prop}(h:P:=by omega):P:=h
theorem ac{P:Prop}(h:P:=by simp):P:=h
theorem af{P:Prop}(h:P:=by rfl):P:=h
namespace W
open Go
theorem m3 (w:Int):(BitVec.ofInt 64 w).toNat=(w%18446744073709551616).toNat:=af
theorem A1 (w:Int):bits .and .i64 w 3=w%4:=by
 show IntKind.i64.wrap (((BitVec.ofInt 64 w) &&& (BitVec.ofInt 64 3)).toNat:Int)=w%4
 grind [m3,nat_mask2,IntKind.wrap_i64]
theorem A2 (w:Int):bits .and .i64 w 15=w%16:=by
 show IntKind.i64.wrap (((BitVec.ofInt 64 w) &&& (BitVec.ofInt 64 15)).toNat:Int)=w%16
 grind [m3,nat_mask4,IntKind.wrap_i64]
theorem A3 (x t:Int)(h:x%4=0)(b:-9223372036854775808<=x)(c:x<=9223372036854775804)(t0:0<=t)(d:t<4):bits .or .i64 x t=x+t:=by show IntKind.i64.wrap (((BitVec.ofInt 64 x) ||| (BitVec.ofInt 64 t)).toNat:Int)=x+t;rw[BitVec.toNat_or,m3,m3,nat_join 2 _ _ aa aa,IntKind.wrap_i64];omega
theorem A4 (x t:Int)(h:x%16=0)(b:-9223372036854775808<=x)(c:x<=9223372036854775792)(t0:0<=t)(d:t<16):bits .or .i64 x t=x+t:=by show IntKind.i64.wrap (((BitVec.ofInt 64 x) ||| (BitVec.ofInt 64 t)).toNat:Int)=x+t;rw[BitVec.toNat_or,m3,m3,nat_join 4 _ _ aa aa,IntKind.wrap_i64];omega
def rc (n low:Int):Int:=if n<low then 1 else if 1152921504606846976<=n then 1 else 0
def vc (k n:Int):Int:=
 if k=0 then(if n=0 then 0 else 7) else if k=2 then(if n=0 then 0 else 7)
 else if k=1 then rc n (-1152921504606846976) else if k=3 then rc n 0 else 2
def tg (k:Int):Int:=if k=1 then 0 else if k=3 then 1 else if k=0 then 2 else 3
def ix (t:Int):Int:=if t=0 then 1 else if t=1 then 3 else if t=2 then 0 else 2
def ew (k n:Int):Int:=if vc k n=0 then 4*n+tg k else 0
theorem A6 (k:Int):0<=tg k/\tg k<4:=by unfold tg;repeat' split<;>omega
theorem A7 (k n:Int)(h:vc k n=0):-1152921504606846976<=n/\n<1152921504606846976:=by grind [vc,rc]
theorem A8 (k n:Int)(b:-1152921504606846976<=n)(c:n<1152921504606846976):bits .or .i64 (n*4) (tg k)=4*n+tg k:=by grind [A3,tg]
def dc (w:Int):Int:=vc (ix (w%4)) (w/4)
def dk (w:Int):Int:=if dc w=0 then ix (w%4) else 0
def dA (w:Int):Int:=if dc w=0 then w/4 else 0
def hc (k f:Int):Int:=
 if k=1 then(if f=2 then 0 else 1) else if k=3 then(if f=2 then 0 else 1) else if k=4 then(if f=2 then 0 else 1)
 else if k=2 then(if f<0 then 1 else if 12<f then 1 else 0) else if k=5 then(if f=0 then 0 else 1) else 2
def hw (k f:Int):Int:=if hc k f=0 then 16*f+k else 0
def pc (h:Int):Int:=if hc (h%16) (h/16)=0 then 0 else 7
def pk (h:Int):Int:=if hc (h%16) (h/16)=0 then h%16 else 0
def pf (h:Int):Int:=if hc (h%16) (h/16)=0 then h/16 else 0
theorem iH (k f:Int)(h:hc k f=0):1<=k/\k<=5/\0<=f/\f<=12:=by grind [hc]
theorem A9 (k f:Int)(h:hc k f=0):bits .or .i64 (f*16) k=16*f+k:=by
 have hb:=iH k f h
 grind [A4]
theorem rz (k f:Int)(h:hc k f=0):hw k f=16*f+k:=by unfold hw;rw[if_pos h]
theorem A_ (k f:Int)(h:hc k f≠0):hw k f=0:=by unfold hw;rw[if_neg h]
theorem rA (k n:Int)(h:vc k n=0):ew k n=4*n+tg k:=by unfold ew;rw[if_pos h]
theorem Ba (k n:Int)(h:vc k n≠0):ew k n=0:=by unfold ew;rw[if_neg h]
theorem oc (k f:Int)(h:hc k f=0):(k=1/\f=2)\/(k=3/\f=2)\/(k=4/\f=2)\/(k=2/\0<=f/\f<=12)\/(k=5/\f=0):=by grind [hc]
theorem Bb (k f:Int)(b:k≠1)(c:k≠2)(d:k≠3)(e:k≠4)(g:k≠5):hc k f=2:=by grind [hc]
theorem Bd (k f:Int)(h:hc k f≠0):
 ((k=1/\f<2)\/(k=1/\2<f)\/(k=3/\f<2)\/(k=3/\2<f)\/(k=4/\f<2)\/(k=4/\2<f)\/(k=2/\f<0)\/(k=2/\12<f)\/(k=5/\f<0)\/(k=5/\0<f))\/(k≠1/\k≠2/\k≠3/\k≠4/\k≠5):=by grind [hc]
theorem Be (k f:Int)(h:(k=1/\f<2)\/(k=1/\2<f)\/(k=3/\f<2)\/(k=3/\2<f)\/(k=4/\f<2)\/(k=4/\2<f)\/(k=2/\f<0)\/(k=2/\12<f)\/(k=5/\f<0)\/(k=5/\0<f)):hc k f=1:=by
 rcases h with⟨rfl,h⟩|⟨rfl,h⟩|⟨rfl,h⟩|⟨rfl,h⟩|⟨rfl,h⟩|⟨rfl,h⟩|⟨rfl,h⟩|⟨rfl,h⟩|⟨rfl,h⟩|⟨rfl,h⟩
 all_goals grind [hc]
def fl (k:Int):Int:=if k=1 then 2 else if k=3 then 2 else if k=4 then 2 else 0
def fm (k:Int):Int:=if k=1 then 2 else if k=3 then 2 else if k=4 then 2 else if k=2 then 12 else 0
def fk (k:Int):Bool:=k==1||k==3||k==4||k==2||k==5
def c7 (x:Int):Bool:=dc x==0&&dk x==3
def cj (x:Int):Int:=if c7 x then dA x else 0
theorem lr (x:Int)(h:c7 x=true):cj x=dA x:=by unfold cj;rw[if_pos h]
theorem uN (x:Int)(h:c7 x=false):cj x=0:=by unfold cj;rw[h];rfl
theorem Bf (k n:Int)(h:vc k n=0):k=0\/k=1\/k=2\/k=3:=by grind [vc]
theorem Bg (k:Int)(h:k=0\/k=1\/k=2\/k=3):ix (tg k)=k:=by rcases h with rfl|rfl|rfl|rfl<;>rfl
theorem pH (k n:Int)(h:vc k n=0):dc (ew k n)=0/\dk (ew k n)=k/\dA (ew k n)=n:=by
 have ht:=A6 k;have e:ew k n=4*n+tg k:=rA k n h;have b:ew k n%4=tg k:=aa;have c:ew k n/4=n:=aa;have d:ix (tg k)=k:=Bg k (Bf k n h)
 grind [dc,dk,dA]
theorem Bh (t:Int)(b:0<=t)(c:t<4):tg (ix t)=t:=by have:t=0\/t=1\/t=2\/t=3:=aa;rcases this with rfl|rfl|rfl|rfl<;>rfl
theorem uO (x:Int)(h:dc x=0):vc (dk x) (dA x)=0/\ew (dk x) (dA x)=x:=by
 have b:dk x=ix (x%4):=by grind [dk]
 have c:dA x=x/4:=by grind [dA]
 have d:vc (dk x) (dA x)=0:=by rw[b,c];exact h
 grind [rA,Bh]
theorem m4 (k n:Int)(h:vc k n=0):c7 (ew k n)=(k==3)/\(k=3->cj (ew k n)=n):=by grind [pH,lr,c7]
theorem l8 (n:Int)(b:0<=n)(c:n<1152921504606846976):vc 3 n=0:=by grind [vc,rc]
theorem pI (k f:Int)(h:hc k f=0):pk (hw k f)=k/\pf (hw k f)=f/\pc (hw k f)=0:=by
 have b:=iH k f h
 grind [rz,pk,pf,pc]
theorem Bj (x:Int)(h:pc x=0):hc (pk x) (pf x)=0/\hw (pk x) (pf x)=x:=by grind [rz,pc,pk,pf]
end W
namespace Kp
abbrev Bk:=List (Int×Int)
def mu (L:Bk)(A:List Int):Nat:=(L.filter (fun e=>!A.contains e.1)).length
end Kp
namespace ch
open Kp
abbrev b9:=Int×Int
section
variable {σ gT:Type}
def pass (is:σ->Int->Bool)(kp:σ->Int->σ):List b9->σ->List b9->List b9->σ×List b9×List b9
 |[],s,C,D=>(s,C,D)
 |e::r,s,C,D=>if is s e.1 then pass is kp r (kp s e.2) (C++[e]) D else pass is kp r s C (D++[e])
def turns (is:σ->Int->Bool)(kp:σ->Int->σ):Nat->List b9->σ->List b9->σ×List b9×List b9
 |0,D,s,C=>(s,C,D)
 |n+1,D,s,C=>if(pass is kp D s C []).2.1.length=C.length then pass is kp D s C [] else turns is kp n (pass is kp D s C []).2.2 (pass is kp D s C []).1 (pass is kp D s C []).2.1
variable {is:σ->Int->Bool}{kp:σ->Int->σ}
theorem pJ:∀(l:List b9)(s:σ)(C D:List b9),(pass is kp l s C D).2.1.length+(pass is kp l s C D).2.2.length=C.length+D.length+l.length/\C.length<=(pass is kp l s C D).2.1.length
 |[],s,C,D=>by simp[pass]
 |e::r,s,C,D=>by
  unfold pass;split
  ·have:=pJ r (kp s e.2) (C++[e]) D;simp at this⊢
   omega
  ·have:=pJ r s C (D++[e])
   simp at this⊢
   omega
theorem uP {n:Nat}{D:List b9}{s:σ}{C:List b9}(h:(pass is kp D s C []).2.1.length≠C.length):turns is kp (n+1) D s C=turns is kp n (pass is kp D s C []).2.2 (pass is kp D s C []).1 (pass is kp D s C []).2.1:=by rw[turns,if_neg h]
theorem uQ {n:Nat}{D:List b9}{s:σ}{C:List b9}(h:(pass is kp D s C []).2.1.length=C.length):turns is kp (n+1) D s C=pass is kp D s C []:=by rw[turns,if_pos h]
theorem rB (x:b9):∀(l:List b9)(s:σ)(C D:List b9),(pass is kp l s C D).2.1.count x+(pass is kp l s C D).2.2.count x=C.count x+D.count x+l.count x
 |[],s,C,D=>by simp[pass]
 |e::r,s,C,D=>by
  unfold pass;split
  ·rw[rB x r (kp s e.2) (C++[e]) D,List.count_append,List.count_cons,List.count_cons,List.count_nil];omega
  ·rw[rB x r s C (D++[e]),List.count_append,List.count_cons,List.count_cons,List.count_nil];omega
theorem Bl (x:b9):∀(n:Nat)(D:List b9)(s:σ)(C:List b9),(turns is kp n D s C).2.1.count x+(turns is kp n D s C).2.2.count x=C.count x+D.count x
 |0,D,s,C=>by simp[turns]
 |n+1,D,s,C=>by
  have h:=rB (is:=is) (kp:=kp) x D s C [];unfold turns;split
  ·rw[h];simp
  ·rw[Bl x n,h];simp
theorem uR:∀(n:Nat)(D:List b9)(s:σ)(C:List b9),(turns is kp n D s C).2.1.length+(turns is kp n D s C).2.2.length=C.length+D.length
 |0,D,s,C=>by simp[turns]
 |n+1,D,s,C=>by
  have h:=(pJ (is:=is) (kp:=kp) D s C []).1;unfold turns;split
  ·rw[h];simp
  ·rw[uR n,h];simp
end
end ch
namespace ch
def rem:List b9->List Bool->List Bool->List b9
 |e::r,b::D,m::M=>if b&&!m then e::rem r D M else rem r D M
 |_,_,_=>[]
theorem rC (D M:List Bool):rem [] D M=[]:=by cases D<;>cases M<;>rfl
theorem uS:∀(a b:List b9)(c d e f:List Bool),a.length=c.length->a.length=e.length->rem (a++b) (c++d) (e++f)=rem a c e++rem b d f
 |[],b,[],d,[],f,_,_=>by simp[rem]
 |x::a,b,y::c,d,z::e,f,i,j=>by
  have g:=uS a b c d e f (by simpa using i) (by simpa using j)
  simp only [List.cons_append,rem];split
  ·rw[g];rfl
  ·exact g
 |[],_,_::_,_,_,_,h,_=>by simp at h
 |[],_,[],_,_::_,_,_,h=>by simp at h
 |_::_,_,[],_,_,_,h,_=>by simp at h
 |_::_,_,_::_,_,[],_,_,h=>by simp at h
theorem rD:∀(r:List b9)(D M:List Bool),(rem r D M).length<=r.length
 |[],D,M=>by rw[rC];simp
 |e::r,[],M=>by simp[rem]
 |e::r,b::D,[]=>by simp[rem]
 |e::r,b::D,m::M=>by have:=rD r D M;simp only [rem];split<;>simp<;>omega
theorem drop_cons {b:Type}(l:List b)(i:Nat)(h:i<l.length)(z:b):l.drop i=l.getD i z::l.drop (i+1):=by rw[List.drop_eq_getElem_cons h];simp[List.getElem?_eq_getElem h]
theorem fE {b:Type}(l:List b)(i:Nat)(h:i<l.length)(z:b):l.take (i+1)=l.take i++[l.getD i z]:=by rw[List.take_add_one,List.getElem?_eq_getElem h];simp[List.getElem?_eq_getElem h]
theorem rE (r:List b9)(D M:List Bool)(i:Nat)(h:i<r.length)(b:D.length=r.length)(c:M.length=r.length):
 rem (r.drop i) (D.drop i) (M.drop i)=if D.getD i false&&!M.getD i false then r.getD i (0,0)::rem (r.drop (i+1)) (D.drop (i+1)) (M.drop (i+1)) else rem (r.drop (i+1)) (D.drop (i+1)) (M.drop (i+1)):=by
 rw[drop_cons r i h (0,0),drop_cons D i aa false,drop_cons M i aa false,rem]
theorem rF (r:List b9)(D M:List Bool)(i:Nat)(h:i<r.length)(b:D.length=r.length)(c:M.length=r.length):
 rem (r.take (i+1)) (D.take (i+1)) (M.take (i+1))=rem (r.take i) (D.take i) (M.take i)++if D.getD i false&&!M.getD i false then[r.getD i (0,0)] else[]:=by
 rw[fE r i h (0,0),fE D i aa false,fE M i aa false,uS _ _ _ _ _ _ (by simp;omega) (by simp;omega)]
 congr 1
theorem uT (p:b9->Bool):∀r:List b9,rem r (r.map (fun e=>!p e)) (List.replicate r.length false)=r.filter (fun e=>!p e)
 |[]=>rfl
 |e::r=>by have b:=uT p r;simp only [List.map_cons,List.length_cons,List.replicate_succ,rem,b,List.filter_cons];cases p e<;>rfl
section
variable {σ:Type}{is:σ->Int->Bool}{kp:σ->Int->σ}
structure gU (is:σ->Int->Bool)(kp:σ->Int->σ)(r:List b9)(D:List Bool)(P:σ×List b9×List b9)(i:Nat)(A:σ)(C:List b9)(M:List Bool):Prop where
 hD:D.length=r.length
 hM:M.length=r.length
 eq:pass is kp (rem (r.drop i) (D.drop i) (M.drop i)) A C (rem (r.take i) (D.take i) (M.take i))=P
variable {r:List b9}{D M:List Bool}{P:σ×List b9×List b9}{i:Nat}{A:σ}{C:List b9}
theorem gU.start (b:D.length=r.length)(c:M.length=r.length):gU is kp r D (pass is kp (rem r D M) A C []) 0 A C M:=⟨b,c,by simp[rC]⟩
theorem gU.skip (h:gU is kp r D P i A C M)(hi:i<r.length)(b:(D.getD i false&&!M.getD i false)=false):gU is kp r D P (i+1) A C M:=by
 refine⟨h.hD,h.hM,?_⟩
 have e:=h.eq;rw[rE r D M i hi h.hD h.hM,b] at e;rw[rF r D M i hi h.hD h.hM,b];simpa using e
theorem gU.left (h:gU is kp r D P i A C M)(hi:i<r.length)(b:(D.getD i false&&!M.getD i false)=true)(c:is A (r.getD i (0,0)).1=false):gU is kp r D P (i+1) A C M:=by
 refine⟨h.hD,h.hM,?_⟩
 have e:=h.eq;rw[rE r D M i hi h.hD h.hM,b,if_pos rfl,pass,c] at e;rw[rF r D M i hi h.hD h.hM,b];simpa using e
theorem gU.come (h:gU is kp r D P i A C M)(hi:i<r.length)(c:(D.getD i false&&!M.getD i false)=true)(d:is A (r.getD i (0,0)).1=true):gU is kp r D P (i+1) (kp A (r.getD i (0,0)).2) (C++[r.getD i (0,0)]) (M.set i true):=by
 have b:(M.set i true).length=r.length:=by simpa using h.hM
 refine⟨h.hD,b,?_⟩
 have e:=h.eq;rw[rE r D M i hi h.hD h.hM,c,if_pos rfl,pass,d,if_pos rfl] at e;have f:(M.set i true).drop (i+1)=M.drop (i+1):=by rw[List.drop_set_of_lt aa]
 have g:(M.set i true).take i=M.take i:=by rw[List.take_set_of_le aa]
 have j:(M.set i true).getD i false=true:=by simp[h.hM,hi]
 rw[rF r D (M.set i true) i hi h.hD b,f,g,j];simpa using e
theorem gU.stop (h:gU is kp r D P r.length A C M):(A,C,rem r D M)=P:=by have e:=h.eq;rw[List.drop_length,rC,List.take_length,<-h.hD,List.take_length,h.hD,<-h.hM,List.take_length] at e;exact e
end
end ch
open W
abbrev cP:=List Int×List (Int×List (Int×Int))
def dw (M:cP->Int->cP)(T:List Int)(s:cP)(x:Int):(Int×Int)×cP:=
 if dk x=3 then(if T.contains (dA x)=true then(if s.1.contains (dA x)=true then((3,(s.1.idxOf (dA x):Int)),s) else((3,(s.1.length:Int)),M s (dA x))) else((0,0),s))
 else((dk x,dA x),s)
def dh (M:cP->Int->cP)(T:List Int)(s:cP)(l:List Int):List (Int×Int)×cP:=l.foldl (fun r x=>(r.1++[(dw M T r.2 x).1],(dw M T r.2 x).2)) ([],s)
theorem Bm (M:cP->Int->cP)(T:List Int)(s:cP):dh M T s []=([],s):=rfl
theorem od (M:cP->Int->cP)(T:List Int)(s:cP)(l:List Int)(x:Int):dh M T s (l++[x])=((dh M T s l).1++[(dw M T (dh M T s l).2 x).1],(dw M T (dh M T s l).2 x).2):=by simp[dh,List.foldl_append]
theorem kc (M:cP->Int->cP)(T:List Int)(s:cP)(l:List Int):(dh M T s l).1.length=l.length:=by
 have key:∀(l:List Int)(r:List (Int×Int)×cP),(l.foldl (fun r x=>(r.1++[(dw M T r.2 x).1],(dw M T r.2 x).2)) r).1.length=r.1.length+l.length:=by
  intro l
  induction l with
  |nil=>simp
  |cons x l b=>
   grind
 simp_all [dh]
def met (T:List Int)(kd:Int->Int)(sh:Int->List Int):Nat->cP->Int->cP
 |0,s,_=>s
 |n+1,s,a=>((dh (met T kd sh n) T (s.1++[a],s.2++[(kd a,[])]) (sh a)).2.1,(dh (met T kd sh n) T (s.1++[a],s.2++[(kd a,[])]) (sh a)).2.2.set s.1.length (kd a,(dh (met T kd sh n) T (s.1++[a],s.2++[(kd a,[])]) (sh a)).1))
structure eU (T:List Int)(s:cP):Prop where
 nd:s.1.Nodup
 sub:∀a∈s.1,a∈T
 len:s.2.length=s.1.length
theorem eU.le {T:List Int}{s:cP}(h:eU T s):s.1.length<=T.length:=h.nd.length_le_of_subset h.sub
theorem eU.start (T:List Int):eU T ([],[]):=⟨List.nodup_nil,ac,rfl⟩
theorem eU.lt {T:List Int}{s:cP}(h:eU T s){a:Int}(ha:a∈T)(c:a∉s.1):s.1.length<T.length:=by
 have b:eU T (s.1++[a],s.2++[(0,[])]):=⟨by grind [nd],fun x d=>by grind [sub],by simp[h.len]⟩
 have:=b.le
 grind
theorem eU.more {T:List Int}{s:cP}(h:eU T s){a:Int}(ha:a∈T)(b:a∉s.1)(nd:Int×List _):eU T (s.1++[a],s.2++[nd]):=
 ⟨by grind [nd],fun x c=>by grind [sub],by simp[h.len]⟩
def m5 (n:Nat)(v:Int×Int):Prop:=v.1=3->0<=v.2/\v.2<n
theorem m5.mono {n m:Nat}{v:Int×Int}(h:m5 n v)(hm:n<=m):m5 m v:=fun e=>⟨(h e).1,by have:=(h e).2;omega⟩
structure gL (T:List Int)(kd:Int->Int)(sh:Int->List Int)(s s':cP)(vs:List (Int×Int)):Prop where
 ok:eU T s'
 pre:s.1 <+: s'.1
 old:∀i,i<s.1.length->s'.2[i]?=s.2[i]?
 ej:∀v∈vs,m5 s'.1.length v
 nw:∀i,s.1.length<=i->i<s'.1.length->∃nd:Int×List (Int×Int),s'.2[i]?=some nd/\nd.1=kd (s'.1.getD i 0)/\nd.2.length=(sh (s'.1.getD i 0)).length/\(∀v∈nd.2,m5 s'.1.length v)/\
  ((3,(i:Int))∈vs\/∃j,s.1.length<=j/\j<i/\∃nj:Int×List (Int×Int),s'.2[j]?=some nj/\(3,(i:Int))∈nj.2)
section
variable {T:List Int}{kd:Int->Int}{sh:Int->List Int}
theorem gL.refl {s:cP}(h:eU T s){b:List _}(ht:∀v∈b,m5 s.1.length v):gL T kd sh s s b:=
 ⟨h,List.prefix_refl _,fun _ _=>rfl,ht,fun i c d=>aa⟩
theorem gL.le {s b:cP}{c:List (Int×Int)}(h:gL T kd sh s b c):s.1.length<=b.1.length:=h.pre.length_le
theorem rG {l b:List Int}(h:l <+: b){i:Nat}(hi:i<l.length):b.getD i 0=l.getD i 0:=by
 obtain⟨t,rfl⟩:=h
 grind
theorem aK {a b:Prop}(h:b):a \/ b:=by intros;apply Or.inr<;>assumption
theorem gL.trans {s c d:cP}{e us:List _}(h:gL T kd sh s c e)(k:gL T kd sh c d us):gL T kd sh s d (e++us):=by
 have l1:=h.le;have l2:=k.le;refine⟨k.ok,h.pre.trans k.pre,fun i hi=>(by grind [old]),fun v b=>?_,fun i g t=>?_⟩
 ·rcases List.mem_append.1 b with b|b
  ·exact(h.ej v b).mono l2
  grind [ej]
 ·by_cases hi:i<c.1.length
  ·obtain⟨nd,l,m,n,o,f⟩:=h.nw i g hi;refine⟨nd,(k.old i hi).trans l,(rG k.pre hi▸m),(rG k.pre hi▸n),fun v b=>(o v b).mono l2,?_⟩
   rcases f with f|⟨j,p,j2,q,cA,cD⟩
   ·grind
   ·exact aK ⟨j,p,j2,q,(k.old j aa).trans cA,cD⟩
  grind [nw]
def kg (T:List Int)(kd:Int->Int)(sh:Int->List Int)(n:Nat)(M:cP->Int->cP):Prop:=
 ∀s a,eU T s->a∈T->a∉s.1->T.length<=s.1.length+n->gL T kd sh s (M s a) [(3,(s.1.length:Int))]
theorem aJ {c:Prop}{h:Decidable c}(hc:c){α:Sort _}{t e:α}:(if c then t else e) = t:=by intros;apply if_pos<;>assumption
theorem aH {c:Prop}{h:Decidable c}(hnc:¬c){α:Sort _}{t e:α}:(if c then t else e) = e:=by intros;apply if_neg<;>assumption
theorem pK {n:Nat}{M:cP->Int->cP}(hM:kg T kd sh n M){s:cP}(h:eU T s)(f:T.length<=s.1.length+n)(x:Int):gL T kd sh s (dw M T s x).2 [(dw M T s x).1]:=by
 unfold dw;by_cases c:dk x=3
 ·rw[aJ c];by_cases d:T.contains (dA x)=true
  ·rw[aJ d];by_cases hs:s.1.contains (dA x)=true
   ·rw[aJ hs];refine gL.refl h (fun v b=>?_)
    simp at b;subst b;intro _
    grind
   ·rw[aH hs];exact hM s (dA x) h (by grind) (by grind) f
  ·rw[aH d];refine gL.refl h (fun v b=>?_)
   simp at b;subst b;intro e;omega
 ·rw[aH c];refine gL.refl h (fun v b=>?_)
  simp at b;subst b;intro e;omega
theorem m6 {n:Nat}{M:cP->Int->cP}(hM:kg T kd sh n M){s:cP}(h:eU T s)(c:T.length<=s.1.length+n)(l:List Int):gL T kd sh s (dh M T s l).2 (dh M T s l).1:=by
 have key:∀k,k<=l.length->gL T kd sh s (dh M T s (l.take k)).2 (dh M T s (l.take k)).1:=by
  intro k
  induction k with
  |zero=>intro _;exact gL.refl h (by simp[Bm])
  |succ k b=>
   intro hk;have b:=b aa;rw[List.take_succ_eq_append_getElem aa,od];have hl:=b.le
   grind [gL.trans,pK,gL.ok]
 have:=key l.length aa
 grind
theorem jb:∀n,kg T kd sh n (met T kd sh n)
 |0=>fun s a h ha b hl=>by have:=h.lt ha b;omega
 |n+1=>fun s a h ha b hl=>by
  have o:=h.more ha b (kd a,[])
  have g:=m6 (jb n) o (by grind) (sh a)
  have c:=kc (met T kd sh n) T (s.1++[a],s.2++[(kd a,[])]) (sh a)
  show gL T kd sh s ((dh (met T kd sh n) T (s.1++[a],s.2++[(kd a,[])]) (sh a)).2.1,(dh (met T kd sh n) T (s.1++[a],s.2++[(kd a,[])]) (sh a)).2.2.set s.1.length (kd a,(dh (met T kd sh n) T (s.1++[a],s.2++[(kd a,[])]) (sh a)).1)) _;generalize dh (met T kd sh n) T (s.1++[a],s.2++[(kd a,[])]) (sh a)=r at g c⊢;obtain⟨B,k⟩:=r;dsimp only at g c⊢;have p:=g.le;have d:=g.ok;have hp:=g.pre;have q:=g.old;have ht:=g.ej;have hw:=g.nw;simp only [List.length_append,List.length_cons,List.length_nil] at p q hw c hp⊢;have F:k.1.getD s.1.length 0=a:=by rw[rG hp ac];simp
  refine⟨⟨d.nd,d.sub,by simp[d.len]⟩,(by grind [List.prefix_append]),fun i hi=>?_,fun v l=>?_,fun i N f=>?_⟩
  ·grind [eU.len]
  ·simp at l;subst l;exact fun _=>(by grind)
  ·have f:i<k.1.length:=f;by_cases e:i=s.1.length
   ·grind [eU.len]
   ·obtain⟨nd,S,t,u,w,m⟩:=hw i aa f;refine⟨nd,by grind,t,u,w,aK ?_⟩
    rcases m with m|⟨j,W,j2,x,cA,cD⟩
    ·grind
    ·exact⟨j,aa,j2,x,by grind,cD⟩
end
end Go.Proofs.YtpkjkjhanlbcoaaGreat
