import Derived.Laws.BitsAllLaws
import Derived.Laws.BitsLemmas
namespace Go.Proofs.YtjpjpjemibgjpaaGreat
theorem I{P:Prop}(h:P:=by omega):P:=h
theorem V{P:Prop}(h:P:=by simp):P:=h
theorem Z{P:Prop}(h:P:=by decide):P:=h
namespace W
open Go
theorem jK (w:Int):(BitVec.ofInt 64 w).toNat=(w%18446744073709551616).toNat:=by rw[BitVec.toNat_ofInt];rfl
theorem vv (w:Int):bits .and .i64 w 3=w%4:=by show IntKind.i64.wrap (((BitVec.ofInt 64 w) &&& (BitVec.ofInt 64 3)).toNat:Int)=w%4;rw[BitVec.toNat_and,jK,jK];have e:((3:Int)%18446744073709551616).toNat=3:=Z;rw[e,nat_mask2,IntKind.wrap_i64];omega
theorem vx (w:Int):bits .and .i64 w 15=w%16:=by show IntKind.i64.wrap (((BitVec.ofInt 64 w) &&& (BitVec.ofInt 64 15)).toNat:Int)=w%16;rw[BitVec.toNat_and,jK,jK];have e:((15:Int)%18446744073709551616).toNat=15:=Z;rw[e,nat_mask4,IntKind.wrap_i64];omega
theorem vy (x t:Int)(h:x%4=0)(a:-9223372036854775808<=x)(b:x<=9223372036854775804)(t0:0<=t)(c:t<4):bits .or .i64 x t=x+t:=by show IntKind.i64.wrap (((BitVec.ofInt 64 x) ||| (BitVec.ofInt 64 t)).toNat:Int)=x+t;rw[BitVec.toNat_or,jK,jK,nat_join 2 _ _ I I,IntKind.wrap_i64];omega
theorem vz (x t:Int)(h:x%16=0)(a:-9223372036854775808<=x)(b:x<=9223372036854775792)(t0:0<=t)(c:t<16):bits .or .i64 x t=x+t:=by show IntKind.i64.wrap (((BitVec.ofInt 64 x) ||| (BitVec.ofInt 64 t)).toNat:Int)=x+t;rw[BitVec.toNat_or,jK,jK,nat_join 4 _ _ I I,IntKind.wrap_i64];omega
def rc (n low:Int):Int:=if n<low then 1 else if 1152921504606846976<=n then 1 else 0
def vc (k n:Int):Int:=
 if k=0 then(if n=0 then 0 else 7) else if k=2 then(if n=0 then 0 else 7)
 else if k=1 then rc n (-1152921504606846976) else if k=3 then rc n 0 else 2
def tg (k:Int):Int:=if k=1 then 0 else if k=3 then 1 else if k=0 then 2 else 3
def gJ (t:Int):Int:=if t=0 then 1 else if t=1 then 3 else if t=2 then 0 else 2
def ew (k n:Int):Int:=if vc k n=0 then 4*n+tg k else 0
theorem qI (k:Int):0<=tg k/\tg k<4:=by unfold tg;repeat' split<;>omega
theorem vA (k n:Int)(h:vc k n=0):-1152921504606846976<=n/\n<1152921504606846976:=by unfold vc rc at h;repeat' split at h<;>omega
theorem vB (k n:Int)(a:-1152921504606846976<=n)(b:n<1152921504606846976):bits .or .i64 (n*4) (tg k)=4*n+tg k:=by have ht:=qI k;rw[vy (n*4) (tg k) I I I ht.1 ht.2];omega
def dc (w:Int):Int:=vc (gJ (w%4)) (w/4)
def dk (w:Int):Int:=if dc w=0 then gJ (w%4) else 0
def cL (w:Int):Int:=if dc w=0 then w/4 else 0
def hc (k f:Int):Int:=
 if k=1 then(if f=2 then 0 else 1) else if k=3 then(if f=2 then 0 else 1) else if k=4 then(if f=2 then 0 else 1)
 else if k=2 then(if f<0 then 1 else if 12<f then 1 else 0) else if k=5 then(if f=0 then 0 else 1) else 2
def hw (k f:Int):Int:=if hc k f=0 then 16*f+k else 0
def pc (h:Int):Int:=if hc (h%16) (h/16)=0 then 0 else 7
def pk (h:Int):Int:=if hc (h%16) (h/16)=0 then h%16 else 0
def pf (h:Int):Int:=if hc (h%16) (h/16)=0 then h/16 else 0
theorem gK (k f:Int)(h:hc k f=0):1<=k/\k<=5/\0<=f/\f<=12:=by unfold hc at h;repeat' split at h<;>omega
theorem vC (k f:Int)(h:hc k f=0):bits .or .i64 (f*16) k=16*f+k:=by have a:=gK k f h;rw[vz (f*16) k I I I I I];omega
theorem oG (k f:Int)(h:hc k f=0):hw k f=16*f+k:=by unfold hw;rw[if_pos h]
theorem vD (k f:Int)(h:hc k f≠0):hw k f=0:=by unfold hw;rw[if_neg h]
theorem oH (k n:Int)(h:vc k n=0):ew k n=4*n+tg k:=by unfold ew;rw[if_pos h]
theorem vE (k n:Int)(h:vc k n≠0):ew k n=0:=by unfold ew;rw[if_neg h]
theorem lY (k f:Int)(h:hc k f=0):(k=1/\f=2)\/(k=3/\f=2)\/(k=4/\f=2)\/(k=2/\0<=f/\f<=12)\/(k=5/\f=0):=by unfold hc at h;repeat' split at h<;>omega
theorem vF (k f:Int)(a:k≠1)(b:k≠2)(c:k≠3)(d:k≠4)(e:k≠5):hc k f=2:=by unfold hc;rw[if_neg a,if_neg c,if_neg d,if_neg b,if_neg e]
theorem vG (k f:Int)(h:hc k f≠0):
 ((k=1/\f<2)\/(k=1/\2<f)\/(k=3/\f<2)\/(k=3/\2<f)\/(k=4/\f<2)\/(k=4/\2<f)\/(k=2/\f<0)\/(k=2/\12<f)\/(k=5/\f<0)\/(k=5/\0<f))\/(k≠1/\k≠2/\k≠3/\k≠4/\k≠5):=by
 unfold hc at h;repeat' split at h<;>omega
theorem vH (k f:Int)(h:(k=1/\f<2)\/(k=1/\2<f)\/(k=3/\f<2)\/(k=3/\2<f)\/(k=4/\f<2)\/(k=4/\2<f)\/(k=2/\f<0)\/(k=2/\12<f)\/(k=5/\f<0)\/(k=5/\0<f)):hc k f=1:=by
 rcases h with⟨rfl,h⟩|⟨rfl,h⟩|⟨rfl,h⟩|⟨rfl,h⟩|⟨rfl,h⟩|⟨rfl,h⟩|⟨rfl,h⟩|⟨rfl,h⟩|⟨rfl,h⟩|⟨rfl,h⟩
 all_goals (simp[hc];omega)
def fl (k:Int):Int:=if k=1 then 2 else if k=3 then 2 else if k=4 then 2 else 0
def fm (k:Int):Int:=if k=1 then 2 else if k=3 then 2 else if k=4 then 2 else if k=2 then 12 else 0
def fk (k:Int):Bool:=k==1||k==3||k==4||k==2||k==5
def cI (x:Int):Bool:=dc x==0&&dk x==3
def bQ (x:Int):Int:=if cI x then cL x else 0
theorem iD (x:Int)(h:cI x=true):bQ x=cL x:=by unfold bQ;rw[if_pos h]
theorem qJ (x:Int)(h:cI x=false):bQ x=0:=by unfold bQ;rw[h];rfl
theorem vI (k n:Int)(h:vc k n=0):k=0\/k=1\/k=2\/k=3:=by unfold vc at h;repeat' split at h<;>omega
theorem vJ (k:Int)(h:k=0\/k=1\/k=2\/k=3):gJ (tg k)=k:=by rcases h with rfl|rfl|rfl|rfl<;>rfl
theorem m2 (k n:Int)(h:vc k n=0):dc (ew k n)=0/\dk (ew k n)=k/\cL (ew k n)=n:=by
 have ht:=qI k;have e:ew k n=4*n+tg k:=oH k n h;have a:ew k n%4=tg k:=I;have b:ew k n/4=n:=I;have c:gJ (tg k)=k:=vJ k (vI k n h)
 have hd:dc (ew k n)=0:=by unfold dc;rw[a,b,c,h]
 exact⟨hd,by unfold dk;rw[if_pos hd,a,c],by unfold cL;rw[if_pos hd,b]⟩
theorem vK (t:Int)(a:0<=t)(b:t<4):tg (gJ t)=t:=by have:t=0\/t=1\/t=2\/t=3:=I;rcases this with rfl|rfl|rfl|rfl<;>rfl
theorem qK (x:Int)(h:dc x=0):vc (dk x) (cL x)=0/\ew (dk x) (cL x)=x:=by
 have a:dk x=gJ (x%4):=by unfold dk;rw[if_pos h]
 have b:cL x=x/4:=by unfold cL;rw[if_pos h]
 have c:vc (dk x) (cL x)=0:=by rw[a,b];exact h
 refine⟨c,?_⟩
 rw[oH _ _ c,a,b,vK _ I I];omega
theorem kk (k n:Int)(h:vc k n=0):cI (ew k n)=(k==3)/\(k=3->bQ (ew k n)=n):=by
 obtain⟨b,c,d⟩:=m2 k n h;have a:cI (ew k n)=(k==3):=by unfold cI;rw[b,c];rfl
 exact⟨a,fun e=>by rw[iD _ (by rw[a,e];rfl),d]⟩
theorem lZ (n:Int)(a:0<=n)(b:n<1152921504606846976):vc 3 n=0:=by simp[vc,rc];omega
theorem m3 (k f:Int)(h:hc k f=0):pk (hw k f)=k/\pf (hw k f)=f/\pc (hw k f)=0:=by have b:=gK k f h;rw[oG k f h];have a:(16*f+k)%16=k:=I;have c:(16*f+k)/16=f:=I;unfold pk pf pc;rw[a,c,if_pos h,if_pos h,if_pos h];exact⟨rfl,rfl,rfl⟩
theorem vL (x:Int)(h:pc x=0):hc (pk x) (pf x)=0/\hw (pk x) (pf x)=x:=by
 have c:hc (x%16) (x/16)=0:=by
  unfold pc at h;split at h
  ·assumption
  ·omega
 have a:pk x=x%16:=by unfold pk;rw[if_pos c]
 have b:pf x=x/16:=by unfold pf;rw[if_pos c]
 rw[a,b,oG _ _ c];exact⟨c,I⟩
end W
namespace Kp
abbrev vM:=List (Int×Int)
def mu (L:vM)(a:List Int):Nat:=(L.filter (fun e=>!a.contains e.1)).length
end Kp
namespace bY
open Kp
abbrev bN:=Int×Int
section
variable {σ fX:Type}
def pass (is:σ->Int->Bool)(kp:σ->Int->σ):List bN->σ->List bN->List bN->σ×List bN×List bN
 |[],s,C,D=>(s,C,D)
 |e::r,s,C,D=>if is s e.1 then pass is kp r (kp s e.2) (C++[e]) D else pass is kp r s C (D++[e])
def turns (is:σ->Int->Bool)(kp:σ->Int->σ):Nat->List bN->σ->List bN->σ×List bN×List bN
 |0,D,s,C=>(s,C,D)
 |n+1,D,s,C=>if(pass is kp D s C []).2.1.length=C.length then pass is kp D s C [] else turns is kp n (pass is kp D s C []).2.2 (pass is kp D s C []).1 (pass is kp D s C []).2.1
variable {is:σ->Int->Bool}{kp:σ->Int->σ}
theorem oI:∀(l:List bN)(s:σ)(C D:List bN),(pass is kp l s C D).2.1.length+(pass is kp l s C D).2.2.length=C.length+D.length+l.length/\C.length<=(pass is kp l s C D).2.1.length
 |[],s,C,D=>by simp[pass]
 |e::r,s,C,D=>by
  unfold pass;split
  ·have:=oI r (kp s e.2) (C++[e]) D;simp at this⊢
   omega
  ·have:=oI r s C (D++[e])
   simp at this⊢
   omega
theorem qL {n:Nat}{D:List bN}{s:σ}{C:List bN}(h:(pass is kp D s C []).2.1.length≠C.length):turns is kp (n+1) D s C=turns is kp n (pass is kp D s C []).2.2 (pass is kp D s C []).1 (pass is kp D s C []).2.1:=by rw[turns,if_neg h]
theorem qM {n:Nat}{D:List bN}{s:σ}{C:List bN}(h:(pass is kp D s C []).2.1.length=C.length):turns is kp (n+1) D s C=pass is kp D s C []:=by rw[turns,if_pos h]
end
end bY
namespace bY
def rem:List bN->List Bool->List Bool->List bN
 |e::r,a::D,m::M=>if a&&!m then e::rem r D M else rem r D M
 |_,_,_=>[]
theorem oJ (D M:List Bool):rem [] D M=[]:=by cases D<;>cases M<;>rfl
theorem qN:∀(a b:List bN)(c d e f:List Bool),a.length=c.length->a.length=e.length->rem (a++b) (c++d) (e++f)=rem a c e++rem b d f
 |[],b,[],d,[],f,_,_=>by simp[rem]
 |x::a,b,y::c,d,z::e,f,i,j=>by
  have g:=qN a b c d e f (by simpa using i) (by simpa using j)
  simp only [List.cons_append,rem];split
  ·rw[g];rfl
  ·exact g
 |[],_,_::_,_,_,_,h,_=>by simp at h
 |[],_,[],_,_::_,_,_,h=>by simp at h
 |_::_,_,[],_,_,_,h,_=>by simp at h
 |_::_,_,_::_,_,[],_,_,h=>by simp at h
theorem oK:∀(r:List bN)(D M:List Bool),(rem r D M).length<=r.length
 |[],D,M=>by rw[oJ];simp
 |e::r,[],M=>by simp[rem]
 |e::r,a::D,[]=>by simp[rem]
 |e::r,a::D,m::M=>by have:=oK r D M;simp only [rem];split<;>simp<;>omega
theorem drop_cons {a:Type}(l:List a)(i:Nat)(h:i<l.length)(z:a):l.drop i=l.getD i z::l.drop (i+1):=by rw[List.drop_eq_getElem_cons h];simp[List.getElem?_eq_getElem h]
theorem eY {a:Type}(l:List a)(i:Nat)(h:i<l.length)(z:a):l.take (i+1)=l.take i++[l.getD i z]:=by rw[List.take_add_one,List.getElem?_eq_getElem h];simp[List.getElem?_eq_getElem h]
theorem oL (r:List bN)(D M:List Bool)(i:Nat)(h:i<r.length)(a:D.length=r.length)(b:M.length=r.length):
 rem (r.drop i) (D.drop i) (M.drop i)=if D.getD i false&&!M.getD i false then r.getD i (0,0)::rem (r.drop (i+1)) (D.drop (i+1)) (M.drop (i+1)) else rem (r.drop (i+1)) (D.drop (i+1)) (M.drop (i+1)):=by
 rw[drop_cons r i h (0,0),drop_cons D i I false,drop_cons M i I false,rem]
theorem oM (r:List bN)(D M:List Bool)(i:Nat)(h:i<r.length)(a:D.length=r.length)(b:M.length=r.length):
 rem (r.take (i+1)) (D.take (i+1)) (M.take (i+1))=rem (r.take i) (D.take i) (M.take i)++if D.getD i false&&!M.getD i false then[r.getD i (0,0)] else[]:=by
 rw[eY r i h (0,0),eY D i I false,eY M i I false,qN _ _ _ _ _ _ (by simp;omega) (by simp;omega)]
 congr 1
theorem qO (p:bN->Bool):∀r:List bN,rem r (r.map (fun e=>!p e)) (List.replicate r.length false)=r.filter (fun e=>!p e)
 |[]=>rfl
 |e::r=>by have a:=qO p r;simp only [List.map_cons,List.length_cons,List.replicate_succ,rem,a,List.filter_cons];cases p e<;>rfl
section
variable {σ:Type}{is:σ->Int->Bool}{kp:σ->Int->σ}
structure fY (is:σ->Int->Bool)(kp:σ->Int->σ)(r:List bN)(D:List Bool)(P:σ×List bN×List bN)(i:Nat)(A:σ)(C:List bN)(M:List Bool):Prop where
 hD:D.length=r.length
 hM:M.length=r.length
 eq:pass is kp (rem (r.drop i) (D.drop i) (M.drop i)) A C (rem (r.take i) (D.take i) (M.take i))=P
variable {r:List bN}{D M:List Bool}{P:σ×List bN×List bN}{i:Nat}{A:σ}{C:List bN}
theorem fY.start (a:D.length=r.length)(b:M.length=r.length):fY is kp r D (pass is kp (rem r D M) A C []) 0 A C M:=⟨a,b,by simp[oJ]⟩
theorem fY.skip (h:fY is kp r D P i A C M)(hi:i<r.length)(a:(D.getD i false&&!M.getD i false)=false):fY is kp r D P (i+1) A C M:=by
 refine⟨h.hD,h.hM,?_⟩
 have e:=h.eq;rw[oL r D M i hi h.hD h.hM,a] at e;rw[oM r D M i hi h.hD h.hM,a];simpa using e
theorem fY.left (h:fY is kp r D P i A C M)(hi:i<r.length)(a:(D.getD i false&&!M.getD i false)=true)(b:is A (r.getD i (0,0)).1=false):fY is kp r D P (i+1) A C M:=by
 refine⟨h.hD,h.hM,?_⟩
 have e:=h.eq;rw[oL r D M i hi h.hD h.hM,a,if_pos rfl,pass,b] at e;rw[oM r D M i hi h.hD h.hM,a];simpa using e
theorem fY.come (h:fY is kp r D P i A C M)(hi:i<r.length)(b:(D.getD i false&&!M.getD i false)=true)(c:is A (r.getD i (0,0)).1=true):fY is kp r D P (i+1) (kp A (r.getD i (0,0)).2) (C++[r.getD i (0,0)]) (M.set i true):=by
 have a:(M.set i true).length=r.length:=by simpa using h.hM
 refine⟨h.hD,a,?_⟩
 have e:=h.eq;rw[oL r D M i hi h.hD h.hM,b,if_pos rfl,pass,c,if_pos rfl] at e;have d:(M.set i true).drop (i+1)=M.drop (i+1):=by rw[List.drop_set_of_lt I]
 have f:(M.set i true).take i=M.take i:=by rw[List.take_set_of_le I]
 have g:(M.set i true).getD i false=true:=by simp[h.hM,hi]
 rw[oM r D (M.set i true) i hi h.hD a,d,f,g];simpa using e
theorem fY.stop (h:fY is kp r D P r.length A C M):(A,C,rem r D M)=P:=by have e:=h.eq;rw[List.drop_length,oJ,List.take_length,<-h.hD,List.take_length,h.hD,<-h.hM,List.take_length] at e;exact e
end
end bY
open W
abbrev ck:=List Int×List (Int×List (Int×Int))
def cX (M:ck->Int->ck)(T:List Int)(s:ck)(x:Int):(Int×Int)×ck:=
 if dk x=3 then(if T.contains (cL x)=true then(if s.1.contains (cL x)=true then((3,(s.1.idxOf (cL x):Int)),s) else((3,(s.1.length:Int)),M s (cL x))) else((0,0),s))
 else((dk x,cL x),s)
def cD (M:ck->Int->ck)(T:List Int)(s:ck)(l:List Int):List (Int×Int)×ck:=l.foldl (fun r x=>(r.1++[(cX M T r.2 x).1],(cX M T r.2 x).2)) ([],s)
theorem vN (M:ck->Int->ck)(T:List Int)(s:ck):cD M T s []=([],s):=rfl
theorem kl (M:ck->Int->ck)(T:List Int)(s:ck)(l:List Int)(x:Int):cD M T s (l++[x])=((cD M T s l).1++[(cX M T (cD M T s l).2 x).1],(cX M T (cD M T s l).2 x).2):=by simp[cD,List.foldl_append]
theorem aI {α:Type _}{β:Type _}{a:α}{l:List α}{f:β -> α -> β}{b:β}:List.foldl f b (a :: l) = List.foldl f (f b a) l:=List.foldl_cons ..
theorem jh (M:ck->Int->ck)(T:List Int)(s:ck)(l:List Int):(cD M T s l).1.length=l.length:=by
 have key:∀(l:List Int)(r:List (Int×Int)×ck),(l.foldl (fun r x=>(r.1++[(cX M T r.2 x).1],(cX M T r.2 x).2)) r).1.length=r.1.length+l.length:=by
  intro l
  induction l with
  |nil=>intro r;simp
  |cons x l a=>
   intro r;rw[aI,a];simp;omega
 simpa[cD] using key l ([],s)
def met (T:List Int)(kd:Int->Int)(sh:Int->List Int):Nat->ck->Int->ck
 |0,s,_=>s
 |n+1,s,a=>((cD (met T kd sh n) T (s.1++[a],s.2++[(kd a,[])]) (sh a)).2.1,(cD (met T kd sh n) T (s.1++[a],s.2++[(kd a,[])]) (sh a)).2.2.set s.1.length (kd a,(cD (met T kd sh n) T (s.1++[a],s.2++[(kd a,[])]) (sh a)).1))
structure eb (T:List Int)(s:ck):Prop where
 nd:s.1.Nodup
 sub:∀a∈s.1,a∈T
 len:s.2.length=s.1.length
theorem eb.le {T:List Int}{s:ck}(h:eb T s):s.1.length<=T.length:=h.nd.length_le_of_subset h.sub
theorem eb.start (T:List Int):eb T ([],[]):=⟨List.nodup_nil,V,rfl⟩
theorem eb.lt {T:List Int}{s:ck}(h:eb T s){a:Int}(ha:a∈T)(c:a∉s.1):s.1.length<T.length:=by
 have d:eb T (s.1++[a],s.2++[(0,[])]):=⟨by
  rw[List.nodup_append];exact⟨h.nd,V,fun x b y hy e=>c (by simp at hy;rw[<-hy,<-e];exact b)⟩,fun x b=>by
  rcases List.mem_append.1 b with b|b
  ·exact h.sub x b
  ·simp at b;rw[b];exact ha,by simp[h.len]⟩
 have:=d.le;simp at this
 omega
theorem eb.more {T:List Int}{s:ck}(h:eb T s){a:Int}(ha:a∈T)(c:a∉s.1)(nd:Int×List (Int×Int)):eb T (s.1++[a],s.2++[nd]):=
 ⟨by
  rw[List.nodup_append];exact⟨h.nd,V,fun x b y hy e=>c (by simp at hy;rw[<-hy,<-e];exact b)⟩,fun x b=>by
  rcases List.mem_append.1 b with b|b
  ·exact h.sub x b
  ·simp at b;rw[b];exact ha,by simp[h.len]⟩
def lh (n:Nat)(v:Int×Int):Prop:=v.1=3->0<=v.2/\v.2<n
theorem lh.mono {n m:Nat}{v:Int×Int}(h:lh n v)(hm:n<=m):lh m v:=fun e=>⟨(h e).1,by have:=(h e).2;omega⟩
structure fP (T:List Int)(kd:Int->Int)(sh:Int->List Int)(s s':ck)(vs:List (Int×Int)):Prop where
 ok:eb T s'
 pre:s.1 <+: s'.1
 old:∀i,i<s.1.length->s'.2[i]?=s.2[i]?
 dN:∀v∈vs,lh s'.1.length v
 nw:∀i,s.1.length<=i->i<s'.1.length->∃nd:Int×List (Int×Int),s'.2[i]?=some nd/\nd.1=kd (s'.1.getD i 0)/\nd.2.length=(sh (s'.1.getD i 0)).length/\(∀v∈nd.2,lh s'.1.length v)/\
  ((3,(i:Int))∈vs\/∃j,s.1.length<=j/\j<i/\∃nj:Int×List (Int×Int),s'.2[j]?=some nj/\(3,(i:Int))∈nj.2)
section
variable {T:List Int}{kd:Int->Int}{sh:Int->List Int}
theorem fP.refl {s:ck}(h:eb T s){vs:List (Int×Int)}(ht:∀v∈vs,lh s.1.length v):fP T kd sh s s vs:=
 ⟨h,List.prefix_refl _,fun _ _=>rfl,ht,fun i a b=>I⟩
theorem fP.le {s s':ck}{vs:List (Int×Int)}(h:fP T kd sh s s' vs):s.1.length<=s'.1.length:=h.pre.length_le
theorem oN {l a:List Int}(h:l <+: a){i:Nat}(hi:i<l.length):a.getD i 0=l.getD i 0:=by obtain⟨t,rfl⟩:=h;simp[List.getElem?_append_left hi]
theorem ap {a b:Prop}(h:a):a \/ b:=by intros;apply Or.inl<;>assumption
theorem aL {α:Type _}{a:α}{«as»:List α}(bs:List α):a ∈ «as» -> a ∈ «as» ++ bs:=by intros;apply List.mem_append_left<;>assumption
theorem an {a b:Prop}(h:b):a \/ b:=by intros;apply Or.inr<;>assumption
theorem aS {α:Type _}{b:α}(«as»:List α){bs:List α}:b ∈ bs -> b ∈ «as» ++ bs:=by intros;apply List.mem_append_right<;>assumption
theorem fP.trans {s s' l:ck}{vs us:List (Int×Int)}(h:fP T kd sh s s' vs)(k:fP T kd sh s' l us):fP T kd sh s l (vs++us):=by
 have l1:=h.le;have l2:=k.le;refine⟨k.ok,h.pre.trans k.pre,fun i hi=>(k.old i I).trans (h.old i hi),fun v a=>?_,fun i n o=>?_⟩
 ·rcases List.mem_append.1 a with a|a
  ·exact(h.dN v a).mono l2
  ·exact k.dN v a
 ·by_cases hi:i<s'.1.length
  ·obtain⟨nd,c,d,e,f,b⟩:=h.nw i n hi;refine⟨nd,(k.old i hi).trans c,by rw[oN k.pre hi];exact d,by rw[oN k.pre hi];exact e,fun v a=>(f v a).mono l2,?_⟩
   rcases b with b|⟨j,m,j2,g,b7,b9⟩
   ·exact ap (aL _ b)
   ·exact an ⟨j,m,j2,g,(k.old j I).trans b7,b9⟩
  ·obtain⟨nd,c,d,e,f,b⟩:=k.nw i I o;refine⟨nd,c,d,e,f,?_⟩
   rcases b with b|⟨j,m,j2,g,b7,b9⟩
   ·exact ap (aS _ b)
   ·exact an ⟨j,I,j2,g,b7,b9⟩
def h6 (T:List Int)(kd:Int->Int)(sh:Int->List Int)(n:Nat)(M:ck->Int->ck):Prop:=
 ∀s a,eb T s->a∈T->a∉s.1->T.length<=s.1.length+n->fP T kd sh s (M s a) [(3,(s.1.length:Int))]
theorem aq {c:Prop}{h:Decidable c}(hc:c){α:Sort _}{t e:α}:(if c then t else e) = t:=by intros;apply if_pos<;>assumption
theorem ao {c:Prop}{h:Decidable c}(hnc:¬c){α:Sort _}{t e:α}:(if c then t else e) = e:=by intros;apply if_neg<;>assumption
theorem m4 {n:Nat}{M:ck->Int->ck}(hM:h6 T kd sh n M){s:ck}(h:eb T s)(f:T.length<=s.1.length+n)(x:Int):fP T kd sh s (cX M T s x).2 [(cX M T s x).1]:=by
 unfold cX;by_cases b:dk x=3
 ·rw[aq b];by_cases d:T.contains (cL x)=true
  ·rw[aq d];by_cases hs:s.1.contains (cL x)=true
   ·rw[aq hs];refine fP.refl h (fun v a=>?_)
    simp at a;subst a;intro _;have:=List.idxOf_lt_length_of_mem (List.contains_iff_mem.1 hs)
    exact⟨I,by simpa using this⟩
   ·rw[ao hs];exact hM s (cL x) h (List.contains_iff_mem.1 d) (fun c=>hs (List.contains_iff_mem.2 c)) f
  ·rw[ao d];refine fP.refl h (fun v a=>?_)
   simp at a;subst a;intro e;simp at e
 ·rw[ao b];refine fP.refl h (fun v a=>?_)
  simp at a;subst a;intro e;exact absurd e b
theorem bJ{n:Nat}:n<=n:=Nat.le_refl n
theorem aP {α:Type _}{l:List α}:List.take l.length l = l:=List.take_length ..
theorem km {n:Nat}{M:ck->Int->ck}(hM:h6 T kd sh n M){s:ck}(h:eb T s)(b:T.length<=s.1.length+n)(l:List Int):fP T kd sh s (cD M T s l).2 (cD M T s l).1:=by
 have key:∀k,k<=l.length->fP T kd sh s (cD M T s (l.take k)).2 (cD M T s (l.take k)).1:=by
  intro k
  induction k with
  |zero=>intro _;exact fP.refl h (by simp[vN])
  |succ k a=>
   intro hk;have a:=a I;rw[List.take_succ_eq_append_getElem I,kl];have hl:=a.le;exact a.trans (m4 hM a.ok I _)
 have:=key l.length bJ
 rwa [aP] at this
theorem ba {α:Type _}{l₁ l₂:List α}{i:Nat}(hn:i < l₁.length):(l₁ ++ l₂)[i]? = l₁[i]?:=by intros;apply List.getElem?_append_left<;>assumption
theorem ak (n:Nat):n <= n:=Nat.le_refl ..
theorem hE:∀n,h6 T kd sh n (met T kd sh n)
 |0=>fun s a h ha d hl=>by have:=h.lt ha d;omega
 |n+1=>fun s a h ha d hl=>by
  have p:=h.more ha d (kd a,[])
  have g:=km (hE n) p (by simp;omega) (sh a)
  have c:=jh (met T kd sh n) T (s.1++[a],s.2++[(kd a,[])]) (sh a)
  show fP T kd sh s ((cD (met T kd sh n) T (s.1++[a],s.2++[(kd a,[])]) (sh a)).2.1,(cD (met T kd sh n) T (s.1++[a],s.2++[(kd a,[])]) (sh a)).2.2.set s.1.length (kd a,(cD (met T kd sh n) T (s.1++[a],s.2++[(kd a,[])]) (sh a)).1)) _;generalize cD (met T kd sh n) T (s.1++[a],s.2++[(kd a,[])]) (sh a)=r at g c⊢;obtain⟨vs,s'⟩:=r;dsimp only at g c⊢;have q:=g.le;have b:=g.ok;have hp:=g.pre;have l:=g.old;have ht:=g.dN;have hw:=g.nw;simp only [List.length_append,List.length_cons,List.length_nil] at q l hw c hp⊢;have m:s'.1.getD s.1.length 0=a:=by rw[oN hp V];simp
  refine⟨⟨b.nd,b.sub,by simp[b.len]⟩,(List.prefix_append _ _).trans hp,fun i hi=>?_,fun v o=>?_,fun i B f=>?_⟩
  ·rw[List.getElem?_set_ne I,l i I,ba (by rw[h.len];exact hi)]
  ·simp at o;subst o;exact fun _=>⟨I,by show((s.1.length:Nat):Int)<((s'.1.length:Nat):Int);omega⟩
  ·have f:i<s'.1.length:=f;by_cases e:i=s.1.length
   ·subst e;exact⟨(kd a,vs),by rw[List.getElem?_set_self (by rw[b.len];omega)],by show kd a=kd (s'.1.getD s.1.length 0);rw[m],by show vs.length=(sh (s'.1.getD s.1.length 0)).length;rw[m];exact c,ht,ap V⟩
   ·obtain⟨nd,t,u,w,x,k⟩:=hw i I f;refine⟨nd,by rw[List.getElem?_set_ne I];exact t,u,w,x,an ?_⟩
    rcases k with k|⟨j,C,j2,A,b7,b9⟩
    ·exact⟨s.1.length,ak _,I,(kd a,vs),by rw[List.getElem?_set_self (by rw[b.len];omega)],k⟩
    ·exact⟨j,I,j2,A,by rw[List.getElem?_set_ne I];exact b7,b9⟩
end
end Go.Proofs.YtjpjpjemibgjpaaGreat
