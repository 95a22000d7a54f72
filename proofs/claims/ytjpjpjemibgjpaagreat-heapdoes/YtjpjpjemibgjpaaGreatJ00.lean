import Derived.Laws.BitsAllLaws
import Derived.Laws.BitsLemmas
namespace Go.Proofs.YtjpjpjemibgjpaaGreat
theorem V{P:Prop}(h:P:=by omega):P:=h
theorem Z{P:Prop}(h:P:=by simp):P:=h
theorem aa{P:Prop}(h:P:=by decide):P:=h
namespace W
open Go
theorem lu (w:Int):(BitVec.ofInt 64 w).toNat=(w%18446744073709551616).toNat:=by rw[BitVec.toNat_ofInt];rfl
theorem Bj (w:Int):bits .and .i64 w 3=w%4:=by show IntKind.i64.wrap (((BitVec.ofInt 64 w) &&& (BitVec.ofInt 64 3)).toNat:Int)=w%4;rw[BitVec.toNat_and,lu,lu];have e:((3:Int)%18446744073709551616).toNat=3:=aa;rw[e,nat_mask2,IntKind.wrap_i64];omega
theorem Bk (w:Int):bits .and .i64 w 15=w%16:=by show IntKind.i64.wrap (((BitVec.ofInt 64 w) &&& (BitVec.ofInt 64 15)).toNat:Int)=w%16;rw[BitVec.toNat_and,lu,lu];have e:((15:Int)%18446744073709551616).toNat=15:=aa;rw[e,nat_mask4,IntKind.wrap_i64];omega
theorem Bl (x t:Int)(h:x%4=0)(b:-9223372036854775808<=x)(c:x<=9223372036854775804)(t0:0<=t)(d:t<4):bits .or .i64 x t=x+t:=by show IntKind.i64.wrap (((BitVec.ofInt 64 x) ||| (BitVec.ofInt 64 t)).toNat:Int)=x+t;rw[BitVec.toNat_or,lu,lu,nat_join 2 _ _ V V,IntKind.wrap_i64];omega
theorem Bm (x t:Int)(h:x%16=0)(b:-9223372036854775808<=x)(c:x<=9223372036854775792)(t0:0<=t)(d:t<16):bits .or .i64 x t=x+t:=by show IntKind.i64.wrap (((BitVec.ofInt 64 x) ||| (BitVec.ofInt 64 t)).toNat:Int)=x+t;rw[BitVec.toNat_or,lu,lu,nat_join 4 _ _ V V,IntKind.wrap_i64];omega
def rc (n low:Int):Int:=if n<low then 1 else if 1152921504606846976<=n then 1 else 0
def vc (k n:Int):Int:=
 if k=0 then(if n=0 then 0 else 7) else if k=2 then(if n=0 then 0 else 7)
 else if k=1 then rc n (-1152921504606846976) else if k=3 then rc n 0 else 2
def tg (k:Int):Int:=if k=1 then 0 else if k=3 then 1 else if k=0 then 2 else 3
def iq (t:Int):Int:=if t=0 then 1 else if t=1 then 3 else if t=2 then 0 else 2
def ew (k n:Int):Int:=if vc k n=0 then 4*n+tg k else 0
theorem uV (k:Int):0<=tg k/\tg k<4:=by unfold tg;repeat' split<;>omega
theorem Bn (k n:Int)(h:vc k n=0):-1152921504606846976<=n/\n<1152921504606846976:=by unfold vc rc at h;repeat' split at h<;>omega
theorem Bo (k n:Int)(b:-1152921504606846976<=n)(c:n<1152921504606846976):bits .or .i64 (n*4) (tg k)=4*n+tg k:=by have ht:=uV k;rw[Bl (n*4) (tg k) V V V ht.1 ht.2];omega
def dc (w:Int):Int:=vc (iq (w%4)) (w/4)
def dk (w:Int):Int:=if dc w=0 then iq (w%4) else 0
def dv (w:Int):Int:=if dc w=0 then w/4 else 0
def hc (k f:Int):Int:=
 if k=1 then(if f=2 then 0 else 1) else if k=3 then(if f=2 then 0 else 1) else if k=4 then(if f=2 then 0 else 1)
 else if k=2 then(if f<0 then 1 else if 12<f then 1 else 0) else if k=5 then(if f=0 then 0 else 1) else 2
def hw (k f:Int):Int:=if hc k f=0 then 16*f+k else 0
def pc (h:Int):Int:=if hc (h%16) (h/16)=0 then 0 else 7
def pk (h:Int):Int:=if hc (h%16) (h/16)=0 then h%16 else 0
def pf (h:Int):Int:=if hc (h%16) (h/16)=0 then h/16 else 0
theorem iE (k f:Int)(h:hc k f=0):1<=k/\k<=5/\0<=f/\f<=12:=by unfold hc at h;repeat' split at h<;>omega
theorem Bp (k f:Int)(h:hc k f=0):bits .or .i64 (f*16) k=16*f+k:=by have b:=iE k f h;rw[Bm (f*16) k V V V V V];omega
theorem rH (k f:Int)(h:hc k f=0):hw k f=16*f+k:=by unfold hw;rw[if_pos h]
theorem Bq (k f:Int)(h:hc k f≠0):hw k f=0:=by unfold hw;rw[if_neg h]
theorem rI (k n:Int)(h:vc k n=0):ew k n=4*n+tg k:=by unfold ew;rw[if_pos h]
theorem Br (k n:Int)(h:vc k n≠0):ew k n=0:=by unfold ew;rw[if_neg h]
theorem oe (k f:Int)(h:hc k f=0):(k=1/\f=2)\/(k=3/\f=2)\/(k=4/\f=2)\/(k=2/\0<=f/\f<=12)\/(k=5/\f=0):=by unfold hc at h;repeat' split at h<;>omega
theorem Bt (k f:Int)(b:k≠1)(c:k≠2)(d:k≠3)(e:k≠4)(g:k≠5):hc k f=2:=by unfold hc;rw[if_neg b,if_neg d,if_neg e,if_neg c,if_neg g]
theorem Bu (k f:Int)(h:hc k f≠0):
 ((k=1/\f<2)\/(k=1/\2<f)\/(k=3/\f<2)\/(k=3/\2<f)\/(k=4/\f<2)\/(k=4/\2<f)\/(k=2/\f<0)\/(k=2/\12<f)\/(k=5/\f<0)\/(k=5/\0<f))\/(k≠1/\k≠2/\k≠3/\k≠4/\k≠5):=by
 unfold hc at h;repeat' split at h<;>omega
theorem Bv (k f:Int)(h:(k=1/\f<2)\/(k=1/\2<f)\/(k=3/\f<2)\/(k=3/\2<f)\/(k=4/\f<2)\/(k=4/\2<f)\/(k=2/\f<0)\/(k=2/\12<f)\/(k=5/\f<0)\/(k=5/\0<f)):hc k f=1:=by
 rcases h with⟨rfl,h⟩|⟨rfl,h⟩|⟨rfl,h⟩|⟨rfl,h⟩|⟨rfl,h⟩|⟨rfl,h⟩|⟨rfl,h⟩|⟨rfl,h⟩|⟨rfl,h⟩|⟨rfl,h⟩
 all_goals (simp[hc];omega)
def fl (k:Int):Int:=if k=1 then 2 else if k=3 then 2 else if k=4 then 2 else 0
def fm (k:Int):Int:=if k=1 then 2 else if k=3 then 2 else if k=4 then 2 else if k=2 then 12 else 0
def fk (k:Int):Bool:=k==1||k==3||k==4||k==2||k==5
def cX (x:Int):Bool:=dc x==0&&dk x==3
def cf (x:Int):Int:=if cX x then dv x else 0
theorem lv (x:Int)(h:cX x=true):cf x=dv x:=by unfold cf;rw[if_pos h]
theorem uW (x:Int)(h:cX x=false):cf x=0:=by unfold cf;rw[h];rfl
theorem Bw (k n:Int)(h:vc k n=0):k=0\/k=1\/k=2\/k=3:=by unfold vc at h;repeat' split at h<;>omega
theorem Bx (k:Int)(h:k=0\/k=1\/k=2\/k=3):iq (tg k)=k:=by rcases h with rfl|rfl|rfl|rfl<;>rfl
theorem pJ (k n:Int)(h:vc k n=0):dc (ew k n)=0/\dk (ew k n)=k/\dv (ew k n)=n:=by
 have ht:=uV k;have e:ew k n=4*n+tg k:=rI k n h;have b:ew k n%4=tg k:=V;have c:ew k n/4=n:=V;have d:iq (tg k)=k:=Bx k (Bw k n h)
 have hd:dc (ew k n)=0:=by unfold dc;rw[b,c,d,h]
 exact⟨hd,by unfold dk;rw[if_pos hd,b,d],by unfold dv;rw[if_pos hd,c]⟩
theorem By (t:Int)(b:0<=t)(c:t<4):tg (iq t)=t:=by have:t=0\/t=1\/t=2\/t=3:=V;rcases this with rfl|rfl|rfl|rfl<;>rfl
theorem uX (x:Int)(h:dc x=0):vc (dk x) (dv x)=0/\ew (dk x) (dv x)=x:=by
 have b:dk x=iq (x%4):=by unfold dk;rw[if_pos h]
 have c:dv x=x/4:=by unfold dv;rw[if_pos h]
 have d:vc (dk x) (dv x)=0:=by rw[b,c];exact h
 refine⟨d,?_⟩
 rw[rI _ _ d,b,c,By _ V V];omega
theorem m6 (k n:Int)(h:vc k n=0):cX (ew k n)=(k==3)/\(k=3->cf (ew k n)=n):=by
 obtain⟨c,d,f⟩:=pJ k n h;have b:cX (ew k n)=(k==3):=by unfold cX;rw[c,d];rfl
 exact⟨b,fun e=>by rw[lv _ (by rw[b,e];rfl),f]⟩
theorem l_ (n:Int)(b:0<=n)(c:n<1152921504606846976):vc 3 n=0:=by simp[vc,rc];omega
theorem pK (k f:Int)(h:hc k f=0):pk (hw k f)=k/\pf (hw k f)=f/\pc (hw k f)=0:=by have b:=iE k f h;rw[rH k f h];have c:(16*f+k)%16=k:=V;have d:(16*f+k)/16=f:=V;unfold pk pf pc;rw[c,d,if_pos h,if_pos h,if_pos h];exact⟨rfl,rfl,rfl⟩
theorem Bz (x:Int)(h:pc x=0):hc (pk x) (pf x)=0/\hw (pk x) (pf x)=x:=by
 have c:hc (x%16) (x/16)=0:=by
  unfold pc at h;split at h
  ·assumption
  ·omega
 have b:pk x=x%16:=by unfold pk;rw[if_pos c]
 have d:pf x=x/16:=by unfold pf;rw[if_pos c]
 rw[b,d,rH _ _ c];exact⟨c,V⟩
end W
namespace Kp
abbrev BA:=List (Int×Int)
def mu (L:BA)(A:List Int):Nat:=(L.filter (fun e=>!A.contains e.1)).length
end Kp
namespace cg
open Kp
abbrev bZ:=Int×Int
section
variable {σ gM:Type}
def pass (is:σ->Int->Bool)(kp:σ->Int->σ):List bZ->σ->List bZ->List bZ->σ×List bZ×List bZ
 |[],s,C,D=>(s,C,D)
 |e::r,s,C,D=>if is s e.1 then pass is kp r (kp s e.2) (C++[e]) D else pass is kp r s C (D++[e])
def turns (is:σ->Int->Bool)(kp:σ->Int->σ):Nat->List bZ->σ->List bZ->σ×List bZ×List bZ
 |0,D,s,C=>(s,C,D)
 |n+1,D,s,C=>if(pass is kp D s C []).2.1.length=C.length then pass is kp D s C [] else turns is kp n (pass is kp D s C []).2.2 (pass is kp D s C []).1 (pass is kp D s C []).2.1
variable {is:σ->Int->Bool}{kp:σ->Int->σ}
theorem pL:∀(l:List bZ)(s:σ)(C D:List bZ),(pass is kp l s C D).2.1.length+(pass is kp l s C D).2.2.length=C.length+D.length+l.length/\C.length<=(pass is kp l s C D).2.1.length
 |[],s,C,D=>by simp[pass]
 |e::r,s,C,D=>by
  unfold pass;split
  ·have:=pL r (kp s e.2) (C++[e]) D;simp at this⊢
   omega
  ·have:=pL r s C (D++[e])
   simp at this⊢
   omega
theorem uY {n:Nat}{D:List bZ}{s:σ}{C:List bZ}(h:(pass is kp D s C []).2.1.length≠C.length):turns is kp (n+1) D s C=turns is kp n (pass is kp D s C []).2.2 (pass is kp D s C []).1 (pass is kp D s C []).2.1:=by rw[turns,if_neg h]
theorem uZ {n:Nat}{D:List bZ}{s:σ}{C:List bZ}(h:(pass is kp D s C []).2.1.length=C.length):turns is kp (n+1) D s C=pass is kp D s C []:=by rw[turns,if_pos h]
theorem rJ (x:bZ):∀(l:List bZ)(s:σ)(C D:List bZ),(pass is kp l s C D).2.1.count x+(pass is kp l s C D).2.2.count x=C.count x+D.count x+l.count x
 |[],s,C,D=>by simp[pass]
 |e::r,s,C,D=>by
  unfold pass;split
  ·rw[rJ x r (kp s e.2) (C++[e]) D,List.count_append,List.count_cons,List.count_cons,List.count_nil];omega
  ·rw[rJ x r s C (D++[e]),List.count_append,List.count_cons,List.count_cons,List.count_nil];omega
theorem BB (x:bZ):∀(n:Nat)(D:List bZ)(s:σ)(C:List bZ),(turns is kp n D s C).2.1.count x+(turns is kp n D s C).2.2.count x=C.count x+D.count x
 |0,D,s,C=>by simp[turns]
 |n+1,D,s,C=>by
  have h:=rJ (is:=is) (kp:=kp) x D s C [];unfold turns;split
  ·rw[h];simp
  ·rw[BB x n,h];simp
theorem u_:∀(n:Nat)(D:List bZ)(s:σ)(C:List bZ),(turns is kp n D s C).2.1.length+(turns is kp n D s C).2.2.length=C.length+D.length
 |0,D,s,C=>by simp[turns]
 |n+1,D,s,C=>by
  have h:=(pL (is:=is) (kp:=kp) D s C []).1;unfold turns;split
  ·rw[h];simp
  ·rw[u_ n,h];simp
end
end cg
namespace cg
def rem:List bZ->List Bool->List Bool->List bZ
 |e::r,b::D,m::M=>if b&&!m then e::rem r D M else rem r D M
 |_,_,_=>[]
theorem rK (D M:List Bool):rem [] D M=[]:=by cases D<;>cases M<;>rfl
theorem vd:∀(a b:List bZ)(c d e f:List Bool),a.length=c.length->a.length=e.length->rem (a++b) (c++d) (e++f)=rem a c e++rem b d f
 |[],b,[],d,[],f,_,_=>by simp[rem]
 |x::a,b,y::c,d,z::e,f,i,j=>by
  have g:=vd a b c d e f (by simpa using i) (by simpa using j)
  simp only [List.cons_append,rem];split
  ·rw[g];rfl
  ·exact g
 |[],_,_::_,_,_,_,h,_=>by simp at h
 |[],_,[],_,_::_,_,_,h=>by simp at h
 |_::_,_,[],_,_,_,h,_=>by simp at h
 |_::_,_,_::_,_,[],_,_,h=>by simp at h
theorem rL:∀(r:List bZ)(D M:List Bool),(rem r D M).length<=r.length
 |[],D,M=>by rw[rK];simp
 |e::r,[],M=>by simp[rem]
 |e::r,b::D,[]=>by simp[rem]
 |e::r,b::D,m::M=>by have:=rL r D M;simp only [rem];split<;>simp<;>omega
theorem drop_cons {b:Type}(l:List b)(i:Nat)(h:i<l.length)(z:b):l.drop i=l.getD i z::l.drop (i+1):=by rw[List.drop_eq_getElem_cons h];simp[List.getElem?_eq_getElem h]
theorem fz {b:Type}(l:List b)(i:Nat)(h:i<l.length)(z:b):l.take (i+1)=l.take i++[l.getD i z]:=by rw[List.take_add_one,List.getElem?_eq_getElem h];simp[List.getElem?_eq_getElem h]
theorem rM (r:List bZ)(D M:List Bool)(i:Nat)(h:i<r.length)(b:D.length=r.length)(c:M.length=r.length):
 rem (r.drop i) (D.drop i) (M.drop i)=if D.getD i false&&!M.getD i false then r.getD i (0,0)::rem (r.drop (i+1)) (D.drop (i+1)) (M.drop (i+1)) else rem (r.drop (i+1)) (D.drop (i+1)) (M.drop (i+1)):=by
 rw[drop_cons r i h (0,0),drop_cons D i V false,drop_cons M i V false,rem]
theorem rN (r:List bZ)(D M:List Bool)(i:Nat)(h:i<r.length)(b:D.length=r.length)(c:M.length=r.length):
 rem (r.take (i+1)) (D.take (i+1)) (M.take (i+1))=rem (r.take i) (D.take i) (M.take i)++if D.getD i false&&!M.getD i false then[r.getD i (0,0)] else[]:=by
 rw[fz r i h (0,0),fz D i V false,fz M i V false,vd _ _ _ _ _ _ (by simp;omega) (by simp;omega)]
 congr 1
theorem vf (p:bZ->Bool):∀r:List bZ,rem r (r.map (fun e=>!p e)) (List.replicate r.length false)=r.filter (fun e=>!p e)
 |[]=>rfl
 |e::r=>by have b:=vf p r;simp only [List.map_cons,List.length_cons,List.replicate_succ,rem,b,List.filter_cons];cases p e<;>rfl
section
variable {σ:Type}{is:σ->Int->Bool}{kp:σ->Int->σ}
structure gN (is:σ->Int->Bool)(kp:σ->Int->σ)(r:List bZ)(D:List Bool)(P:σ×List bZ×List bZ)(i:Nat)(A:σ)(C:List bZ)(M:List Bool):Prop where
 hD:D.length=r.length
 hM:M.length=r.length
 eq:pass is kp (rem (r.drop i) (D.drop i) (M.drop i)) A C (rem (r.take i) (D.take i) (M.take i))=P
variable {r:List bZ}{D M:List Bool}{P:σ×List bZ×List bZ}{i:Nat}{A:σ}{C:List bZ}
theorem gN.start (b:D.length=r.length)(c:M.length=r.length):gN is kp r D (pass is kp (rem r D M) A C []) 0 A C M:=⟨b,c,by simp[rK]⟩
theorem gN.skip (h:gN is kp r D P i A C M)(hi:i<r.length)(b:(D.getD i false&&!M.getD i false)=false):gN is kp r D P (i+1) A C M:=by
 refine⟨h.hD,h.hM,?_⟩
 have e:=h.eq;rw[rM r D M i hi h.hD h.hM,b] at e;rw[rN r D M i hi h.hD h.hM,b];simpa using e
theorem gN.left (h:gN is kp r D P i A C M)(hi:i<r.length)(b:(D.getD i false&&!M.getD i false)=true)(c:is A (r.getD i (0,0)).1=false):gN is kp r D P (i+1) A C M:=by
 refine⟨h.hD,h.hM,?_⟩
 have e:=h.eq;rw[rM r D M i hi h.hD h.hM,b,if_pos rfl,pass,c] at e;rw[rN r D M i hi h.hD h.hM,b];simpa using e
theorem gN.come (h:gN is kp r D P i A C M)(hi:i<r.length)(c:(D.getD i false&&!M.getD i false)=true)(d:is A (r.getD i (0,0)).1=true):gN is kp r D P (i+1) (kp A (r.getD i (0,0)).2) (C++[r.getD i (0,0)]) (M.set i true):=by
 have b:(M.set i true).length=r.length:=by simpa using h.hM
 refine⟨h.hD,b,?_⟩
 have e:=h.eq;rw[rM r D M i hi h.hD h.hM,c,if_pos rfl,pass,d,if_pos rfl] at e;have f:(M.set i true).drop (i+1)=M.drop (i+1):=by rw[List.drop_set_of_lt V]
 have g:(M.set i true).take i=M.take i:=by rw[List.take_set_of_le V]
 have j:(M.set i true).getD i false=true:=by simp[h.hM,hi]
 rw[rN r D (M.set i true) i hi h.hD b,f,g,j];simpa using e
theorem gN.stop (h:gN is kp r D P r.length A C M):(A,C,rem r D M)=P:=by have e:=h.eq;rw[List.drop_length,rK,List.take_length,<-h.hD,List.take_length,h.hD,<-h.hM,List.take_length] at e;exact e
end
end cg
open W
abbrev cL:=List Int×List (Int×List (Int×Int))
def dr (M:cL->Int->cL)(T:List Int)(s:cL)(x:Int):(Int×Int)×cL:=
 if dk x=3 then(if T.contains (dv x)=true then(if s.1.contains (dv x)=true then((3,(s.1.idxOf (dv x):Int)),s) else((3,(s.1.length:Int)),M s (dv x))) else((0,0),s))
 else((dk x,dv x),s)
def c_ (M:cL->Int->cL)(T:List Int)(s:cL)(l:List Int):List (Int×Int)×cL:=l.foldl (fun r x=>(r.1++[(dr M T r.2 x).1],(dr M T r.2 x).2)) ([],s)
theorem BC (M:cL->Int->cL)(T:List Int)(s:cL):c_ M T s []=([],s):=rfl
theorem og (M:cL->Int->cL)(T:List Int)(s:cL)(l:List Int)(x:Int):c_ M T s (l++[x])=((c_ M T s l).1++[(dr M T (c_ M T s l).2 x).1],(dr M T (c_ M T s l).2 x).2):=by simp[c_,List.foldl_append]
theorem a8 {α:Type _}{β:Type _}{a:α}{l:List α}{f:β -> α -> β}{b:β}:List.foldl f b (a :: l) = List.foldl f (f b a) l:=List.foldl_cons ..
theorem kh (M:cL->Int->cL)(T:List Int)(s:cL)(l:List Int):(c_ M T s l).1.length=l.length:=by
 have key:∀(l:List Int)(r:List (Int×Int)×cL),(l.foldl (fun r x=>(r.1++[(dr M T r.2 x).1],(dr M T r.2 x).2)) r).1.length=r.1.length+l.length:=by
  intro l
  induction l with
  |nil=>simp
  |cons x l b=>
   intro r;rw[a8,b];simp;omega
 simpa[c_] using key l ([],s)
def met (T:List Int)(kd:Int->Int)(sh:Int->List Int):Nat->cL->Int->cL
 |0,s,_=>s
 |n+1,s,a=>((c_ (met T kd sh n) T (s.1++[a],s.2++[(kd a,[])]) (sh a)).2.1,(c_ (met T kd sh n) T (s.1++[a],s.2++[(kd a,[])]) (sh a)).2.2.set s.1.length (kd a,(c_ (met T kd sh n) T (s.1++[a],s.2++[(kd a,[])]) (sh a)).1))
structure eX (T:List Int)(s:cL):Prop where
 nd:s.1.Nodup
 sub:∀a∈s.1,a∈T
 len:s.2.length=s.1.length
theorem eX.le {T:List Int}{s:cL}(h:eX T s):s.1.length<=T.length:=h.nd.length_le_of_subset h.sub
theorem eX.start (T:List Int):eX T ([],[]):=⟨List.nodup_nil,Z,rfl⟩
theorem eX.lt {T:List Int}{s:cL}(h:eX T s){a:Int}(ha:a∈T)(c:a∉s.1):s.1.length<T.length:=by
 have d:eX T (s.1++[a],s.2++[(0,[])]):=⟨by
  rw[List.nodup_append];exact⟨h.nd,Z,fun x b y hy e=>c (by simp at hy;rw[<-hy,<-e];exact b)⟩,fun x b=>by
  rcases List.mem_append.1 b with b|b
  ·exact h.sub x b
  ·simp at b;rw[b];exact ha,by simp[h.len]⟩
 have:=d.le;simp at this
 omega
theorem eX.more {T:List Int}{s:cL}(h:eX T s){a:Int}(ha:a∈T)(c:a∉s.1)(nd:Int×List _):eX T (s.1++[a],s.2++[nd]):=
 ⟨by
  rw[List.nodup_append];exact⟨h.nd,Z,fun x b y hy e=>c (by simp at hy;rw[<-hy,<-e];exact b)⟩,fun x b=>by
  rcases List.mem_append.1 b with b|b
  ·exact h.sub x b
  ·simp at b;rw[b];exact ha,by simp[h.len]⟩
def m7 (n:Nat)(v:Int×Int):Prop:=v.1=3->0<=v.2/\v.2<n
theorem m7.mono {n m:Nat}{v:Int×Int}(h:m7 n v)(hm:n<=m):m7 m v:=fun e=>⟨(h e).1,by have:=(h e).2;omega⟩
structure gX (T:List Int)(kd:Int->Int)(sh:Int->List Int)(s s':cL)(vs:List (Int×Int)):Prop where
 ok:eX T s'
 pre:s.1 <+: s'.1
 old:∀i,i<s.1.length->s'.2[i]?=s.2[i]?
 ee:∀v∈vs,m7 s'.1.length v
 nw:∀i,s.1.length<=i->i<s'.1.length->∃nd:Int×List (Int×Int),s'.2[i]?=some nd/\nd.1=kd (s'.1.getD i 0)/\nd.2.length=(sh (s'.1.getD i 0)).length/\(∀v∈nd.2,m7 s'.1.length v)/\
  ((3,(i:Int))∈vs\/∃j,s.1.length<=j/\j<i/\∃nj:Int×List (Int×Int),s'.2[j]?=some nj/\(3,(i:Int))∈nj.2)
section
variable {T:List Int}{kd:Int->Int}{sh:Int->List Int}
theorem gX.refl {s:cL}(h:eX T s){b:List _}(ht:∀v∈b,m7 s.1.length v):gX T kd sh s s b:=
 ⟨h,List.prefix_refl _,fun _ _=>rfl,ht,fun i c d=>V⟩
theorem gX.le {s b:cL}{c:List (Int×Int)}(h:gX T kd sh s b c):s.1.length<=b.1.length:=h.pre.length_le
theorem rO {l b:List Int}(h:l <+: b){i:Nat}(hi:i<l.length):b.getD i 0=l.getD i 0:=by obtain⟨t,rfl⟩:=h;simp[List.getElem?_append_left hi]
theorem aJ {a b:Prop}(h:a):a \/ b:=by intros;apply Or.inl<;>assumption
theorem aZ {α:Type _}{a:α}{«as»:List α}(bs:List α):a ∈ «as» -> a ∈ «as» ++ bs:=by intros;apply List.mem_append_left<;>assumption
theorem aI {a b:Prop}(h:b):a \/ b:=by intros;apply Or.inr<;>assumption
theorem bc {α:Type _}{b:α}(«as»:List α){bs:List α}:b ∈ bs -> b ∈ «as» ++ bs:=by intros;apply List.mem_append_right<;>assumption
theorem gX.trans {s d n:cL}{o us:List _}(h:gX T kd sh s d o)(k:gX T kd sh d n us):gX T kd sh s n (o++us):=by
 have l1:=h.le;have l2:=k.le;refine⟨k.ok,h.pre.trans k.pre,fun i hi=>(k.old i V).trans (h.old i hi),fun v b=>?_,fun i q t=>?_⟩
 ·rcases List.mem_append.1 b with b|b
  ·exact(h.ee v b).mono l2
  ·exact k.ee v b
 ·by_cases hi:i<d.1.length
  ·obtain⟨nd,e,f,g,l,c⟩:=h.nw i q hi;refine⟨nd,(k.old i hi).trans e,by rw[rO k.pre hi];exact f,by rw[rO k.pre hi];exact g,fun v b=>(l v b).mono l2,?_⟩
   rcases c with c|⟨j,p,j2,m,cy,cz⟩
   ·exact aJ (aZ _ c)
   ·exact aI ⟨j,p,j2,m,(k.old j V).trans cy,cz⟩
  ·obtain⟨nd,e,f,g,l,c⟩:=k.nw i V t;refine⟨nd,e,f,g,l,?_⟩
   rcases c with c|⟨j,p,j2,m,cy,cz⟩
   ·exact aJ (bc _ c)
   ·exact aI ⟨j,V,j2,m,cy,cz⟩
def ki (T:List Int)(kd:Int->Int)(sh:Int->List Int)(n:Nat)(M:cL->Int->cL):Prop:=
 ∀s a,eX T s->a∈T->a∉s.1->T.length<=s.1.length+n->gX T kd sh s (M s a) [(3,(s.1.length:Int))]
theorem aH {c:Prop}{h:Decidable c}(hc:c){α:Sort _}{t e:α}:(if c then t else e) = t:=by intros;apply if_pos<;>assumption
theorem aE {c:Prop}{h:Decidable c}(hnc:¬c){α:Sort _}{t e:α}:(if c then t else e) = e:=by intros;apply if_neg<;>assumption
theorem pM {n:Nat}{M:cL->Int->cL}(hM:ki T kd sh n M){s:cL}(h:eX T s)(g:T.length<=s.1.length+n)(x:Int):gX T kd sh s (dr M T s x).2 [(dr M T s x).1]:=by
 unfold dr;by_cases d:dk x=3
 ·rw[aH d];by_cases f:T.contains (dv x)=true
  ·rw[aH f];by_cases hs:s.1.contains (dv x)=true
   ·rw[aH hs];refine gX.refl h (fun v b=>?_)
    simp at b;subst b;intro _;have:=List.idxOf_lt_length_of_mem (List.contains_iff_mem.1 hs)
    exact⟨V,by simpa using this⟩
   ·rw[aE hs];exact hM s (dv x) h (List.contains_iff_mem.1 f) (fun c=>hs (List.contains_iff_mem.2 c)) g
  ·rw[aE f];refine gX.refl h (fun v b=>?_)
   simp at b;subst b;intro e;simp at e
 ·rw[aE d];refine gX.refl h (fun v b=>?_)
  simp at b;subst b;intro e;exact absurd e d
theorem bW{n:Nat}:n<=n:=Nat.le_refl n
theorem a_ {α:Type _}{l:List α}:List.take l.length l = l:=List.take_length ..
theorem m8 {n:Nat}{M:cL->Int->cL}(hM:ki T kd sh n M){s:cL}(h:eX T s)(c:T.length<=s.1.length+n)(l:List Int):gX T kd sh s (c_ M T s l).2 (c_ M T s l).1:=by
 have key:∀k,k<=l.length->gX T kd sh s (c_ M T s (l.take k)).2 (c_ M T s (l.take k)).1:=by
  intro k
  induction k with
  |zero=>intro _;exact gX.refl h (by simp[BC])
  |succ k b=>
   intro hk;have b:=b V;rw[List.take_succ_eq_append_getElem V,og];have hl:=b.le;exact b.trans (pM hM b.ok V _)
 have:=key l.length bW
 rwa [a_] at this
theorem aA (n:Nat):n <= n:=Nat.le_refl ..
theorem jb:∀n,ki T kd sh n (met T kd sh n)
 |0=>fun s a h ha f hl=>by have:=h.lt ha f;omega
 |n+1=>fun s a h ha f hl=>by
  have t:=h.more ha f (kd a,[])
  have g:=m8 (jb n) t (by simp;omega) (sh a)
  have d:=kh (met T kd sh n) T (s.1++[a],s.2++[(kd a,[])]) (sh a)
  show gX T kd sh s ((c_ (met T kd sh n) T (s.1++[a],s.2++[(kd a,[])]) (sh a)).2.1,(c_ (met T kd sh n) T (s.1++[a],s.2++[(kd a,[])]) (sh a)).2.2.set s.1.length (kd a,(c_ (met T kd sh n) T (s.1++[a],s.2++[(kd a,[])]) (sh a)).1)) _;generalize c_ (met T kd sh n) T (s.1++[a],s.2++[(kd a,[])]) (sh a)=r at g d⊢;obtain⟨k,b⟩:=r;dsimp only at g d⊢;have u:=g.le;have c:=g.ok;have hp:=g.pre;have o:=g.old;have ht:=g.ee;have hw:=g.nw;simp only [List.length_append,List.length_cons,List.length_nil] at u o hw d hp⊢;have p:b.1.getD s.1.length 0=a:=by rw[rO hp Z];simp
  refine⟨⟨c.nd,c.sub,by simp[c.len]⟩,(List.prefix_append _ _).trans hp,fun i hi=>?_,fun v q=>?_,fun i D l=>?_⟩
  ·rw[List.getElem?_set_ne V,o i V,List.getElem?_append_left (by rw[h.len];exact hi)]
  ·simp at q;subst q;exact fun _=>⟨V,by show((s.1.length:Nat):Int)<((b.1.length:Nat):Int);omega⟩
  ·have l:i<b.1.length:=l;by_cases e:i=s.1.length
   ·subst e;exact⟨(kd a,k),by rw[List.getElem?_set_self (by rw[c.len];omega)],by show kd a=kd (b.1.getD s.1.length 0);rw[p],by show k.length=(sh (b.1.getD s.1.length 0)).length;rw[p];exact d,ht,aJ Z⟩
   ·obtain⟨nd,w,x,A,B,m⟩:=hw i V l;refine⟨nd,by rw[List.getElem?_set_ne V];exact w,x,A,B,aI ?_⟩
    rcases m with m|⟨j,E,j2,C,cy,cz⟩
    ·exact⟨s.1.length,aA _,V,(kd a,k),by rw[List.getElem?_set_self (by rw[c.len];omega)],m⟩
    ·exact⟨j,V,j2,C,by rw[List.getElem?_set_ne V];exact cy,cz⟩
end
end Go.Proofs.YtjpjpjemibgjpaaGreat
