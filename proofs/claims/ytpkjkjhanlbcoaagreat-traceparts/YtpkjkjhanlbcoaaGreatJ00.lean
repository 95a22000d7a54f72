import Derived.Laws.BitsAllLaws
import Derived.Laws.BitsLemmas
namespace Go.Proofs.YtpkjkjhanlbcoaaGreat
theorem aa{P:Prop}(h:P:=by omega):P:=h
theorem ac{P:Prop}(h:P:=by simp):P:=h
theorem af{P:Prop}(h:P:=by rfl):P:=h
namespace W
open Go
theorem nQ (w:Int):(BitVec.ofInt 64 w).toNat=(w%18446744073709551616).toNat:=af
theorem BQ (w:Int):bits .and .i64 w 3=w%4:=by
 show IntKind.i64.wrap (((BitVec.ofInt 64 w) &&& (BitVec.ofInt 64 3)).toNat:Int)=w%4
 grind [nQ,nat_mask2,IntKind.wrap_i64]
theorem BR (w:Int):bits .and .i64 w 15=w%16:=by
 show IntKind.i64.wrap (((BitVec.ofInt 64 w) &&& (BitVec.ofInt 64 15)).toNat:Int)=w%16
 grind [nQ,nat_mask4,IntKind.wrap_i64]
theorem BS (x t:Int)(h:x%4=0)(b:-9223372036854775808<=x)(c:x<=9223372036854775804)(t0:0<=t)(d:t<4):bits .or .i64 x t=x+t:=by show IntKind.i64.wrap (((BitVec.ofInt 64 x) ||| (BitVec.ofInt 64 t)).toNat:Int)=x+t;rw[BitVec.toNat_or,nQ,nQ,nat_join 2 _ _ aa aa,IntKind.wrap_i64];omega
theorem BU (x t:Int)(h:x%16=0)(b:-9223372036854775808<=x)(c:x<=9223372036854775792)(t0:0<=t)(d:t<16):bits .or .i64 x t=x+t:=by show IntKind.i64.wrap (((BitVec.ofInt 64 x) ||| (BitVec.ofInt 64 t)).toNat:Int)=x+t;rw[BitVec.toNat_or,nQ,nQ,nat_join 4 _ _ aa aa,IntKind.wrap_i64];omega
def rc (n low:Int):Int:=if n<low then 1 else if 1152921504606846976<=n then 1 else 0
def vc (k n:Int):Int:=
 if k=0 then(if n=0 then 0 else 7) else if k=2 then(if n=0 then 0 else 7)
 else if k=1 then rc n (-1152921504606846976) else if k=3 then rc n 0 else 2
def tg (k:Int):Int:=if k=1 then 0 else if k=3 then 1 else if k=0 then 2 else 3
def iS (t:Int):Int:=if t=0 then 1 else if t=1 then 3 else if t=2 then 0 else 2
def ew (k n:Int):Int:=if vc k n=0 then 4*n+tg k else 0
theorem BV (k:Int):0<=tg k/\tg k<4:=by unfold tg;repeat' split<;>omega
theorem BW (k n:Int)(h:vc k n=0):-1152921504606846976<=n/\n<1152921504606846976:=by grind [vc,rc]
theorem BX (k n:Int)(b:-1152921504606846976<=n)(c:n<1152921504606846976):bits .or .i64 (n*4) (tg k)=4*n+tg k:=by grind [BS,tg]
def dc (w:Int):Int:=vc (iS (w%4)) (w/4)
def dk (w:Int):Int:=if dc w=0 then iS (w%4) else 0
def dm (w:Int):Int:=if dc w=0 then w/4 else 0
def hc (k f:Int):Int:=
 if k=1 then(if f=2 then 0 else 1) else if k=3 then(if f=2 then 0 else 1) else if k=4 then(if f=2 then 0 else 1)
 else if k=2 then(if f<0 then 1 else if 12<f then 1 else 0) else if k=5 then(if f=0 then 0 else 1) else 2
def hw (k f:Int):Int:=if hc k f=0 then 16*f+k else 0
def pc (h:Int):Int:=if hc (h%16) (h/16)=0 then 0 else 7
def pk (h:Int):Int:=if hc (h%16) (h/16)=0 then h%16 else 0
def pf (h:Int):Int:=if hc (h%16) (h/16)=0 then h/16 else 0
theorem i3 (k f:Int)(h:hc k f=0):1<=k/\k<=5/\0<=f/\f<=12:=by grind [hc]
theorem BY (k f:Int)(h:hc k f=0):bits .or .i64 (f*16) k=16*f+k:=by
 have hb:=i3 k f h
 grind [BU]
theorem r5 (k f:Int)(h:hc k f=0):hw k f=16*f+k:=by unfold hw;rw[if_pos h]
theorem BZ (k f:Int)(h:hc k f≠0):hw k f=0:=by unfold hw;rw[if_neg h]
theorem r6 (k n:Int)(h:vc k n=0):ew k n=4*n+tg k:=by unfold ew;rw[if_pos h]
theorem B0 (k n:Int)(h:vc k n≠0):ew k n=0:=by unfold ew;rw[if_neg h]
theorem oQ (k f:Int)(h:hc k f=0):(k=1/\f=2)\/(k=3/\f=2)\/(k=4/\f=2)\/(k=2/\0<=f/\f<=12)\/(k=5/\f=0):=by grind [hc]
theorem B3 (k f:Int)(b:k≠1)(c:k≠2)(d:k≠3)(e:k≠4)(g:k≠5):hc k f=2:=by grind [hc]
theorem B4 (k f:Int)(h:hc k f≠0):
 ((k=1/\f<2)\/(k=1/\2<f)\/(k=3/\f<2)\/(k=3/\2<f)\/(k=4/\f<2)\/(k=4/\2<f)\/(k=2/\f<0)\/(k=2/\12<f)\/(k=5/\f<0)\/(k=5/\0<f))\/(k≠1/\k≠2/\k≠3/\k≠4/\k≠5):=by grind [hc]
theorem B5 (k f:Int)(h:(k=1/\f<2)\/(k=1/\2<f)\/(k=3/\f<2)\/(k=3/\2<f)\/(k=4/\f<2)\/(k=4/\2<f)\/(k=2/\f<0)\/(k=2/\12<f)\/(k=5/\f<0)\/(k=5/\0<f)):hc k f=1:=by
 rcases h with⟨rfl,h⟩|⟨rfl,h⟩|⟨rfl,h⟩|⟨rfl,h⟩|⟨rfl,h⟩|⟨rfl,h⟩|⟨rfl,h⟩|⟨rfl,h⟩|⟨rfl,h⟩|⟨rfl,h⟩
 all_goals grind [hc]
def fl (k:Int):Int:=if k=1 then 2 else if k=3 then 2 else if k=4 then 2 else 0
def fm (k:Int):Int:=if k=1 then 2 else if k=3 then 2 else if k=4 then 2 else if k=2 then 12 else 0
def fk (k:Int):Bool:=k==1||k==3||k==4||k==2||k==5
def dd (x:Int):Bool:=dc x==0&&dk x==3
def cq (x:Int):Int:=if dd x then dm x else 0
theorem lW (x:Int)(h:dd x=true):cq x=dm x:=by unfold cq;rw[if_pos h]
theorem vU (x:Int)(h:dd x=false):cq x=0:=by unfold cq;rw[h];rfl
theorem B6 (k n:Int)(h:vc k n=0):k=0\/k=1\/k=2\/k=3:=by grind [vc]
theorem B7 (k:Int)(h:k=0\/k=1\/k=2\/k=3):iS (tg k)=k:=by rcases h with rfl|rfl|rfl|rfl<;>rfl
theorem p7 (k n:Int)(h:vc k n=0):dc (ew k n)=0/\dk (ew k n)=k/\dm (ew k n)=n:=by
 have ht:=BV k;have e:ew k n=4*n+tg k:=r6 k n h;have b:ew k n%4=tg k:=aa;have c:ew k n/4=n:=aa;have d:iS (tg k)=k:=B7 k (B6 k n h)
 grind [dc,dk,dm]
theorem B8 (t:Int)(b:0<=t)(c:t<4):tg (iS t)=t:=by have:t=0\/t=1\/t=2\/t=3:=aa;rcases this with rfl|rfl|rfl|rfl<;>rfl
theorem vV (x:Int)(h:dc x=0):vc (dk x) (dm x)=0/\ew (dk x) (dm x)=x:=by
 have b:dk x=iS (x%4):=by grind [dk]
 have c:dm x=x/4:=by grind [dm]
 have hv:vc (dk x) (dm x)=0:=by rw[b,c];exact h
 grind [r6,B8]
theorem nR (k n:Int)(h:vc k n=0):dd (ew k n)=(k==3)/\(k=3->cq (ew k n)=n):=by grind [p7,lW,dd]
theorem nT (n:Int)(b:0<=n)(c:n<1152921504606846976):vc 3 n=0:=by grind [vc,rc]
theorem p8 (k f:Int)(h:hc k f=0):pk (hw k f)=k/\pf (hw k f)=f/\pc (hw k f)=0:=by
 have b:=i3 k f h
 grind [r5,pk,pf,pc]
theorem B9 (x:Int)(h:pc x=0):hc (pk x) (pf x)=0/\hw (pk x) (pf x)=x:=by grind [r5,pc,pk,pf]
end W
namespace Kp
abbrev B_:=List (Int×Int)
def mu (L:B_)(A:List Int):Nat:=(L.filter (fun e=>!A.contains e.1)).length
end Kp
namespace ck
open Kp
abbrev ce:=Int×Int
section
variable {σ hX:Type}
def pass (is:σ->Int->Bool)(kp:σ->Int->σ):List ce->σ->List ce->List ce->σ×List ce×List ce
 |[],s,C,D=>(s,C,D)
 |e::r,s,C,D=>if is s e.1 then pass is kp r (kp s e.2) (C++[e]) D else pass is kp r s C (D++[e])
def turns (is:σ->Int->Bool)(kp:σ->Int->σ):Nat->List ce->σ->List ce->σ×List ce×List ce
 |0,D,s,C=>(s,C,D)
 |n+1,D,s,C=>if(pass is kp D s C []).2.1.length=C.length then pass is kp D s C [] else turns is kp n (pass is kp D s C []).2.2 (pass is kp D s C []).1 (pass is kp D s C []).2.1
variable {is:σ->Int->Bool}{kp:σ->Int->σ}
theorem r7:∀(l:List ce)(s:σ)(C D:List ce),(pass is kp l s C D).2.1.length+(pass is kp l s C D).2.2.length=C.length+D.length+l.length/\C.length<=(pass is kp l s C D).2.1.length
 |[],s,C,D=>by simp[pass]
 |e::r,s,C,D=>by
  unfold pass;split
  ·have:=r7 r (kp s e.2) (C++[e]) D;simp at this⊢
   omega
  ·have:=r7 r s C (D++[e])
   simp at this⊢
   omega
theorem Ca {n:Nat}{D:List ce}{s:σ}{C:List ce}(h:(pass is kp D s C []).2.1.length≠C.length):turns is kp (n+1) D s C=turns is kp n (pass is kp D s C []).2.2 (pass is kp D s C []).1 (pass is kp D s C []).2.1:=by rw[turns,if_neg h]
theorem Cb {n:Nat}{D:List ce}{s:σ}{C:List ce}(h:(pass is kp D s C []).2.1.length=C.length):turns is kp (n+1) D s C=pass is kp D s C []:=by rw[turns,if_pos h]
theorem r8 (x:ce):∀(l:List ce)(s:σ)(C D:List ce),(pass is kp l s C D).2.1.count x+(pass is kp l s C D).2.2.count x=C.count x+D.count x+l.count x
 |[],s,C,D=>by simp[pass]
 |e::r,s,C,D=>by
  unfold pass;split
  ·rw[r8 x r (kp s e.2) (C++[e]) D,List.count_append,List.count_cons,List.count_cons,List.count_nil];omega
  ·rw[r8 x r s C (D++[e]),List.count_append,List.count_cons,List.count_cons,List.count_nil];omega
theorem vW (x:ce):∀(n:Nat)(D:List ce)(s:σ)(C:List ce),(turns is kp n D s C).2.1.count x+(turns is kp n D s C).2.2.count x=C.count x+D.count x
 |0,D,s,C=>by simp[turns]
 |n+1,D,s,C=>by
  have h:=r8 (is:=is) (kp:=kp) x D s C [];unfold turns;split
  ·rw[h];simp
  ·rw[vW x n,h];simp
theorem vX:∀(n:Nat)(D:List ce)(s:σ)(C:List ce),(turns is kp n D s C).2.1.length+(turns is kp n D s C).2.2.length=C.length+D.length
 |0,D,s,C=>by simp[turns]
 |n+1,D,s,C=>by
  have h:=(r7 (is:=is) (kp:=kp) D s C []).1;unfold turns;split
  ·rw[h];simp
  ·rw[vX n,h];simp
end
end ck
namespace ck
theorem gL {b:Type}(l:List b)(i:Nat)(h:i<l.length)(z:b):l.take (i+1)=l.take i++[l.getD i z]:=by rw[List.take_add_one,List.getElem?_eq_getElem h];simp[List.getElem?_eq_getElem h]
end ck
open W
abbrev cW:=List Int×List (Int×List (Int×Int))
def eA (M:cW->Int->cW)(T:List Int)(s:cW)(x:Int):(Int×Int)×cW:=
 if dk x=3 then(if T.contains (dm x)=true then(if s.1.contains (dm x)=true then((3,(s.1.idxOf (dm x):Int)),s) else((3,(s.1.length:Int)),M s (dm x))) else((0,0),s))
 else((dk x,dm x),s)
def dC (M:cW->Int->cW)(T:List Int)(s:cW)(l:List Int):List (Int×Int)×cW:=l.foldl (fun r x=>(r.1++[(eA M T r.2 x).1],(eA M T r.2 x).2)) ([],s)
theorem Ce (M:cW->Int->cW)(T:List Int)(s:cW):dC M T s []=([],s):=rfl
theorem r9 (M:cW->Int->cW)(T:List Int)(s:cW)(l:List Int)(x:Int):dC M T s (l++[x])=((dC M T s l).1++[(eA M T (dC M T s l).2 x).1],(eA M T (dC M T s l).2 x).2):=by simp[dC,List.foldl_append]
theorem nU (M:cW->Int->cW)(T:List Int)(s:cW)(l:List Int):(dC M T s l).1.length=l.length:=by
 have key:∀(l:List Int)(r:List (Int×Int)×cW),(l.foldl (fun r x=>(r.1++[(eA M T r.2 x).1],(eA M T r.2 x).2)) r).1.length=r.1.length+l.length:=by
  intro l
  induction l with
  |nil=>simp
  |cons x l b=>
   grind
 simp_all [dC]
def met (T:List Int)(kd:Int->Int)(sh:Int->List Int):Nat->cW->Int->cW
 |0,s,_=>s
 |n+1,s,a=>((dC (met T kd sh n) T (s.1++[a],s.2++[(kd a,[])]) (sh a)).2.1,(dC (met T kd sh n) T (s.1++[a],s.2++[(kd a,[])]) (sh a)).2.2.set s.1.length (kd a,(dC (met T kd sh n) T (s.1++[a],s.2++[(kd a,[])]) (sh a)).1))
structure fi (T:List Int)(s:cW):Prop where
 nd:s.1.Nodup
 sub:∀a∈s.1,a∈T
 len:s.2.length=s.1.length
theorem fi.le {T:List Int}{s:cW}(h:fi T s):s.1.length<=T.length:=h.nd.length_le_of_subset h.sub
theorem fi.start (T:List Int):fi T ([],[]):=⟨List.nodup_nil,ac,rfl⟩
theorem fi.lt {T:List Int}{s:cW}(h:fi T s){a:Int}(ha:a∈T)(hn:a∉s.1):s.1.length<T.length:=by
 have b:fi T (s.1++[a],s.2++[(0,[])]):=⟨by grind [nd],fun x c=>by grind [sub],by simp[h.len]⟩
 have:=b.le
 grind
theorem fi.more {T:List Int}{s:cW}(h:fi T s){a:Int}(ha:a∈T)(hn:a∉s.1)(nd:Int×List _):fi T (s.1++[a],s.2++[nd]):=
 ⟨by grind [nd],fun x b=>by grind [sub],by simp[h.len]⟩
def nV (n:Nat)(v:Int×Int):Prop:=v.1=3->0<=v.2/\v.2<n
theorem nV.mono {n m:Nat}{v:Int×Int}(h:nV n v)(hm:n<=m):nV m v:=fun e=>⟨(h e).1,by have:=(h e).2;omega⟩
structure hY (T:List Int)(kd:Int->Int)(sh:Int->List Int)(s s':cW)(vs:List (Int×Int)):Prop where
 ok:fi T s'
 pre:s.1 <+: s'.1
 old:∀i,i<s.1.length->s'.2[i]?=s.2[i]?
 es:∀v∈vs,nV s'.1.length v
 nw:∀i,s.1.length<=i->i<s'.1.length->∃nd:Int×List (Int×Int),s'.2[i]?=some nd/\nd.1=kd (s'.1.getD i 0)/\nd.2.length=(sh (s'.1.getD i 0)).length/\(∀v∈nd.2,nV s'.1.length v)/\
  ((3,(i:Int))∈vs\/∃j,s.1.length<=j/\j<i/\∃nj:Int×List (Int×Int),s'.2[j]?=some nj/\(3,(i:Int))∈nj.2)
section
variable {T:List Int}{kd:Int->Int}{sh:Int->List Int}
theorem hY.refl {s:cW}(h:fi T s){b:List _}(ht:∀v∈b,nV s.1.length v):hY T kd sh s s b:=
 ⟨h,List.prefix_refl _,fun _ _=>rfl,ht,fun i c d=>aa⟩
theorem hY.le {s b:cW}{c:List (Int×Int)}(h:hY T kd sh s b c):s.1.length<=b.1.length:=h.pre.length_le
theorem r_ {l b:List Int}(h:l <+: b){i:Nat}(hi:i<l.length):b.getD i 0=l.getD i 0:=by
 obtain⟨t,rfl⟩:=h
 grind
theorem aL {a b:Prop}(h:b):a \/ b:=by intros;apply Or.inr<;>assumption
theorem hY.trans {s b c:cW}{d us:List _}(h:hY T kd sh s b d)(k:hY T kd sh b c us):hY T kd sh s c (d++us):=by
 have l1:=h.le;have l2:=k.le;refine⟨k.ok,h.pre.trans k.pre,fun i hi=>(by grind [old]),fun v hv=>?_,fun i f q=>?_⟩
 ·rcases List.mem_append.1 hv with hv|hv
  ·exact(h.es v hv).mono l2
  grind [es]
 ·by_cases hi:i<b.1.length
  ·obtain⟨nd,g,l,m,n,e⟩:=h.nw i f hi;refine⟨nd,(k.old i hi).trans g,(r_ k.pre hi▸l),(r_ k.pre hi▸m),fun v hv=>(n v hv).mono l2,?_⟩
   rcases e with e|⟨j,o,j2,p,cH,cJ⟩
   ·grind
   ·exact aL ⟨j,o,j2,p,(k.old j aa).trans cH,cJ⟩
  grind [nw]
def lv (T:List Int)(kd:Int->Int)(sh:Int->List Int)(n:Nat)(M:cW->Int->cW):Prop:=
 ∀s a,fi T s->a∈T->a∉s.1->T.length<=s.1.length+n->hY T kd sh s (M s a) [(3,(s.1.length:Int))]
theorem aK {c:Prop}{h:Decidable c}(hc:c){α:Sort _}{t e:α}:(if c then t else e) = t:=by intros;apply if_pos<;>assumption
theorem aI {c:Prop}{h:Decidable c}(hnc:¬c){α:Sort _}{t e:α}:(if c then t else e) = e:=by intros;apply if_neg<;>assumption
theorem oR {n:Nat}{M:cW->Int->cW}(hM:lv T kd sh n M){s:cW}(h:fi T s)(hn:T.length<=s.1.length+n)(x:Int):hY T kd sh s (eA M T s x).2 [(eA M T s x).1]:=by
 unfold eA;by_cases b:dk x=3
 ·rw[aK b];by_cases c:T.contains (dm x)=true
  ·rw[aK c];by_cases hs:s.1.contains (dm x)=true
   ·rw[aK hs];refine hY.refl h (fun v hv=>?_)
    simp at hv;subst hv;intro _
    grind
   ·rw[aI hs];exact hM s (dm x) h (by grind) (by grind) hn
  ·rw[aI c];refine hY.refl h (fun v hv=>?_)
   simp at hv;subst hv;intro e;omega
 ·rw[aI b];refine hY.refl h (fun v hv=>?_)
  simp at hv;subst hv;intro e;omega
theorem p9 {n:Nat}{M:cW->Int->cW}(hM:lv T kd sh n M){s:cW}(h:fi T s)(hn:T.length<=s.1.length+n)(l:List Int):hY T kd sh s (dC M T s l).2 (dC M T s l).1:=by
 have key:∀k,k<=l.length->hY T kd sh s (dC M T s (l.take k)).2 (dC M T s (l.take k)).1:=by
  intro k
  induction k with
  |zero=>intro _;exact hY.refl h (by simp[Ce])
  |succ k b=>
   intro hk;have b:=b aa;rw[List.take_succ_eq_append_getElem aa,r9];have hl:=b.le
   grind [hY.trans,oR,hY.ok]
 have:=key l.length aa
 grind
theorem jQ:∀n,lv T kd sh n (met T kd sh n)
 |0=>fun s a h ha hn hl=>by have:=h.lt ha hn;omega
 |n+1=>fun s a h ha hn hl=>by
  have l:=h.more ha hn (kd a,[])
  have g:=p9 (jQ n) l (by grind) (sh a)
  have b:=nU (met T kd sh n) T (s.1++[a],s.2++[(kd a,[])]) (sh a)
  show hY T kd sh s ((dC (met T kd sh n) T (s.1++[a],s.2++[(kd a,[])]) (sh a)).2.1,(dC (met T kd sh n) T (s.1++[a],s.2++[(kd a,[])]) (sh a)).2.2.set s.1.length (kd a,(dC (met T kd sh n) T (s.1++[a],s.2++[(kd a,[])]) (sh a)).1)) _;generalize dC (met T kd sh n) T (s.1++[a],s.2++[(kd a,[])]) (sh a)=r at g b⊢;obtain⟨u,f⟩:=r;dsimp only at g b⊢;have m:=g.le;have c:=g.ok;have hp:=g.pre;have ho:=g.old;have ht:=g.es;have hw:=g.nw;simp only [List.length_append,List.length_cons,List.length_nil] at m ho hw b hp⊢;have w:f.1.getD s.1.length 0=a:=by rw[r_ hp ac];simp
  refine⟨⟨c.nd,c.sub,by simp[c.len]⟩,(by grind [List.prefix_append]),fun i hi=>?_,fun v hv=>?_,fun i x d=>?_⟩
  ·grind [fi.len]
  ·simp at hv;subst hv;exact fun _=>(by grind)
  ·have d:i<f.1.length:=d;by_cases e:i=s.1.length
   ·grind [fi.len]
   ·obtain⟨nd,B,o,p,q,k⟩:=hw i aa d;refine⟨nd,by grind,o,p,q,aL ?_⟩
    rcases k with k|⟨j,F,j2,t,cH,cJ⟩
    ·grind
    ·exact⟨j,aa,j2,t,by grind,cJ⟩
end
end Go.Proofs.YtpkjkjhanlbcoaaGreat
