import Derived.Laws.BitsAllLaws
import Derived.Laws.BitsLemmas
open BitVec renaming ofInt->tV
open Bool renaming true->O5
open Go.IntKind renaming i64->R
open List renaming contains->bJ,count_append->MI,count_cons->CB,getD->X,length->L
namespace Go.Proofs.YtjckpdepffejnaaGreatDoor
theorem aa{P:Prop}(h:P:=by omega):P:=h
theorem ac{P:Prop}(h:P:=by simp):P:=h
theorem af{P:Prop}(h:P:=by rfl):P:=h
namespace W
open Go
theorem oY (w:Int):(tV 64 w).toNat=(w%18446744073709551616).toNat:=af
theorem DS (w:Int):bits .and R w 3=w%4:=by
 show IntKind.i64.wrap (((tV 64 w) &&& (tV 64 3)).toNat:Int)=w%4
 grind [oY,nat_mask2,IntKind.wrap_i64]
theorem DT (w:Int):bits .and R w 15=w%16:=by
 show IntKind.i64.wrap (((tV 64 w) &&& (tV 64 15)).toNat:Int)=w%16
 grind [oY,nat_mask4,IntKind.wrap_i64]
theorem DU (x t:Int)(h:x%4=0)(b:-9223372036854775808<=x)(c:x<=9223372036854775804)(t0:0<=t)(d:t<4):bits .or R x t=x+t:=by show IntKind.i64.wrap (((tV 64 x) ||| (tV 64 t)).toNat:Int)=x+t;rw[BitVec.toNat_or,oY,oY,nat_join 2 _ _ aa aa,IntKind.wrap_i64];omega
theorem DV (x t:Int)(h:x%16=0)(b:-9223372036854775808<=x)(c:x<=9223372036854775792)(t0:0<=t)(d:t<16):bits .or R x t=x+t:=by show IntKind.i64.wrap (((tV 64 x) ||| (tV 64 t)).toNat:Int)=x+t;rw[BitVec.toNat_or,oY,oY,nat_join 4 _ _ aa aa,IntKind.wrap_i64];omega
def rc (n low:Int):Int:=if n<low then 1 else if 1152921504606846976<=n then 1 else 0
def vc (k n:Int):Int:=
 if k=0 then(if n=0 then 0 else 7) else if k=2 then(if n=0 then 0 else 7)
 else if k=1 then rc n (-1152921504606846976) else if k=3 then rc n 0 else 2
def tg (k:Int):Int:=if k=1 then 0 else if k=3 then 1 else if k=0 then 2 else 3
def jk (t:Int):Int:=if t=0 then 1 else if t=1 then 3 else if t=2 then 0 else 2
def ew (k n:Int):Int:=if vc k n=0 then 4*n+tg k else 0
theorem DW (k:Int):0<=tg k/\tg k<4:=by unfold tg;repeat' split<;>omega
theorem xU (k n:Int)(h:vc k n=0):-1152921504606846976<=n/\n<1152921504606846976:=by grind [vc,rc]
theorem DX (k n:Int)(b:-1152921504606846976<=n)(c:n<1152921504606846976):bits .or R (n*4) (tg k)=4*n+tg k:=by grind [DU,tg]
def dc (w:Int):Int:=vc (jk (w%4)) (w/4)
def dk (w:Int):Int:=if dc w=0 then jk (w%4) else 0
def dp (w:Int):Int:=if dc w=0 then w/4 else 0
def hc (k f:Int):Int:=
 if k=1 then(if f=2 then 0 else 1) else if k=3 then(if f=2 then 0 else 1) else if k=4 then(if f=2 then 0 else 1)
 else if k=2 then(if f<0 then 1 else if 12<f then 1 else 0) else if k=5 then(if f=0 then 0 else 1) else 2
def hw (k f:Int):Int:=if hc k f=0 then 16*f+k else 0
def pc (h:Int):Int:=if hc (h%16) (h/16)=0 then 0 else 7
def pk (h:Int):Int:=if hc (h%16) (h/16)=0 then h%16 else 0
def pf (h:Int):Int:=if hc (h%16) (h/16)=0 then h/16 else 0
theorem jK (k f:Int)(h:hc k f=0):1<=k/\k<=5/\0<=f/\f<=12:=by grind [hc]
theorem DY (k f:Int)(h:hc k f=0):bits .or R (f*16) k=16*f+k:=by
 have hb:=jK k f h
 grind [DV]
theorem uj (k f:Int)(h:hc k f=0):hw k f=16*f+k:=by unfold hw;rw[if_pos h]
theorem DZ (k f:Int)(h:hc k f≠0):hw k f=0:=by unfold hw;rw[if_neg h]
theorem uk (k n:Int)(h:vc k n=0):ew k n=4*n+tg k:=by unfold ew;rw[if_pos h]
theorem D0 (k n:Int)(h:vc k n≠0):ew k n=0:=by unfold ew;rw[if_neg h]
theorem qf (k f:Int)(h:hc k f=0):(k=1/\f=2)\/(k=3/\f=2)\/(k=4/\f=2)\/(k=2/\0<=f/\f<=12)\/(k=5/\f=0):=by grind [hc]
theorem D1 (k f:Int)(b:k≠1)(c:k≠2)(d:k≠3)(e:k≠4)(g:k≠5):hc k f=2:=by grind [hc]
theorem D2 (k f:Int)(h:hc k f≠0):
 ((k=1/\f<2)\/(k=1/\2<f)\/(k=3/\f<2)\/(k=3/\2<f)\/(k=4/\f<2)\/(k=4/\2<f)\/(k=2/\f<0)\/(k=2/\12<f)\/(k=5/\f<0)\/(k=5/\0<f))\/(k≠1/\k≠2/\k≠3/\k≠4/\k≠5):=by grind [hc]
theorem D3 (k f:Int)(h:(k=1/\f<2)\/(k=1/\2<f)\/(k=3/\f<2)\/(k=3/\2<f)\/(k=4/\f<2)\/(k=4/\2<f)\/(k=2/\f<0)\/(k=2/\12<f)\/(k=5/\f<0)\/(k=5/\0<f)):hc k f=1:=by
 rcases h with⟨rfl,h⟩|⟨rfl,h⟩|⟨rfl,h⟩|⟨rfl,h⟩|⟨rfl,h⟩|⟨rfl,h⟩|⟨rfl,h⟩|⟨rfl,h⟩|⟨rfl,h⟩|⟨rfl,h⟩
 all_goals grind [hc]
def fl (k:Int):Int:=if k=1 then 2 else if k=3 then 2 else if k=4 then 2 else 0
def fm (k:Int):Int:=if k=1 then 2 else if k=3 then 2 else if k=4 then 2 else if k=2 then 12 else 0
def fk (k:Int):Bool:=k==1||k==3||k==4||k==2||k==5
def di (x:Int):Bool:=dc x==0&&dk x==3
def cq (x:Int):Int:=if di x then dp x else 0
theorem oZ (x:Int)(h:di x=O5):cq x=dp x:=by unfold cq;rw[if_pos h]
theorem xV (x:Int)(h:di x=false):cq x=0:=by unfold cq;rw[h];rfl
theorem D4 (k n:Int)(h:vc k n=0):k=0\/k=1\/k=2\/k=3:=by grind [vc]
theorem D5 (k:Int)(h:k=0\/k=1\/k=2\/k=3):jk (tg k)=k:=by rcases h with rfl|rfl|rfl|rfl<;>rfl
theorem rK (k n:Int)(h:vc k n=0):dc (ew k n)=0/\dk (ew k n)=k/\dp (ew k n)=n:=by
 have ht:=DW k;have e:ew k n=4*n+tg k:=uk k n h;have b:ew k n%4=tg k:=aa;have c:ew k n/4=n:=aa;have d:jk (tg k)=k:=D5 k (D4 k n h)
 grind [dc,dk,dp]
theorem D6 (t:Int)(b:0<=t)(c:t<4):tg (jk t)=t:=by have:t=0\/t=1\/t=2\/t=3:=aa;rcases this with rfl|rfl|rfl|rfl<;>rfl
theorem xW (x:Int)(h:dc x=0):vc (dk x) (dp x)=0/\ew (dk x) (dp x)=x:=by
 have b:dk x=jk (x%4):=by grind [dk]
 have c:dp x=x/4:=by grind [dp]
 have hv:vc (dk x) (dp x)=0:=by rw[b,c];exact h
 grind [uk,D6]
theorem o4 (k n:Int)(h:vc k n=0):di (ew k n)=(k==3)/\(k=3->cq (ew k n)=n):=by grind [rK,oZ,di]
theorem o5 (n:Int)(b:0<=n)(c:n<1152921504606846976):vc 3 n=0:=by grind [vc,rc]
theorem rL (k f:Int)(h:hc k f=0):pk (hw k f)=k/\pf (hw k f)=f/\pc (hw k f)=0:=by
 have b:=jK k f h
 grind [uj,pk,pf,pc]
theorem D7 (x:Int)(h:pc x=0):hc (pk x) (pf x)=0/\hw (pk x) (pf x)=x:=by grind [uj,pc,pk,pf]
end W
namespace Kp
abbrev D8:=List (Int×Int)
def mu (L:D8)(A:List Int):Nat:=(L.filter (λe=>!A.contains e.1)).length
end Kp
namespace ch
open Kp
abbrev b8:=Int×Int
section
variable {σ iP:Type}
def pass (is:σ->Int->Bool)(kp:σ->Int->σ):List b8->σ->List b8->List b8->σ×List b8×List b8
 |[],s,C,D=>(s,C,D)
 |e::r,s,C,D=>if is s e.1 then pass is kp r (kp s e.2) (C++[e]) D else pass is kp r s C (D++[e])
def turns (is:σ->Int->Bool)(kp:σ->Int->σ):Nat->List b8->σ->List b8->σ×List b8×List b8
 |0,D,s,C=>(s,C,D)
 |n+1,D,s,C=>if L (pass is kp D s C []).2.1=L C then pass is kp D s C [] else turns is kp n (pass is kp D s C []).2.2 (pass is kp D s C []).1 (pass is kp D s C []).2.1
variable {is:σ->Int->Bool}{kp:σ->Int->σ}
theorem ul:∀(l:List b8)(s:σ)(C D:List b8),L (pass is kp l s C D).2.1+L (pass is kp l s C D).2.2=L C+L D+L l/\L C<=L (pass is kp l s C D).2.1
 |[],s,C,D=>by simp[pass]
 |e::r,s,C,D=>by
  unfold pass;split
  ·have:=ul r (kp s e.2) (C++[e]) D
   grind
  ·have:=ul r s C (D++[e])
   grind
theorem D9 {n:Nat}{D:List b8}{s:σ}{C:List b8}(h:L (pass is kp D s C []).2.1≠L C):turns is kp (n+1) D s C=turns is kp n (pass is kp D s C []).2.2 (pass is kp D s C []).1 (pass is kp D s C []).2.1:=by rw[turns,if_neg h]
theorem D_ {n:Nat}{D:List b8}{s:σ}{C:List b8}(h:L (pass is kp D s C []).2.1=L C):turns is kp (n+1) D s C=pass is kp D s C []:=by rw[turns,if_pos h]
theorem um (x:b8):∀(l:List b8)(s:σ)(C D:List b8),(pass is kp l s C D).2.1.count x+(pass is kp l s C D).2.2.count x=C.count x+D.count x+l.count x
 |[],s,C,D=>by rfl
 |e::r,s,C,D=>by
  unfold pass;split
  ·rw[um x r (kp s e.2) (C++[e]) D,MI,CB,CB,List.count_nil];omega
  ·rw[um x r s C (D++[e]),MI,CB,CB,List.count_nil];omega
theorem xX (x:b8):∀(n:Nat)(D:List b8)(s:σ)(C:List b8),(turns is kp n D s C).2.1.count x+(turns is kp n D s C).2.2.count x=C.count x+D.count x
 |0,D,s,C=>by rfl
 |n+1,D,s,C=>by
  have h:=um (is:=is) (kp:=kp) x D s C [];unfold turns;split
  ·grind
  ·rw[xX x n,h];simp
theorem xY:∀(n:Nat)(D:List b8)(s:σ)(C:List b8),L (turns is kp n D s C).2.1+L (turns is kp n D s C).2.2=L C+L D
 |0,D,s,C=>by rfl
 |n+1,D,s,C=>by
  have h:=(ul (is:=is) (kp:=kp) D s C []).1;unfold turns;split
  ·omega
  ·rw[xY n,h];simp
end
end ch
namespace ch
theorem h_ {b:Type}(l:List b)(i:Nat)(h:i<L l)(z:b):l.take (i+1)=l.take i++[X l i z]:=by simp_all
end ch
open W
abbrev cT:=List Int×List (Int×List (Int×Int))
def el (M:cT->Int->cT)(T:List Int)(s:cT)(x:Int):(Int×Int)×cT:=
 if dk x=3 then(if bJ T (dp x)=O5 then(if bJ s.1 (dp x)=O5 then((3,(s.1.idxOf (dp x):Int)),s) else((3,(L s.1:Int)),M s (dp x))) else((0,0),s))
 else((dk x,dp x),s)
def dE (M:cT->Int->cT)(T:List Int)(s:cT)(l:List Int):List (Int×Int)×cT:=l.foldl (λr x=>(r.1++[(el M T r.2 x).1],(el M T r.2 x).2)) ([],s)
theorem Ea (M:cT->Int->cT)(T:List Int)(s:cT):dE M T s []=([],s):=rfl
theorem un (M:cT->Int->cT)(T:List Int)(s:cT)(l:List Int)(x:Int):dE M T s (l++[x])=((dE M T s l).1++[(el M T (dE M T s l).2 x).1],(el M T (dE M T s l).2 x).2):=by simp[dE,List.foldl_append]
theorem o6 (M:cT->Int->cT)(T:List Int)(s:cT)(l:List Int):L (dE M T s l).1=L l:=by
 have key:∀(l:List Int)(r:List (Int×Int)×cT),L (l.foldl (λr x=>(r.1++[(el M T r.2 x).1],(el M T r.2 x).2)) r).1=L r.1+L l:=by
  intro l
  induction l with
  |nil=>simp
  |cons x l b=>
   grind
 simp_all [dE]
def met (T:List Int)(kd:Int->Int)(sh:Int->List Int):Nat->cT->Int->cT
 |0,s,_=>s
 |n+1,s,a=>((dE (met T kd sh n) T (s.1++[a],s.2++[(kd a,[])]) (sh a)).2.1,(dE (met T kd sh n) T (s.1++[a],s.2++[(kd a,[])]) (sh a)).2.2.set (L s.1) (kd a,(dE (met T kd sh n) T (s.1++[a],s.2++[(kd a,[])]) (sh a)).1))
structure fE (T:List Int)(s:cT):Prop where
 nd:s.1.Nodup
 sub:∀a∈s.1,a∈T
 len:L s.2=L s.1
theorem fE.le {T:List Int}{s:cT}(h:fE T s):L s.1<=L T:=h.nd.length_le_of_subset h.sub
theorem fE.start (T:List Int):fE T ([],[]):=⟨List.nodup_nil,ac,rfl⟩
theorem fE.lt {T:List Int}{s:cT}(h:fE T s){a:Int}(ha:a∈T)(hn:a∉s.1):L s.1<L T:=by
 have b:fE T (s.1++[a],s.2++[(0,[])]):=⟨by grind [nd],λx c=>by grind [sub],by simp[h.len]⟩
 have:=b.le
 grind
theorem fE.more {T:List Int}{s:cT}(h:fE T s){a:Int}(ha:a∈T)(hn:a∉s.1)(nd:Int×List _):fE T (s.1++[a],s.2++[nd]):=
 ⟨by grind [nd],λx b=>by grind [sub],by simp[h.len]⟩
def n5 (n:Nat)(v:Int×Int):Prop:=v.1=3->0<=v.2/\v.2<n
theorem n5.mono {n m:Nat}{v:Int×Int}(h:n5 n v)(hm:n<=m):n5 m v:=λe=>⟨(h e).1,by have:=(h e).2;omega⟩
structure iE (T:List Int)(kd:Int->Int)(sh:Int->List Int)(s s':cT)(vs:List (Int×Int)):Prop where
 ok:fE T s'
 pre:s.1 <+: s'.1
 old:∀i,i<L s.1->s'.2[i]?=s.2[i]?
 eC:∀v∈vs,n5 (L s'.1) v
 nw:∀i,L s.1<=i->i<L s'.1->∃nd:Int×List (Int×Int),s'.2[i]?=some nd/\nd.1=kd (X s'.1 i 0)/\L nd.2=L (sh (X s'.1 i 0))/\(∀v∈nd.2,n5 (L s'.1) v)/\
  ((3,(i:Int))∈vs\/∃j,L s.1<=j/\j<i/\∃nj:Int×List (Int×Int),s'.2[j]?=some nj/\(3,(i:Int))∈nj.2)
section
variable {T:List Int}{kd:Int->Int}{sh:Int->List Int}
theorem iE.refl {s:cT}(h:fE T s){b:List _}(ht:∀v∈b,n5 (L s.1) v):iE T kd sh s s b:=
 ⟨h,List.prefix_refl _,λ_ _=>rfl,ht,λi c d=>aa⟩
theorem iE.le {s b:cT}{c:List (Int×Int)}(h:iE T kd sh s b c):L s.1<=L b.1:=h.pre.length_le
theorem uo {l b:List Int}(h:l <+: b){i:Nat}(hi:i<L l):X b i 0=X l i 0:=by
 obtain⟨t,rfl⟩:=h
 grind
theorem aI {a b:Prop}(h:b):a \/ b:=by intros;apply Or.inr<;>assumption
theorem iE.trans {s b c:cT}{d us:List _}(h:iE T kd sh s b d)(k:iE T kd sh b c us):iE T kd sh s c (d++us):=by
 have l1:=h.le;have l2:=k.le;refine⟨k.ok,h.pre.trans k.pre,λi hi=>(by grind [old]),λv hv=>?_,λi f q=>?_⟩
 ·rcases List.mem_append.1 hv with hv|hv
  ·exact(h.eC v hv).mono l2
  grind [eC]
 ·by_cases hi:i<L b.1
  ·obtain⟨nd,g,l,m,n,e⟩:=h.nw i f hi;refine⟨nd,(k.old i hi).trans g,(uo k.pre hi▸l),(uo k.pre hi▸m),λv hv=>(n v hv).mono l2,?_⟩
   rcases e with e|⟨j,o,j2,p,cI,cM⟩
   ·grind
   ·exact aI ⟨j,o,j2,p,(k.old j aa).trans cI,cM⟩
  grind [nw]
def mJ (T:List Int)(kd:Int->Int)(sh:Int->List Int)(n:Nat)(M:cT->Int->cT):Prop:=
 ∀s a,fE T s->a∈T->a∉s.1->L T<=L s.1+n->iE T kd sh s (M s a) [(3,(L s.1:Int))]
theorem aN {c:Prop}{h:Decidable c}(hc:c){α:Sort _}{t e:α}:(if c then t else e) = t:=by intros;apply if_pos<;>assumption
theorem aJ {c:Prop}{h:Decidable c}(hnc:¬c){α:Sort _}{t e:α}:(if c then t else e) = e:=by intros;apply if_neg<;>assumption
theorem qg {n:Nat}{M:cT->Int->cT}(hM:mJ T kd sh n M){s:cT}(h:fE T s)(hn:L T<=L s.1+n)(x:Int):iE T kd sh s (el M T s x).2 [(el M T s x).1]:=by
 unfold el;by_cases b:dk x=3
 ·rw[aN b];by_cases c:bJ T (dp x)=O5
  ·rw[aN c];by_cases hs:bJ s.1 (dp x)=O5
   ·rw[aN hs];refine iE.refl h (λv hv=>?_)
    simp at hv;subst hv;intro _
    grind
   ·rw[aJ hs];exact hM s (dp x) h (by grind) (by grind) hn
  ·rw[aJ c];refine iE.refl h (λv hv=>?_)
   simp at hv;subst hv;intro e;omega
 ·rw[aJ b];refine iE.refl h (λv hv=>?_)
  simp at hv;subst hv;intro e;omega
theorem qh {n:Nat}{M:cT->Int->cT}(hM:mJ T kd sh n M){s:cT}(h:fE T s)(hn:L T<=L s.1+n)(l:List Int):iE T kd sh s (dE M T s l).2 (dE M T s l).1:=by
 have key:∀k,k<=L l->iE T kd sh s (dE M T s (l.take k)).2 (dE M T s (l.take k)).1:=by
  intro k
  induction k with
  |zero=>intro _;exact iE.refl h (by simp[Ea])
  |succ k b=>
   intro hk;have b:=b aa;rw[List.take_succ_eq_append_getElem aa,un];have hl:=b.le
   grind [iE.trans,qg,iE.ok]
 have:=key (L l) aa
 grind
theorem ks:∀n,mJ T kd sh n (met T kd sh n)
 |0=>λs a h ha hn hl=>by have:=h.lt ha hn;omega
 |n+1=>λs a h ha hn hl=>by
  have k:=h.more ha hn (kd a,[])
  have g:=qh (ks n) k (by grind) (sh a)
  have hlen:=o6 (met T kd sh n) T (s.1++[a],s.2++[(kd a,[])]) (sh a)
  show iE T kd sh s ((dE (met T kd sh n) T (s.1++[a],s.2++[(kd a,[])]) (sh a)).2.1,(dE (met T kd sh n) T (s.1++[a],s.2++[(kd a,[])]) (sh a)).2.2.set (L s.1) (kd a,(dE (met T kd sh n) T (s.1++[a],s.2++[(kd a,[])]) (sh a)).1)) _;generalize dE (met T kd sh n) T (s.1++[a],s.2++[(kd a,[])]) (sh a)=r at g hlen⊢;obtain⟨t,d⟩:=r;dsimp only at g hlen⊢;have l:=g.le;have b:=g.ok;have hp:=g.pre;have ho:=g.old;have ht:=g.eC;have hw:=g.nw;simp only [List.length_append,List.length_cons,List.length_nil] at l ho hw hlen hp⊢;have u:X d.1 (L s.1) 0=a:=by rw[uo hp ac];simp
  refine⟨⟨b.nd,b.sub,by simp[b.len]⟩,(by grind [List.prefix_append]),λi hi=>?_,λv hv=>?_,λi w c=>?_⟩
  ·grind [fE.len]
  ·simp at hv;subst hv;exact λ_=>(by grind)
  ·have c:i<L d.1:=c;by_cases e:i=L s.1
   ·grind [fE.len]
   ·obtain⟨nd,x,m,o,p,f⟩:=hw i aa c;refine⟨nd,by grind,m,o,p,aI ?_⟩
    rcases f with f|⟨j,B,j2,q,cI,cM⟩
    ·grind
    ·exact⟨j,aa,j2,q,by grind,cM⟩
end
end Go.Proofs.YtjckpdepffejnaaGreatDoor
