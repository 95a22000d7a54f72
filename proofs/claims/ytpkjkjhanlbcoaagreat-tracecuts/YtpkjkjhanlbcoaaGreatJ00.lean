import Derived.Laws.BitsAllLaws
import Derived.Laws.BitsLemmas
open BitVec renaming ofInt->vw
open Bool renaming true->Nc
open Go.IntKind renaming i64->Q
open List renaming contains->bR,count_append->MM,count_cons->Dm,count_nil->LM,getD->X,getElem?_eq_getElem->gp,length->L
namespace Go.Proofs.YtpkjkjhanlbcoaaGreat
theorem aa{P:Prop}(h:P:=by omega):P:=h
theorem ac{P:Prop}(h:P:=by simp):P:=h
theorem af{P:Prop}(h:P:=by rfl):P:=h
namespace W
open Go
theorem ob (w:Int):(vw 64 w).toNat=(w%18446744073709551616).toNat:=af
theorem CY (w:Int):bits .and Q w 3=w%4:=by
 show IntKind.i64.wrap (((vw 64 w) &&& (vw 64 3)).toNat:Int)=w%4
 grind [ob,nat_mask2,IntKind.wrap_i64]
theorem CZ (w:Int):bits .and Q w 15=w%16:=by
 show IntKind.i64.wrap (((vw 64 w) &&& (vw 64 15)).toNat:Int)=w%16
 grind [ob,nat_mask4,IntKind.wrap_i64]
theorem C1 (x t:Int)(h:x%4=0)(b:-9223372036854775808<=x)(c:x<=9223372036854775804)(t0:0<=t)(d:t<4):bits .or Q x t=x+t:=by show IntKind.i64.wrap (((vw 64 x) ||| (vw 64 t)).toNat:Int)=x+t;rw[BitVec.toNat_or,ob,ob,nat_join 2 _ _ aa aa,IntKind.wrap_i64];omega
theorem C2 (x t:Int)(h:x%16=0)(b:-9223372036854775808<=x)(c:x<=9223372036854775792)(t0:0<=t)(d:t<16):bits .or Q x t=x+t:=by show IntKind.i64.wrap (((vw 64 x) ||| (vw 64 t)).toNat:Int)=x+t;rw[BitVec.toNat_or,ob,ob,nat_join 4 _ _ aa aa,IntKind.wrap_i64];omega
def rc (n low:Int):Int:=if n<low then 1 else if 1152921504606846976<=n then 1 else 0
def vc (k n:Int):Int:=
 if k=0 then(if n=0 then 0 else 7) else if k=2 then(if n=0 then 0 else 7)
 else if k=1 then rc n (-1152921504606846976) else if k=3 then rc n 0 else 2
def tg (k:Int):Int:=if k=1 then 0 else if k=3 then 1 else if k=0 then 2 else 3
def i_ (t:Int):Int:=if t=0 then 1 else if t=1 then 3 else if t=2 then 0 else 2
def ew (k n:Int):Int:=if vc k n=0 then 4*n+tg k else 0
theorem C3 (k:Int):0<=tg k/\tg k<4:=by unfold tg;repeat' split<;>omega
theorem C4 (k n:Int)(h:vc k n=0):-1152921504606846976<=n/\n<1152921504606846976:=by grind [vc,rc]
theorem C5 (k n:Int)(b:-1152921504606846976<=n)(c:n<1152921504606846976):bits .or Q (n*4) (tg k)=4*n+tg k:=by grind [C1,tg]
def dc (w:Int):Int:=vc (i_ (w%4)) (w/4)
def dk (w:Int):Int:=if dc w=0 then i_ (w%4) else 0
def dr (w:Int):Int:=if dc w=0 then w/4 else 0
def hc (k f:Int):Int:=
 if k=1 then(if f=2 then 0 else 1) else if k=3 then(if f=2 then 0 else 1) else if k=4 then(if f=2 then 0 else 1)
 else if k=2 then(if f<0 then 1 else if 12<f then 1 else 0) else if k=5 then(if f=0 then 0 else 1) else 2
def hw (k f:Int):Int:=if hc k f=0 then 16*f+k else 0
def pc (h:Int):Int:=if hc (h%16) (h/16)=0 then 0 else 7
def pk (h:Int):Int:=if hc (h%16) (h/16)=0 then h%16 else 0
def pf (h:Int):Int:=if hc (h%16) (h/16)=0 then h/16 else 0
theorem jo (k f:Int)(h:hc k f=0):1<=k/\k<=5/\0<=f/\f<=12:=by grind [hc]
theorem C7 (k f:Int)(h:hc k f=0):bits .or Q (f*16) k=16*f+k:=by
 have hb:=jo k f h
 grind [C2]
theorem sH (k f:Int)(h:hc k f=0):hw k f=16*f+k:=by unfold hw;rw[if_pos h]
theorem C8 (k f:Int)(h:hc k f≠0):hw k f=0:=by unfold hw;rw[if_neg h]
theorem sI (k n:Int)(h:vc k n=0):ew k n=4*n+tg k:=by unfold ew;rw[if_pos h]
theorem C9 (k n:Int)(h:vc k n≠0):ew k n=0:=by unfold ew;rw[if_neg h]
theorem pn (k f:Int)(h:hc k f=0):(k=1/\f=2)\/(k=3/\f=2)\/(k=4/\f=2)\/(k=2/\0<=f/\f<=12)\/(k=5/\f=0):=by grind [hc]
theorem C_ (k f:Int)(b:k≠1)(c:k≠2)(d:k≠3)(e:k≠4)(g:k≠5):hc k f=2:=by grind [hc]
theorem Da (k f:Int)(h:hc k f≠0):
 ((k=1/\f<2)\/(k=1/\2<f)\/(k=3/\f<2)\/(k=3/\2<f)\/(k=4/\f<2)\/(k=4/\2<f)\/(k=2/\f<0)\/(k=2/\12<f)\/(k=5/\f<0)\/(k=5/\0<f))\/(k≠1/\k≠2/\k≠3/\k≠4/\k≠5):=by grind [hc]
theorem Db (k f:Int)(h:(k=1/\f<2)\/(k=1/\2<f)\/(k=3/\f<2)\/(k=3/\2<f)\/(k=4/\f<2)\/(k=4/\2<f)\/(k=2/\f<0)\/(k=2/\12<f)\/(k=5/\f<0)\/(k=5/\0<f)):hc k f=1:=by
 rcases h with⟨rfl,h⟩|⟨rfl,h⟩|⟨rfl,h⟩|⟨rfl,h⟩|⟨rfl,h⟩|⟨rfl,h⟩|⟨rfl,h⟩|⟨rfl,h⟩|⟨rfl,h⟩|⟨rfl,h⟩
 all_goals grind [hc]
def fl (k:Int):Int:=if k=1 then 2 else if k=3 then 2 else if k=4 then 2 else 0
def fm (k:Int):Int:=if k=1 then 2 else if k=3 then 2 else if k=4 then 2 else if k=2 then 12 else 0
def fk (k:Int):Bool:=k==1||k==3||k==4||k==2||k==5
def de (x:Int):Bool:=dc x==0&&dk x==3
def cr (x:Int):Int:=if de x then dr x else 0
theorem my (x:Int)(h:de x=Nc):cr x=dr x:=by unfold cr;rw[if_pos h]
theorem wK (x:Int)(h:de x=false):cr x=0:=by unfold cr;rw[h];rfl
theorem Dc (k n:Int)(h:vc k n=0):k=0\/k=1\/k=2\/k=3:=by grind [vc]
theorem Dd (k:Int)(h:k=0\/k=1\/k=2\/k=3):i_ (tg k)=k:=by rcases h with rfl|rfl|rfl|rfl<;>rfl
theorem qw (k n:Int)(h:vc k n=0):dc (ew k n)=0/\dk (ew k n)=k/\dr (ew k n)=n:=by
 have ht:=C3 k;have e:ew k n=4*n+tg k:=sI k n h;have b:ew k n%4=tg k:=aa;have c:ew k n/4=n:=aa;have d:i_ (tg k)=k:=Dd k (Dc k n h)
 grind [dc,dk,dr]
theorem De (t:Int)(b:0<=t)(c:t<4):tg (i_ t)=t:=by have:t=0\/t=1\/t=2\/t=3:=aa;rcases this with rfl|rfl|rfl|rfl<;>rfl
theorem wL (x:Int)(h:dc x=0):vc (dk x) (dr x)=0/\ew (dk x) (dr x)=x:=by
 have b:dk x=i_ (x%4):=by grind [dk]
 have c:dr x=x/4:=by grind [dr]
 have hv:vc (dk x) (dr x)=0:=by rw[b,c];exact h
 grind [sI,De]
theorem oc (k n:Int)(h:vc k n=0):de (ew k n)=(k==3)/\(k=3->cr (ew k n)=n):=by grind [qw,my,de]
theorem oe (n:Int)(b:0<=n)(c:n<1152921504606846976):vc 3 n=0:=by grind [vc,rc]
theorem qx (k f:Int)(h:hc k f=0):pk (hw k f)=k/\pf (hw k f)=f/\pc (hw k f)=0:=by
 have b:=jo k f h
 grind [sH,pk,pf,pc]
theorem Df (x:Int)(h:pc x=0):hc (pk x) (pf x)=0/\hw (pk x) (pf x)=x:=by grind [sH,pc,pk,pf]
end W
namespace Kp
abbrev Dg:=List (Int×Int)
def mu (L:Dg)(A:List Int):Nat:=(L.filter (fun e=>!A.contains e.1)).length
end Kp
namespace cq
open Kp
abbrev cf:=Int×Int
section
variable {σ iq:Type}
def pass (is:σ->Int->Bool)(kp:σ->Int->σ):List cf->σ->List cf->List cf->σ×List cf×List cf
 |[],s,C,D=>(s,C,D)
 |e::r,s,C,D=>if is s e.1 then pass is kp r (kp s e.2) (C++[e]) D else pass is kp r s C (D++[e])
def turns (is:σ->Int->Bool)(kp:σ->Int->σ):Nat->List cf->σ->List cf->σ×List cf×List cf
 |0,D,s,C=>(s,C,D)
 |n+1,D,s,C=>if L (pass is kp D s C []).2.1=L C then pass is kp D s C [] else turns is kp n (pass is kp D s C []).2.2 (pass is kp D s C []).1 (pass is kp D s C []).2.1
variable {is:σ->Int->Bool}{kp:σ->Int->σ}
theorem sJ:∀(l:List cf)(s:σ)(C D:List cf),L (pass is kp l s C D).2.1+L (pass is kp l s C D).2.2=L C+L D+L l/\L C<=L (pass is kp l s C D).2.1
 |[],s,C,D=>by simp[pass]
 |e::r,s,C,D=>by
  unfold pass;split
  ·have:=sJ r (kp s e.2) (C++[e]) D;simp at this⊢
   omega
  ·have:=sJ r s C (D++[e])
   simp at this⊢
   omega
theorem Dh {n:Nat}{D:List cf}{s:σ}{C:List cf}(h:L (pass is kp D s C []).2.1≠L C):turns is kp (n+1) D s C=turns is kp n (pass is kp D s C []).2.2 (pass is kp D s C []).1 (pass is kp D s C []).2.1:=by rw[turns,if_neg h]
theorem Di {n:Nat}{D:List cf}{s:σ}{C:List cf}(h:L (pass is kp D s C []).2.1=L C):turns is kp (n+1) D s C=pass is kp D s C []:=by rw[turns,if_pos h]
theorem sK (x:cf):∀(l:List cf)(s:σ)(C D:List cf),(pass is kp l s C D).2.1.count x+(pass is kp l s C D).2.2.count x=C.count x+D.count x+l.count x
 |[],s,C,D=>by simp[pass]
 |e::r,s,C,D=>by
  unfold pass;split
  ·rw[sK x r (kp s e.2) (C++[e]) D,MM,Dm,Dm,LM];omega
  ·rw[sK x r s C (D++[e]),MM,Dm,Dm,LM];omega
theorem wM (x:cf):∀(n:Nat)(D:List cf)(s:σ)(C:List cf),(turns is kp n D s C).2.1.count x+(turns is kp n D s C).2.2.count x=C.count x+D.count x
 |0,D,s,C=>by simp[turns]
 |n+1,D,s,C=>by
  have h:=sK (is:=is) (kp:=kp) x D s C [];unfold turns;split
  ·rw[h];simp
  ·rw[wM x n,h];simp
theorem wN:∀(n:Nat)(D:List cf)(s:σ)(C:List cf),L (turns is kp n D s C).2.1+L (turns is kp n D s C).2.2=L C+L D
 |0,D,s,C=>by simp[turns]
 |n+1,D,s,C=>by
  have h:=(sJ (is:=is) (kp:=kp) D s C []).1;unfold turns;split
  ·rw[h];simp
  ·rw[wN n,h];simp
end
end cq
namespace cq
theorem g9 {b:Type}(l:List b)(i:Nat)(h:i<L l)(z:b):l.take (i+1)=l.take i++[X l i z]:=by rw[List.take_add_one,gp h];simp[gp h]
end cq
open W
abbrev cX:=List Int×List (Int×List (Int×Int))
def eL (M:cX->Int->cX)(T:List Int)(s:cX)(x:Int):(Int×Int)×cX:=
 if dk x=3 then(if bR T (dr x)=Nc then(if bR s.1 (dr x)=Nc then((3,(s.1.idxOf (dr x):Int)),s) else((3,(L s.1:Int)),M s (dr x))) else((0,0),s))
 else((dk x,dr x),s)
def dG (M:cX->Int->cX)(T:List Int)(s:cX)(l:List Int):List (Int×Int)×cX:=l.foldl (fun r x=>(r.1++[(eL M T r.2 x).1],(eL M T r.2 x).2)) ([],s)
theorem Dj (M:cX->Int->cX)(T:List Int)(s:cX):dG M T s []=([],s):=rfl
theorem sL (M:cX->Int->cX)(T:List Int)(s:cX)(l:List Int)(x:Int):dG M T s (l++[x])=((dG M T s l).1++[(eL M T (dG M T s l).2 x).1],(eL M T (dG M T s l).2 x).2):=by simp[dG,List.foldl_append]
theorem og (M:cX->Int->cX)(T:List Int)(s:cX)(l:List Int):L (dG M T s l).1=L l:=by
 have key:∀(l:List Int)(r:List (Int×Int)×cX),L (l.foldl (fun r x=>(r.1++[(eL M T r.2 x).1],(eL M T r.2 x).2)) r).1=L r.1+L l:=by
  intro l
  induction l with
  |nil=>simp
  |cons x l b=>
   grind
 simp_all [dG]
def met (T:List Int)(kd:Int->Int)(sh:Int->List Int):Nat->cX->Int->cX
 |0,s,_=>s
 |n+1,s,a=>((dG (met T kd sh n) T (s.1++[a],s.2++[(kd a,[])]) (sh a)).2.1,(dG (met T kd sh n) T (s.1++[a],s.2++[(kd a,[])]) (sh a)).2.2.set (L s.1) (kd a,(dG (met T kd sh n) T (s.1++[a],s.2++[(kd a,[])]) (sh a)).1))
structure fB (T:List Int)(s:cX):Prop where
 nd:s.1.Nodup
 sub:∀a∈s.1,a∈T
 len:L s.2=L s.1
theorem fB.le {T:List Int}{s:cX}(h:fB T s):L s.1<=L T:=h.nd.length_le_of_subset h.sub
theorem fB.start (T:List Int):fB T ([],[]):=⟨List.nodup_nil,ac,rfl⟩
theorem fB.lt {T:List Int}{s:cX}(h:fB T s){a:Int}(ha:a∈T)(hn:a∉s.1):L s.1<L T:=by
 have b:fB T (s.1++[a],s.2++[(0,[])]):=⟨by grind [nd],fun x c=>by grind [sub],by simp[h.len]⟩
 have:=b.le
 grind
theorem fB.more {T:List Int}{s:cX}(h:fB T s){a:Int}(ha:a∈T)(hn:a∉s.1)(nd:Int×List _):fB T (s.1++[a],s.2++[nd]):=
 ⟨by grind [nd],fun x b=>by grind [sub],by simp[h.len]⟩
def oh (n:Nat)(v:Int×Int):Prop:=v.1=3->0<=v.2/\v.2<n
theorem oh.mono {n m:Nat}{v:Int×Int}(h:oh n v)(hm:n<=m):oh m v:=fun e=>⟨(h e).1,by have:=(h e).2;omega⟩
structure ir (T:List Int)(kd:Int->Int)(sh:Int->List Int)(s s':cX)(vs:List (Int×Int)):Prop where
 ok:fB T s'
 pre:s.1 <+: s'.1
 old:∀i,i<L s.1->s'.2[i]?=s.2[i]?
 eH:∀v∈vs,oh (L s'.1) v
 nw:∀i,L s.1<=i->i<L s'.1->∃nd:Int×List (Int×Int),s'.2[i]?=some nd/\nd.1=kd (X s'.1 i 0)/\L nd.2=L (sh (X s'.1 i 0))/\(∀v∈nd.2,oh (L s'.1) v)/\
  ((3,(i:Int))∈vs\/∃j,L s.1<=j/\j<i/\∃nj:Int×List (Int×Int),s'.2[j]?=some nj/\(3,(i:Int))∈nj.2)
section
variable {T:List Int}{kd:Int->Int}{sh:Int->List Int}
theorem ir.refl {s:cX}(h:fB T s){b:List _}(ht:∀v∈b,oh (L s.1) v):ir T kd sh s s b:=
 ⟨h,List.prefix_refl _,fun _ _=>rfl,ht,fun i c d=>aa⟩
theorem ir.le {s b:cX}{c:List (Int×Int)}(h:ir T kd sh s b c):L s.1<=L b.1:=h.pre.length_le
theorem sM {l b:List Int}(h:l <+: b){i:Nat}(hi:i<L l):X b i 0=X l i 0:=by
 obtain⟨t,rfl⟩:=h
 grind
theorem aK {a b:Prop}(h:b):a \/ b:=by intros;apply Or.inr<;>assumption
theorem ir.trans {s b c:cX}{d us:List _}(h:ir T kd sh s b d)(k:ir T kd sh b c us):ir T kd sh s c (d++us):=by
 have l1:=h.le;have l2:=k.le;refine⟨k.ok,h.pre.trans k.pre,fun i hi=>(by grind [old]),fun v hv=>?_,fun i f q=>?_⟩
 ·rcases List.mem_append.1 hv with hv|hv
  ·exact(h.eH v hv).mono l2
  grind [eH]
 ·by_cases hi:i<L b.1
  ·obtain⟨nd,g,l,m,n,e⟩:=h.nw i f hi;refine⟨nd,(k.old i hi).trans g,(sM k.pre hi▸l),(sM k.pre hi▸m),fun v hv=>(n v hv).mono l2,?_⟩
   rcases e with e|⟨j,o,j2,p,cI,cK⟩
   ·grind
   ·exact aK ⟨j,o,j2,p,(k.old j aa).trans cI,cK⟩
  grind [nw]
def lO (T:List Int)(kd:Int->Int)(sh:Int->List Int)(n:Nat)(M:cX->Int->cX):Prop:=
 ∀s a,fB T s->a∈T->a∉s.1->L T<=L s.1+n->ir T kd sh s (M s a) [(3,(L s.1:Int))]
theorem aJ {c:Prop}{h:Decidable c}(hc:c){α:Sort _}{t e:α}:(if c then t else e) = t:=by intros;apply if_pos<;>assumption
theorem aI {c:Prop}{h:Decidable c}(hnc:¬c){α:Sort _}{t e:α}:(if c then t else e) = e:=by intros;apply if_neg<;>assumption
theorem po {n:Nat}{M:cX->Int->cX}(hM:lO T kd sh n M){s:cX}(h:fB T s)(hn:L T<=L s.1+n)(x:Int):ir T kd sh s (eL M T s x).2 [(eL M T s x).1]:=by
 unfold eL;by_cases b:dk x=3
 ·rw[aJ b];by_cases c:bR T (dr x)=Nc
  ·rw[aJ c];by_cases hs:bR s.1 (dr x)=Nc
   ·rw[aJ hs];refine ir.refl h (fun v hv=>?_)
    simp at hv;subst hv;intro _
    grind
   ·rw[aI hs];exact hM s (dr x) h (by grind) (by grind) hn
  ·rw[aI c];refine ir.refl h (fun v hv=>?_)
   simp at hv;subst hv;intro e;omega
 ·rw[aI b];refine ir.refl h (fun v hv=>?_)
  simp at hv;subst hv;intro e;omega
theorem qy {n:Nat}{M:cX->Int->cX}(hM:lO T kd sh n M){s:cX}(h:fB T s)(hn:L T<=L s.1+n)(l:List Int):ir T kd sh s (dG M T s l).2 (dG M T s l).1:=by
 have key:∀k,k<=L l->ir T kd sh s (dG M T s (l.take k)).2 (dG M T s (l.take k)).1:=by
  intro k
  induction k with
  |zero=>intro _;exact ir.refl h (by simp[Dj])
  |succ k b=>
   intro hk;have b:=b aa;rw[List.take_succ_eq_append_getElem aa,sL];have hl:=b.le
   grind [ir.trans,po,ir.ok]
 have:=key (L l) aa
 grind
theorem ka:∀n,lO T kd sh n (met T kd sh n)
 |0=>fun s a h ha hn hl=>by have:=h.lt ha hn;omega
 |n+1=>fun s a h ha hn hl=>by
  have l:=h.more ha hn (kd a,[])
  have g:=qy (ka n) l (by grind) (sh a)
  have b:=og (met T kd sh n) T (s.1++[a],s.2++[(kd a,[])]) (sh a)
  show ir T kd sh s ((dG (met T kd sh n) T (s.1++[a],s.2++[(kd a,[])]) (sh a)).2.1,(dG (met T kd sh n) T (s.1++[a],s.2++[(kd a,[])]) (sh a)).2.2.set (L s.1) (kd a,(dG (met T kd sh n) T (s.1++[a],s.2++[(kd a,[])]) (sh a)).1)) _;generalize dG (met T kd sh n) T (s.1++[a],s.2++[(kd a,[])]) (sh a)=r at g b⊢;obtain⟨u,f⟩:=r;dsimp only at g b⊢;have m:=g.le;have c:=g.ok;have hp:=g.pre;have ho:=g.old;have ht:=g.eH;have hw:=g.nw;simp only [List.length_append,List.length_cons,List.length_nil] at m ho hw b hp⊢;have w:X f.1 (L s.1) 0=a:=by rw[sM hp ac];simp
  refine⟨⟨c.nd,c.sub,by simp[c.len]⟩,(by grind [List.prefix_append]),fun i hi=>?_,fun v hv=>?_,fun i x d=>?_⟩
  ·grind [fB.len]
  ·simp at hv;subst hv;exact fun _=>(by grind)
  ·have d:i<L f.1:=d;by_cases e:i=L s.1
   ·grind [fB.len]
   ·obtain⟨nd,B,o,p,q,k⟩:=hw i aa d;refine⟨nd,by grind,o,p,q,aK ?_⟩
    rcases k with k|⟨j,F,j2,t,cI,cK⟩
    ·grind
    ·exact⟨j,aa,j2,t,by grind,cK⟩
end
end Go.Proofs.YtpkjkjhanlbcoaaGreat
