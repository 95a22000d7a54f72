import Derived.Laws.BitsAllLaws
import Derived.Laws.BitsLemmas
open BitVec renaming ofInt->tQ
open Bool renaming true->OV
open Go.IntKind renaming i64->R
open List renaming contains->bJ,count_append->Mo,count_cons->CB,getD->U,length->L
namespace Go.Proofs.YtjckpdepffejnaaGreatDoor
theorem aa{P:Prop}(h:P:=by omega):P:=h
theorem ac{P:Prop}(h:P:=by simp):P:=h
theorem af{P:Prop}(h:P:=by rfl):P:=h
namespace W
open Go
theorem oW (w:Int):(tQ 64 w).toNat=(w%18446744073709551616).toNat:=af
theorem DL (w:Int):bits .and R w 3=w%4:=by
 show IntKind.i64.wrap (((tQ 64 w) &&& (tQ 64 3)).toNat:Int)=w%4
 grind [oW,nat_mask2,IntKind.wrap_i64]
theorem DM (w:Int):bits .and R w 15=w%16:=by
 show IntKind.i64.wrap (((tQ 64 w) &&& (tQ 64 15)).toNat:Int)=w%16
 grind [oW,nat_mask4,IntKind.wrap_i64]
theorem DN (x t:Int)(h:x%4=0)(b:-9223372036854775808<=x)(c:x<=9223372036854775804)(t0:0<=t)(d:t<4):bits .or R x t=x+t:=by show IntKind.i64.wrap (((tQ 64 x) ||| (tQ 64 t)).toNat:Int)=x+t;rw[BitVec.toNat_or,oW,oW,nat_join 2 _ _ aa aa,IntKind.wrap_i64];omega
theorem DO (x t:Int)(h:x%16=0)(b:-9223372036854775808<=x)(c:x<=9223372036854775792)(t0:0<=t)(d:t<16):bits .or R x t=x+t:=by show IntKind.i64.wrap (((tQ 64 x) ||| (tQ 64 t)).toNat:Int)=x+t;rw[BitVec.toNat_or,oW,oW,nat_join 4 _ _ aa aa,IntKind.wrap_i64];omega
def rc (n low:Int):Int:=if n<low then 1 else if 1152921504606846976<=n then 1 else 0
def vc (k n:Int):Int:=
 if k=0 then(if n=0 then 0 else 7) else if k=2 then(if n=0 then 0 else 7)
 else if k=1 then rc n (-1152921504606846976) else if k=3 then rc n 0 else 2
def tg (k:Int):Int:=if k=1 then 0 else if k=3 then 1 else if k=0 then 2 else 3
def jj (t:Int):Int:=if t=0 then 1 else if t=1 then 3 else if t=2 then 0 else 2
def ew (k n:Int):Int:=if vc k n=0 then 4*n+tg k else 0
theorem DP (k:Int):0<=tg k/\tg k<4:=by unfold tg;repeat' split<;>omega
theorem xM (k n:Int)(h:vc k n=0):-1152921504606846976<=n/\n<1152921504606846976:=by grind [vc,rc]
theorem DQ (k n:Int)(b:-1152921504606846976<=n)(c:n<1152921504606846976):bits .or R (n*4) (tg k)=4*n+tg k:=by grind [DN,tg]
def dc (w:Int):Int:=vc (jj (w%4)) (w/4)
def dk (w:Int):Int:=if dc w=0 then jj (w%4) else 0
def dp (w:Int):Int:=if dc w=0 then w/4 else 0
def hc (k f:Int):Int:=
 if k=1 then(if f=2 then 0 else 1) else if k=3 then(if f=2 then 0 else 1) else if k=4 then(if f=2 then 0 else 1)
 else if k=2 then(if f<0 then 1 else if 12<f then 1 else 0) else if k=5 then(if f=0 then 0 else 1) else 2
def hw (k f:Int):Int:=if hc k f=0 then 16*f+k else 0
def pc (h:Int):Int:=if hc (h%16) (h/16)=0 then 0 else 7
def pk (h:Int):Int:=if hc (h%16) (h/16)=0 then h%16 else 0
def pf (h:Int):Int:=if hc (h%16) (h/16)=0 then h/16 else 0
theorem jK (k f:Int)(h:hc k f=0):1<=k/\k<=5/\0<=f/\f<=12:=by grind [hc]
theorem DR (k f:Int)(h:hc k f=0):bits .or R (f*16) k=16*f+k:=by
 have hb:=jK k f h
 grind [DO]
theorem ud (k f:Int)(h:hc k f=0):hw k f=16*f+k:=by unfold hw;rw[if_pos h]
theorem DS (k f:Int)(h:hc k f≠0):hw k f=0:=by unfold hw;rw[if_neg h]
theorem ue (k n:Int)(h:vc k n=0):ew k n=4*n+tg k:=by unfold ew;rw[if_pos h]
theorem DT (k n:Int)(h:vc k n≠0):ew k n=0:=by unfold ew;rw[if_neg h]
theorem qc (k f:Int)(h:hc k f=0):(k=1/\f=2)\/(k=3/\f=2)\/(k=4/\f=2)\/(k=2/\0<=f/\f<=12)\/(k=5/\f=0):=by grind [hc]
theorem DU (k f:Int)(b:k≠1)(c:k≠2)(d:k≠3)(e:k≠4)(g:k≠5):hc k f=2:=by grind [hc]
theorem DV (k f:Int)(h:hc k f≠0):
 ((k=1/\f<2)\/(k=1/\2<f)\/(k=3/\f<2)\/(k=3/\2<f)\/(k=4/\f<2)\/(k=4/\2<f)\/(k=2/\f<0)\/(k=2/\12<f)\/(k=5/\f<0)\/(k=5/\0<f))\/(k≠1/\k≠2/\k≠3/\k≠4/\k≠5):=by grind [hc]
theorem DW (k f:Int)(h:(k=1/\f<2)\/(k=1/\2<f)\/(k=3/\f<2)\/(k=3/\2<f)\/(k=4/\f<2)\/(k=4/\2<f)\/(k=2/\f<0)\/(k=2/\12<f)\/(k=5/\f<0)\/(k=5/\0<f)):hc k f=1:=by
 rcases h with⟨rfl,h⟩|⟨rfl,h⟩|⟨rfl,h⟩|⟨rfl,h⟩|⟨rfl,h⟩|⟨rfl,h⟩|⟨rfl,h⟩|⟨rfl,h⟩|⟨rfl,h⟩|⟨rfl,h⟩
 all_goals grind [hc]
def fl (k:Int):Int:=if k=1 then 2 else if k=3 then 2 else if k=4 then 2 else 0
def fm (k:Int):Int:=if k=1 then 2 else if k=3 then 2 else if k=4 then 2 else if k=2 then 12 else 0
def fk (k:Int):Bool:=k==1||k==3||k==4||k==2||k==5
def di (x:Int):Bool:=dc x==0&&dk x==3
def cq (x:Int):Int:=if di x then dp x else 0
theorem oX (x:Int)(h:di x=OV):cq x=dp x:=by unfold cq;rw[if_pos h]
theorem xN (x:Int)(h:di x=false):cq x=0:=by unfold cq;rw[h];rfl
theorem DX (k n:Int)(h:vc k n=0):k=0\/k=1\/k=2\/k=3:=by grind [vc]
theorem DY (k:Int)(h:k=0\/k=1\/k=2\/k=3):jj (tg k)=k:=by rcases h with rfl|rfl|rfl|rfl<;>rfl
theorem rI (k n:Int)(h:vc k n=0):dc (ew k n)=0/\dk (ew k n)=k/\dp (ew k n)=n:=by
 have ht:=DP k;have e:ew k n=4*n+tg k:=ue k n h;have b:ew k n%4=tg k:=aa;have c:ew k n/4=n:=aa;have d:jj (tg k)=k:=DY k (DX k n h)
 grind [dc,dk,dp]
theorem DZ (t:Int)(b:0<=t)(c:t<4):tg (jj t)=t:=by have:t=0\/t=1\/t=2\/t=3:=aa;rcases this with rfl|rfl|rfl|rfl<;>rfl
theorem xO (x:Int)(h:dc x=0):vc (dk x) (dp x)=0/\ew (dk x) (dp x)=x:=by
 have b:dk x=jj (x%4):=by grind [dk]
 have c:dp x=x/4:=by grind [dp]
 have hv:vc (dk x) (dp x)=0:=by rw[b,c];exact h
 grind [ue,DZ]
theorem oY (k n:Int)(h:vc k n=0):di (ew k n)=(k==3)/\(k=3->cq (ew k n)=n):=by grind [rI,oX,di]
theorem oZ (n:Int)(b:0<=n)(c:n<1152921504606846976):vc 3 n=0:=by grind [vc,rc]
theorem rJ (k f:Int)(h:hc k f=0):pk (hw k f)=k/\pf (hw k f)=f/\pc (hw k f)=0:=by
 have b:=jK k f h
 grind [ud,pk,pf,pc]
theorem D0 (x:Int)(h:pc x=0):hc (pk x) (pf x)=0/\hw (pk x) (pf x)=x:=by grind [ud,pc,pk,pf]
end W
namespace Kp
abbrev D1:=List (Int×Int)
def mu (L:D1)(A:List Int):Nat:=(L.filter (λe=>!A.contains e.1)).length
end Kp
namespace ch
open Kp
abbrev b8:=Int×Int
section
variable {σ iM:Type}
def pass (is:σ->Int->Bool)(kp:σ->Int->σ):List b8->σ->List b8->List b8->σ×List b8×List b8
 |[],s,C,D=>(s,C,D)
 |e::r,s,C,D=>if is s e.1 then pass is kp r (kp s e.2) (C++[e]) D else pass is kp r s C (D++[e])
def turns (is:σ->Int->Bool)(kp:σ->Int->σ):Nat->List b8->σ->List b8->σ×List b8×List b8
 |0,D,s,C=>(s,C,D)
 |n+1,D,s,C=>if L (pass is kp D s C []).2.1=L C then pass is kp D s C [] else turns is kp n (pass is kp D s C []).2.2 (pass is kp D s C []).1 (pass is kp D s C []).2.1
variable {is:σ->Int->Bool}{kp:σ->Int->σ}
theorem uf:∀(l:List b8)(s:σ)(C D:List b8),L (pass is kp l s C D).2.1+L (pass is kp l s C D).2.2=L C+L D+L l/\L C<=L (pass is kp l s C D).2.1
 |[],s,C,D=>by simp[pass]
 |e::r,s,C,D=>by
  unfold pass;split
  ·have:=uf r (kp s e.2) (C++[e]) D
   grind
  ·have:=uf r s C (D++[e])
   grind
theorem D2 {n:Nat}{D:List b8}{s:σ}{C:List b8}(h:L (pass is kp D s C []).2.1≠L C):turns is kp (n+1) D s C=turns is kp n (pass is kp D s C []).2.2 (pass is kp D s C []).1 (pass is kp D s C []).2.1:=by rw[turns,if_neg h]
theorem D3 {n:Nat}{D:List b8}{s:σ}{C:List b8}(h:L (pass is kp D s C []).2.1=L C):turns is kp (n+1) D s C=pass is kp D s C []:=by rw[turns,if_pos h]
theorem ug (x:b8):∀(l:List b8)(s:σ)(C D:List b8),(pass is kp l s C D).2.1.count x+(pass is kp l s C D).2.2.count x=C.count x+D.count x+l.count x
 |[],s,C,D=>by rfl
 |e::r,s,C,D=>by
  unfold pass;split
  ·rw[ug x r (kp s e.2) (C++[e]) D,Mo,CB,CB,List.count_nil];omega
  ·rw[ug x r s C (D++[e]),Mo,CB,CB,List.count_nil];omega
theorem xP (x:b8):∀(n:Nat)(D:List b8)(s:σ)(C:List b8),(turns is kp n D s C).2.1.count x+(turns is kp n D s C).2.2.count x=C.count x+D.count x
 |0,D,s,C=>by rfl
 |n+1,D,s,C=>by
  have h:=ug (is:=is) (kp:=kp) x D s C [];unfold turns;split
  ·grind
  ·rw[xP x n,h];simp
theorem xQ:∀(n:Nat)(D:List b8)(s:σ)(C:List b8),L (turns is kp n D s C).2.1+L (turns is kp n D s C).2.2=L C+L D
 |0,D,s,C=>by rfl
 |n+1,D,s,C=>by
  have h:=(uf (is:=is) (kp:=kp) D s C []).1;unfold turns;split
  ·omega
  ·rw[xQ n,h];simp
end
end ch
namespace ch
theorem h7 {b:Type}(l:List b)(i:Nat)(h:i<L l)(z:b):l.take (i+1)=l.take i++[U l i z]:=by simp_all
end ch
open W
abbrev cT:=List Int×List (Int×List (Int×Int))
def eg (M:cT->Int->cT)(T:List Int)(s:cT)(x:Int):(Int×Int)×cT:=
 if dk x=3 then(if bJ T (dp x)=OV then(if bJ s.1 (dp x)=OV then((3,(s.1.idxOf (dp x):Int)),s) else((3,(L s.1:Int)),M s (dp x))) else((0,0),s))
 else((dk x,dp x),s)
def dE (M:cT->Int->cT)(T:List Int)(s:cT)(l:List Int):List (Int×Int)×cT:=l.foldl (λr x=>(r.1++[(eg M T r.2 x).1],(eg M T r.2 x).2)) ([],s)
theorem D4 (M:cT->Int->cT)(T:List Int)(s:cT):dE M T s []=([],s):=rfl
theorem uh (M:cT->Int->cT)(T:List Int)(s:cT)(l:List Int)(x:Int):dE M T s (l++[x])=((dE M T s l).1++[(eg M T (dE M T s l).2 x).1],(eg M T (dE M T s l).2 x).2):=by simp[dE,List.foldl_append]
theorem o4 (M:cT->Int->cT)(T:List Int)(s:cT)(l:List Int):L (dE M T s l).1=L l:=by
 have key:∀(l:List Int)(r:List (Int×Int)×cT),L (l.foldl (λr x=>(r.1++[(eg M T r.2 x).1],(eg M T r.2 x).2)) r).1=L r.1+L l:=by
  intro l
  induction l with
  |nil=>simp
  |cons x l b=>
   grind
 simp_all [dE]
def met (T:List Int)(kd:Int->Int)(sh:Int->List Int):Nat->cT->Int->cT
 |0,s,_=>s
 |n+1,s,a=>((dE (met T kd sh n) T (s.1++[a],s.2++[(kd a,[])]) (sh a)).2.1,(dE (met T kd sh n) T (s.1++[a],s.2++[(kd a,[])]) (sh a)).2.2.set (L s.1) (kd a,(dE (met T kd sh n) T (s.1++[a],s.2++[(kd a,[])]) (sh a)).1))
structure fD (T:List Int)(s:cT):Prop where
 nd:s.1.Nodup
 sub:∀a∈s.1,a∈T
 len:L s.2=L s.1
theorem fD.le {T:List Int}{s:cT}(h:fD T s):L s.1<=L T:=h.nd.length_le_of_subset h.sub
theorem fD.start (T:List Int):fD T ([],[]):=⟨List.nodup_nil,ac,rfl⟩
theorem fD.lt {T:List Int}{s:cT}(h:fD T s){a:Int}(ha:a∈T)(hn:a∉s.1):L s.1<L T:=by
 have b:fD T (s.1++[a],s.2++[(0,[])]):=⟨by grind [nd],λx c=>by grind [sub],by simp[h.len]⟩
 have:=b.le
 grind
theorem fD.more {T:List Int}{s:cT}(h:fD T s){a:Int}(ha:a∈T)(hn:a∉s.1)(nd:Int×List _):fD T (s.1++[a],s.2++[nd]):=
 ⟨by grind [nd],λx b=>by grind [sub],by simp[h.len]⟩
def nZ (n:Nat)(v:Int×Int):Prop:=v.1=3->0<=v.2/\v.2<n
theorem nZ.mono {n m:Nat}{v:Int×Int}(h:nZ n v)(hm:n<=m):nZ m v:=λe=>⟨(h e).1,by have:=(h e).2;omega⟩
structure iA (T:List Int)(kd:Int->Int)(sh:Int->List Int)(s s':cT)(vs:List (Int×Int)):Prop where
 ok:fD T s'
 pre:s.1 <+: s'.1
 old:∀i,i<L s.1->s'.2[i]?=s.2[i]?
 eB:∀v∈vs,nZ (L s'.1) v
 nw:∀i,L s.1<=i->i<L s'.1->∃nd:Int×List (Int×Int),s'.2[i]?=some nd/\nd.1=kd (U s'.1 i 0)/\L nd.2=L (sh (U s'.1 i 0))/\(∀v∈nd.2,nZ (L s'.1) v)/\
  ((3,(i:Int))∈vs\/∃j,L s.1<=j/\j<i/\∃nj:Int×List (Int×Int),s'.2[j]?=some nj/\(3,(i:Int))∈nj.2)
section
variable {T:List Int}{kd:Int->Int}{sh:Int->List Int}
theorem iA.refl {s:cT}(h:fD T s){b:List _}(ht:∀v∈b,nZ (L s.1) v):iA T kd sh s s b:=
 ⟨h,List.prefix_refl _,λ_ _=>rfl,ht,λi c d=>aa⟩
theorem iA.le {s b:cT}{c:List (Int×Int)}(h:iA T kd sh s b c):L s.1<=L b.1:=h.pre.length_le
theorem ui {l b:List Int}(h:l <+: b){i:Nat}(hi:i<L l):U b i 0=U l i 0:=by
 obtain⟨t,rfl⟩:=h
 grind
theorem aI {a b:Prop}(h:b):a \/ b:=by intros;apply Or.inr<;>assumption
theorem iA.trans {s b c:cT}{d us:List _}(h:iA T kd sh s b d)(k:iA T kd sh b c us):iA T kd sh s c (d++us):=by
 have l1:=h.le;have l2:=k.le;refine⟨k.ok,h.pre.trans k.pre,λi hi=>(by grind [old]),λv hv=>?_,λi f q=>?_⟩
 ·rcases List.mem_append.1 hv with hv|hv
  ·exact(h.eB v hv).mono l2
  grind [eB]
 ·by_cases hi:i<L b.1
  ·obtain⟨nd,g,l,m,n,e⟩:=h.nw i f hi;refine⟨nd,(k.old i hi).trans g,(ui k.pre hi▸l),(ui k.pre hi▸m),λv hv=>(n v hv).mono l2,?_⟩
   rcases e with e|⟨j,o,j2,p,cI,cM⟩
   ·grind
   ·exact aI ⟨j,o,j2,p,(k.old j aa).trans cI,cM⟩
  grind [nw]
def mI (T:List Int)(kd:Int->Int)(sh:Int->List Int)(n:Nat)(M:cT->Int->cT):Prop:=
 ∀s a,fD T s->a∈T->a∉s.1->L T<=L s.1+n->iA T kd sh s (M s a) [(3,(L s.1:Int))]
theorem aM {c:Prop}{h:Decidable c}(hc:c){α:Sort _}{t e:α}:(if c then t else e) = t:=by intros;apply if_pos<;>assumption
theorem aJ {c:Prop}{h:Decidable c}(hnc:¬c){α:Sort _}{t e:α}:(if c then t else e) = e:=by intros;apply if_neg<;>assumption
theorem qd {n:Nat}{M:cT->Int->cT}(hM:mI T kd sh n M){s:cT}(h:fD T s)(hn:L T<=L s.1+n)(x:Int):iA T kd sh s (eg M T s x).2 [(eg M T s x).1]:=by
 unfold eg;by_cases b:dk x=3
 ·rw[aM b];by_cases c:bJ T (dp x)=OV
  ·rw[aM c];by_cases hs:bJ s.1 (dp x)=OV
   ·rw[aM hs];refine iA.refl h (λv hv=>?_)
    simp at hv;subst hv;intro _
    grind
   ·rw[aJ hs];exact hM s (dp x) h (by grind) (by grind) hn
  ·rw[aJ c];refine iA.refl h (λv hv=>?_)
   simp at hv;subst hv;intro e;omega
 ·rw[aJ b];refine iA.refl h (λv hv=>?_)
  simp at hv;subst hv;intro e;omega
theorem qe {n:Nat}{M:cT->Int->cT}(hM:mI T kd sh n M){s:cT}(h:fD T s)(hn:L T<=L s.1+n)(l:List Int):iA T kd sh s (dE M T s l).2 (dE M T s l).1:=by
 have key:∀k,k<=L l->iA T kd sh s (dE M T s (l.take k)).2 (dE M T s (l.take k)).1:=by
  intro k
  induction k with
  |zero=>intro _;exact iA.refl h (by simp[D4])
  |succ k b=>
   intro hk;have b:=b aa;rw[List.take_succ_eq_append_getElem aa,uh];have hl:=b.le
   grind [iA.trans,qd,iA.ok]
 have:=key (L l) aa
 grind
theorem kn:∀n,mI T kd sh n (met T kd sh n)
 |0=>λs a h ha hn hl=>by have:=h.lt ha hn;omega
 |n+1=>λs a h ha hn hl=>by
  have k:=h.more ha hn (kd a,[])
  have g:=qe (kn n) k (by grind) (sh a)
  have hlen:=o4 (met T kd sh n) T (s.1++[a],s.2++[(kd a,[])]) (sh a)
  show iA T kd sh s ((dE (met T kd sh n) T (s.1++[a],s.2++[(kd a,[])]) (sh a)).2.1,(dE (met T kd sh n) T (s.1++[a],s.2++[(kd a,[])]) (sh a)).2.2.set (L s.1) (kd a,(dE (met T kd sh n) T (s.1++[a],s.2++[(kd a,[])]) (sh a)).1)) _;generalize dE (met T kd sh n) T (s.1++[a],s.2++[(kd a,[])]) (sh a)=r at g hlen⊢;obtain⟨t,d⟩:=r;dsimp only at g hlen⊢;have l:=g.le;have b:=g.ok;have hp:=g.pre;have ho:=g.old;have ht:=g.eB;have hw:=g.nw;simp only [List.length_append,List.length_cons,List.length_nil] at l ho hw hlen hp⊢;have u:U d.1 (L s.1) 0=a:=by rw[ui hp ac];simp
  refine⟨⟨b.nd,b.sub,by simp[b.len]⟩,(by grind [List.prefix_append]),λi hi=>?_,λv hv=>?_,λi w c=>?_⟩
  ·grind [fD.len]
  ·simp at hv;subst hv;exact λ_=>(by grind)
  ·have c:i<L d.1:=c;by_cases e:i=L s.1
   ·grind [fD.len]
   ·obtain⟨nd,x,m,o,p,f⟩:=hw i aa c;refine⟨nd,by grind,m,o,p,aI ?_⟩
    rcases f with f|⟨j,B,j2,q,cI,cM⟩
    ·grind
    ·exact⟨j,aa,j2,q,by grind,cM⟩
end
end Go.Proofs.YtjckpdepffejnaaGreatDoor
