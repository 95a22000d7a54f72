import Derived.Test.YtpkjkjhanlbcoaaGreatJ03
import Derived.Maps.OwnSet
import Derived.Tactics
import Derived.Tactics2
import Derived.Recover
import Derived.Laws.EntriesVeiled
open Array renaming getElem?_modify->bL,size->I
open Bool renaming and_false->L6,and_true->CW,false->Nb,true->Nc
open Go renaming Addr->bG,Calls->J,TypeId->bU,Value->bD,splice->nS
open Go.Ending renaming returned->E
open Go.IntKind renaming u64->sQ
open Go.Obj renaming cells->M5
open Go.Proofs.Tryz renaming prog->Ng
open Go.RowKit renaming Below->Nd
open Go.Value renaming bool->bK,int->U,ownBlock->Nh,pointer->bJ,slice->M0,tuple->a8
open Go.World renaming alloc->bj,cell?->V,frozen?->bO,heap->M2,ownsRow->aC,setCell->ay
open Int renaming le_refl->tF,toNat->Na
open List renaming contains->bR,getD->X,getElem?_append_left->p3,getElem?_append_right->lG,getElem?_drop->vb,getElem?_take_of_lt->mq,length->MZ,mem_cons->bT,mem_filter->bM
open Ne renaming symm->Eo
open Option renaming map_some->bS,none->M9,some->Z
namespace Go.Proofs.YtpkjkjhanlbcoaaGreat
set_option maxRecDepth 100000
set_option maxHeartbeats 2000000
open Tryz
open Go.RowKit W
theorem tN {P:Prop}(h:P:=by
 go_wp2_with fail;refine P.mono ?_;clear P;rintro e w1 ⟨rfl,hb1⟩
 have y1:=(hb1.cell (p:=av pw 0) iX).trans c0;go_wp2_with fail;refine(lr.o w1 hb1).mono ?_;rintro e w2 ⟨rfl,W2,F2⟩
 clear y1;go_wp2_with fail;refine(oA.o w2).mono ?_;rintro e w3 ⟨rfl,hb3⟩
 have W3:=W2.o.below hb3;have nA:=F2.o.trans (Fr.of (X:=fun k=>k=p\/k=q\/k=pc\/k=cU) hb3) (fun _ c=>aM c)
 obtain⟨y0,y1,_,_,l3⟩:=W3.cells;clear y0 y1;go_wp2_with fail;go_ret;exact⟨rfl,W3,nA⟩):P:=h
theorem yc {P:Prop}(h:P:=by
 by_cases c:i<t
 ·rw[p3 (by simp;omega),aI aa,mq c]
 ·have e1:MZ (ws.take t)=t:=by simp;omega
  rw[lG aa,e1];by_cases c2:i<t+n
  ·rw[aJ aa,p3 aa,mq aa,vb,show f+(i-t)=f+i-t by omega]
  ·rw[aI aa,lG aa,hl,vb,show t+n+(i-t-n)=i by omega]):P:=h
theorem yd {P:Prop}(h:P:=by
 go_enter func92,ntmps92;go_wp2_with fail;refine P.mono ?_;rintro e w1 ⟨rfl,hb1⟩
 have y1:=(hb1.cell (p:=av pw 0) iX).trans hc;go_wp2_with fail;refine(K.o w1 hb1).mono ?_;rintro e w2 ⟨rfl,hb2⟩
 have eJ:=hb1.trans (hb2.mono hb1.size)
 go_wp2_with fail;refine(lr.o w2 eJ).mono ?_;rintro e w3 ⟨rfl,hb3⟩
 have kj:=eJ.trans (hb3.mono eJ.size)
 go_wp2_with fail
 go_ret3
 exact⟨rfl,kj⟩):P:=h
theorem ye {P:Prop}(h:P:=by
 go_enter func92,ntmps92;go_wp2_with fail;refine P.mono ?_;rintro e w1 ⟨rfl,hb1⟩
 have y1:=(hb1.cell (p:=av pw 0) iX).trans hc;go_wp2_with fail;refine(K.o w1 hb1).mono ?_;rintro e w2 ⟨rfl,hb2⟩
 have eJ:=hb1.trans (hb2.mono hb1.size)
 go_wp2_with fail
 go_ret3
 exact⟨rfl,eJ⟩):P:=h
theorem tO {P:Prop}(h:P:=by rw[eA (ih hi.1 hi.2),eA (ih hi.1 hi.2),kl _ _ _ _ _ hlt,aI aa,aI aa]):P:=h
theorem tP {P:Prop}(h:P:=by simp only [World.setCell,bL,if_true,h,bS];simp):P:=h
theorem yf {P:Prop}(h:P:=by rw[hw1,aS _ _ _ ac];simpa using aP (bj W4 (M5 #[bJ (Z ⟨o.p,0,M9⟩)] 52)) (M5 #[bK Nb] 4)):P:=h
theorem yh {P:Prop}(h:P:=by rw[eA (jf hi.1 aa),eA (jf hi.1 hi.2),kl _ _ _ _ _ hlt,aI aa,aI aa]):P:=h
theorem yi {P:Prop}(h:P:=by simpa using aP (bj w (M5 #[bJ (Z ⟨o.p,0,M9⟩)] 52)) (M5 #[fa.v,fk.v,fn.v] 145)):P:=h
theorem dv (h:Int):0<=pf h/\pf h<=12:=by
 unfold pf;split
 ·have:=jo _ _ (by assumption)
  omega
 ·omega
theorem nB {N y g:Nat}{ws:List Int}{hi:Int}:∀(k:Nat)(a x:Int),x∈eU N y g ws hi k a->a<=x/\x<hi
 |0,_,_,h=>by simp[eU] at h
 |k+1,a,x,h=>by
  unfold eU at h;split at h
  ·split at h
   ·rcases bT.1 h with h|h
    ·rw[h];exact⟨tF _,by assumption⟩
    ·have b:=nB k _ x h;have c:=dv (ld N y g ws a)
     omega
   ·simp at h
  ·simp at h
theorem yj {N O y g:Nat}{ws:List Int}{x:Int}(h:tB N y g ws x=Nc)(hN:N<=256)(hy:y<=N)(hO:O<=1024)(hg:g<=O):0<=cr x/\cr x<=1280:=by
 unfold tB at h;simp only [Bool.and_eq_true,Bool.or_eq_true,List.contains_iff_mem] at h;rcases h.2 with h|h
 ·have:=nB _ _ _ h;omega
 ·have:=nB _ _ _ h;omega
def eO (N y g:Nat)(ws:List Int)(x i:Int):Int:=
 if tB N y g ws x=Nc then(if pk (ld N y g ws (cr x))=5 then 2 else if i<0\/iZ N y g (cr x) (pf (ld N y g ws (cr x)))<=i then 1 else 0) else 2
section
variable {pw p q N O y g:Nat}{ws:List Int}
theorem yk (x i:Int)(w:az)(hc:V w (av pw 0)=Z (aq p))(h:At w p q N O y g ws):
 J Ng 92 #[aq pw,ak x,ak i] w fun e w'=>e=E (a8 #[ak (if eO N y g ws x i=0 then cr x else 0),ak (if eO N y g ws x i=0 then cr x+1+i else 0),ak (eO N y g ws x i)])/\Nd (I (M2 w)) w w':=by
 have c:aA (At w p q N O y g ws):=h;have iX:=aT w _ hc;have P:=ya x w hc h;have k1:=h.hN';have l:=h.hy;have m:=h.hO;have n:=h.hg;cases ht:tB N y g ws x
 ·rw[ht] at P;have b:eO N y g ws x i=2:=by unfold eO;rw[ht,aI ac]
  rw[b,aI ae,aI ae];generalize kq N y g ws x=v at P;go_enter func92,ntmps92;go_wp2_with fail;refine P.mono ?_;rintro e w1 ⟨rfl,hb1⟩
  go_wp2_with fail
  go_ret3
  exact⟨rfl,hb1⟩
 ·obtain⟨d,b1⟩:=yj (O:=O) ht k1 l m n;have j:=dv (ld N y g ws (cr x))
  rw[ht] at P;have ev:kq N y g ws x=cr x:=by simp[kq,ht]
  rw[ev] at P;have b:eO N y g ws x i=if pk (ld N y g ws (cr x))=5 then 2 else if i<0\/iZ N y g (cr x) (pf (ld N y g ws (cr x)))<=i then 1 else 0:=by unfold eO;rw[aJ ht]
  rw[b];generalize cr x=v at P j d b1;have K:aA (∀w1,Nd (I (M2 w)) w w1->_):=fun w1 hb=>gO v w1 (c.o.below hb b8)
  have lr:aA (∀w1,Nd (I (M2 w)) w w1->J Ng 171 #[aq pw,ak v,ak (pf (ld N y g ws v))] w1 fun e w'=>e=E (ak (iZ N y g v (pf (ld N y g ws v))))/\Nd (I (M2 w1)) w1 w'):=fun w1 hb=>yb v _ w1 ((hb.cell (p:=av pw 0) iX).trans hc) (c.o.below hb b8) d aa;have o:iZ N y g v (pf (ld N y g ws v))<=12:=by unfold iZ;exact Int.le_trans (Int.min_le_left _ _) j.2
  generalize iZ N y g v (pf (ld N y g ws v))=s at lr o⊢;generalize pk (ld N y g ws v)=kd at K⊢;generalize pf (ld N y g ws v)=f at K lr;generalize pc (ld N y g ws v)=cc at K;by_cases k:kd=5
  ·subst k;rw[aJ rfl,aI ae,aI ae];exact ye
  ·rw[aI k];by_cases hi:i<0
   ·rw[aJ (aM hi),aI ae,aI ae];exact ye
   ·by_cases hs:s<=i
    ·rw[aJ (aK hs),aI ae,aI ae];exact yd
    ·have t:¬(i<0\/s<=i):=aa;rw[aI t,aJ rfl,aJ rfl];exact yd
theorem Ew (x i:Int)(w:az)(hc:V w (av pw 0)=Z (aq p))(h:At w p q N O y g ws):
 J Ng 45 #[aq pw,ak x,ak i] w fun e w'=>e=E (a8 #[ak (if eO N y g ws x i=0 then ld N y g ws (cr x+1+i) else 0),ak (eO N y g ws x i)])/\Nd (I (M2 w)) w w':=by
 have c:=hide h;have d:=aT w _ hc;have P:=yk x i w hc h;generalize eO N y g ws x i=cd at P⊢;by_cases h0:cd=0
 ·subst h0;rw[aJ rfl,aJ rfl] at P;rw[aJ rfl];generalize cr x+1+i=fl at P⊢;generalize cr x=v at P;go_enter func45,ntmps45;go_wp2_with fail;refine P.mono ?_;rintro e w1 ⟨rfl,b⟩
  have y1:=(b.cell (p:=av pw 0) d).trans hc;go_wp2_with fail;refine(ki fl w1 (c.o.below b b8)).mono ?_;rintro e k ⟨rfl,f⟩
  have j:=b.trans (f.mono b.size)
  go_wp2;go_ret2;exact⟨rfl,j⟩
 ·rw[aI h0,aI h0] at P;rw[aI h0];go_enter func45,ntmps45;go_wp2_with fail;refine P.mono ?_;rintro e w1 ⟨rfl,b⟩
  go_wp2;go_ret2;exact⟨rfl,b⟩
end
def el (L:Int->Int)(hi:Int):Int->List Int->Prop
 |a,[]=>a=hi
 |a,x::l=>x=a/\pc (L a)=0/\a+(1+pf (L a))<=hi/\el L hi (a+(1+pf (L a))) l
section
variable {L L':Int->Int}{hi:Int}
theorem el.done:el L hi hi []:=rfl
theorem el.step {a:Int}{l:List Int}(h0:pc (L a)=0)(b:a+(1+pf (L a))<=hi)(ht:el L hi (a+(1+pf (L a))) l):el L hi a (a::l):=⟨rfl,h0,b,ht⟩
theorem el.mem {a:Int}{l:List Int}(h:el L hi a l):∀x∈l,a<=x/\x+(1+pf (L x))<=hi/\pc (L x)=0:=by
 induction l generalizing a with
 |nil=>intro x b;simp at b
 |cons z l c=>
  obtain⟨rfl,h0,d,ht⟩:=h;intro x b;rcases bT.1 b with rfl|b
  ·exact⟨tF _,d,h0⟩
  ·have:=dv (L z)
   have e:=c ht x b;exact⟨aa,e.2⟩
theorem el.apart {a:Int}{l:List Int}(h:el L hi a l):∀x∈l,∀z∈l,x<z->x+(1+pf (L x))<=z:=by
 induction l generalizing a with
 |nil=>intro x b;simp at b
 |cons y l e=>
  obtain⟨rfl,h0,i,ht⟩:=h;intro x b z hz f;rcases bT.1 b with ex|d
  ·rcases bT.1 hz with g|c
   ·omega
   ·rw[ex];exact(ht.mem z c).1
  ·rcases bT.1 hz with g|c
   ·have j:=(ht.mem x d).1;have k:=dv (L y)
    omega
   ·exact e ht x d z c f
theorem el.heads {a:Int}{l:List Int}(h:el L hi a l)(he:∀x∈l,L' x=L x):el L' hi a l:=by
 induction l generalizing a with
 |nil=>exact h
 |cons z l b=>
  obtain⟨rfl,h0,c,ht⟩:=h;have e:=he z ac;refine .step (by rw[e];exact h0) (by rw[e];exact c) ?_;rw[e];exact b ht (fun x d=>he x (by simp[d]))
theorem el.snoc {a:Int}{l:List Int}(h:el L hi a l)(he:∀x∈l,L' x=L x){b:Int}(h0:pc (L' hi)=0)(c:b=hi+(1+pf (L' hi))):el L' b a (l++[hi]):=by
 have hp:=dv (L' hi)
 induction l generalizing a with
 |nil=>
  have e:=h;subst e;refine .step h0 aa ?_;rw[<-c];exact .done
 |cons z l d=>
  obtain⟨rfl,f,i,ht⟩:=h;have e:=he z ac;refine .step (by rw[e];exact f) (by rw[e];omega) ?_;rw[e];exact d ht (fun x g=>he x (by simp[g]))
theorem el.field {a:Int}{l:List Int}(h:el L hi a l){v i:Int}(hv:v∈l)(b:0<=i)(c:i<pf (L v)):v+1+i∉l:=by intro hm;have:=h.apart v hv _ hm aa;omega
theorem el.eU {N y g:Nat}{ws:List Int}{hi a:Int}{l:List Int}(h:el (ld N y g ws) hi a l):∀k:Nat,hi-a<=k->eU N y g ws hi k a=l:=by
 induction l generalizing a with
 |nil=>
  have e:a=hi:=h;subst e;intro k _;exact xL k (tF _)
 |cons z l b=>
  obtain⟨rfl,h0,c,ht⟩:=h;intro k hk;have hp:=dv (ld N y g ws z)
  match k,hk with
  |0,hk=>omega
  |k+1,hk=>
   unfold Proofs.YtpkjkjhanlbcoaaGreat.eU;rw[aJ aa,aJ h0,b ht k aa]
end
structure em (N y g:Nat)(ws:List Int)(Y G:List Int):Prop where
 ty:el (ld N y g ws) y 0 Y
 eH:el (ld N y g ws) ((N:Int)+g) N G
theorem em.lists {N O y g:Nat}{ws:List Int}{Y G:List Int}(h:em N y g ws Y G)(hN:N<=256)(hy:y<=N)(hO:O<=1024)(hg:g<=O):eN N y g ws=Y/\dM N y g ws=G:=
 ⟨h.ty.eU 2000 aa,h.eH.eU 2000 aa⟩
theorem em.start {N:Nat}{ws:List Int}:em N 0 0 ws [] []:=⟨.done,by simpa using el.done (L:=ld N 0 0 ws) (hi:=(N:Int))⟩
theorem em.stands {N y g:Nat}{ws:List Int}{Y G:List Int}(h:em N y g ws Y G)(hy:y<=N){v:Int}(hv:v∈Y\/v∈G):iZ N y g v (pf (ld N y g ws v))=pf (ld N y g ws v):=by
 have hp:=dv (ld N y g ws v)
 refine Int.min_eq_left ?_;rcases hv with hv|hv
 ·have b:=h.ty.mem v hv;have e:hB N g v=Nb:=by rw[Bool.eq_false_iff];intro c;have:=jU c;omega
  rw[e,aI ac];omega
 ·have b:=h.eH.mem v hv;have e:hB N g v=Nc:=by exact bv ⟨b.1,aa⟩
  rw[e,aJ rfl];omega
def lY (M:List Int)(k:Int):List Int:=if bR M k then M else M++[k]
theorem tT (M:List Int)(k j:Int):bR (lY M k) j=(bR M j||j==k):=by
 unfold lY;by_cases c:bR M k=Nc
 ·rw[aJ c];by_cases e:j=k
  ·subst e;rw[c];rfl
  ·simp[e]
 ·rw[aI c];by_cases e:j=k<;>simp[e]
theorem Ex (M:List Int)(k:Int):MZ (lY M k)<=MZ M+1:=by unfold lY;split<;>simp
theorem tU:Maps.Keyed Ng 173:=Maps.int_keyed underlying173
theorem Ey (w:az):(zeroValue 212).run Ng w=.ok (.agg #[]) w:=ah
structure Cd (w:az)(p q:Nat)(B c:Int)(M:List Int):Prop where
 hp:w.heap[p]?=Z (M5 #[ak B,.int sQ c,.map (Z q)] 176 (0,0))
 hq:∃D:DataW Unit,w.ownsMap Ng 173 unitElem q (MZ M) D/\(∀k:Int,Maps.has D (.int sQ k)=M.contains k)/\Maps.size D=MZ M
theorem tW {H:Type}{P:Program}{k:bU}{R:bD->Option _}{w w':az}{b n:Nat}{D:DataW H}(h:w.ownsMap P k R b n D)(e:w'.heap[b]?=w.heap[b]?):w'.ownsMap P k R b n D:=by obtain⟨c,d,hb,r⟩:=h;exact⟨c,d,e.trans hb,r⟩
theorem tX {H:Type}{P:Program}{k:bU}{R:bD->Option _}{w:az}{b n m:Nat}{D:DataW H}(h:w.ownsMap P k R b n D)(e:Maps.size D=m):w.ownsMap P k R b m D:=by obtain⟨c,d,hb,F,hs,rfl⟩:=h;exact⟨c,d,hb,F,by rw[<-e];simp[Maps.size,length_sorted],rfl⟩
theorem Cd.fj {w:az}{p q:Nat}{B c:Int}{M:List Int}(h:Cd w p q B c M):p<I (M2 w):=lt_of_some h.hp
theorem Cd.fp {w:az}{p q:Nat}{B c:Int}{M:List Int}(h:Cd w p q B c M):q<I (M2 w):=by obtain⟨D,b,_⟩:=h.hq;exact b.lt
theorem Cd.ne {w:az}{p q:Nat}{B c:Int}{M:List Int}(h:Cd w p q B c M):p≠q:=by intro e;obtain⟨D,⟨d,f,hb,_⟩,_⟩:=h.hq;have b:=h.hp;rw[e,hb] at b;simp at b
theorem Cd.same {w w':az}{p q:Nat}{B c:Int}{M:List Int}(h:Cd w p q B c M)(ep:w'.heap[p]?=w.heap[p]?)(eq:w'.heap[q]?=w.heap[q]?):Cd w' p q B c M:=by obtain⟨D,b,d⟩:=h.hq;exact⟨ep.trans h.hp,D,tW b eq,d⟩
theorem Cd.below {w w':az}{p q X:Nat}{B c:Int}{M:List Int}(h:Cd w p q B c M)(hb:Nd X w w')(b:I (M2 w)<=X):Cd w' p q B c M:=
 h.same (hb.block p (aO h.fj b)) (hb.block q (aO h.fp b))
theorem Cd.cells {w:az}{p q:Nat}{B c:Int}{M:List Int}(h:Cd w p q B c M):
 V w (av p 0)=Z (ak B)/\V w (av p 1)=Z (U sQ c)/\V w (av p 2)=Z (.map (Z q)):=by
 have hp:=h.hp;refine⟨?_,?_,?_⟩<;>simp[World.cell?,hp]
theorem Cd.put {w w':az}{p q:Nat}{B c k:Int}{M:List Int}{D:DataW Unit}{n:Nat}(h:w.heap[p]?=Z (M5 #[.int .i64 B,.int sQ c,.map (Z q)] 176 (0,0)))
 (h0:w.ownsMap Ng 173 unitElem q (MZ M) D)(d:∀k:Int,Maps.has D (.int sQ k)=M.contains k)(f:Maps.size D=MZ M)(g:p≠q)
 (l:w'.ownsMap Ng 173 unitElem q n (D.put (.int sQ k) (.agg [])))(b:w.grownBy w' (Z q)):Cd w' p q B c (lY M k)/\dj p q w w':=by
 have hs:Maps.size (D.put (.int sQ k) (.agg []))=MZ (lY M k):=by rw[Maps.size_put (h0.tidy tU),d,f];unfold lY;split<;>simp
 refine⟨⟨(b.block p (lt_of_some h) (fun e=>g (by cases e;rfl))).trans h,_,tX l hs,fun j=>?_,hs⟩,⟨b.os,b.tape,b.output,b.size,fun i hi _ e=>b.block i hi (fun m=>e (by cases m;rfl))⟩⟩
 rw[tT];by_cases e:j=k
 ·subst e;rw[Maps.has_put_same (k:=.int sQ j) h0.isMap trivial];simp
 ·rw[Maps.has_put_other (by simpa using e),d];simp[e]
theorem Cd.none {w:az}{p q:Nat}{B c:Int}(h:w.heap[p]?=Z (M5 #[.int .i64 B,.int sQ c,.map (Z q)] 176 (0,0)))(b:w.ownsMap Ng 173 unitElem q 0 (.map []:DataW Unit)):Cd w p q B c []:=
 ⟨h,_,b,fun _=>rfl,rfl⟩
def dO (x:Int):Int:=if x<0 then 0 else(x+8-1)/8
def cN (B a:Int):Int:=if a<B then 0 else(a-B)/8
def gE (B c a:Int):Bool:=decide (B<=a)&&decide ((a-B)/8<c)
theorem Ez (x:Int)(w:az)(h:x<=100000):J Ng 166 #[ak x] w fun e w'=>e=E (U sQ (dO x))/\w'=w:=by
 by_cases c:x<0
 ·have e:dO x=0:=by unfold dO;rw[aJ c]
  rw[e];go_enter func166,ntmps166;go_wp2;go_ret;exact⟨rfl,rfl⟩
 ·have e:dO x=(x+8-1)/8:=by unfold dO;rw[aI c]
  go_wp2;go_ret;exact⟨rfl,rfl⟩
theorem yl {p q:Nat}{B c:Int}{M:List Int}(a:Int)(w:az)(h:Cd w p q B c M)(hB:0<=B)(d:B<=100000)(ha:a<=9223372036854775807):
 J Ng 175 #[aq p,ak a] w fun e w'=>e=E (a8 #[U sQ (cN B a),bK (gE B c a)])/\Nd (I (M2 w)) w w':=by
 obtain⟨c0,c1,c2⟩:=h.cells;by_cases hc:a<B
 ·have e:gE B c a=Nb:=by unfold gE;rw[bC aa];rfl
  have b:cN B a=0:=by unfold cN;rw[aJ hc]
  rw[e,b];go_enter func175,ntmps175;go_wp2;go_ret2;exact⟨rfl,aH _ _⟩
 ·have e:gE B c a=decide ((a-B)/8<c):=by unfold gE;rw[bv aa];rfl
  have b:cN B a=(a-B)/8:=by unfold cN;rw[aI hc]
  rw[e,b];go_enter func175,ntmps175;exact ta
def lZ (B c a:Int)(M:List Int):List Int:=if gE B c a then lY M (cN B a) else M
theorem ym {B c a:Int}{M:List Int}(h:gE B c a=Nc):lZ B c a M=lY M (cN B a):=by unfold lZ;rw[aJ h]
theorem EA {B c a:Int}{M:List Int}(h:gE B c a=Nb):lZ B c a M=M:=by unfold lZ;rw[aI (by rw[h];simp)]
theorem yp {B a:Int}(hB:0<=B)(ha:a<=9223372036854775807):(Lit.int sQ (cN B a)).wf=Nc:=by
 unfold cN;split
 ·decide
 ·have b:0<=(a-B)/8:=aa;exact WalkArith.wf_u64 ⟨b,aa⟩
theorem EB {p q:Nat}{B c:Int}{M:List Int}(a:Int)(w:az)(h:Cd w p q B c M)(hB:0<=B)(f:B<=100000)(ha:a<=9223372036854775807)(hM:MZ M<=100000):
 J Ng 97 #[aq p,ak a] w fun e w'=>e=E (.bool (gE B c a))/\Cd w' p q B c (lZ B c a M)/\dj p q w w':=by
 go_enter func97,ntmps97;go_wp2_with fail;refine(yl a _ h hB f ha).mono ?_;rintro e w1 ⟨rfl,d⟩
 have b:=h.below d b8
 obtain⟨c0,c1,c2⟩:=b.cells;obtain⟨D,o1,g,i⟩:=b.hq;cases hc:gE B c a
 ·go_wp2;go_ret;exact⟨by rw[hc];rfl,by rw[EA hc];exact b,dj.of d⟩
 ·go_wp2_with (first
   |(at_mapUpdate;refine wpList_mapUpdate_own _ rfl _ _ _ 174 rfl 173 212 tU underlying174 _ q (MZ M) D rfl o1 (by unfold maxLen;omega) _ _ _ rfl rfl (Maps.keyOf_int_mk (P:=Ng) underlying173 (yp (B:=B) (a:=a) hB ha)) _ [] unitElem_mk ?_;intro m j k)
   |go_in)
  go_ret;obtain⟨l,s2⟩:=Cd.put b.hp o1 g i b.ne j k;exact⟨by rw[hc];rfl,by rw[ym hc];exact l,(dj.of d).trans s2⟩
theorem EC {p q:Nat}{B c:Int}{M:List Int}(a:Int)(w:az)(h:Cd w p q B c M)(hB:0<=B)(f:B<=100000)(ha:a<=9223372036854775807):
 J Ng 184 #[aq p,ak a] w fun e w'=>e=E (.bool (gE B c a&&M.contains (cN B a)))/\Nd (I (M2 w)) w w':=by
 go_enter func184,ntmps184;go_wp2_with fail;refine(yl a _ h hB f ha).mono ?_;rintro e w1 ⟨rfl,b⟩
 have d:=h.below b b8
 obtain⟨c0,c1,c2⟩:=d.cells;obtain⟨D,o1,g,i⟩:=d.hq;cases hc:gE B c a
 ·go_wp2;go_ret;exact⟨by rw[hc];rfl,b⟩
 ·go_wp2_with (first
   |(at_lookup;refine wpList_lookup_own_unit _ rfl _ _ 174 rfl 173 212 tU underlying174 (Ey _) q (MZ M) D rfl o1 _ _ rfl (Maps.keyOf_int_mk underlying173 (yp (a:=a) hB ha)) ?_)
   |go_in)
  go_ret;exact⟨by rw[hc];simp,b.alloc b.size _⟩
theorem tY {p:Nat}{B c:Int}{v:bD}(w:az)(h:w.heap[p]?=Z (M5 #[ak B,U sQ c,v] 176 (0,0))):
 J Ng 115 #[aq p] w fun e w'=>e=E (a8 #[])/\Cd w' p (I (M2 w)) B c []/\dj p p w w':=by
 have b:=@run_makeMap Ng;have hp:=lt_of_some h;have d:bO (bj w (.map #[] 0)) (av p 2)=Nb:=by simp[World.frozen?,Below.heap_alloc _ _ _ hp,h]
 have hc:V (bj w (.map #[] 0)) (av p 2)=Z v:=by simp[World.cell?,Below.heap_alloc _ _ _ hp,h]
 go_enter func115,ntmps115;go_wp2_with fail;go_end0;have hm:=World.ownsMap_made (ay w ⟨p,2,M9⟩ (.map (Z (I (M2 w))))) Ng 173 (unitElem (H:=Unit))
 have hz:I (M2 (ay w ⟨p,2,M9⟩ (.map (Z (I (M2 w))))))=I (M2 w):=by simp[World.setCell]
 rw[hz] at hm;refine⟨rfl,Cd.none ((aS _ _ _ aa).trans ?_) hm,(dj.pu _ _).trans (dj.of (b9.alloc b8 _))⟩
 simp only [World.setCell,bL,if_true,h,bS];simp
theorem ED (B x:Int)(w:az)(h:x<=100000):
 J Ng 87 #[ak B,ak x] w fun e w'=>∃p q,e=E (aq p)/\Cd w' p q B (dO x) []/\I (M2 w)<=p/\I (M2 w)<=q/\Nd (I (M2 w)) w w':=by
 go_enter func87,ntmps87;go_wp2_with fail;refine(Ez x _ h).mono ?_;rintro e w1 ⟨rfl,b⟩
 have b:=b.symm;subst b;go_wp2_with fail;refine(tY (v:=.map M9) _ (aP _ _)).mono ?_;rintro e d ⟨rfl,c,s2⟩
 go_wp2_with fail;go_ret;exact⟨_,_,rfl,c,aG _,ac,(b9.alloc b8 _).trans (s2.below ac b8 b8)⟩
structure iI (w:az)(pw p q pc cU N O y g:Nat)(ws:List Int)(c:Int)(M:List Int)(vs vr:bD):Prop where
 blk:w.heap[pw]?=Z (M5 #[aq p,aq pc,vs,vr] 55 (0,0))
 ar:At w p q N O y g ws
 cd:Cd w pc cU N c M
section
variable {w w':az}{pw p q pc cU N O y g:Nat}{ws:List Int}{c:Int}{M:List Int}{vs vr:bD}
theorem iI.cells (h:iI w pw p q pc cU N O y g ws c M vs vr):V w (av pw 0)=Z (aq p)/\V w (av pw 1)=Z (aq pc)/\V w (av pw 2)=Z vs/\V w (av pw 3)=Z vr/\pw<I (M2 w):=
 ⟨by simp[World.cell?,h.blk],by simp[World.cell?,h.blk],by simp[World.cell?,h.blk],by simp[World.cell?,h.blk],lt_of_some h.blk⟩
theorem iI.apart (h:iI w pw p q pc cU N O y g ws c M vs vr):pw≠p/\pw≠q/\pw≠pc/\pw≠cU/\p≠pc/\p≠cU/\q≠pc/\q≠cU:=by
 obtain⟨D,⟨j,k,hb,_⟩,_⟩:=h.cd.hq;have b:=h.blk;have d:=h.ar.hp;have f:=h.ar.hq;have i:=h.cd.hp;refine⟨fun e=>?_,fun e=>?_,fun e=>?_,fun e=>?_,fun e=>?_,fun e=>?_,fun e=>?_,fun e=>?_⟩
 ·rw[e,d] at b;simp at b
 ·rw[e,f] at b;simp at b
 ·rw[e,i] at b;simp at b
 ·rw[e,hb] at b;simp at b
 ·rw[e,i] at d;simp at d
 ·rw[e,hb] at d;simp at d
 ·rw[e,i] at f;simp at f
 ·rw[e,hb] at f;simp at f
theorem iI.below (h:iI w pw p q pc cU N O y g ws c M vs vr)(hb:Nd (I (M2 w)) w w'):iI w' pw p q pc cU N O y g ws c M vs vr:=
 ⟨(hb.block pw (lt_of_some h.blk)).trans h.blk,h.ar.below hb b8,h.cd.below hb b8⟩
theorem iI.arena (h:iI w pw p q pc cU N O y g ws c M vs vr){b d:Nat}{e:List Int}(ha:At w' p q N O b d e)(s:dj p q w w'):iI w' pw p q pc cU N O b d e c M vs vr:=by obtain⟨a1,a2,l,m,f,i,j,k⟩:=h.apart;exact⟨(s.block pw (lt_of_some h.blk) a1 a2).trans h.blk,ha,h.cd.same (s.block pc h.cd.fj (Eo f) (Eo j)) (s.block cU h.cd.fp (Eo i) (Eo k))⟩
theorem iI.cards (h:iI w pw p q pc cU N O y g ws c M vs vr){b:List Int}(hc:Cd w' pc cU N c b)(s:dj pc cU w w'):iI w' pw p q pc cU N O y g ws c b vs vr:=by obtain⟨a1,a2,d,e,f,i,j,k⟩:=h.apart;exact⟨(s.block pw (lt_of_some h.blk) d e).trans h.blk,h.ar.same (s.block p h.ar.fj f i) (s.block q h.ar.fp j k),hc⟩
def gP (N y g:Nat)(ws:List Int)(x i z:Int):List Int:=if eO N y g ws x i=0 then(if dw N y g (cr x+1+i)=Nc then ws.set (Na (cr x+1+i)) z else ws) else ws
def nD (N y g:Nat)(ws:List Int)(x i z:Int):Bool:=decide (eO N y g ws x i=0)&&(de z&&hB 0 y (cr z)&&hB N g (cr x))
def stM (N y g:Nat)(ws:List Int)(x i z c:Int)(M:List Int):List Int:=if nD N y g ws x i z=Nc then lZ N c (cr x) M else M
theorem EE (x i z:Int)(h:iI w pw p q pc cU N O y g ws c M vs vr)(hM:MZ M<=100000):
 J Ng 44 #[aq pw,ak x,ak i,ak z] w fun e w'=>e=E (ak (eO N y g ws x i))/\iI w' pw p q pc cU N O y g (gP N y g ws x i z) c (stM N y g ws x i z c M) vs vr/\Fr (fun k=>k=p\/k=q\/k=pc\/k=cU) w w':=by
 have H:aA (_):=h;obtain⟨c0,c1,_,_,iX⟩:=h.cells;have P:=yk x i w c0 h.ar;have k1:=h.ar.hN';have ao:=h.ar.hy;have ap:=h.ar.hO;have ar:=h.ar.hg;have aF:∀{a b:az},dj p q a b->Fr (fun k=>k=p\/k=q\/k=pc\/k=cU) a b:=fun s=>⟨s.os,s.tape,s.output,s.size,fun k hk hn=>s.block k hk (fun e=>hn (aM e)) (fun e=>hn (aK (aM e)))⟩
 have aR:∀{a b:az},dj pc cU a b->Fr (fun k=>k=p\/k=q\/k=pc\/k=cU) a b:=fun s=>⟨s.os,s.tape,s.output,s.size,fun k hk hn=>s.block k hk (fun e=>hn (aK (aK (aM e)))) (fun e=>hn (aK (aK (aK e))))⟩
 clear h;by_cases h0:eO N y g ws x i=0
 ·have ht:tB N y g ws x=Nc:=by
   cases e:tB N y g ws x
   ·unfold eO at h0;rw[e,aI ac] at h0;omega
   ·rfl
  obtain⟨a0,b1⟩:=yj (O:=O) ht k1 ao ap ar;have B:gP N y g ws x i z=if dw N y g (cr x+1+i)=Nc then ws.set (Na (cr x+1+i)) z else ws:=by unfold gP;rw[aJ h0]
  have F:stM N y g ws x i z c M=if(de z&&hB 0 y (cr z)&&hB N g (cr x))=Nc then lZ N c (cr x) M else M:=by unfold stM nD;rw[bv h0,Bool.true_and]
  rw[h0,aJ rfl,aJ rfl] at P;rw[h0,B,F];clear B F h0 ht;generalize cr x+1+i=fl at P⊢;generalize cr x=v at P a0 b1⊢;have lr:aA (∀w1,Nd (I (M2 w)) w w1->J Ng 93 #[aq p,ak fl,ak z] w1 fun e w'=>e=E (bK (dw N y g fl))/\aA (iI w' pw p q pc cU N O y g (if dw N y g fl=Nc then ws.set (Na fl) z else ws) c M vs vr)/\aA (Fr (fun k=>k=p\/k=q\/k=pc\/k=cU) w w')):=fun w1 hb=>by
   have S:=H.o.below hb;refine(lW fl z w1 S.ar).mono ?_;rintro e w2 ⟨rfl,a1,s2⟩
   exact⟨rfl,S.arena a1 s2,(Fr.of (X:=fun k=>k=p\/k=q\/k=pc\/k=cU) hb).trans (aF s2) (fun _ c=>aM c)⟩
  have oA:aA (∀w2,_):=fun w2=>om z w2;generalize (if dw N y g fl=Nc then ws.set (Na fl) z else ws)=bb at lr⊢;generalize dw N y g fl=bd at lr;obtain⟨ab,al⟩:∃b,de z=b:=⟨_,rfl⟩
  rw[al] at oA⊢;clear al;generalize cr z=u at oA⊢;cases hb2:hB 0 y u
  ·rw[L6,Bool.false_and,aI ac];cases ab
   ·go_enter func44,ntmps44;exact tN
   ·go_enter func44,ntmps44;go_wp2_with fail;refine P.mono ?_;clear P;rintro e w1 ⟨rfl,hb1⟩
    have y1:=(hb1.cell (p:=av pw 0) iX).trans c0;go_wp2_with fail;refine(lr.o w1 hb1).mono ?_;rintro e w2 ⟨rfl,W2,F2⟩
    clear y1;go_wp2_with fail;refine(oA.o w2).mono ?_;rintro e w3 ⟨rfl,hb3⟩
    have W3:=W2.o.below hb3;have nA:=F2.o.trans (Fr.of (X:=fun k=>k=p\/k=q\/k=pc\/k=cU) hb3) (fun _ c=>aM c)
    obtain⟨y0,y1,_,_,l3⟩:=W3.cells;have d:=nt u w3 W3.ar;rw[hb2] at d;go_wp2_with fail;refine d.mono ?_;clear d;rintro e W ⟨rfl,j⟩
    have f:=W3.below j;have n:=nA.trans (Fr.of (X:=fun k=>k=p\/k=q\/k=pc\/k=cU) j) (fun _ c=>aM c)
    obtain⟨z0,o,_,_,am⟩:=f.cells;clear y0 y1;clear z0 o;go_wp2_with fail;go_ret;exact⟨rfl,f,n⟩
  ·rw[CW];cases yq:hB N g v
   ·rw[L6,aI ac];cases ab
    ·go_enter func44,ntmps44;exact tN
    ·go_enter func44,ntmps44;go_wp2_with fail;refine P.mono ?_;clear P;rintro e w1 ⟨rfl,hb1⟩
     have y1:=(hb1.cell (p:=av pw 0) iX).trans c0;go_wp2_with fail;refine(lr.o w1 hb1).mono ?_;rintro e w2 ⟨rfl,W2,F2⟩
     clear y1;go_wp2_with fail;refine(oA.o w2).mono ?_;rintro e w3 ⟨rfl,hb3⟩
     have W3:=W2.o.below hb3;have nA:=F2.o.trans (Fr.of (X:=fun k=>k=p\/k=q\/k=pc\/k=cU) hb3) (fun _ c=>aM c)
     obtain⟨y0,y1,_,_,l3⟩:=W3.cells;have d:=nt u w3 W3.ar;rw[hb2] at d;go_wp2_with fail;refine d.mono ?_;clear d;rintro e W ⟨rfl,j⟩
     have f:=W3.below j;have n:=nA.trans (Fr.of (X:=fun k=>k=p\/k=q\/k=pc\/k=cU) j) (fun _ c=>aM c)
     obtain⟨z0,o,_,_,am⟩:=f.cells;clear y0 y1;have l:=nu v W f.ar;rw[yq] at l;go_wp2_with fail;refine l.mono ?_;clear l;rintro e an ⟨rfl,t⟩
     have m:=f.below t;have ad:=n.trans (Fr.of (X:=fun k=>k=p\/k=q\/k=pc\/k=cU) t) (fun _ c=>aM c)
     obtain⟨ag,ai,_,_,a2⟩:=m.cells;clear z0 o;clear ag ai;go_wp2_with fail;go_ret;exact⟨rfl,m,ad⟩
   ·rw[CW];cases ab
    ·rw[aI ac];go_enter func44,ntmps44;exact tN
    ·rw[aJ rfl];go_enter func44,ntmps44;go_wp2_with fail;refine P.mono ?_;clear P;rintro e w1 ⟨rfl,hb1⟩
     have y1:=(hb1.cell (p:=av pw 0) iX).trans c0;go_wp2_with fail;refine(lr.o w1 hb1).mono ?_;rintro e w2 ⟨rfl,W2,F2⟩
     clear y1;go_wp2_with fail;refine(oA.o w2).mono ?_;rintro e w3 ⟨rfl,hb3⟩
     have W3:=W2.o.below hb3;have nA:=F2.o.trans (Fr.of (X:=fun k=>k=p\/k=q\/k=pc\/k=cU) hb3) (fun _ c=>aM c)
     obtain⟨y0,y1,_,_,l3⟩:=W3.cells;have d:=nt u w3 W3.ar;rw[hb2] at d;go_wp2_with fail;refine d.mono ?_;clear d;rintro e W ⟨rfl,j⟩
     have f:=W3.below j;have n:=nA.trans (Fr.of (X:=fun k=>k=p\/k=q\/k=pc\/k=cU) j) (fun _ c=>aM c)
     obtain⟨z0,o,_,_,am⟩:=f.cells;clear y0 y1;have l:=nu v W f.ar;rw[yq] at l;go_wp2_with fail;refine l.mono ?_;clear l;rintro e an ⟨rfl,t⟩
     have m:=f.below t;have ad:=n.trans (Fr.of (X:=fun k=>k=p\/k=q\/k=pc\/k=cU) t) (fun _ c=>aM c)
     obtain⟨ag,ai,_,_,a2⟩:=m.cells;clear z0 o;go_wp2_with fail;refine(EB v an m.cd aa aa aa hM).mono ?_;rintro e be ⟨rfl,a3,s6⟩
     have a4:=m.cards a3 s6;have ba:=ad.trans (aR s6) (fun _ c=>aM c)
     clear ag ai;go_wp2_with fail;go_ret;exact⟨rfl,a4,ba⟩
 ·have B:gP N y g ws x i z=ws:=by unfold gP;rw[aI h0]
  have F:stM N y g ws x i z c M=M:=by unfold stM nD;rw[bC h0];rfl
  rw[aI h0,aI h0] at P;rw[B,F];generalize eO N y g ws x i=cd at P h0⊢;go_enter func44,ntmps44;go_wp2_with fail;refine P.mono ?_;clear P;rintro e w1 ⟨rfl,hb1⟩
  have S:=H.o.below hb1;clear c0 c1;go_wp2_with fail;go_ret;exact⟨rfl,S,Fr.of hb1⟩
end
open Go.ChangeShapes Go.WideShapes Go.ChangeAt Go.RowKit Go.Joins Go.Deep W
namespace pH
theorem qQ (ws:List Int)(t f n i:Nat)(b:t+n<=MZ ws)(d:f+n<=MZ ws):
 X (nS ws t ((ws.drop f).take n)) i 0=if t<=i/\i<t+n then X ws (f+i-t) 0 else X ws i 0:=by
 have hl:MZ ((ws.drop f).take n)=n:=by simp;omega
 unfold nS;rw[hl];simp only [List.getD_eq_getElem?_getD];exact yc
theorem copied {N O y g:Nat}{ws:List Int}{a:Nat}(hl:MZ ws=N+O)(hy:y<=N)(hi:dw N y g a=Nc)(n:Nat)(d:1+(n:Int)<=gY N y g a-a)(f:1+(n:Int)<=(O:Int)-g)(j:Nat)(i:j<=n):
 ld N y (g+(1+n)) (nS ws (N+g) ((ws.drop a).take (1+n))) ((N:Int)+g+j)=X ws (a+j) 0/\ld N y (g+(1+n)) (nS ws (N+g) ((ws.drop a).take (1+n))) ((a:Int)+j)=X ws (a+j) 0:=by
 have he:gY N y g a<=(N:Int)+g:=by unfold gY;split<;>omega
 constructor
 ·have b:hB N ((g+(1+n):Nat):Int) ((N:Int)+g+j)=Nc:=by simp[hB];omega
  have hi:dw N y (g+(1+n)) ((N:Int)+g+j)=Nc:=by unfold dw;rw[b];simp
  unfold ld;rw[aJ hi,show Na ((N:Int)+g+j)=N+g+j by omega,qQ _ _ _ _ _ aa aa,aJ aa,show a+(N+g+j)-(N+g)=a+j by omega]
 ·have e:dw N y (g+(1+n)) ((a:Int)+j)=Nc:=by
   unfold gY at d;split at d
   ·rename_i c;have c:=jU c;have b:hB 0 y ((a:Int)+j)=Nc:=by simp[hB];omega
    unfold dw;rw[b];rfl
   ·rename_i c;have c1:hB N g a=Nc:=by unfold dw at hi;simp only [Bool.not_eq_true] at c;rw[c] at hi;simpa using hi
    have c2:=jU c1;have b:hB N ((g+(1+n):Nat):Int) ((a:Int)+j)=Nc:=by simp[hB];omega
    unfold dw;rw[b];simp
  unfold ld;rw[aJ e,show Na ((a:Int)+j)=a+j by omega,qQ _ _ _ _ _ aa aa,aI aa]
end pH
open Go.RowKit W pH
theorem eA {N y g:Nat}{ws:List Int}{a:Int}(h:dw N y g a=Nc):ld N y g ws a=X ws (Na a) 0:=by unfold ld;rw[aJ h]
theorem jf {N y g:Nat}{a:Int}(h0:0<=a)(b:a<y):dw N y g a=Nc:=by unfold dw hB;rw[bv (⟨h0,aa⟩:(0:Int)<=a/\a<0+(y:Int))];rfl
theorem ih {N y g:Nat}{a:Int}(h0:(N:Int)<=a)(b:a<(N:Int)+g):dw N y g a=Nc:=by unfold dw hB;rw[bv (⟨h0,b⟩:(N:Int)<=a/\a<(N:Int)+g),Bool.or_true]
section
variable {N O y g:Nat}{ws:List Int}{Y G:List Int}
theorem em.i0 (h:em N y g ws Y G):∀x∈Y,0<=x/\x<y:=fun x b=>by
 have c:=h.ty.mem x b;have d:=dv (ld N y g ws x)
 omega
theorem em.io (h:em N y g ws Y G):∀x∈G,(N:Int)<=x/\x<(N:Int)+g:=fun x b=>by
 have c:=h.eH.mem x b;have d:=dv (ld N y g ws x)
 omega
theorem em.make (h:em N y g ws Y G)(hl:MZ ws=N+O){k f:Int}(hm:jd N y k f=Nc):em N (jz N y k f) g (ge N y k f ws) (Y++[(y:Int)]) G:=by
 obtain⟨c,j⟩:=pF hm;have l:=jo k f c;have e:jz N y k f=y+1+Na f:=by unfold jz;rw[aJ hm]
 have i:ge N y k f ws=fZ ws y (hw k f) (Na f):=by unfold ge;rw[aJ hm]
 rw[e,i];have hlt:y+Na f<MZ ws:=aa;have d:ld N (y+1+Na f) g (fZ ws y (hw k f) (Na f)) y=hw k f:=x7 _ _ hlt;have hp:=qx k f c;refine⟨h.ty.snoc (fun x b=>?_) (by rw[d];exact hp.2.2) (by rw[d,hp.2.1];omega),h.eH.heads (fun x b=>?_)⟩
 ·have hi:=h.i0 x b;exact yh
 ·have hi:=h.io x b;exact tO
theorem em.copy (h:em N y g ws Y G)(hl:MZ ws=N+O)(hy:y<=N)(hg:g<=O){a:Int}(hm:iY N O y g ws a=Nc)(ha:a∈Y\/a∈G):em N y (km N O y g ws a) (kn N O y g ws a) Y (G++[((N+g:Nat):Int)])/\ld N y (km N O y g ws a) (kn N O y g ws a) ((N+g:Nat):Int)=ld N y g ws a:=by
 obtain⟨f,o,p⟩:=pG hm;have hp:=dv (ld N y g ws a)
 have j:km N O y g ws a=g+(1+Na (pf (ld N y g ws a))):=by unfold km;rw[aJ hm]
 have k:kn N O y g ws a=nS ws (N+g) ((ws.drop (Na a)).take (1+Na (pf (ld N y g ws a)))):=by unfold kn;rw[aJ hm]
 have l:0<=a/\a+(1+pf (ld N y g ws a))<=(N:Int)+g/\dw N y g a=Nc:=by
  rcases ha with ha|ha
  ·have m:=h.ty.mem a ha;have b:=h.i0 a ha;exact⟨b.1,aa,jf b.1 b.2⟩
  ·have m:=h.eH.mem a ha;have b:=h.io a ha;exact⟨aa,aa,ih b.1 b.2⟩
 rw[j,k];obtain⟨n,hn⟩:∃n,n=Na (pf (ld N y g ws a)):=⟨_,rfl⟩
 rw[<-hn];have c:∀i:Nat,_=_:=fun i=>qQ ws (N+g) (Na a) (1+n) i aa aa;have d:ld N y (g+(1+n)) (nS ws (N+g) ((ws.drop (Na a)).take (1+n))) ((N+g:Nat):Int)=ld N y g ws a:=by rw[eA (ih aa aa),Int.toNat_natCast,c,aJ aa,Nat.add_sub_cancel,eA l.2.2]
 refine⟨⟨h.ty.heads (fun x e=>?_),?_⟩,d⟩
 ·have hi:=h.i0 x e;rw[eA (jf hi.1 hi.2),eA (jf hi.1 hi.2),c,aI aa]
 ·have ht:=h.eH;rw[show(N:Int)+g=((N+g:Nat):Int) by omega] at ht;refine ht.snoc (fun x e=>?_) (by rw[d];exact f) (by rw[d];omega)
  have hi:=h.io x e;rw[eA (ih hi.1 aa),eA (ih hi.1 hi.2),c,aI aa]
theorem em.set (h:em N y g ws Y G)(hl:MZ ws=N+O)(hy:y<=N)(hg:g<=O){v i z:Int}(hv:v∈Y\/v∈G)(f:0<=i)(j:i<pf (ld N y g ws v)):em N y g (ws.set (Na (v+1+i)) z) Y G/\∀x,(x∈Y\/x∈G)->ld N y g (ws.set (Na (v+1+i)) z) x=ld N y g ws x:=by
 have hb:0<=v/\v+1+i<(N:Int)+g:=by
  rcases hv with hv|hv
  ·have d:=h.ty.mem v hv;have c:=h.i0 v hv;omega
  ·have d:=h.eH.mem v hv;have c:=h.io v hv;omega
 have key:∀x,(x∈Y\/x∈G)->ld N y g (ws.set (Na (v+1+i)) z) x=ld N y g ws x:=fun x b=>by
  have k:x≠v+1+i:=by
   intro e;rcases hv with hv|hv<;>rcases b with b|b
   ·exact h.ty.field hv f j (by rw[<-e];exact b)
   ·have d:=h.ty.mem v hv;have c:=h.io x b;omega
   ·have d:=h.io v hv;have c:=h.i0 x b;omega
   ·exact h.eH.field hv f j (by rw[<-e];exact b)
  have hi:dw N y g x=Nc/\0<=x:=by
   rcases b with b|b
   ·have c:=h.i0 x b;exact⟨jf c.1 c.2,c.1⟩
   ·have c:=h.io x b;exact⟨ih c.1 c.2,aa⟩
  rw[eA hi.1,eA hi.1,mG _ _ _ _ aa,aI aa]
 exact⟨⟨h.ty.heads (fun x b=>key x (aM b)),h.eH.heads (fun x b=>key x (aK b))⟩,key⟩
end
open Go.RowKit W Kp cq
theorem ys:dV 146:=gM func146 ah rfl
theorem EF:dV 147:=gM func147 ah rfl
theorem EG:dV 151:=gM func151 ah rfl
def yt:bD->Nat
 |M0 _ n _=>n
 |_=>0
def qR (n m:Nat):Nat:=if n=0 then 0 else m+1
theorem EH {c b y n:Nat}(hc:¬c=0)(h:y+n=b):qR y n<qR c b:=by unfold qR;rw[aI hc];split<;>omega
theorem oC {w:az}{a:bG}{p i:Nat}{v:bD}(h:a.block≠p):V (ay w ⟨p,i,M9⟩ v) a=V w a:=aQ (aX _ _ _ _ h)
theorem hD {w:az}{p:Nat}{x y v1 v2:bD}{T:bU}(h:w.heap[p]?=Z (M5 #[x,y] T (0,0))):(ay (ay w ⟨p,0,M9⟩ v1) ⟨p,1,M9⟩ v2).heap[p]?=Z (M5 #[v1,v2] T (0,0)):=by exact tP
theorem Fr.unbox {F:Nat->Prop}{w w':az}{p bl b bs:Nat}{d fk e:gu}(h:Fr (fun k=>F k\/k=bl\/k=b\/k=bs) w w')(hB:lQ w p bl b bs d fk e)(c:lQ w' p bl b bs d fk e):Fr F w w':=
 ⟨h.os,h.tape,h.output,h.size,fun k hk j=>by
  by_cases f:k=bl
  ·rw[f,hB.l,c.l]
  by_cases g:k=b
  ·rw[g,hB.g,c.g]
  by_cases i:k=bs
  ·rw[i,hB.s,c.s]
  exact h.block k hk (by simp[j,f,g,i])⟩
theorem EI {an:Type}(o:f_ an)(D:Int->Prop)(l fk d:gu)(is:an->Int->Bool)(kp:an->Int->Int×an)(nw:an->Int->Int)(b6:mB o D l fk d is kp nw)(r:List cf)(ca:Option bG)(cz:Nat)(dc:o.vr=M0 ca (MZ r) cz)(hr:MZ r<=90000)(bd:∀e∈r,D e.1/\D e.2)
 (F:Nat->Prop)(s:an)(w:az)(dX:∀e∈o.wt (fQ o is kp s r),D e.1/\D e.2)(eP:MZ (o.wt s)+MZ r<=90000)(bl b bs W:Nat)(be:o.J F s w)(hB:lQ w o.p bl b bs l fk d)(cA:w.heap[W]?=Z (M5 #[ng b bl bs] 101 (0,0)))(cb:¬F bl)(ce:¬F b)(dY:¬F bs)(dZ:¬F W)(d0:W≠bl/\W≠b/\W≠bs)(dd:dA w ca r):
 Calls Ng 149 #[aq bs,aq bl,aq W,aq b] w fun e w'=>∃a1 c1 a2 c2 cg de,e=E (bK Nc)/\o.J cg (fQ o is kp s r) de/\Fr (fun k=>k=o.p) de w'/\
  w'.heap[o.p]?=Z (M5 #[M0 a1 (MZ (e9 o is kp nw s r)) c1,M0 a2 (MZ (e_ o is kp nw s r)) c2] 153 (0,0))/\aC w' (I (M2 w)) 103 2 (M0 a1 (MZ (e9 o is kp nw s r)) c1) (MZ (e9 o is kp nw s r)) (ev (e9 o is kp nw s r))/\
  aC w' (I (M2 w)) 103 2 (M0 a2 (MZ (e_ o is kp nw s r)) c2) (MZ (e_ o is kp nw s r)) (ev (e_ o is kp nw s r))/\Fr F w w'/\(∀k,cg k->F k\/I (M2 w)<=k)/\(∀k,Z k=Nh (Value.slice a1 (MZ (e9 o is kp nw s r)) c1)->¬cg k)/\(∀k,Z k=Nh (Value.slice a2 (MZ (e_ o is kp nw s r)) c2)->¬cg k)/\(∀k,Z k=Nh (Value.slice a1 (MZ (e9 o is kp nw s r)) c1)->Z k≠Nh (Value.slice a2 (MZ (e_ o is kp nw s r)) c2)):=by
 obtain⟨eQ,eR,hp,_,eS,_⟩:=o.side be;rw[dc] at hp;have c3:V w (av bs 0)=Z (aq o.p):=aD hB.s
 have c4:V w (av o.p 0)=Z (M0 ca (MZ r) cz):=aD hp
 have l1:bl<I (M2 w):=lt_of_some hB.l;have l2:b<I (M2 w):=lt_of_some hB.g;have eU:bs<I (M2 w):=lt_of_some hB.s;have d1:W<I (M2 w):=lt_of_some cA;have v:aA (mB o D l fk d is kp nw):=b6;have d2:aA (lQ w o.p bl b bs l fk d):=hB;have eV:aA (∀e∈r,D e.1/\D e.2):=bd;have d3:aA (∀e∈o.wt (fQ o is kp s r),D e.1/\D e.2):=dX;have d4:aA (w.heap[W]?=Z (M5 #[ng b bl bs] 101 (0,0))):=cA;have c0:V w (av bl 0)=Z l.v:=aD hB.l
 have cB:=sZ (fun e=>D e.1/\D e.2) 151 #[] #[aq bl] (fun e=>is s e.2) EG w (fun w' e hd hs hk=>DE o.todC D l is b6.ea b6.ha F s w' bl e hd.2 (o.keep be hs (fun k h=>hk k (o.lt be k h))) ((aQ (a:=⟨bl,0,M9⟩) (hk bl l1)).trans c0)) r ca cz bd aa dd;obtain⟨A,ch⟩:∃A,aA (A=r.filter (fun e=>is s e.2)):=⟨_,rfl⟩
 obtain⟨B,bg⟩:∃B,aA (B=r.filter (fun e=>!is s e.2)):=⟨_,rfl⟩
 rw[<-ch.o,<-bg.o] at cB;have d5:MZ A<=90000:=by rw[ch.o];exact aU (bm _ _) hr
 have df:MZ B<=90000:=by rw[bg.o];exact aU (bm _ _) hr
 have d6:MZ (o.wt s)+MZ B<=90000:=by have:=bm (fun e=>!is s e.2) r;rw[bg.o];omega
 have dg:aA ((eT (cm o is kp) (MZ B+1) s B).1=fQ o is kp s r):=by show _=_;rw[bg.o];rfl
 have dh:aA (∀e∈A,D e.1/\D e.2):=fun e he=>bd e (by rw[ch.o] at he;exact(bM.1 he).1)
 have d7:aA (∀e∈B,D e.1/\D e.2):=fun e he=>bd e (by rw[bg.o] at he;exact(bM.1 he).1)
 have di:aA ((boxed o bl b bs l fk d).J (fun k=>F k\/k=bl\/k=b\/k=bs) s w):=⟨F,be,hB,cb,ce,dY,fun k=>Iff.rfl⟩
 clear b6 be hp dc dd cA bd hB c0;go_enter func149,ntmps149;go_wp2_with fail;refine cB.mono ?_;clear cB;rintro e w1 ⟨a1,bi,a2,cC,rfl,cD,cE,cF⟩
 have dj:Fr (fun k=>F k\/k=bl\/k=b\/k=bs) w w1:=Fr.of cF;have dk:=(boxed o bl b bs l fk d).below di.o cF;have dl:aA (∀k,(F k\/k=bl\/k=b\/k=bs)->(F k\/k=bl\/k=b\/k=bs)\/I (M2 w)<=k):=fun k h=>aM h;have cG:=(boxed o bl b bs l fk d).lt di.o;have ao:aA (∀k,Z k=Nh (Value.slice a1 (MZ A) bi)->¬(F k\/k=bl\/k=b\/k=bs)):=fun k e h=>by have:=(cv cD k e).1;have:=cG k h;omega
 have dm:aA (∀k,Z k=Nh (Value.slice a2 (MZ B) cC)->¬(F k\/k=bl\/k=b\/k=bs)):=fun k e h=>by have:=(cv cE k e).1;have:=cG k h;omega
 clear cG cF;go_wp2_with fail
 go_loopw [6,7] (fun cH vc wr=>∃(f C:List cf)(ad dn:Option bG)(cd cc n:Nat)(aF:Nat->Prop)(s2:an),cH=M0 ad (MZ f) cd/\vc=M0 dn (MZ C) cc/\aA (MZ C=0->s2=fQ o is kp s r)/\aA (¬MZ C=0->(eT (cm o is kp) n s2 f).1=fQ o is kp s r/\MZ f<n)/\aA (∀e∈f,D e.1/\D e.2)/\MZ f<=90000/\MZ C<=90000/\MZ (o.wt s2)+MZ f<=90000/\
  aC wr (I (M2 w)) 103 2 (M0 ad (MZ f) cd) (MZ f) (ev f)/\aC wr (I (M2 w)) 103 2 (M0 a1 (MZ A) bi) (MZ A) (ev A)/\(boxed o bl b bs l fk d).J aF s2 wr/\Fr (fun k=>F k\/k=bl\/k=b\/k=bs) w wr/\aA (∀k,aF k->(F k\/k=bl\/k=b\/k=bs)\/I (M2 w)<=k)/\
  aA (∀k,Z k=Nh (Value.slice a1 (MZ A) bi)->¬aF k)/\aA (∀k,Z k=Nh (Value.slice ad (MZ f) cd)->¬aF k)) (fun cH vc _=>qR (yt vc) (yt cH))
 case atStart=>
  refine⟨B,B,a2,a2,cC,cC,MZ B+1,(fun k=>F k\/k=bl\/k=b\/k=bs),s,rfl,rfl,fun h=>?_,fun _=>⟨dg.o,Nat.lt_succ_self _⟩,d7,df,df,d6,cE,cD,dk,dj,dl,ao,dm⟩
  rw[<-dg.o,List.eq_nil_of_length_eq_zero h];rfl
 case round=>
  clear cD cE dk dj dl ao dm;obtain⟨f,C,ad,dn,cd,cc,n,aF,s2,rfl,rfl,cI,aR,dp,eW,eX,eY,hd,bn,cJ,ap,ci,ao,cK⟩:=hrel;by_cases aV:MZ C=0
  ·have cj:aA (s2=fQ o is kp s r):=cI.o aV;obtain⟨ar,j0,ab,n1,cL,cN,dq⟩:=cJ;have dr:V wr (av b 0)=Z (.func (.func 146) #[] #[aq bl]):=aD ab.g
   have ds:V wr (av bl 0)=Z l.v:=aD ab.l
   have dt:V wr (av bl 2)=Z (.func (.func d.f) d.b d.c):=aD ab.l
   have du:V wr (av bs 0)=Z (aq o.p):=aD ab.s
   obtain⟨bo,bp,ck,dv,br,d8⟩:=o.side j0;have dw:V wr (av o.p 1)=Z (M0 bo (MZ (o.wt s2)) bp):=aD ck
   have m1:=lt_of_some ab.l;have cO:=lt_of_some ab.g;have cP:=lt_of_some ab.s;have cQ:=lt_of_some ck;have dx:=ap.size;have dy:aA (∀(w':az)(e:cf),D e.1/\D e.2->I (M2 wr)<=I (M2 w')->(∀k,k<I (M2 wr)->w'.heap[k]?=wr.heap[k]?)->Calls Ng 146 ((#[]:Array bD).push (en e)++#[aq bl]) w' fun r d9=>r=E (bK (is s2 e.1))/\Nd (I (M2 w')) w' d9):=
    fun w' e hd hs hk=>xg o.todC D l is v.o.ea v.o.ha ar s2 w' bl e hd.1 (o.keep j0 hs (fun k h=>hk k (o.lt j0 k h))) ((aQ (a:=⟨bl,0,M9⟩) (hk bl m1)).trans ds)
   have cR:=sZ (fun e=>D e.1/\D e.2) 146 #[] #[aq bl] (fun e=>is s2 e.1) ys wr dy.o A a1 bi dh.o aa (it bn)
   obtain⟨t,cl⟩:∃t,aA (t=A.filter (fun e=>is s2 e.1)):=⟨_,rfl⟩
   rw[<-cl.o] at cR;have eZ:MZ t<=90000:=by rw[cl.o];exact aU (bm _ _) d5
   have ea:aA (∀e∈t,D e.1/\D e.2):=fun e he=>dh.o e (by rw[cl.o] at he;exact(bM.1 he).1)
   have eb:MZ (o.wt s2)<=90000:=aa;have dz:aA (∀e∈o.wt s2,D e.1/\D e.2):=by rw[cj.o];exact d3
   obtain⟨u,cn⟩:∃u,aA (u=(o.wt s2).filter (fun e=>is s2 e.1)):=⟨_,rfl⟩
   have e0:MZ u<=90000:=by rw[cn.o];exact aU (bm _ _) eb
   have ec:aA (∀e∈u,D e.1/\D e.2):=fun e he=>dz.o e (by rw[cn.o] at he;exact(bM.1 he).1)
   have cS:aA (lQ wr o.p bl b bs l fk d):=ab;have ed:aA (o.J ar s2 wr):=j0;have ee:aA (iU wr bo (o.wt s2) bp):=dv;have dB:aA (Fr (fun k=>F k\/k=bl\/k=b\/k=bs) w wr):=ap;clear hd bn ab j0 dv ap cI aR ao cK d8;go_wp2_with fail;refine cR.mono ?_;clear cR;rintro e cT ⟨b1,cU,b2,cV,rfl,cW,_,S⟩
   have cX:=sZ (fun e=>D e.1/\D e.2) 146 #[] #[aq bl] (fun e=>is s2 e.1) ys cT.drew (fun w' e hd hs hk=>dy.o w' e hd (aU S.size hs) (fun k h=>(hk k (aO h S.size)).trans (S.block k h))) (o.wt s2) bo bp dz.o aa (ee.o.lp.below S.drew)
   rw[<-cn.o] at cX;have dC:=(S.cell (p:=av b 0) cO).trans dr;have dD:=(S.cell (p:=av bs 0) cP).trans du;have dE:=(S.cell (p:=av o.p 1) cQ).trans dw;have dF:=(S.cell (p:=av bl 2) m1).trans dt;go_wp2_with fail;have bt:=S.size
   go_region_held3 (fun w'=>V w' (av bs 0)=Z (aq o.p)/\V w' (av o.p 1)=Z (M0 bo (MZ (o.wt s2)) bp)/\V w' (av b 0)=Z (.func (.func 146) #[] #[aq bl])) (go_keep)
    (first|(go_at_call 150;refine cX.mono ?_;rintro e g ⟨ef,eg,e1,e2,rfl,dG,_,al⟩;have eh:=(al.cell (p:=av b 0) (aO cO bt)).trans dC;have cY:=(al.cell (p:=av bs 0) (aO cP bt)).trans dD;have ei:=(al.cell (p:=av o.p 1) (aO cQ bt)).trans dE;have cZ:=(al.cell (p:=av bl 2) (aO m1 bt)).trans dF))
   have bx:Nd (I (M2 wr)) wr g:=S.drew.trans (al.mono bt)
   have e3:I (M2 cT)<=I (M2 g):=al.size;have dH:=cM (w:=cT) cW (fun k e=>al.block k (cv cW k e).2)
   have co:=o.below ed.o bx;have dI:=(bx.block o.p cQ).trans ck;have cp:o.p≠bs:=fun e=>cN (by rw[<-e];exact br)
   have cq:o.p≠bl:=fun e=>n1 (by rw[<-e];exact br)
   have ej:o.p≠b:=fun e=>cL (by rw[<-e];exact br)
   have dJ:aA (∀k,ar k->F k\/I (M2 w)<=k):=fun k h=>by
    rcases ci.o k ((dq k).2 (aM h)) with(c|c|c|c)|c
    ·exact aM c
    ·exact absurd (by rw[<-c];exact h) n1
    ·exact absurd (by rw[<-c];exact h) cL
    ·exact absurd (by rw[<-c];exact h) cN
    ·exact aK c
   have ek:aA (ar o.p):=br;have dK:o.p<I (M2 g):=lt_of_some dI;have dL:bs<I (M2 g):=aa;have dM:bl<I (M2 g):=aa;have el:MZ t<=100000:=aa;have em:MZ u<=100000:=aa;have dN:=it dH;have dO:=it dG;have c5:=o.below co (ax g).drew;have dP:=dN.below (ax g).drew;have dQ:=dO.below (ax g).drew;clear cW al S dC dD dE dF ds dr du dw dt cX eh ei ck br n1 cL cN dq;go_wp2_with fail
   go_region_held3 (fun w'=>V w' (av bs 0)=Z (aq o.p)/\V w' (av bl 2)=Z (.func (.func d.f) d.b d.c)) (first|exact⟨cY,cZ⟩|exact⟨c6,c7⟩|exact⟨cr,cs⟩|exact⟨(oC cp.symm).trans cr,(oC cq.symm).trans cs⟩|exact⟨(oC cp.symm).trans ((oC cp.symm).trans cr),(oC cq.symm).trans ((oC cq.symm).trans cs)⟩)
    (first
      |(have e4:=ag;go_at_call 152;refine(xf o.todC D d.f d.b d.c nw v.o.en v.o.ht u ef eg ar s2 _ ec.o em (o.below c5 ag) (dQ.below ag)).mono ?_;rintro e q ⟨a0,a3,rfl,ai,aB⟩;have e5:=aB.size;have cr:=(aB.cell (p:=av bs 0) (aO dL b0)).trans c6;have cs:=(aB.cell (p:=av bl 2) (aO dM b0)).trans c7;have b3:=(aB.block o.p (aO dK b0)).trans ((ag.block o.p dK).trans dI);have q0:V q (av o.p 0)=Z o.vr:=aD b3;have q1:V q (av o.p 1)=Z (M0 bo (MZ (o.wt s2)) bp):=aD b3;have eo:bO q (av o.p 0)=Nb:=aE b3;have ep:bO q (av o.p 1)=Nb:=(by simp[World.frozen?,b3]))
      |(go_at_call 152;refine(xf o.todC D d.f d.b d.c nw v.o.en v.o.ht t b1 cU ar s2 _ ea.o el c5 dP).mono ?_;rintro e ct ⟨a4,ba,rfl,am,ag⟩;have b0:=ag.size;have c6:=(ag.cell (p:=av bs 0) dL).trans cY;have c7:=(ag.cell (p:=av bl 2) dM).trans cZ))
   have eq:Nd (I (M2 g)) g ct:=(ax g).drew.trans (ag.mono b8)
   have dR:Nd (I (M2 g)) g q:=eq.trans (aB.mono b0)
   have cu:Nd (I (M2 wr)) wr q:=bx.trans (dR.mono bx.size)
   have er:=o.below co dR;have es:aA (aC ct (I (M2 g)) 103 2 (M0 a4 (MZ t) ba) (MZ t) (ev (t.map fun e=>(nw s2 e.1,nw s2 e.2)))):=am;have et:aA (aC q (I (M2 g)) 103 2 (M0 a0 (MZ u) a3) (MZ u) (ev (u.map fun e=>(nw s2 e.1,nw s2 e.2)))):=fq ai (fun k e=>aU b0 (cv ai k e).1)
   have eu:aA (Nd (I (M2 ct)) ct q):=aB;have ew:aA (∀k,Z k=Nh (Value.slice a4 (MZ t) ba)->Z k≠Nh (Value.slice a0 (MZ u) a3)):=fun k e ex=>by have cb:=(cv am k e).2;have ce:=(cv ai k ex).1;omega
   clear am ai ag aB dP dQ c5 dN dO dH dG c6 c7 cr cs cY cZ q0 q1 eo ep;go_wp2_with fail;go_ret;have ey:e9 o is kp nw s r=t.map fun e=>(nw s2 e.1,nw s2 e.2):=by unfold e9;rw[<-cj.o,<-ch.o,<-cl.o]
   have ez:e_ o is kp nw s r=u.map fun e=>(nw s2 e.1,nw s2 e.2):=by unfold e_;rw[<-cj.o,<-cn.o]
   have b4:∀k,k≠o.p->(ay (ay q ⟨o.p,0,M9⟩ (M0 a4 (MZ t) ba)) ⟨o.p,1,M9⟩ (M0 a0 (MZ u) a3)).heap[k]?=q.heap[k]?:=fun k hk=>(aX _ _ _ _ hk).trans (aX _ _ _ _ hk)
   have am:=es.o;have ai:=et.o;have dS:=dB.o.size;have dT:=bx.size;have eA:lQ (ay (ay q ⟨o.p,0,M9⟩ (M0 a4 (MZ t) ba)) ⟨o.p,1,M9⟩ (M0 a0 (MZ u) a3)) o.p bl b bs l fk d:=
    ⟨(b4 bl cq.symm).trans ((cu.block bl m1).trans cS.o.l),(b4 b ej.symm).trans ((cu.block b cO).trans cS.o.g),(b4 bs cp.symm).trans ((cu.block bs cP).trans cS.o.s)⟩
   have dU:Fr (fun k=>k=o.p) q (ay (ay q ⟨o.p,0,M9⟩ (M0 a4 (MZ t) ba)) ⟨o.p,1,M9⟩ (M0 a0 (MZ u) a3)):=((Fr.refl (fun k=>k=o.p) q).set o.p 0 _ rfl).set o.p 1 _ rfl;rw[ey,ez,aZ,aZ,<-cj.o];refine⟨a4,ba,a0,a3,ar,q,rfl,er,dU,hD b3,?_,?_,?_,dJ.o,fun k e h=>?_,fun k e h=>?_,ew.o⟩
   ·refine fq (cM am (fun k e=>?_)) (fun k e=>aU (aU dS dT) (cv am k e).1)
    have:=cv am k e;exact(b4 k aa).trans (eu.o.block k this.2)
   ·refine fq (cM ai (fun k e=>?_)) (fun k e=>aU (aU dS dT) (cv ai k e).1)
    have:=cv ai k e;exact b4 k aa
   ·exact((dB.o.trans (Fr.of (X:=fun _=>False) cu) (fun _ c=>c.elim)).trans dU (fun i c=>by rw[c];exact(dJ.o o.p ek.o).imp aM id)).unbox d2.o eA
   ·have:=o.lt co k h;have:=(cv am k e).1;omega
   ·have:=o.lt co k h;have:=(cv ai k e).1;omega
  ·have eB:V wr (av W 0)=Z (ng b bl bs):=by
    have hk:=ap.block W d1 (by simp[dZ,d0])
    simp[World.cell?,hk,d4.o]
   have dV:∀j,j<MZ f->∀x,MZ (o.wt (kp (pts (cm o is kp) s2 (f.take j)).2.2 x).2)<=90000:=fun j e6 x=>by
    have cb:=s8 o is kp v.o.hl s2 (f.take j)
    have ce:=pv (cm o is kp) s2 (f.take j)
    rw[v.o.hl,cb];simp at ce;omega
   have cw:=xc (boxed o bl b bs l fk d) (fun e=>D e.1/\D e.2) (fun s=>∀x,MZ (o.wt (kp s x).2)<=90000) 147 #[] #[aq b,aq bl,aq bs] (cm o is kp) EF (DG o bl b bs D l fk d is kp v.o.ea v.o.gV v.o.ha v.o.hk) f ad cd aF s2 wr dp.o dV aa cJ ((it hd).apart (fun _ z e=>cK.o z.block (by rw[e];rfl)))
   obtain⟨Y,N,bb,b5⟩:∃Y N bb,aA (pts (cm o is kp) s2 f=(Y,N,bb)):=⟨_,_,_,rfl⟩
   have c8:=pv (cm o is kp) s2 f;have c9:=s8 o is kp v.o.hl s2 f;have cx:=s7 (cm o is kp) s2 f;rw[b5.o] at cw c8 cx c9;dsimp only at cw c8 cx c9;have eC:MZ (o.wt bb)+MZ N<=90000:=aa;clear c9 dV;obtain⟨n,rfl⟩:∃m,n=m+1:=⟨n-1,by have:=(aR.o aV).2;omega⟩
   have eD:aA (MZ Y=0->bb=fQ o is kp s r):=fun h=>by
    have e:=mz (cm o is kp) n s2 f (by rw[b5.o];exact h)
    rw[<-(aR.o aV).1,e,b5.o]
   have eE:aA (¬MZ Y=0->(eT (cm o is kp) n bb N).1=fQ o is kp s r/\MZ N<n):=fun h=>by
    have e:=mA (cm o is kp) n s2 f (by rw[b5.o];exact h)
    refine⟨?_,?_⟩
    ·rw[<-(aR.o aV).1,e,b5.o]
    ·have:=(aR.o aV).2;omega
   have eF:aA (∀e∈N,D e.1/\D e.2):=fun e he=>dp.o e (cx e (aK he))
   clear cx;go_wp2_with fail;refine cw.mono ?_;clear cw;rintro e e7 ⟨b1,cU,b2,cV,cy,rfl,eG,hN,eH,da,db,eI,dW⟩
   have dx:=ap.size;have eJ:aA (∀k,cy k->(F k\/k=bl\/k=b\/k=bs)\/I (M2 w)<=k):=fun k h=>(db k h).elim (ci.o k) (fun h=>aK aa)
   have eK:aA (∀k,Z k=Nh (Value.slice a1 (MZ A) bi)->¬cy k):=fun k e h=>(db k h).elim (ao.o k e) (fun h=>by have:=(cv bn k e).2;omega)
   have eL:aA (∀k,Z k=Nh (Value.slice b2 (MZ N) cV)->¬cy k):=dW;have eM:=iF bn da ao.o;have eN:=ap.trans da ci.o;have eO:=fq hN (base':=I (M2 w)) (fun k e=>aU dx (cv hN k e).1)
   clear db eI dW eG hN bn ap da cJ ci ao cK hd cI aR eB;go_wp2_with fail;go_roundw
   case rel=>exact⟨N,Y,b2,b1,cV,cU,n,cy,bb,rfl,rfl,eD,eE,eF,aa,aa,eC,eO,eM,eH,eN,eJ,eK,eL⟩
   case measure=>
    exact EH aV c8
theorem EJ (a b c:bG)(w:az):
 CallsD Ng 218 #[bJ (Z a),bJ (Z b),bJ (Z c)] .returning w fun e d w'=>e=E (a8 #[])/\d=.returning/\w'=w:=by
 refine callsD_of_wpS func218 rfl fun f i g=>?_;apply wpS_seq;apply wpS_region;simp[wpOpsS,go_sem,recoverD,g,ntmps218,Exit.thenS];refine wpS_cond (t:=Nb) (by simp[Act.eval,Array.replicate]) ?_;refine wpS_of_wp (wp_skip ?_)
 cases f
 simp_all [bodyPostS,results,results218]
theorem yu (f:Nat)(b c:Array bD)(i:dV f)(w:az)(p:Nat)(a0 a1:Option bG)(n0 k0 n1 k1:Nat)(c0:V w (av p 0)=Z (M0 a0 n0 k0))(c1:V w (av p 1)=Z (M0 a1 n1 k1))(R:Bool->az->Prop)
 (h:∀w1,w1=bj (bj (bj w (M5 #[bJ (Z ⟨p,0,M9⟩)] 52)) (M5 #[bK Nb] 4)) (M5 #[M0 a0 n0 k0,M0 a1 n1 k1] 153)->J Ng f (b++c) w1 fun r d=>∃g,r=E (bK g)/\R g d/\d.heap[I (M2 w)+1]?=Z (M5 #[bK Nb] 4 (0,0))):
 J Ng 148 #[aq p,.func (.func f) b c] w fun e w'=>∃g d,e=E (bK g)/\R g d/\d.heap[I (M2 w)+1]?=Z (M5 #[bK Nb] 4 (0,0))/\w'=ay d ⟨I (M2 w)+1,0,M9⟩ (bK g):=by
 have l:=aT w _ c0;have H:=hide h;clear h;have m:∀(args:Array bD)(w:az),(callFunc f args).run Ng w=.ok (.enter f args) w:=i;clear i
 go_enter_defers func148,ntmps148
 go_wp2_with fail;refine(H.o _ rfl).mono ?_;rintro e d ⟨g,rfl,j,hk⟩
 have k:V d (av (I (M2 w)+1) 0)=Z (bK Nb):=aD hk
 have n:bO d (av (I (M2 w)+1) 0)=Nb:=aE hk
 go_wp2_with fail;refine leaves_cons (f:=218) (args:=#[aq (I (M2 w)+1+1),aq (I (M2 w)),aq (I (M2 w)+1)]) ac (by simp[go_sem]) ?_;refine(EJ _ _ _ _).mono ?_;rintro e o q ⟨rfl,rfl,rfl⟩
 simp[Leaves,settle,results,results148,go_sem,(bc _ _ _ k)];cases g
 ·exact aM ⟨rfl,d,j,hk,rfl⟩
 ·exact aK ⟨rfl,d,j,hk,rfl⟩
theorem EK:dV 149:=gM func149 ah rfl
theorem qS {j:Type}(o:f_ j)(D:Int->Prop)(fa fk fn:gu)(is:j->Int->Bool)(kp:j->Int->Int×j)(nw:j->Int->Int)(ap:mB o D fa fk fn is kp nw)(r:List cf)(t:Option bG)(v:Nat)(ai:o.vr=M0 t (MZ r) v)(hr:MZ r<=90000)(ar:∀e∈r,D e.1/\D e.2)
 (F:Nat->Prop)(s:j)(w:az)(aB:∀e∈o.wt (fQ o is kp s r),D e.1/\D e.2)(aF:MZ (o.wt s)+MZ r<=90000)(x:o.J F s w)(aR:dA w t r):
 Calls Ng 78 #[aq o.p,.agg #[fa.v,fk.v,fn.v]] w fun e w'=>∃a1 c1 a2 c2 b d,e=E (a8 #[])/\o.J b (fQ o is kp s r) d/\(∀k,b k->k≠o.p->w'.heap[k]?=d.heap[k]?)/\I (M2 d)<=I (M2 w')/\
  w'.heap[o.p]?=Z (M5 #[M0 a1 (MZ (e9 o is kp nw s r)) c1,M0 a2 (MZ (e_ o is kp nw s r)) c2] 153 (0,0))/\aC w' (I (M2 w)) 103 2 (M0 a1 (MZ (e9 o is kp nw s r)) c1) (MZ (e9 o is kp nw s r)) (ev (e9 o is kp nw s r))/\
  aC w' (I (M2 w)) 103 2 (M0 a2 (MZ (e_ o is kp nw s r)) c2) (MZ (e_ o is kp nw s r)) (ev (e_ o is kp nw s r))/\Fr F w w'/\(∀k,b k->F k\/I (M2 w)<=k)/\(∀k,Z k=Nh (Value.slice a1 (MZ (e9 o is kp nw s r)) c1)->¬b k)/\(∀k,Z k=Nh (Value.slice a2 (MZ (e_ o is kp nw s r)) c2)->¬b k)/\(∀k,Z k=Nh (Value.slice a1 (MZ (e9 o is kp nw s r)) c1)->Z k≠Nh (Value.slice a2 (MZ (e_ o is kp nw s r)) c2)):=by
 obtain⟨al,am,hp,_,bd,_⟩:=o.side x;rw[ai] at hp;have c0:V w (av o.p 0)=Z (M0 t (MZ r) v):=aD hp
 have c1:V w (av o.p 1)=Z (M0 al (MZ (o.wt s)) am):=aD hp
 have lp:=lt_of_some hp;have aV:aA (∀w1,Nd (I (M2 w)) w w1->lQ w1 o.p (I (M2 w)+1) (I (M2 w)+2) (I (M2 w)) fa fk fn->w1.heap[I (M2 w)+3]?=Z (M5 #[ng (I (M2 w)+2) (I (M2 w)+1) (I (M2 w))] 101 (0,0))->Calls Ng 149 #[aq (I (M2 w)),aq (I (M2 w)+1),aq (I (M2 w)+3),aq (I (M2 w)+2)] w1 fun e w'=>∃a1 c1 a2 c2 b d,e=E (bK Nc)/\o.J b (fQ o is kp s r) d/\Fr (fun k=>k=o.p) d w'/\
  w'.heap[o.p]?=Z (M5 #[M0 a1 (MZ (e9 o is kp nw s r)) c1,M0 a2 (MZ (e_ o is kp nw s r)) c2] 153 (0,0))/\aC w' (I (M2 w1)) 103 2 (M0 a1 (MZ (e9 o is kp nw s r)) c1) (MZ (e9 o is kp nw s r)) (ev (e9 o is kp nw s r))/\
  aC w' (I (M2 w1)) 103 2 (M0 a2 (MZ (e_ o is kp nw s r)) c2) (MZ (e_ o is kp nw s r)) (ev (e_ o is kp nw s r))/\Fr F w1 w'/\(∀k,b k->F k\/I (M2 w1)<=k)/\(∀k,Z k=Nh (Value.slice a1 (MZ (e9 o is kp nw s r)) c1)->¬b k)/\(∀k,Z k=Nh (Value.slice a2 (MZ (e_ o is kp nw s r)) c2)->¬b k)/\(∀k,Z k=Nh (Value.slice a1 (MZ (e9 o is kp nw s r)) c1)->Z k≠Nh (Value.slice a2 (MZ (e_ o is kp nw s r)) c2))):=by
  intro w1 hb hB hc;have q:∀k,I (M2 w)<=k->¬F k:=fun k hk h=>by have:=o.lt x k h;omega
  exact EI o D fa fk fn is kp nw ap r t v ai hr ar F s w1 aB aF _ _ _ _ (o.below x hb) hB hc (q _ aa) (q _ aa) (q _ aa) (q _ aa) ⟨aa,aa,aa⟩ (aR.below hb)
 have an:=hide x;go_enter func78,ntmps78;go_wp2_with fail;have f:∃W4,W4=bj (bj (bj (bj w (M5 #[bJ (Z ⟨o.p,0,M9⟩)] 52)) (M5 #[fa.v,fk.v,fn.v] 145)) (M5 #[.func (.func 146) #[] #[bJ (Z ⟨I (M2 w)+1,0,M9⟩)]] 101)) (M5 #[ng (I (M2 w)+1+1) (I (M2 w)+1) (I (M2 w))] 101):=⟨_,rfl⟩
 obtain⟨W4,f⟩:=f;have sz:I (M2 W4)=I (M2 w)+4:=by rw[f];simp
 have B:Nd (I (M2 w)) w W4:=by rw[f];exact((((aH _ w).alloc b8 _).alloc ac _).alloc (by simp;omega) _).alloc (by simp;omega) _
 have g0:W4.heap[I (M2 w)]?=Z (M5 #[aq o.p] 52 (0,0)):=by rw[f,aS _ _ _ (by simp;omega),aS _ _ _ (by simp;omega),aS _ _ _ ac];exact aP _ _
 have g1:W4.heap[I (M2 w)+1]?=Z (M5 #[fa.v,fk.v,fn.v] 145 (0,0)):=by rw[f,aS _ _ _ ac,aS _ _ _ ac];exact yi
 have g2:W4.heap[I (M2 w)+2]?=Z (M5 #[.func (.func 146) #[] #[aq (I (M2 w)+1)]] 101 (0,0)):=by rw[f,aS _ _ _ ac];simpa using aP (bj (bj w (M5 #[bJ (Z ⟨o.p,0,M9⟩)] 52)) (M5 #[fa.v,fk.v,fn.v] 145)) (M5 #[.func (.func 146) #[] #[bJ (Z ⟨I (M2 w)+1,0,M9⟩)]] 101)
 have g3:W4.heap[I (M2 w)+3]?=Z (M5 #[ng (I (M2 w)+1+1) (I (M2 w)+1) (I (M2 w))] 101 (0,0)):=by rw[f];simpa using aP (bj (bj (bj w (M5 #[bJ (Z ⟨o.p,0,M9⟩)] 52)) (M5 #[fa.v,fk.v,fn.v] 145)) (M5 #[.func (.func 146) #[] #[bJ (Z ⟨I (M2 w)+1,0,M9⟩)]] 101)) (M5 #[ng (I (M2 w)+1+1) (I (M2 w)+1) (I (M2 w))] 101)
 rw[<-f];have P:=yu 149 #[] #[aq (I (M2 w)),aq (I (M2 w)+1),aq (I (M2 w)+1+1+1),aq (I (M2 w)+1+1)] EK W4 o.p t al (MZ r) v (MZ (o.wt s)) am ((B.cell (p:=av o.p 0) lp).trans c0) ((B.cell (p:=av o.p 1) lp).trans c1)
  (fun _ g=>∃a1 c1 a2 c2 b d,o.J b (fQ o is kp s r) d/\Fr (fun k=>k=o.p) d g/\
    g.heap[o.p]?=Z (M5 #[M0 a1 (MZ (e9 o is kp nw s r)) c1,M0 a2 (MZ (e_ o is kp nw s r)) c2] 153 (0,0))/\aC g (I (M2 w)+7) 103 2 (M0 a1 (MZ (e9 o is kp nw s r)) c1) (MZ (e9 o is kp nw s r)) (ev (e9 o is kp nw s r))/\
    aC g (I (M2 w)+7) 103 2 (M0 a2 (MZ (e_ o is kp nw s r)) c2) (MZ (e_ o is kp nw s r)) (ev (e_ o is kp nw s r))/\Fr F w g/\(∀k,b k->F k\/I (M2 w)+7<=k)/\(∀k,Z k=Nh (Value.slice a1 (MZ (e9 o is kp nw s r)) c1)->¬b k)/\(∀k,Z k=Nh (Value.slice a2 (MZ (e_ o is kp nw s r)) c2)->¬b k)/\(∀k,Z k=Nh (Value.slice a1 (MZ (e9 o is kp nw s r)) c1)->Z k≠Nh (Value.slice a2 (MZ (e_ o is kp nw s r)) c2)))
  (by
    intro w1 hw1;have s1:I (M2 w1)=I (M2 w)+7:=by rw[hw1];simp;omega
    have b1:Nd (I (M2 W4)) W4 w1:=by rw[hw1];exact(((aH _ W4).alloc b8 _).alloc ac _).alloc (by simp;omega) _
    have hk:w1.heap[I (M2 W4)+1]?=Z (M5 #[bK Nb] 4 (0,0)):=by exact yf
    have b2:=B.trans (b1.mono aa)
    refine(aV.o w1 b2 ⟨(b1.block _ aa).trans g1,(b1.block _ aa).trans g2,(b1.block _ aa).trans g0⟩ ((b1.block _ aa).trans g3)).mono ?_;rintro e g ⟨a1,c1,a2,c2,b,d,rfl,q1,N,q3,l,n,S,u,ab,ad,ag⟩
    rw[s1] at l n u;refine⟨Nc,rfl,⟨a1,c1,a2,c2,b,d,q1,N,q3,l,n,(Fr.of (X:=F) b2).trans S (fun _ c=>aM c),u,ab,ad,ag⟩,(S.block _ aa (fun h=>?_)).trans hk⟩
    have:=o.lt an.o _ h;omega)
 refine P.mono ?_;rintro e be ⟨a0,g,rfl,⟨a1,a3,a2,a4,b,d,q1,N,q3,l,n,S,u,ab,ad,ag⟩,hk,rfl⟩
 obtain⟨m,hm⟩:∃m,m=I (M2 W4)+1:=⟨_,rfl⟩
 rw[<-hm];have ba:aA (m=I (M2 w)+5):=by show m=_;omega
 clear hm hk B g0 g1 g2 g3 sz f;go_wp2_with fail;go_end0;have hm:=ba.o;have W:∀k,k≠m->(ay g ⟨m,0,M9⟩ (bK a0)).heap[k]?=g.heap[k]?:=fun k hk=>aX _ _ _ _ hk;refine⟨a1,a3,a2,a4,b,d,rfl,q1,fun k ao bb=>?_,?_,(W _ aa).trans q3,?_,?_,S.trans ((Fr.refl (fun k=>k=m) g).set _ 0 _ rfl) (fun i c=>aK aa),fun k h=>(u k h).imp id (fun h=>by omega),ab,ad,ag⟩
 ·refine(W k ?_).trans (N.block k (o.lt q1 k ao) bb)
  rcases u k ao with h|h
  ·have:=o.lt an.o k h;omega
  ·omega
 ·have:=N.size;simpa[World.setCell] using this
 ·exact fq (cM l (fun k e=>W k (by have:=(cv l k e).1;omega))) (fun k e=>by have:=(cv l k e).1;omega)
 ·exact fq (cM n (fun k e=>W k (by have:=(cv n k e).1;omega))) (fun k e=>by have:=(cv n k e).1;omega)
def di {u:Type}(o:dC u)(p:Nat)(vr:bD):f_ (u×List cf) where
 J F s w:=∃b ad cap,o.J b s.1 w/\w.heap[p]?=Z (M5 #[vr,M0 ad (MZ s.2) cap] 153 (0,0))/\aC w 0 103 2 (M0 ad (MZ s.2) cap) (MZ s.2) (ev s.2)/\(∀k,b k->F k)/\F p/\¬b p/\(∀k,Z k=Nh (Value.slice ad (MZ s.2) cap)->F k/\¬b k)/\(∀k,F k->k<I (M2 w))
 lt:=by rintro F t w ⟨b,ad,cap,n,c,d,f,i,l,m,j⟩ k hk;exact j k hk
 keep:=by rintro F t w w' ⟨b,ad,cap,n,c,d,f,i,l,m,j⟩ hs hk;exact⟨b,ad,cap,o.keep n hs (fun k h=>hk k (f k h)),(hk p i).trans c,cM d (fun k e=>hk k (m k e).1),f,i,l,m,fun k h=>aO (j k h) hs⟩
 p:=p
 vr:=vr
 wt s:=s.2
 put s q:=(s.1,q)
 side:=by
  rintro F s w ⟨b,ad,cap,n,c,d,f,i,l,m,j⟩
  refine⟨ad,cap,c,⟨it d,?_,?_⟩,i,fun hp z e=>(m z.block (by rw[e];rfl)).1⟩
  ·rcases d.2 with⟨hv,h0⟩|⟨g,B,N,hv,_,_,hc,_⟩
   ·omega
   ·simp at hv;omega
  ·intro S;rcases d.2 with⟨hv,h0⟩|⟨g,B,N,hv,_⟩
   ·simp at hv;exact⟨h0,hv.2.2⟩
   ·rw[S] at hv;simp at hv
 set:=by
  rintro F s w ⟨b,ad,cap,n,c,d,f,i,l,m,j⟩ w1 q b1 gN hb v;have lp:=lt_of_some c;have ab:=cv v b1 rfl;have x:∀k,k≠p->(ay w1 ⟨p,1,M9⟩ (M0 (Z ⟨b1,0,M9⟩) (MZ q) gN)).heap[k]?=w1.heap[k]?:=fun k hk=>aX _ _ _ _ hk;have hs:I (M2 (ay w1 ⟨p,1,M9⟩ (M0 (Z ⟨b1,0,M9⟩) (MZ q) gN)))=I (M2 w1):=by simp[World.setCell]
  have ag:=hb.size;refine⟨b,au b1,gN,o.keep (o.below n hb) (by rw[hs];exact aG _) (fun k h=>x k (fun e=>l (by rw[<-e];exact h))),?_,fq (cM v (fun k e=>x k (by simp[Value.ownBlock] at e;omega))) (fun _ _=>a5 _),fun k h=>aM (f k h),aM i,l,fun k e=>?_,fun k h=>?_⟩
  ·have W:=(hb.block p lp).trans c;simp only [World.setCell,bL,if_true,W,bS];simp
  ·simp[Value.ownBlock] at e;exact⟨aK e,fun h=>by have:=j k (f k h);omega⟩
  ·rw[hs];rcases h with h|h
   ·have:=j k h;omega
   ·omega
 qC:=fun _ _=>rfl
theorem qT {b:Type}(o:dC b)(p:Nat)(vr:bD)(D:Int->Prop)(c fk d:gu)(is:b->Int->Bool)(kp:b->Int->Int×b)(nw:b->Int->Int)(ea:dV c.f)(gV:dV fk.f)(en:dV d.f)(ha:kJ o D c.f c.b c.c is)(hk:ou o D fk.f fk.b fk.c kp)(ht:lP o D d.f d.b d.c nw):
 mB (di o p vr) D c fk d (fun s x=>is s.1 x) (fun s x=>((kp s.1 x).1,((kp s.1 x).2,s.2))) (fun s x=>nw s.1 x) where
 ea:=ea
 gV:=gV
 en:=en
 ha:=by
  rintro F s w x f ⟨g,ad,cap,i,_⟩
  exact ha g s.1 w x f i
 hk:=by
  rintro F s w x f _ ⟨g,ad,cap,i,q,l,t,N,u,m,S⟩
  refine(hk g s.1 w x f i).mono ?_;rintro r w' ⟨v,rfl,B,j,n⟩
  have lp:=lt_of_some q;refine⟨fun k=>F k\/v k,rfl,⟨v,ad,cap,B,(j.block p lp u).trans q,cM l (fun k e=>j.block k (cv l k e).2 (m k e).2),fun k h=>aK h,aM N,fun h=>(n p h).elim u (fun h=>by omega),fun k e=>⟨aM (m k e).1,fun h=>(n k h).elim (m k e).2 (fun h=>by have:=(cv l k e).2;omega)⟩,fun k h=>?_⟩,j.mono t,fun k h=>?_⟩
  ·rcases h with h|h
   ·exact aO (S k h) j.size
   ·exact o.lt B k h
  ·rcases h with h|h
   ·exact aM h
   ·exact(n k h).imp (t k) id
 ht:=by
  rintro F s w x f ⟨g,ad,cap,i,_⟩
  exact ht g s.1 w x f i
 hl:=fun _ _=>rfl
end Go.Proofs.YtpkjkjhanlbcoaaGreat
