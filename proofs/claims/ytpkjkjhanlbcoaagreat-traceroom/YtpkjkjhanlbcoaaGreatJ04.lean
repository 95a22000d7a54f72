import Derived.Test.YtpkjkjhanlbcoaaGreatJ03
import Derived.Maps.OwnSet
import Derived.Tactics
import Derived.Tactics2
import Derived.Recover
import Derived.Laws.EntriesVeiled
open Array renaming getElem?_modify->bK,size->I
open Bool renaming and_false->LM,and_true->Cy,false->MK,true->ML
open Go renaming Addr->bI,Calls->J,TypeId->bU,Value->bj,splice->nC
open Go.Ending renaming returned->MD
open Go.IntKind renaming u64->r4
open Go.Obj renaming cells->E
open Go.Proofs.Tryz renaming prog->MO
open Go.RowKit renaming Below->MM
open Go.Value renaming bool->bJ,int->U,ownBlock->MP,pointer->bL,slice->My,tuple->a6
open Go.World renaming alloc->bE,cell?->V,frozen?->bO,heap->MA,ownsRow->aC,setCell->ay
open Int renaming le_refl->sS,toNat->MJ
open List renaming contains->bQ,getD->X,getElem?_append_left->p2,getElem?_append_right->lg,getElem?_drop->tV,getElem?_take_of_lt->mo,length->Mx,mem_cons->bT,mem_filter->bM
open Ne renaming symm->Et
open Option renaming map_some->bR,none->MH,some->Z
namespace Go.Proofs.YtpkjkjhanlbcoaaGreat
set_option maxRecDepth 100000
set_option maxHeartbeats 2000000
open Tryz
open Go.RowKit W
theorem tz {P:Prop}(h:P:=by
 go_wp2_with fail;refine P.mono ?_;clear P;rintro e w1 ⟨rfl,hb1⟩
 have y1:=(hb1.cell (p:=av pw 0) iS).trans c0;go_wp2_with fail;refine(k9.o w1 hb1).mono ?_;rintro e w2 ⟨rfl,W2,F2⟩
 clear y1;go_wp2_with fail;refine(oo.o w2).mono ?_;rintro e w3 ⟨rfl,hb3⟩
 have W3:=W2.o.below hb3;have nn:=F2.o.trans (Fr.of (X:=fun k=>k=p\/k=q\/k=pc\/k=cU) hb3) (fun _ c=>aM c)
 obtain⟨y0,y1,_,_,l3⟩:=W3.cells;clear y0 y1;go_wp2_with fail;go_ret;exact⟨rfl,W3,nn⟩):P:=h
theorem xM {P:Prop}(h:P:=by
 by_cases c:i<t
 ·rw[p2 (by simp;omega),aI aa,mo c]
 ·have e1:Mx (ws.take t)=t:=by simp;omega
  rw[lg aa,e1];by_cases c2:i<t+n
  ·rw[aJ aa,p2 aa,mo aa,tV,show f+(i-t)=f+i-t by omega]
  ·rw[aI aa,lg aa,hl,tV,show t+n+(i-t-n)=i by omega]):P:=h
theorem xN {P:Prop}(h:P:=by
 go_enter func92,ntmps92;go_wp2_with fail;refine P.mono ?_;rintro e w1 ⟨rfl,hb1⟩
 have y1:=(hb1.cell (p:=av pw 0) iS).trans hc;go_wp2_with fail;refine(K.o w1 hb1).mono ?_;rintro e w2 ⟨rfl,hb2⟩
 have eE:=hb1.trans (hb2.mono hb1.size)
 go_wp2_with fail;refine(k9.o w2 eE).mono ?_;rintro e w3 ⟨rfl,hb3⟩
 have j_:=eE.trans (hb3.mono eE.size)
 go_wp2_with fail
 go_ret3
 exact⟨rfl,j_⟩):P:=h
theorem xO {P:Prop}(h:P:=by
 go_enter func92,ntmps92;go_wp2_with fail;refine P.mono ?_;rintro e w1 ⟨rfl,hb1⟩
 have y1:=(hb1.cell (p:=av pw 0) iS).trans hc;go_wp2_with fail;refine(K.o w1 hb1).mono ?_;rintro e w2 ⟨rfl,hb2⟩
 have eE:=hb1.trans (hb2.mono hb1.size)
 go_wp2_with fail
 go_ret3
 exact⟨rfl,eE⟩):P:=h
theorem tC {P:Prop}(h:P:=by rw[et (h_ hi.1 hi.2),et (h_ hi.1 hi.2),ka _ _ _ _ _ hlt,aI aa,aI aa]):P:=h
theorem tD {P:Prop}(h:P:=by simp only [World.setCell,bK,if_true,h,bR];simp):P:=h
theorem xP {P:Prop}(h:P:=by rw[hw1,aS _ _ _ ac];simpa using aP (bE W4 (E #[bL (Z ⟨o.p,0,MH⟩)] 52)) (E #[bJ MK] 4)):P:=h
theorem xQ {P:Prop}(h:P:=by rw[et (i9 hi.1 aa),et (i9 hi.1 hi.2),ka _ _ _ _ _ hlt,aI aa,aI aa]):P:=h
theorem xR {P:Prop}(h:P:=by simpa using aP (bE w (E #[bL (Z ⟨o.p,0,MH⟩)] 52)) (E #[fa.v,fk.v,fn.v] 145)):P:=h
theorem du (h:Int):0<=pf h/\pf h<=12:=by
 unfold pf;split
 ·have:=jf _ _ (by assumption)
  omega
 ·omega
theorem nr {N y g:Nat}{ws:List Int}{hi:Int}:∀(k:Nat)(a x:Int),x∈eQ N y g ws hi k a->a<=x/\x<hi
 |0,_,_,h=>by simp[eQ] at h
 |k+1,a,x,h=>by
  unfold eQ at h;split at h
  ·split at h
   ·rcases bT.1 h with h|h
    ·rw[h];exact⟨sS _,by assumption⟩
    ·have b:=nr k _ x h;have c:=du (ld N y g ws a)
     omega
   ·simp at h
  ·simp at h
theorem xS {N O y g:Nat}{ws:List Int}{x:Int}(h:tB N y g ws x=ML)(hN:N<=256)(hy:y<=N)(hO:O<=1024)(hg:g<=O):0<=cr x/\cr x<=1280:=by
 unfold tB at h;simp only [Bool.and_eq_true,Bool.or_eq_true,List.contains_iff_mem] at h;rcases h.2 with h|h
 ·have:=nr _ _ _ h;omega
 ·have:=nr _ _ _ h;omega
def eK (N y g:Nat)(ws:List Int)(x i:Int):Int:=
 if tB N y g ws x=ML then(if pk (ld N y g ws (cr x))=5 then 2 else if i<0\/iU N y g (cr x) (pf (ld N y g ws (cr x)))<=i then 1 else 0) else 2
section
variable {pw p q N O y g:Nat}{ws:List Int}
theorem xT (x i:Int)(w:az)(hc:V w (av pw 0)=Z (aq p))(h:At w p q N O y g ws):
 J MO 92 #[aq pw,ak x,ak i] w fun e w'=>e=MD (a6 #[ak (if eK N y g ws x i=0 then cr x else 0),ak (if eK N y g ws x i=0 then cr x+1+i else 0),ak (eK N y g ws x i)])/\MM (I (MA w)) w w':=by
 have c:aA (At w p q N O y g ws):=h;have iS:=aT w _ hc;have P:=xK x w hc h;have k1:=h.hN';have l:=h.hy;have m:=h.hO;have n:=h.hg;cases ht:tB N y g ws x
 ·rw[ht] at P;have b:eK N y g ws x i=2:=by unfold eK;rw[ht,aI ac]
  rw[b,aI ae,aI ae];generalize ki N y g ws x=v at P;go_enter func92,ntmps92;go_wp2_with fail;refine P.mono ?_;rintro e w1 ⟨rfl,hb1⟩
  go_wp2_with fail
  go_ret3
  exact⟨rfl,hb1⟩
 ·obtain⟨d,b1⟩:=xS (O:=O) ht k1 l m n;have j:=du (ld N y g ws (cr x))
  rw[ht] at P;have ev:ki N y g ws x=cr x:=by simp[ki,ht]
  rw[ev] at P;have b:eK N y g ws x i=if pk (ld N y g ws (cr x))=5 then 2 else if i<0\/iU N y g (cr x) (pf (ld N y g ws (cr x)))<=i then 1 else 0:=by unfold eK;rw[aJ ht]
  rw[b];generalize cr x=v at P j d b1;have K:aA (∀w1,MM (I (MA w)) w w1->_):=fun w1 hb=>gH v w1 (c.o.below hb b8)
  have k9:aA (∀w1,MM (I (MA w)) w w1->J MO 171 #[aq pw,ak v,ak (pf (ld N y g ws v))] w1 fun e w'=>e=MD (ak (iU N y g v (pf (ld N y g ws v))))/\MM (I (MA w1)) w1 w'):=fun w1 hb=>xL v _ w1 ((hb.cell (p:=av pw 0) iS).trans hc) (c.o.below hb b8) d aa;have o:iU N y g v (pf (ld N y g ws v))<=12:=by unfold iU;exact Int.le_trans (Int.min_le_left _ _) j.2
  generalize iU N y g v (pf (ld N y g ws v))=s at k9 o⊢;generalize pk (ld N y g ws v)=kd at K⊢;generalize pf (ld N y g ws v)=f at K k9;generalize pc (ld N y g ws v)=cc at K;by_cases k:kd=5
  ·subst k;rw[aJ rfl,aI ae,aI ae];exact xO
  ·rw[aI k];by_cases hi:i<0
   ·rw[aJ (aM hi),aI ae,aI ae];exact xO
   ·by_cases hs:s<=i
    ·rw[aJ (aK hs),aI ae,aI ae];exact xN
    ·have t:¬(i<0\/s<=i):=aa;rw[aI t,aJ rfl,aJ rfl];exact xN
theorem D7 (x i:Int)(w:az)(hc:V w (av pw 0)=Z (aq p))(h:At w p q N O y g ws):
 J MO 45 #[aq pw,ak x,ak i] w fun e w'=>e=MD (a6 #[ak (if eK N y g ws x i=0 then ld N y g ws (cr x+1+i) else 0),ak (eK N y g ws x i)])/\MM (I (MA w)) w w':=by
 have c:=hide h;have d:=aT w _ hc;have P:=xT x i w hc h;generalize eK N y g ws x i=cd at P⊢;by_cases h0:cd=0
 ·subst h0;rw[aJ rfl,aJ rfl] at P;rw[aJ rfl];generalize cr x+1+i=fl at P⊢;generalize cr x=v at P;go_enter func45,ntmps45;go_wp2_with fail;refine P.mono ?_;rintro e w1 ⟨rfl,b⟩
  have y1:=(b.cell (p:=av pw 0) d).trans hc;go_wp2_with fail;refine(j9 fl w1 (c.o.below b b8)).mono ?_;rintro e k ⟨rfl,f⟩
  have j:=b.trans (f.mono b.size)
  go_wp2;go_ret2;exact⟨rfl,j⟩
 ·rw[aI h0,aI h0] at P;rw[aI h0];go_enter func45,ntmps45;go_wp2_with fail;refine P.mono ?_;rintro e w1 ⟨rfl,b⟩
  go_wp2;go_ret2;exact⟨rfl,b⟩
end
def eh (L:Int->Int)(hi:Int):Int->List Int->Prop
 |a,[]=>a=hi
 |a,x::l=>x=a/\pc (L a)=0/\a+(1+pf (L a))<=hi/\eh L hi (a+(1+pf (L a))) l
section
variable {L L':Int->Int}{hi:Int}
theorem eh.done:eh L hi hi []:=rfl
theorem eh.step {a:Int}{l:List Int}(h0:pc (L a)=0)(b:a+(1+pf (L a))<=hi)(ht:eh L hi (a+(1+pf (L a))) l):eh L hi a (a::l):=⟨rfl,h0,b,ht⟩
theorem eh.mem {a:Int}{l:List Int}(h:eh L hi a l):∀x∈l,a<=x/\x+(1+pf (L x))<=hi/\pc (L x)=0:=by
 induction l generalizing a with
 |nil=>intro x b;simp at b
 |cons z l c=>
  obtain⟨rfl,h0,d,ht⟩:=h;intro x b;rcases bT.1 b with rfl|b
  ·exact⟨sS _,d,h0⟩
  ·have:=du (L z)
   have e:=c ht x b;exact⟨aa,e.2⟩
theorem eh.apart {a:Int}{l:List Int}(h:eh L hi a l):∀x∈l,∀z∈l,x<z->x+(1+pf (L x))<=z:=by
 induction l generalizing a with
 |nil=>intro x b;simp at b
 |cons y l e=>
  obtain⟨rfl,h0,i,ht⟩:=h;intro x b z hz f;rcases bT.1 b with ex|d
  ·rcases bT.1 hz with g|c
   ·omega
   ·rw[ex];exact(ht.mem z c).1
  ·rcases bT.1 hz with g|c
   ·have j:=(ht.mem x d).1;have k:=du (L y)
    omega
   ·exact e ht x d z c f
theorem eh.heads {a:Int}{l:List Int}(h:eh L hi a l)(he:∀x∈l,L' x=L x):eh L' hi a l:=by
 induction l generalizing a with
 |nil=>exact h
 |cons z l b=>
  obtain⟨rfl,h0,c,ht⟩:=h;have e:=he z ac;refine .step (by rw[e];exact h0) (by rw[e];exact c) ?_;rw[e];exact b ht (fun x d=>he x (by simp[d]))
theorem eh.snoc {a:Int}{l:List Int}(h:eh L hi a l)(he:∀x∈l,L' x=L x){b:Int}(h0:pc (L' hi)=0)(c:b=hi+(1+pf (L' hi))):eh L' b a (l++[hi]):=by
 have hp:=du (L' hi)
 induction l generalizing a with
 |nil=>
  have e:=h;subst e;refine .step h0 aa ?_;rw[<-c];exact .done
 |cons z l d=>
  obtain⟨rfl,f,i,ht⟩:=h;have e:=he z ac;refine .step (by rw[e];exact f) (by rw[e];omega) ?_;rw[e];exact d ht (fun x g=>he x (by simp[g]))
theorem eh.field {a:Int}{l:List Int}(h:eh L hi a l){v i:Int}(hv:v∈l)(b:0<=i)(c:i<pf (L v)):v+1+i∉l:=by intro hm;have:=h.apart v hv _ hm aa;omega
theorem eh.eQ {N y g:Nat}{ws:List Int}{hi a:Int}{l:List Int}(h:eh (ld N y g ws) hi a l):∀k:Nat,hi-a<=k->eQ N y g ws hi k a=l:=by
 induction l generalizing a with
 |nil=>
  have e:a=hi:=h;subst e;intro k _;exact xp k (sS _)
 |cons z l b=>
  obtain⟨rfl,h0,c,ht⟩:=h;intro k hk;have hp:=du (ld N y g ws z)
  match k,hk with
  |0,hk=>omega
  |k+1,hk=>
   unfold Proofs.YtpkjkjhanlbcoaaGreat.eQ;rw[aJ aa,aJ h0,b ht k aa]
end
structure ei (N y g:Nat)(ws:List Int)(Y G:List Int):Prop where
 ty:eh (ld N y g ws) y 0 Y
 eC:eh (ld N y g ws) ((N:Int)+g) N G
theorem ei.lists {N O y g:Nat}{ws:List Int}{Y G:List Int}(h:ei N y g ws Y G)(hN:N<=256)(hy:y<=N)(hO:O<=1024)(hg:g<=O):eJ N y g ws=Y/\dL N y g ws=G:=
 ⟨h.ty.eQ 2000 aa,h.eC.eQ 2000 aa⟩
theorem ei.start {N:Nat}{ws:List Int}:ei N 0 0 ws [] []:=⟨.done,by simpa using eh.done (L:=ld N 0 0 ws) (hi:=(N:Int))⟩
theorem ei.stands {N y g:Nat}{ws:List Int}{Y G:List Int}(h:ei N y g ws Y G)(hy:y<=N){v:Int}(hv:v∈Y\/v∈G):iU N y g v (pf (ld N y g ws v))=pf (ld N y g ws v):=by
 have hp:=du (ld N y g ws v)
 refine Int.min_eq_left ?_;rcases hv with hv|hv
 ·have b:=h.ty.mem v hv;have e:hB N g v=MK:=by rw[Bool.eq_false_iff];intro c;have:=jP c;omega
  rw[e,aI ac];omega
 ·have b:=h.eC.mem v hv;have e:hB N g v=ML:=by exact bq ⟨b.1,aa⟩
  rw[e,aJ rfl];omega
def lR (M:List Int)(k:Int):List Int:=if bQ M k then M else M++[k]
theorem tE (M:List Int)(k j:Int):bQ (lR M k) j=(bQ M j||j==k):=by
 unfold lR;by_cases c:bQ M k=ML
 ·rw[aJ c];by_cases e:j=k
  ·subst e;rw[c];rfl
  ·simp[e]
 ·rw[aI c];by_cases e:j=k<;>simp[e]
theorem D8 (M:List Int)(k:Int):Mx (lR M k)<=Mx M+1:=by unfold lR;split<;>simp
theorem tH:Maps.Keyed MO 173:=Maps.int_keyed underlying173
theorem D9 (w:az):(zeroValue 212).run MO w=.ok (.agg #[]) w:=ah
structure Cd (w:az)(p q:Nat)(B c:Int)(M:List Int):Prop where
 hp:w.heap[p]?=Z (E #[ak B,.int r4 c,.map (Z q)] 176 (0,0))
 hq:∃D:DataW Unit,w.ownsMap MO 173 unitElem q (Mx M) D/\(∀k:Int,Maps.has D (.int r4 k)=M.contains k)/\Maps.size D=Mx M
theorem tJ {H:Type}{P:Program}{k:bU}{R:bj->Option _}{w w':az}{b n:Nat}{D:DataW H}(h:w.ownsMap P k R b n D)(e:w'.heap[b]?=w.heap[b]?):w'.ownsMap P k R b n D:=by obtain⟨c,d,hb,r⟩:=h;exact⟨c,d,e.trans hb,r⟩
theorem tK {H:Type}{P:Program}{k:bU}{R:bj->Option _}{w:az}{b n m:Nat}{D:DataW H}(h:w.ownsMap P k R b n D)(e:Maps.size D=m):w.ownsMap P k R b m D:=by obtain⟨c,d,hb,F,hs,rfl⟩:=h;exact⟨c,d,hb,F,by rw[<-e];simp[Maps.size,length_sorted],rfl⟩
theorem Cd.e_ {w:az}{p q:Nat}{B c:Int}{M:List Int}(h:Cd w p q B c M):p<I (MA w):=lt_of_some h.hp
theorem Cd.fe {w:az}{p q:Nat}{B c:Int}{M:List Int}(h:Cd w p q B c M):q<I (MA w):=by obtain⟨D,b,_⟩:=h.hq;exact b.lt
theorem Cd.ne {w:az}{p q:Nat}{B c:Int}{M:List Int}(h:Cd w p q B c M):p≠q:=by intro e;obtain⟨D,⟨d,f,hb,_⟩,_⟩:=h.hq;have b:=h.hp;rw[e,hb] at b;simp at b
theorem Cd.same {w w':az}{p q:Nat}{B c:Int}{M:List Int}(h:Cd w p q B c M)(ep:w'.heap[p]?=w.heap[p]?)(eq:w'.heap[q]?=w.heap[q]?):Cd w' p q B c M:=by obtain⟨D,b,d⟩:=h.hq;exact⟨ep.trans h.hp,D,tJ b eq,d⟩
theorem Cd.below {w w':az}{p q X:Nat}{B c:Int}{M:List Int}(h:Cd w p q B c M)(hb:MM X w w')(b:I (MA w)<=X):Cd w' p q B c M:=
 h.same (hb.block p (aO h.e_ b)) (hb.block q (aO h.fe b))
theorem Cd.cells {w:az}{p q:Nat}{B c:Int}{M:List Int}(h:Cd w p q B c M):
 V w (av p 0)=Z (ak B)/\V w (av p 1)=Z (U r4 c)/\V w (av p 2)=Z (.map (Z q)):=by
 have hp:=h.hp;refine⟨?_,?_,?_⟩<;>simp[World.cell?,hp]
theorem Cd.put {w w':az}{p q:Nat}{B c k:Int}{M:List Int}{D:DataW Unit}{n:Nat}(h:w.heap[p]?=Z (E #[.int .i64 B,.int r4 c,.map (Z q)] 176 (0,0)))
 (h0:w.ownsMap MO 173 unitElem q (Mx M) D)(d:∀k:Int,Maps.has D (.int r4 k)=M.contains k)(f:Maps.size D=Mx M)(g:p≠q)
 (l:w'.ownsMap MO 173 unitElem q n (D.put (.int r4 k) (.agg [])))(b:w.grownBy w' (Z q)):Cd w' p q B c (lR M k)/\di p q w w':=by
 have hs:Maps.size (D.put (.int r4 k) (.agg []))=Mx (lR M k):=by rw[Maps.size_put (h0.tidy tH),d,f];unfold lR;split<;>simp
 refine⟨⟨(b.block p (lt_of_some h) (fun e=>g (by cases e;rfl))).trans h,_,tK l hs,fun j=>?_,hs⟩,⟨b.os,b.tape,b.output,b.size,fun i hi _ e=>b.block i hi (fun m=>e (by cases m;rfl))⟩⟩
 rw[tE];by_cases e:j=k
 ·subst e;rw[Maps.has_put_same (k:=.int r4 j) h0.isMap trivial];simp
 ·rw[Maps.has_put_other (by simpa using e),d];simp[e]
theorem Cd.none {w:az}{p q:Nat}{B c:Int}(h:w.heap[p]?=Z (E #[.int .i64 B,.int r4 c,.map (Z q)] 176 (0,0)))(b:w.ownsMap MO 173 unitElem q 0 (.map []:DataW Unit)):Cd w p q B c []:=
 ⟨h,_,b,fun _=>rfl,rfl⟩
def dN (x:Int):Int:=if x<0 then 0 else(x+8-1)/8
def cN (B a:Int):Int:=if a<B then 0 else(a-B)/8
def gx (B c a:Int):Bool:=decide (B<=a)&&decide ((a-B)/8<c)
theorem D_ (x:Int)(w:az)(h:x<=100000):J MO 166 #[ak x] w fun e w'=>e=MD (U r4 (dN x))/\w'=w:=by
 by_cases c:x<0
 ·have e:dN x=0:=by unfold dN;rw[aJ c]
  rw[e];go_enter func166,ntmps166;go_wp2;go_ret;exact⟨rfl,rfl⟩
 ·have e:dN x=(x+8-1)/8:=by unfold dN;rw[aI c]
  go_wp2;go_ret;exact⟨rfl,rfl⟩
theorem xU {p q:Nat}{B c:Int}{M:List Int}(a:Int)(w:az)(h:Cd w p q B c M)(hB:0<=B)(d:B<=100000)(ha:a<=9223372036854775807):
 J MO 175 #[aq p,ak a] w fun e w'=>e=MD (a6 #[U r4 (cN B a),bJ (gx B c a)])/\MM (I (MA w)) w w':=by
 obtain⟨c0,c1,c2⟩:=h.cells;by_cases hc:a<B
 ·have e:gx B c a=MK:=by unfold gx;rw[bB aa];rfl
  have b:cN B a=0:=by unfold cN;rw[aJ hc]
  rw[e,b];go_enter func175,ntmps175;go_wp2;go_ret2;exact⟨rfl,aH _ _⟩
 ·have e:gx B c a=decide ((a-B)/8<c):=by unfold gx;rw[bq aa];rfl
  have b:cN B a=(a-B)/8:=by unfold cN;rw[aI hc]
  rw[e,b];go_enter func175,ntmps175;exact sW
def lS (B c a:Int)(M:List Int):List Int:=if gx B c a then lR M (cN B a) else M
theorem xV {B c a:Int}{M:List Int}(h:gx B c a=ML):lS B c a M=lR M (cN B a):=by unfold lS;rw[aJ h]
theorem Ea {B c a:Int}{M:List Int}(h:gx B c a=MK):lS B c a M=M:=by unfold lS;rw[aI (by rw[h];simp)]
theorem xW {B a:Int}(hB:0<=B)(ha:a<=9223372036854775807):(Lit.int r4 (cN B a)).wf=ML:=by
 unfold cN;split
 ·decide
 ·have b:0<=(a-B)/8:=aa;exact WalkArith.wf_u64 ⟨b,aa⟩
theorem Eb {p q:Nat}{B c:Int}{M:List Int}(a:Int)(w:az)(h:Cd w p q B c M)(hB:0<=B)(f:B<=100000)(ha:a<=9223372036854775807)(hM:Mx M<=100000):
 J MO 97 #[aq p,ak a] w fun e w'=>e=MD (.bool (gx B c a))/\Cd w' p q B c (lS B c a M)/\di p q w w':=by
 go_enter func97,ntmps97;go_wp2_with fail;refine(xU a _ h hB f ha).mono ?_;rintro e w1 ⟨rfl,d⟩
 have b:=h.below d b8
 obtain⟨c0,c1,c2⟩:=b.cells;obtain⟨D,o1,g,i⟩:=b.hq;cases hc:gx B c a
 ·go_wp2;go_ret;exact⟨by rw[hc];rfl,by rw[Ea hc];exact b,di.of d⟩
 ·go_wp2_with (first
   |(at_mapUpdate;refine wpList_mapUpdate_own _ rfl _ _ _ 174 rfl 173 212 tH underlying174 _ q (Mx M) D rfl o1 (by unfold maxLen;omega) _ _ _ rfl rfl (Maps.keyOf_int_mk (P:=MO) underlying173 (xW (B:=B) (a:=a) hB ha)) _ [] unitElem_mk ?_;intro m j k)
   |go_in)
  go_ret;obtain⟨l,s2⟩:=Cd.put b.hp o1 g i b.ne j k;exact⟨by rw[hc];rfl,by rw[xV hc];exact l,(di.of d).trans s2⟩
theorem Ec {p q:Nat}{B c:Int}{M:List Int}(a:Int)(w:az)(h:Cd w p q B c M)(hB:0<=B)(f:B<=100000)(ha:a<=9223372036854775807):
 J MO 184 #[aq p,ak a] w fun e w'=>e=MD (.bool (gx B c a&&M.contains (cN B a)))/\MM (I (MA w)) w w':=by
 go_enter func184,ntmps184;go_wp2_with fail;refine(xU a _ h hB f ha).mono ?_;rintro e w1 ⟨rfl,b⟩
 have d:=h.below b b8
 obtain⟨c0,c1,c2⟩:=d.cells;obtain⟨D,o1,g,i⟩:=d.hq;cases hc:gx B c a
 ·go_wp2;go_ret;exact⟨by rw[hc];rfl,b⟩
 ·go_wp2_with (first
   |(at_lookup;refine wpList_lookup_own_unit _ rfl _ _ 174 rfl 173 212 tH underlying174 (D9 _) q (Mx M) D rfl o1 _ _ rfl (Maps.keyOf_int_mk underlying173 (xW (a:=a) hB ha)) ?_)
   |go_in)
  go_ret;exact⟨by rw[hc];simp,b.alloc b.size _⟩
theorem tL {p:Nat}{B c:Int}{v:bj}(w:az)(h:w.heap[p]?=Z (E #[ak B,U r4 c,v] 176 (0,0))):
 J MO 115 #[aq p] w fun e w'=>e=MD (a6 #[])/\Cd w' p (I (MA w)) B c []/\di p p w w':=by
 have b:=@run_makeMap MO;have hp:=lt_of_some h;have d:bO (bE w (.map #[] 0)) (av p 2)=MK:=by simp[World.frozen?,Below.heap_alloc _ _ _ hp,h]
 have hc:V (bE w (.map #[] 0)) (av p 2)=Z v:=by simp[World.cell?,Below.heap_alloc _ _ _ hp,h]
 go_enter func115,ntmps115;go_wp2_with fail;go_end0;have hm:=World.ownsMap_made (ay w ⟨p,2,MH⟩ (.map (Z (I (MA w))))) MO 173 (unitElem (H:=Unit))
 have hz:I (MA (ay w ⟨p,2,MH⟩ (.map (Z (I (MA w))))))=I (MA w):=by simp[World.setCell]
 rw[hz] at hm;refine⟨rfl,Cd.none ((aS _ _ _ aa).trans ?_) hm,(di.pd _ _).trans (di.of (b9.alloc b8 _))⟩
 simp only [World.setCell,bK,if_true,h,bR];simp
theorem Ed (B x:Int)(w:az)(h:x<=100000):
 J MO 87 #[ak B,ak x] w fun e w'=>∃p q,e=MD (aq p)/\Cd w' p q B (dN x) []/\I (MA w)<=p/\I (MA w)<=q/\MM (I (MA w)) w w':=by
 go_enter func87,ntmps87;go_wp2_with fail;refine(D_ x _ h).mono ?_;rintro e w1 ⟨rfl,b⟩
 have b:=b.symm;subst b;go_wp2_with fail;refine(tL (v:=.map MH) _ (aP _ _)).mono ?_;rintro e d ⟨rfl,c,s2⟩
 go_wp2_with fail;go_ret;exact⟨_,_,rfl,c,aG _,ac,(b9.alloc b8 _).trans (s2.below ac b8 b8)⟩
structure iC (w:az)(pw p q pc cU N O y g:Nat)(ws:List Int)(c:Int)(M:List Int)(vs vr:bj):Prop where
 blk:w.heap[pw]?=Z (E #[aq p,aq pc,vs,vr] 55 (0,0))
 ar:At w p q N O y g ws
 cd:Cd w pc cU N c M
section
variable {w w':az}{pw p q pc cU N O y g:Nat}{ws:List Int}{c:Int}{M:List Int}{vs vr:bj}
theorem iC.cells (h:iC w pw p q pc cU N O y g ws c M vs vr):V w (av pw 0)=Z (aq p)/\V w (av pw 1)=Z (aq pc)/\V w (av pw 2)=Z vs/\V w (av pw 3)=Z vr/\pw<I (MA w):=
 ⟨by simp[World.cell?,h.blk],by simp[World.cell?,h.blk],by simp[World.cell?,h.blk],by simp[World.cell?,h.blk],lt_of_some h.blk⟩
theorem iC.apart (h:iC w pw p q pc cU N O y g ws c M vs vr):pw≠p/\pw≠q/\pw≠pc/\pw≠cU/\p≠pc/\p≠cU/\q≠pc/\q≠cU:=by
 obtain⟨D,⟨j,k,hb,_⟩,_⟩:=h.cd.hq;have b:=h.blk;have d:=h.ar.hp;have f:=h.ar.hq;have i:=h.cd.hp;refine⟨fun e=>?_,fun e=>?_,fun e=>?_,fun e=>?_,fun e=>?_,fun e=>?_,fun e=>?_,fun e=>?_⟩
 ·rw[e,d] at b;simp at b
 ·rw[e,f] at b;simp at b
 ·rw[e,i] at b;simp at b
 ·rw[e,hb] at b;simp at b
 ·rw[e,i] at d;simp at d
 ·rw[e,hb] at d;simp at d
 ·rw[e,i] at f;simp at f
 ·rw[e,hb] at f;simp at f
theorem iC.below (h:iC w pw p q pc cU N O y g ws c M vs vr)(hb:MM (I (MA w)) w w'):iC w' pw p q pc cU N O y g ws c M vs vr:=
 ⟨(hb.block pw (lt_of_some h.blk)).trans h.blk,h.ar.below hb b8,h.cd.below hb b8⟩
theorem iC.arena (h:iC w pw p q pc cU N O y g ws c M vs vr){b d:Nat}{e:List Int}(ha:At w' p q N O b d e)(s:di p q w w'):iC w' pw p q pc cU N O b d e c M vs vr:=by obtain⟨a1,a2,l,m,f,i,j,k⟩:=h.apart;exact⟨(s.block pw (lt_of_some h.blk) a1 a2).trans h.blk,ha,h.cd.same (s.block pc h.cd.e_ (Et f) (Et j)) (s.block cU h.cd.fe (Et i) (Et k))⟩
theorem iC.cards (h:iC w pw p q pc cU N O y g ws c M vs vr){b:List Int}(hc:Cd w' pc cU N c b)(s:di pc cU w w'):iC w' pw p q pc cU N O y g ws c b vs vr:=by obtain⟨a1,a2,d,e,f,i,j,k⟩:=h.apart;exact⟨(s.block pw (lt_of_some h.blk) d e).trans h.blk,h.ar.same (s.block p h.ar.e_ f i) (s.block q h.ar.fe j k),hc⟩
def gI (N y g:Nat)(ws:List Int)(x i z:Int):List Int:=if eK N y g ws x i=0 then(if dv N y g (cr x+1+i)=ML then ws.set (MJ (cr x+1+i)) z else ws) else ws
def ns (N y g:Nat)(ws:List Int)(x i z:Int):Bool:=decide (eK N y g ws x i=0)&&(de z&&hB 0 y (cr z)&&hB N g (cr x))
def stM (N y g:Nat)(ws:List Int)(x i z c:Int)(M:List Int):List Int:=if ns N y g ws x i z=ML then lS N c (cr x) M else M
theorem Ee (x i z:Int)(h:iC w pw p q pc cU N O y g ws c M vs vr)(hM:Mx M<=100000):
 J MO 44 #[aq pw,ak x,ak i,ak z] w fun e w'=>e=MD (ak (eK N y g ws x i))/\iC w' pw p q pc cU N O y g (gI N y g ws x i z) c (stM N y g ws x i z c M) vs vr/\Fr (fun k=>k=p\/k=q\/k=pc\/k=cU) w w':=by
 have H:aA (_):=h;obtain⟨c0,c1,_,_,iS⟩:=h.cells;have P:=xT x i w c0 h.ar;have k1:=h.ar.hN';have ao:=h.ar.hy;have ap:=h.ar.hO;have ar:=h.ar.hg;have aF:∀{a b:az},di p q a b->Fr (fun k=>k=p\/k=q\/k=pc\/k=cU) a b:=fun s=>⟨s.os,s.tape,s.output,s.size,fun k hk hn=>s.block k hk (fun e=>hn (aM e)) (fun e=>hn (aK (aM e)))⟩
 have aR:∀{a b:az},di pc cU a b->Fr (fun k=>k=p\/k=q\/k=pc\/k=cU) a b:=fun s=>⟨s.os,s.tape,s.output,s.size,fun k hk hn=>s.block k hk (fun e=>hn (aK (aK (aM e)))) (fun e=>hn (aK (aK (aK e))))⟩
 clear h;by_cases h0:eK N y g ws x i=0
 ·have ht:tB N y g ws x=ML:=by
   cases e:tB N y g ws x
   ·unfold eK at h0;rw[e,aI ac] at h0;omega
   ·rfl
  obtain⟨a0,b1⟩:=xS (O:=O) ht k1 ao ap ar;have B:gI N y g ws x i z=if dv N y g (cr x+1+i)=ML then ws.set (MJ (cr x+1+i)) z else ws:=by unfold gI;rw[aJ h0]
  have F:stM N y g ws x i z c M=if(de z&&hB 0 y (cr z)&&hB N g (cr x))=ML then lS N c (cr x) M else M:=by unfold stM ns;rw[bq h0,Bool.true_and]
  rw[h0,aJ rfl,aJ rfl] at P;rw[h0,B,F];clear B F h0 ht;generalize cr x+1+i=fl at P⊢;generalize cr x=v at P a0 b1⊢;have k9:aA (∀w1,MM (I (MA w)) w w1->J MO 93 #[aq p,ak fl,ak z] w1 fun e w'=>e=MD (bJ (dv N y g fl))/\aA (iC w' pw p q pc cU N O y g (if dv N y g fl=ML then ws.set (MJ fl) z else ws) c M vs vr)/\aA (Fr (fun k=>k=p\/k=q\/k=pc\/k=cU) w w')):=fun w1 hb=>by
   have S:=H.o.below hb;refine(lP fl z w1 S.ar).mono ?_;rintro e w2 ⟨rfl,a1,s2⟩
   exact⟨rfl,S.arena a1 s2,(Fr.of (X:=fun k=>k=p\/k=q\/k=pc\/k=cU) hb).trans (aF s2) (fun _ c=>aM c)⟩
  have oo:aA (∀w2,_):=fun w2=>oa z w2;generalize (if dv N y g fl=ML then ws.set (MJ fl) z else ws)=bb at k9⊢;generalize dv N y g fl=bd at k9;obtain⟨ab,al⟩:∃b,de z=b:=⟨_,rfl⟩
  rw[al] at oo⊢;clear al;generalize cr z=u at oo⊢;cases hb2:hB 0 y u
  ·rw[LM,Bool.false_and,aI ac];cases ab
   ·go_enter func44,ntmps44;exact tz
   ·go_enter func44,ntmps44;go_wp2_with fail;refine P.mono ?_;clear P;rintro e w1 ⟨rfl,hb1⟩
    have y1:=(hb1.cell (p:=av pw 0) iS).trans c0;go_wp2_with fail;refine(k9.o w1 hb1).mono ?_;rintro e w2 ⟨rfl,W2,F2⟩
    clear y1;go_wp2_with fail;refine(oo.o w2).mono ?_;rintro e w3 ⟨rfl,hb3⟩
    have W3:=W2.o.below hb3;have nn:=F2.o.trans (Fr.of (X:=fun k=>k=p\/k=q\/k=pc\/k=cU) hb3) (fun _ c=>aM c)
    obtain⟨y0,y1,_,_,l3⟩:=W3.cells;have d:=ni u w3 W3.ar;rw[hb2] at d;go_wp2_with fail;refine d.mono ?_;clear d;rintro e W ⟨rfl,j⟩
    have f:=W3.below j;have n:=nn.trans (Fr.of (X:=fun k=>k=p\/k=q\/k=pc\/k=cU) j) (fun _ c=>aM c)
    obtain⟨z0,o,_,_,am⟩:=f.cells;clear y0 y1;clear z0 o;go_wp2_with fail;go_ret;exact⟨rfl,f,n⟩
  ·rw[Cy];cases xX:hB N g v
   ·rw[LM,aI ac];cases ab
    ·go_enter func44,ntmps44;exact tz
    ·go_enter func44,ntmps44;go_wp2_with fail;refine P.mono ?_;clear P;rintro e w1 ⟨rfl,hb1⟩
     have y1:=(hb1.cell (p:=av pw 0) iS).trans c0;go_wp2_with fail;refine(k9.o w1 hb1).mono ?_;rintro e w2 ⟨rfl,W2,F2⟩
     clear y1;go_wp2_with fail;refine(oo.o w2).mono ?_;rintro e w3 ⟨rfl,hb3⟩
     have W3:=W2.o.below hb3;have nn:=F2.o.trans (Fr.of (X:=fun k=>k=p\/k=q\/k=pc\/k=cU) hb3) (fun _ c=>aM c)
     obtain⟨y0,y1,_,_,l3⟩:=W3.cells;have d:=ni u w3 W3.ar;rw[hb2] at d;go_wp2_with fail;refine d.mono ?_;clear d;rintro e W ⟨rfl,j⟩
     have f:=W3.below j;have n:=nn.trans (Fr.of (X:=fun k=>k=p\/k=q\/k=pc\/k=cU) j) (fun _ c=>aM c)
     obtain⟨z0,o,_,_,am⟩:=f.cells;clear y0 y1;have l:=nk v W f.ar;rw[xX] at l;go_wp2_with fail;refine l.mono ?_;clear l;rintro e an ⟨rfl,t⟩
     have m:=f.below t;have ad:=n.trans (Fr.of (X:=fun k=>k=p\/k=q\/k=pc\/k=cU) t) (fun _ c=>aM c)
     obtain⟨ag,ai,_,_,a2⟩:=m.cells;clear z0 o;clear ag ai;go_wp2_with fail;go_ret;exact⟨rfl,m,ad⟩
   ·rw[Cy];cases ab
    ·rw[aI ac];go_enter func44,ntmps44;exact tz
    ·rw[aJ rfl];go_enter func44,ntmps44;go_wp2_with fail;refine P.mono ?_;clear P;rintro e w1 ⟨rfl,hb1⟩
     have y1:=(hb1.cell (p:=av pw 0) iS).trans c0;go_wp2_with fail;refine(k9.o w1 hb1).mono ?_;rintro e w2 ⟨rfl,W2,F2⟩
     clear y1;go_wp2_with fail;refine(oo.o w2).mono ?_;rintro e w3 ⟨rfl,hb3⟩
     have W3:=W2.o.below hb3;have nn:=F2.o.trans (Fr.of (X:=fun k=>k=p\/k=q\/k=pc\/k=cU) hb3) (fun _ c=>aM c)
     obtain⟨y0,y1,_,_,l3⟩:=W3.cells;have d:=ni u w3 W3.ar;rw[hb2] at d;go_wp2_with fail;refine d.mono ?_;clear d;rintro e W ⟨rfl,j⟩
     have f:=W3.below j;have n:=nn.trans (Fr.of (X:=fun k=>k=p\/k=q\/k=pc\/k=cU) j) (fun _ c=>aM c)
     obtain⟨z0,o,_,_,am⟩:=f.cells;clear y0 y1;have l:=nk v W f.ar;rw[xX] at l;go_wp2_with fail;refine l.mono ?_;clear l;rintro e an ⟨rfl,t⟩
     have m:=f.below t;have ad:=n.trans (Fr.of (X:=fun k=>k=p\/k=q\/k=pc\/k=cU) t) (fun _ c=>aM c)
     obtain⟨ag,ai,_,_,a2⟩:=m.cells;clear z0 o;go_wp2_with fail;refine(Eb v an m.cd aa aa aa hM).mono ?_;rintro e be ⟨rfl,a3,s6⟩
     have a4:=m.cards a3 s6;have ba:=ad.trans (aR s6) (fun _ c=>aM c)
     clear ag ai;go_wp2_with fail;go_ret;exact⟨rfl,a4,ba⟩
 ·have B:gI N y g ws x i z=ws:=by unfold gI;rw[aI h0]
  have F:stM N y g ws x i z c M=M:=by unfold stM ns;rw[bB h0];rfl
  rw[aI h0,aI h0] at P;rw[B,F];generalize eK N y g ws x i=cd at P h0⊢;go_enter func44,ntmps44;go_wp2_with fail;refine P.mono ?_;clear P;rintro e w1 ⟨rfl,hb1⟩
  have S:=H.o.below hb1;clear c0 c1;go_wp2_with fail;go_ret;exact⟨rfl,S,Fr.of hb1⟩
end
open Go.ChangeShapes Go.WideShapes Go.ChangeAt Go.RowKit Go.Joins Go.Deep W
namespace pz
theorem qI (ws:List Int)(t f n i:Nat)(b:t+n<=Mx ws)(d:f+n<=Mx ws):
 X (nC ws t ((ws.drop f).take n)) i 0=if t<=i/\i<t+n then X ws (f+i-t) 0 else X ws i 0:=by
 have hl:Mx ((ws.drop f).take n)=n:=by simp;omega
 unfold nC;rw[hl];simp only [List.getD_eq_getElem?_getD];exact xM
theorem copied {N O y g:Nat}{ws:List Int}{a:Nat}(hl:Mx ws=N+O)(hy:y<=N)(hi:dv N y g a=ML)(n:Nat)(d:1+(n:Int)<=gR N y g a-a)(f:1+(n:Int)<=(O:Int)-g)(j:Nat)(i:j<=n):
 ld N y (g+(1+n)) (nC ws (N+g) ((ws.drop a).take (1+n))) ((N:Int)+g+j)=X ws (a+j) 0/\ld N y (g+(1+n)) (nC ws (N+g) ((ws.drop a).take (1+n))) ((a:Int)+j)=X ws (a+j) 0:=by
 have he:gR N y g a<=(N:Int)+g:=by unfold gR;split<;>omega
 constructor
 ·have b:hB N ((g+(1+n):Nat):Int) ((N:Int)+g+j)=ML:=by simp[hB];omega
  have hi:dv N y (g+(1+n)) ((N:Int)+g+j)=ML:=by unfold dv;rw[b];simp
  unfold ld;rw[aJ hi,show MJ ((N:Int)+g+j)=N+g+j by omega,qI _ _ _ _ _ aa aa,aJ aa,show a+(N+g+j)-(N+g)=a+j by omega]
 ·have e:dv N y (g+(1+n)) ((a:Int)+j)=ML:=by
   unfold gR at d;split at d
   ·rename_i c;have c:=jP c;have b:hB 0 y ((a:Int)+j)=ML:=by simp[hB];omega
    unfold dv;rw[b];rfl
   ·rename_i c;have c1:hB N g a=ML:=by unfold dv at hi;simp only [Bool.not_eq_true] at c;rw[c] at hi;simpa using hi
    have c2:=jP c1;have b:hB N ((g+(1+n):Nat):Int) ((a:Int)+j)=ML:=by simp[hB];omega
    unfold dv;rw[b];simp
  unfold ld;rw[aJ e,show MJ ((a:Int)+j)=a+j by omega,qI _ _ _ _ _ aa aa,aI aa]
end pz
open Go.RowKit W pz
theorem et {N y g:Nat}{ws:List Int}{a:Int}(h:dv N y g a=ML):ld N y g ws a=X ws (MJ a) 0:=by unfold ld;rw[aJ h]
theorem i9 {N y g:Nat}{a:Int}(h0:0<=a)(b:a<y):dv N y g a=ML:=by unfold dv hB;rw[bq (⟨h0,aa⟩:(0:Int)<=a/\a<0+(y:Int))];rfl
theorem h_ {N y g:Nat}{a:Int}(h0:(N:Int)<=a)(b:a<(N:Int)+g):dv N y g a=ML:=by unfold dv hB;rw[bq (⟨h0,b⟩:(N:Int)<=a/\a<(N:Int)+g),Bool.or_true]
section
variable {N O y g:Nat}{ws:List Int}{Y G:List Int}
theorem ei.iV (h:ei N y g ws Y G):∀x∈Y,0<=x/\x<y:=fun x b=>by
 have c:=h.ty.mem x b;have d:=du (ld N y g ws x)
 omega
theorem ei.io (h:ei N y g ws Y G):∀x∈G,(N:Int)<=x/\x<(N:Int)+g:=fun x b=>by
 have c:=h.eC.mem x b;have d:=du (ld N y g ws x)
 omega
theorem ei.make (h:ei N y g ws Y G)(hl:Mx ws=N+O){k f:Int}(hm:i7 N y k f=ML):ei N (jr N y k f) g (f4 N y k f ws) (Y++[(y:Int)]) G:=by
 obtain⟨c,j⟩:=px hm;have l:=jf k f c;have e:jr N y k f=y+1+MJ f:=by unfold jr;rw[aJ hm]
 have i:f4 N y k f ws=fR ws y (hw k f) (MJ f):=by unfold f4;rw[aJ hm]
 rw[e,i];have hlt:y+MJ f<Mx ws:=aa;have d:ld N (y+1+MJ f) g (fR ws y (hw k f) (MJ f)) y=hw k f:=xG _ _ hlt;have hp:=qp k f c;refine⟨h.ty.snoc (fun x b=>?_) (by rw[d];exact hp.2.2) (by rw[d,hp.2.1];omega),h.eC.heads (fun x b=>?_)⟩
 ·have hi:=h.iV x b;exact xQ
 ·have hi:=h.io x b;exact tC
theorem ei.copy (h:ei N y g ws Y G)(hl:Mx ws=N+O)(hy:y<=N)(hg:g<=O){a:Int}(hm:iT N O y g ws a=ML)(ha:a∈Y\/a∈G):ei N y (kc N O y g ws a) (kh N O y g ws a) Y (G++[((N+g:Nat):Int)])/\ld N y (kc N O y g ws a) (kh N O y g ws a) ((N+g:Nat):Int)=ld N y g ws a:=by
 obtain⟨f,o,p⟩:=py hm;have hp:=du (ld N y g ws a)
 have j:kc N O y g ws a=g+(1+MJ (pf (ld N y g ws a))):=by unfold kc;rw[aJ hm]
 have k:kh N O y g ws a=nC ws (N+g) ((ws.drop (MJ a)).take (1+MJ (pf (ld N y g ws a)))):=by unfold kh;rw[aJ hm]
 have l:0<=a/\a+(1+pf (ld N y g ws a))<=(N:Int)+g/\dv N y g a=ML:=by
  rcases ha with ha|ha
  ·have m:=h.ty.mem a ha;have b:=h.iV a ha;exact⟨b.1,aa,i9 b.1 b.2⟩
  ·have m:=h.eC.mem a ha;have b:=h.io a ha;exact⟨aa,aa,h_ b.1 b.2⟩
 rw[j,k];obtain⟨n,hn⟩:∃n,n=MJ (pf (ld N y g ws a)):=⟨_,rfl⟩
 rw[<-hn];have c:∀i:Nat,_=_:=fun i=>qI ws (N+g) (MJ a) (1+n) i aa aa;have d:ld N y (g+(1+n)) (nC ws (N+g) ((ws.drop (MJ a)).take (1+n))) ((N+g:Nat):Int)=ld N y g ws a:=by rw[et (h_ aa aa),Int.toNat_natCast,c,aJ aa,Nat.add_sub_cancel,et l.2.2]
 refine⟨⟨h.ty.heads (fun x e=>?_),?_⟩,d⟩
 ·have hi:=h.iV x e;rw[et (i9 hi.1 hi.2),et (i9 hi.1 hi.2),c,aI aa]
 ·have ht:=h.eC;rw[show(N:Int)+g=((N+g:Nat):Int) by omega] at ht;refine ht.snoc (fun x e=>?_) (by rw[d];exact f) (by rw[d];omega)
  have hi:=h.io x e;rw[et (h_ hi.1 aa),et (h_ hi.1 hi.2),c,aI aa]
theorem ei.set (h:ei N y g ws Y G)(hl:Mx ws=N+O)(hy:y<=N)(hg:g<=O){v i z:Int}(hv:v∈Y\/v∈G)(f:0<=i)(j:i<pf (ld N y g ws v)):ei N y g (ws.set (MJ (v+1+i)) z) Y G/\∀x,(x∈Y\/x∈G)->ld N y g (ws.set (MJ (v+1+i)) z) x=ld N y g ws x:=by
 have hb:0<=v/\v+1+i<(N:Int)+g:=by
  rcases hv with hv|hv
  ·have d:=h.ty.mem v hv;have c:=h.iV v hv;omega
  ·have d:=h.eC.mem v hv;have c:=h.io v hv;omega
 have key:∀x,(x∈Y\/x∈G)->ld N y g (ws.set (MJ (v+1+i)) z) x=ld N y g ws x:=fun x b=>by
  have k:x≠v+1+i:=by
   intro e;rcases hv with hv|hv<;>rcases b with b|b
   ·exact h.ty.field hv f j (by rw[<-e];exact b)
   ·have d:=h.ty.mem v hv;have c:=h.io x b;omega
   ·have d:=h.io v hv;have c:=h.iV x b;omega
   ·exact h.eC.field hv f j (by rw[<-e];exact b)
  have hi:dv N y g x=ML/\0<=x:=by
   rcases b with b|b
   ·have c:=h.iV x b;exact⟨i9 c.1 c.2,c.1⟩
   ·have c:=h.io x b;exact⟨h_ c.1 c.2,aa⟩
  rw[et hi.1,et hi.1,mz _ _ _ _ aa,aI aa]
 exact⟨⟨h.ty.heads (fun x b=>key x (aM b)),h.eC.heads (fun x b=>key x (aK b))⟩,key⟩
end
open Go.RowKit W Kp cq
theorem xY:dT 146:=gF func146 ah rfl
theorem Ef:dT 147:=gF func147 ah rfl
theorem Eg:dT 151:=gF func151 ah rfl
def xZ:bj->Nat
 |My _ n _=>n
 |_=>0
def qJ (n m:Nat):Nat:=if n=0 then 0 else m+1
theorem Eh {c b y n:Nat}(hc:¬c=0)(h:y+n=b):qJ y n<qJ c b:=by unfold qJ;rw[aI hc];split<;>omega
theorem oq {w:az}{a:bI}{p i:Nat}{v:bj}(h:a.block≠p):V (ay w ⟨p,i,MH⟩ v) a=V w a:=aQ (aX _ _ _ _ h)
theorem g6 {w:az}{p:Nat}{x y v1 v2:bj}{T:bU}(h:w.heap[p]?=Z (E #[x,y] T (0,0))):(ay (ay w ⟨p,0,MH⟩ v1) ⟨p,1,MH⟩ v2).heap[p]?=Z (E #[v1,v2] T (0,0)):=by exact tD
theorem Fr.unbox {F:Nat->Prop}{w w':az}{p bl b bs:Nat}{d fk e:gb}(h:Fr (fun k=>F k\/k=bl\/k=b\/k=bs) w w')(hB:lK w p bl b bs d fk e)(c:lK w' p bl b bs d fk e):Fr F w w':=
 ⟨h.os,h.tape,h.output,h.size,fun k hk j=>by
  by_cases f:k=bl
  ·rw[f,hB.l,c.l]
  by_cases g:k=b
  ·rw[g,hB.g,c.g]
  by_cases i:k=bs
  ·rw[i,hB.s,c.s]
  exact h.block k hk (by simp[j,f,g,i])⟩
theorem Ei {an:Type}(o:fY an)(D:Int->Prop)(l fk d:gb)(is:an->Int->Bool)(kp:an->Int->Int×an)(nw:an->Int->Int)(b6:mf o D l fk d is kp nw)(r:List cf)(ca:Option bI)(cz:Nat)(dc:o.vr=My ca (Mx r) cz)(hr:Mx r<=90000)(bd:∀e∈r,D e.1/\D e.2)
 (F:Nat->Prop)(s:an)(w:az)(dX:∀e∈o.wt (fJ o is kp s r),D e.1/\D e.2)(eQ:Mx (o.wt s)+Mx r<=90000)(bl b bs W:Nat)(be:o.J F s w)(hB:lK w o.p bl b bs l fk d)(cA:w.heap[W]?=Z (E #[m7 b bl bs] 101 (0,0)))(cb:¬F bl)(ce:¬F b)(dY:¬F bs)(dZ:¬F W)(d0:W≠bl/\W≠b/\W≠bs)(dd:dC w ca r):
 Calls MO 149 #[aq bs,aq bl,aq W,aq b] w fun e w'=>∃a1 c1 a2 c2 cg de,e=MD (bJ ML)/\o.J cg (fJ o is kp s r) de/\Fr (fun k=>k=o.p) de w'/\
  w'.heap[o.p]?=Z (E #[My a1 (Mx (e3 o is kp nw s r)) c1,My a2 (Mx (e4 o is kp nw s r)) c2] 153 (0,0))/\aC w' (I (MA w)) 103 2 (My a1 (Mx (e3 o is kp nw s r)) c1) (Mx (e3 o is kp nw s r)) (ev (e3 o is kp nw s r))/\
  aC w' (I (MA w)) 103 2 (My a2 (Mx (e4 o is kp nw s r)) c2) (Mx (e4 o is kp nw s r)) (ev (e4 o is kp nw s r))/\Fr F w w'/\(∀k,cg k->F k\/I (MA w)<=k)/\(∀k,Z k=MP (Value.slice a1 (Mx (e3 o is kp nw s r)) c1)->¬cg k)/\(∀k,Z k=MP (Value.slice a2 (Mx (e4 o is kp nw s r)) c2)->¬cg k)/\(∀k,Z k=MP (Value.slice a1 (Mx (e3 o is kp nw s r)) c1)->Z k≠MP (Value.slice a2 (Mx (e4 o is kp nw s r)) c2)):=by
 obtain⟨eR,eS,hp,_,eT,_⟩:=o.side be;rw[dc] at hp;have c3:V w (av bs 0)=Z (aq o.p):=aD hB.s
 have c4:V w (av o.p 0)=Z (My ca (Mx r) cz):=aD hp
 have l1:bl<I (MA w):=lt_of_some hB.l;have l2:b<I (MA w):=lt_of_some hB.g;have eU:bs<I (MA w):=lt_of_some hB.s;have d1:W<I (MA w):=lt_of_some cA;have v:aA (mf o D l fk d is kp nw):=b6;have d2:aA (lK w o.p bl b bs l fk d):=hB;have eV:aA (∀e∈r,D e.1/\D e.2):=bd;have d3:aA (∀e∈o.wt (fJ o is kp s r),D e.1/\D e.2):=dX;have d4:aA (w.heap[W]?=Z (E #[m7 b bl bs] 101 (0,0))):=cA;have c0:V w (av bl 0)=Z l.v:=aD hB.l
 have cB:=sO (fun e=>D e.1/\D e.2) 151 #[] #[aq bl] (fun e=>is s e.2) Eg w (fun w' e hd hs hk=>Df o.todA D l is b6.ea b6.ha F s w' bl e hd.2 (o.keep be hs (fun k h=>hk k (o.lt be k h))) ((aQ (a:=⟨bl,0,MH⟩) (hk bl l1)).trans c0)) r ca cz bd aa dd;obtain⟨A,ch⟩:∃A,aA (A=r.filter (fun e=>is s e.2)):=⟨_,rfl⟩
 obtain⟨B,bg⟩:∃B,aA (B=r.filter (fun e=>!is s e.2)):=⟨_,rfl⟩
 rw[<-ch.o,<-bg.o] at cB;have d5:Mx A<=90000:=by rw[ch.o];exact aU (bu _ _) hr
 have df:Mx B<=90000:=by rw[bg.o];exact aU (bu _ _) hr
 have d6:Mx (o.wt s)+Mx B<=90000:=by have:=bu (fun e=>!is s e.2) r;rw[bg.o];omega
 have dg:aA ((eP (cm o is kp) (Mx B+1) s B).1=fJ o is kp s r):=by show _=_;rw[bg.o];rfl
 have dh:aA (∀e∈A,D e.1/\D e.2):=fun e he=>bd e (by rw[ch.o] at he;exact(bM.1 he).1)
 have d7:aA (∀e∈B,D e.1/\D e.2):=fun e he=>bd e (by rw[bg.o] at he;exact(bM.1 he).1)
 have di:aA ((boxed o bl b bs l fk d).J (fun k=>F k\/k=bl\/k=b\/k=bs) s w):=⟨F,be,hB,cb,ce,dY,fun k=>Iff.rfl⟩
 clear b6 be hp dc dd cA bd hB c0;go_enter func149,ntmps149;go_wp2_with fail;refine cB.mono ?_;clear cB;rintro e w1 ⟨a1,bi,a2,cC,rfl,cD,cE,cF⟩
 have dj:Fr (fun k=>F k\/k=bl\/k=b\/k=bs) w w1:=Fr.of cF;have dk:=(boxed o bl b bs l fk d).below di.o cF;have dl:aA (∀k,(F k\/k=bl\/k=b\/k=bs)->(F k\/k=bl\/k=b\/k=bs)\/I (MA w)<=k):=fun k h=>aM h;have cG:=(boxed o bl b bs l fk d).lt di.o;have ao:aA (∀k,Z k=MP (Value.slice a1 (Mx A) bi)->¬(F k\/k=bl\/k=b\/k=bs)):=fun k e h=>by have:=(cv cD k e).1;have:=cG k h;omega
 have dm:aA (∀k,Z k=MP (Value.slice a2 (Mx B) cC)->¬(F k\/k=bl\/k=b\/k=bs)):=fun k e h=>by have:=(cv cE k e).1;have:=cG k h;omega
 clear cG cF;go_wp2_with fail
 go_loopw [6,7] (fun cH vc wr=>∃(f C:List cf)(ad dn:Option bI)(cd cc n:Nat)(aF:Nat->Prop)(s2:an),cH=My ad (Mx f) cd/\vc=My dn (Mx C) cc/\aA (Mx C=0->s2=fJ o is kp s r)/\aA (¬Mx C=0->(eP (cm o is kp) n s2 f).1=fJ o is kp s r/\Mx f<n)/\aA (∀e∈f,D e.1/\D e.2)/\Mx f<=90000/\Mx C<=90000/\Mx (o.wt s2)+Mx f<=90000/\
  aC wr (I (MA w)) 103 2 (My ad (Mx f) cd) (Mx f) (ev f)/\aC wr (I (MA w)) 103 2 (My a1 (Mx A) bi) (Mx A) (ev A)/\(boxed o bl b bs l fk d).J aF s2 wr/\Fr (fun k=>F k\/k=bl\/k=b\/k=bs) w wr/\aA (∀k,aF k->(F k\/k=bl\/k=b\/k=bs)\/I (MA w)<=k)/\
  aA (∀k,Z k=MP (Value.slice a1 (Mx A) bi)->¬aF k)/\aA (∀k,Z k=MP (Value.slice ad (Mx f) cd)->¬aF k)) (fun cH vc _=>qJ (xZ vc) (xZ cH))
 case atStart=>
  refine⟨B,B,a2,a2,cC,cC,Mx B+1,(fun k=>F k\/k=bl\/k=b\/k=bs),s,rfl,rfl,fun h=>?_,fun _=>⟨dg.o,Nat.lt_succ_self _⟩,d7,df,df,d6,cE,cD,dk,dj,dl,ao,dm⟩
  rw[<-dg.o,List.eq_nil_of_length_eq_zero h];rfl
 case round=>
  clear cD cE dk dj dl ao dm;obtain⟨f,C,ad,dn,cd,cc,n,aF,s2,rfl,rfl,cI,aR,dp,eW,eX,eY,hd,bn,cJ,ap,ci,ao,cK⟩:=hrel;by_cases aV:Mx C=0
  ·have cj:aA (s2=fJ o is kp s r):=cI.o aV;obtain⟨ar,j0,ab,n1,cL,cN,dq⟩:=cJ;have dr:V wr (av b 0)=Z (.func (.func 146) #[] #[aq bl]):=aD ab.g
   have ds:V wr (av bl 0)=Z l.v:=aD ab.l
   have dt:V wr (av bl 2)=Z (.func (.func d.f) d.b d.c):=aD ab.l
   have du:V wr (av bs 0)=Z (aq o.p):=aD ab.s
   obtain⟨bo,bp,ck,dv,br,d8⟩:=o.side j0;have dw:V wr (av o.p 1)=Z (My bo (Mx (o.wt s2)) bp):=aD ck
   have m1:=lt_of_some ab.l;have cO:=lt_of_some ab.g;have cP:=lt_of_some ab.s;have cQ:=lt_of_some ck;have dx:=ap.size;have dy:aA (∀(w':az)(e:cf),D e.1/\D e.2->I (MA wr)<=I (MA w')->(∀k,k<I (MA wr)->w'.heap[k]?=wr.heap[k]?)->Calls MO 146 ((#[]:Array bj).push (en e)++#[aq bl]) w' fun r d9=>r=MD (bJ (is s2 e.1))/\MM (I (MA w')) w' d9):=
    fun w' e hd hs hk=>wO o.todA D l is v.o.ea v.o.ha ar s2 w' bl e hd.1 (o.keep j0 hs (fun k h=>hk k (o.lt j0 k h))) ((aQ (a:=⟨bl,0,MH⟩) (hk bl m1)).trans ds)
   have cR:=sO (fun e=>D e.1/\D e.2) 146 #[] #[aq bl] (fun e=>is s2 e.1) xY wr dy.o A a1 bi dh.o aa (ik bn)
   obtain⟨t,cl⟩:∃t,aA (t=A.filter (fun e=>is s2 e.1)):=⟨_,rfl⟩
   rw[<-cl.o] at cR;have eZ:Mx t<=90000:=by rw[cl.o];exact aU (bu _ _) d5
   have ea:aA (∀e∈t,D e.1/\D e.2):=fun e he=>dh.o e (by rw[cl.o] at he;exact(bM.1 he).1)
   have eb:Mx (o.wt s2)<=90000:=aa;have dz:aA (∀e∈o.wt s2,D e.1/\D e.2):=by rw[cj.o];exact d3
   obtain⟨u,cn⟩:∃u,aA (u=(o.wt s2).filter (fun e=>is s2 e.1)):=⟨_,rfl⟩
   have e0:Mx u<=90000:=by rw[cn.o];exact aU (bu _ _) eb
   have ec:aA (∀e∈u,D e.1/\D e.2):=fun e he=>dz.o e (by rw[cn.o] at he;exact(bM.1 he).1)
   have cS:aA (lK wr o.p bl b bs l fk d):=ab;have ed:aA (o.J ar s2 wr):=j0;have ee:aA (iP wr bo (o.wt s2) bp):=dv;have dA:aA (Fr (fun k=>F k\/k=bl\/k=b\/k=bs) w wr):=ap;clear hd bn ab j0 dv ap cI aR ao cK d8;go_wp2_with fail;refine cR.mono ?_;clear cR;rintro e cT ⟨b1,cU,b2,cV,rfl,cW,_,S⟩
   have cX:=sO (fun e=>D e.1/\D e.2) 146 #[] #[aq bl] (fun e=>is s2 e.1) xY cT.drew (fun w' e hd hs hk=>dy.o w' e hd (aU S.size hs) (fun k h=>(hk k (aO h S.size)).trans (S.block k h))) (o.wt s2) bo bp dz.o aa (ee.o.lp.below S.drew)
   rw[<-cn.o] at cX;have dB:=(S.cell (p:=av b 0) cO).trans dr;have dD:=(S.cell (p:=av bs 0) cP).trans du;have dE:=(S.cell (p:=av o.p 1) cQ).trans dw;have dF:=(S.cell (p:=av bl 2) m1).trans dt;go_wp2_with fail;have bt:=S.size
   go_region_held3 (fun w'=>V w' (av bs 0)=Z (aq o.p)/\V w' (av o.p 1)=Z (My bo (Mx (o.wt s2)) bp)/\V w' (av b 0)=Z (.func (.func 146) #[] #[aq bl])) (go_keep)
    (first|(go_at_call 150;refine cX.mono ?_;rintro e g ⟨ef,eg,e1,e2,rfl,dG,_,al⟩;have eh:=(al.cell (p:=av b 0) (aO cO bt)).trans dB;have cY:=(al.cell (p:=av bs 0) (aO cP bt)).trans dD;have ei:=(al.cell (p:=av o.p 1) (aO cQ bt)).trans dE;have cZ:=(al.cell (p:=av bl 2) (aO m1 bt)).trans dF))
   have bx:MM (I (MA wr)) wr g:=S.drew.trans (al.mono bt)
   have e5:I (MA cT)<=I (MA g):=al.size;have dH:=cM (w:=cT) cW (fun k e=>al.block k (cv cW k e).2)
   have co:=o.below ed.o bx;have dI:=(bx.block o.p cQ).trans ck;have cp:o.p≠bs:=fun e=>cN (by rw[<-e];exact br)
   have cq:o.p≠bl:=fun e=>n1 (by rw[<-e];exact br)
   have ej:o.p≠b:=fun e=>cL (by rw[<-e];exact br)
   have dJ:aA (∀k,ar k->F k\/I (MA w)<=k):=fun k h=>by
    rcases ci.o k ((dq k).2 (aM h)) with(c|c|c|c)|c
    ·exact aM c
    ·exact absurd (by rw[<-c];exact h) n1
    ·exact absurd (by rw[<-c];exact h) cL
    ·exact absurd (by rw[<-c];exact h) cN
    ·exact aK c
   have ek:aA (ar o.p):=br;have dK:o.p<I (MA g):=lt_of_some dI;have dL:bs<I (MA g):=aa;have dM:bl<I (MA g):=aa;have el:Mx t<=100000:=aa;have em:Mx u<=100000:=aa;have dN:=ik dH;have dO:=ik dG;have c5:=o.below co (ax g).drew;have dP:=dN.below (ax g).drew;have dQ:=dO.below (ax g).drew;clear cW al S dB dD dE dF ds dr du dw dt cX eh ei ck br n1 cL cN dq;go_wp2_with fail
   go_region_held3 (fun w'=>V w' (av bs 0)=Z (aq o.p)/\V w' (av bl 2)=Z (.func (.func d.f) d.b d.c)) (first|exact⟨cY,cZ⟩|exact⟨c6,c7⟩|exact⟨cr,cs⟩|exact⟨(oq cp.symm).trans cr,(oq cq.symm).trans cs⟩|exact⟨(oq cp.symm).trans ((oq cp.symm).trans cr),(oq cq.symm).trans ((oq cq.symm).trans cs)⟩)
    (first
      |(have e6:=ag;go_at_call 152;refine(wN o.todA D d.f d.b d.c nw v.o.en v.o.ht u ef eg ar s2 _ ec.o em (o.below c5 ag) (dQ.below ag)).mono ?_;rintro e q ⟨a0,a3,rfl,ai,aB⟩;have e7:=aB.size;have cr:=(aB.cell (p:=av bs 0) (aO dL b0)).trans c6;have cs:=(aB.cell (p:=av bl 2) (aO dM b0)).trans c7;have b3:=(aB.block o.p (aO dK b0)).trans ((ag.block o.p dK).trans dI);have q0:V q (av o.p 0)=Z o.vr:=aD b3;have q1:V q (av o.p 1)=Z (My bo (Mx (o.wt s2)) bp):=aD b3;have eo:bO q (av o.p 0)=MK:=aE b3;have ep:bO q (av o.p 1)=MK:=(by simp[World.frozen?,b3]))
      |(go_at_call 152;refine(wN o.todA D d.f d.b d.c nw v.o.en v.o.ht t b1 cU ar s2 _ ea.o el c5 dP).mono ?_;rintro e ct ⟨a4,ba,rfl,am,ag⟩;have b0:=ag.size;have c6:=(ag.cell (p:=av bs 0) dL).trans cY;have c7:=(ag.cell (p:=av bl 2) dM).trans cZ))
   have eq:MM (I (MA g)) g ct:=(ax g).drew.trans (ag.mono b8)
   have dR:MM (I (MA g)) g q:=eq.trans (aB.mono b0)
   have cu:MM (I (MA wr)) wr q:=bx.trans (dR.mono bx.size)
   have er:=o.below co dR;have es:aA (aC ct (I (MA g)) 103 2 (My a4 (Mx t) ba) (Mx t) (ev (t.map fun e=>(nw s2 e.1,nw s2 e.2)))):=am;have et:aA (aC q (I (MA g)) 103 2 (My a0 (Mx u) a3) (Mx u) (ev (u.map fun e=>(nw s2 e.1,nw s2 e.2)))):=ff ai (fun k e=>aU b0 (cv ai k e).1)
   have eu:aA (MM (I (MA ct)) ct q):=aB;have ew:aA (∀k,Z k=MP (Value.slice a4 (Mx t) ba)->Z k≠MP (Value.slice a0 (Mx u) a3)):=fun k e ex=>by have cb:=(cv am k e).2;have ce:=(cv ai k ex).1;omega
   clear am ai ag aB dP dQ c5 dN dO dH dG c6 c7 cr cs cY cZ q0 q1 eo ep;go_wp2_with fail;go_ret;have ey:e3 o is kp nw s r=t.map fun e=>(nw s2 e.1,nw s2 e.2):=by unfold e3;rw[<-cj.o,<-ch.o,<-cl.o]
   have ez:e4 o is kp nw s r=u.map fun e=>(nw s2 e.1,nw s2 e.2):=by unfold e4;rw[<-cj.o,<-cn.o]
   have b4:∀k,k≠o.p->(ay (ay q ⟨o.p,0,MH⟩ (My a4 (Mx t) ba)) ⟨o.p,1,MH⟩ (My a0 (Mx u) a3)).heap[k]?=q.heap[k]?:=fun k hk=>(aX _ _ _ _ hk).trans (aX _ _ _ _ hk)
   have am:=es.o;have ai:=et.o;have dS:=dA.o.size;have dT:=bx.size;have eA:lK (ay (ay q ⟨o.p,0,MH⟩ (My a4 (Mx t) ba)) ⟨o.p,1,MH⟩ (My a0 (Mx u) a3)) o.p bl b bs l fk d:=
    ⟨(b4 bl cq.symm).trans ((cu.block bl m1).trans cS.o.l),(b4 b ej.symm).trans ((cu.block b cO).trans cS.o.g),(b4 bs cp.symm).trans ((cu.block bs cP).trans cS.o.s)⟩
   have dU:Fr (fun k=>k=o.p) q (ay (ay q ⟨o.p,0,MH⟩ (My a4 (Mx t) ba)) ⟨o.p,1,MH⟩ (My a0 (Mx u) a3)):=((Fr.refl (fun k=>k=o.p) q).set o.p 0 _ rfl).set o.p 1 _ rfl;rw[ey,ez,aZ,aZ,<-cj.o];refine⟨a4,ba,a0,a3,ar,q,rfl,er,dU,g6 b3,?_,?_,?_,dJ.o,fun k e h=>?_,fun k e h=>?_,ew.o⟩
   ·refine ff (cM am (fun k e=>?_)) (fun k e=>aU (aU dS dT) (cv am k e).1)
    have:=cv am k e;exact(b4 k aa).trans (eu.o.block k this.2)
   ·refine ff (cM ai (fun k e=>?_)) (fun k e=>aU (aU dS dT) (cv ai k e).1)
    have:=cv ai k e;exact b4 k aa
   ·exact((dA.o.trans (Fr.of (X:=fun _=>False) cu) (fun _ c=>c.elim)).trans dU (fun i c=>by rw[c];exact(dJ.o o.p ek.o).imp aM id)).unbox d2.o eA
   ·have:=o.lt co k h;have:=(cv am k e).1;omega
   ·have:=o.lt co k h;have:=(cv ai k e).1;omega
  ·have eB:V wr (av W 0)=Z (m7 b bl bs):=by
    have hk:=ap.block W d1 (by simp[dZ,d0])
    simp[World.cell?,hk,d4.o]
   have dV:∀j,j<Mx f->∀x,Mx (o.wt (kp (pts (cm o is kp) s2 (f.take j)).2.2 x).2)<=90000:=fun j e8 x=>by
    have cb:=sU o is kp v.o.hl s2 (f.take j)
    have ce:=pi (cm o is kp) s2 (f.take j)
    rw[v.o.hl,cb];simp at ce;omega
   have cw:=wK (boxed o bl b bs l fk d) (fun e=>D e.1/\D e.2) (fun s=>∀x,Mx (o.wt (kp s x).2)<=90000) 147 #[] #[aq b,aq bl,aq bs] (cm o is kp) Ef (Dh o bl b bs D l fk d is kp v.o.ea v.o.gO v.o.ha v.o.hk) f ad cd aF s2 wr dp.o dV aa cJ ((ik hd).apart (fun _ z e=>cK.o z.block (by rw[e];rfl)))
   obtain⟨Y,N,bb,b5⟩:∃Y N bb,aA (pts (cm o is kp) s2 f=(Y,N,bb)):=⟨_,_,_,rfl⟩
   have c8:=pi (cm o is kp) s2 f;have c9:=sU o is kp v.o.hl s2 f;have cx:=sT (cm o is kp) s2 f;rw[b5.o] at cw c8 cx c9;dsimp only at cw c8 cx c9;have eC:Mx (o.wt bb)+Mx N<=90000:=aa;clear c9 dV;obtain⟨n,rfl⟩:∃m,n=m+1:=⟨n-1,by have:=(aR.o aV).2;omega⟩
   have eD:aA (Mx Y=0->bb=fJ o is kp s r):=fun h=>by
    have e:=mc (cm o is kp) n s2 f (by rw[b5.o];exact h)
    rw[<-(aR.o aV).1,e,b5.o]
   have eE:aA (¬Mx Y=0->(eP (cm o is kp) n bb N).1=fJ o is kp s r/\Mx N<n):=fun h=>by
    have e:=me (cm o is kp) n s2 f (by rw[b5.o];exact h)
    refine⟨?_,?_⟩
    ·rw[<-(aR.o aV).1,e,b5.o]
    ·have:=(aR.o aV).2;omega
   have eF:aA (∀e∈N,D e.1/\D e.2):=fun e he=>dp.o e (cx e (aK he))
   clear cx;go_wp2_with fail;refine cw.mono ?_;clear cw;rintro e e9 ⟨b1,cU,b2,cV,cy,rfl,eG,hN,eH,da,db,eI,dW⟩
   have dx:=ap.size;have eJ:aA (∀k,cy k->(F k\/k=bl\/k=b\/k=bs)\/I (MA w)<=k):=fun k h=>(db k h).elim (ci.o k) (fun h=>aK aa)
   have eK:aA (∀k,Z k=MP (Value.slice a1 (Mx A) bi)->¬cy k):=fun k e h=>(db k h).elim (ao.o k e) (fun h=>by have:=(cv bn k e).2;omega)
   have eL:aA (∀k,Z k=MP (Value.slice b2 (Mx N) cV)->¬cy k):=dW;have eM:=iz bn da ao.o;have eN:=ap.trans da ci.o;have eO:=ff hN (base':=I (MA w)) (fun k e=>aU dx (cv hN k e).1)
   clear db eI dW eG hN bn ap da cJ ci ao cK hd cI aR eB;go_wp2_with fail;go_roundw
   case rel=>exact⟨N,Y,b2,b1,cV,cU,n,cy,bb,rfl,rfl,eD,eE,eF,aa,aa,eC,eO,eM,eH,eN,eJ,eK,eL⟩
   case measure=>
    exact Eh aV c8
theorem Ej (a b c:bI)(w:az):
 CallsD MO 218 #[bL (Z a),bL (Z b),bL (Z c)] .returning w fun e d w'=>e=MD (a6 #[])/\d=.returning/\w'=w:=by
 refine callsD_of_wpS func218 rfl fun f i g=>?_;apply wpS_seq;apply wpS_region;simp[wpOpsS,go_sem,recoverD,g,ntmps218,Exit.thenS];refine wpS_cond (t:=MK) (by simp[Act.eval,Array.replicate]) ?_;refine wpS_of_wp (wp_skip ?_)
 cases f
 simp_all [bodyPostS,results,results218]
theorem x0 (f:Nat)(b c:Array bj)(i:dT f)(w:az)(p:Nat)(a0 a1:Option bI)(n0 k0 n1 k1:Nat)(c0:V w (av p 0)=Z (My a0 n0 k0))(c1:V w (av p 1)=Z (My a1 n1 k1))(R:Bool->az->Prop)
 (h:∀w1,w1=bE (bE (bE w (E #[bL (Z ⟨p,0,MH⟩)] 52)) (E #[bJ MK] 4)) (E #[My a0 n0 k0,My a1 n1 k1] 153)->J MO f (b++c) w1 fun r d=>∃g,r=MD (bJ g)/\R g d/\d.heap[I (MA w)+1]?=Z (E #[bJ MK] 4 (0,0))):
 J MO 148 #[aq p,.func (.func f) b c] w fun e w'=>∃g d,e=MD (bJ g)/\R g d/\d.heap[I (MA w)+1]?=Z (E #[bJ MK] 4 (0,0))/\w'=ay d ⟨I (MA w)+1,0,MH⟩ (bJ g):=by
 have l:=aT w _ c0;have H:=hide h;clear h;have m:∀(args:Array bj)(w:az),(callFunc f args).run MO w=.ok (.enter f args) w:=i;clear i
 go_enter_defers func148,ntmps148
 go_wp2_with fail;refine(H.o _ rfl).mono ?_;rintro e d ⟨g,rfl,j,hk⟩
 have k:V d (av (I (MA w)+1) 0)=Z (bJ MK):=aD hk
 have n:bO d (av (I (MA w)+1) 0)=MK:=aE hk
 go_wp2_with fail;refine leaves_cons (f:=218) (args:=#[aq (I (MA w)+1+1),aq (I (MA w)),aq (I (MA w)+1)]) ac (by simp[go_sem]) ?_;refine(Ej _ _ _ _).mono ?_;rintro e o q ⟨rfl,rfl,rfl⟩
 simp[Leaves,settle,results,results148,go_sem,(bc _ _ _ k)];cases g
 ·exact aM ⟨rfl,d,j,hk,rfl⟩
 ·exact aK ⟨rfl,d,j,hk,rfl⟩
theorem Ek:dT 149:=gF func149 ah rfl
theorem qK {j:Type}(o:fY j)(D:Int->Prop)(fa fk fn:gb)(is:j->Int->Bool)(kp:j->Int->Int×j)(nw:j->Int->Int)(ap:mf o D fa fk fn is kp nw)(r:List cf)(t:Option bI)(v:Nat)(ai:o.vr=My t (Mx r) v)(hr:Mx r<=90000)(ar:∀e∈r,D e.1/\D e.2)
 (F:Nat->Prop)(s:j)(w:az)(aB:∀e∈o.wt (fJ o is kp s r),D e.1/\D e.2)(aF:Mx (o.wt s)+Mx r<=90000)(x:o.J F s w)(aR:dC w t r):
 Calls MO 78 #[aq o.p,.agg #[fa.v,fk.v,fn.v]] w fun e w'=>∃a1 c1 a2 c2 b d,e=MD (a6 #[])/\o.J b (fJ o is kp s r) d/\(∀k,b k->k≠o.p->w'.heap[k]?=d.heap[k]?)/\I (MA d)<=I (MA w')/\
  w'.heap[o.p]?=Z (E #[My a1 (Mx (e3 o is kp nw s r)) c1,My a2 (Mx (e4 o is kp nw s r)) c2] 153 (0,0))/\aC w' (I (MA w)) 103 2 (My a1 (Mx (e3 o is kp nw s r)) c1) (Mx (e3 o is kp nw s r)) (ev (e3 o is kp nw s r))/\
  aC w' (I (MA w)) 103 2 (My a2 (Mx (e4 o is kp nw s r)) c2) (Mx (e4 o is kp nw s r)) (ev (e4 o is kp nw s r))/\Fr F w w'/\(∀k,b k->F k\/I (MA w)<=k)/\(∀k,Z k=MP (Value.slice a1 (Mx (e3 o is kp nw s r)) c1)->¬b k)/\(∀k,Z k=MP (Value.slice a2 (Mx (e4 o is kp nw s r)) c2)->¬b k)/\(∀k,Z k=MP (Value.slice a1 (Mx (e3 o is kp nw s r)) c1)->Z k≠MP (Value.slice a2 (Mx (e4 o is kp nw s r)) c2)):=by
 obtain⟨al,am,hp,_,bd,_⟩:=o.side x;rw[ai] at hp;have c0:V w (av o.p 0)=Z (My t (Mx r) v):=aD hp
 have c1:V w (av o.p 1)=Z (My al (Mx (o.wt s)) am):=aD hp
 have lp:=lt_of_some hp;have aV:aA (∀w1,MM (I (MA w)) w w1->lK w1 o.p (I (MA w)+1) (I (MA w)+2) (I (MA w)) fa fk fn->w1.heap[I (MA w)+3]?=Z (E #[m7 (I (MA w)+2) (I (MA w)+1) (I (MA w))] 101 (0,0))->Calls MO 149 #[aq (I (MA w)),aq (I (MA w)+1),aq (I (MA w)+3),aq (I (MA w)+2)] w1 fun e w'=>∃a1 c1 a2 c2 b d,e=MD (bJ ML)/\o.J b (fJ o is kp s r) d/\Fr (fun k=>k=o.p) d w'/\
  w'.heap[o.p]?=Z (E #[My a1 (Mx (e3 o is kp nw s r)) c1,My a2 (Mx (e4 o is kp nw s r)) c2] 153 (0,0))/\aC w' (I (MA w1)) 103 2 (My a1 (Mx (e3 o is kp nw s r)) c1) (Mx (e3 o is kp nw s r)) (ev (e3 o is kp nw s r))/\
  aC w' (I (MA w1)) 103 2 (My a2 (Mx (e4 o is kp nw s r)) c2) (Mx (e4 o is kp nw s r)) (ev (e4 o is kp nw s r))/\Fr F w1 w'/\(∀k,b k->F k\/I (MA w1)<=k)/\(∀k,Z k=MP (Value.slice a1 (Mx (e3 o is kp nw s r)) c1)->¬b k)/\(∀k,Z k=MP (Value.slice a2 (Mx (e4 o is kp nw s r)) c2)->¬b k)/\(∀k,Z k=MP (Value.slice a1 (Mx (e3 o is kp nw s r)) c1)->Z k≠MP (Value.slice a2 (Mx (e4 o is kp nw s r)) c2))):=by
  intro w1 hb hB hc;have q:∀k,I (MA w)<=k->¬F k:=fun k hk h=>by have:=o.lt x k h;omega
  exact Ei o D fa fk fn is kp nw ap r t v ai hr ar F s w1 aB aF _ _ _ _ (o.below x hb) hB hc (q _ aa) (q _ aa) (q _ aa) (q _ aa) ⟨aa,aa,aa⟩ (aR.below hb)
 have an:=hide x;go_enter func78,ntmps78;go_wp2_with fail;have f:∃W4,W4=bE (bE (bE (bE w (E #[bL (Z ⟨o.p,0,MH⟩)] 52)) (E #[fa.v,fk.v,fn.v] 145)) (E #[.func (.func 146) #[] #[bL (Z ⟨I (MA w)+1,0,MH⟩)]] 101)) (E #[m7 (I (MA w)+1+1) (I (MA w)+1) (I (MA w))] 101):=⟨_,rfl⟩
 obtain⟨W4,f⟩:=f;have sz:I (MA W4)=I (MA w)+4:=by rw[f];simp
 have B:MM (I (MA w)) w W4:=by rw[f];exact((((aH _ w).alloc b8 _).alloc ac _).alloc (by simp;omega) _).alloc (by simp;omega) _
 have g0:W4.heap[I (MA w)]?=Z (E #[aq o.p] 52 (0,0)):=by rw[f,aS _ _ _ (by simp;omega),aS _ _ _ (by simp;omega),aS _ _ _ ac];exact aP _ _
 have g1:W4.heap[I (MA w)+1]?=Z (E #[fa.v,fk.v,fn.v] 145 (0,0)):=by rw[f,aS _ _ _ ac,aS _ _ _ ac];exact xR
 have g2:W4.heap[I (MA w)+2]?=Z (E #[.func (.func 146) #[] #[aq (I (MA w)+1)]] 101 (0,0)):=by rw[f,aS _ _ _ ac];simpa using aP (bE (bE w (E #[bL (Z ⟨o.p,0,MH⟩)] 52)) (E #[fa.v,fk.v,fn.v] 145)) (E #[.func (.func 146) #[] #[bL (Z ⟨I (MA w)+1,0,MH⟩)]] 101)
 have g3:W4.heap[I (MA w)+3]?=Z (E #[m7 (I (MA w)+1+1) (I (MA w)+1) (I (MA w))] 101 (0,0)):=by rw[f];simpa using aP (bE (bE (bE w (E #[bL (Z ⟨o.p,0,MH⟩)] 52)) (E #[fa.v,fk.v,fn.v] 145)) (E #[.func (.func 146) #[] #[bL (Z ⟨I (MA w)+1,0,MH⟩)]] 101)) (E #[m7 (I (MA w)+1+1) (I (MA w)+1) (I (MA w))] 101)
 rw[<-f];have P:=x0 149 #[] #[aq (I (MA w)),aq (I (MA w)+1),aq (I (MA w)+1+1+1),aq (I (MA w)+1+1)] Ek W4 o.p t al (Mx r) v (Mx (o.wt s)) am ((B.cell (p:=av o.p 0) lp).trans c0) ((B.cell (p:=av o.p 1) lp).trans c1)
  (fun _ g=>∃a1 c1 a2 c2 b d,o.J b (fJ o is kp s r) d/\Fr (fun k=>k=o.p) d g/\
    g.heap[o.p]?=Z (E #[My a1 (Mx (e3 o is kp nw s r)) c1,My a2 (Mx (e4 o is kp nw s r)) c2] 153 (0,0))/\aC g (I (MA w)+7) 103 2 (My a1 (Mx (e3 o is kp nw s r)) c1) (Mx (e3 o is kp nw s r)) (ev (e3 o is kp nw s r))/\
    aC g (I (MA w)+7) 103 2 (My a2 (Mx (e4 o is kp nw s r)) c2) (Mx (e4 o is kp nw s r)) (ev (e4 o is kp nw s r))/\Fr F w g/\(∀k,b k->F k\/I (MA w)+7<=k)/\(∀k,Z k=MP (Value.slice a1 (Mx (e3 o is kp nw s r)) c1)->¬b k)/\(∀k,Z k=MP (Value.slice a2 (Mx (e4 o is kp nw s r)) c2)->¬b k)/\(∀k,Z k=MP (Value.slice a1 (Mx (e3 o is kp nw s r)) c1)->Z k≠MP (Value.slice a2 (Mx (e4 o is kp nw s r)) c2)))
  (by
    intro w1 hw1;have s1:I (MA w1)=I (MA w)+7:=by rw[hw1];simp;omega
    have b1:MM (I (MA W4)) W4 w1:=by rw[hw1];exact(((aH _ W4).alloc b8 _).alloc ac _).alloc (by simp;omega) _
    have hk:w1.heap[I (MA W4)+1]?=Z (E #[bJ MK] 4 (0,0)):=by exact xP
    have b2:=B.trans (b1.mono aa)
    refine(aV.o w1 b2 ⟨(b1.block _ aa).trans g1,(b1.block _ aa).trans g2,(b1.block _ aa).trans g0⟩ ((b1.block _ aa).trans g3)).mono ?_;rintro e g ⟨a1,c1,a2,c2,b,d,rfl,q1,N,q3,l,n,S,u,ab,ad,ag⟩
    rw[s1] at l n u;refine⟨ML,rfl,⟨a1,c1,a2,c2,b,d,q1,N,q3,l,n,(Fr.of (X:=F) b2).trans S (fun _ c=>aM c),u,ab,ad,ag⟩,(S.block _ aa (fun h=>?_)).trans hk⟩
    have:=o.lt an.o _ h;omega)
 refine P.mono ?_;rintro e be ⟨a0,g,rfl,⟨a1,a3,a2,a4,b,d,q1,N,q3,l,n,S,u,ab,ad,ag⟩,hk,rfl⟩
 obtain⟨m,hm⟩:∃m,m=I (MA W4)+1:=⟨_,rfl⟩
 rw[<-hm];have ba:aA (m=I (MA w)+5):=by show m=_;omega
 clear hm hk B g0 g1 g2 g3 sz f;go_wp2_with fail;go_end0;have hm:=ba.o;have W:∀k,k≠m->(ay g ⟨m,0,MH⟩ (bJ a0)).heap[k]?=g.heap[k]?:=fun k hk=>aX _ _ _ _ hk;refine⟨a1,a3,a2,a4,b,d,rfl,q1,fun k ao bb=>?_,?_,(W _ aa).trans q3,?_,?_,S.trans ((Fr.refl (fun k=>k=m) g).set _ 0 _ rfl) (fun i c=>aK aa),fun k h=>(u k h).imp id (fun h=>by omega),ab,ad,ag⟩
 ·refine(W k ?_).trans (N.block k (o.lt q1 k ao) bb)
  rcases u k ao with h|h
  ·have:=o.lt an.o k h;omega
  ·omega
 ·have:=N.size;simpa[World.setCell] using this
 ·exact ff (cM l (fun k e=>W k (by have:=(cv l k e).1;omega))) (fun k e=>by have:=(cv l k e).1;omega)
 ·exact ff (cM n (fun k e=>W k (by have:=(cv n k e).1;omega))) (fun k e=>by have:=(cv n k e).1;omega)
def dh {u:Type}(o:dA u)(p:Nat)(vr:bj):fY (u×List cf) where
 J F s w:=∃b ad cap,o.J b s.1 w/\w.heap[p]?=Z (E #[vr,My ad (Mx s.2) cap] 153 (0,0))/\aC w 0 103 2 (My ad (Mx s.2) cap) (Mx s.2) (ev s.2)/\(∀k,b k->F k)/\F p/\¬b p/\(∀k,Z k=MP (Value.slice ad (Mx s.2) cap)->F k/\¬b k)/\(∀k,F k->k<I (MA w))
 lt:=by rintro F t w ⟨b,ad,cap,n,c,d,f,i,l,m,j⟩ k hk;exact j k hk
 keep:=by rintro F t w w' ⟨b,ad,cap,n,c,d,f,i,l,m,j⟩ hs hk;exact⟨b,ad,cap,o.keep n hs (fun k h=>hk k (f k h)),(hk p i).trans c,cM d (fun k e=>hk k (m k e).1),f,i,l,m,fun k h=>aO (j k h) hs⟩
 p:=p
 vr:=vr
 wt s:=s.2
 put s q:=(s.1,q)
 side:=by
  rintro F s w ⟨b,ad,cap,n,c,d,f,i,l,m,j⟩
  refine⟨ad,cap,c,⟨ik d,?_,?_⟩,i,fun hp z e=>(m z.block (by rw[e];rfl)).1⟩
  ·rcases d.2 with⟨hv,h0⟩|⟨g,B,N,hv,_,_,hc,_⟩
   ·omega
   ·simp at hv;omega
  ·intro S;rcases d.2 with⟨hv,h0⟩|⟨g,B,N,hv,_⟩
   ·simp at hv;exact⟨h0,hv.2.2⟩
   ·rw[S] at hv;simp at hv
 set:=by
  rintro F s w ⟨b,ad,cap,n,c,d,f,i,l,m,j⟩ w1 q b1 gG hb v;have lp:=lt_of_some c;have ab:=cv v b1 rfl;have x:∀k,k≠p->(ay w1 ⟨p,1,MH⟩ (My (Z ⟨b1,0,MH⟩) (Mx q) gG)).heap[k]?=w1.heap[k]?:=fun k hk=>aX _ _ _ _ hk;have hs:I (MA (ay w1 ⟨p,1,MH⟩ (My (Z ⟨b1,0,MH⟩) (Mx q) gG)))=I (MA w1):=by simp[World.setCell]
  have ag:=hb.size;refine⟨b,au b1,gG,o.keep (o.below n hb) (by rw[hs];exact aG _) (fun k h=>x k (fun e=>l (by rw[<-e];exact h))),?_,ff (cM v (fun k e=>x k (by simp[Value.ownBlock] at e;omega))) (fun _ _=>a5 _),fun k h=>aM (f k h),aM i,l,fun k e=>?_,fun k h=>?_⟩
  ·have W:=(hb.block p lp).trans c;simp only [World.setCell,bK,if_true,W,bR];simp
  ·simp[Value.ownBlock] at e;exact⟨aK e,fun h=>by have:=j k (f k h);omega⟩
  ·rw[hs];rcases h with h|h
   ·have:=j k h;omega
   ·omega
 qu:=fun _ _=>rfl
theorem qL {b:Type}(o:dA b)(p:Nat)(vr:bj)(D:Int->Prop)(c fk d:gb)(is:b->Int->Bool)(kp:b->Int->Int×b)(nw:b->Int->Int)(ea:dT c.f)(gO:dT fk.f)(en:dT d.f)(ha:kC o D c.f c.b c.c is)(hk:og o D fk.f fk.b fk.c kp)(ht:lJ o D d.f d.b d.c nw):
 mf (dh o p vr) D c fk d (fun s x=>is s.1 x) (fun s x=>((kp s.1 x).1,((kp s.1 x).2,s.2))) (fun s x=>nw s.1 x) where
 ea:=ea
 gO:=gO
 en:=en
 ha:=by
  rintro F s w x f ⟨g,ad,cap,i,_⟩
  exact ha g s.1 w x f i
 hk:=by
  rintro F s w x f _ ⟨g,ad,cap,i,q,l,t,N,u,m,S⟩
  refine(hk g s.1 w x f i).mono ?_;rintro r w' ⟨v,rfl,B,j,n⟩
  have lp:=lt_of_some q;refine⟨fun k=>F k\/v k,rfl,⟨v,ad,cap,B,(j.block p lp u).trans q,cM l (fun k e=>j.block k (cv l k e).2 (m k e).2),fun k h=>aK h,aM N,fun h=>(n p h).elim u (fun h=>by omega),fun k e=>⟨aM (m k e).1,fun h=>(n k h).elim (m k e).2 (fun h=>by have:=(cv l k e).2;omega)⟩,fun k h=>?_⟩,j.mono t,fun k h=>?_⟩
  ·rcases h with h|h
   ·exact aO (S k h) j.size
   ·exact o.lt B k h
  ·rcases h with h|h
   ·exact aM h
   ·exact(n k h).imp (t k) id
 ht:=by
  rintro F s w x f ⟨g,ad,cap,i,_⟩
  exact ht g s.1 w x f i
 hl:=fun _ _=>rfl
end Go.Proofs.YtpkjkjhanlbcoaaGreat
