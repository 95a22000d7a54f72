import Derived.Test.YtjckpdepffejnaaGreatDoorJ02
import Derived.Maps.OwnSet
open Array renaming size->I
open Bool renaming and_false->Li,and_true->Gc,false->O4,false_eq_true->Et,true->C
open Decidable renaming decide->OK
open Go renaming Calls->O2,Value->a7,splice->lF
open Go.Ending renaming returned->Q
open Go.IntKind renaming i64->OW,u64->rT
open Go.Obj renaming cells->E
open Go.Proofs.Tryz renaming prog->J
open Go.RowKit renaming Below->O7
open Go.Value renaming bool->bA,int->U,slice->Z,tuple->ay
open Go.World renaming cell?->V,frozen?->bF,heap->OT,setCell->P
open Int renaming min_eq_left->J2,min_eq_right->OI,toNat->K
open List renaming contains->bJ,getD->X,length->OQ,mem_cons->bQ
open Ne renaming symm->F3
open Option renaming none->O0,some->OR
namespace Go.Proofs.YtjckpdepffejnaaGreatDoor
set_option maxRecDepth 100000
set_option maxHeartbeats 1000000
open Tryz
open Go.RowKit W
theorem uL {P:Prop}(h:P:=by
 go_wp2_with fail;refine P.mono ?_;clear P;rintro e w1 ⟨rfl,hb1⟩
 have y1:=(hb1.cell (p:=av pw 0) ja).trans c0;go_wp2_with fail;refine(l7.o w1 hb1).mono ?_;rintro e w2 ⟨rfl,W2,F2⟩
 clear y1;go_wp2_with fail;refine(pi.o w2).mono ?_;rintro e w3 ⟨rfl,hb3⟩
 have W3:=W2.o.below hb3;have n_:=F2.o.trans (Fr.of (X:=λk=>k=p\/k=q\/k=pc\/k=cW) hb3) (λ_ c=>aK c)
 obtain⟨y0,y1,_,_,l3⟩:=W3.cells;clear y0 y1;go_wp2_with fail;go_ret;exact⟨rfl,W3,n_⟩):P:=h
theorem yQ {P:Prop}(h:P:=by
 go_enter func232,ntmps232;go_wp2_with fail;refine(lZ w HA.o).mono ?_;rintro e w1 ⟨rfl,hb1⟩
 have y1:=(hb1.cell (p:=av pw 0) ja).trans hc;go_wp2_with fail;refine(n8 w1 (HA.o.below hb1 bY)).mono ?_;rintro e w2 ⟨rfl,hb2⟩
 have eP:=hb1.trans (hb2.mono hb1.size)
 have y2:=(eP.cell (p:=av pw 0) ja).trans hc;have P:=n7 a w2 (HA.o.below eP bY)
 rw[ho] at P;go_wp2_with fail;refine P.mono ?_;rintro e w3 ⟨rfl,hb3⟩
 have kO:=eP.trans (hb3.mono eP.size)
 go_wp2_with fail;go_ret;exact⟨rfl,kO⟩):P:=h
theorem yR {P:Prop}(h:P:=by
 go_enter func168,ntmps168;go_wp2_with fail;refine P.mono ?_;rintro e w1 ⟨rfl,hb1⟩
 have y1:=(hb1.cell (p:=av pw 0) ja).trans hc;go_wp2_with fail;refine(K.o w1 hb1).mono ?_;rintro e w2 ⟨rfl,hb2⟩
 have eP:=hb1.trans (hb2.mono hb1.size)
 go_wp2_with fail;refine(l7.o w2 eP).mono ?_;rintro e w3 ⟨rfl,hb3⟩
 have kO:=eP.trans (hb3.mono eP.size)
 go_wp2_with fail
 go_ret3
 exact⟨rfl,kO⟩):P:=h
theorem yS {P:Prop}(h:P:=by
 go_enter func168,ntmps168;go_wp2_with fail;refine P.mono ?_;rintro e w1 ⟨rfl,hb1⟩
 have y1:=(hb1.cell (p:=av pw 0) ja).trans hc;go_wp2_with fail;refine(K.o w1 hb1).mono ?_;rintro e w2 ⟨rfl,hb2⟩
 have eP:=hb1.trans (hb2.mono hb1.size)
 go_wp2_with fail
 go_ret3
 exact⟨rfl,eP⟩):P:=h
theorem jp {N y g:Nat}{ws:List Int}{hi:Int}:∀(k:Nat)(a:Int),OQ (e4 N y g ws hi k a)<=k
 |0,_=>by simp[e4]
 |k+1,a=>by
  have b:=jp (N:=N) (y:=y) (g:=g) (ws:=ws) (hi:=hi) k (a+(1+pf (ld N y g ws a)))
  unfold e4;split
  ·split
   ·rw[List.length_cons];omega
   ·simp
  ·simp
section
variable {pw p q N O y g:Nat}{ws:List Int}
theorem yT (x:Int)(w:az)(hc:V w (av pw 0)=OR (aq p))(h:At w p q N O y g ws):
 O2 J 229 #[aq pw,ak x] w λe w'=>e=Q (ay #[ak (kR N y g ws x),bA (tB N y g ws x)])/\O7 (I (OT w)) w w':=
 E6 x w hc h (aQ (jp _ _) ae) (aQ (jp _ _) ae)
theorem E7 (x:Int)(w:az)(hc:V w (av pw 0)=OR (aq p))(h:At w p q N O y g ws):
 O2 J 165 #[aq pw,ak x] w λe w'=>e=Q (ay #[ak (if tB N y g ws x=C then pk (ld N y g ws (cq x)) else 0),ak (if tB N y g ws x=C then pf (ld N y g ws (cq x)) else 0),ak (if tB N y g ws x=C then pc (ld N y g ws (cq x)) else 2)])/\O7 (I (OT w)) w w':=by
 have c:=cg h;have d:=aT w _ hc;have P:=yT x w hc h;cases ht:tB N y g ws x
 ·rw[ht] at P;simp only [Et,if_false];generalize kR N y g ws x=v at P;go_enter func165,ntmps165;go_wp2_with fail;refine P.mono ?_;rintro e w1 ⟨rfl,b⟩
  go_wp2_with fail
  go_ret3
  exact⟨rfl,b⟩
 ·rw[ht] at P;have ev:kR N y g ws x=cq x:=by simp[kR,ht]
  rw[ev] at P;simp only [if_true];generalize cq x=v at P;go_enter func165,ntmps165;go_wp2_with fail;refine P.mono ?_;rintro e w1 ⟨rfl,b⟩
  have y1:=(b.cell (p:=av pw 0) d).trans hc;go_wp2_with fail;refine(hC v w1 (c.o.below b bY)).mono ?_;rintro e j ⟨rfl,f⟩
  have i:=b.trans (f.mono b.size)
  go_wp2_with fail
  go_ret3
  exact⟨rfl,i⟩
def jq (N y g:Nat)(a f:Int):Int:=min f ((if hB N g a=C then(N:Int)+g else(y:Int))-a-1)
theorem yU (a f:Int)(w:az)(hc:V w (av pw 0)=OR (aq p))(h:At w p q N O y g ws)(a0:0<=a)(a1:a<=100000):
 O2 J 232 #[aq pw,ak a,ak f] w λe w'=>e=Q (ak (jq N y g a f))/\O7 (I (OT w)) w w':=by
 have HA:aA (At w p q N O y g ws):=h;have ja:=aT w _ hc;have k1:=h.hN';have k2:=h.hy;have k3:=h.hO;have k4:=h.hg;clear h;unfold jq;cases ho:hB N g a
 ·simp only [Et,if_false];by_cases hm:f<=(y:Int)-a-1
  ·rw[J2 hm];have b:¬((y:Int)-a-1<f):=aa;go_enter func232,ntmps232;go_wp2_with fail;refine(lZ w HA.o).mono ?_;rintro e w1 ⟨rfl,hb1⟩
   have y1:=(hb1.cell (p:=av pw 0) ja).trans hc;go_wp2_with fail;refine(n8 w1 (HA.o.below hb1 bY)).mono ?_;rintro e w2 ⟨rfl,hb2⟩
   have eP:=hb1.trans (hb2.mono hb1.size)
   have y2:=(eP.cell (p:=av pw 0) ja).trans hc;clear y1;have P:=n7 a w2 (HA.o.below eP bY)
   rw[ho] at P;go_wp2_with fail;refine P.mono ?_;clear P;rintro e w3 ⟨rfl,hb3⟩
   have kO:=eP.trans (hb3.mono eP.size)
   clear y2 hb1 hb2 eP hb3;go_wp2_with fail;go_ret;exact⟨rfl,kO⟩
  ·rw[OI aa];have b:(y:Int)-a-1<f:=aa;go_enter func232,ntmps232;go_wp2_with fail;refine(lZ w HA.o).mono ?_;rintro e w1 ⟨rfl,hb1⟩
   have y1:=(hb1.cell (p:=av pw 0) ja).trans hc;go_wp2_with fail;refine(n8 w1 (HA.o.below hb1 bY)).mono ?_;rintro e w2 ⟨rfl,hb2⟩
   have eP:=hb1.trans (hb2.mono hb1.size)
   have y2:=(eP.cell (p:=av pw 0) ja).trans hc;clear y1;have P:=n7 a w2 (HA.o.below eP bY)
   rw[ho] at P;go_wp2_with fail;refine P.mono ?_;rintro e w3 ⟨rfl,hb3⟩
   have kO:=eP.trans (hb3.mono eP.size)
   go_wp2_with fail;go_ret;exact⟨rfl,kO⟩
 ·simp only [if_true];by_cases hm:f<=(N:Int)+g-a-1
  ·rw[J2 hm];have b:¬((N:Int)+g-a-1<f):=aa;exact yQ
  ·rw[OI aa];exact yQ
end
theorem du (h:Int):0<=pf h/\pf h<=12:=by
 unfold pf;split
 ·have:=jK _ _ (by assumption)
  omega
 ·omega
theorem oa {N y g:Nat}{ws:List Int}{hi:Int}:∀(k:Nat)(a x:Int),x∈e4 N y g ws hi k a->a<=x/\x<hi
 |0,_,_,h=>by simp[e4] at h
 |k+1,a,x,h=>by
  unfold e4 at h;split at h
  ·split at h
   ·rcases bQ.1 h with h|h
    ·rw[h];exact⟨Int.le_refl _,by assumption⟩
    ·have b:=oa k _ x h;have c:=du (ld N y g ws a)
     omega
   ·simp at h
  ·simp at h
theorem yV {N O y g:Nat}{ws:List Int}{x:Int}(h:tB N y g ws x=C)(hN:N<=256)(hy:y<=N)(hO:O<=1024)(hg:g<=O):0<=cq x/\cq x<=1280:=by
 unfold tB at h;simp only [Bool.and_eq_true,Bool.or_eq_true,List.contains_iff_mem] at h;rcases h.2 with h|h
 ·have:=oa _ _ _ h;omega
 ·have:=oa _ _ _ h;omega
def eV (N y g:Nat)(ws:List Int)(x i:Int):Int:=
 if tB N y g ws x=C then(if pk (ld N y g ws (cq x))=5 then 2 else if i<0\/jq N y g (cq x) (pf (ld N y g ws (cq x)))<=i then 1 else 0) else 2
section
variable {pw p q N O y g:Nat}{ws:List Int}
theorem yW (x i:Int)(w:az)(hc:V w (av pw 0)=OR (aq p))(h:At w p q N O y g ws):
 O2 J 168 #[aq pw,ak x,ak i] w λe w'=>e=Q (ay #[ak (if eV N y g ws x i=0 then cq x else 0),ak (if eV N y g ws x i=0 then cq x+1+i else 0),ak (eV N y g ws x i)])/\O7 (I (OT w)) w w':=by
 have c:aA (At w p q N O y g ws):=h;have ja:=aT w _ hc;have P:=yT x w hc h;have k1:=h.hN';have k2:=h.hy;have k3:=h.hO;have k4:=h.hg;cases ht:tB N y g ws x
 ·rw[ht] at P;have b:eV N y g ws x i=2:=by unfold eV;rw[ht,aJ ac]
  rw[b,aJ ae,aJ ae];generalize kR N y g ws x=v at P;go_enter func168,ntmps168;go_wp2_with fail;refine P.mono ?_;rintro e w1 ⟨rfl,hb1⟩
  go_wp2_with fail
  go_ret3
  exact⟨rfl,hb1⟩
 ·obtain⟨d,b1⟩:=yV (O:=O) ht k1 k2 k3 k4;have j:=du (ld N y g ws (cq x))
  rw[ht] at P;have ev:kR N y g ws x=cq x:=by simp[kR,ht]
  rw[ev] at P;have b:eV N y g ws x i=if pk (ld N y g ws (cq x))=5 then 2 else if i<0\/jq N y g (cq x) (pf (ld N y g ws (cq x)))<=i then 1 else 0:=by unfold eV;rw[aN ht]
  rw[b];generalize cq x=v at P j d b1;have K:aA (∀w1,O7 (I (OT w)) w w1->_):=λw1 hb=>hC v w1 (c.o.below hb bY)
  have l7:aA (∀w1,O7 (I (OT w)) w w1->O2 J 232 #[aq pw,ak v,ak (pf (ld N y g ws v))] w1 λe w'=>e=Q (ak (jq N y g v (pf (ld N y g ws v))))/\O7 (I (OT w1)) w1 w'):=λw1 hb=>yU v _ w1 ((hb.cell (p:=av pw 0) ja).trans hc) (c.o.below hb bY) d aa;have l:jq N y g v (pf (ld N y g ws v))<=12:=by unfold jq;exact Int.le_trans (Int.min_le_left _ _) j.2
  generalize jq N y g v (pf (ld N y g ws v))=s at l7 l⊢;generalize pk (ld N y g ws v)=kd at K⊢;generalize pf (ld N y g ws v)=f at K l7;generalize pc (ld N y g ws v)=cc at K;by_cases k:kd=5
  ·subst k;rw[aN rfl,aJ ae,aJ ae];exact yS
  ·rw[aJ k];by_cases hi:i<0
   ·rw[aN (aK hi),aJ ae,aJ ae];exact yS
   ·by_cases hs:s<=i
    ·rw[aN (aI hs),aJ ae,aJ ae];exact yR
    ·have m:¬(i<0\/s<=i):=aa;rw[aJ m,aN rfl,aN rfl];exact yR
theorem E8 (x i:Int)(w:az)(hc:V w (av pw 0)=OR (aq p))(h:At w p q N O y g ws):
 O2 J 199 #[aq pw,ak x,ak i] w λe w'=>e=Q (ay #[ak (if eV N y g ws x i=0 then ld N y g ws (cq x+1+i) else 0),ak (eV N y g ws x i)])/\O7 (I (OT w)) w w':=by
 have c:=cg h;have d:=aT w _ hc;have P:=yW x i w hc h;generalize eV N y g ws x i=cd at P⊢;by_cases h0:cd=0
 ·subst h0;rw[aN rfl,aN rfl] at P;rw[aN rfl];generalize cq x+1+i=fl at P⊢;generalize cq x=v at P;go_enter func199,ntmps199;go_wp2_with fail;refine P.mono ?_;rintro e w1 ⟨rfl,b⟩
  have y1:=(b.cell (p:=av pw 0) d).trans hc;go_wp2_with fail;refine(kN fl w1 (c.o.below b bY)).mono ?_;rintro e k ⟨rfl,f⟩
  have j:=b.trans (f.mono b.size)
  go_wp2;go_ret2;exact⟨rfl,j⟩
 ·rw[aJ h0,aJ h0] at P;rw[aJ h0];go_enter func199,ntmps199;go_wp2_with fail;refine P.mono ?_;rintro e w1 ⟨rfl,b⟩
  go_wp2;go_ret2;exact⟨rfl,b⟩
end
def eR (L:Int->Int)(hi:Int):Int->List Int->Prop
 |a,[]=>a=hi
 |a,x::l=>x=a/\pc (L a)=0/\a+(1+pf (L a))<=hi/\eR L hi (a+(1+pf (L a))) l
section
variable {L L':Int->Int}{hi:Int}
theorem eR.done:eR L hi hi []:=rfl
theorem eR.step {a:Int}{l:List Int}(h0:pc (L a)=0)(b:a+(1+pf (L a))<=hi)(ht:eR L hi (a+(1+pf (L a))) l):eR L hi a (a::l):=⟨rfl,h0,b,ht⟩
theorem eR.mem {a:Int}{l:List Int}(h:eR L hi a l):∀x∈l,a<=x/\x+(1+pf (L x))<=hi/\pc (L x)=0:=by
 induction l generalizing a with
 |nil=>grind
 |cons z l c=>
  obtain⟨rfl,h0,d,ht⟩:=h;intro x b;rcases bQ.1 b with rfl|b
  ·omega
  ·have:=du (L z)
   grind
theorem eR.apart {a:Int}{l:List Int}(h:eR L hi a l):∀x∈l,∀z∈l,x<z->x+(1+pf (L x))<=z:=by
 induction l generalizing a with
 |nil=>grind
 |cons y l f=>
  obtain⟨rfl,h0,g,ht⟩:=h;intro x c z hz i;rcases bQ.1 c with ex|d
  ·rcases bQ.1 hz with e|b
   ·omega
   ·rw[ex];exact(ht.mem z b).1
  ·rcases bQ.1 hz with e|b
   ·have j:=(ht.mem x d).1;have k:=du (L y)
    omega
   grind
theorem eR.heads {a:Int}{l:List Int}(h:eR L hi a l)(he:∀x∈l,L' x=L x):eR L' hi a l:=by
 induction l generalizing a with
 |nil=>exact h
 |cons z l b=>
  obtain⟨rfl,h0,c,ht⟩:=h
  grind [step]
theorem eR.snoc {a:Int}{l:List Int}(h:eR L hi a l)(he:∀x∈l,L' x=L x){b:Int}(h0:pc (L' hi)=0)(c:b=hi+(1+pf (L' hi))):eR L' b a (l++[hi]):=by
 have hp:=du (L' hi)
 induction l generalizing a with
 |nil=>
  have e:=h;subst e
  simp_all [step,done]
 |cons z l d=>
  obtain⟨rfl,f,g,ht⟩:=h
  grind [step]
theorem eR.field {a:Int}{l:List Int}(h:eR L hi a l){v i:Int}(hv:v∈l)(b:0<=i)(c:i<pf (L v)):v+1+i∉l:=by intro hm;have:=h.apart v hv _ hm aa;omega
theorem eR.e4 {N y g:Nat}{ws:List Int}{hi a:Int}{l:List Int}(h:eR (ld N y g ws) hi a l):∀k:Nat,hi-a<=k->e4 N y g ws hi k a=l:=by
 induction l generalizing a with
 |nil=>
  have e:a=hi:=h
  simp_all [yt]
 |cons z l b=>
  obtain⟨rfl,h0,c,ht⟩:=h;intro k hk;have hp:=du (ld N y g ws z)
  grind [e4.eq_def]
end
structure ey (N y g:Nat)(ws:List Int)(Y G:List Int):Prop where
 ty:eR (ld N y g ws) y 0 Y
 eC:eR (ld N y g ws) ((N:Int)+g) N G
theorem ey.lists {N O y g:Nat}{ws:List Int}{Y G:List Int}(h:ey N y g ws Y G)(hN:N<=256)(hy:y<=N)(hO:O<=1024)(hg:g<=O):eQ N y g ws=Y/\dM N y g ws=G:=
 ⟨h.ty.e4 2000 aa,h.eC.e4 2000 aa⟩
theorem ey.start {N:Nat}{ws:List Int}:ey N 0 0 ws [] []:=⟨.done,af⟩
theorem ey.mN {N y g:Nat}{ws:List Int}{Y G:List Int}(h:ey N y g ws Y G)(hy:y<=N){v:Int}(hv:v∈Y\/v∈G):jq N y g v (pf (ld N y g ws v))=pf (ld N y g ws v):=by
 have hp:=du (ld N y g ws v)
 refine J2 ?_;rcases hv with hv|hv
 ·have b:=h.ty.mem v hv;omega
 ·have b:=h.eC.mem v hv
  grind [hB]
def mO (M:List Int)(k:Int):List Int:=if bJ M k then M else M++[k]
theorem uM (M:List Int)(k j:Int):bJ (mO M k) j=(bJ M j||j==k):=by grind [mO]
theorem E9 (M:List Int)(k:Int):OQ (mO M k)<=OQ M+1:=by unfold mO;grind
theorem uN:Maps.Keyed J 173:=Maps.int_keyed underlying173
theorem E_ (w:az):(zeroValue 306).run J w=.ok (.agg #[]) w:=ah
structure Cd (w:az)(p q:Nat)(B c:Int)(M:List Int):Prop where
 hp:w.heap[p]?=OR (E #[ak B,.int rT c,.map (OR q)] 294 (0,0))
 hq:∃D:DataW Unit,w.ownsMap J 173 unitElem q (OQ M) D/\(∀k:Int,Maps.has D (.int rT k)=bJ M k)/\Maps.size D=OQ M
theorem uO {H:Type}{P:Program}{k:TypeId}{R:a7->Option _}{w w':az}{b n:Nat}{D:DataW H}(h:w.ownsMap P k R b n D)(e:w'.heap[b]?=w.heap[b]?):w'.ownsMap P k R b n D:=by obtain⟨es,c,hb,r⟩:=h;exact⟨es,c,e.trans hb,r⟩
theorem uP {H:Type}{P:Program}{k:TypeId}{R:a7->Option _}{w:az}{b n m:Nat}{D:DataW H}(h:w.ownsMap P k R b n D)(e:Maps.size D=m):w.ownsMap P k R b m D:=by obtain⟨es,c,hb,F,hs,rfl⟩:=h;exact⟨es,c,hb,F,by rw[<-e];simp[Maps.size,length_sorted],rfl⟩
theorem Cd.fw {w:az}{p q:Nat}{B c:Int}{M:List Int}(h:Cd w p q B c M):p<I (OT w):=cj h.hp
theorem Cd.fz {w:az}{p q:Nat}{B c:Int}{M:List Int}(h:Cd w p q B c M):q<I (OT w):=by obtain⟨D,b,_⟩:=h.hq;exact b.lt
theorem Cd.ne {w:az}{p q:Nat}{B c:Int}{M:List Int}(h:Cd w p q B c M):p≠q:=by
 intro e;obtain⟨D,⟨es,b,hb,_⟩,_⟩:=h.hq;have d:=h.hp
 grind
theorem Cd.same {w w':az}{p q:Nat}{B c:Int}{M:List Int}(h:Cd w p q B c M)(ep:w'.heap[p]?=w.heap[p]?)(eq:w'.heap[q]?=w.heap[q]?):Cd w' p q B c M:=by obtain⟨D,b,d⟩:=h.hq;exact⟨ep.trans h.hp,D,uO b eq,d⟩
theorem Cd.below {w w':az}{p q X:Nat}{B c:Int}{M:List Int}(h:Cd w p q B c M)(hb:O7 X w w')(hX:I (OT w)<=X):Cd w' p q B c M:=
 (by grind [same,fw,fz,Below.block])
theorem Cd.cells {w:az}{p q:Nat}{B c:Int}{M:List Int}(h:Cd w p q B c M):
 V w (av p 0)=OR (ak B)/\V w (av p 1)=OR (U rT c)/\V w (av p 2)=OR (.map (OR q)):=by
 have hp:=h.hp;refine⟨?_,?_,?_⟩<;>simp[World.cell?,hp]
theorem Cd.put {w w':az}{p q:Nat}{B c k:Int}{M:List Int}{D:DataW Unit}{n:Nat}(h:w.heap[p]?=OR (E #[.int OW B,.int rT c,.map (OR q)] 294 (0,0)))
 (h0:w.ownsMap J 173 unitElem q (OQ M) D)(d:∀k:Int,Maps.has D (.int rT k)=bJ M k)(f:Maps.size D=OQ M)(l:p≠q)
 (g:w'.ownsMap J 173 unitElem q n (D.put (.int rT k) (.agg [])))(b:w.grownBy w' (OR q)):Cd w' p q B c (mO M k)/\dl p q w w':=by
 have hs:Maps.size (D.put (.int rT k) (.agg []))=OQ (mO M k):=by
  rw[Maps.size_put (h0.tidy uN),d,f];unfold mO
  grind
 refine⟨⟨(by grind [World.grownBy.block]),_,uP g hs,λj=>?_,hs⟩,⟨b.os,b.tape,b.output,b.size,λi hi _ e=>(by grind [World.grownBy.block])⟩⟩
 rw[uM];by_cases e:j=k
 ·subst e;rw[Maps.has_put_same (k:=.int rT j) h0.isMap trivial];simp
 grind [Maps.has_put_other]
theorem Cd.none {w:az}{p q:Nat}{B c:Int}(h:w.heap[p]?=OR (E #[.int OW B,.int rT c,.map (OR q)] 294 (0,0)))(b:w.ownsMap J 173 unitElem q 0 (.map []:DataW Unit)):Cd w p q B c []:=
 ⟨h,_,b,λ_=>rfl,rfl⟩
def dT (x:Int):Int:=if x<0 then 0 else(x+8-1)/8
def cN (B a:Int):Int:=if a<B then 0 else(a-B)/8
def gR (B c a:Int):Bool:=decide (B<=a)&&decide ((a-B)/8<c)
theorem Fa (x:Int)(w:az)(h:x<=100000):O2 J 220 #[ak x] w λe w'=>e=Q (U rT (dT x))/\w'=w:=by
 by_cases c:x<0
 ·have e:dT x=0:=by unfold dT;rw[aN c]
  rw[e];go_enter func220,ntmps220;go_wp2;go_ret;exact⟨rfl,rfl⟩
 ·have e:dT x=(x+8-1)/8:=by unfold dT;rw[aJ c]
  go_wp2;go_ret;exact⟨rfl,rfl⟩
theorem bk {p:Prop} [Decidable p]:¬p -> OK p = O4:=decide_eq_false
theorem bm {p:Prop} [inst:Decidable p]:p -> OK p = C:=decide_eq_true
theorem yX {p q:Nat}{B c:Int}{M:List Int}(a:Int)(w:az)(h:Cd w p q B c M)(hB:0<=B)(d:B<=100000)(ha:a<=9223372036854775807):
 O2 J 235 #[aq p,ak a] w λe w'=>e=Q (ay #[U rT (cN B a),bA (gR B c a)])/\O7 (I (OT w)) w w':=by
 obtain⟨c0,c1,c2⟩:=h.cells;by_cases hc:a<B
 ·have e:gR B c a=O4:=by unfold gR;rw[bk aa];rfl
  have b:cN B a=0:=by unfold cN;rw[aN hc]
  rw[e,b];go_enter func235,ntmps235;go_wp2;go_ret2;exact⟨rfl,aH _ _⟩
 ·have e:gR B c a=decide ((a-B)/8<c):=by unfold gR;rw[bm aa];rfl
  have b:cN B a=(a-B)/8:=by unfold cN;rw[aJ hc]
  rw[e,b];go_enter func235,ntmps235;exact ut
def mP (B c a:Int)(M:List Int):List Int:=if gR B c a then mO M (cN B a) else M
theorem yY {B c a:Int}{M:List Int}(h:gR B c a=C):mP B c a M=mO M (cN B a):=by unfold mP;rw[aN h]
theorem Fc {B c a:Int}{M:List Int}(h:gR B c a=O4):mP B c a M=M:=by unfold mP;rw[aJ (by rw[h];simp)]
theorem yZ {B a:Int}(hB:0<=B)(ha:a<=9223372036854775807):(Lit.int rT (cN B a)).wf=C:=by
 unfold cN;split
 ·decide
 ·have b:0<=(a-B)/8:=aa;exact WalkArith.wf_u64 ⟨b,aa⟩
theorem Fe {p q:Nat}{B c:Int}{M:List Int}(a:Int)(w:az)(h:Cd w p q B c M)(hB:0<=B)(f:B<=100000)(ha:a<=9223372036854775807)(hM:OQ M<=100000):
 O2 J 173 #[aq p,ak a] w λe w'=>e=Q (.bool (gR B c a))/\Cd w' p q B c (mP B c a M)/\dl p q w w':=by
 go_enter func173,ntmps173;go_wp2_with fail;refine(yX a _ h hB f ha).mono ?_;rintro e w1 ⟨rfl,d⟩
 have b:=h.below d bY
 obtain⟨c0,c1,c2⟩:=b.cells;obtain⟨D,o1,g,i⟩:=b.hq;cases hc:gR B c a
 ·go_wp2;go_ret;exact⟨by rw[hc];rfl,by rw[Fc hc];exact b,dl.of d⟩
 ·go_wp2_with (first
   |(at_mapUpdate;refine wpList_mapUpdate_own _ rfl _ _ _ 292 rfl 173 306 uN underlying292 _ q (OQ M) D rfl o1 (by unfold maxLen;omega) _ _ _ rfl rfl (Maps.keyOf_int_mk (P:=J) underlying173 (yZ (B:=B) (a:=a) hB ha)) _ [] unitElem_mk ?_;intro m j k)
   |go_in)
  go_ret;obtain⟨l,s2⟩:=Cd.put b.hp o1 g i b.ne j k;exact⟨by rw[hc];rfl,by rw[yY hc];exact l,(dl.of d).trans s2⟩
theorem Ff {p q:Nat}{B c:Int}{M:List Int}(a:Int)(w:az)(h:Cd w p q B c M)(hB:0<=B)(f:B<=100000)(ha:a<=9223372036854775807):
 O2 J 241 #[aq p,ak a] w λe w'=>e=Q (.bool (gR B c a&&bJ M (cN B a)))/\O7 (I (OT w)) w w':=by
 go_enter func241,ntmps241;go_wp2_with fail;refine(yX a _ h hB f ha).mono ?_;rintro e w1 ⟨rfl,b⟩
 have d:=h.below b bY
 obtain⟨c0,c1,c2⟩:=d.cells;obtain⟨D,o1,g,i⟩:=d.hq;cases hc:gR B c a
 ·go_wp2;go_ret;exact⟨by rw[hc];rfl,b⟩
 ·go_wp2_with (first
   |(at_lookup;refine wpList_lookup_own_unit _ rfl _ _ 292 rfl 173 306 uN underlying292 (E_ _) q (OQ M) D rfl o1 _ _ rfl (Maps.keyOf_int_mk underlying173 (yZ (a:=a) hB ha)) ?_)
   |go_in)
  go_ret;exact⟨by rw[hc];simp,b.alloc b.size _⟩
theorem uQ {p:Nat}{B c:Int}{v:a7}(w:az)(h:w.heap[p]?=OR (E #[ak B,U rT c,v] 294 (0,0))):
 O2 J 185 #[aq p] w λe w'=>e=Q (ay #[])/\Cd w' p (I (OT w)) B c []/\dl p p w w':=by
 have b:=@run_makeMap J;have hp:=cj h;have d:bF (w.alloc (.map #[] 0)) (av p 2)=O4:=by simp[World.frozen?,Below.heap_alloc _ _ _ hp,h]
 have hc:V (w.alloc (.map #[] 0)) (av p 2)=OR v:=by simp[World.cell?,Below.heap_alloc _ _ _ hp,h]
 go_enter func185,ntmps185;go_wp2_with fail;go_end0;have hm:=World.ownsMap_made (P w ⟨p,2,O0⟩ (.map (OR (I (OT w))))) J 173 (unitElem (H:=Unit))
 have hz:I (OT (P w ⟨p,2,O0⟩ (.map (OR (I (OT w))))))=I (OT w):=by simp[World.setCell]
 rw[hz] at hm;refine⟨rfl,Cd.none ((aU _ _ _ aa).trans ?_) hm,(dl.qm _ _).trans (dl.of (bZ.alloc bY _))⟩
 simp only [World.setCell,Array.getElem?_modify,if_true,h,Option.map_some];simp
theorem Fg (B x:Int)(w:az)(h:x<=100000):
 O2 J 154 #[ak B,ak x] w λe w'=>∃p q,e=Q (aq p)/\Cd w' p q B (dT x) []/\I (OT w)<=p/\I (OT w)<=q/\O7 (I (OT w)) w w':=by
 go_enter func154,ntmps154;go_wp2_with fail;refine(Fa x _ h).mono ?_;rintro e w1 ⟨rfl,b⟩
 have b:=b.symm;subst b;go_wp2_with fail;refine(uQ (v:=.map O0) _ (aO _ _)).mono ?_;rintro e d ⟨rfl,c,s2⟩
 go_wp2_with fail;go_ret;exact⟨_,_,rfl,c,aG _,ac,(bZ.alloc bY _).trans (s2.below ac bY bY)⟩
structure iY (w:az)(pw p q pc cW N O y g:Nat)(ws:List Int)(c:Int)(M:List Int)(vs vr:a7):Prop where
 cY:w.heap[pw]?=OR (E #[aq p,aq pc,vs,vr] 125 (0,0))
 ar:At w p q N O y g ws
 cd:Cd w pc cW N c M
section
variable {w w':az}{pw p q pc cW N O y g:Nat}{ws:List Int}{c:Int}{M:List Int}{vs vr:a7}
theorem iY.cells (h:iY w pw p q pc cW N O y g ws c M vs vr):V w (av pw 0)=OR (aq p)/\V w (av pw 1)=OR (aq pc)/\V w (av pw 2)=OR vs/\V w (av pw 3)=OR vr/\pw<I (OT w):=
 ⟨by simp[World.cell?,h.cY],by simp[World.cell?,h.cY],by simp[World.cell?,h.cY],by simp[World.cell?,h.cY],cj h.cY⟩
theorem iY.apart (h:iY w pw p q pc cW N O y g ws c M vs vr):pw≠p/\pw≠q/\pw≠pc/\pw≠cW/\p≠pc/\p≠cW/\q≠pc/\q≠cW:=by
 obtain⟨D,⟨es,j,hb,_⟩,_⟩:=h.cd.hq;have b:=h.cY;have d:=h.ar.hp;have f:=h.ar.hq;have i:=h.cd.hp;refine⟨λe=>?_,λe=>?_,λe=>?_,λe=>?_,λe=>?_,λe=>?_,λe=>?_,λe=>?_⟩
 ·rw[e,d] at b;simp at b
 ·rw[e,f] at b;simp at b
 ·rw[e,i] at b;simp at b
 ·rw[e,hb] at b;simp at b
 ·rw[e,i] at d;simp at d
 ·rw[e,hb] at d;simp at d
 ·rw[e,i] at f;simp at f
 ·rw[e,hb] at f;simp at f
theorem iY.below (h:iY w pw p q pc cW N O y g ws c M vs vr)(hb:O7 (I (OT w)) w w'):iY w' pw p q pc cW N O y g ws c M vs vr:=
 ⟨(hb.block pw (cj h.cY)).trans h.cY,h.ar.below hb bY,h.cd.below hb bY⟩
theorem iY.arena (h:iY w pw p q pc cW N O y g ws c M vs vr){b d:Nat}{e:List Int}(ha:At w' p q N O b d e)(s:dl p q w w'):iY w' pw p q pc cW N O b d e c M vs vr:=by obtain⟨a1,a2,l,m,f,i,j,k⟩:=h.apart;exact⟨(s.block pw (cj h.cY) a1 a2).trans h.cY,ha,h.cd.same (s.block pc h.cd.fw (F3 f) (F3 j)) (s.block cW h.cd.fz (F3 i) (F3 k))⟩
theorem iY.cards (h:iY w pw p q pc cW N O y g ws c M vs vr){b:List Int}(hc:Cd w' pc cW N c b)(s:dl pc cW w w'):iY w' pw p q pc cW N O y g ws c b vs vr:=by obtain⟨a1,a2,d,e,f,i,j,k⟩:=h.apart;exact⟨(s.block pw (cj h.cY) d e).trans h.cY,h.ar.same (s.block p h.ar.fw f i) (s.block q h.ar.fz j k),hc⟩
def hI (N y g:Nat)(ws:List Int)(x i z:Int):List Int:=if eV N y g ws x i=0 then(if dB N y g (cq x+1+i)=C then ws.set (K (cq x+1+i)) z else ws) else ws
def pj (N y g:Nat)(ws:List Int)(x i z:Int):Bool:=decide (eV N y g ws x i=0)&&(di z&&hB 0 y (cq z)&&hB N g (cq x))
def stM (N y g:Nat)(ws:List Int)(x i z c:Int)(M:List Int):List Int:=if pj N y g ws x i z=C then mP N c (cq x) M else M
theorem Fh (x i z:Int)(h:iY w pw p q pc cW N O y g ws c M vs vr)(hM:OQ M<=100000):
 O2 J 127 #[aq pw,ak x,ak i,ak z] w λe w'=>e=Q (ak (eV N y g ws x i))/\iY w' pw p q pc cW N O y g (hI N y g ws x i z) c (stM N y g ws x i z c M) vs vr/\Fr (λk=>k=p\/k=q\/k=pc\/k=cW) w w':=by
 have H:aA (_):=h;obtain⟨c0,c1,_,_,ja⟩:=h.cells;have P:=yW x i w c0 h.ar;have k1:=h.ar.hN';have k2:=h.ar.hy;have k3:=h.ar.hO;have k4:=h.ar.hg;have ao:∀{a b:az},dl p q a b->Fr (λk=>k=p\/k=q\/k=pc\/k=cW) a b:=λs=>⟨s.os,s.tape,s.output,s.size,λk hk hn=>s.block k hk (λe=>hn (aK e)) (λe=>hn (aI (aK e)))⟩
 have ap:∀{a b:az},dl pc cW a b->Fr (λk=>k=p\/k=q\/k=pc\/k=cW) a b:=λs=>⟨s.os,s.tape,s.output,s.size,λk hk hn=>s.block k hk (λe=>hn (aI (aI (aK e)))) (λe=>hn (aI (aI (aI e))))⟩
 clear h;by_cases h0:eV N y g ws x i=0
 ·have ht:tB N y g ws x=C:=by
   cases e:tB N y g ws x
   ·unfold eV at h0;rw[e,aJ ac] at h0;omega
   ·rfl
  obtain⟨ar,b1⟩:=yV (O:=O) ht k1 k2 k3 k4;have B:hI N y g ws x i z=if dB N y g (cq x+1+i)=C then ws.set (K (cq x+1+i)) z else ws:=by unfold hI;rw[aN h0]
  have F:stM N y g ws x i z c M=if(di z&&hB 0 y (cq z)&&hB N g (cq x))=C then mP N c (cq x) M else M:=by unfold stM pj;rw[bm h0,Bool.true_and]
  rw[h0,aN rfl,aN rfl] at P;rw[h0,B,F];clear B F h0 ht;generalize cq x+1+i=fl at P⊢;generalize cq x=v at P ar b1⊢;have l7:aA (∀w1,O7 (I (OT w)) w w1->O2 J 169 #[aq p,ak fl,ak z] w1 λe w'=>e=Q (bA (dB N y g fl))/\aA (iY w' pw p q pc cW N O y g (if dB N y g fl=C then ws.set (K fl) z else ws) c M vs vr)/\aA (Fr (λk=>k=p\/k=q\/k=pc\/k=cW) w w')):=λw1 hb=>by
   have S:=H.o.below hb;refine(mK fl z w1 S.ar).mono ?_;rintro e w2 ⟨rfl,aF,s2⟩
   exact⟨rfl,S.arena aF s2,(Fr.of (X:=λk=>k=p\/k=q\/k=pc\/k=cW) hb).trans (ao s2) (λ_ c=>aK c)⟩
  have pi:aA (∀w2,_):=λw2=>o8 z w2;generalize (if dB N y g fl=C then ws.set (K fl) z else ws)=bb at l7⊢;generalize dB N y g fl=bd at l7;obtain⟨ab,al⟩:∃b,di z=b:=⟨_,rfl⟩
  rw[al] at pi⊢;clear al;generalize cq z=u at pi⊢;cases hb2:hB 0 y u
  ·rw[Li,Bool.false_and,aJ ac];cases ab
   ·go_enter func127,ntmps127;exact uL
   ·go_enter func127,ntmps127;go_wp2_with fail;refine P.mono ?_;clear P;rintro e w1 ⟨rfl,hb1⟩
    have y1:=(hb1.cell (p:=av pw 0) ja).trans c0;go_wp2_with fail;refine(l7.o w1 hb1).mono ?_;rintro e w2 ⟨rfl,W2,F2⟩
    clear y1;go_wp2_with fail;refine(pi.o w2).mono ?_;rintro e w3 ⟨rfl,hb3⟩
    have W3:=W2.o.below hb3;have n_:=F2.o.trans (Fr.of (X:=λk=>k=p\/k=q\/k=pc\/k=cW) hb3) (λ_ c=>aK c)
    obtain⟨y0,y1,_,_,l3⟩:=W3.cells;have d:=n6 u w3 W3.ar;rw[hb2] at d;go_wp2_with fail;refine d.mono ?_;clear d;rintro e W ⟨rfl,j⟩
    have f:=W3.below j;have n:=n_.trans (Fr.of (X:=λk=>k=p\/k=q\/k=pc\/k=cW) j) (λ_ c=>aK c)
    obtain⟨z0,o,_,_,am⟩:=f.cells;clear y0 y1;clear z0 o;go_wp2_with fail;go_ret;exact⟨rfl,f,n⟩
  ·rw[Gc];cases y3:hB N g v
   ·rw[Li,aJ ac];cases ab
    ·go_enter func127,ntmps127;exact uL
    ·go_enter func127,ntmps127;go_wp2_with fail;refine P.mono ?_;clear P;rintro e w1 ⟨rfl,hb1⟩
     have y1:=(hb1.cell (p:=av pw 0) ja).trans c0;go_wp2_with fail;refine(l7.o w1 hb1).mono ?_;rintro e w2 ⟨rfl,W2,F2⟩
     clear y1;go_wp2_with fail;refine(pi.o w2).mono ?_;rintro e w3 ⟨rfl,hb3⟩
     have W3:=W2.o.below hb3;have n_:=F2.o.trans (Fr.of (X:=λk=>k=p\/k=q\/k=pc\/k=cW) hb3) (λ_ c=>aK c)
     obtain⟨y0,y1,_,_,l3⟩:=W3.cells;have d:=n6 u w3 W3.ar;rw[hb2] at d;go_wp2_with fail;refine d.mono ?_;clear d;rintro e W ⟨rfl,j⟩
     have f:=W3.below j;have n:=n_.trans (Fr.of (X:=λk=>k=p\/k=q\/k=pc\/k=cW) j) (λ_ c=>aK c)
     obtain⟨z0,o,_,_,am⟩:=f.cells;clear y0 y1;have l:=n7 v W f.ar;rw[y3] at l;go_wp2_with fail;refine l.mono ?_;clear l;rintro e an ⟨rfl,t⟩
     have m:=f.below t;have ad:=n.trans (Fr.of (X:=λk=>k=p\/k=q\/k=pc\/k=cW) t) (λ_ c=>aK c)
     obtain⟨ag,ai,_,_,aR⟩:=m.cells;clear z0 o;clear ag ai;go_wp2_with fail;go_ret;exact⟨rfl,m,ad⟩
   ·rw[Gc];cases ab
    ·rw[aJ ac];go_enter func127,ntmps127;exact uL
    ·rw[aN rfl];go_enter func127,ntmps127;go_wp2_with fail;refine P.mono ?_;clear P;rintro e w1 ⟨rfl,hb1⟩
     have y1:=(hb1.cell (p:=av pw 0) ja).trans c0;go_wp2_with fail;refine(l7.o w1 hb1).mono ?_;rintro e w2 ⟨rfl,W2,F2⟩
     clear y1;go_wp2_with fail;refine(pi.o w2).mono ?_;rintro e w3 ⟨rfl,hb3⟩
     have W3:=W2.o.below hb3;have n_:=F2.o.trans (Fr.of (X:=λk=>k=p\/k=q\/k=pc\/k=cW) hb3) (λ_ c=>aK c)
     obtain⟨y0,y1,_,_,l3⟩:=W3.cells;have d:=n6 u w3 W3.ar;rw[hb2] at d;go_wp2_with fail;refine d.mono ?_;clear d;rintro e W ⟨rfl,j⟩
     have f:=W3.below j;have n:=n_.trans (Fr.of (X:=λk=>k=p\/k=q\/k=pc\/k=cW) j) (λ_ c=>aK c)
     obtain⟨z0,o,_,_,am⟩:=f.cells;clear y0 y1;have l:=n7 v W f.ar;rw[y3] at l;go_wp2_with fail;refine l.mono ?_;clear l;rintro e an ⟨rfl,t⟩
     have m:=f.below t;have ad:=n.trans (Fr.of (X:=λk=>k=p\/k=q\/k=pc\/k=cW) t) (λ_ c=>aK c)
     obtain⟨ag,ai,_,_,aR⟩:=m.cells;clear z0 o;go_wp2_with fail;refine(Fe v an m.cd aa aa aa hM).mono ?_;rintro e be ⟨rfl,a0,s6⟩
     have a1:=m.cards a0 s6;have a2:=ad.trans (ap s6) (λ_ c=>aK c)
     clear ag ai;go_wp2_with fail;go_ret;exact⟨rfl,a1,a2⟩
 ·have B:hI N y g ws x i z=ws:=by unfold hI;rw[aJ h0]
  have F:stM N y g ws x i z c M=M:=by unfold stM pj;rw[bk h0];rfl
  rw[aJ h0,aJ h0] at P;rw[B,F];generalize eV N y g ws x i=cd at P h0⊢;go_enter func127,ntmps127;go_wp2_with fail;refine P.mono ?_;clear P;rintro e w1 ⟨rfl,hb1⟩
  have S:=H.o.below hb1;clear c0 c1;go_wp2_with fail;go_ret;exact⟨rfl,S,Fr.of hb1⟩
end
open Go.ChangeShapes Go.WideShapes Go.ChangeAt Go.RowKit Go.Joins Go.Deep W
namespace qx
theorem rW (ws:List Int)(t f n i:Nat)(b:t+n<=OQ ws)(c:f+n<=OQ ws):
 X (lF ws t ((ws.drop f).take n)) i 0=if t<=i/\i<t+n then X ws (f+i-t) 0 else X ws i 0:=by
 have hl:OQ ((ws.drop f).take n)=n:=by grind
 unfold lF;rw[hl];simp only [List.getD_eq_getElem?_getD]
 grind
theorem copied {N O y g:Nat}{ws:List Int}{a:Nat}(hl:OQ ws=N+O)(hy:y<=N)(hi:dB N y g a=C)(n:Nat)(b:1+(n:Int)<=ia N y g a-a)(e:1+(n:Int)<=(O:Int)-g)(j:Nat)(f:j<=n):
 ld N y (g+(1+n)) (lF ws (N+g) ((ws.drop a).take (1+n))) ((N:Int)+g+j)=X ws (a+j) 0/\ld N y (g+(1+n)) (lF ws (N+g) ((ws.drop a).take (1+n))) ((a:Int)+j)=X ws (a+j) 0:=by
 have he:ia N y g a<=(N:Int)+g:=by unfold ia;omega
 constructor
 ·have d:hB N ((g+(1+n):Nat):Int) ((N:Int)+g+j)=C:=by simp[hB];omega
  have hi:dB N y (g+(1+n)) ((N:Int)+g+j)=C:=by unfold dB;grind
  unfold ld
  grind [rW]
 ·have i:dB N y (g+(1+n)) ((a:Int)+j)=C:=by
   unfold ia at b;split at b
   ·rename_i c;have c:=kM c;have d:hB 0 y ((a:Int)+j)=C:=by simp[hB];omega
    unfold dB;grind
   ·rename_i c;have c1:hB N g a=C:=by
     unfold dB at hi
     grind
    have c2:=kM c1;have d:hB N ((g+(1+n):Nat):Int) ((a:Int)+j)=C:=by simp[hB];omega
    unfold dB;grind
  unfold ld
  grind [rW]
end qx
open Go.RowKit W qx
theorem gg {N y g:Nat}{ws:List Int}{a:Int}(h:dB N y g a=C):ld N y g ws a=X ws (K a) 0:=by grind [ld]
theorem jE {N y g:Nat}{a:Int}(h0:0<=a)(b:a<y):dB N y g a=C:=by grind [dB,hB]
theorem iZ {N y g:Nat}{a:Int}(h0:(N:Int)<=a)(b:a<(N:Int)+g):dB N y g a=C:=by grind [dB,hB]
section
variable {N O y g:Nat}{ws:List Int}{Y G:List Int}
theorem ey.jr (h:ey N y g ws Y G):∀x∈Y,0<=x/\x<y:=λx b=>by
 have c:=h.ty.mem x b;have d:=du (ld N y g ws x)
 omega
theorem ey.io (h:ey N y g ws Y G):∀x∈G,(N:Int)<=x/\x<(N:Int)+g:=λx b=>by
 have c:=h.eC.mem x b;have d:=du (ld N y g ws x)
 omega
theorem ey.make (h:ey N y g ws Y G)(hl:OQ ws=N+O){k f:Int}(hm:jo N y k f=C):ey N (jM N y k f) g (gH N y k f ws) (Y++[(y:Int)]) G:=by
 obtain⟨b,j⟩:=qv hm;have l:=jK k f b;have c:jM N y k f=y+1+K f:=by grind [jM]
 have d:gH N y k f ws=gs ws y (hw k f) (K f):=by grind [gH]
 rw[c,d];have e:y+K f<OQ ws:=aa;have m:ld N (y+1+K f) g (gs ws y (hw k f) (K f)) y=hw k f:=yM _ _ e;have hp:=rL k f b;refine⟨h.ty.snoc (λx i=>?_) (by grind) (by grind),h.eC.heads (λx i=>?_)⟩
 ·grind [jr,gg,jE,j6]
 grind [io,gg,iZ,j6]
theorem ey.copy (h:ey N y g ws Y G)(hl:OQ ws=N+O)(hy:y<=N)(hg:g<=O){a:Int}(hm:jb N O y g ws a=C)(ha:a∈Y\/a∈G):ey N y (kP N O y g ws a) (kQ N O y g ws a) Y (G++[((N+g:Nat):Int)])/\ld N y (kP N O y g ws a) (kQ N O y g ws a) ((N+g:Nat):Int)=ld N y g ws a:=by
 obtain⟨m,o,p⟩:=qw hm;have hp:=du (ld N y g ws a)
 have d:kP N O y g ws a=g+(1+K (pf (ld N y g ws a))):=by unfold kP;rw[aN hm]
 have e:kQ N O y g ws a=lF ws (N+g) ((ws.drop (K a)).take (1+K (pf (ld N y g ws a)))):=by unfold kQ;rw[aN hm]
 have f:0<=a/\a+(1+pf (ld N y g ws a))<=(N:Int)+g/\dB N y g a=C:=by
  rcases ha with ha|ha
  ·have j:=h.ty.mem a ha;have b:=h.jr a ha;exact⟨b.1,aa,jE b.1 b.2⟩
  ·have j:=h.eC.mem a ha;have b:=h.io a ha;exact⟨aa,aa,iZ b.1 b.2⟩
 rw[d,e];obtain⟨n,hn⟩:∃n,n=K (pf (ld N y g ws a)):=⟨_,rfl⟩
 rw[<-hn];have c:∀i:Nat,_=_:=λi=>rW ws (N+g) (K a) (1+n) i aa aa;have k:ld N y (g+(1+n)) (lF ws (N+g) ((ws.drop (K a)).take (1+n))) ((N+g:Nat):Int)=ld N y g ws a:=by rw[gg (iZ aa aa),Int.toNat_natCast,c,aN aa,Nat.add_sub_cancel,gg f.2.2]
 refine⟨⟨h.ty.heads (λx l=>?_),?_⟩,k⟩
 ·have hi:=h.jr x l;rw[gg (jE hi.1 hi.2),gg (jE hi.1 hi.2),c,aJ aa]
 ·have ht:=h.eC
  grind [eR.snoc,io,gg,iZ]
theorem ey.set (h:ey N y g ws Y G)(hl:OQ ws=N+O)(hy:y<=N)(hg:g<=O){v i z:Int}(hv:v∈Y\/v∈G)(d:0<=i)(f:i<pf (ld N y g ws v)):ey N y g (ws.set (K (v+1+i)) z) Y G/\∀x,(x∈Y\/x∈G)->ld N y g (ws.set (K (v+1+i)) z) x=ld N y g ws x:=by
 have hb:0<=v/\v+1+i<(N:Int)+g:=by
  rcases hv with hv|hv
  ·have c:=h.ty.mem v hv;omega
  ·have c:=h.eC.mem v hv;omega
 have key:∀x,(x∈Y\/x∈G)->ld N y g (ws.set (K (v+1+i)) z) x=ld N y g ws x:=λx b=>by
  have k:x≠v+1+i:=by
   intro e;rcases hv with hv|hv<;>rcases b with b|b
   ·exact h.ty.field hv d f (by grind)
   ·have c:=h.ty.mem v hv;have j:=h.io x b;omega
   ·have c:=h.io v hv;have j:=h.jr x b;omega
   ·exact h.eC.field hv d f (by grind)
  grind [jr,jE,io,iZ,gg]
 exact⟨⟨h.ty.heads (by grind),h.eC.heads (by grind)⟩,key⟩
end
open Go.RowKit W Kp ch
structure gh (σ:Type) extends dr σ where
 p:Nat
 vr:a7
 wt:σ->List b8
 put:σ->List b8->σ
 side:∀{F s w},J F s w->∃ad cap,w.heap[p]?=OR (E #[vr,Z ad (OQ (wt s)) cap] 197 (0,0))/\i_ w ad (wt s) cap/\F p/\(0<OQ (wt s)->∀z,ad=OR z->F z.block)
 set:∀{F s w},J F s w->∀{w1:az}{q:List b8}{b1 g_:Nat},O7 (I (OT w)) w w1->w1.ownsRow (I (OT w)) 247 2 (Z (au b1) (OQ q) g_) (OQ q) (ev q)->
  J (λk=>F k\/k=b1) (put s q) (P w1 ⟨p,1,O0⟩ (Z (OR ⟨b1,0,O0⟩) (OQ q) g_))
 rX:∀s q,wt (put s q)=q
theorem i_.keep {w w':az}{ad:Option Addr}{l:List b8}{cap:Nat}(h:i_ w ad l cap)(hs:I (OT w)<=I (OT w'))(hk:0<OQ l->∀a,ad=OR a->w'.heap[a.block]?=w.heap[a.block]?):i_ w' ad l cap:=⟨h.lp.keep hs hk,h.le,h.nil⟩
theorem i_.below {w w':az}{ad:Option Addr}{l:List b8}{cap:Nat}(h:i_ w ad l cap)(hb:O7 (I (OT w)) w w'):i_ w' ad l cap:=⟨h.lp.below hb,h.le,h.nil⟩
def ob {d:Type}(o:gh d)(D:Int->Prop)(f:Nat)(b c:Array a7)(kp:d->Int->Int×d):Prop:=
 ∀F t w (x:Int),D x->OQ (o.wt (kp t x).2)<=90000->o.J F t w->O2 prog f (b.push (ak x)++c) w λr w'=>∃e,r=Q (ak (kp t x).1)/\o.J e (kp t x).2 w'/\Fr F w w'/\∀k,e k->F k\/I (OT w)<=k
structure gI where
 f:Nat
 b:Array a7
 c:Array a7
abbrev gI.v (x:gI):Value:=.func (.func x.f) x.b x.c
structure kS (w:az)(p bl Fi bs:Nat)(fa fk fn:gI):Prop where
 l:w.heap[bl]?=OR (E #[fa.v,fk.v,fn.v] 258 (0,0))
 g:w.heap[Fi]?=OR (E #[.func (.func 246) #[] #[aq bl]] 246 (0,0))
 s:w.heap[bs]?=OR (E #[aq p] 123 (0,0))
theorem y4 {i:Type}(o:dr i)(D:Int->Prop)(d:gI)(is:i->Int->Bool)(he:ef d.f)(ha:lu o D d.f d.b d.c is)(F:Nat->Prop)(s:i)(w:az)(bl:Nat)(e:b8)(hD:D e.1)(j:o.J F s w)(hc:V w (av bl 0)=OR d.v):
 O2 prog 246 #[en e,aq bl] w λr w'=>r=Q (bA (is s e.1))/\O7 (I (OT w)) w w':=by
 obtain⟨g,z⟩:=e;obtain⟨f,b,c⟩:=d;have l:aA (_):=ha;have m:aA (_):=j;have n:=aT w _ hc;have p:∀(args:Array a7)(w:az),_=_:=he;clear he ha j;go_enter func246,ntmps246;go_wp2_with fail;have k:=aw w (E #[U OW g,U OW z] 247)
 refine(l.o F s _ g hD (o.below m.o k)).mono ?_;rintro r w1 ⟨rfl,hb⟩
 go_wp2_with fail;go_ret;exact⟨rfl,k.trans (hb.mono ac)⟩
theorem Fj {i:Type}(o:dr i)(D:Int->Prop)(d:gI)(is:i->Int->Bool)(he:ef d.f)(ha:lu o D d.f d.b d.c is)(F:Nat->Prop)(s:i)(w:az)(bl:Nat)(e:b8)(hD:D e.2)(j:o.J F s w)(hc:V w (av bl 0)=OR d.v):
 O2 prog 251 #[en e,aq bl] w λr w'=>r=Q (bA (is s e.2))/\O7 (I (OT w)) w w':=by
 obtain⟨g,z⟩:=e;obtain⟨f,b,c⟩:=d;have l:aA (_):=ha;have m:aA (_):=j;have n:=aT w _ hc;have p:∀(args:Array a7)(w:az),_=_:=he;clear he ha j;go_enter func251,ntmps251;go_wp2_with fail;have k:=aw w (E #[U OW g,U OW z] 247)
 refine(l.o F s _ z hD (o.below m.o k)).mono ?_;rintro r w1 ⟨rfl,hb⟩
 go_wp2_with fail;go_ret;exact⟨rfl,k.trans (hb.mono ac)⟩
def cm {b:Type}(o:gh b)(is:b->Int->Bool)(kp:b->Int->Int×b)(s:b)(e:b8):Bool×b:=
 if is s e.1 then(C,o.put (kp s e.2).2 (o.wt (kp s e.2).2++[(e.1,(kp s e.2).1)])) else(O4,s)
theorem oc {b:Type}{o:gh b}{is:b->Int->Bool}{kp:b->Int->Int×b}{s:b}{e:b8}(h:is s e.1=O4):cm o is kp s e=(O4,s):=by simp[cm,h]
theorem oe {b:Type}{o:gh b}{is:b->Int->Bool}{kp:b->Int->Int×b}{s:b}{e:b8}(h:is s e.1=C):cm o is kp s e=(C,o.put (kp s e.2).2 (o.wt (kp s e.2).2++[(e.1,(kp s e.2).1)])):=by simp[cm,h]
theorem aY (w:az)(a b:Addr)(v:a7)(h:a ≠ b):V (w.setCell a v) b = V w b:=by intros;apply World.cell?_setCell_other<;>assumption
theorem a6 (w:az)(a:Addr)(v:a7){u:a7}(h:V w a = OR u):V (w.setCell a v) a = OR v:=by intros;apply World.cell?_setCell_same<;>assumption
theorem Fk {m:Type}(o:gh m)(D:Int->Prop)(d fk bg:gI)(is:m->Int->Bool)(kp:m->Int->Int×m)(he:ef d.f)(an:ef fk.f)(ha:lu o.todr D d.f d.b d.c is)(hk:ob o D fk.f fk.b fk.c kp)
 (F:Nat->Prop)(s:m)(w:az)(bl v bs:Nat)(e:b8)(hD:D e.1/\D e.2)(hn:OQ (o.wt (kp s e.2).2)<=90000)(ao:o.J F s w)(hB:kS w o.p bl v bs d fk bg)(hs:¬F bs):
 O2 prog 247 #[en e,aq v,aq bl,aq bs] w λr w'=>∃ap,r=Q (.bool (cm o is kp s e).1)/\o.J ap (cm o is kp s e).2 w'/\Fr F w w'/\∀k,ap k->F k\/I (OT w)<=k:=by
 obtain⟨g,z⟩:=e;have bi:aA (lu o.todr D d.f d.b d.c is):=ha;have bn:aA (ob o D fk.f fk.b fk.c kp):=hk;have ai:aA (OQ (o.wt (kp s z).2)<=90000):=hn;have bo:aA (ef d.f):=he;have x:aA (o.J F s w):=ao;have c0:V w (av bl 0)=OR d.v:=aD hB.l
 have c1:V w (av bl 1)=OR (.func (.func fk.f) fk.b fk.c):=aD hB.l
 have c2:V w (av v 0)=OR (.func (.func 246) #[] #[aq bl]):=aD hB.g
 have c3:V w (av bs 0)=OR (aq o.p):=aD hB.s
 have l1:bl<I (OT w):=cj hB.l;have l2:v<I (OT w):=cj hB.g;have bp:bs<I (OT w):=cj hB.s;have cf:∀(args:Array a7)(w:az),(callFunc fk.f args).run prog w=.ok (.enter fk.f args) w:=an;clear he ha ao hk an hn hB;go_enter func247,ntmps247;go_wp2_with fail;have B:=aw w (E #[.int OW g,.int OW z] 247)
 refine(y4 o.todr D d is bo.o bi.o F s _ bl (g,z) hD.1 (o.below x.o B) ((B.cell l1).trans c0)).mono ?_;rintro r w1 ⟨rfl,hb⟩
 have f:=B.trans (hb.mono ac)
 have br:I (OT w)<I (OT w1):=by have:=hb.size;simp at this;omega
 have ar:V w1 (av (I (OT w)) 0)=OR (ak g):=(hb.cell ac).trans ac;have y1:V w1 (av (I (OT w)) 1)=OR (ak z):=(hb.cell ac).trans ac;have bt:V w1 (av bl 1)=OR (.func (.func fk.f) fk.b fk.c):=(f.cell l1).trans c1;have aB:V w1 (av bs 0)=OR (aq o.p):=(f.cell bp).trans c3;have aF:bF w1 (av (I (OT w)) 1)=O4:=(hb.frozen ac).trans ac;clear hb B;cases hg:is s g
 ·have n:aA (cm o is kp s (g,z)=(O4,s)):=oc hg;go_wp2_with fail;go_ret;rw[n.o];exact⟨F,rfl,o.below x.o f,Fr.of f,λk h=>aK h⟩
 ·have n:aA (cm o is kp s (g,z)=(C,o.put (kp s z).2 (o.wt (kp s z).2++[(g,(kp s z).1)]))):=oe hg;go_wp2_with fail;refine(bn.o F s _ z hD.2 ai.o (o.below x.o f)).mono ?_;rintro r b ⟨t,rfl,N,u,S⟩
  generalize (kp s z).1=y at n⊢;generalize (kp s z).2=s1 at n N ai;have al:¬F (I (OT w)):=λh=>by have:=o.lt x.o _ h;omega
  have W:¬t (I (OT w)):=λh=>(S _ h).elim al (λh=>by omega)
  have cg:=u.size;have ch:=f.size;obtain⟨ad,cap,hp,aR,ab,aV⟩:=o.side N;have a0:o.p≠I (OT w):=λe=>W (by rw[<-e];exact ab)
  have ci:o.p<I (OT b):=cj hp;have ck:bs≠o.p:=λe=>(S bs (by rw[e];exact ab)).elim hs (λh=>by omega)
  have cl:=ai.o;have ag:=u.block _ br al;have a1:=u.block bs aa hs;have z0:V b (av (I (OT w)) 0)=OR (ak g):=(aS (a:=⟨I (OT w),0,O0⟩) ag).trans ar;have a2:V b (av (I (OT w)) 1)=OR (ak z):=(aS (a:=⟨I (OT w),1,O0⟩) ag).trans y1;have bx:bF b (av (I (OT w)) 1)=O4:=(World.frozen?_of_block (a:=⟨I (OT w),1,O0⟩) ag).trans aF;have bb:V b (av bs 0)=OR (aq o.p):=(aS (a:=⟨bs,0,O0⟩) a1).trans aB;have b0:bs≠I (OT w):=aa;have l:∀k:Nat,k≠I (OT w)->(P b ⟨I (OT w),1,O0⟩ (.int OW y)).heap[k]?=b.heap[k]?:=λk hk=>aW _ _ _ _ hk;have am:I (OT (P b ⟨I (OT w),1,O0⟩ (.int OW y)))=I (OT b):=by simp[World.setCell]
  have b2:V (P b ⟨I (OT w),1,O0⟩ (.int OW y)) (av (I (OT w)) 0)=OR (ak g):=(aY b ⟨I (OT w),1,O0⟩ ⟨I (OT w),0,O0⟩ (ak y) ac).trans z0;have b3:V (P b ⟨I (OT w),1,O0⟩ (.int OW y)) (av (I (OT w)) 1)=OR (ak y):=a6 _ _ _ a2;have b4:V (P b ⟨I (OT w),1,O0⟩ (.int OW y)) (av bs 0)=OR (aq o.p):=(aS (a:=⟨bs,0,O0⟩) (l bs b0)).trans bb;have b5:V (P b ⟨I (OT w),1,O0⟩ (.int OW y)) (av o.p 1)=OR (.slice ad (OQ (o.wt s1)) cap):=(aS (a:=⟨o.p,1,O0⟩) (l o.p a0)).trans (by simp[World.cell?,hp])
  have b6:bF (P b ⟨I (OT w),1,O0⟩ (.int OW y)) (av o.p 1)=O4:=(World.frozen?_of_block (a:=⟨o.p,1,O0⟩) (l o.p a0)).trans (by simp[World.frozen?,hp])
  have b7:o.J t s1 (P b ⟨I (OT w),1,O0⟩ (.int OW y)):=o.keep N (by rw[am];exact aG _) (λk hk=>l k (λe=>W (by rw[<-e];exact hk)))
  have b9:i_ (P b ⟨I (OT w),1,O0⟩ (.int OW y)) ad (o.wt s1) cap:=aR.keep (by rw[am];exact aG _) (λhq a e=>l _ (λca=>W (by rw[<-ca];exact aV hq a e)))
  have cb:Fr F w (P b ⟨I (OT w),1,O0⟩ (.int OW y)):=((Fr.of (X:=F) f).trans u (λ_ c=>aK c)).trans ((Fr.refl (λk=>k=I (OT w)) b).set _ 1 _ rfl) (λi c=>aI aa)
  have bd:aA (∀k,t k->F k\/I (OT w)<=k):=λk h=>(S k h).imp id (λh=>by omega)
  have cc:aA (t o.p):=ab;have lo:bs<I (OT (P b ⟨I (OT w),1,O0⟩ (.int OW y))):=aa;have lp:o.p<I (OT (P b ⟨I (OT w),1,O0⟩ (.int OW y))):=aa;have lw:I (OT w)<I (OT (P b ⟨I (OT w),1,O0⟩ (.int OW y))):=aa;clear al W hp aR ab aV ag a1 bb l u N S ar y1 bt aB aF am;go_wp2_with fail;generalize P b ⟨I (OT w),1,O0⟩ (.int OW y)=cn at*;clear z0 a2 bx
  go_region_with (go_at_call 231;refine(yh _ ad (o.wt s1) cap g y (b9.below (bZ.drew)) aa).mono ?_;rintro e cd ⟨b1,g_,rfl,be,j⟩;have co:=(j.cell (p:=av (I (OT w)) 0) lw).trans b2;have cp:=(j.cell (p:=av (I (OT w)) 1) lw).trans b3;have cq:=(j.cell (p:=av bs 0) lo).trans b4;have cr:=(j.cell (p:=av o.p 1) lp).trans b5;have cs:=(j.frozen (p:=av o.p 1) lp).trans b6)
  all_goals
   go_wp2_with fail;go_ret;rw[n.o];have ce:=o.set (q:=o.wt s1++[(g,y)]) (b1:=b1) (g_:=g_) (o.below b7 bZ.drew) j (by simpa using be)
   refine⟨λk=>t k\/k=b1,rfl,by simpa using ce,(cb.drew.trans (Fr.of (X:=F) j) (λ_ c=>aK c)).trans ((Fr.refl (λk=>k=o.p) cd).set o.p 1 _ rfl) (λi c=>by rw[c];exact bd.o _ cc.o),λk h=>h.elim (bd.o k) (λh=>aI (by have:=(cu be b1 rfl).1;simp at this;omega))⟩
def boxed {e:Type}(o:gh e)(bl d bs:Nat)(f fk g:gI):dr e where
 J F s w:=∃b,o.J b s w/\kS w o.p bl d bs f fk g/\¬b bl/\¬b d/\¬b bs/\∀k,F k↔(b k\/k=bl\/k=d\/k=bs)
 lt:=by
  rintro F t w ⟨b,h0,hB,_,_,_,c⟩ k hk;rcases(c k).1 hk with h|rfl|rfl|rfl
  ·exact o.lt h0 k h
  ·exact cj hB.l
  ·exact cj hB.g
  ·exact cj hB.s
 keep:=by rintro F t w w' ⟨b,h0,hB,i,j,l,c⟩ hs hk;exact⟨b,o.keep h0 hs (λk h=>hk k ((c k).2 (aK h))),⟨(hk bl ((c bl).2 ac)).trans hB.l,(hk d ((c d).2 ac)).trans hB.g,(hk bs ((c bs).2 ac)).trans hB.s⟩,i,j,l,c⟩
theorem Fl {c:Type}(o:gh c)(bl d bs:Nat)(D:Int->Prop)(b fk f:gI)(is:c->Int->Bool)(kp:c->Int->Int×c)(he:ef b.f)(l:ef fk.f)(ha:lu o.todr D b.f b.b b.c is)(hk:ob o D fk.f fk.b fk.c kp):
 Looks (boxed o bl d bs b fk f) (λe=>D e.1/\D e.2) (λs=>∀x,OQ (o.wt (kp s x).2)<=90000) 247 #[] #[aq d,aq bl,aq bs] (cm o is kp):=by
 intro F s w e hD N m;obtain⟨g,h0,hB,n,p,i,S⟩:=m;refine(Fk o D b fk f is kp he l ha hk g s w bl d bs e hD (by grind) h0 hB i).mono ?_;rintro r w' ⟨j,rfl,t,u,v⟩
 have q:∀k,k<I (OT w)->¬g k->_:=λk hk hn h=>(v k h).elim hn aa;have lb:=cj hB.l;have B:=cj hB.g;have ls:=cj hB.s;refine⟨λk=>j k\/k=bl\/k=d\/k=bs,rfl,⟨j,t,⟨(by grind [Fr.block,kS.l]),(by grind [Fr.block,kS.g]),(by grind [Fr.block,kS.s])⟩,q _ lb n,q _ B p,q _ ls i,λk=>Iff.rfl⟩,u.mono (by grind),λk h=>?_⟩
 grind
def e5 {b:Type}(lk:b->b8->Bool×b):Nat->b->List b8->b×List b8
 |0,s,d=>(s,d)
 |n+1,s,d=>if OQ (dF lk s d).1=0 then((dF lk s d).2.2,(dF lk s d).2.1) else e5 lk n (dF lk s d).2.2 (dF lk s d).2.1
theorem og {b:Type}(lk:b->b8->Bool×b)(n:Nat)(s:b)(d:List b8)(h:OQ (dF lk s d).1=0):e5 lk (n+1) s d=((dF lk s d).2.2,(dF lk s d).2.1):=by rw[e5,aN h]
theorem nh {b:Type}(lk:b->b8->Bool×b)(n:Nat)(s:b)(d:List b8)(h:¬OQ (dF lk s d).1=0):e5 lk (n+1) s d=e5 lk n (dF lk s d).2.2 (dF lk s d).2.1:=by rw[e5,aJ h]
theorem uR {b:Type}(lk:b->b8->Bool×b)(t:b)(l:List b8)(e:b8):(e∈(dF lk t l).1\/e∈(dF lk t l).2.1)->e∈l:=by
 have key:∀(l:List b8)(s:List b8×List b8×b),(e∈(l.foldl (eZ lk) s).1\/e∈(l.foldl (eZ lk) s).2.1)->e∈s.1\/e∈s.2.1\/e∈l:=by
  intro l
  induction l with
  |nil=>grind
  |cons x r c=>
   grind [eZ]
 intro h;have:=key l ([],[],t) h;simpa using this
abbrev oh (b bl bs:Nat):Value:=.func (.func 247) #[] #[aq b,aq bl,aq bs]
theorem aX {α:Type _}{«as» bs:List α}:OQ («as» ++ bs) = «as».length + OQ bs:=List.length_append ..
theorem uS {b:Type}(o:gh b)(is:b->Int->Bool)(kp:b->Int->Int×b)(hl:∀s x,OQ (o.wt (kp s x).2)=OQ (o.wt s))(s:b)(l:List b8):OQ (o.wt (dF (cm o is kp) s l).2.2)=OQ (o.wt s)+OQ (dF (cm o is kp) s l).1:=by
 have key:∀(l:List b8)(t:List b8×List b8×b),OQ (o.wt (l.foldl (eZ (cm o is kp)) t).2.2)+OQ t.1=OQ (o.wt t.2.2)+OQ (l.foldl (eZ (cm o is kp)) t).1:=by
  intro l
  induction l with
  |nil=>simp
  |cons e r c=>
   intro t;rw[a8];have h:=c (eZ (cm o is kp) t e)
   cases hc:is t.2.2 e.1
   ·grind [eZ,cm]
   ·have d:eZ (cm o is kp) t e=(t.1++[e],t.2.1,o.put (kp t.2.2 e.2).2 (o.wt (kp t.2.2 e.2).2++[(e.1,(kp t.2.2 e.2).1)])):=by simp[eZ,cm,hc]
    rw[d] at h⊢;rw[o.rX,aX,aX,hl] at h;simp at h;omega
 grind [dF]
def gu {b:Type}(o:gh b)(is:b->Int->Bool)(kp:b->Int->Int×b)(s:b)(r:List b8):b:=(e5 (cm o is kp) (OQ (r.filter (λe=>!is s e.2))+1) s (r.filter (λe=>!is s e.2))).1
def fp {b:Type}(o:gh b)(is:b->Int->Bool)(kp:b->Int->Int×b)(nw:b->Int->Int)(s:b)(r:List b8):List b8:=((r.filter (λe=>is s e.2)).filter (λe=>is (gu o is kp s r) e.1)).map λe=>(nw (gu o is kp s r) e.1,nw (gu o is kp s r) e.2)
def fq {b:Type}(o:gh b)(is:b->Int->Bool)(kp:b->Int->Int×b)(nw:b->Int->Int)(s:b)(r:List b8):List b8:=((o.wt (gu o is kp s r)).filter (λe=>is (gu o is kp s r) e.1)).map λe=>(nw (gu o is kp s r) e.1,nw (gu o is kp s r) e.2)
structure ni {σ:Type}(o:gh σ)(D:Int->Prop)(fa fk fn:gI)(is:σ->Int->Bool)(kp:σ->Int->Int×σ)(nw:σ->Int->Int):Prop where
 ea:ef fa.f
 gS:ef fk.f
 en:ef fn.f
 ha:lu o.todr D fa.f fa.b fa.c is
 hk:ob o D fk.f fk.b fk.c kp
 ht:mM o.todr D fn.f fn.b fn.c nw
 hl:∀s x,OQ (o.wt (kp s x).2)=OQ (o.wt s)
end Go.Proofs.YtjckpdepffejnaaGreatDoor
