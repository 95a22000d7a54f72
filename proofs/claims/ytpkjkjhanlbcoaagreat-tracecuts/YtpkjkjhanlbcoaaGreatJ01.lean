import Derived.Test.YtpkjkjhanlbcoaaGreatJ00
import Derived.Below
import Derived.Test.YtpkjkjhanlbcoaaGreatChecked
import Derived.WalkKit
import Derived.WalkSpells
import Derived.Deep.QuietTactic
import Derived.BigQuiet
import Derived.WalkSmall
import Derived.Laws.CopyOwn
import Derived.Maps.AppendAt
import Derived.Deep.RegionHeld3
import Derived.ArgAppend
import Derived.Deep.RegionLawGrows
import Derived.Deep.AppendLies
open Array renaming getElem?_modify->bL,size->I
open Bool renaming false->K,true->Nc
open Go renaming Addr->bG,Calls->J,TypeId->bU,Value->bD,info_parts->bV,maxLen->bW,wpList_append_own_at->bX
open Go.Ending renaming returned->M6
open Go.IntKind renaming i64->Q
open Go.Obj renaming cells->M5
open Go.Proofs.Tryz renaming prog->O
open Go.RowKit renaming Below->C,intOf->bN
open Go.Value renaming agg->bF,bool->bK,int->U,ownBlock->P,slice->M0,tuple->a8
open Go.World renaming alloc->bj,cell?->V,frozen?->bO,heap->G,ownsRow->aC,setCell->ay
open Iff renaming rfl->iy
open List renaming getD->X,getD_eq_getElem?_getD->lF,getElem?_eq_getElem->gp,getElem?_take_of_lt->mq,length->L
open Nat renaming le_refl->MT,lt_irrefl->Mj,succ_pos->j3
open Option renaming map_some->bS,none->M9,some->Z
namespace Go.Proofs.YtpkjkjhanlbcoaaGreat
theorem ae{P:Prop}(h:P:=by decide):P:=h
theorem ah{P:Prop}(h:P:=by kernel_rfl):P:=h
theorem aj{P:Prop}(h:P:=by go_num):P:=h
set_option maxRecDepth 100000
set_option maxHeartbeats 1000000
open Tryz
open Go.RowKit
abbrev ak(n:Int):Value:=U Q n
abbrev av(b n:Nat):Addr:=⟨b,n,M9⟩
abbrev au(b:Nat):Option Addr:=Z ⟨b,0,M9⟩
abbrev aq(b:Nat):Value:=.pointer (Z ⟨b,0,M9⟩)
theorem b8{n:Nat}:n<=n:=MT n
abbrev az:=World
theorem b9{B:Nat}{w:az}:C B w w:=Below.refl B w
theorem kH {P:Prop}(h:P:=by go_wp2;go_ret;exact⟨rfl,b9.alloc b8 _⟩):P:=h
theorem sN {P:Prop}(h:P:=by
 go_enter func94,ntmps94;go_wp2_with fail;refine(wO x _).mono ?_;rintro e w1 ⟨rfl,hb⟩
 go_wp2_with fail;go_ret2;exact⟨rfl,hb.alloc hb.size _⟩):P:=h
theorem pr {P:Prop}(h:P:=by
 go_enter func168,ntmps168;go_wp2
 go_ret3
 exact⟨rfl,rfl⟩):P:=h
theorem wP {P:Prop}(h:P:=by
 go_wp2_with fail;refine(kI _ _).mono ?_;rintro e w1 ⟨rfl,rfl⟩
 rw[show fl 2=0 from rfl,show fm 2=12 from rfl,show fk 2=Nc from rfl];go_wp2;go_ret2;exact⟨rfl,rfl⟩):P:=h
theorem wQ {P:Prop}(h:P:=by
 go_wp2_with fail;refine(kI _ _).mono ?_;rintro e w1 ⟨rfl,rfl⟩
 rw[show fl 5=0 from rfl,show fm 5=0 from rfl,show fk 5=Nc from rfl];go_wp2;go_ret2;exact⟨rfl,rfl⟩):P:=h
theorem wR {P:Prop}(h:P:=by
 go_wp2_with fail;refine(kI _ _).mono ?_;rintro e w1 ⟨rfl,rfl⟩
 rw[show fl 4=2 from rfl,show fm 4=2 from rfl,show fk 4=Nc from rfl];go_wp2;go_ret2;exact⟨rfl,rfl⟩):P:=h
theorem wS {P:Prop}(h:P:=by
 go_wp2_with fail;refine(kI _ _).mono ?_;rintro e w1 ⟨rfl,rfl⟩
 rw[show fl 3=2 from rfl,show fm 3=2 from rfl,show fk 3=Nc from rfl];go_wp2;go_ret2;exact⟨rfl,rfl⟩):P:=h
theorem wT {P:Prop}(h:P:=by
 go_wp2_with fail;refine(kI _ _).mono ?_;rintro e w1 ⟨rfl,rfl⟩
 rw[show fl 1=2 from rfl,show fm 1=2 from rfl,show fk 1=Nc from rfl];go_wp2;go_ret2;exact⟨rfl,rfl⟩):P:=h
theorem wU {P:Prop}(h:P:=by
 go_enter func99,ntmps99;go_wp2_with (go_at_call 176;refine(Dk _ _ _).mono ?_;rintro e w' ⟨rfl,rfl⟩)
 go_ret;exact⟨rfl,b9.alloc b8 _⟩):P:=h
theorem qz {P:Prop}(h:P:=by go_wp2;go_ret2;exact⟨sO (by decide+kernel),rfl⟩):P:=h
theorem wV {P:Prop}(h:P:=by
 go_enter func178,ntmps178;go_wp2_with fail;refine(pt _ _ _).mono ?_;rintro e w1 ⟨rfl,rfl⟩
 go_wp2
 go_ret3
 exact⟨rfl,rfl⟩):P:=h
theorem sP {P:Prop}(h:P:=by go_enter func224,ntmps224;go_wp2;go_ret;exact⟨rfl,rfl⟩):P:=h
theorem sT {P:Prop}(h:P:=by go_enter func100,ntmps100;go_wp2;go_ret;exact⟨rfl,rfl⟩):P:=h
abbrev aA(p:Prop):Prop:=Hid p
theorem aA.o{p:Prop}(h:aA p):p:=h
theorem hide {p:Prop}(h:p):aA p:=h
theorem c8 {p q:Prop}(a:p)(b:q):aA (p/\q):=⟨a,b⟩
theorem g_ {p q r:Prop}(a:p)(b:q)(c:r):aA (p/\q/\r):=⟨a,b,c⟩
theorem ja {p q r s:Prop}(a:p)(b:q)(c:r)(d:s):aA (p/\q/\r/\s):=⟨a,b,c,d⟩
theorem wW {p q r s t:Prop}(a:p)(b:q)(c:r)(d:s)(e:t):aA (p/\q/\r/\s/\t):=⟨a,b,c,d,e⟩
theorem Dl {p q r s t u:Prop}(a:p)(b:q)(c:r)(d:s)(e:t)(f:u):aA (p/\q/\r/\s/\t/\u):=⟨a,b,c,d,e,f⟩
theorem Do {p q r s t u v:Prop}(a:p)(b:q)(c:r)(d:s)(e:t)(f:u)(g:v):aA (p/\q/\r/\s/\t/\u/\v):=⟨a,b,c,d,e,f,g⟩
open Go.RowKit W
theorem Dk (n low:Int)(w:az):
 J O 176 #[ak n,ak low] w fun e w'=>e=M6 (ak (rc n low))/\w'=w:=by
 by_cases c1:n<low
 ·have e:rc n low=1:=by unfold rc;rw[aJ c1]
  rw[e];go_enter func176,ntmps176;go_wp2;go_ret;exact⟨rfl,rfl⟩
 ·by_cases c2:1152921504606846976<=n
  ·have e:rc n low=1:=by unfold rc;rw[aI c1,aJ c2]
   rw[e];go_enter func176,ntmps176;go_wp2;go_ret;exact⟨rfl,rfl⟩
  ·have e:rc n low=0:=by unfold rc;rw[aI c1,aI c2]
   rw[e];go_wp2;go_ret;exact⟨rfl,rfl⟩
theorem Dp (k:Int)(w:az):
 J O 100 #[ak k] w fun e w'=>e=M6 (ak (tg k))/\w'=w:=by
 by_cases c1:k=1
 ·subst c1;exact sT
 ·by_cases c3:k=3
  ·subst c3;exact sT
  ·by_cases c0:k=0
   ·subst c0;exact sT
   ·have e:tg k=3:=by unfold tg;rw[aI c1,aI c3,aI c0]
    rw[e];go_wp2;go_ret;exact⟨rfl,rfl⟩
theorem wX (t:Int)(w:az):
 J O 224 #[ak t] w fun e w'=>e=M6 (ak (i_ t))/\w'=w:=by
 by_cases c1:t=0
 ·subst c1;exact sP
 ·by_cases c3:t=1
  ·subst c3;exact sP
  ·by_cases c0:t=2
   ·subst c0;exact sP
   ·have e:i_ t=2:=by unfold i_;rw[aI c1,aI c3,aI c0]
    rw[e];go_wp2;go_ret;exact⟨rfl,rfl⟩
theorem Dq (n:Int):vc 0 n=if n=0 then 0 else 7:=by simp[vc]
theorem Dr (n:Int):vc 2 n=if n=0 then 0 else 7:=by simp[vc]
theorem Ds (n:Int):vc 1 n=rc n (-1152921504606846976):=by simp[vc]
theorem sU (n:Int):vc 3 n=rc n 0:=by simp[vc]
theorem qA (k n:Int)(w:az):
 J O 99 #[bF #[ak k,ak n]] w fun e w'=>e=M6 (ak (vc k n))/\C (I (G w)) w w':=by
 by_cases c0:k=0
 ·subst c0;rw[Dq];by_cases c:n=0
  ·subst c;go_enter func99,ntmps99;exact kH
  ·rw[aI c];go_enter func99,ntmps99;exact kH
 ·by_cases c2:k=2
  ·subst c2;rw[Dr];by_cases c:n=0
   ·subst c;go_enter func99,ntmps99;exact kH
   ·rw[aI c];go_enter func99,ntmps99;exact kH
  ·by_cases c1:k=1
   ·subst c1;rw[Ds];exact wU
   ·by_cases c3:k=3
    ·subst c3;rw[sU];exact wU
    ·have e:vc k n=2:=by unfold vc;rw[aI c0,aI c2,aI c1,aI c3]
     rw[e];go_enter func99,ntmps99;exact kH
theorem oi {B:Nat}{W w1:az}(hb:C B W w1):(∀b o,b<B->V w1 (av b o)=V W (av b o))/\(∀b o,b<B->bO w1 (av b o)=bO W (av b o)):=
 ⟨fun b o h=>hb.cell (p:=av b o) h,fun b o h=>hb.frozen (p:=av b o) h⟩
theorem wY {w w1:az}{a b c d:bD}{s t:bU}(hb:C (I (G (bj (bj w (M5 #[a,b] s)) (M5 #[c,d] t)))) (bj (bj w (M5 #[a,b] s)) (M5 #[c,d] t)) w1):
 V w1 (av (I (G w)) 0)=Z a/\V w1 (av (I (G w)) 1)=Z b/\V w1 (av (I (G w)+1) 0)=Z c/\V w1 (av (I (G w)+1) 1)=Z d/\bO w1 (av (I (G w)) 0)=K/\bO w1 (av (I (G w)) 1)=K/\I (G w)+2<=I (G w1):=by
 obtain⟨hc,e⟩:=oi hb;refine⟨?_,?_,?_,?_,?_,?_,by simpa using hb.size⟩
 ·rw[hc _ _ (by simp;omega)];simp[go_sem]
 ·rw[hc _ _ (by simp;omega)];simp[go_sem]
 ·rw[hc _ _ ac];simp[go_sem]
 ·rw[hc _ _ ac];simp[go_sem]
 ·rw[e _ _ (by simp;omega)];simp[go_sem]
 ·rw[e _ _ (by simp;omega)];simp[go_sem]
theorem wZ {w w1:az}{a b:bD}{t:bU}(hb:C (I (G (bj w (M5 #[a,b] t)))) (bj w (M5 #[a,b] t)) w1):
 V w1 (av (I (G w)) 0)=Z a/\V w1 (av (I (G w)) 1)=Z b/\I (G w)+1<=I (G w1):=by
 obtain⟨hc,_⟩:=oi hb;refine⟨?_,?_,by simpa using hb.size⟩
 ·rw[hc _ _ ac];simp[go_sem]
 ·rw[hc _ _ ac];simp[go_sem]
theorem sO {a b:Int}{c:bD}(h:a=b):Ending.returned (a8 #[ak a,c])=M6 (a8 #[ak b,c]):=by rw[h]
theorem w7 (k n:Int)(w:az):
 J O 46 #[bF #[ak k,ak n]] w fun e w'=>e=M6 (a8 #[ak (ew k n),ak (vc k n)])/\C (I (G w)) w w':=by
 by_cases h:vc k n=0
 ·rw[sI k n h];have hn:=C4 k n h;have H:=hide h;rw[H.o];go_enter func46,ntmps46;go_wp2_with fail;refine(qA k n _).mono ?_;rintro e w1 ⟨rfl,hb⟩
  rw[H.o];obtain⟨hc,b⟩:=oi hb;go_wp2
  go_quiet ((go_at_call 100;exact Calls.quiet_of_same (Dp _ _)))
  go_wp2;go_ret2;exact⟨sO (hide (C5 k n hn.1 hn.2)).o,below_drewN ((b9.alloc b8 _).trans (hb.mono ac)) _⟩
 ·rw[C9 k n h];go_enter func46,ntmps46;go_wp2_with fail;refine(qA k n _).mono ?_;rintro e w1 ⟨rfl,hb⟩
  go_wp2;go_ret2;exact⟨rfl,(b9.alloc b8 _).trans (hb.mono ac)⟩
theorem a6 {P:Go.Program}{fn:Go.Func}{R:Go.Ending -> az -> Prop}{a:Go.Act}{w:az}{v:bD}(hr:Go.Sem.run P (Go.results fn a.tmps) w = Go.Result.ok v w)(hd:a.defers = [])(hR:R (M6 v) w):Go.bodyPost P fn R Go.Exit.ret a w:=by intros;apply bodyPost_ret<;>assumption
theorem wO (x:Int)(w:az):
 J O 173 #[ak x] w fun e w'=>e=M6 (a8 #[bF #[ak (dk x),ak (dr x)],ak (dc x)])/\C (I (G w)) w w':=by
 have g:=CY x;by_cases h:dc x=0
 ·have b:dk x=i_ (x%4):=by unfold dk;rw[aJ h]
  have c:dr x=x/4:=by unfold dr;rw[aJ h]
  have H:aA (vc (i_ (x%4)) (x/4)=0):=h;rw[h,b,c];clear h b c;go_enter func173,ntmps173;go_wp2_with fail;refine(wX _ _).mono ?_;rintro e w' ⟨rfl,rfl⟩
  go_wp2_with fail;refine(qA (i_ (x%4)) (x/4) _).mono ?_;rintro e w1 ⟨rfl,hb⟩
  rw[H.o];obtain⟨c0,c1,c2,c3,d,f,hz⟩:=wY hb;go_wp2_with fail;exact a6 (v:=a8 #[bF #[ak (i_ (x%4)),ak (x/4)],ak 0]) (by simp[results,results173,go_sem,c0,c1]) rfl ⟨rfl,((((b9.alloc b8 _).alloc ac _).trans (hb.mono (by simp;omega))).setCell b8 _).setCell b8 _⟩
 ·have b:dk x=0:=by unfold dk;rw[aI h]
  have c:dr x=0:=by unfold dr;rw[aI h]
  rw[b,c];have hn:(vc (i_ (x%4)) (x/4)!=0)=Nc:=by simpa[dc] using h
  have E:aA (dc x=vc (i_ (x%4)) (x/4)):=rfl;rw[E.o];clear h b c;go_enter func173,ntmps173;go_wp2_with fail;refine(wX _ _).mono ?_;rintro e w' ⟨rfl,rfl⟩
  go_wp2_with fail;refine(qA (i_ (x%4)) (x/4) _).mono ?_;rintro e w1 ⟨rfl,hb⟩
  obtain⟨c0,c1,c2,c3,d,f,hz⟩:=wY hb;go_wp2_with fail;exact a6 (v:=a8 #[bF #[ak 0,ak 0],ak (vc (i_ (x%4)) (x/4))]) (by simp[results,results173,go_sem,c0,c1]) rfl ⟨rfl,((((b9.alloc b8 _).alloc ac _).trans (hb.mono (by simp;omega))).setCell b8 _).setCell b8 _⟩
theorem sV (w:az):J O 47 #[] w fun e w'=>e=M6 (ak 2)/\w'=w:=by go_wp2;go_ret;exact⟨rfl,rfl⟩
theorem oj (w:az):J O 191 #[] w fun e w'=>e=M6 (ak 3)/\w'=w:=by go_wp2;go_ret;exact⟨rfl,rfl⟩
theorem sW (n:Int)(w:az):
 J O 42 #[ak n] w fun e w'=>e=M6 (ak (ew 3 n))/\C (I (G w)) w w':=by
 go_enter func42,ntmps42;go_wp2_with fail;refine(w7 3 n _).mono ?_;rintro e w1 ⟨rfl,hb⟩
 go_wp2_with fail;go_ret;exact⟨rfl,hb⟩
theorem om (x:Int)(w:az):
 J O 94 #[ak x] w fun e w'=>e=M6 (a8 #[ak (cr x),bK (de x)])/\C (I (G w)) w w':=by
 by_cases h0:dc x=0
 ·have t0:(dc x !=0)=K:=by simpa using h0
  by_cases c:dk x=3
  ·have b:de x=Nc:=by unfold de;rw[h0,c];rfl
   rw[my x b,b];have t3:(dk x !=3)=K:=by simpa using c
   exact sN
  ·have b:de x=K:=by unfold de;rw[beq_eq_false_iff_ne.2 c];simp
   rw[wK x b,b];exact sN
 ·have b:de x=K:=by unfold de;rw[beq_eq_false_iff_ne.2 h0];simp
  rw[wK x b,b];exact sN
theorem kI (k:Int)(w:az):
 J O 168 #[ak k] w fun e w'=>e=M6 (a8 #[ak (fl k),ak (fm k),bK (fk k)])/\w'=w:=by
 by_cases c1:k=1
 ·subst c1;exact pr
 by_cases c2:k=2
 ·subst c2;exact pr
 by_cases c3:k=3
 ·subst c3;exact pr
 by_cases c4:k=4
 ·subst c4;exact pr
 by_cases c5:k=5
 ·subst c5;exact pr
 have b:fl k=0:=by simp[fl,c1,c3,c4]
 have c:fm k=0:=by simp[fm,c1,c2,c3,c4]
 have d:fk k=K:=by simp[fk,c1,c2,c3,c4,c5]
 rw[b,c,d];go_wp2
 go_ret3
 exact⟨rfl,rfl⟩
theorem Dt (k f:Int)(w:az)(h:hc k f=0):
 J O 89 #[ak k,ak f] w fun e w'=>e=M6 (a8 #[ak (16*f+k),ak 0])/\w'=w:=by
 rcases pn k f h with⟨rfl,rfl⟩|⟨rfl,rfl⟩|⟨rfl,rfl⟩|⟨rfl,b,c⟩|⟨rfl,rfl⟩
 ·go_enter func89,ntmps89;go_wp2_with fail;refine(kI _ _).mono ?_;rintro e w1 ⟨rfl,rfl⟩
  rw[show fl 1=2 from rfl,show fm 1=2 from rfl,show fk 1=Nc from rfl];exact qz
 ·go_enter func89,ntmps89;go_wp2_with fail;refine(kI _ _).mono ?_;rintro e w1 ⟨rfl,rfl⟩
  rw[show fl 3=2 from rfl,show fm 3=2 from rfl,show fk 3=Nc from rfl];exact qz
 ·go_enter func89,ntmps89;go_wp2_with fail;refine(kI _ _).mono ?_;rintro e w1 ⟨rfl,rfl⟩
  rw[show fl 4=2 from rfl,show fm 4=2 from rfl,show fk 4=Nc from rfl];exact qz
 ·have E:=hide (C7 2 f h)
  go_enter func89,ntmps89;go_wp2_with fail;refine(kI _ _).mono ?_;rintro e w1 ⟨rfl,rfl⟩
  rw[show fl 2=0 from rfl,show fm 2=12 from rfl,show fk 2=Nc from rfl];go_wp2;go_ret2;exact⟨sO E.o,rfl⟩
 ·go_enter func89,ntmps89;go_wp2_with fail;refine(kI _ _).mono ?_;rintro e w1 ⟨rfl,rfl⟩
  rw[show fl 5=0 from rfl,show fm 5=0 from rfl,show fk 5=Nc from rfl];exact qz
theorem Du (k f:Int)(w:az)(h:(k=1/\f<2)\/(k=1/\2<f)\/(k=3/\f<2)\/(k=3/\2<f)\/(k=4/\f<2)\/(k=4/\2<f)\/(k=2/\f<0)\/(k=2/\12<f)\/(k=5/\f<0)\/(k=5/\0<f)):
 J O 89 #[ak k,ak f] w fun e w'=>e=M6 (a8 #[ak 0,ak 1])/\w'=w:=by
 rcases h with⟨rfl,h⟩|⟨rfl,h⟩|⟨rfl,h⟩|⟨rfl,h⟩|⟨rfl,h⟩|⟨rfl,h⟩|⟨rfl,h⟩|⟨rfl,h⟩|⟨rfl,h⟩|⟨rfl,h⟩
 ·go_enter func89,ntmps89;exact wT
 ·go_enter func89,ntmps89;exact wT
 ·go_enter func89,ntmps89;exact wS
 ·go_enter func89,ntmps89;exact wS
 ·go_enter func89,ntmps89;exact wR
 ·go_enter func89,ntmps89;exact wR
 ·go_enter func89,ntmps89;exact wP
 ·go_enter func89,ntmps89;exact wP
 ·go_enter func89,ntmps89;exact wQ
 ·go_enter func89,ntmps89;exact wQ
theorem Dv (k f:Int)(w:az)(b:k≠1)(c:k≠2)(d:k≠3)(g:k≠4)(i:k≠5):
 J O 89 #[ak k,ak f] w fun e w'=>e=M6 (a8 #[ak 0,ak 2])/\w'=w:=by
 have j:fk k=K:=by simp[fk,b,c,d,g,i]
 go_enter func89,ntmps89;go_wp2_with fail;refine(kI _ _).mono ?_;rintro e w1 ⟨rfl,rfl⟩
 go_wp2;go_ret2;exact⟨rfl,rfl⟩
theorem pt (k f:Int)(w:az):
 J O 89 #[ak k,ak f] w fun e w'=>e=M6 (a8 #[ak (hw k f),ak (hc k f)])/\w'=w:=by
 by_cases h:hc k f=0
 ·rw[sH k f h,h];exact Dt k f w h
 ·rw[C8 k f h];rcases Da k f h with e|⟨b,c,d,g,i⟩
  ·rw[Db k f e];exact Du k f w e
  ·rw[C_ k f b c d g i];exact Dv k f w b c d g i
theorem Dw (h:Int)(w:az):
 J O 178 #[ak h] w fun e w'=>e=M6 (a8 #[ak (pk h),ak (pf h),ak (pc h)])/\w'=w:=by
 have ha:=CZ h;by_cases c:hc (h%16) (h/16)=0
 ·have b:pk h=h%16:=by unfold pk;rw[aJ c]
  have d:pf h=h/16:=by unfold pf;rw[aJ c]
  have f:pc h=0:=by unfold pc;rw[aJ c]
  rw[b,d,f];clear b d f;have t:(hc (h%16) (h/16)!=0)=K:=by simpa using c
  clear c;exact wV
 ·have b:pk h=0:=by unfold pk;rw[aI c]
  have d:pf h=0:=by unfold pf;rw[aI c]
  have f:pc h=7:=by unfold pc;rw[aI c]
  rw[b,d,f];exact wV
structure At (w:az)(p q N O y g:Nat)(ws:List Int):Prop where
 hp:w.heap[p]?=Z (M5 #[M0 (au q) (N+O) (N+O),ak 0,ak N,ak y,ak N,ak O,ak g] 122 (0,0))
 hq:w.heap[q]?=Z (M5 (ws.map (Value.int Q)).toArray 2 (0,0))
 hl:L ws=N+O
 hN:16<=N
 hN':N<=256
 hO:O<=1024
 hy:y<=N
 hg:g<=O
structure dj (p q:Nat)(w w':az):Prop where
 os:w'.os=w.os
 tape:w'.tape=w.tape
 output:w'.output=w.output
 size:I (G w)<=I (G w')
 block:∀k,k<I (G w)->k≠p->k≠q->w'.heap[k]?=w.heap[k]?
theorem lt_of_some {w:az}{k:Nat}{o:Obj}(h:w.heap[k]?=Z o):k<I (G w):=(Array.getElem?_eq_some_iff.1 h).1
theorem aG (n:Nat):n <= n:=MT ..
theorem dj.refl (p q:Nat)(w:az):dj p q w w:=⟨rfl,rfl,rfl,aG _,fun _ _ _ _=>rfl⟩
theorem aU {n m k:Nat}:n <= m -> m <= k -> n <= k:=Nat.le_trans
theorem aO {n m k:Nat}:n < m -> m <= k -> n < k:=Nat.lt_of_lt_of_le
theorem dj.trans {p q:Nat}{a b c:az}(h:dj p q a b)(k:dj p q b c):dj p q a c:=
 ⟨k.os.trans h.os,k.tape.trans h.tape,k.output.trans h.output,aU h.size k.size,fun i hi d e=>(k.block i (aO hi h.size) d e).trans (h.block i hi d e)⟩
theorem dj.of {p q:Nat}{w w':az}(h:C (I (G w)) w w'):dj p q w w':=⟨h.os,h.tape,h.output,h.size,fun k hk _ _=>h.block k hk⟩
theorem aX (w:az)(a:bG)(u:bD)(k:Nat)(h:k ≠ a.block):(w.setCell a u).heap[k]? = w.heap[k]?:=by intros;apply Below.heap_setCell<;>assumption
theorem dj.pu {p q:Nat}{w:az}(o:Nat)(v:bD):dj p q w (ay w ⟨p,o,M9⟩ v):=
 ⟨rfl,rfl,rfl,by simp_all,fun k _ b _=>aX _ _ _ _ b⟩
theorem dj.sX {p q:Nat}{w:az}(o:Nat)(v:bD):dj p q w (ay w ⟨q,o,M9⟩ v):=
 ⟨rfl,rfl,rfl,by simp_all,fun k _ _ b=>aX _ _ _ _ b⟩
theorem dj.Dy {p q:Nat}{w:az}(b:Array bD):dj p q w (w.setRow q b):=
 ⟨rfl,rfl,rfl,by simp_all,fun k _ _ c=>setRow_other w q k b c⟩
theorem dj.drew {p q:Nat}{a w:az}(h:dj p q a w):dj p q a w.drew:=⟨h.os,h.tape,h.output,h.size,h.block⟩
theorem dj.below {p q B:Nat}{w w':az}(h:dj p q w w')(hB:B<=I (G w))(hp:B<=p)(hq:B<=q):C B w w':=
 ⟨h.os,h.tape,h.output,h.size,fun k hk=>h.block k aa aa aa⟩
theorem At.fj {w:az}{p q N O y g:Nat}{ws:List Int}(h:At w p q N O y g ws):p<I (G w):=lt_of_some h.hp
theorem At.fp {w:az}{p q N O y g:Nat}{ws:List Int}(h:At w p q N O y g ws):q<I (G w):=lt_of_some h.hq
theorem At.ne {w:az}{p q N O y g:Nat}{ws:List Int}(h:At w p q N O y g ws):p≠q:=by intro e;have b:=h.hp;rw[e,h.hq] at b;simp at b
theorem At.same {w w':az}{p q N O y g:Nat}{ws:List Int}(h:At w p q N O y g ws)(ep:w'.heap[p]?=w.heap[p]?)(eq:w'.heap[q]?=w.heap[q]?):At w' p q N O y g ws:=
 ⟨ep.trans h.hp,eq.trans h.hq,h.hl,h.hN,h.hN',h.hO,h.hy,h.hg⟩
theorem At.below {w w':az}{p q N O y g B:Nat}{ws:List Int}(h:At w p q N O y g ws)(hb:C B w w')(hB:I (G w)<=B):At w' p q N O y g ws:=
 h.same (hb.block p (aO h.fj hB)) (hb.block q (aO h.fp hB))
theorem aS (w:az)(o:Obj)(k:Nat)(h:k < I (G w)):(w.alloc o).heap[k]? = w.heap[k]?:=by intros;apply Below.heap_alloc<;>assumption
theorem At.alloc {w:az}{p q N O y g:Nat}{ws:List Int}(h:At w p q N O y g ws)(o:Obj):At (w.alloc o) p q N O y g ws:=
 h.same (aS _ _ _ h.fj) (aS _ _ _ h.fp)
theorem At.drew {w:az}{p q N O y g:Nat}{ws:List Int}(h:At w p q N O y g ws):At w.drew p q N O y g ws:=h.same rfl rfl
theorem At.cells {w:az}{p q N O y g:Nat}{ws:List Int}(h:At w p q N O y g ws):
 V w (av p 0)=Z (M0 (au q) (N+O) (N+O))/\V w (av p 1)=Z (ak 0)/\V w (av p 2)=Z (ak N)/\V w (av p 3)=Z (ak y)/\
 V w (av p 4)=Z (ak N)/\V w (av p 5)=Z (ak O)/\V w (av p 6)=Z (ak g):=by
 refine⟨?_,?_,?_,?_,?_,?_,?_⟩<;>simp[World.cell?,h.hp]
theorem At.frozen {w:az}{p q N O y g:Nat}{ws:List Int}(h:At w p q N O y g ws)(o:Nat):bO w (av p o)=K:=by simp[World.frozen?,h.hp]
theorem At.sY {w:az}{p q N O y g:Nat}{ws:List Int}(h:At w p q N O y g ws)(o:Nat):bO w (av q o)=K:=by simp[World.frozen?,h.hq]
theorem At.word {w:az}{p q N O y g:Nat}{ws:List Int}(h:At w p q N O y g ws)(i:Nat)(hi:i<N+O):V w (av q i)=Z (ak (X ws i 0)):=by have hl:=h.hl;simp[World.cell?,h.hq,List.getElem?_map,gp (show i<L ws by omega),lF]
theorem bh {α:Type _}{«as»:List α}{i:Nat}{a:α}:L («as».set i a) = «as».length:=List.length_set ..
theorem At.set {w:az}{p q N O y g:Nat}{ws:List Int}(h:At w p q N O y g ws)(i:Nat)(x:Int):At (ay w ⟨q,i,M9⟩ (U Q x)) p q N O y g (ws.set i x):=by
 refine⟨(aX _ _ _ _ h.ne).trans h.hp,?_,by rw[bh];exact h.hl,h.hN,h.hN',h.hO,h.hy,h.hg⟩
 simp only [World.setCell,bL,if_true,h.hq,bS];simp[List.map_set]
theorem At.row {w:az}{p q N O y g:Nat}{ws us:List Int}(h:At w p q N O y g ws)(b:L us=N+O):At (w.setRow q (us.map (Value.int Q)).toArray) p q N O y g us:=
 ⟨(setRow_other w q p _ h.ne).trans h.hp,setRow_heap w q _ _ _ _ h.hq,b,h.hN,h.hN',h.hO,h.hy,h.hg⟩
theorem At.w8 {w:az}{p q N O y g:Nat}{ws:List Int}(h:At w p q N O y g ws)(z:Nat)(hz:z<=N):At (ay w ⟨p,3,M9⟩ (U Q z)) p q N O z g ws:=by
 refine⟨?_,(aX _ _ _ _ h.ne.symm).trans h.hq,h.hl,h.hN,h.hN',h.hO,hz,h.hg⟩
 simp only [World.setCell,bL,if_true,h.hp,bS];simp
theorem At.w9 {w:az}{p q N O y g:Nat}{ws:List Int}(h:At w p q N O y g ws)(z:Nat)(hz:z<=O):At (ay w ⟨p,6,M9⟩ (U Q z)) p q N O y z ws:=by
 refine⟨?_,(aX _ _ _ _ h.ne.symm).trans h.hq,h.hl,h.hN,h.hN',h.hO,h.hy,hz⟩
 simp only [World.setCell,bL,if_true,h.hp,bS];simp
structure Fr (X:Nat->Prop)(w w':az):Prop where
 os:w'.os=w.os
 tape:w'.tape=w.tape
 output:w'.output=w.output
 size:I (G w)<=I (G w')
 block:∀k,k<I (G w)->¬X k->w'.heap[k]?=w.heap[k]?
theorem Fr.refl (X:Nat->Prop)(w:az):Fr X w w:=⟨rfl,rfl,rfl,aG _,fun _ _ _=>rfl⟩
theorem Fr.trans {X Y:Nat->Prop}{a b c:az}(h:Fr X a b)(k:Fr Y b c)(hy:∀i,Y i->X i\/I (G a)<=i):Fr X a c:=
 ⟨k.os.trans h.os,k.tape.trans h.tape,k.output.trans h.output,aU h.size k.size,fun i hi d=>(k.block i (aO hi h.size) (fun c=>(hy i c).elim d (fun c=>by omega))).trans (h.block i hi d)⟩
theorem Fr.mono {X Y:Nat->Prop}{w w':az}(h:Fr X w w')(hy:∀i,X i->Y i):Fr Y w w':=⟨h.os,h.tape,h.output,h.size,fun i hi b=>h.block i hi (fun c=>b (hy i c))⟩
theorem Fr.of {X:Nat->Prop}{w w':az}(h:C (I (G w)) w w'):Fr X w w':=⟨h.os,h.tape,h.output,h.size,fun k hk _=>h.block k hk⟩
theorem aM {a b:Prop}(h:a):a \/ b:=by intros;apply Or.inl<;>assumption
theorem Fr.alloc {X:Nat->Prop}{a w:az}(h:Fr X a w)(o:Obj):Fr X a (w.alloc o):=h.trans (Fr.of (b9.alloc b8 _)) (fun _ c=>aM c)
theorem Fr.drew {X:Nat->Prop}{a w:az}(h:Fr X a w):Fr X a w.drew:=⟨h.os,h.tape,h.output,h.size,h.block⟩
theorem Fr.set {X:Nat->Prop}{a w:az}(h:Fr X a w)(c o:Nat)(v:bD)(hc:X c):Fr X a (ay w ⟨c,o,M9⟩ v):=
 ⟨h.os,h.tape,h.output,by simpa[World.setCell] using h.size,fun k hk b=>(aX _ _ _ _ (fun e=>b (by rw[e];exact hc))).trans (h.block k hk b)⟩
theorem Fr.grown {X:Nat->Prop}{a w w':az}{row:Option Nat}(h:Fr X a w)(g:w.grownBy w' row)(hr:∀k,row=Z k->X k\/I (G a)<=k):Fr X a w':=
 ⟨g.os.trans h.os,g.tape.trans h.tape,g.output.trans h.output,aU h.size g.size,fun k hk b=>(g.block k (aO hk h.size) (fun e=>(hr k e.symm).elim b (fun c=>by omega))).trans (h.block k hk b)⟩
theorem Fr.below {X:Nat->Prop}{w w':az}{B:Nat}(h:Fr X w w')(hB:B<=I (G w))(b:∀k,X k->B<=k):C B w w':=
 ⟨h.os,h.tape,h.output,h.size,fun k hk=>h.block k aa (fun c=>by have:=b k c;omega)⟩
theorem cM {w w':az}{base n m:Nat}{e:bU}{v:bD}{l:List bD}(h:aC w base e m v n l)(hk:∀k,Z k=P v->w'.heap[k]?=w.heap[k]?):aC w' base e m v n l:=by
 refine⟨h.1,?_⟩
 rcases h.2 with hn|⟨g,cap,b,rfl,hb,c,d⟩
 ·exact .inl hn
 ·exact .inr ⟨g,cap,b,rfl,hb,(hk g rfl).trans c,d⟩
theorem cv {w:az}{base n m:Nat}{e:bU}{v:bD}{l:List bD}(h:aC w base e m v n l):∀k,Z k=P v->base<=k/\k<I (G w):=fun k hk=>h.lt k hk.symm
theorem iF {X:Nat->Prop}{w w':az}{base n m:Nat}{e:bU}{v:bD}{l:List bD}(h:aC w base e m v n l)(f:Fr X w w')(b:∀k,Z k=P v->¬X k):aC w' base e m v n l:=
 cM h (fun k hk=>f.block k (cv h k hk).2 (b k hk))
theorem fq {w:az}{base base' n m:Nat}{e:bU}{v:bD}{l:List bD}(h:aC w base e m v n l)(hb:∀k,Z k=P v->base'<=k):aC w base' e m v n l:=by
 refine⟨h.1,?_⟩
 rcases h.2 with hn|⟨g,cap,b,rfl,_,c⟩
 ·exact .inl hn
 ·exact .inr ⟨g,cap,b,rfl,hb g rfl,c⟩
theorem fF {w:az}{base n m:Nat}{e:bU}{v:bD}{l:List bD}(h:aC w base e m v n l):∀k,Z k=P v->∃b,w.heap[k]?=Z (M5 b e (0,0)):=by
 intro k hk;rcases h.2 with⟨rfl,_⟩|⟨g,cap,b,rfl,_,c,_⟩
 ·simp[Value.ownBlock] at hk
 ·simp[Value.ownBlock] at hk;subst hk;exact⟨b,c⟩
theorem eW {w:az}{base n m:Nat}{e:bU}{v:bD}{l:List bD}(h:aC w base e m v n l)(hn:0<n):∃b cap,v=M0 (au b) n cap:=by
 rcases h.2 with⟨_,h0⟩|⟨g,cap,c,hv,_⟩
 ·omega
 ·simp_all
theorem eZ {w:az}{base n m:Nat}{e:bU}{v:bD}{l:List bD}(h:aC w base e m v n l):∃ad cap,v=M0 ad n cap:=by
 rcases h.2 with⟨hv,h0⟩|⟨g,cap,b,hv,_⟩
 ·simp_all
 ·simp_all
def jb (w:az)(ad:Option bG)(l:List Int):Prop:=0<L l->∃b o,ad=Z ⟨b,o,M9⟩/\b<I (G w)/\∀i,i<L l->V w (av b (o+i))=Z (ak (X l i 0))
def dA (w:az)(ad:Option bG)(l:List (Int×Int)):Prop:=
 0<L l->∃b o,ad=Z ⟨b,o,M9⟩/\b<I (G w)/\∀i,i<L l->V w (av b (o+i*2))=Z (ak (X l i (0,0)).1)/\V w (av b (o+i*2+1))=Z (ak (X l i (0,0)).2)
def ev (l:List (Int×Int)):List Value:=l.flatMap fun e=>[ak e.1,ak e.2]
theorem jp (a b:List (Int×Int)):ev (a++b)=ev a++ev b:=by simp[ev]
theorem lh:∀l:List (Int×Int),L (ev l)=L l*2
 |[]=>rfl
 |e::r=>by
  have:=lh r;simp[ev] at this⊢
  omega
theorem oo:∀(l:List (Int×Int))(i:Nat),i<L l->(ev l)[i*2]?=Z (ak (X l i (0,0)).1)/\(ev l)[i*2+1]?=Z (ak (X l i (0,0)).2)
 |[],i,h=>by simp at h
 |e::r,0,_=>by simp[ev]
 |e::r,i+1,h=>by
  have b:(ev (e::r))=ak e.1::ak e.2::ev r:=by simp[ev]
  rw[b,show(i+1)*2=i*2+1+1 by omega];simpa using(oo r i (by simpa using h))
theorem hZ {w:az}{base:Nat}{e:bU}{ad:Option bG}{cap:Nat}{l:List Int}(h:aC w base e 1 (M0 ad (L l) cap) (L l) (l.map (Value.int Q))):jb w ad l:=by
 intro hp;rcases h.2 with⟨_,h0⟩|⟨g,f,d,hv,hb,b,j,k,m,n⟩
 ·omega
 ·obtain⟨rfl,rfl⟩:=hv;refine⟨g,0,rfl,lt_of_some b,fun i hi=>?_⟩
  have c:(d.toList.take (L l*1))[i]?=Z (ak (X l i 0)):=by simp_all
  rw[mq aa] at c;simp[World.cell?,b];simpa using c
theorem it {w:az}{base:Nat}{e:bU}{ad:Option bG}{cap:Nat}{l:List _}(h:aC w base e 2 (M0 ad (L l) cap) (L l) (ev l)):dA w ad l:=by
 intro hp;rcases h.2 with⟨_,h0⟩|⟨g,f,j,hv,hb,b,k,m,n,d⟩
 ·omega
 ·obtain⟨rfl,rfl⟩:=hv;refine⟨g,0,rfl,lt_of_some b,fun i hi=>?_⟩
  obtain⟨k1,c⟩:=oo l i hi;rw[<-d,mq aa] at k1 c;constructor
  ·simp[World.cell?,b];simpa using k1
  ·simp[World.cell?,b];simpa using c
theorem aQ {w w':az}{a:bG}(h:w'.heap[a.block]? = w.heap[a.block]?):V w' a = V w a:=by intros;apply World.cell?_of_block<;>assumption
theorem jb.keep {w w':az}{ad:Option bG}{l:List Int}(h:jb w ad l)(hs:I (G w)<=I (G w'))(hk:0<L l->∀a,ad=Z a->w'.heap[a.block]?=w.heap[a.block]?):jb w' ad l:=by intro hp;obtain⟨b,o,rfl,hb,hc⟩:=h hp;exact⟨b,o,rfl,aa,fun i hi=>(aQ (a:=⟨b,o+i,M9⟩) (hk hp ⟨b,o,M9⟩ rfl)).trans (hc i hi)⟩
theorem dA.keep {w w':az}{ad:Option bG}{l:List _}(h:dA w ad l)(hs:I (G w)<=I (G w'))(hk:0<L l->∀a,ad=Z a->w'.heap[a.block]?=w.heap[a.block]?):dA w' ad l:=by intro hp;obtain⟨b,o,rfl,hb,hc⟩:=h hp;exact⟨b,o,rfl,aa,fun i hi=>⟨(aQ (a:=⟨b,o+i*2,M9⟩) (hk hp ⟨b,o,M9⟩ rfl)).trans (hc i hi).1,(aQ (a:=⟨b,o+i*2+1,M9⟩) (hk hp ⟨b,o,M9⟩ rfl)).trans (hc i hi).2⟩⟩
open Go.RowKit W Kp
theorem w_:(prog.info? 2).map (fun i=>(i.zero,i.size,i.bytes))=Z (Z (ak 0),1,8):=ah
open Go.RowKit W Kp cq
theorem oq:(prog.info? 103).map (fun i=>(i.zero,i.size,i.bytes))=Z (Z (bF #[ak 0,ak 0]),2,16):=ah
abbrev en (e:cf):Value:=bF #[ak e.1,ak e.2]
structure dC (iq:Type) where
 J:(Nat->Prop)->iq->az->Prop
 lt:∀{F t w},J F t w->∀k,F k->k<I (G w)
 keep:∀{F t w w'},J F t w->I (G w)<=I (G w')->(∀k,F k->w'.heap[k]?=w.heap[k]?)->J F t w'
theorem dC.fr {b:Type}(o:dC b){F X:Nat->Prop}{t:b}{w w':az}(h:o.J F t w)(f:Fr X w w')(c:∀k,F k->¬X k):o.J F t w':=o.keep h f.size (fun k hk=>f.block k (o.lt h k hk) (c k hk))
theorem dC.below {b:Type}(o:dC b){F:Nat->Prop}{t:b}{w w':az}(h:o.J F t w)(f:C (I (G w)) w w'):o.J F t w':=o.keep h f.size (fun k hk=>f.block k (o.lt h k hk))
def dV (f:Nat):Prop:=∀(args:Array bD)(w:az),(callFunc f args).run O w=.ok (.enter f args) w
theorem gM {f:Nat}{b:Func}{c:Code}(d:Tryz.prog.funcs[f]?=some b)(e:(b.name== "runtime.NumGoroutine")=false)(hb:b.body=some c):dV f:=by
 intro args w;have g:b.name≠ "runtime.NumGoroutine" :=by simpa using e
 simp[callFunc,d,g,hb]
theorem qB {b:Type}(o:dC b){F:Nat->Prop}{t:b}{w c:az}{f:Obj}{d:Option Nat}(h:o.J F t w)(hg:(w.alloc f).grownBy c d)(g:∀k,Z k=d->¬F k):o.J F t c:=
 o.keep h (by have:=hg.size;simp at this;omega) (fun k hk=>(hg.block k (by have:=o.lt h k hk;simp;omega) (fun e=>g k e hk)).trans (aS _ _ _ (o.lt h k hk)))
theorem xa {w b:az}{base n m:Nat}{e:bU}{v:bD}{l:List bD}{d:Obj}{c:Option Nat}(h:aC w base e m v n l)(hg:(w.alloc d).grownBy b c)(f:∀k,Z k=P v->Z k≠c):aC b base e m v n l:=
 cM h (fun k hk=>(hg.block k (by have:=(cv h k hk).2;simp;omega) (f k hk)).trans (aS _ _ _ (cv h k hk).2))
theorem fC {w:az}{base n m:Nat}{e:bU}{v:bD}{l:List bD}(h:aC w base e m v n l)(b:Obj):aC (w.alloc b) base e m v n l:=
 cM h (fun k hk=>aS _ _ _ (cv h k hk).2)
def Looks {d:Type}(o:dC d)(D:cf->Prop)(G:d->Prop)(f:Nat)(b c:Array bD)(lk:d->cf->Bool×d):Prop:=
 ∀F t w (e:cf),D e->G t->o.J F t w->Calls O f (b.push (en e)++c) w fun r w'=>∃g,r=M6 (bK (lk t e).1)/\o.J g (lk t e).2 w'/\Fr F w w'/\∀k,g k->F k\/w.heap.size<=k
def eM {b:Type}(lk:b->cf->Bool×b)(s:List cf×List cf×b)(e:cf):List cf×List cf×b:=
 if(lk s.2.2 e).1 then(s.1++[e],s.2.1,(lk s.2.2 e).2) else(s.1,s.2.1++[e],(lk s.2.2 e).2)
def pts {b:Type}(lk:b->cf->Bool×b)(t:b)(l:List cf):List cf×List cf×b:=l.foldl (eM lk) ([],[],t)
theorem Dz {b:Type}(lk:b->cf->Bool×b)(t:b)(l:List cf)(e:cf):pts lk t (l++[e])=eM lk (pts lk t l) e:=by simp[pts,List.foldl_append]
theorem a_ {α:Type _}{β:Type _}{a:α}{l:List α}{f:β -> α -> β}{b:β}:List.foldl f b (a :: l) = List.foldl f (f b a) l:=List.foldl_cons ..
theorem pv {b:Type}(lk:b->cf->Bool×b)(t:b)(l:List cf):L (pts lk t l).1+L (pts lk t l).2.1=L l:=by
 have key:∀(l:List cf)(s:List cf×List cf×b),L (l.foldl (eM lk) s).1+L (l.foldl (eM lk) s).2.1=L s.1+L s.2.1+L l:=by
  intro l
  induction l with
  |nil=>simp
  |cons e r c=>
   intro s;rw[a_,c];unfold eM;split<;>simp<;>omega
 simpa[pts] using key l ([],[],t)
theorem a5 (n:Nat):0 <= n:=Nat.zero_le ..
theorem bf (w:az)(base:Nat)(e:bU)(size:Nat):aC w base e size (Value.slice M9 0 0) 0 []:=World.ownsRow_nil ..
theorem aL {α:Type _}{l:List α}{i:Nat}{a:α}:X l i a = l[i]?.getD a:=lF ..
theorem aN {α:Type _}{l:List α}{i:Nat}(h:i < L l):l[i]? = Z l[i]:=gp ..
theorem a9 {α:Type _}{l:List α}{n:Nat}(h:n < L l):l[n] ∈ l:=List.getElem_mem ..
theorem aP (w:az)(o:Obj):(w.alloc o).heap[I (G w)]? = Z o:=heap_alloc_new ..
theorem bk {α:Type _}{l:List α}:List.take (L l) l = l:=List.take_length ..
theorem aD{w:World}{b o:Nat}{c:Array bD}{T:bU}{g:Nat×Nat}{v:bD}(h:w.heap[b]?=Z (M5 c T g))(e:c[o]?=Z v:=by rfl):V w ⟨b,o,M9⟩=Z v:=by simp[World.cell?,h];exact e
theorem xc {ag:Type}(o:dC ag)(D:cf->Prop)(G:ag->Prop)(f:Nat)(b c:Array bD)(lk:ag->cf->Bool×ag)(bx:dV f)(hl:Looks o D G f b c lk)(l:List cf)(ad:Option bG)(cap:Nat)(F:Nat->Prop)(t:ag)(w:az)
 (ci:∀e∈l,D e)(b0:∀j,j<l.length->G (pts lk t (l.take j)).2.2)(hm:l.length<=100000)(cj:o.J F t w)(hp:∀q bl w',o.J q bl w'->Fr F w w'->dA w' ad l):
 Calls O 150 #[M0 ad l.length cap,.func (.func f) b c] w fun r w'=>∃a1 c1 a2 c2 q,r=M6 (a8 #[M0 a1 (pts lk t l).1.length c1,M0 a2 (pts lk t l).2.1.length c2])/\aC w' w.heap.size 103 2 (M0 a1 (pts lk t l).1.length c1) (pts lk t l).1.length (ev (pts lk t l).1)/\
  aC w' w.heap.size 103 2 (M0 a2 (pts lk t l).2.1.length c2) (pts lk t l).2.1.length (ev (pts lk t l).2.1)/\o.J q (pts lk t l).2.2 w'/\Fr F w w'/\(∀k,q k->F k\/w.heap.size<=k)/\(∀k,Z k=P (Value.slice a1 (pts lk t l).1.length c1)->¬q k)/\(∀k,Z k=P (Value.slice a2 (pts lk t l).2.1.length c2)->¬q k):=by
 obtain⟨b1,hi,b2,b3,b5⟩:=bV oq;have ck:aA (Looks o D G f b c lk):=hl;have cl:aA (∀j,j<l.length->G (pts lk t (l.take j)).2.2):=b0;clear b0;clear hl;have cm:aA (∀q bl w',o.J q bl w'->Fr F w w'->dA w' ad l):=hp;clear hp;have cA:∀(args:Array bD)(w:az),(callFunc f args).run O w=.ok (.enter f args) w:=bx;clear bx;go_enter func150,ntmps150;go_wp2_with fail
 go_loopw [6,7,12] (fun cn co iv wr=>∃(j:Nat)(Y N:List cf)(s an:Option bG)(v n:Nat)(p:Nat->Prop)(i:ag),j<=l.length/\iv=ak j/\aA (pts lk t (l.take j)=(Y,N,i))/\cn=M0 s Y.length v/\co=M0 an N.length n/\
  aC wr w.heap.size 103 2 (M0 s Y.length v) Y.length (ev Y)/\aC wr w.heap.size 103 2 (M0 an N.length n) N.length (ev N)/\o.J p i wr/\Fr F w wr/\aA (∀k,p k->F k\/w.heap.size<=k)/\
  aA (∀k,Z k=P (Value.slice s Y.length v)->¬p k/\Z k≠P (Value.slice an N.length n))/\aA (∀k,Z k=P (Value.slice an N.length n)->¬p k)) (fun _ _ iv _=>l.length-(bN iv).toNat)
 case atStart=>exact⟨0,[],[],M9,M9,0,0,F,t,a5 _,rfl,rfl,rfl,rfl,bf _ _ _ _,bf _ _ _ _,cj,Fr.refl _ _,fun k h=>aM h,fun k e=>by simp[Value.ownBlock] at e,fun k e=>by simp[Value.ownBlock] at e⟩
 case round=>
  obtain⟨j,Y,N,s,an,v,n,p,i,d,rfl,al,rfl,rfl,a4,hN,am,ao,ba,ap,bb⟩:=hrel;by_cases ar:j<l.length
  ·obtain⟨cB,cC,cp,cD,hc⟩:=cm.o p i wr am ao aa;obtain⟨cq,cr⟩:=hc j ar;clear hc;have aB:D (l.getD j (0,0)):=ci _ (by rw[aL,aN ar];exact a9 ar)
   have cs:G i:=by have:=cl.o j ar;rw[al.o] at this;exact this
   have B:=Dz lk t (l.take j) (l.getD j (0,0))
   rw[<-g9 l j ar (0,0),al.o] at B;have B:aA (pts lk t (l.take (j+1))=eM lk (Y,N,i) ((l.getD j (0,0)).1,(l.getD j (0,0)).2)):=B;have aB:D ((l.getD j (0,0)).1,(l.getD j (0,0)).2):=aB;generalize (l.getD j (0,0)).1=g at cq B aB;generalize (l.getD j (0,0)).2=z at cr B aB;subst cp;have cE:Y.length+N.length<=100000:=by
    have b6:=pv lk t (l.take j)
    rw[al.o] at b6;simp at b6;omega
   have cF:=ao.size;have ca:=o.lt am;go_wp2_with fail;refine(ck.o p i _ (g,z) aB cs (o.below am (b9.alloc b8 _))).mono ?_;rintro e aF ⟨x,rfl,bd,ai,be⟩
   have ct:=ai.size;simp at ct;have cb:¬p wr.heap.size:=fun h=>by have:=ca _ h;omega
   have cc:=(ai.block _ ac cb).trans (aP _ _)
   have cG:V aF (av wr.heap.size 0)=Z (ak g):=aD cc
   have cH:V aF (av wr.heap.size 1)=Z (ak z):=aD cc
   have bg:=iF (fC a4 (M5 #[.int Q g,.int Q z] 103)) ai (fun k e=>(ap.o k e).1)
   have bi:=iF (fC hN (M5 #[.int Q g,.int Q z] 103)) ai (fun k e=>bb.o k e)
   have cd:Fr F w aF:=(ao.alloc (M5 #[.int Q g,.int Q z] 103)).trans ai ba.o;have ce:aA (∀k,x k->F k\/w.heap.size<=k):=fun k hk=>(be k hk).elim (fun h=>ba.o k h) (fun h=>aK (by simp at h;omega))
   have S:aA (∀k,Z k=P (Value.slice s Y.length v)->¬x k/\Z k≠P (Value.slice an N.length n)):=fun k e=>⟨fun h=>(be k h).elim (ap.o k e).1 (fun h=>by have:=(cv a4 k e).2;simp at h;omega),(ap.o k e).2⟩
   have bn:aA (∀k,Z k=P (Value.slice an N.length n)->¬x k):=fun k e h=>(be k h).elim (bb.o k e) (fun h=>by have:=(cv hN k e).2;simp at h;omega)
   have cg:=o.lt bd;clear a4 hN ao ai ba ap bb am be ca cb;have hd:aA (pts lk t (l.take (j+1))=if(lk i (g,z)).1 then(Y++[(g,z)],N,(lk i (g,z)).2) else(Y,N++[(g,z)],(lk i (g,z)).2)):=B.o;clear B;generalize (lk i (g,z)).2=ch at bd hd;cases hb:(lk i (g,z)).1
   ·rw[hb] at hd;have hd:=hide hd;go_wp2_with (at_builtin;refine bX _ rfl _ _ 151 rfl w.heap.size 103 b1 (.agg #[ak 0,ak 0]) 2 16 underlying151 hi b2 b3 b5 rfl ae (M0 an N.length n) N.length (ev N) rfl (fC bi _) ⟨aF.heap.size,0,M9⟩ 1 1 [ak g,ak z] rfl rfl ?_ ?_ ?_ ?_ ?_ ?_;(intro j u d;match j,d with|0,d=>(simp at d;subst d;simp[Addr.add])|1,d=>(simp at d;subst d;simp[Addr.add]));(intro u m;simp at m;rcases m with m|m<;>(subst m;rfl));(unfold bW;omega);omega;(simp;omega);intro cu bo aR W _ bp;obtain⟨b4,aV,br⟩:=eW aR (j3 _);subst br)
    have cw:aC bo w.heap.size 103 2 (M0 (au b4) (N++[(g,z)]).length aV) (N++[(g,z)]).length (ev (N++[(g,z)])):=by rw[jp];simpa[ev] using aR
    have cx:=qB o bd W (fun k e=>bn.o k e)
    have bs:=xa bg W (fun k e=>(S.o k e).2)
    have cy:=(cd.alloc (M5 #[.int Q g,.int Q z] 103)).grown W (fun k e=>aK (cv bi k e.symm).1)
    have a0:=bp.imp id (fun e=>by simpa[Value.ownBlock] using e)
    have bt:aA (∀k,Z k=P (Value.slice s Y.length v)->¬x k/\Z k≠Z b4):=fun k e=>⟨(S.o k e).1,fun ab=>a0.elim (fun h=>(S.o k e).2 (ab.trans h)) (fun h=>by have:=(cv bg k e).2;simp at ab;omega)⟩
    have cz:aA (∀k,Z k=Z b4->¬x k):=fun k e h=>a0.elim (fun a3=>bn.o k (e.trans a3) h) (fun a3=>by have:=cg k h;simp at e;omega)
    go_wp2_with fail;go_roundw
    case rel=>exact⟨j+1,Y,N++[(g,z)],s,au b4,v,aV,x,ch,aa,aj,hd,rfl,ac,bs,cw,cx,cy,ce,bt,cz⟩
    case measure=>simp[bN];omega
   ·rw[hb] at hd;go_wp2_with (at_builtin;refine bX _ rfl _ _ 151 rfl w.heap.size 103 b1 (.agg #[ak 0,ak 0]) 2 16 underlying151 hi b2 b3 b5 rfl ae (M0 s Y.length v) Y.length (ev Y) rfl (fC bg _) ⟨aF.heap.size,0,M9⟩ 1 1 [ak g,ak z] rfl rfl ?_ ?_ ?_ ?_ ?_ ?_;(intro j u d;match j,d with|0,d=>(simp at d;subst d;simp[Addr.add])|1,d=>(simp at d;subst d;simp[Addr.add]));(intro u m;simp at m;rcases m with m|m<;>(subst m;rfl));(unfold bW;omega);omega;(simp;omega);intro cu bo aR W _ bp;obtain⟨b4,aV,br⟩:=eW aR (j3 _);subst br)
    have bs:aC bo w.heap.size 103 2 (M0 (au b4) (Y++[(g,z)]).length aV) (Y++[(g,z)]).length (ev (Y++[(g,z)])):=by rw[jp];simpa[ev] using aR
    have a0:=bp.imp id (fun e=>by simpa[Value.ownBlock] using e)
    have bt:aA (∀k,Z k=Z b4->¬x k/\Z k≠P (Value.slice an N.length n)):=fun k e=>⟨fun h=>a0.elim (fun a3=>(S.o k (e.trans a3)).1 h) (fun a3=>by have:=cg k h;simp at e;omega),fun ab=>a0.elim (fun h=>(S.o k (e.trans h)).2 ab) (fun h=>by have:=(cv bi k ab).2;simp at e;omega)⟩
    go_wp2_with fail;go_roundw;exact⟨j+1,Y++[(g,z)],N,au b4,an,aV,n,x,ch,aa,aj,hd,ac,rfl,bs,(xa bi W (fun k e ab=>(S.o k ab).2 e)),(qB o bd W (fun k e=>(S.o k e).1)),((cd.alloc (M5 #[.int Q g,.int Q z] 103)).grown W (fun k e=>aK (cv bg k e.symm).1)),ce,bt,bn⟩
    simp[bN];omega
  ·obtain rfl:j=l.length:=aa;rw[bk] at al;go_wp2_with fail;go_ret2;rw[al.o];exact⟨_,_,_,_,p,rfl,a4,hN,am,ao,ba.o,fun k e=>(ap.o k e).1,bb.o⟩
theorem dA.apart {d:Type}{o:dC d}{F:Nat->Prop}{w:az}{ad:Option bG}{l:List cf}(h:dA w ad l)(f:0<L l->∀z,ad=Z z->¬F z.block):∀g i w',o.J g i w'->Fr F w w'->dA w' ad l:=fun _ _ _ _ b=>
 h.keep b.size (fun hp z e=>by obtain⟨k,m,c,j,_⟩:=h hp;rw[e] at c;cases c;exact b.block _ j (f hp _ e))
def xd (w0:az):dC Unit where
 J F _ w:=(∀k,F k↔k<I (G w0))/\I (G w0)<=I (G w)/\∀k,k<I (G w0)->w.heap[k]?=w0.heap[k]?
 lt:=by rintro F t w ⟨b,d,c⟩ k hk;have:=(b k).1 hk;omega
 keep:=by rintro F t w w' ⟨b,d,c⟩ hs hk;exact⟨b,aa,fun k h=>(hk k ((b k).2 h)).trans (c k h)⟩
theorem DA {b:Type}(p:b->cf->Bool)(s:b)(l:List cf):pts (fun s e=>(p s e,s)) s l=(l.filter (p s),l.filter (fun e=>!p s e),s):=by
 have key:∀(l Y N:List cf),l.foldl (eM (fun s e=>(p s e,s))) (Y,N,s)=(Y++l.filter (p s),N++l.filter (fun e=>!p s e),s):=by
  intro l
  induction l with
  |nil=>simp
  |cons e r c=>
   intro Y N;cases h:p s e
   ·simp[eM,h,c]
   ·simp[eM,h,c]
 simpa[pts] using key l [] []
theorem sZ (D:cf->Prop)(f:Nat)(b c:Array bD)(p:cf->Bool)(m:dV f)(w:az)
 (hl:∀(w':az)(e:cf),D e->I (G w)<=I (G w')->(∀k,k<I (G w)->w'.heap[k]?=w.heap[k]?)->J O f (b.push (en e)++c) w' fun r n=>r=M6 (bK (p e))/\C (I (G w')) w' n)
 (l:List cf)(ad:Option bG)(cap:Nat)(g:∀e∈l,D e)(hm:L l<=100000)(hp:dA w ad l):
 J O 150 #[M0 ad (L l) cap,.func (.func f) b c] w fun r w'=>∃a1 c1 a2 c2,r=M6 (a8 #[M0 a1 (L (l.filter p)) c1,M0 a2 (L (l.filter (fun e=>!p e))) c2])/\aC w' (I (G w)) 103 2 (M0 a1 (L (l.filter p)) c1) (L (l.filter p)) (ev (l.filter p))/\
  aC w' (I (G w)) 103 2 (M0 a2 (L (l.filter (fun e=>!p e))) c2) (L (l.filter (fun e=>!p e))) (ev (l.filter (fun e=>!p e)))/\C (I (G w)) w w':=by
 have P:=xc (xd w) D (fun _=>True) f b c (fun _ e=>(p e,())) m (by
  rintro F t w1 e g _ ⟨i,j2,cI⟩
  refine(hl w1 e g j2 cI).mono ?_;rintro r u ⟨rfl,hb⟩
  exact⟨F,rfl,(xd w).below ⟨i,j2,cI⟩ hb,Fr.of hb,fun k h=>aM h⟩) l ad cap (fun k=>k<I (G w)) () w g (fun _ _=>trivial) hm ⟨fun k=>iy,aG _,fun _ _=>rfl⟩
  (by
    rintro o v w' ⟨i,j2,cI⟩ _;refine hp.keep j2 (fun hq z e=>?_)
    obtain⟨x,B,j,q,_⟩:=hp hq;rw[e] at j;cases j;exact cI _ q)
 rw[DA (fun _ e=>p e) () l] at P;refine P.mono ?_;rintro r w' ⟨a1,c1,a2,c2,o,rfl,s,hN,⟨i,j2,cI⟩,d,_,_,_⟩
 exact⟨a1,c1,a2,c2,rfl,s,hN,d.os,d.tape,d.output,d.size,cI⟩
theorem DB (w:az)(ad:Option bG)(n cap:Nat)(b:n<=cap):
 J O 179 #[M0 ad n cap] w fun e w'=>e=M6 (M0 ad n n)/\w'=w:=by
 go_wp2;go_ret;exact⟨rfl,rfl⟩
structure iU (w:az)(ad:Option bG)(l:List cf)(cap:Nat):Prop where
 lp:dA w ad l
 le:L l<=cap
 nil:ad=M9->L l=0/\cap=0
theorem dA.cells {w:az}{ad:Option bG}{q:List cf}(h:dA w ad q):∀b,ad=Z b->∀j u,(ev q)[j]?=Z u->V w (b.add j)=Z u:=by
 intro b e j u c;have hl:=lh q;have l:=(List.getElem?_eq_some_iff.1 c).1;obtain⟨g,o,i,hb,hc⟩:=h aa;rw[e] at i;cases i;obtain⟨c1,c2⟩:=hc (j/2) aa;obtain⟨k1,d⟩:=oo q (j/2) aa;rcases Nat.mod_two_eq_zero_or_one j with hz|hz
 ·have f:j/2*2=j:=aa;rw[f] at k1 c1;rw[c] at k1;cases k1;rw[Addr.add_lit];exact c1
 ·have f:j/2*2+1=j:=aa;have k:o+j/2*2+1=o+j:=aa;rw[f] at d;rw[k] at c2;rw[c] at d;cases d;rw[Addr.add_lit];exact c2
theorem dA.below {w w':az}{ad:Option bG}{l:List _}(h:dA w ad l)(hb:C (I (G w)) w w'):dA w' ad l:=
 h.keep hb.size (fun hp z e=>by obtain⟨b,o,c,d,_⟩:=h hp;rw[e] at c;cases c;exact hb.block _ d)
theorem aH (B:Nat)(w:az):C B w w:=Below.refl ..
theorem xe (w:az)(ad:Option bG)(q:List cf)(cap:Nat)(g z:Int)(h:iU w ad q cap)(hm:L q<=100000):
 J O 104 #[M0 ad (L q) cap,bF #[ak g,ak z]] w fun e w'=>∃b1 gN,e=M6 (M0 (au b1) (L q+1) gN)/\aC w' (I (G w)) 103 2 (M0 (au b1) (L q+1) gN) (L q+1) (ev (q++[(g,z)]))/\C (I (G w)) w w':=by
 obtain⟨i,hi,l,m,n⟩:=bV oq;have o:aA (dA w ad q):=h.lp;have p:aA (ad=M9->L q=0/\L q=0):=fun e=>⟨(h.nil e).1,(h.nil e).1⟩
 have s:=h.le;clear h;go_enter func104,ntmps104;go_wp2_with fail
 go_region_held3 (fun w'=>V w' (av (I (G w)) 0)=Z (ak g)/\V w' (av (I (G w)) 1)=Z (ak z)) (go_keep)
  (first|(go_at_call 179;refine(DB _ ad (L q) cap s).mono ?_;rintro e B ⟨rfl,rfl⟩)|(refine step_append_grows rfl (.tmp 6) (.tmp 8) 151 rfl 103 i (bF #[ak 0,ak 0]) 2 16 underlying151 hi l m n rfl ae ad (L q) (L q) (ev q) (by simp[Act.eval]) p.o (lh q) (o.o.below (by first|exact(((aH _ w).alloc b8 _).alloc ac _).drew|exact((aH _ w).alloc b8 _).drew.alloc ac _)).cells ⟨I (G w)+1,0,M9⟩ 1 1 [ak g,ak z] (by simp[Act.eval]) rfl ?_ ?_ aa (by unfold bW;omega) aa ?_;(intro j u b;match j,b with|0,b=>(simp at b;subst b;simp[Addr.add])|1,b=>(simp at b;subst b;simp[Addr.add]));(intro u c;simp at c;rcases c with c|c<;>(subst c;rfl));intro F N f d;obtain⟨b4,t,x⟩:=eW f (j3 _);subst x;have y1:=d.cell (a:=⟨I (G w),0,M9⟩) (v:=ak g) ac ac;have S:=d.cell (a:=⟨I (G w),1,M9⟩) (v:=ak z) ac ac))
 all_goals
  go_wp2_with fail;go_ret;exact⟨b4,t,rfl,by rw[jp];exact fq f (fun k e=>by have:=(cv f k e).1;simp at this;omega),by first|exact((((aH _ w).alloc b8 _).alloc ac _).drew).grown d (by simp;omega) (fun k e=>by cases e)|exact(((aH _ w).alloc b8 _).drew.alloc ac _).grown d (by simp;omega) (fun k e=>by cases e)⟩
theorem ot (l:List cf):∀u∈ev l,u.oneCell'=Nc:=by intro u b;simp only [ev,List.mem_flatMap] at b;obtain⟨e,_,b⟩:=b;simp at b;rcases b with rfl|rfl<;>rfl
theorem DC (w:az):aC (bj w (M5 #[] 103)) (I (G w)) 103 2 (M0 (au (I (G w))) 0 0) 0 []:=
 ⟨rfl,aK ⟨I (G w),0,#[],rfl,aG _,aP _ _,aG _,a5 _,rfl,rfl⟩⟩
theorem s3 (w:az)(ad:Option bG)(l:List cf)(cap:Nat)(h:iU w ad l cap)(hm:L l<=100000):
 J O 212 #[M0 ad (L l) cap] w fun e w'=>∃a1 c1,e=M6 (M0 a1 (L l) c1)/\aC w' (I (G w)) 103 2 (M0 a1 (L l) c1) (L l) (ev l)/\C (I (G w)) w w':=by
 obtain⟨f,hi,g,i,j⟩:=bV oq;have o:∀(w:az)(a:Option bG)(n c:Nat),_=_:=fun w a n c=>Lib.run_eql_slice_nil w _ _ a n c 0 0 underlying151;have d:=hide h.lp;cases ad with
 |none=>
  have hl:=List.eq_nil_of_length_eq_zero (h.nil rfl).1;subst hl;clear h d;go_enter func212,ntmps212;go_wp2;go_ret;exact⟨M9,0,rfl,bf _ _ _ _,aH _ _⟩
 |some a=>
  clear h;go_enter func212,ntmps212;go_wp2_with (at_builtin;refine wpList_append_own _ rfl _ _ 151 rfl (I (G w)) 103 f _ 2 16 underlying151 hi g i j rfl ae _ 0 [] rfl (DC w) a (L l) cap (ev l) rfl (lh l) ((d.o.below (b9.alloc b8 _)).cells a rfl) (ot l) ?_ ?_ ?_ ?_;(unfold bW;omega);omega;(simp);intro v w1 b m _)
  rw[List.nil_append,Nat.zero_add] at b;obtain⟨a1,c1,rfl⟩:=eZ b;go_wp2;go_ret;exact⟨a1,c1,rfl,b,(b9.alloc b8 _).grown m ac (fun k e=>by cases e;exact aG _)⟩
def lP {d:Type}(o:dC d)(D:Int->Prop)(f:Nat)(b c:Array bD)(nw:d->Int->Int):Prop:=
 ∀F t w (x:Int),D x->o.J F t w->Calls O f (b.push (ak x)++c) w fun r w'=>r=M6 (ak (nw t x))/\C (I (G w)) w w'
def kJ {d:Type}(o:dC d)(D:Int->Prop)(f:Nat)(b c:Array bD)(is:d->Int->Bool):Prop:=
 ∀F t w (x:Int),D x->o.J F t w->Calls O f (b.push (ak x)++c) w fun r w'=>r=M6 (bK (is t x))/\C (I (G w)) w w'
def ou {d:Type}(o:dC d)(D:Int->Prop)(f:Nat)(b c:Array bD)(kp:d->Int->Int×d):Prop:=
 ∀F t w (x:Int),D x->o.J F t w->Calls O f (b.push (ak x)++c) w fun r w'=>∃e,r=M6 (ak (kp t x).1)/\o.J e (kp t x).2 w'/\Fr F w w'/\∀k,e k->F k\/I (G w)<=k
theorem aZ {α:Type _}{β:Type _}{«as»:List α}(f:α -> β):L (List.map f «as») = «as».length:=List.length_map ..
theorem aw(w:az)(o:Obj):C (I (G w)) w (w.alloc o):=(Below.refl _ w).alloc (MT _) o
theorem xf {W:Type}(o:dC W)(D:Int->Prop)(f:Nat)(b c:Array bD)(nw:W->Int->Int)(ap:dV f)(ht:lP o D f b c nw)(l:List cf)(ad:Option bG)(cap:Nat)(F:Nat->Prop)(t:W)(w:az)
 (bl:∀e∈l,D e.1/\D e.2)(hm:L l<=100000)(ar:o.J F t w)(hp:dA w ad l):
 Calls O 152 #[M0 ad (L l) cap,.func (.func f) b c] w fun r w'=>∃a1 c1,r=M6 (M0 a1 (L l) c1)/\aC w' (I (G w)) 103 2 (M0 a1 (L l) c1) (L l) (ev (l.map fun e=>(nw t e.1,nw t e.2)))/\C (I (G w)) w w':=by
 obtain⟨bn,hi,bo,bp,br⟩:=bV oq;have aB:aA (lP o D f b c nw):=ht;have bs:aA (dA w ad l):=hp;have aF:aA (o.J F t w):=ar;clear hp ht ar;have cc:∀(args:Array bD)(w:az),(callFunc f args).run O w=.ok (.enter f args) w:=ap;clear ap;go_enter func152,ntmps152;go_wp2_with fail
 go_loopw [5,10] (fun vt iv wr=>∃(j:Nat)(T:List cf)(n:Option bG)(p:Nat),j<=L l/\iv=ak j/\aA (T=(l.take j).map fun e=>(nw t e.1,nw t e.2))/\vt=M0 n (L T) p/\
  aC wr (I (G w)) 103 2 (M0 n (L T) p) (L T) (ev T)/\C (I (G w)) w wr) (fun _ iv _=>L l-(bN iv).toNat)
 case atStart=>exact⟨0,[],M9,0,a5 _,rfl,rfl,rfl,bf _ _ _ _,aH _ _⟩
 case round=>
  obtain⟨j,T,n,p,m,rfl,v,rfl,d,hb⟩:=hrel;have bt:L T<=100000:=by rw[v.o];simp;omega
  by_cases B:j<L l
  ·obtain⟨cd,ce,bx,cg,hc⟩:=bs.o.below hb aa;obtain⟨aR,aV⟩:=hc j B;clear hc;obtain⟨a0,a2⟩:=bl (X l j (0,0)) (by rw[aL,aN B];exact a9 B)
   have ab:aA (T++[(nw t (X l j (0,0)).1,nw t (X l j (0,0)).2)]=(l.take (j+1)).map fun e=>(nw t e.1,nw t e.2)):=by show _=_;rw[g9 l j B (0,0),List.map_append,v.o];rfl
   generalize (X l j (0,0)).1=g at aR ab a0;generalize (X l j (0,0)).2=z at aV ab a2;subst bx;have b0:=hb.size;have ag:C (I (G w)) w (bj wr (M5 #[U Q g,U Q z] 103)):=hb.alloc b0 _;have ai:=fC d (M5 #[U Q g,U Q z] 103)
   go_wp2_with fail
   go_region_held3 (fun w'=>V w' (av (I (G wr)) 0)=Z (ak g)/\V w' (av (I (G wr)) 1)=Z (ak z)) (go_keep)
    (first
      |(refine(aB.o F t _ g a0 (o.below aF.o ag.drew)).mono ?_;rintro e N ⟨rfl,q⟩;have al:C (I (G w)) w N:=ag.drew.trans (q.mono (by simp;omega));have am:=cM ai (fun k e=>q.block k (cv ai k e).2);have b1:=q.size;simp at b1;have y1:V N (av (I (G wr)) 0)=Z (ak g):=(q.cell ac).trans ac;have a3:V N (av (I (G wr)) 1)=Z (ak z):=(q.cell ac).trans ac;have a4:I (G wr)<I (G N):=aa)
      |(refine(aB.o F t _ z a2 (o.below aF.o al)).mono ?_;rintro e i ⟨rfl,s⟩;have an:C (I (G w)) w i:=al.trans (s.mono aa);have ba:=cM am (fun k e=>s.block k (cv am k e).2);have ch:=s.size;have bb:V i (av (I (G wr)) 0)=Z (ak g):=(s.cell a4).trans y1;have bd:V i (av (I (G wr)) 1)=Z (ak z):=(s.cell a4).trans a3;have be:I (G wr)<I (G i):=aa)
      |(refine step_append_lies _ rfl (.tmp 14) (.tmp 24) 151 rfl (I (G w)) 103 bn (bF #[ak 0,ak 0]) 2 16 underlying151 hi bo bp br rfl ae (M0 n (L T) p) (L T) (ev T) (by simp[Act.eval]) (fC ba _) ⟨I (G i),0,M9⟩ 1 1 [ak (nw t g),ak (nw t z)] (by simp[Act.eval]) rfl ?_ ?_ ae (by unfold bW;omega) aa (by simp;omega) _ rfl ?_;(intro j u m;match j,m with|0,m=>(simp at m;subst m;simp[Addr.add])|1,m=>(simp at m;subst m;simp[Addr.add]));(intro u x;simp at x;rcases x with x|x<;>(subst x;rfl));intro b6 bg ao bi S b2 b3;have b4:V ao (av (I (G wr)) 0)=Z (ak g):=S.cell (((aw i _).cell be).trans bb) (fun e=>absurd (cv d _ e).2 (Mj _));have b5:V ao (av (I (G wr)) 1)=Z (ak z):=S.cell (((aw i _).cell be).trans bd) (fun e=>absurd (cv d _ e).2 (Mj _))))
   have ca:aC ao (I (G w)) 103 2 (M0 (au b6) (L (T++[(nw t g,nw t z)])) bg) (L (T++[(nw t g,nw t z)])) (ev (T++[(nw t g,nw t z)])):=by rw[jp];simpa[ev] using bi
   have cb:=(an.alloc an.size _).grown S (by simp;omega) (fun k e=>(cv d k e.symm).1)
   clear bi S b2 b3 ai am ba ag al an d hb q s y1 a3 bb bd b4 b5 aR aV;go_wp2_with fail;go_roundw
   case rel=>exact⟨j+1,T++[(nw t g,nw t z)],au b6,bg,aa,aj,ab,ac,ca,cb⟩
   case measure=>simp[bN];omega
  ·obtain rfl:j=L l:=aa;rw[bk] at v;have hl:L T=L l:=by rw[v.o,aZ]
   rw[hl] at d;have d:aC wr (I (G w)) 103 2 (M0 n (L l) p) (L l) (ev (l.map fun e=>(nw t e.1,nw t e.2))):=by rw[<-v.o];exact d
   clear bt;go_wp2_with fail;go_ret;exact⟨n,p,by rw[hl];rfl,d,hb⟩
structure f_ (σ:Type) extends dC σ where
 p:Nat
 vr:bD
 wt:σ->List cf
 put:σ->List cf->σ
 side:∀{F s w},J F s w->∃ad cap,w.heap[p]?=Z (M5 #[vr,M0 ad (L (wt s)) cap] 153 (0,0))/\iU w ad (wt s) cap/\F p/\(0<L (wt s)->∀z,ad=Z z->F z.block)
 set:∀{F s w},J F s w->∀{w1:az}{q:List cf}{b1 gN:Nat},C (I (G w)) w w1->aC w1 (I (G w)) 103 2 (M0 (au b1) (L q) gN) (L q) (ev q)->
  J (fun k=>F k\/k=b1) (put s q) (ay w1 ⟨p,1,M9⟩ (M0 (Z ⟨b1,0,M9⟩) (L q) gN))
 qC:∀s q,wt (put s q)=q
theorem iU.keep {w w':az}{ad:Option bG}{l:List cf}{cap:Nat}(h:iU w ad l cap)(hs:I (G w)<=I (G w'))(hk:0<L l->∀a,ad=Z a->w'.heap[a.block]?=w.heap[a.block]?):iU w' ad l cap:=⟨h.lp.keep hs hk,h.le,h.nil⟩
theorem iU.below {w w':az}{ad:Option bG}{l:List cf}{cap:Nat}(h:iU w ad l cap)(hb:C (I (G w)) w w'):iU w' ad l cap:=⟨h.lp.below hb,h.le,h.nil⟩
def na {d:Type}(o:f_ d)(D:Int->Prop)(f:Nat)(b c:Array bD)(kp:d->Int->Int×d):Prop:=
 ∀F t w (x:Int),D x->L (o.wt (kp t x).2)<=90000->o.J F t w->Calls O f (b.push (ak x)++c) w fun r w'=>∃e,r=M6 (ak (kp t x).1)/\o.J e (kp t x).2 w'/\Fr F w w'/\∀k,e k->F k\/I (G w)<=k
structure gu where
 f:Nat
 b:Array bD
 c:Array bD
abbrev gu.v (x:gu):Value:=.func (.func x.f) x.b x.c
structure lQ (w:az)(p bl DD bs:Nat)(fa fk fn:gu):Prop where
 l:w.heap[bl]?=Z (M5 #[fa.v,fk.v,fn.v] 145 (0,0))
 g:w.heap[DD]?=Z (M5 #[.func (.func 146) #[] #[aq bl]] 101 (0,0))
 s:w.heap[bs]?=Z (M5 #[aq p] 52 (0,0))
theorem aT (w:az)(a:bG){u:bD}(h:V w a = Z u):a.block < I (G w):=by intros;apply World.block_lt_of_cell?<;>assumption
theorem xg {i:Type}(o:dC i)(D:Int->Prop)(d:gu)(is:i->Int->Bool)(he:dV d.f)(ha:kJ o D d.f d.b d.c is)(F:Nat->Prop)(s:i)(w:az)(bl:Nat)(e:cf)(l:D e.1)(j:o.J F s w)(hc:V w (av bl 0)=Z d.v):
 Calls O 146 #[en e,aq bl] w fun r w'=>r=M6 (bK (is s e.1))/\C (I (G w)) w w':=by
 obtain⟨g,z⟩:=e;obtain⟨f,b,c⟩:=d;have m:aA (_):=ha;have n:aA (_):=j;have p:=aT w _ hc;have q:∀(args:Array bD)(w:az),_=_:=he;clear he ha j;go_enter func146,ntmps146;go_wp2_with fail;have k:=aw w (M5 #[U Q g,U Q z] 103)
 refine(m.o F s _ g l (o.below n.o k)).mono ?_;rintro r w1 ⟨rfl,hb⟩
 go_wp2_with fail;go_ret;exact⟨rfl,k.trans (hb.mono ac)⟩
theorem DE {i:Type}(o:dC i)(D:Int->Prop)(d:gu)(is:i->Int->Bool)(he:dV d.f)(ha:kJ o D d.f d.b d.c is)(F:Nat->Prop)(s:i)(w:az)(bl:Nat)(e:cf)(l:D e.2)(j:o.J F s w)(hc:V w (av bl 0)=Z d.v):
 Calls O 151 #[en e,aq bl] w fun r w'=>r=M6 (bK (is s e.2))/\C (I (G w)) w w':=by
 obtain⟨g,z⟩:=e;obtain⟨f,b,c⟩:=d;have m:aA (_):=ha;have n:aA (_):=j;have p:=aT w _ hc;have q:∀(args:Array bD)(w:az),_=_:=he;clear he ha j;go_enter func151,ntmps151;go_wp2_with fail;have k:=aw w (M5 #[U Q g,U Q z] 103)
 refine(m.o F s _ z l (o.below n.o k)).mono ?_;rintro r w1 ⟨rfl,hb⟩
 go_wp2_with fail;go_ret;exact⟨rfl,k.trans (hb.mono ac)⟩
def cm {b:Type}(o:f_ b)(is:b->Int->Bool)(kp:b->Int->Int×b)(s:b)(e:cf):Bool×b:=
 if is s e.1 then(Nc,o.put (kp s e.2).2 (o.wt (kp s e.2).2++[(e.1,(kp s e.2).1)])) else(K,s)
theorem nc {b:Type}{o:f_ b}{is:b->Int->Bool}{kp:b->Int->Int×b}{s:b}{e:cf}(h:is s e.1=K):cm o is kp s e=(K,s):=by simp[cm,h]
theorem nf {b:Type}{o:f_ b}{is:b->Int->Bool}{kp:b->Int->Int×b}{s:b}{e:cf}(h:is s e.1=Nc):cm o is kp s e=(Nc,o.put (kp s e.2).2 (o.wt (kp s e.2).2++[(e.1,(kp s e.2).1)])):=by simp[cm,h]
theorem aY (w:az)(a b:bG)(v:bD)(h:a ≠ b):V (w.setCell a v) b = V w b:=by intros;apply World.cell?_setCell_other<;>assumption
theorem bc (w:az)(a:bG)(v:bD){u:bD}(h:V w a = Z u):V (w.setCell a v) a = Z v:=by intros;apply World.cell?_setCell_same<;>assumption
theorem DF {m:Type}(o:f_ m)(D:Int->Prop)(d fk bd:gu)(is:m->Int->Bool)(kp:m->Int->Int×m)(he:dV d.f)(an:dV fk.f)(ha:kJ o.todC D d.f d.b d.c is)(hk:na o D fk.f fk.b fk.c kp)
 (F:Nat->Prop)(s:m)(w:az)(bl v bs:Nat)(e:cf)(ao:D e.1/\D e.2)(hn:L (o.wt (kp s e.2).2)<=90000)(ap:o.J F s w)(hB:lQ w o.p bl v bs d fk bd)(hs:¬F bs):
 Calls O 147 #[en e,aq v,aq bl,aq bs] w fun r w'=>∃ar,r=M6 (bK (cm o is kp s e).1)/\o.J ar (cm o is kp s e).2 w'/\Fr F w w'/\∀k,ar k->F k\/I (G w)<=k:=by
 obtain⟨g,z⟩:=e;have be:aA (kJ o.todC D d.f d.b d.c is):=ha;have bg:aA (na o D fk.f fk.b fk.c kp):=hk;have ai:aA (L (o.wt (kp s z).2)<=90000):=hn;have bi:aA (dV d.f):=he;have x:aA (o.J F s w):=ap;have c0:V w (av bl 0)=Z d.v:=aD hB.l
 have c1:V w (av bl 1)=Z (.func (.func fk.f) fk.b fk.c):=aD hB.l
 have c2:V w (av v 0)=Z (.func (.func 146) #[] #[aq bl]):=aD hB.g
 have c3:V w (av bs 0)=Z (aq o.p):=aD hB.s
 have l1:bl<I (G w):=lt_of_some hB.l;have l2:v<I (G w):=lt_of_some hB.g;have bn:bs<I (G w):=lt_of_some hB.s;have cg:∀(args:Array bD)(w:az),(callFunc fk.f args).run O w=.ok (.enter fk.f args) w:=an;clear he ha ap hk an hn hB;go_enter func147,ntmps147;go_wp2_with fail;have B:=aw w (M5 #[U Q g,U Q z] 103)
 refine(xg o.todC D d is bi.o be.o F s _ bl (g,z) ao.1 (o.below x.o B) ((B.cell l1).trans c0)).mono ?_;rintro r w1 ⟨rfl,hb⟩
 have f:=B.trans (hb.mono ac)
 have bo:I (G w)<I (G w1):=by have:=hb.size;simp at this;omega
 have aB:V w1 (av (I (G w)) 0)=Z (ak g):=(hb.cell ac).trans ac;have y1:V w1 (av (I (G w)) 1)=Z (ak z):=(hb.cell ac).trans ac;have bp:V w1 (av bl 1)=Z (.func (.func fk.f) fk.b fk.c):=(f.cell l1).trans c1;have aF:V w1 (av bs 0)=Z (aq o.p):=(f.cell bn).trans c3;have aR:bO w1 (av (I (G w)) 1)=K:=(hb.frozen ac).trans ac;clear hb B;cases hg:is s g
 ·have n:aA (cm o is kp s (g,z)=(K,s)):=nc hg;go_wp2_with fail;go_ret;rw[n.o];exact⟨F,rfl,o.below x.o f,Fr.of f,fun k h=>aM h⟩
 ·have n:aA (cm o is kp s (g,z)=(Nc,o.put (kp s z).2 (o.wt (kp s z).2++[(g,(kp s z).1)]))):=nf hg;go_wp2_with fail;refine(bg.o F s _ z ao.2 ai.o (o.below x.o f)).mono ?_;rintro r b ⟨t,rfl,N,u,S⟩
  generalize (kp s z).1=y at n⊢;generalize (kp s z).2=s1 at n N ai;have al:¬F (I (G w)):=fun h=>by have:=o.lt x.o _ h;omega
  have W:¬t (I (G w)):=fun h=>(S _ h).elim al (fun h=>by omega)
  have ch:=u.size;have ci:=f.size;obtain⟨ad,cap,hp,aV,ab,a0⟩:=o.side N;have a1:o.p≠I (G w):=fun e=>W (by rw[<-e];exact ab)
  have cj:o.p<I (G b):=lt_of_some hp;have ck:bs≠o.p:=fun e=>(S bs (by rw[e];exact ab)).elim hs (fun h=>by omega)
  have cl:=ai.o;have ag:=u.block _ bo al;have a2:=u.block bs aa hs;have z0:V b (av (I (G w)) 0)=Z (ak g):=(aQ (a:=⟨I (G w),0,M9⟩) ag).trans aB;have a3:V b (av (I (G w)) 1)=Z (ak z):=(aQ (a:=⟨I (G w),1,M9⟩) ag).trans y1;have br:bO b (av (I (G w)) 1)=K:=(World.frozen?_of_block (a:=⟨I (G w),1,M9⟩) ag).trans aR;have a4:V b (av bs 0)=Z (aq o.p):=(aQ (a:=⟨bs,0,M9⟩) a2).trans aF;have bt:bs≠I (G w):=aa;have l:∀k:Nat,k≠I (G w)->(ay b ⟨I (G w),1,M9⟩ (U Q y)).heap[k]?=b.heap[k]?:=fun k hk=>aX _ _ _ _ hk;have am:I (G (ay b ⟨I (G w),1,M9⟩ (U Q y)))=I (G b):=by simp[World.setCell]
  have bx:V (ay b ⟨I (G w),1,M9⟩ (U Q y)) (av (I (G w)) 0)=Z (ak g):=(aY b ⟨I (G w),1,M9⟩ ⟨I (G w),0,M9⟩ (ak y) ac).trans z0;have b0:V (ay b ⟨I (G w),1,M9⟩ (U Q y)) (av (I (G w)) 1)=Z (ak y):=bc _ _ _ a3;have b2:V (ay b ⟨I (G w),1,M9⟩ (U Q y)) (av bs 0)=Z (aq o.p):=(aQ (a:=⟨bs,0,M9⟩) (l bs bt)).trans a4;have b3:V (ay b ⟨I (G w),1,M9⟩ (U Q y)) (av o.p 1)=Z (M0 ad (L (o.wt s1)) cap):=(aQ (a:=⟨o.p,1,M9⟩) (l o.p a1)).trans (by simp[World.cell?,hp])
  have b4:bO (ay b ⟨I (G w),1,M9⟩ (U Q y)) (av o.p 1)=K:=(World.frozen?_of_block (a:=⟨o.p,1,M9⟩) (l o.p a1)).trans (by simp[World.frozen?,hp])
  have b5:o.J t s1 (ay b ⟨I (G w),1,M9⟩ (U Q y)):=o.keep N (by rw[am];exact aG _) (fun k hk=>l k (fun e=>W (by rw[<-e];exact hk)))
  have b6:iU (ay b ⟨I (G w),1,M9⟩ (U Q y)) ad (o.wt s1) cap:=aV.keep (by rw[am];exact aG _) (fun hq a e=>l _ (fun ca=>W (by rw[<-ca];exact a0 hq a e)))
  have cb:Fr F w (ay b ⟨I (G w),1,M9⟩ (U Q y)):=((Fr.of (X:=F) f).trans u (fun _ c=>aM c)).trans ((Fr.refl (fun k=>k=I (G w)) b).set _ 1 _ rfl) (fun i c=>aK aa)
  have ba:aA (∀k,t k->F k\/I (G w)<=k):=fun k h=>(S k h).imp id (fun h=>by omega)
  have cc:aA (t o.p):=ab;have lo:bs<I (G (ay b ⟨I (G w),1,M9⟩ (U Q y))):=aa;have lp:o.p<I (G (ay b ⟨I (G w),1,M9⟩ (U Q y))):=aa;have lw:I (G w)<I (G (ay b ⟨I (G w),1,M9⟩ (U Q y))):=aa;clear al W hp aV ab a0 ag a2 a4 l u N S aB y1 bp aF aR am;go_wp2_with fail;generalize ay b ⟨I (G w),1,M9⟩ (U Q y)=cn at*;clear z0 a3 br
  go_region_with (go_at_call 104;refine(xe _ ad (o.wt s1) cap g y (b6.below (b9.drew)) aa).mono ?_;rintro e cd ⟨b1,gN,rfl,bb,j⟩;have co:=(j.cell (p:=av (I (G w)) 0) lw).trans bx;have cp:=(j.cell (p:=av (I (G w)) 1) lw).trans b0;have cq:=(j.cell (p:=av bs 0) lo).trans b2;have cr:=(j.cell (p:=av o.p 1) lp).trans b3;have cs:=(j.frozen (p:=av o.p 1) lp).trans b4)
  all_goals
   go_wp2_with fail;go_ret;rw[n.o];have ce:=o.set (q:=o.wt s1++[(g,y)]) (b1:=b1) (gN:=gN) (o.below b5 b9.drew) j (by simpa using bb)
   refine⟨fun k=>t k\/k=b1,rfl,by simpa using ce,(cb.drew.trans (Fr.of (X:=F) j) (fun _ c=>aM c)).trans ((Fr.refl (fun k=>k=o.p) cd).set o.p 1 _ rfl) (fun i c=>by rw[c];exact ba.o _ cc.o),fun k h=>h.elim (ba.o k) (fun h=>aK (by have:=(cv bb b1 rfl).1;simp at this;omega))⟩
def boxed {e:Type}(o:f_ e)(bl d bs:Nat)(f fk g:gu):dC e where
 J F s w:=∃b,o.J b s w/\lQ w o.p bl d bs f fk g/\¬b bl/\¬b d/\¬b bs/\∀k,F k↔(b k\/k=bl\/k=d\/k=bs)
 lt:=by
  rintro F t w ⟨b,h0,hB,_,_,_,c⟩ k hk;rcases(c k).1 hk with h|rfl|rfl|rfl
  ·exact o.lt h0 k h
  ·exact lt_of_some hB.l
  ·exact lt_of_some hB.g
  ·exact lt_of_some hB.s
 keep:=by rintro F t w w' ⟨b,h0,hB,i,j,l,c⟩ hs hk;exact⟨b,o.keep h0 hs (fun k h=>hk k ((c k).2 (aM h))),⟨(hk bl ((c bl).2 ac)).trans hB.l,(hk d ((c d).2 ac)).trans hB.g,(hk bs ((c bs).2 ac)).trans hB.s⟩,i,j,l,c⟩
theorem DG {c:Type}(o:f_ c)(bl d bs:Nat)(D:Int->Prop)(b fk j:gu)(is:c->Int->Bool)(kp:c->Int->Int×c)(he:dV b.f)(v:dV fk.f)(ha:kJ o.todC D b.f b.b b.c is)(hk:na o D fk.f fk.b fk.c kp):
 Looks (boxed o bl d bs b fk j) (fun e=>D e.1/\D e.2) (fun s=>∀x,L (o.wt (kp s x).2)<=90000) 147 #[] #[aq d,aq bl,aq bs] (cm o is kp):=by
 intro F s w e B N S;obtain⟨l,h0,hB,m,n,g,i⟩:=S;refine(DF o D b fk j is kp he v ha hk l s w bl d bs e B (N e.2) h0 hB g).mono ?_;rintro r w' ⟨p,rfl,W,f,t⟩
 have q:∀k,k<I (G w)->¬l k->_:=fun k hk hn h=>(t k h).elim hn (fun h=>by omega)
 have lb:=lt_of_some hB.l;have u:=lt_of_some hB.g;have ls:=lt_of_some hB.s;refine⟨fun k=>p k\/k=bl\/k=d\/k=bs,rfl,⟨p,W,⟨(f.block _ lb m).trans hB.l,(f.block _ u n).trans hB.g,(f.block _ ls g).trans hB.s⟩,q _ lb m,q _ u n,q _ ls g,fun k=>iy⟩,f.mono (fun k h=>(i k).2 (aM h)),fun k h=>?_⟩
 rcases h with h|h
 ·exact(t k h).imp (fun h=>(i k).2 (aM h)) id
 ·exact aM ((i k).2 (aK h))
def eT {c:Type}(lk:c->cf->Bool×c):Nat->c->List cf->c×List cf
 |0,s,b=>(s,b)
 |n+1,s,b=>if L (pts lk s b).1=0 then((pts lk s b).2.2,(pts lk s b).2.1) else eT lk n (pts lk s b).2.2 (pts lk s b).2.1
theorem mz {c:Type}(lk:c->cf->Bool×c)(n:Nat)(s:c)(b:List cf)(h:L (pts lk s b).1=0):eT lk (n+1) s b=((pts lk s b).2.2,(pts lk s b).2.1):=by rw[eT,aJ h]
theorem mA {c:Type}(lk:c->cf->Bool×c)(n:Nat)(s:c)(b:List cf)(h:¬L (pts lk s b).1=0):eT lk (n+1) s b=eT lk n (pts lk s b).2.2 (pts lk s b).2.1:=by rw[eT,aI h]
theorem s7 {b:Type}(lk:b->cf->Bool×b)(t:b)(l:List cf)(e:cf):(e∈(pts lk t l).1\/e∈(pts lk t l).2.1)->e∈l:=by
 have key:∀(l:List cf)(s:List cf×List cf×b),(e∈(l.foldl (eM lk) s).1\/e∈(l.foldl (eM lk) s).2.1)->e∈s.1\/e∈s.2.1\/e∈l:=by
  intro l
  induction l with
  |nil=>intro s h;rcases h with h|h<;>simp at h<;>simp[h]
  |cons x r c=>
   intro s h;have:=c _ h;unfold eM at this
   split at this<;>simp only [List.mem_append,List.mem_cons] at this⊢<;>grind
 intro h;have:=key l ([],[],t) h;simpa using this
abbrev ng (b bl bs:Nat):Value:=.func (.func 147) #[] #[aq b,aq bl,aq bs]
theorem a7 {α:Type _}{«as» bs:List α}:L («as» ++ bs) = «as».length + L bs:=List.length_append ..
theorem s8 {b:Type}(o:f_ b)(is:b->Int->Bool)(kp:b->Int->Int×b)(hl:∀s x,L (o.wt (kp s x).2)=L (o.wt s))(s:b)(l:List cf):L (o.wt (pts (cm o is kp) s l).2.2)=L (o.wt s)+L (pts (cm o is kp) s l).1:=by
 have key:∀(l:List cf)(t:List cf×List cf×b),L (o.wt (l.foldl (eM (cm o is kp)) t).2.2)+L t.1=L (o.wt t.2.2)+L (l.foldl (eM (cm o is kp)) t).1:=by
  intro l
  induction l with
  |nil=>simp
  |cons e r d=>
   intro t;rw[a_];have h:=d (eM (cm o is kp) t e)
   cases hc:is t.2.2 e.1
   ·have c:eM (cm o is kp) t e=(t.1,t.2.1++[e],t.2.2):=by simp[eM,cm,hc]
    rw[c] at h⊢;exact h
   ·have c:eM (cm o is kp) t e=(t.1++[e],t.2.1,o.put (kp t.2.2 e.2).2 (o.wt (kp t.2.2 e.2).2++[(e.1,(kp t.2.2 e.2).1)])):=by simp[eM,cm,hc]
    rw[c] at h⊢;rw[o.qC,a7,a7,hl] at h;simp at h;omega
 have:=key l ([],[],s)
 simpa[pts] using this
def fQ {b:Type}(o:f_ b)(is:b->Int->Bool)(kp:b->Int->Int×b)(s:b)(r:List cf):b:=(eT (cm o is kp) (L (r.filter (fun e=>!is s e.2))+1) s (r.filter (fun e=>!is s e.2))).1
def e9 {b:Type}(o:f_ b)(is:b->Int->Bool)(kp:b->Int->Int×b)(nw:b->Int->Int)(s:b)(r:List cf):List cf:=((r.filter (fun e=>is s e.2)).filter (fun e=>is (fQ o is kp s r) e.1)).map fun e=>(nw (fQ o is kp s r) e.1,nw (fQ o is kp s r) e.2)
def e_ {b:Type}(o:f_ b)(is:b->Int->Bool)(kp:b->Int->Int×b)(nw:b->Int->Int)(s:b)(r:List cf):List cf:=((o.wt (fQ o is kp s r)).filter (fun e=>is (fQ o is kp s r) e.1)).map fun e=>(nw (fQ o is kp s r) e.1,nw (fQ o is kp s r) e.2)
structure mB {σ:Type}(o:f_ σ)(D:Int->Prop)(fa fk fn:gu)(is:σ->Int->Bool)(kp:σ->Int->Int×σ)(nw:σ->Int->Int):Prop where
 ea:dV fa.f
 gV:dV fk.f
 en:dV fn.f
 ha:kJ o.todC D fa.f fa.b fa.c is
 hk:na o D fk.f fk.b fk.c kp
 ht:lP o.todC D fn.f fn.b fn.c nw
 hl:∀s x,L (o.wt (kp s x).2)=L (o.wt s)
abbrev cJ:=Int×List (Int×Int)×Bool×Bool
structure cn where
 T:List cJ
 rs:List (Int×Int)
 rg:List cf
 wt:List cf
theorem s9:∀(l:List (Int×Int))(i:Nat)(x:Int×Int),ev (l.set i x)=((ev l).set (i*2) (ak x.1)).set (i*2+1) (ak x.2)
 |[],_,_=>rfl
 |e::l,0,x=>by simp[ev]
 |e::l,i+1,x=>by
  have b:ev (e::l)=ak e.1::ak e.2::ev l:=by simp[ev]
  have c:ev ((e::l).set (i+1) x)=ak e.1::ak e.2::ev (l.set i x):=by simp[ev]
  rw[b,c,(s9 l i x),show(i+1)*2=i*2+1+1 by omega];simp
def dW (g:Int)(q:List cf):Nat:=q.findIdx (fun e=>e.1==g)
end Go.Proofs.YtpkjkjhanlbcoaaGreat
