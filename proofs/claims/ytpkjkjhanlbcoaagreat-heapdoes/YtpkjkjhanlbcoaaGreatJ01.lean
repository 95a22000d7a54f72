import Derived.Test.YtpkjkjhanlbcoaaGreatJ00
import Derived.Below
import Derived.Test.YtpkjkjhanlbcoaaGreatChecked
import Derived.WalkKit
import Derived.WalkSpells
import Derived.Deep.QuietTactic
import Derived.BigQuiet
import Derived.WalkSmall
import Derived.Laws.CopyOwn
import Derived.Maps.AppendAt
import Derived.Deep.RegionHeld3
import Derived.ArgAppend
import Derived.Deep.RegionLawGrows
namespace Go.Proofs.YtpkjkjhanlbcoaaGreat
theorem ae{P:Prop}(h:P:=by decide):P:=h
theorem ah{P:Prop}(h:P:=by kernel_rfl):P:=h
theorem aj{P:Prop}(h:P:=by go_num):P:=h
set_option maxRecDepth 100000
set_option maxHeartbeats 1000000
open Tryz
open Go.RowKit
abbrev ak(n:Int):Value:=.int .i64 n
abbrev ao(b n:Nat):Addr:=⟨b,n,none⟩
abbrev an(b:Nat):Option Addr:=some ⟨b,0,none⟩
abbrev am(b:Nat):Value:=.pointer (some ⟨b,0,none⟩)
theorem bY{n:Nat}:n<=n:=Nat.le_refl n
abbrev aw:=World
theorem bZ{B:Nat}{w:aw}:Below B w w:=Below.refl B w
theorem lu {P:Prop}(h:P:=by go_wp2;go_ret;exact⟨rfl,bZ.alloc bY _⟩):P:=h
theorem rH {P:Prop}(h:P:=by
 go_enter func94,ntmps94;go_wp2_with fail;refine(uU x _).mono ?_;rintro e w1 ⟨rfl,hb⟩
 go_wp2_with fail;go_ret2;exact⟨rfl,hb.alloc hb.size _⟩):P:=h
theorem oe {P:Prop}(h:P:=by
 go_enter func168,ntmps168;go_wp2
 go_ret3
 exact⟨rfl,rfl⟩):P:=h
theorem uV {P:Prop}(h:P:=by
 go_wp2_with fail;refine(jN _ _).mono ?_;rintro e w1 ⟨rfl,rfl⟩
 rw[show fl 2=0 from rfl,show fm 2=12 from rfl,show fk 2=true from rfl];go_wp2;go_ret2;exact⟨rfl,rfl⟩):P:=h
theorem uW {P:Prop}(h:P:=by
 go_wp2_with fail;refine(jN _ _).mono ?_;rintro e w1 ⟨rfl,rfl⟩
 rw[show fl 5=0 from rfl,show fm 5=0 from rfl,show fk 5=true from rfl];go_wp2;go_ret2;exact⟨rfl,rfl⟩):P:=h
theorem uX {P:Prop}(h:P:=by
 go_wp2_with fail;refine(jN _ _).mono ?_;rintro e w1 ⟨rfl,rfl⟩
 rw[show fl 4=2 from rfl,show fm 4=2 from rfl,show fk 4=true from rfl];go_wp2;go_ret2;exact⟨rfl,rfl⟩):P:=h
theorem uY {P:Prop}(h:P:=by
 go_wp2_with fail;refine(jN _ _).mono ?_;rintro e w1 ⟨rfl,rfl⟩
 rw[show fl 3=2 from rfl,show fm 3=2 from rfl,show fk 3=true from rfl];go_wp2;go_ret2;exact⟨rfl,rfl⟩):P:=h
theorem uZ {P:Prop}(h:P:=by
 go_wp2_with fail;refine(jN _ _).mono ?_;rintro e w1 ⟨rfl,rfl⟩
 rw[show fl 1=2 from rfl,show fm 1=2 from rfl,show fk 1=true from rfl];go_wp2;go_ret2;exact⟨rfl,rfl⟩):P:=h
theorem u_ {P:Prop}(h:P:=by
 go_enter func99,ntmps99;go_wp2_with (go_at_call 176;refine(Bn _ _ _).mono ?_;rintro e w' ⟨rfl,rfl⟩)
 go_ret;exact⟨rfl,bZ.alloc bY _⟩):P:=h
theorem pL {P:Prop}(h:P:=by go_wp2;go_ret2;exact⟨rI (by decide+kernel),rfl⟩):P:=h
theorem vd {P:Prop}(h:P:=by
 go_enter func178,ntmps178;go_wp2_with fail;refine(og _ _ _).mono ?_;rintro e w1 ⟨rfl,rfl⟩
 go_wp2
 go_ret3
 exact⟨rfl,rfl⟩):P:=h
theorem vf {P:Prop}(h:P:=by
 obtain⟨b0,c0,e0⟩:=d4 h hp;obtain⟨cs,hc⟩:=d6 h b0 (by rw[e0];rfl)
 cases e0;exact⟨b0,0,cs,rfl,hc⟩):P:=h
theorem rJ {P:Prop}(h:P:=by go_enter func224,ntmps224;go_wp2;go_ret;exact⟨rfl,rfl⟩):P:=h
theorem rK {P:Prop}(h:P:=by go_enter func100,ntmps100;go_wp2;go_ret;exact⟨rfl,rfl⟩):P:=h
abbrev ay(p:Prop):Prop:=Hid p
theorem ay.o{p:Prop}(h:ay p):p:=h
theorem hide {p:Prop}(h:p):ay p:=h
theorem dq {p q:Prop}(a:p)(b:q):ay (p/\q):=⟨a,b⟩
theorem gM {p q r:Prop}(a:p)(b:q)(c:r):ay (p/\q/\r):=⟨a,b,c⟩
theorem iZ {p q r s:Prop}(a:p)(b:q)(c:r)(d:s):ay (p/\q/\r/\s):=⟨a,b,c,d⟩
theorem Bo {p q r s t u:Prop}(a:p)(b:q)(c:r)(d:s)(e:t)(f:u):ay (p/\q/\r/\s/\t/\u):=⟨a,b,c,d,e,f⟩
theorem Bp {p q r s t u v:Prop}(a:p)(b:q)(c:r)(d:s)(e:t)(f:u)(g:v):ay (p/\q/\r/\s/\t/\u/\v):=⟨a,b,c,d,e,f,g⟩
open Go.RowKit W
theorem Bn (n low:Int)(w:aw):
 Calls prog 176 #[ak n,ak low] w fun e w'=>e=.returned (ak (rc n low))/\w'=w:=by
 by_cases c1:n<low
 ·have e:rc n low=1:=by unfold rc;rw[aJ c1]
  rw[e];go_enter func176,ntmps176;go_wp2;go_ret;exact⟨rfl,rfl⟩
 ·by_cases c2:1152921504606846976<=n
  ·have e:rc n low=1:=by unfold rc;rw[aH c1,aJ c2]
   rw[e];go_enter func176,ntmps176;go_wp2;go_ret;exact⟨rfl,rfl⟩
  ·have e:rc n low=0:=by unfold rc;rw[aH c1,aH c2]
   rw[e];go_wp2;go_ret;exact⟨rfl,rfl⟩
theorem Bq (k:Int)(w:aw):
 Calls prog 100 #[ak k] w fun e w'=>e=.returned (ak (tg k))/\w'=w:=by
 by_cases c1:k=1
 ·subst c1;exact rK
 ·by_cases c3:k=3
  ·subst c3;exact rK
  ·by_cases c0:k=0
   ·subst c0;exact rK
   ·have e:tg k=3:=by unfold tg;rw[aH c1,aH c3,aH c0]
    rw[e];go_wp2;go_ret;exact⟨rfl,rfl⟩
theorem vg (t:Int)(w:aw):
 Calls prog 224 #[ak t] w fun e w'=>e=.returned (ak (ix t))/\w'=w:=by
 by_cases c1:t=0
 ·subst c1;exact rJ
 ·by_cases c3:t=1
  ·subst c3;exact rJ
  ·by_cases c0:t=2
   ·subst c0;exact rJ
   ·have e:ix t=2:=by unfold ix;rw[aH c1,aH c3,aH c0]
    rw[e];go_wp2;go_ret;exact⟨rfl,rfl⟩
theorem Br (n:Int):vc 0 n=if n=0 then 0 else 7:=by simp[vc]
theorem Bt (n:Int):vc 2 n=if n=0 then 0 else 7:=by simp[vc]
theorem Bu (n:Int):vc 1 n=rc n (-1152921504606846976):=by simp[vc]
theorem vh (n:Int):vc 3 n=rc n 0:=by simp[vc]
theorem pM (k n:Int)(w:aw):
 Calls prog 99 #[.agg #[ak k,ak n]] w fun e w'=>e=.returned (ak (vc k n))/\Below w.heap.size w w':=by
 by_cases c0:k=0
 ·subst c0;rw[Br];by_cases c:n=0
  ·subst c;go_enter func99,ntmps99;exact lu
  ·rw[aH c];go_enter func99,ntmps99;exact lu
 ·by_cases c2:k=2
  ·subst c2;rw[Bt];by_cases c:n=0
   ·subst c;go_enter func99,ntmps99;exact lu
   ·rw[aH c];go_enter func99,ntmps99;exact lu
  ·by_cases c1:k=1
   ·subst c1;rw[Bu];exact u_
   ·by_cases c3:k=3
    ·subst c3;rw[vh];exact u_
    ·have e:vc k n=2:=by unfold vc;rw[aH c0,aH c2,aH c1,aH c3]
     rw[e];go_enter func99,ntmps99;exact lu
theorem m7 {B:Nat}{W w1:aw}(hb:Below B W w1):(∀b o,b<B->w1.cell? (ao b o)=W.cell? (ao b o))/\(∀b o,b<B->w1.frozen? (ao b o)=W.frozen? (ao b o)):=
 ⟨fun b o h=>hb.cell (p:=ao b o) h,fun b o h=>hb.frozen (p:=ao b o) h⟩
theorem vi {w w1:aw}{a b c d:Value}{s t:TypeId}(hb:Below ((w.alloc (.cells #[a,b] s)).alloc (.cells #[c,d] t)).heap.size ((w.alloc (.cells #[a,b] s)).alloc (.cells #[c,d] t)) w1):
 w1.cell? (ao w.heap.size 0)=some a/\w1.cell? (ao w.heap.size 1)=some b/\w1.cell? (ao (w.heap.size+1) 0)=some c/\w1.cell? (ao (w.heap.size+1) 1)=some d/\w1.frozen? (ao w.heap.size 0)=false/\w1.frozen? (ao w.heap.size 1)=false/\w.heap.size+2<=w1.heap.size:=by
 obtain⟨hc,e⟩:=m7 hb;refine⟨?_,?_,?_,?_,?_,?_,by simpa using hb.size⟩
 ·rw[hc _ _ (by simp;omega)];simp[go_sem]
 ·rw[hc _ _ (by simp;omega)];simp[go_sem]
 ·rw[hc _ _ ac];simp[go_sem]
 ·rw[hc _ _ ac];simp[go_sem]
 ·rw[e _ _ (by simp;omega)];simp[go_sem]
 ·rw[e _ _ (by simp;omega)];simp[go_sem]
theorem vj {w w1:aw}{a b:Value}{t:TypeId}(hb:Below (w.alloc (.cells #[a,b] t)).heap.size (w.alloc (.cells #[a,b] t)) w1):
 w1.cell? (ao w.heap.size 0)=some a/\w1.cell? (ao w.heap.size 1)=some b/\w.heap.size+1<=w1.heap.size:=by
 obtain⟨hc,_⟩:=m7 hb;refine⟨?_,?_,by simpa using hb.size⟩
 ·rw[hc _ _ ac];simp[go_sem]
 ·rw[hc _ _ ac];simp[go_sem]
theorem rI {a b:Int}{c:Value}(h:a=b):Ending.returned (.tuple #[ak a,c])=.returned (.tuple #[ak b,c]):=by rw[h]
theorem vk (k n:Int)(w:aw):
 Calls prog 46 #[.agg #[ak k,ak n]] w fun e w'=>e=.returned (.tuple #[ak (ew k n),ak (vc k n)])/\Below w.heap.size w w':=by
 by_cases h:vc k n=0
 ·rw[rA k n h];have b:=A7 k n h;have H:=hide h;rw[H.o];go_enter func46,ntmps46;go_wp2_with fail;refine(pM k n _).mono ?_;rintro e w1 ⟨rfl,hb⟩
  rw[H.o];obtain⟨hc,c⟩:=m7 hb;go_wp2
  go_quiet ((go_at_call 100;exact Calls.quiet_of_same (Bq _ _)))
  go_wp2;go_ret2;exact⟨rI (hide (A8 k n b.1 b.2)).o,below_drewN ((bZ.alloc bY _).trans (hb.mono ac)) _⟩
 ·rw[Ba k n h];go_enter func46,ntmps46;go_wp2_with fail;refine(pM k n _).mono ?_;rintro e w1 ⟨rfl,hb⟩
  go_wp2;go_ret2;exact⟨rfl,(bZ.alloc bY _).trans (hb.mono ac)⟩
theorem bz {P:Go.Program}{fn:Go.Func}{R:Go.Ending -> aw -> Prop}{a:Go.Act}{w:aw}{v:Value}(hr:Go.Sem.run P (Go.results fn a.tmps) w = Go.Result.ok v w)(hd:a.defers = [])(hR:R (Go.Ending.returned v) w):Go.bodyPost P fn R Go.Exit.ret a w:=by intros;apply bodyPost_ret<;>assumption
theorem uU (x:Int)(w:aw):
 Calls prog 173 #[ak x] w fun e w'=>e=.returned (.tuple #[.agg #[ak (dk x),ak (dA x)],ak (dc x)])/\Below w.heap.size w w':=by
 have g:=A1 x;by_cases h:dc x=0
 ·have b:dk x=ix (x%4):=by unfold dk;rw[aJ h]
  have c:dA x=x/4:=by unfold dA;rw[aJ h]
  have H:ay (vc (ix (x%4)) (x/4)=0):=h;rw[h,b,c];clear h b c;go_enter func173,ntmps173;go_wp2_with fail;refine(vg _ _).mono ?_;rintro e w' ⟨rfl,rfl⟩
  go_wp2_with fail;refine(pM (ix (x%4)) (x/4) _).mono ?_;rintro e w1 ⟨rfl,hb⟩
  rw[H.o];obtain⟨c0,c1,c2,c3,d,f,hz⟩:=vi hb;go_wp2_with fail;exact bz (v:=.tuple #[.agg #[ak (ix (x%4)),ak (x/4)],ak 0]) (by simp[results,results173,go_sem,c0,c1]) rfl ⟨rfl,((((bZ.alloc bY _).alloc ac _).trans (hb.mono (by simp;omega))).setCell bY _).setCell bY _⟩
 ·have b:dk x=0:=by unfold dk;rw[aH h]
  have c:dA x=0:=by unfold dA;rw[aH h]
  rw[b,c];have i:(vc (ix (x%4)) (x/4)!=0)=true:=by simpa[dc] using h
  have E:ay (dc x=vc (ix (x%4)) (x/4)):=rfl;rw[E.o];clear h b c;go_enter func173,ntmps173;go_wp2_with fail;refine(vg _ _).mono ?_;rintro e w' ⟨rfl,rfl⟩
  go_wp2_with fail;refine(pM (ix (x%4)) (x/4) _).mono ?_;rintro e w1 ⟨rfl,hb⟩
  obtain⟨c0,c1,c2,c3,d,f,hz⟩:=vi hb;go_wp2_with fail;exact bz (v:=.tuple #[.agg #[ak 0,ak 0],ak (vc (ix (x%4)) (x/4))]) (by simp[results,results173,go_sem,c0,c1]) rfl ⟨rfl,((((bZ.alloc bY _).alloc ac _).trans (hb.mono (by simp;omega))).setCell bY _).setCell bY _⟩
theorem rL (w:aw):Calls prog 47 #[] w fun e w'=>e=.returned (ak 2)/\w'=w:=by go_wp2;go_ret;exact⟨rfl,rfl⟩
theorem m8 (w:aw):Calls prog 191 #[] w fun e w'=>e=.returned (ak 3)/\w'=w:=by go_wp2;go_ret;exact⟨rfl,rfl⟩
theorem pN (n:Int)(w:aw):
 Calls prog 42 #[ak n] w fun e w'=>e=.returned (ak (ew 3 n))/\Below w.heap.size w w':=by
 go_enter func42,ntmps42;go_wp2_with fail;refine(vk 3 n _).mono ?_;rintro e w1 ⟨rfl,hb⟩
 go_wp2_with fail;go_ret;exact⟨rfl,hb⟩
theorem m9 (x:Int)(w:aw):
 Calls prog 94 #[ak x] w fun e w'=>e=.returned (.tuple #[ak (cj x),.bool (c7 x)])/\Below w.heap.size w w':=by
 by_cases h0:dc x=0
 ·have t0:(dc x !=0)=false:=by simpa using h0
  by_cases c:dk x=3
  ·have b:c7 x=true:=by unfold c7;rw[h0,c];rfl
   rw[lr x b,b];have t3:(dk x !=3)=false:=by simpa using c
   exact rH
  ·have b:c7 x=false:=by unfold c7;rw[beq_eq_false_iff_ne.2 c];simp
   rw[uN x b,b];exact rH
 ·have b:c7 x=false:=by unfold c7;rw[beq_eq_false_iff_ne.2 h0];simp
  rw[uN x b,b];exact rH
theorem jN (k:Int)(w:aw):
 Calls prog 168 #[ak k] w fun e w'=>e=.returned (.tuple #[ak (fl k),ak (fm k),.bool (fk k)])/\w'=w:=by
 by_cases c1:k=1
 ·subst c1;exact oe
 by_cases c2:k=2
 ·subst c2;exact oe
 by_cases c3:k=3
 ·subst c3;exact oe
 by_cases c4:k=4
 ·subst c4;exact oe
 by_cases c5:k=5
 ·subst c5;exact oe
 have b:fl k=0:=by simp[fl,c1,c3,c4]
 have c:fm k=0:=by simp[fm,c1,c2,c3,c4]
 have d:fk k=false:=by simp[fk,c1,c2,c3,c4,c5]
 rw[b,c,d];go_wp2
 go_ret3
 exact⟨rfl,rfl⟩
theorem Bv (k f:Int)(w:aw)(h:hc k f=0):
 Calls prog 89 #[ak k,ak f] w fun e w'=>e=.returned (.tuple #[ak (16*f+k),ak 0])/\w'=w:=by
 rcases oc k f h with⟨rfl,rfl⟩|⟨rfl,rfl⟩|⟨rfl,rfl⟩|⟨rfl,b,c⟩|⟨rfl,rfl⟩
 ·go_enter func89,ntmps89;go_wp2_with fail;refine(jN _ _).mono ?_;rintro e w1 ⟨rfl,rfl⟩
  rw[show fl 1=2 from rfl,show fm 1=2 from rfl,show fk 1=true from rfl];exact pL
 ·go_enter func89,ntmps89;go_wp2_with fail;refine(jN _ _).mono ?_;rintro e w1 ⟨rfl,rfl⟩
  rw[show fl 3=2 from rfl,show fm 3=2 from rfl,show fk 3=true from rfl];exact pL
 ·go_enter func89,ntmps89;go_wp2_with fail;refine(jN _ _).mono ?_;rintro e w1 ⟨rfl,rfl⟩
  rw[show fl 4=2 from rfl,show fm 4=2 from rfl,show fk 4=true from rfl];exact pL
 ·have E:=hide (A9 2 f h)
  go_enter func89,ntmps89;go_wp2_with fail;refine(jN _ _).mono ?_;rintro e w1 ⟨rfl,rfl⟩
  rw[show fl 2=0 from rfl,show fm 2=12 from rfl,show fk 2=true from rfl];go_wp2;go_ret2;exact⟨rI E.o,rfl⟩
 ·go_enter func89,ntmps89;go_wp2_with fail;refine(jN _ _).mono ?_;rintro e w1 ⟨rfl,rfl⟩
  rw[show fl 5=0 from rfl,show fm 5=0 from rfl,show fk 5=true from rfl];exact pL
theorem Bw (k f:Int)(w:aw)(h:(k=1/\f<2)\/(k=1/\2<f)\/(k=3/\f<2)\/(k=3/\2<f)\/(k=4/\f<2)\/(k=4/\2<f)\/(k=2/\f<0)\/(k=2/\12<f)\/(k=5/\f<0)\/(k=5/\0<f)):
 Calls prog 89 #[ak k,ak f] w fun e w'=>e=.returned (.tuple #[ak 0,ak 1])/\w'=w:=by
 rcases h with⟨rfl,h⟩|⟨rfl,h⟩|⟨rfl,h⟩|⟨rfl,h⟩|⟨rfl,h⟩|⟨rfl,h⟩|⟨rfl,h⟩|⟨rfl,h⟩|⟨rfl,h⟩|⟨rfl,h⟩
 ·go_enter func89,ntmps89;exact uZ
 ·go_enter func89,ntmps89;exact uZ
 ·go_enter func89,ntmps89;exact uY
 ·go_enter func89,ntmps89;exact uY
 ·go_enter func89,ntmps89;exact uX
 ·go_enter func89,ntmps89;exact uX
 ·go_enter func89,ntmps89;exact uV
 ·go_enter func89,ntmps89;exact uV
 ·go_enter func89,ntmps89;exact uW
 ·go_enter func89,ntmps89;exact uW
theorem Bx (k f:Int)(w:aw)(b:k≠1)(c:k≠2)(d:k≠3)(g:k≠4)(i:k≠5):
 Calls prog 89 #[ak k,ak f] w fun e w'=>e=.returned (.tuple #[ak 0,ak 2])/\w'=w:=by
 have j:fk k=false:=by simp[fk,b,c,d,g,i]
 go_enter func89,ntmps89;go_wp2_with fail;refine(jN _ _).mono ?_;rintro e w1 ⟨rfl,rfl⟩
 go_wp2;go_ret2;exact⟨rfl,rfl⟩
theorem og (k f:Int)(w:aw):
 Calls prog 89 #[ak k,ak f] w fun e w'=>e=.returned (.tuple #[ak (hw k f),ak (hc k f)])/\w'=w:=by
 by_cases h:hc k f=0
 ·rw[rz k f h,h];exact Bv k f w h
 ·rw[A_ k f h];rcases Bd k f h with e|⟨b,c,d,g,i⟩
  ·rw[Be k f e];exact Bw k f w e
  ·rw[Bb k f b c d g i];exact Bx k f w b c d g i
theorem By (h:Int)(w:aw):
 Calls prog 178 #[ak h] w fun e w'=>e=.returned (.tuple #[ak (pk h),ak (pf h),ak (pc h)])/\w'=w:=by
 have ha:=A2 h;by_cases c:hc (h%16) (h/16)=0
 ·have b:pk h=h%16:=by unfold pk;rw[aJ c]
  have d:pf h=h/16:=by unfold pf;rw[aJ c]
  have f:pc h=0:=by unfold pc;rw[aJ c]
  rw[b,d,f];clear b d f;have t:(hc (h%16) (h/16)!=0)=false:=by simpa using c
  clear c;exact vd
 ·have b:pk h=0:=by unfold pk;rw[aH c]
  have d:pf h=0:=by unfold pf;rw[aH c]
  have f:pc h=7:=by unfold pc;rw[aH c]
  rw[b,d,f];exact vd
structure At (w:aw)(p q N O y g:Nat)(ws:List Int):Prop where
 hp:w.heap[p]?=some (.cells #[.slice (an q) (N+O) (N+O),ak 0,ak N,ak y,ak N,ak O,ak g] 122 (0,0))
 hq:w.heap[q]?=some (.cells (ws.map (Value.int .i64)).toArray 2 (0,0))
 hl:ws.length=N+O
 hN:16<=N
 hN':N<=256
 hO:O<=1024
 hy:y<=N
 hg:g<=O
structure c_ (p q:Nat)(w w':aw):Prop where
 os:w'.os=w.os
 tape:w'.tape=w.tape
 output:w'.output=w.output
 size:w.heap.size<=w'.heap.size
 block:∀k,k<w.heap.size->k≠p->k≠q->w'.heap[k]?=w.heap[k]?
theorem lt_of_some {w:aw}{k:Nat}{o:Obj}(h:w.heap[k]?=some o):k<w.heap.size:=(Array.getElem?_eq_some_iff.1 h).1
theorem aD (n:Nat):n <= n:=Nat.le_refl ..
theorem c_.refl (p q:Nat)(w:aw):c_ p q w w:=⟨rfl,rfl,rfl,aD _,fun _ _ _ _=>rfl⟩
theorem aS {n m k:Nat}:n <= m -> m <= k -> n <= k:=Nat.le_trans
theorem aO {n m k:Nat}:n < m -> m <= k -> n < k:=Nat.lt_of_lt_of_le
theorem c_.trans {p q:Nat}{a b c:aw}(h:c_ p q a b)(k:c_ p q b c):c_ p q a c:=
 ⟨k.os.trans h.os,k.tape.trans h.tape,k.output.trans h.output,aS h.size k.size,fun i hi d e=>(k.block i (aO hi h.size) d e).trans (h.block i hi d e)⟩
theorem c_.of {p q:Nat}{w w':aw}(h:Below w.heap.size w w'):c_ p q w w':=⟨h.os,h.tape,h.output,h.size,fun k hk _ _=>h.block k hk⟩
theorem aP (w:aw)(a:Addr)(u:Value)(k:Nat)(h:k ≠ a.block):(w.setCell a u).heap[k]? = w.heap[k]?:=by intros;apply Below.heap_setCell<;>assumption
theorem c_.oh {p q:Nat}{w:aw}(o:Nat)(v:Value):c_ p q w (w.setCell ⟨p,o,none⟩ v):=
 ⟨rfl,rfl,rfl,by simp_all,fun k _ b _=>aP _ _ _ _ b⟩
theorem c_.rM {p q:Nat}{w:aw}(o:Nat)(v:Value):c_ p q w (w.setCell ⟨q,o,none⟩ v):=
 ⟨rfl,rfl,rfl,by simp_all,fun k _ _ b=>aP _ _ _ _ b⟩
theorem c_.Bz {p q:Nat}{w:aw}(b:Array Value):c_ p q w (w.setRow q b):=
 ⟨rfl,rfl,rfl,by simp_all,fun k _ _ c=>setRow_other w q k b c⟩
theorem c_.drew {p q:Nat}{a w:aw}(h:c_ p q a w):c_ p q a w.drew:=⟨h.os,h.tape,h.output,h.size,h.block⟩
theorem c_.below {p q B:Nat}{w w':aw}(h:c_ p q w w')(hB:B<=w.heap.size)(hp:B<=p)(hq:B<=q):Below B w w':=
 ⟨h.os,h.tape,h.output,h.size,fun k hk=>h.block k aa aa aa⟩
theorem At.eO {w:aw}{p q N O y g:Nat}{ws:List Int}(h:At w p q N O y g ws):p<w.heap.size:=lt_of_some h.hp
theorem At.eP {w:aw}{p q N O y g:Nat}{ws:List Int}(h:At w p q N O y g ws):q<w.heap.size:=lt_of_some h.hq
theorem At.ne {w:aw}{p q N O y g:Nat}{ws:List Int}(h:At w p q N O y g ws):p≠q:=by intro e;have b:=h.hp;rw[e,h.hq] at b;simp at b
theorem At.same {w w':aw}{p q N O y g:Nat}{ws:List Int}(h:At w p q N O y g ws)(ep:w'.heap[p]?=w.heap[p]?)(eq:w'.heap[q]?=w.heap[q]?):At w' p q N O y g ws:=
 ⟨ep.trans h.hp,eq.trans h.hq,h.hl,h.hN,h.hN',h.hO,h.hy,h.hg⟩
theorem At.below {w w':aw}{p q N O y g B:Nat}{ws:List Int}(h:At w p q N O y g ws)(hb:Below B w w')(hB:w.heap.size<=B):At w' p q N O y g ws:=
 h.same (hb.block p (aO h.eO hB)) (hb.block q (aO h.eP hB))
theorem a4 (w:aw)(o:Obj)(k:Nat)(h:k < w.heap.size):(w.alloc o).heap[k]? = w.heap[k]?:=by intros;apply Below.heap_alloc<;>assumption
theorem At.alloc {w:aw}{p q N O y g:Nat}{ws:List Int}(h:At w p q N O y g ws)(o:Obj):At (w.alloc o) p q N O y g ws:=
 h.same (a4 _ _ _ h.eO) (a4 _ _ _ h.eP)
theorem At.drew {w:aw}{p q N O y g:Nat}{ws:List Int}(h:At w p q N O y g ws):At w.drew p q N O y g ws:=h.same rfl rfl
theorem At.cells {w:aw}{p q N O y g:Nat}{ws:List Int}(h:At w p q N O y g ws):
 w.cell? (ao p 0)=some (.slice (an q) (N+O) (N+O))/\w.cell? (ao p 1)=some (ak 0)/\w.cell? (ao p 2)=some (ak N)/\w.cell? (ao p 3)=some (ak y)/\
 w.cell? (ao p 4)=some (ak N)/\w.cell? (ao p 5)=some (ak O)/\w.cell? (ao p 6)=some (ak g):=by
 refine⟨?_,?_,?_,?_,?_,?_,?_⟩<;>simp[World.cell?,h.hp]
theorem At.frozen {w:aw}{p q N O y g:Nat}{ws:List Int}(h:At w p q N O y g ws)(o:Nat):w.frozen? (ao p o)=false:=by simp[World.frozen?,h.hp]
theorem At.rN {w:aw}{p q N O y g:Nat}{ws:List Int}(h:At w p q N O y g ws)(o:Nat):w.frozen? (ao q o)=false:=by simp[World.frozen?,h.hq]
theorem At.word {w:aw}{p q N O y g:Nat}{ws:List Int}(h:At w p q N O y g ws)(i:Nat)(hi:i<N+O):w.cell? (ao q i)=some (ak (ws.getD i 0)):=by have hl:=h.hl;simp[World.cell?,h.hq,List.getElem?_map,List.getElem?_eq_getElem (show i<ws.length by omega),List.getD_eq_getElem?_getD]
theorem bf {α:Type _}{«as»:List α}{i:Nat}{a:α}:(«as».set i a).length = «as».length:=List.length_set ..
theorem At.set {w:aw}{p q N O y g:Nat}{ws:List Int}(h:At w p q N O y g ws)(i:Nat)(x:Int):At (w.setCell ⟨q,i,none⟩ (.int .i64 x)) p q N O y g (ws.set i x):=by
 refine⟨(aP _ _ _ _ h.ne).trans h.hp,?_,by rw[bf];exact h.hl,h.hN,h.hN',h.hO,h.hy,h.hg⟩
 simp only [World.setCell,Array.getElem?_modify,if_true,h.hq,Option.map_some];simp[List.map_set]
theorem At.row {w:aw}{p q N O y g:Nat}{ws us:List Int}(h:At w p q N O y g ws)(b:us.length=N+O):At (w.setRow q (us.map (Value.int .i64)).toArray) p q N O y g us:=
 ⟨(setRow_other w q p _ h.ne).trans h.hp,setRow_heap w q _ _ _ _ h.hq,b,h.hN,h.hN',h.hO,h.hy,h.hg⟩
theorem At.vl {w:aw}{p q N O y g:Nat}{ws:List Int}(h:At w p q N O y g ws)(z:Nat)(hz:z<=N):At (w.setCell ⟨p,3,none⟩ (.int .i64 z)) p q N O z g ws:=by
 refine⟨?_,(aP _ _ _ _ h.ne.symm).trans h.hq,h.hl,h.hN,h.hN',h.hO,hz,h.hg⟩
 simp only [World.setCell,Array.getElem?_modify,if_true,h.hp,Option.map_some];simp
theorem At.vm {w:aw}{p q N O y g:Nat}{ws:List Int}(h:At w p q N O y g ws)(z:Nat)(hz:z<=O):At (w.setCell ⟨p,6,none⟩ (.int .i64 z)) p q N O y z ws:=by
 refine⟨?_,(aP _ _ _ _ h.ne.symm).trans h.hq,h.hl,h.hN,h.hN',h.hO,h.hy,hz⟩
 simp only [World.setCell,Array.getElem?_modify,if_true,h.hp,Option.map_some];simp
structure Fr (X:Nat->Prop)(w w':aw):Prop where
 os:w'.os=w.os
 tape:w'.tape=w.tape
 output:w'.output=w.output
 size:w.heap.size<=w'.heap.size
 block:∀k,k<w.heap.size->¬X k->w'.heap[k]?=w.heap[k]?
theorem Fr.refl (X:Nat->Prop)(w:aw):Fr X w w:=⟨rfl,rfl,rfl,aD _,fun _ _ _=>rfl⟩
theorem Fr.trans {X Y:Nat->Prop}{a b c:aw}(h:Fr X a b)(k:Fr Y b c)(hy:∀i,Y i->X i\/a.heap.size<=i):Fr X a c:=
 ⟨k.os.trans h.os,k.tape.trans h.tape,k.output.trans h.output,aS h.size k.size,fun i hi d=>(k.block i (aO hi h.size) (fun c=>(hy i c).elim d (fun c=>by omega))).trans (h.block i hi d)⟩
theorem Fr.mono {X Y:Nat->Prop}{w w':aw}(h:Fr X w w')(hy:∀i,X i->Y i):Fr Y w w':=⟨h.os,h.tape,h.output,h.size,fun i hi b=>h.block i hi (fun c=>b (hy i c))⟩
theorem Fr.of {X:Nat->Prop}{w w':aw}(h:Below w.heap.size w w'):Fr X w w':=⟨h.os,h.tape,h.output,h.size,fun k hk _=>h.block k hk⟩
theorem aL {a b:Prop}(h:a):a \/ b:=by intros;apply Or.inl<;>assumption
theorem Fr.alloc {X:Nat->Prop}{a w:aw}(h:Fr X a w)(o:Obj):Fr X a (w.alloc o):=h.trans (Fr.of (bZ.alloc bY _)) (fun _ c=>aL c)
theorem Fr.drew {X:Nat->Prop}{a w:aw}(h:Fr X a w):Fr X a w.drew:=⟨h.os,h.tape,h.output,h.size,h.block⟩
theorem Fr.set {X:Nat->Prop}{a w:aw}(h:Fr X a w)(c o:Nat)(v:Value)(hc:X c):Fr X a (w.setCell ⟨c,o,none⟩ v):=
 ⟨h.os,h.tape,h.output,by simpa[World.setCell] using h.size,fun k hk b=>(aP _ _ _ _ (fun e=>b (by rw[e];exact hc))).trans (h.block k hk b)⟩
theorem Fr.grown {X:Nat->Prop}{a w w':aw}{row:Option Nat}(h:Fr X a w)(g:w.grownBy w' row)(d:∀k,row=some k->X k\/a.heap.size<=k):Fr X a w':=
 ⟨g.os.trans h.os,g.tape.trans h.tape,g.output.trans h.output,aS h.size g.size,fun k hk b=>(g.block k (aO hk h.size) (fun e=>(d k e.symm).elim b (fun c=>by omega))).trans (h.block k hk b)⟩
theorem Fr.below {X:Nat->Prop}{w w':aw}{B:Nat}(h:Fr X w w')(hB:B<=w.heap.size)(b:∀k,X k->B<=k):Below B w w':=
 ⟨h.os,h.tape,h.output,h.size,fun k hk=>h.block k aa (fun c=>by have:=b k c;omega)⟩
theorem cy {w w':aw}{base n m:Nat}{e:TypeId}{v:Value}{l:List Value}(h:w.ownsRow base e m v n l)(hk:∀k,some k=v.ownBlock->w'.heap[k]?=w.heap[k]?):w'.ownsRow base e m v n l:=by
 refine⟨h.1,?_⟩
 rcases h.2 with b|⟨g,c,d,rfl,hb,f,rest⟩
 ·exact .inl b
 ·exact .inr ⟨g,c,d,rfl,hb,(hk g rfl).trans f,rest⟩
theorem cg {w:aw}{base n m:Nat}{e:TypeId}{v:Value}{l:List Value}(h:w.ownsRow base e m v n l):∀k,some k=v.ownBlock->base<=k/\k<w.heap.size:=fun k hk=>h.lt k hk.symm
theorem gN {X:Nat->Prop}{w w':aw}{base n m:Nat}{e:TypeId}{v:Value}{l:List Value}(h:w.ownsRow base e m v n l)(f:Fr X w w')(b:∀k,some k=v.ownBlock->¬X k):w'.ownsRow base e m v n l:=
 cy h (fun k hk=>f.block k (cg h k hk).2 (b k hk))
theorem ec {w:aw}{base base' n m:Nat}{e:TypeId}{v:Value}{l:List Value}(h:w.ownsRow base e m v n l)(hb:∀k,some k=v.ownBlock->base'<=k):w.ownsRow base' e m v n l:=by
 refine⟨h.1,?_⟩
 rcases h.2 with b|⟨g,c,d,rfl,_,rest⟩
 ·exact .inl b
 ·exact .inr ⟨g,c,d,rfl,hb g rfl,rest⟩
theorem d6 {w:aw}{base n m:Nat}{e:TypeId}{v:Value}{l:List Value}(h:w.ownsRow base e m v n l):∀k,some k=v.ownBlock->∃b,w.heap[k]?=some (.cells b e (0,0)):=by
 intro k hk;rcases h.2 with⟨rfl,_⟩|⟨g,d,b,rfl,_,c,_⟩
 ·simp[Value.ownBlock] at hk
 ·simp[Value.ownBlock] at hk;subst hk;exact⟨b,c⟩
theorem d4 {w:aw}{base n m:Nat}{e:TypeId}{v:Value}{l:List Value}(h:w.ownsRow base e m v n l)(d:0<n):∃b c,v=.slice (an b) n c:=by
 rcases h.2 with⟨_,h0⟩|⟨g,c,f,i,_⟩
 ·omega
 ·simp_all
theorem dU {w:aw}{base n m:Nat}{e:TypeId}{v:Value}{l:List Value}(h:w.ownsRow base e m v n l):∃c b,v=.slice c n b:=by
 rcases h.2 with⟨d,h0⟩|⟨g,b,f,d,_⟩
 ·simp_all
 ·simp_all
def iI (w:aw)(c:Option Addr)(l:List Int):Prop:=0<l.length->∃b o,c=some ⟨b,o,none⟩/\b<w.heap.size/\∀i,i<l.length->w.cell? (ao b (o+i))=some (ak (l.getD i 0))
def c8 (w:aw)(c:Option Addr)(l:List (Int×Int)):Prop:=
 0<l.length->∃b o,c=some ⟨b,o,none⟩/\b<w.heap.size/\∀i,i<l.length->w.cell? (ao b (o+i*2))=some (ak (l.getD i (0,0)).1)/\w.cell? (ao b (o+i*2+1))=some (ak (l.getD i (0,0)).2)
def ev (l:List (Int×Int)):List Value:=l.flatMap fun e=>[ak e.1,ak e.2]
theorem kO (a b:List (Int×Int)):ev (a++b)=ev a++ev b:=by simp[ev]
theorem jO:∀l:List (Int×Int),(ev l).length=l.length*2
 |[]=>rfl
 |e::r=>by
  have:=jO r;simp[ev] at this⊢
  omega
theorem oi:∀(l:List (Int×Int))(i:Nat),i<l.length->(ev l)[i*2]?=some (ak (l.getD i (0,0)).1)/\(ev l)[i*2+1]?=some (ak (l.getD i (0,0)).2)
 |[],i,h=>by simp at h
 |e::r,0,_=>by simp[ev]
 |e::r,i+1,h=>by
  have b:(ev (e::r))=ak e.1::ak e.2::ev r:=by simp[ev]
  rw[b,show(i+1)*2=i*2+1+1 by omega];simpa using(oi r i (by simpa using h))
theorem gV {w:aw}{base:Nat}{e:TypeId}{b:Option Addr}{f:Nat}{l:List Int}(h:w.ownsRow base e 1 (.slice b l.length f) l.length (l.map (Value.int .i64))):iI w b l:=by
 intro hp;rcases h.2 with⟨_,h0⟩|⟨g,m,j,k,hb,c,n,o,p,q⟩
 ·omega
 ·obtain⟨rfl,rfl⟩:=k;refine⟨g,0,rfl,lt_of_some c,fun i hi=>?_⟩
  have d:(j.toList.take (l.length*1))[i]?=some (ak (l.getD i 0)):=by simp_all
  rw[List.getElem?_take_of_lt aa] at d;simp[World.cell?,c];simpa using d
theorem gn {w:aw}{base:Nat}{e:TypeId}{c:Option Addr}{f:Nat}{l:List _}(h:w.ownsRow base e 2 (.slice c l.length f) l.length (ev l)):c8 w c l:=by
 intro hp;rcases h.2 with⟨_,h0⟩|⟨g,m,n,j,hb,b,o,p,q,k⟩
 ·omega
 ·obtain⟨rfl,rfl⟩:=j;refine⟨g,0,rfl,lt_of_some b,fun i hi=>?_⟩
  obtain⟨k1,d⟩:=oi l i hi;rw[<-k,List.getElem?_take_of_lt aa] at k1 d;constructor
  ·simp[World.cell?,b];simpa using k1
  ·simp[World.cell?,b];simpa using d
theorem aW {w w':aw}{a:Addr}(h:w'.heap[a.block]? = w.heap[a.block]?):w'.cell? a = w.cell? a:=by intros;apply World.cell?_of_block<;>assumption
theorem iI.keep {w w':aw}{c:Option Addr}{l:List Int}(h:iI w c l)(hs:w.heap.size<=w'.heap.size)(hk:0<l.length->∀a,c=some a->w'.heap[a.block]?=w.heap[a.block]?):iI w' c l:=by intro hp;obtain⟨b,o,rfl,hb,hc⟩:=h hp;exact⟨b,o,rfl,aa,fun i hi=>(aW (a:=⟨b,o+i,none⟩) (hk hp ⟨b,o,none⟩ rfl)).trans (hc i hi)⟩
theorem c8.keep {w w':aw}{c:Option Addr}{l:List _}(h:c8 w c l)(hs:w.heap.size<=w'.heap.size)(hk:0<l.length->∀a,c=some a->w'.heap[a.block]?=w.heap[a.block]?):c8 w' c l:=by intro hp;obtain⟨b,o,rfl,hb,hc⟩:=h hp;exact⟨b,o,rfl,aa,fun i hi=>⟨(aW (a:=⟨b,o+i*2,none⟩) (hk hp ⟨b,o,none⟩ rfl)).trans (hc i hi).1,(aW (a:=⟨b,o+i*2+1,none⟩) (hk hp ⟨b,o,none⟩ rfl)).trans (hc i hi).2⟩⟩
open Go.RowKit W Kp ch
structure ce (F:Nat->Prop)(w:aw)(F':Nat->Prop)(w':aw):Prop where
 fr:Fr F w w'
 sub:∀b,F' b->F b\/w.heap.size<=b
theorem ce.refl (F:Nat->Prop)(w:aw):ce F w F w:=⟨Fr.refl _ _,fun _ h=>aL h⟩
theorem ce.trans {F d e:Nat->Prop}{w w' f:aw}(h:ce F w d w')(k:ce d w' e f):ce F w e f:=
 ⟨h.fr.trans k.fr h.sub,fun b hb=>(k.sub b hb).elim (h.sub b) (fun c=>aK (aS h.fr.size c))⟩
theorem ce.of {F:Nat->Prop}{w w':aw}(h:Below w.heap.size w w'):ce F w F w':=⟨Fr.of h,fun _ h=>aL h⟩
theorem ce.below {F b:Nat->Prop}{w w' c:aw}(h:ce F w b w')(hb:Below w'.heap.size w' c):ce F w b c:=h.trans (ce.of hb)
theorem bu {α:Type _}{i:Nat}{l:List α}:(List.take i l).length = Min.min i l.length:=List.length_take ..
theorem vo {w:aw}{base g n b:Nat}{e:TypeId}{xs:List Value}(h:w.ownsRow base e 1 (.slice (an g) n b) n xs)(m:Nat)(hm:m<=n):w.ownsRow base e 1 (.slice (an g) m b) m (xs.take m):=by
 obtain⟨o,d⟩:=h;rcases d with⟨c,_⟩|⟨p,q,f,c,hb,i,s,j,k,l⟩
 ·simp at c
 ·obtain⟨rfl,rfl⟩:=c;refine⟨by rw[bu];omega,aK ⟨g,b,f,rfl,hb,i,aa,j,k,?_⟩⟩
  rw[<-l,List.take_take]
  congr 1
  omega
theorem vp {w:aw}{base g n b:Nat}{e:TypeId}{xs:List Value}(h:w.ownsRow base e 1 (.slice (an g) n b) n xs):n<=b/\b<=maxLen:=by
 rcases h.2 with⟨c,_⟩|⟨i,j,k,c,hb,l,d,f,m,o⟩
 ·simp at c
 ·obtain⟨rfl,rfl⟩:=c;exact⟨d,f⟩
open Go.RowKit W Kp
theorem vu:(prog.info? 2).map (fun i=>(i.zero,i.size,i.bytes))=some (some (ak 0),1,8):=ah
theorem m_:(prog.info? 103).map (fun i=>(i.zero,i.size,i.bytes))=some (some (.agg #[ak 0,ak 0]),2,16):=ah
abbrev en (e:b9):Value:=.agg #[ak e.1,ak e.2]
structure dS (gT:Type) where
 J:(Nat->Prop)->gT->aw->Prop
 lt:∀{F t w},J F t w->∀k,F k->k<w.heap.size
 keep:∀{F t w w'},J F t w->w.heap.size<=w'.heap.size->(∀k,F k->w'.heap[k]?=w.heap[k]?)->J F t w'
theorem dS.fr {b:Type}(o:dS b){F X:Nat->Prop}{t:b}{w w':aw}(h:o.J F t w)(f:Fr X w w')(c:∀k,F k->¬X k):o.J F t w':=o.keep h f.size (fun k hk=>f.block k (o.lt h k hk) (c k hk))
theorem dS.below {b:Type}(o:dS b){F:Nat->Prop}{t:b}{w w':aw}(h:o.J F t w)(f:Below w.heap.size w w'):o.J F t w':=o.keep h f.size (fun k hk=>f.block k (o.lt h k hk))
def d7 (f:Nat):Prop:=∀(args:Array Value)(w:aw),(callFunc f args).run prog w=.ok (.enter f args) w
theorem gW {f:Nat}{b:Func}{c:Code}(d:Tryz.prog.funcs[f]?=some b)(e:(b.name== "runtime.NumGoroutine")=false)(hb:b.body=some c):d7 f:=by
 intro args w;have g:b.name≠ "runtime.NumGoroutine" :=by simpa using e
 simp[callFunc,d,g,hb]
theorem pO {b:Type}(o:dS b){F:Nat->Prop}{t:b}{w c:aw}{f:Obj}{d:Option Nat}(h:o.J F t w)(hg:(w.alloc f).grownBy c d)(g:∀k,some k=d->¬F k):o.J F t c:=
 o.keep h (by have:=hg.size;simp at this;omega) (fun k hk=>(hg.block k (by have:=o.lt h k hk;simp;omega) (fun e=>g k e hk)).trans (a4 _ _ _ (o.lt h k hk)))
theorem vv {w b:aw}{base n m:Nat}{e:TypeId}{v:Value}{l:List Value}{d:Obj}{c:Option Nat}(h:w.ownsRow base e m v n l)(hg:(w.alloc d).grownBy b c)(f:∀k,some k=v.ownBlock->some k≠c):b.ownsRow base e m v n l:=
 cy h (fun k hk=>(hg.block k (by have:=(cg h k hk).2;simp;omega) (f k hk)).trans (a4 _ _ _ (cg h k hk).2))
theorem gb {w:aw}{base n m:Nat}{e:TypeId}{v:Value}{l:List Value}(h:w.ownsRow base e m v n l)(b:Obj):(w.alloc b).ownsRow base e m v n l:=
 cy h (fun k hk=>a4 _ _ _ (cg h k hk).2)
def Looks {d:Type}(o:dS d)(D:b9->Prop)(G:d->Prop)(f:Nat)(b c:Array Value)(lk:d->b9->Bool×d):Prop:=
 ∀F t w (e:b9),D e->G t->o.J F t w->Calls prog f (b.push (en e)++c) w fun r w'=>∃g,r=.returned (.bool (lk t e).1)/\o.J g (lk t e).2 w'/\Fr F w w'/\∀k,g k->F k\/w.heap.size<=k
def eu {b:Type}(lk:b->b9->Bool×b)(s:List b9×List b9×b)(e:b9):List b9×List b9×b:=
 if(lk s.2.2 e).1 then(s.1++[e],s.2.1,(lk s.2.2 e).2) else(s.1,s.2.1++[e],(lk s.2.2 e).2)
def pts {b:Type}(lk:b->b9->Bool×b)(t:b)(l:List b9):List b9×List b9×b:=l.foldl (eu lk) ([],[],t)
theorem BA {b:Type}(lk:b->b9->Bool×b)(t:b)(l:List b9)(e:b9):pts lk t (l++[e])=eu lk (pts lk t l) e:=by simp[pts,List.foldl_append]
theorem a9 {α:Type _}{β:Type _}{a:α}{l:List α}{f:β -> α -> β}{b:β}:List.foldl f b (a :: l) = List.foldl f (f b a) l:=List.foldl_cons ..
theorem oj {b:Type}(lk:b->b9->Bool×b)(t:b)(l:List b9):(pts lk t l).1.length+(pts lk t l).2.1.length=l.length:=by
 have key:∀(l:List b9)(s:List b9×List b9×b),(l.foldl (eu lk) s).1.length+(l.foldl (eu lk) s).2.1.length=s.1.length+s.2.1.length+l.length:=by
  intro l
  induction l with
  |nil=>simp
  |cons e r c=>
   intro s;rw[a9,c];unfold eu;split<;>simp<;>omega
 simpa[pts] using key l ([],[],t)
theorem aX (n:Nat):0 <= n:=Nat.zero_le ..
theorem a6 (w:aw)(base:Nat)(e:Go.TypeId)(size:Nat):w.ownsRow base e size (Value.slice Option.none 0 0) 0 []:=World.ownsRow_nil ..
theorem aG {α:Type _}{l:List α}{i:Nat}{a:α}:l.getD i a = l[i]?.getD a:=List.getD_eq_getElem?_getD ..
theorem aI {α:Type _}{l:List α}{i:Nat}(h:i < l.length):l[i]? = some l[i]:=List.getElem?_eq_getElem ..
theorem a_ {α:Type _}{l:List α}{n:Nat}(h:n < l.length):l[n] ∈ l:=List.getElem_mem ..
theorem aN (w:aw)(o:Obj):(w.alloc o).heap[w.heap.size]? = some o:=heap_alloc_new ..
theorem ba {α:Type _}{l:List α}:List.take l.length l = l:=List.take_length ..
theorem aA{w:World}{b o:Nat}{c:Array Value}{T:TypeId}{g:Nat×Nat}{v:Value}(h:w.heap[b]?=some (.cells c T g))(e:c[o]?=some v:=by rfl):w.cell? ⟨b,o,none⟩=some v:=by simp[World.cell?,h];exact e
theorem vx {ag:Type}(o:dS ag)(D:b9->Prop)(G:ag->Prop)(f:Nat)(b c:Array Value)(lk:ag->b9->Bool×ag)(b2:d7 f)(hl:Looks o D G f b c lk)(l:List b9)(bo:Option Addr)(cj:Nat)(F:Nat->Prop)(t:ag)(w:aw)
 (hD:∀e∈l,D e)(b3:∀j,j<l.length->G (pts lk t (l.take j)).2.2)(hm:l.length<=100000)(ck:o.J F t w)(hp:∀s bp w',o.J s bp w'->Fr F w w'->c8 w' bo l):
 Calls prog 150 #[.slice bo l.length cj,.func (.func f) b c] w fun r w'=>∃a1 c1 a2 c2 s,r=.returned (.tuple #[.slice a1 (pts lk t l).1.length c1,.slice a2 (pts lk t l).2.1.length c2])/\w'.ownsRow w.heap.size 103 2 (.slice a1 (pts lk t l).1.length c1) (pts lk t l).1.length (ev (pts lk t l).1)/\
  w'.ownsRow w.heap.size 103 2 (.slice a2 (pts lk t l).2.1.length c2) (pts lk t l).2.1.length (ev (pts lk t l).2.1)/\o.J s (pts lk t l).2.2 w'/\Fr F w w'/\(∀k,s k->F k\/w.heap.size<=k)/\(∀k,some k=(Value.slice a1 (pts lk t l).1.length c1).ownBlock->¬s k)/\(∀k,some k=(Value.slice a2 (pts lk t l).2.1.length c2).ownBlock->¬s k):=by
 obtain⟨b5,hi,b6,b7,b8⟩:=info_parts m_;have cl:ay (Looks o D G f b c lk):=hl;have cm:ay (∀j,j<l.length->G (pts lk t (l.take j)).2.2):=b3;clear b3;clear hl;have cn:ay (∀s bp w',o.J s bp w'->Fr F w w'->c8 w' bo l):=hp;clear hp;have cA:∀(args:Array Value)(w:aw),(callFunc f args).run prog w=.ok (.enter f args) w:=b2;clear b2;go_enter func150,ntmps150;go_wp2_with fail
 go_loopw [6,7,12] (fun co cp iv wr=>∃(j:Nat)(Y N:List b9)(v n:Option Addr)(x p:Nat)(q:Nat->Prop)(i:ag),j<=l.length/\iv=ak j/\ay (pts lk t (l.take j)=(Y,N,i))/\co=.slice v Y.length x/\cp=.slice n N.length p/\
  wr.ownsRow w.heap.size 103 2 (.slice v Y.length x) Y.length (ev Y)/\wr.ownsRow w.heap.size 103 2 (.slice n N.length p) N.length (ev N)/\o.J q i wr/\Fr F w wr/\ay (∀k,q k->F k\/w.heap.size<=k)/\
  ay (∀k,some k=(Value.slice v Y.length x).ownBlock->¬q k/\some k≠(Value.slice n N.length p).ownBlock)/\ay (∀k,some k=(Value.slice n N.length p).ownBlock->¬q k)) (fun _ _ iv _=>l.length-(intOf iv).toNat)
 case atStart=>exact⟨0,[],[],none,none,0,0,F,t,aX _,rfl,rfl,rfl,rfl,a6 _ _ _ _,a6 _ _ _ _,ck,Fr.refl _ _,fun k h=>aL h,fun k e=>by simp[Value.ownBlock] at e,fun k e=>by simp[Value.ownBlock] at e⟩
 case round=>
  obtain⟨j,Y,N,v,n,x,p,q,i,d,rfl,al,rfl,rfl,bb,hN,ap,ar,bd,ax,be⟩:=hrel;by_cases aB:j<l.length
  ·obtain⟨cB,cC,cq,cD,hc⟩:=cn.o q i wr ap ar aa;obtain⟨cr,cs⟩:=hc j aB;clear hc;have aF:D (l.getD j (0,0)):=hD _ (by rw[aG,aI aB];exact a_ aB)
   have ct:G i:=by have:=cm.o j aB;rw[al.o] at this;exact this
   have S:=BA lk t (l.take j) (l.getD j (0,0))
   rw[<-fE l j aB (0,0),al.o] at S;have S:ay (pts lk t (l.take (j+1))=eu lk (Y,N,i) ((l.getD j (0,0)).1,(l.getD j (0,0)).2)):=S;have aF:D ((l.getD j (0,0)).1,(l.getD j (0,0)).2):=aF;generalize (l.getD j (0,0)).1=g at cr S aF;generalize (l.getD j (0,0)).2=z at cs S aF;subst cq;have cE:Y.length+N.length<=100000:=by
    have ca:=oj lk t (l.take j)
    rw[al.o] at ca;simp at ca;omega
   have cF:=ar.size;have cb:=o.lt ap;go_wp2_with fail;refine(cl.o q i _ (g,z) aF ct (o.below ap (bZ.alloc bY _))).mono ?_;rintro e aR ⟨B,rfl,bg,ai,bi⟩
   have cu:=ai.size;simp at cu;have cc:¬q wr.heap.size:=fun h=>by have:=cb _ h;omega
   have cd:=(ai.block _ ac cc).trans (aN _ _)
   have cG:aR.cell? (ao wr.heap.size 0)=some (ak g):=aA cd
   have cH:aR.cell? (ao wr.heap.size 1)=some (ak z):=aA cd
   have bl:=gN (gb bb (.cells #[.int .i64 g,.int .i64 z] 103)) ai (fun k e=>(ax.o k e).1)
   have bn:=gN (gb hN (.cells #[.int .i64 g,.int .i64 z] 103)) ai (fun k e=>be.o k e)
   have ce:Fr F w aR:=(ar.alloc (.cells #[.int .i64 g,.int .i64 z] 103)).trans ai bd.o;have cf:ay (∀k,B k->F k\/w.heap.size<=k):=fun k hk=>(bi k hk).elim (fun h=>bd.o k h) (fun h=>aK (by simp at h;omega))
   have W:ay (∀k,some k=(Value.slice v Y.length x).ownBlock->¬B k/\some k≠(Value.slice n N.length p).ownBlock):=fun k e=>⟨fun h=>(bi k h).elim (ax.o k e).1 (fun h=>by have:=(cg bb k e).2;simp at h;omega),(ax.o k e).2⟩
   have br:ay (∀k,some k=(Value.slice n N.length p).ownBlock->¬B k):=fun k e h=>(bi k h).elim (be.o k e) (fun h=>by have:=(cg hN k e).2;simp at h;omega)
   have ch:=o.lt bg;clear bb hN ar ai bd ax be ap bi cb cc;have hd:ay (pts lk t (l.take (j+1))=if(lk i (g,z)).1 then(Y++[(g,z)],N,(lk i (g,z)).2) else(Y,N++[(g,z)],(lk i (g,z)).2)):=S.o;clear S;generalize (lk i (g,z)).2=ci at bg hd;cases hb:(lk i (g,z)).1
   ·rw[hb] at hd;have hd:=hide hd;go_wp2_with (at_builtin;refine wpList_append_own_at _ rfl _ _ 151 rfl w.heap.size 103 b5 (.agg #[ak 0,ak 0]) 2 16 underlying151 hi b6 b7 b8 rfl ae (.slice n N.length p) N.length (ev N) rfl (gb bn _) ⟨aR.heap.size,0,none⟩ 1 1 [ak g,ak z] rfl rfl ?_ ?_ ?_ ?_ ?_ ?_;(intro j u d;match j,d with|0,d=>(simp at d;subst d;simp[Addr.add])|1,d=>(simp at d;subst d;simp[Addr.add]));(intro u m;simp at m;rcases m with m|m<;>(subst m;rfl));(unfold maxLen;omega);omega;(simp;omega);intro cv bs aT ab _ bt;obtain⟨b4,aV,bx⟩:=d4 aT (Nat.succ_pos _);subst bx)
    have cw:bs.ownsRow w.heap.size 103 2 (.slice (an b4) (N++[(g,z)]).length aV) (N++[(g,z)]).length (ev (N++[(g,z)])):=by rw[kO];simpa[ev] using aT
    have cx:=pO o bg ab (fun k e=>br.o k e)
    have b0:=vv bl ab (fun k e=>(W.o k e).2)
    have cy:=(ce.alloc (.cells #[.int .i64 g,.int .i64 z] 103)).grown ab (fun k e=>aK (cg bn k e.symm).1)
    have a0:=bt.imp id (fun e=>by simpa[Value.ownBlock] using e)
    have b1:ay (∀k,some k=(Value.slice v Y.length x).ownBlock->¬B k/\some k≠some b4):=fun k e=>⟨(W.o k e).1,fun ad=>a0.elim (fun h=>(W.o k e).2 (ad.trans h)) (fun h=>by have:=(cg bl k e).2;simp at ad;omega)⟩
    have cz:ay (∀k,some k=some b4->¬B k):=fun k e h=>a0.elim (fun a3=>br.o k (e.trans a3) h) (fun a3=>by have:=ch k h;simp at e;omega)
    go_wp2_with fail;go_roundw
    case rel=>exact⟨j+1,Y,N++[(g,z)],v,an b4,x,aV,B,ci,aa,aj,hd,rfl,ac,b0,cw,cx,cy,cf,b1,cz⟩
    case measure=>simp[intOf];omega
   ·rw[hb] at hd;go_wp2_with (at_builtin;refine wpList_append_own_at _ rfl _ _ 151 rfl w.heap.size 103 b5 (.agg #[ak 0,ak 0]) 2 16 underlying151 hi b6 b7 b8 rfl ae (.slice v Y.length x) Y.length (ev Y) rfl (gb bl _) ⟨aR.heap.size,0,none⟩ 1 1 [ak g,ak z] rfl rfl ?_ ?_ ?_ ?_ ?_ ?_;(intro j u d;match j,d with|0,d=>(simp at d;subst d;simp[Addr.add])|1,d=>(simp at d;subst d;simp[Addr.add]));(intro u m;simp at m;rcases m with m|m<;>(subst m;rfl));(unfold maxLen;omega);omega;(simp;omega);intro cv bs aT ab _ bt;obtain⟨b4,aV,bx⟩:=d4 aT (Nat.succ_pos _);subst bx)
    have b0:bs.ownsRow w.heap.size 103 2 (.slice (an b4) (Y++[(g,z)]).length aV) (Y++[(g,z)]).length (ev (Y++[(g,z)])):=by rw[kO];simpa[ev] using aT
    have a0:=bt.imp id (fun e=>by simpa[Value.ownBlock] using e)
    have b1:ay (∀k,some k=some b4->¬B k/\some k≠(Value.slice n N.length p).ownBlock):=fun k e=>⟨fun h=>a0.elim (fun a3=>(W.o k (e.trans a3)).1 h) (fun a3=>by have:=ch k h;simp at e;omega),fun ad=>a0.elim (fun h=>(W.o k (e.trans h)).2 ad) (fun h=>by have:=(cg bn k ad).2;simp at e;omega)⟩
    go_wp2_with fail;go_roundw;exact⟨j+1,Y++[(g,z)],N,an b4,n,aV,p,B,ci,aa,aj,hd,ac,rfl,b0,(vv bn ab (fun k e ad=>(W.o k ad).2 e)),(pO o bg ab (fun k e=>(W.o k e).1)),((ce.alloc (.cells #[.int .i64 g,.int .i64 z] 103)).grown ab (fun k e=>aK (cg bl k e.symm).1)),cf,b1,br⟩
    simp[intOf];omega
  ·obtain rfl:j=l.length:=aa;rw[ba] at al;go_wp2_with fail;go_ret2;rw[al.o];exact⟨_,_,_,_,q,rfl,bb,hN,ap,ar,bd.o,fun k e=>(ax.o k e).1,be.o⟩
theorem c8.apart {f:Type}{o:dS f}{F:Nat->Prop}{w:aw}{b:Option Addr}{l:List b9}(h:c8 w b l)(g:0<l.length->∀z,b=some z->¬F z.block):∀i j w',o.J i j w'->Fr F w w'->c8 w' b l:=fun _ _ _ _ c=>
 h.keep c.size (fun hp z e=>by obtain⟨m,n,d,k,_⟩:=h hp;rw[e] at d;cases d;exact c.block _ k (g hp _ e))
def vy (w0:aw):dS Unit where
 J F _ w:=(∀k,F k↔k<w0.heap.size)/\w0.heap.size<=w.heap.size/\∀k,k<w0.heap.size->w.heap[k]?=w0.heap[k]?
 lt:=by rintro F t w ⟨b,d,c⟩ k hk;have:=(b k).1 hk;omega
 keep:=by rintro F t w w' ⟨b,d,c⟩ hs hk;exact⟨b,aa,fun k h=>(hk k ((b k).2 h)).trans (c k h)⟩
theorem BB {b:Type}(p:b->b9->Bool)(s:b)(l:List b9):pts (fun s e=>(p s e,s)) s l=(l.filter (p s),l.filter (fun e=>!p s e),s):=by
 have key:∀(l Y N:List b9),l.foldl (eu (fun s e=>(p s e,s))) (Y,N,s)=(Y++l.filter (p s),N++l.filter (fun e=>!p s e),s):=by
  intro l
  induction l with
  |nil=>simp
  |cons e r c=>
   intro Y N;cases h:p s e
   ·simp[eu,h,c]
   ·simp[eu,h,c]
 simpa[pts] using key l [] []
theorem rO (D:b9->Prop)(f:Nat)(b c:Array Value)(p:b9->Bool)(n:d7 f)(w:aw)
 (hl:∀(w':aw)(e:b9),D e->w.heap.size<=w'.heap.size->(∀k,k<w.heap.size->w'.heap[k]?=w.heap[k]?)->Calls prog f (b.push (en e)++c) w' fun r o=>r=.returned (.bool (p e))/\Below w'.heap.size w' o)
 (l:List b9)(g:Option Addr)(j:Nat)(hD:∀e∈l,D e)(hm:l.length<=100000)(hp:c8 w g l):
 Calls prog 150 #[.slice g l.length j,.func (.func f) b c] w fun r w'=>∃a1 c1 a2 c2,r=.returned (.tuple #[.slice a1 (l.filter p).length c1,.slice a2 (l.filter (fun e=>!p e)).length c2])/\w'.ownsRow w.heap.size 103 2 (.slice a1 (l.filter p).length c1) (l.filter p).length (ev (l.filter p))/\
  w'.ownsRow w.heap.size 103 2 (.slice a2 (l.filter (fun e=>!p e)).length c2) (l.filter (fun e=>!p e)).length (ev (l.filter (fun e=>!p e)))/\Below w.heap.size w w':=by
 have P:=vx (vy w) D (fun _=>True) f b c (fun _ e=>(p e,())) n (by
  rintro F t w1 e hD _ ⟨i,j2,cA⟩
  refine(hl w1 e hD j2 cA).mono ?_;rintro r v ⟨rfl,hb⟩
  exact⟨F,rfl,(vy w).below ⟨i,j2,cA⟩ hb,Fr.of hb,fun k h=>aL h⟩) l g j (fun k=>k<w.heap.size) () w hD (fun _ _=>trivial) hm ⟨fun k=>Iff.rfl,aD _,fun _ _=>rfl⟩
  (by
    rintro q x w' ⟨i,j2,cA⟩ _;refine hp.keep j2 (fun hq z e=>?_)
    obtain⟨B,N,m,s,_⟩:=hp hq;rw[e] at m;cases m;exact cA _ s)
 rw[BB (fun _ e=>p e) () l] at P;refine P.mono ?_;rintro r w' ⟨a1,c1,a2,c2,q,rfl,u,hN,⟨i,j2,cA⟩,d,_,_,_⟩
 exact⟨a1,c1,a2,c2,rfl,u,hN,d.os,d.tape,d.output,d.size,cA⟩
theorem BC (w:aw)(b:Option Addr)(n c:Nat)(d:n<=c):
 Calls prog 179 #[.slice b n c] w fun e w'=>e=.returned (.slice b n n)/\w'=w:=by
 go_wp2;go_ret;exact⟨rfl,rfl⟩
structure iz (w:aw)(ad:Option Addr)(l:List b9)(cap:Nat):Prop where
 lp:c8 w ad l
 le:l.length<=cap
 nil:ad=none->l.length=0/\cap=0
theorem c8.cells {w:aw}{i:Option Addr}{q:List b9}(h:c8 w i q):∀b,i=some b->∀j u,(ev q)[j]?=some u->w.cell? (b.add j)=some u:=by
 intro b e j u c;have hl:=jO q;have m:=(List.getElem?_eq_some_iff.1 c).1;obtain⟨g,o,k,hb,hc⟩:=h aa;rw[e] at k;cases k;obtain⟨c1,c2⟩:=hc (j/2) aa;obtain⟨k1,d⟩:=oi q (j/2) aa;rcases Nat.mod_two_eq_zero_or_one j with hz|hz
 ·have f:j/2*2=j:=aa;rw[f] at k1 c1;rw[c] at k1;cases k1;rw[Addr.add_lit];exact c1
 ·have f:j/2*2+1=j:=aa;have l:o+j/2*2+1=o+j:=aa;rw[f] at d;rw[l] at c2;rw[c] at d;cases d;rw[Addr.add_lit];exact c2
theorem c8.below {w w':aw}{c:Option Addr}{l:List _}(h:c8 w c l)(hb:Below w.heap.size w w'):c8 w' c l:=
 h.keep hb.size (fun hp z e=>by obtain⟨b,o,d,f,_⟩:=h hp;rw[e] at d;cases d;exact hb.block _ f)
theorem aE (B:Nat)(w:aw):Below B w w:=Below.refl ..
theorem vz (w:aw)(c:Option Addr)(q:List b9)(i:Nat)(g z:Int)(h:iz w c q i)(hm:q.length<=100000):
 Calls prog 104 #[.slice c q.length i,.agg #[ak g,ak z]] w fun e w'=>∃b1 gq,e=.returned (.slice (an b1) (q.length+1) gq)/\w'.ownsRow w.heap.size 103 2 (.slice (an b1) (q.length+1) gq) (q.length+1) (ev (q++[(g,z)]))/\Below w.heap.size w w':=by
 obtain⟨m,hi,n,o,p⟩:=info_parts m_;have s:ay (c8 w c q):=h.lp;have t:ay (c=none->q.length=0/\q.length=0):=fun e=>⟨(h.nil e).1,(h.nil e).1⟩
 have x:=h.le;clear h;go_enter func104,ntmps104;go_wp2_with fail
 go_region_held3 (fun w'=>w'.cell? (ao w.heap.size 0)=some (ak g)/\w'.cell? (ao w.heap.size 1)=some (ak z)) (go_keep)
  (first|(go_at_call 179;refine(BC _ c q.length i x).mono ?_;rintro e w3 ⟨rfl,rfl⟩)|(refine step_append_grows rfl (.tmp 6) (.tmp 8) 151 rfl 103 m (.agg #[ak 0,ak 0]) 2 16 underlying151 hi n o p rfl ae c q.length q.length (ev q) (by simp[Act.eval]) t.o (jO q) (s.o.below (by first|exact(((aE _ w).alloc bY _).alloc ac _).drew|exact((aE _ w).alloc bY _).drew.alloc ac _)).cells ⟨w.heap.size+1,0,none⟩ 1 1 [ak g,ak z] (by simp[Act.eval]) rfl ?_ ?_ aa (by unfold maxLen;omega) aa ?_;(intro j u b;match j,b with|0,b=>(simp at b;subst b;simp[Addr.add])|1,b=>(simp at b;subst b;simp[Addr.add]));(intro u d;simp at d;rcases d with d|d<;>(subst d;rfl));intro N S l f;obtain⟨b4,B,F⟩:=d4 l (Nat.succ_pos _);subst F;have y1:=f.cell (a:=⟨w.heap.size,0,none⟩) (v:=ak g) ac ac;have W:=f.cell (a:=⟨w.heap.size,1,none⟩) (v:=ak z) ac ac))
 all_goals
  go_wp2_with fail;go_ret;exact⟨b4,B,rfl,by rw[kO];exact ec l (fun k e=>by have:=(cg l k e).1;simp at this;omega),by first|exact((((aE _ w).alloc bY _).alloc ac _).drew).grown f (by simp;omega) (fun k e=>by cases e)|exact(((aE _ w).alloc bY _).drew.alloc ac _).grown f (by simp;omega) (fun k e=>by cases e)⟩
theorem i0 (l:List b9):∀u∈ev l,u.oneCell'=true:=by intro u b;simp only [ev,List.mem_flatMap] at b;obtain⟨e,_,b⟩:=b;simp at b;rcases b with rfl|rfl<;>rfl
theorem BD (w:aw):(w.alloc (.cells #[] 103)).ownsRow w.heap.size 103 2 (.slice (an w.heap.size) 0 0) 0 []:=
 ⟨rfl,aK ⟨w.heap.size,0,#[],rfl,aD _,aN _ _,aD _,aX _,rfl,rfl⟩⟩
theorem rP (w:aw)(b:Option Addr)(l:List b9)(d:Nat)(h:iz w b l d)(hm:l.length<=100000):
 Calls prog 212 #[.slice b l.length d] w fun e w'=>∃a1 c1,e=.returned (.slice a1 l.length c1)/\w'.ownsRow w.heap.size 103 2 (.slice a1 l.length c1) l.length (ev l)/\Below w.heap.size w w':=by
 obtain⟨i,hi,j,m,o⟩:=info_parts m_;have q:∀(w:aw)(a:Option Addr)(n c:Nat),_=_:=fun w a n c=>Lib.run_eql_slice_nil w _ _ a n c 0 0 underlying151;have g:=hide h.lp;cases b with
 |none=>
  have hl:=List.eq_nil_of_length_eq_zero (h.nil rfl).1;subst hl;clear h g;go_enter func212,ntmps212;go_wp2;go_ret;exact⟨none,0,rfl,a6 _ _ _ _,aE _ _⟩
 |some a=>
  clear h;go_enter func212,ntmps212;go_wp2_with (at_builtin;refine wpList_append_own _ rfl _ _ 151 rfl w.heap.size 103 i _ 2 16 underlying151 hi j m o rfl ae _ 0 [] rfl (BD w) a l.length d (ev l) rfl (jO l) ((g.o.below (bZ.alloc bY _)).cells a rfl) (i0 l) ?_ ?_ ?_ ?_;(unfold maxLen;omega);omega;(simp);intro v w1 f p _)
  rw[List.nil_append,Nat.zero_add] at f;obtain⟨a1,c1,rfl⟩:=dU f;go_wp2;go_ret;exact⟨a1,c1,rfl,f,(bZ.alloc bY _).grown p ac (fun k e=>by cases e;exact aD _)⟩
abbrev du:=Int×Option Addr×Nat×List (Int×Int)
def nv (m:List du):List Value:=m.flatMap fun x=>[ak x.1,.slice x.2.1 x.2.2.2.length x.2.2.1]
def ie (m:List du):List (Int×List (Int×Int)):=m.map fun x=>(x.1,x.2.2.2)
theorem vA (a b:List du):nv (a++b)=nv a++nv b:=by simp[nv]
theorem na:∀(l:List du)(i:Nat)(x:du),l[i]?=some x->(nv l)[i*2]?=some (ak x.1)/\(nv l)[i*2+1]?=some (.slice x.2.1 x.2.2.2.length x.2.2.1)
 |[],i,x,h=>by simp at h
 |e::r,0,x,h=>by simp at h;subst h;simp[nv]
 |e::r,i+1,x,h=>by
  have b:(nv (e::r))=ak e.1::.slice e.2.1 e.2.2.2.length e.2.2.1::nv r:=by simp[nv]
  rw[b,show(i+1)*2=i*2+1+1 by omega];simpa using(na r i x (by simpa using h))
theorem rQ:∀(l:List du)(i:Nat)(x:du)(b:Option Addr)(c:Nat)(d:List (Int×Int)),l[i]?=some x->nv (l.set i (x.1,b,c,d))=(nv l).set (i*2+1) (.slice b d.length c)
 |[],_,_,_,_,_,_=>rfl
 |e::l,0,x,b,c,d,h=>by simp at h;subst h;simp[nv]
 |e::l,i+1,x,b,c,d,h=>by
  have f:(nv (e::l))=ak e.1::.slice e.2.1 e.2.2.2.length e.2.2.1::nv l:=by simp[nv]
  have g:(nv (e::l.set i (x.1,b,c,d)))=ak e.1::.slice e.2.1 e.2.2.2.length e.2.2.1::nv (l.set i (x.1,b,c,d)):=by simp[nv]
  rw[List.set_cons_succ,g,f,(rQ l i x b c d (by simpa using h)),show(i+1)*2+1=i*2+1+1+1 by omega];simp
theorem jp {w:aw}{base size n g b:Nat}{e:TypeId}{xs:List Value}(h:w.ownsRow base e size (.slice (an g) n b) n xs)(i:Nat)(u:Value):(w.setCell ⟨g,i,none⟩ u).ownsRow base e size (.slice (an g) n b) n (xs.set i u):=by
 refine⟨by rw[bf];exact h.1,?_⟩
 rcases h.2 with⟨c,_⟩|⟨l,m,d,c,hb,hg,f,j,o,k⟩
 ·simp at c
 ·obtain⟨rfl,rfl⟩:=c;refine aK ⟨g,b,d.setIfInBounds i u,rfl,hb,?_,f,j,by simp_all,?_⟩
  ·simp only [World.setCell,Array.getElem?_modify,if_true,hg,Option.map_some];rfl
  ·rw[Array.toList_setIfInBounds,List.take_set,k]
def ge (w:aw)(c:Option Addr)(l:List (Int×Int)):Prop:=c8 w c l/\(0<l.length->∃b o d,c=some ⟨b,o,none⟩/\w.heap[b]?=some (.cells d 97 (0,0)))
section
variable {B:Nat}{w w' w'':aw}
theorem ge.nil {b:Option Addr}:ge w b []:=⟨fun h=>by simp at h,fun h=>by simp at h⟩
theorem ge.of {base c:Nat}{b:Option Addr}{l:List _}(h:w.ownsRow base 97 2 (.slice b l.length c) l.length (ev l)):ge w b l:=by
 refine⟨gn h,fun hp=>?_⟩
 exact vf
end
def fF (m:List du)(k:Nat):Prop:=∃x∈m,0<x.2.2.2.length/\∃o,x.2.1=some ⟨k,o,none⟩
theorem fe {w:aw}{base size n g d:Nat}{e:TypeId}{xs:List Value}(h:w.ownsRow base e size (.slice (an g) n d) n xs){i:Nat}{u:Value}(hi:xs[i]?=some u):w.cell? (ao g i)=some u/\w.frozen? (ao g i)=false:=by
 rcases h.2 with⟨b,_⟩|⟨k,l,m,b,hb,hg,o,p,q,f⟩
 ·simp at b
 ·obtain⟨rfl,rfl⟩:=b;rw[<-f] at hi;have j:i<n*size:=by
   rcases Nat.lt_or_ge i _ with c|c
   ·exact c
   ·rw[List.getElem?_take,aH aa] at hi;simp at hi
  rw[List.getElem?_take_of_lt j] at hi;constructor
  ·simp[World.cell?,hg];simpa using hi
  ·simp[World.frozen?,hg]
def Ln (w:aw)(c:Option Addr)(d:List (Int×List (Int×Int))):Prop:=
 ∃m:List du,ie m=d/\(∀x∈m,c8 w x.2.1 x.2.2.2)/\(0<m.length->∃b o,c=some ⟨b,o,none⟩/\b<w.heap.size/\∀i x,m[i]?=some x->w.cell? (ao b (o+i*2))=some (ak x.1)/\w.cell? (ao b (o+i*2+1))=some (.slice x.2.1 x.2.2.2.length x.2.2.1))
theorem Ln.below {w w':aw}{d:Option Addr}{f:List _}(h:Ln w d f)(hb:Below w.heap.size w w'):Ln w' d f:=by
 obtain⟨m,g,j,k⟩:=h;refine⟨m,g,fun x c=>(j x c).below hb,fun hp=>?_⟩
 obtain⟨b,o,e,hl,hc⟩:=k hp;exact⟨b,o,e,aO hl hb.size,fun i x c=>⟨(hb.cell hl).trans (hc i x c).1,(hb.cell hl).trans (hc i x c).2⟩⟩
def nf (w:aw)(base:Nat)(c:Option Addr)(l:List (Int×Int)):Prop:=c8 w c l/\(0<l.length->∃b o,c=some ⟨b,o,none⟩/\base<=b)
def lv (w:aw)(base:Nat)(c:Option Addr)(d:List (Int×List (Int×Int))):Prop:=
 ∃m:List du,ie m=d/\(∀x∈m,c8 w x.2.1 x.2.2.2)/\(∀k,fF m k->base<=k)/\(0<m.length->∃b o,c=some ⟨b,o,none⟩/\base<=b/\b<w.heap.size/\∀i x,m[i]?=some x->w.cell? (ao b (o+i*2))=some (ak x.1)/\w.cell? (ao b (o+i*2+1))=some (.slice x.2.1 x.2.2.2.length x.2.2.1))
theorem lv.ln {w:aw}{base:Nat}{d:Option Addr}{f:List _}(h:lv w base d f):Ln w d f:=by obtain⟨m,g,i,_,j⟩:=h;exact⟨m,g,i,fun hp=>by obtain⟨b,o,e,_,l,c⟩:=j hp;exact⟨b,o,e,l,c⟩⟩
abbrev cH:=Int×List (Int×Int)×Bool×Bool
structure cn where
 T:List cH
 rs:List (Int×Int)
 rg:List b9
 wt:List b9
theorem rR:∀(l:List (Int×Int))(i:Nat)(x:Int×Int),ev (l.set i x)=((ev l).set (i*2) (ak x.1)).set (i*2+1) (ak x.2)
 |[],_,_=>rfl
 |e::l,0,x=>by simp[ev]
 |e::l,i+1,x=>by
  have b:ev (e::l)=ak e.1::ak e.2::ev l:=by simp[ev]
  have c:ev ((e::l).set (i+1) x)=ak e.1::ak e.2::ev (l.set i x):=by simp[ev]
  rw[b,c,(rR l i x),show(i+1)*2=i*2+1+1 by omega];simp
def dV (g:Int)(q:List b9):Nat:=q.findIdx (fun e=>e.1==g)
abbrev iA:=cH×Option Addr×Nat
def tv (m:List iA):List Value:=m.flatMap fun x=>[ak x.1.1,.slice x.2.1 x.1.2.1.length x.2.2,.bool x.1.2.2.1,.bool x.1.2.2.2]
theorem BE (a b:List iA):tv (a++b)=tv a++tv b:=by simp[tv]
theorem vB:∀(l:List iA)(i:Nat)(x:iA),l[i]?=some x->(tv l)[i*4]?=some (ak x.1.1)/\(tv l)[i*4+1]?=some (.slice x.2.1 x.1.2.1.length x.2.2)/\(tv l)[i*4+2]?=some (.bool x.1.2.2.1)/\(tv l)[i*4+3]?=some (.bool x.1.2.2.2)
 |[],i,x,h=>by grind
 |e::r,0,x,h=>by simp_all [tv]
 |e::r,i+1,x,h=>by have b:(tv (e::r))=ak e.1.1::.slice e.2.1 e.1.2.1.length e.2.2::.bool e.1.2.2.1::.bool e.1.2.2.2::tv r:=af;rw[b,show(i+1)*4=i*4+1+1+1+1 by omega];simpa using(vB r i x (by assumption))
theorem vC:∀(l:List iA)(i:Nat)(x:iA)(b:Option Addr)(c:Nat)(d:List (Int×Int)),l[i]?=some x->tv (l.set i ((x.1.1,d,x.1.2.2),b,c))=(tv l).set (i*4+1) (.slice b d.length c)
 |[],_,_,_,_,_,_=>rfl
 |e::l,0,x,b,c,d,h=>by simp_all [tv]
 |e::l,i+1,x,b,c,d,h=>by have f:(tv (e::l))=ak e.1.1::.slice e.2.1 e.1.2.1.length e.2.2::.bool e.1.2.2.1::.bool e.1.2.2.2::tv l:=af;have g:(tv (e::l.set i ((x.1.1,d,x.1.2.2),b,c)))=ak e.1.1::.slice e.2.1 e.1.2.1.length e.2.2::.bool e.1.2.2.1::.bool e.1.2.2.2::tv (l.set i ((x.1.1,d,x.1.2.2),b,c)):=af;rw[List.set_cons_succ,g,f,(vC l i x b c d (by assumption)),show(i+1)*4+1=i*4+1+1+1+1+1 by omega];simp
structure da (rp rb:Nat)(ca b8:Int)(own:Nat->Nat)(s:cn)(m:List iA)(ng v2 v3:Value)(w:aw):Prop where
 blk:w.heap[rp]?=some (.cells #[ng,.slice (an rb) 12 12,v2,v3,ak ca,ak b8] 111 (0,0))
 b1:own rp=1
 row:w.ownsRow 0 118 4 ng m.length (tv m)
 ro:∀b,some b=ng.ownBlock->own b=2
 nd:m.map (fun x=>x.1)=s.T
 fl:∀x∈m,c8 w x.2.1 x.1.2.1/\(0<x.1.2.1.length->∃b o,x.2.1=some ⟨b,o,none⟩/\own b=3)
 rt:w.heap[rb]?=some (.cells (ev s.rs).toArray 97 (0,0))
 rl:s.rs.length=12
 r1:own rb=4
 g2:w.ownsRow 0 116 2 v2 s.rg.length (ev s.rg)
 fQ:∀b,some b=v2.ownBlock->own b=5
 g3:w.ownsRow 0 116 2 v3 s.wt.length (ev s.wt)
 f5:∀b,some b=v3.ownBlock->own b=6
 lt:∀b,own b≠0->b<w.heap.size
section
variable {rp rb:Nat}{ca b8:Int}{own:Nat->Nat}{s:cn}{m:List iA}{ng v2 v3:Value}{w w':aw}
theorem c8.at {c:Option Addr}{l:List _}(h:c8 w c l)(hs:w.heap.size<=w'.heap.size)(hk:∀b o,0<l.length->c=some ⟨b,o,none⟩->w'.heap[b]?=w.heap[b]?):c8 w' c l:=
 h.keep hs (fun hp a e=>by
  obtain⟨b,o,d,hb,_⟩:=h hp
  grind)
theorem da.but (h:da rp rb ca b8 own s m ng v2 v3 w)(hs:w.heap.size<=w'.heap.size)(hk:∀b,b<w.heap.size->own b≠0->w'.heap[b]?=w.heap[b]?):da rp rb ca b8 own s m ng v2 v3 w':=
 {
  blk:=(by grind [blk,b1]),b1:=h.b1
  row:=cy h.row (fun b e=>hk b (cg h.row b e).2 (by grind [ro])),ro:=h.ro,nd:=h.nd
  fl:=fun x c=>⟨(h.fl x c).1.at hs (fun b o hp e=>by
   obtain⟨d,f,g,i⟩:=(h.fl x c).2 hp
   grind [lt]),(h.fl x c).2⟩
  rt:=(by grind [rt,r1]),rl:=h.rl,r1:=h.r1
  g2:=cy h.g2 (fun b e=>hk b (cg h.g2 b e).2 (by grind [fQ])),fQ:=h.fQ
  g3:=cy h.g3 (fun b e=>hk b (cg h.g3 b e).2 (by grind [f5])),f5:=h.f5
  lt:=fun b hb=>aO (h.lt b hb) hs}
end
def cq (rp rb:Nat)(ca b8:Int):dS cn where
 J F s w:=∃own m c v2 d,da rp rb ca b8 own s m c v2 d w/\∀b,F b↔own b≠0
 lt:=by rintro F s w ⟨own,m,c,v2,d,h,e⟩ b hb;exact h.lt b ((e b).1 hb)
 keep:=by rintro F s w w' ⟨own,m,c,v2,d,h,e⟩ hs hk;exact⟨own,m,c,v2,d,h.but hs (fun b _ hb=>hk b ((e b).2 hb)),e⟩
section
variable {rp rb:Nat}{ca b8:Int}{F:Nat->Prop}{s:cn}{w w':aw}
theorem e8 (h:(cq rp rb ca b8).J F s w):w.cell? (ao rp 1)=some (.slice (an rb) 12 12)/\w.cell? (ao rp 4)=some (ak ca)/\w.cell? (ao rp 5)=some (ak b8)/\rp<w.heap.size/\rb<w.heap.size/\(∀o,w.frozen? (ao rp o)=false)/\s.rs.length=12/\
 (∀i,i<12->w.cell? (ao rb (i*2))=some (ak (s.rs.getD i (0,0)).1)/\w.cell? (ao rb (i*2+1))=some (ak (s.rs.getD i (0,0)).2)/\w.frozen? (ao rb (i*2))=false/\w.frozen? (ao rb (i*2+1))=false):=by
 obtain⟨own,m,d,v2,e,h,f⟩:=h;have b:=h.blk;have c:=h.rt;have hl:=h.rl;refine⟨by simp[World.cell?,b],by simp[World.cell?,b],by simp[World.cell?,b],lt_of_some b,lt_of_some c,fun o=>by simp[World.frozen?,b],hl,fun i hi=>?_⟩
 obtain⟨g,j⟩:=oi s.rs i aa;refine⟨?_,?_,by simp[World.frozen?,c],by simp[World.frozen?,c]⟩
 ·simp[World.cell?,c];assumption
 ·simp[World.cell?,c];assumption
theorem kP (h:(cq rp rb ca b8).J F s w)(i:Nat)(x:Int×Int):(cq rp rb ca b8).J F {s with rs:=s.rs.set i x} ((w.setCell ⟨rb,i*2,none⟩ (.int .i64 x.1)).setCell ⟨rb,i*2+1,none⟩ (.int .i64 x.2))/\ce F w F ((w.setCell ⟨rb,i*2,none⟩ (.int .i64 x.1)).setCell ⟨rb,i*2+1,none⟩ (.int .i64 x.2)):=by
 obtain⟨own,m,c,v2,d,h,f⟩:=h;have fr:Fr (fun b=>b=rb) w ((w.setCell ⟨rb,i*2,none⟩ (.int .i64 x.1)).setCell ⟨rb,i*2+1,none⟩ (.int .i64 x.2)):=(by grind [Fr.set,Fr.refl])
 refine⟨⟨own,m,c,v2,d,?_,f⟩,⟨(by grind [Fr.mono,da.r1]),fun _ h=>aL h⟩⟩
 generalize hw:(w.setCell _ _).setCell _ _=w' at fr;have hk:∀b,b<w.heap.size->own b≠4->_=_:=fun b hb g=>fr.block b hb (fun e=>g ((e▸h.r1)))
 exact {
  blk:=(by grind [da.blk,da.b1]),b1:=h.b1
  row:=cy h.row (fun b e=>hk b (cg h.row b e).2 (by grind [da.ro])),ro:=h.ro,nd:=h.nd
  fl:=fun y hy=>⟨(h.fl y hy).1.at fr.size (fun b o hp e=>by
   obtain⟨j,k,l,n⟩:=(h.fl y hy).2 hp
   grind [da.lt]),(h.fl y hy).2⟩
  rt:=by rw[<-hw];simp only [World.setCell,Array.getElem?_modify,if_true,h.rt,Option.map_some];simp[rR]
  rl:=by grind [da.rl]
  r1:=h.r1
  g2:=cy h.g2 (fun b e=>hk b (cg h.g2 b e).2 (by grind [da.fQ])),fQ:=h.fQ
  g3:=cy h.g3 (fun b e=>hk b (cg h.g3 b e).2 (by grind [da.f5])),f5:=h.f5
  lt:=fun b hb=>aO (h.lt b hb) fr.size}
theorem kh (h:(cq rp rb ca b8).J F s w):∃c cT,w.cell? (ao rp 0)=some (.slice c s.T.length cT)/\(0<s.T.length->∃b,c=an b/\b≠rp/\b≠rb)/\∀(i:Nat)(x:cH),s.T[i]?=some x->∃b j cp,c=an b/\w.cell? (ao b (i*4))=some (ak x.1)/\w.cell? (ao b (i*4+1))=some (.slice j x.2.1.length cp)/\w.cell? (ao b (i*4+2))=some (.bool x.2.2.1)/\w.cell? (ao b (i*4+3))=some (.bool x.2.2.2)/\c8 w j x.2.1/\∀fb dl,0<x.2.1.length->j=some ⟨fb,dl,none⟩->fb≠rb/\fb≠rp/\F fb:=by
 obtain⟨own,m,t,v2,u,h,v⟩:=h;obtain⟨c,cT,d⟩:=dU h.row;have l:m.length=s.T.length:=by rw[<-h.nd];simp
 refine⟨c,cT,by simp[World.cell?,h.blk,d,l],fun hp=>?_,fun i x n=>?_⟩
 ·obtain⟨b,B,e⟩:=d4 h.row aa;rw[d] at e;cases e;have hb:=h.ro b (by rw[d];rfl)
  grind [da.b1,da.r1]
 ·rw[<-h.nd] at n;obtain⟨y,hy,rfl⟩:∃y,m[i]?=some y/\y.1=x:=by simp_all
  have hi:=(List.getElem?_eq_some_iff.1 hy).1;rcases h.row.2 with⟨_,h0⟩|⟨g,N,S,k,hb,f,W,ab,ad,o⟩
  ·omega
  ·rw[d] at k;obtain⟨rfl,_,rfl⟩:=k;obtain⟨k0,k1,p,q⟩:=vB m i y hy;rw[<-o,List.getElem?_take_of_lt aa] at k0 k1 p q;refine⟨g,y.2.1,y.2.2,rfl,?_,?_,?_,?_,(h.fl y (List.mem_of_getElem? hy)).1,fun fb dl hp e=>?_⟩
   ·simp[World.cell?,f]
    grind
   ·simp[World.cell?,f]
    grind
   ·simp[World.cell?,f]
    grind
   ·simp[World.cell?,f]
    grind
   ·obtain⟨ag,ai,al,ap⟩:=(h.fl y (List.mem_of_getElem? hy)).2 hp
    grind [da.r1,da.b1]
theorem pP (h:(cq rp rb ca b8).J F s w):∃m g,m.map (fun x=>x.1)=s.T/\w.cell? (ao rp 0)=some g/\w.ownsRow 0 118 4 g m.length (tv m)/\(some rp≠g.ownBlock/\some rb≠g.ownBlock)/\(∀b,some b=g.ownBlock->F b)/\
 (∀(x:iA)(v1:Value)(w1:aw),Fr (fun b=>some b=g.ownBlock) w w1->w1.ownsRow 0 118 4 v1 (m++[x]).length (tv (m++[x]))->(∀b,some b=v1.ownBlock->some b=g.ownBlock\/w.heap.size<=b)->c8 w1 x.2.1 x.1.2.1->(∀b o,0<x.1.2.1.length->x.2.1=some ⟨b,o,none⟩->¬F b/\some b≠v1.ownBlock)->
   (cq rp rb ca b8).J (fun b=>F b\/some b=v1.ownBlock\/(0<x.1.2.1.length/\∃o,x.2.1=some ⟨b,o,none⟩)) {s with T:=s.T++[x.1]} (w1.setCell ⟨rp,0,none⟩ v1)/\Fr F w (w1.setCell ⟨rp,0,none⟩ v1))/\
 (∀(i:Nat)(x:iA)(f:Option Addr)(c:Nat)(d:List (Int×Int))(b:Nat),m[i]?=some x->some b=g.ownBlock->c8 w f d->(∀b o,0<d.length->f=some ⟨b,o,none⟩->¬F b)->
   (cq rp rb ca b8).J (fun b=>F b\/(0<d.length/\∃o,f=some ⟨b,o,none⟩)) {s with T:=s.T.set i (x.1.1,d,x.1.2.2)} (w.setCell ⟨b,i*4+1,none⟩ (.slice f d.length c))/\Fr F w (w.setCell ⟨b,i*4+1,none⟩ (.slice f d.length c))):=by
 classical
 obtain⟨own,m,g,v2,B,h,ai⟩:=h;have N:=h.blk;have S:∀b,¬F b->_=_:=fun b hb=>Classical.byContradiction (fun c=>hb ((ai b).2 c))
 have W:some rp≠g.ownBlock/\some rb≠g.ownBlock:=(by grind [da.ro,da.b1,da.r1])
 refine⟨m,g,h.nd,by simp[World.cell?,N],h.row,W,fun b e=>(by grind [da.ro]),fun x v1 w1 ab al ap l u=>?_,fun i x f c d b ar hb l u=>?_⟩
 ·have aF:∀b,some b=v1.ownBlock->_:=fun b e=>(ap b e).elim (fun e=>aL (h.ro b e)) (fun hl=>aK (Classical.byContradiction (fun c=>by have:=h.lt b c;omega)))
  have ax:∀b,(0<x.1.2.1.length/\∃o,x.2.1=some ⟨b,o,none⟩)->_/\_:=fun b ⟨hp,o,e⟩=>⟨S b (u b o hp e).1,(u b o hp e).2⟩
  have q:∀b j,own b=j->j≠0->j≠2->(if some b=v1.ownBlock then 2 else if(0<x.1.2.1.length/\∃o,x.2.1=some ⟨b,o,none⟩) then 3 else own b)=j:=fun b j e h0 ad=>by grind
  have sz:(w1.setCell ⟨rp,0,none⟩ v1).heap.size=w1.heap.size:=by simp_all
  have hk:∀b,b<w.heap.size->own b≠2->own b≠1->(w1.setCell ⟨rp,0,none⟩ v1).heap[b]?=w.heap[b]?:=fun b hb ad aR=>(by grind [da.b1,Fr.block,da.ro,aP])
  have aT:¬some rp=v1.ownBlock:=fun e=>by simp_all
  refine⟨⟨fun b=>if some b=v1.ownBlock then 2 else if(0<x.1.2.1.length/\∃o,x.2.1=some ⟨b,o,none⟩) then 3 else own b,m++[x],v1,v2,B,?_,fun b=>?_⟩,?_⟩
  ·exact {
    blk:=by simp only [World.setCell,Array.getElem?_modify,if_true,((ab.block rp (by grind) W.1).trans N),Option.map_some];simp
    b1:=q _ _ h.b1 ae ae
    row:=(by grind [cy,aP])
    ro:=fun b e=>by grind
    nd:=by simp[h.nd]
    fl:=fun y hy=>by
     rcases List.mem_append.1 hy with hy|hy
     ·refine⟨(h.fl y hy).1.at ((sz▸ab.size)) (fun b o hp e=>?_),fun hp=>?_⟩
      ·obtain⟨n,t,p,v⟩:=(h.fl y hy).2 hp
       grind [da.lt]
      ·obtain⟨n,t,p,v⟩:=(h.fl y hy).2 hp
       grind
     ·simp at hy;subst hy;refine⟨l.at aa (fun b o hp e=>aP _ _ _ _ (fun p=>?_)),fun hp=>?_⟩
      ·grind [da.b1]
      ·obtain⟨b,o,e,_⟩:=l hp
       simp_all [Addr.mk.injEq]
    rt:=(by grind [da.rt,da.r1])
    rl:=h.rl
    r1:=q _ _ h.r1 ae ae
    g2:=cy h.g2 (fun b e=>hk b (cg h.g2 b e).2 (by grind [da.fQ]) (by grind [da.fQ])),fQ:=fun b e=>(by grind [da.fQ])
    g3:=cy h.g3 (fun b e=>hk b (cg h.g3 b e).2 (by grind [da.f5]) (by grind [da.f5])),f5:=fun b e=>(by grind [da.f5])
    lt:=fun b hb=>by
     rw[sz];by_cases c1:some b=v1.ownBlock
     ·exact(cg al b c1).2
     ·by_cases c2:0<x.1.2.1.length/\∃o,x.2.1=some ⟨b,o,none⟩
      ·obtain⟨hp,o,e⟩:=c2;obtain⟨n,t,p,ag,_⟩:=l hp
       grind
      grind [da.lt,Fr.size,aO]}
  ·grind
  grind [Fr.mono,da.ro,Fr.set,da.b1]
 ·have aV:=h.ro b hb;have ax:∀b,(0<d.length/\∃o,f=some ⟨b,o,none⟩)->_=_:=fun b ⟨hp,o,e⟩=>S b (u b o hp e)
  have q:∀b j,own b=j->j≠0->(if(0<d.length/\∃o,f=some ⟨b,o,none⟩) then 3 else own b)=j:=fun b j e h0=>(by grind)
  have sz:(w.setCell ⟨b,i*4+1,none⟩ (.slice f d.length c)).heap.size=w.heap.size:=by simp[World.setCell]
  have hk:∀k,own k≠2->(w.setCell ⟨b,i*4+1,none⟩ (.slice f d.length c)).heap[k]?=w.heap[k]?:=fun k ad=>(by grind [aP])
  have aB:(w.setCell ⟨b,i*4+1,none⟩ (.slice f d.length c)).ownsRow 0 118 4 g (m.set i ((x.1.1,d,x.1.2.2),f,c)).length (tv (m.set i ((x.1.1,d,x.1.2.2),f,c))):=by
   obtain⟨n,a0,e⟩:=d4 h.row (Nat.lt_of_le_of_lt aa (List.getElem?_eq_some_iff.1 ar).1)
   have a1:b=n:=by rw[e] at hb;simpa[Value.ownBlock] using hb
   grind [vC,da.row,jp]
  refine⟨⟨fun b=>if(0<d.length/\∃o,f=some ⟨b,o,none⟩) then 3 else own b,m.set i ((x.1.1,d,x.1.2.2),f,c),g,v2,B,?_,fun k=>?_⟩,?_⟩
  ·exact {
    blk:=(by grind [da.b1])
    b1:=q _ _ h.b1 ae
    row:=aB
    ro:=fun k e=>(by grind)
    nd:=by rw[List.map_set,h.nd]
    fl:=fun y hy=>by
     rcases List.mem_or_eq_of_mem_set hy with hy|hy
     ·refine⟨(h.fl y hy).1.at aa (fun b o hp e=>?_),fun hp=>?_⟩
      ·obtain⟨n,t,p,v⟩:=(h.fl y hy).2 hp
       grind
      ·obtain⟨n,t,p,v⟩:=(h.fl y hy).2 hp
       grind
     ·subst hy;refine⟨l.at aa (by grind),fun hp=>?_⟩
      obtain⟨b,o,e,_⟩:=l hp
      simp_all [Addr.mk.injEq]
    rt:=(by grind [da.r1,da.rt])
    rl:=h.rl
    r1:=q _ _ h.r1 ae
    g2:=cy h.g2 (by grind [da.fQ]),fQ:=fun b e=>(by grind [da.fQ])
    g3:=cy h.g3 (by grind [da.f5]),f5:=fun b e=>(by grind [da.f5])
    lt:=fun k ag=>by
     rw[sz];by_cases c2:0<d.length/\∃o,f=some ⟨k,o,none⟩
     ·obtain⟨hp,o,e⟩:=c2;obtain⟨n,t,p,ag,_⟩:=l hp
      grind
     grind [da.lt]}
  ·grind
  grind [Fr.set,Fr.refl]
theorem pQ (h:(cq rp rb ca b8).J F s w):∃v2 d,w.cell? (ao rp 2)=some v2/\w.cell? (ao rp 3)=some d/\w.ownsRow 0 116 2 v2 s.rg.length (ev s.rg)/\w.ownsRow 0 116 2 d s.wt.length (ev s.wt)/\some rp≠v2.ownBlock/\
 ∀(l:List b9)(v1:Value)(w1:aw),Fr (fun b=>some b=v2.ownBlock) w w1->w1.ownsRow 0 116 2 v1 l.length (ev l)->(∀b,some b=v1.ownBlock->some b=v2.ownBlock\/w.heap.size<=b)->
  (cq rp rb ca b8).J (fun b=>F b\/some b=v1.ownBlock) {s with rg:=l} (w1.setCell ⟨rp,2,none⟩ v1)/\Fr F w (w1.setCell ⟨rp,2,none⟩ v1):=by
 obtain⟨own,m,k,v2,d,h,N⟩:=h;have f:=h.blk;have g:some rp≠v2.ownBlock:=fun e=>by grind [da.fQ,da.b1]
 refine⟨v2,d,by simp[World.cell?,f],by simp[World.cell?,f],h.g2,h.g3,g,fun l v1 w1 n p q=>?_⟩
 have S:∀b,some b=v1.ownBlock->_:=fun b e=>(q b e).elim (fun e=>aL (h.fQ b e)) (fun hl=>aK (Classical.byContradiction (fun c=>by have:=h.lt b c;omega)))
 have i:∀b j,own b=j->j≠0->j≠5->(if some b=v1.ownBlock then 5 else own b)=j:=fun b j e h0 t=>by grind
 have sz:(w1.setCell ⟨rp,2,none⟩ v1).heap.size=w1.heap.size:=by simp[World.setCell]
 have hk:∀b,b<w.heap.size->own b≠5->own b≠1->(w1.setCell ⟨rp,2,none⟩ v1).heap[b]?=w.heap[b]?:=fun b hb t W=>(by grind [da.b1,Fr.block,da.fQ,aP])
 have ab:¬some rp=v1.ownBlock:=fun e=>by grind
 refine⟨⟨fun b=>if some b=v1.ownBlock then 5 else own b,m,k,v1,d,?_,fun b=>?_⟩,?_⟩
 ·exact {
   blk:=by simp only [World.setCell,Array.getElem?_modify,if_true,((n.block rp (by grind) g).trans f),Option.map_some];simp
   b1:=i _ _ h.b1 ae ae
   row:=cy h.row (fun b e=>hk b (cg h.row b e).2 (by grind [da.ro]) (by grind [da.ro]))
   ro:=fun b e=>(by grind [da.ro])
   nd:=h.nd
   fl:=fun y hy=>by
    refine⟨(h.fl y hy).1.at (by grind [Fr.size]) (fun b o hp e=>?_),fun hp=>?_⟩
    ·obtain⟨u,v,x,B⟩:=(h.fl y hy).2 hp
     grind [da.lt]
    ·obtain⟨u,v,x,B⟩:=(h.fl y hy).2 hp
     grind
   rt:=(by grind [da.rt,da.r1])
   rl:=h.rl
   r1:=i _ _ h.r1 ae ae
   g2:=(by grind [cy,aP])
   fQ:=fun b e=>by grind
   g3:=cy h.g3 (fun b e=>hk b (cg h.g3 b e).2 (by grind [da.f5]) (by grind [da.f5])),f5:=fun b e=>(by grind [da.f5])
   lt:=fun b hb=>by
    rw[sz];by_cases c1:some b=v1.ownBlock
    ·exact(cg p b c1).2
    grind [da.lt,Fr.size,aO]}
 ·grind
 grind [Fr.mono,da.fQ,Fr.set,da.b1]
end
end Go.Proofs.YtpkjkjhanlbcoaaGreat
