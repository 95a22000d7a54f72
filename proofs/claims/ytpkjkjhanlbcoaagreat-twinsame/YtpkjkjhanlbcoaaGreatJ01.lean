import Derived.Test.YtpkjkjhanlbcoaaGreatJ00
import Derived.Below
import Derived.Test.YtpkjkjhanlbcoaaGreatChecked
import Derived.WalkKit
import Derived.WalkSpells
import Derived.Deep.QuietTactic
import Derived.BigQuiet
import Derived.WalkSmall
import Derived.Laws.CopyOwn
import Derived.Maps.AppendAt
namespace Go.Proofs.YtpkjkjhanlbcoaaGreat
theorem ae{P:Prop}(h:P:=by kernel_rfl):P:=h
set_option maxRecDepth 100000
set_option maxHeartbeats 400000
open Tryz
open Go.RowKit
abbrev ah(n:Int):Value:=.int .i64 n
abbrev aq(b n:Nat):Addr:=⟨b,n,none⟩
abbrev ak(b:Nat):Option Addr:=some ⟨b,0,none⟩
abbrev aj(b:Nat):Value:=.pointer (some ⟨b,0,none⟩)
abbrev ax:=World
theorem bX{B:Nat}{w:ax}:Below B w w:=Below.refl B w
theorem kZ {P:Prop}(h:P:=by go_wp2;go_ret;exact⟨rfl,bX.alloc bW _⟩):P:=h
theorem rW {P:Prop}(h:P:=by
 go_enter func94,ntmps94;go_wp2_with fail;refine(vy x _).mono ?_;rintro e w1 ⟨rfl,hb⟩
 go_wp2_with fail;go_ret2;exact⟨rfl,hb.alloc hb.size _⟩):P:=h
theorem oH {P:Prop}(h:P:=by
 go_enter func168,ntmps168;go_wp2
 go_ret3
 exact⟨rfl,rfl⟩):P:=h
theorem vz {P:Prop}(h:P:=by
 go_wp2_with fail;refine(j8 _ _).mono ?_;rintro e w1 ⟨rfl,rfl⟩
 rw[show fl 2=0 from rfl,show fm 2=12 from rfl,show fk 2=true from rfl];go_wp2;go_ret2;exact⟨rfl,rfl⟩):P:=h
theorem vA {P:Prop}(h:P:=by
 go_wp2_with fail;refine(j8 _ _).mono ?_;rintro e w1 ⟨rfl,rfl⟩
 rw[show fl 5=0 from rfl,show fm 5=0 from rfl,show fk 5=true from rfl];go_wp2;go_ret2;exact⟨rfl,rfl⟩):P:=h
theorem vB {P:Prop}(h:P:=by
 go_wp2_with fail;refine(j8 _ _).mono ?_;rintro e w1 ⟨rfl,rfl⟩
 rw[show fl 4=2 from rfl,show fm 4=2 from rfl,show fk 4=true from rfl];go_wp2;go_ret2;exact⟨rfl,rfl⟩):P:=h
theorem vC {P:Prop}(h:P:=by
 go_wp2_with fail;refine(j8 _ _).mono ?_;rintro e w1 ⟨rfl,rfl⟩
 rw[show fl 3=2 from rfl,show fm 3=2 from rfl,show fk 3=true from rfl];go_wp2;go_ret2;exact⟨rfl,rfl⟩):P:=h
theorem vD {P:Prop}(h:P:=by
 go_wp2_with fail;refine(j8 _ _).mono ?_;rintro e w1 ⟨rfl,rfl⟩
 rw[show fl 1=2 from rfl,show fm 1=2 from rfl,show fk 1=true from rfl];go_wp2;go_ret2;exact⟨rfl,rfl⟩):P:=h
theorem vE {P:Prop}(h:P:=by
 go_enter func99,ntmps99;go_wp2_with (go_at_call 176;refine(BQ _ _ _).mono ?_;rintro e w' ⟨rfl,rfl⟩)
 go_ret;exact⟨rfl,bX.alloc bW _⟩):P:=h
theorem vF {P:Prop}(h:P:=by
 go_enter func178,ntmps178;go_wp2_with fail;refine(oI _ _ _).mono ?_;rintro e w1 ⟨rfl,rfl⟩
 go_wp2
 go_ret3
 exact⟨rfl,rfl⟩):P:=h
theorem rX {P:Prop}(h:P:=by go_enter func224,ntmps224;go_wp2;go_ret;exact⟨rfl,rfl⟩):P:=h
theorem rY {P:Prop}(h:P:=by go_enter func100,ntmps100;go_wp2;go_ret;exact⟨rfl,rfl⟩):P:=h
abbrev ay(p:Prop):Prop:=Hid p
theorem hide {p:Prop}(h:p):ay p:=h
theorem dq {p q:Prop}(a:p)(b:q):ay (p/\q):=⟨a,b⟩
theorem g6 {p q r:Prop}(a:p)(b:q)(c:r):ay (p/\q/\r):=⟨a,b,c⟩
theorem jr {p q r s:Prop}(a:p)(b:q)(c:r)(d:s):ay (p/\q/\r/\s):=⟨a,b,c,d⟩
theorem vI {p q r s t:Prop}(a:p)(b:q)(c:r)(d:s)(e:t):ay (p/\q/\r/\s/\t):=⟨a,b,c,d,e⟩
theorem BR {p q r s t d:Prop}(a:p)(b:q)(c:r)(g:s)(e:t)(f:d):ay (p/\q/\r/\s/\t/\d):=⟨a,b,c,g,e,f⟩
theorem BS {p q r s t d v:Prop}(a:p)(b:q)(c:r)(i:s)(e:t)(f:d)(g:v):ay (p/\q/\r/\s/\t/\d/\v):=⟨a,b,c,i,e,f,g⟩
open Go.RowKit W
theorem BQ (n low:Int)(w:ax):
 Calls prog 176 #[ah n,ah low] w fun e w'=>e=.returned (ah (rc n low))/\w'=w:=by
 by_cases c1:n<low
 ·have e:rc n low=1:=by unfold rc;rw[aI c1]
  rw[e];go_enter func176,ntmps176;go_wp2;go_ret;exact⟨rfl,rfl⟩
 ·by_cases c2:1152921504606846976<=n
  ·have e:rc n low=1:=by unfold rc;rw[aG c1,aI c2]
   rw[e];go_enter func176,ntmps176;go_wp2;go_ret;exact⟨rfl,rfl⟩
  ·have e:rc n low=0:=by unfold rc;rw[aG c1,aG c2]
   rw[e];go_wp2;go_ret;exact⟨rfl,rfl⟩
theorem BU (k:Int)(w:ax):
 Calls prog 100 #[ah k] w fun e w'=>e=.returned (ah (tg k))/\w'=w:=by
 by_cases c1:k=1
 ·subst c1;exact rY
 ·by_cases c3:k=3
  ·subst c3;exact rY
  ·by_cases c0:k=0
   ·subst c0;exact rY
   ·have e:tg k=3:=by unfold tg;rw[aG c1,aG c3,aG c0]
    rw[e];go_wp2;go_ret;exact⟨rfl,rfl⟩
theorem vJ (t:Int)(w:ax):
 Calls prog 224 #[ah t] w fun e w'=>e=.returned (ah (iI t))/\w'=w:=by
 by_cases c1:t=0
 ·subst c1;exact rX
 ·by_cases c3:t=1
  ·subst c3;exact rX
  ·by_cases c0:t=2
   ·subst c0;exact rX
   ·have e:iI t=2:=by unfold iI;rw[aG c1,aG c3,aG c0]
    rw[e];go_wp2;go_ret;exact⟨rfl,rfl⟩
theorem BV (n:Int):vc 0 n=if n=0 then 0 else 7:=by simp[vc]
theorem BW (n:Int):vc 2 n=if n=0 then 0 else 7:=by simp[vc]
theorem BX (n:Int):vc 1 n=rc n (-1152921504606846976):=by simp[vc]
theorem rZ (n:Int):vc 3 n=rc n 0:=by simp[vc]
abbrev aw(w v:World):Prop:=Below w.heap.size w v
theorem pW (k n:Int)(w:ax):
 Calls prog 99 #[.agg #[ah k,ah n]] w fun e w'=>e=.returned (ah (vc k n))/\aw w w':=by
 by_cases c0:k=0
 ·subst c0;rw[BV];by_cases c:n=0
  ·subst c;go_enter func99,ntmps99;exact kZ
  ·rw[aG c];go_enter func99,ntmps99;exact kZ
 ·by_cases c2:k=2
  ·subst c2;rw[BW];by_cases c:n=0
   ·subst c;go_enter func99,ntmps99;exact kZ
   ·rw[aG c];go_enter func99,ntmps99;exact kZ
  ·by_cases c1:k=1
   ·subst c1;rw[BX];exact vE
   ·by_cases c3:k=3
    ·subst c3;rw[rZ];exact vE
    ·have e:vc k n=2:=by unfold vc;rw[aG c0,aG c2,aG c1,aG c3]
     rw[e];go_enter func99,ntmps99;exact kZ
theorem nJ {B:Nat}{W w1:ax}(hb:Below B W w1):(∀b o,b<B->w1.cell? (aq b o)=W.cell? (aq b o))/\(∀b o,b<B->w1.frozen? (aq b o)=W.frozen? (aq b o)):=
 ⟨fun b o h=>hb.cell (p:=aq b o) h,fun b o h=>hb.frozen (p:=aq b o) h⟩
theorem vK {w w1:ax}{a b c d:Value}{s t:TypeId}(hb:Below ((w.alloc (.cells #[a,b] s)).alloc (.cells #[c,d] t)).heap.size ((w.alloc (.cells #[a,b] s)).alloc (.cells #[c,d] t)) w1):
 w1.cell? (aq w.heap.size 0)=some a/\w1.cell? (aq w.heap.size 1)=some b/\w1.cell? (aq (w.heap.size+1) 0)=some c/\w1.cell? (aq (w.heap.size+1) 1)=some d/\w1.frozen? (aq w.heap.size 0)=false/\w1.frozen? (aq w.heap.size 1)=false/\w.heap.size+2<=w1.heap.size:=by
 obtain⟨hc,e⟩:=nJ hb;refine⟨?_,?_,?_,?_,?_,?_,by simpa using hb.size⟩
 ·rw[hc _ _ (by simp;omega)];simp[go_sem]
 ·rw[hc _ _ (by simp;omega)];simp[go_sem]
 ·rw[hc _ _ Z];simp[go_sem]
 ·rw[hc _ _ Z];simp[go_sem]
 ·rw[e _ _ (by simp;omega)];simp[go_sem]
 ·rw[e _ _ (by simp;omega)];simp[go_sem]
theorem vL {w w1:ax}{a b:Value}{t:TypeId}(hb:Below (w.alloc (.cells #[a,b] t)).heap.size (w.alloc (.cells #[a,b] t)) w1):
 w1.cell? (aq w.heap.size 0)=some a/\w1.cell? (aq w.heap.size 1)=some b/\w.heap.size+1<=w1.heap.size:=by
 obtain⟨hc,_⟩:=nJ hb;refine⟨?_,?_,by simpa using hb.size⟩
 ·rw[hc _ _ Z];simp[go_sem]
 ·rw[hc _ _ Z];simp[go_sem]
theorem nK {a b:Int}{c:Value}(h:a=b):Ending.returned (.tuple #[ah a,c])=.returned (.tuple #[ah b,c]):=by rw[h]
theorem vM (k n:Int)(w:ax):
 Calls prog 46 #[.agg #[ah k,ah n]] w fun e w'=>e=.returned (.tuple #[ah (ew k n),ah (vc k n)])/\aw w w':=by
 by_cases h:vc k n=0
 ·rw[rQ k n h];have hn:=BA k n h;have H:=hide h;rw[H.out];go_enter func46,ntmps46;go_wp2_with fail;refine(pW k n _).mono ?_;rintro e w1 ⟨rfl,hb⟩
  rw[H.out];obtain⟨hc,b⟩:=nJ hb;go_wp2
  go_quiet ((go_at_call 100;exact Calls.quiet_of_same (BU _ _)))
  go_wp2;go_ret2;exact⟨nK (hide (BB k n hn.1 hn.2)).out,below_drewN ((bX.alloc bW _).trans (hb.mono Z)) _⟩
 ·rw[BE k n h];go_enter func46,ntmps46;go_wp2_with fail;refine(pW k n _).mono ?_;rintro e w1 ⟨rfl,hb⟩
  go_wp2;go_ret2;exact⟨rfl,(bX.alloc bW _).trans (hb.mono Z)⟩
theorem a3 {P:Go.Program}{fn:Go.Func}{R:Go.Ending -> ax -> Prop}{a:Go.Act}{w:ax}{v:Value}(hr:Go.Sem.run P (Go.results fn a.tmps) w = Go.Result.ok v w)(hd:a.defers = [])(hR:R (Go.Ending.returned v) w):Go.bodyPost P fn R Go.Exit.ret a w:=by intros;apply bodyPost_ret<;>assumption
theorem vy (x:Int)(w:ax):
 Calls prog 173 #[ah x] w fun e w'=>e=.returned (.tuple #[.agg #[ah (dk x),ah (de x)],ah (dc x)])/\aw w w':=by
 have g:=Bw x;by_cases h:dc x=0
 ·have b:dk x=iI (x%4):=by unfold dk;rw[aI h]
  have c:de x=x/4:=by unfold de;rw[aI h]
  have H:ay (vc (iI (x%4)) (x/4)=0):=h;rw[h,b,c];clear h b c;go_enter func173,ntmps173;go_wp2_with fail;refine(vJ _ _).mono ?_;rintro e w' ⟨rfl,rfl⟩
  go_wp2_with fail;refine(pW (iI (x%4)) (x/4) _).mono ?_;rintro e w1 ⟨rfl,hb⟩
  rw[H.out];obtain⟨c0,c1,c2,c3,d,f,hz⟩:=vK hb;go_wp2_with fail;exact a3 (v:=.tuple #[.agg #[ah (iI (x%4)),ah (x/4)],ah 0]) (by simp[results,results173,go_sem,c0,c1]) rfl ⟨rfl,((((bX.alloc bW _).alloc Z _).trans (hb.mono (by simp;omega))).setCell bW _).setCell bW _⟩
 ·have b:dk x=0:=by unfold dk;rw[aG h]
  have c:de x=0:=by unfold de;rw[aG h]
  rw[b,c];have hn:(vc (iI (x%4)) (x/4)!=0)=true:=by simpa[dc] using h
  have E:ay (dc x=vc (iI (x%4)) (x/4)):=rfl;rw[E.out];clear h b c;go_enter func173,ntmps173;go_wp2_with fail;refine(vJ _ _).mono ?_;rintro e w' ⟨rfl,rfl⟩
  go_wp2_with fail;refine(pW (iI (x%4)) (x/4) _).mono ?_;rintro e w1 ⟨rfl,hb⟩
  obtain⟨c0,c1,c2,c3,d,f,hz⟩:=vK hb;go_wp2_with fail;exact a3 (v:=.tuple #[.agg #[ah 0,ah 0],ah (vc (iI (x%4)) (x/4))]) (by simp[results,results173,go_sem,c0,c1]) rfl ⟨rfl,((((bX.alloc bW _).alloc Z _).trans (hb.mono (by simp;omega))).setCell bW _).setCell bW _⟩
theorem r4 (w:ax):Calls prog 47 #[] w fun e w'=>e=.returned (ah 2)/\w'=w:=by go_wp2;go_ret;exact⟨rfl,rfl⟩
theorem nL (w:ax):Calls prog 191 #[] w fun e w'=>e=.returned (ah 3)/\w'=w:=by go_wp2;go_ret;exact⟨rfl,rfl⟩
theorem r5 (n:Int)(w:ax):
 Calls prog 42 #[ah n] w fun e w'=>e=.returned (ah (ew 3 n))/\aw w w':=by
 go_enter func42,ntmps42;go_wp2_with fail;refine(vM 3 n _).mono ?_;rintro e w1 ⟨rfl,hb⟩
 go_wp2_with fail;go_ret;exact⟨rfl,hb⟩
theorem nM (x:Int)(w:ax):
 Calls prog 94 #[ah x] w fun e w'=>e=.returned (.tuple #[ah (cg x),.bool (cY x)])/\aw w w':=by
 by_cases h0:dc x=0
 ·have t0:(dc x !=0)=false:=by simpa using h0
  by_cases c:dk x=3
  ·have b:cY x=true:=by unfold cY;rw[h0,c];rfl
   rw[lN x b,b];have t3:(dk x !=3)=false:=by simpa using c
   exact rW
  ·have b:cY x=false:=by unfold cY;rw[beq_eq_false_iff_ne.2 c];simp
   rw[vp x b,b];exact rW
 ·have b:cY x=false:=by unfold cY;rw[beq_eq_false_iff_ne.2 h0];simp
  rw[vp x b,b];exact rW
theorem j8 (k:Int)(w:ax):
 Calls prog 168 #[ah k] w fun e w'=>e=.returned (.tuple #[ah (fl k),ah (fm k),.bool (fk k)])/\w'=w:=by
 by_cases c1:k=1
 ·subst c1;exact oH
 by_cases c2:k=2
 ·subst c2;exact oH
 by_cases c3:k=3
 ·subst c3;exact oH
 by_cases c4:k=4
 ·subst c4;exact oH
 by_cases c5:k=5
 ·subst c5;exact oH
 have b:fl k=0:=by simp[fl,c1,c3,c4]
 have c:fm k=0:=by simp[fm,c1,c2,c3,c4]
 have d:fk k=false:=by simp[fk,c1,c2,c3,c4,c5]
 rw[b,c,d];go_wp2
 go_ret3
 exact⟨rfl,rfl⟩
theorem BY (k f:Int)(w:ax)(h:hc k f=0):
 Calls prog 89 #[ah k,ah f] w fun e w'=>e=.returned (.tuple #[ah (16*f+k),ah 0])/\w'=w:=by
 rcases oF k f h with⟨rfl,rfl⟩|⟨rfl,rfl⟩|⟨rfl,rfl⟩|⟨rfl,b,c⟩|⟨rfl,rfl⟩
 ·go_enter func89,ntmps89;go_wp2_with fail;refine(j8 _ _).mono ?_;rintro e w1 ⟨rfl,rfl⟩
  rw[show fl 1=2 from rfl,show fm 1=2 from rfl,show fk 1=true from rfl];go_wp2;go_ret2;exact⟨nK (by decide+kernel),rfl⟩
 ·go_enter func89,ntmps89;go_wp2_with fail;refine(j8 _ _).mono ?_;rintro e w1 ⟨rfl,rfl⟩
  rw[show fl 3=2 from rfl,show fm 3=2 from rfl,show fk 3=true from rfl];go_wp2;go_ret2;exact⟨nK (by decide+kernel),rfl⟩
 ·go_enter func89,ntmps89;go_wp2_with fail;refine(j8 _ _).mono ?_;rintro e w1 ⟨rfl,rfl⟩
  rw[show fl 4=2 from rfl,show fm 4=2 from rfl,show fk 4=true from rfl];go_wp2;go_ret2;exact⟨nK (by decide+kernel),rfl⟩
 ·have E:=hide (BC 2 f h)
  go_enter func89,ntmps89;go_wp2_with fail;refine(j8 _ _).mono ?_;rintro e w1 ⟨rfl,rfl⟩
  rw[show fl 2=0 from rfl,show fm 2=12 from rfl,show fk 2=true from rfl];go_wp2;go_ret2;exact⟨nK E.out,rfl⟩
 ·go_enter func89,ntmps89;go_wp2_with fail;refine(j8 _ _).mono ?_;rintro e w1 ⟨rfl,rfl⟩
  rw[show fl 5=0 from rfl,show fm 5=0 from rfl,show fk 5=true from rfl];go_wp2;go_ret2;exact⟨nK (by decide+kernel),rfl⟩
theorem BZ (k f:Int)(w:ax)(h:(k=1/\f<2)\/(k=1/\2<f)\/(k=3/\f<2)\/(k=3/\2<f)\/(k=4/\f<2)\/(k=4/\2<f)\/(k=2/\f<0)\/(k=2/\12<f)\/(k=5/\f<0)\/(k=5/\0<f)):
 Calls prog 89 #[ah k,ah f] w fun e w'=>e=.returned (.tuple #[ah 0,ah 1])/\w'=w:=by
 rcases h with⟨rfl,h⟩|⟨rfl,h⟩|⟨rfl,h⟩|⟨rfl,h⟩|⟨rfl,h⟩|⟨rfl,h⟩|⟨rfl,h⟩|⟨rfl,h⟩|⟨rfl,h⟩|⟨rfl,h⟩
 ·go_enter func89,ntmps89;exact vD
 ·go_enter func89,ntmps89;exact vD
 ·go_enter func89,ntmps89;exact vC
 ·go_enter func89,ntmps89;exact vC
 ·go_enter func89,ntmps89;exact vB
 ·go_enter func89,ntmps89;exact vB
 ·go_enter func89,ntmps89;exact vz
 ·go_enter func89,ntmps89;exact vz
 ·go_enter func89,ntmps89;exact vA
 ·go_enter func89,ntmps89;exact vA
theorem B0 (k f:Int)(w:ax)(b:k≠1)(c:k≠2)(d:k≠3)(g:k≠4)(i:k≠5):
 Calls prog 89 #[ah k,ah f] w fun e w'=>e=.returned (.tuple #[ah 0,ah 2])/\w'=w:=by
 have j:fk k=false:=by simp[fk,b,c,d,g,i]
 go_enter func89,ntmps89;go_wp2_with fail;refine(j8 _ _).mono ?_;rintro e w1 ⟨rfl,rfl⟩
 go_wp2;go_ret2;exact⟨rfl,rfl⟩
theorem oI (k f:Int)(w:ax):
 Calls prog 89 #[ah k,ah f] w fun e w'=>e=.returned (.tuple #[ah (hw k f),ah (hc k f)])/\w'=w:=by
 by_cases h:hc k f=0
 ·rw[rP k f h,h];exact BY k f w h
 ·rw[BD k f h];rcases BG k f h with e|⟨b,c,d,g,i⟩
  ·rw[BH k f e];exact BZ k f w e
  ·rw[BF k f b c d g i];exact B0 k f w b c d g i
theorem B3 (h:Int)(w:ax):
 Calls prog 178 #[ah h] w fun e w'=>e=.returned (.tuple #[ah (pk h),ah (pf h),ah (pc h)])/\w'=w:=by
 have ha:=Bx h;by_cases c:hc (h%16) (h/16)=0
 ·have b:pk h=h%16:=by unfold pk;rw[aI c]
  have d:pf h=h/16:=by unfold pf;rw[aI c]
  have f:pc h=0:=by unfold pc;rw[aI c]
  rw[b,d,f];clear b d f;have t:(hc (h%16) (h/16)!=0)=false:=by simpa using c
  clear c;exact vF
 ·have b:pk h=0:=by unfold pk;rw[aG c]
  have d:pf h=0:=by unfold pf;rw[aG c]
  have f:pc h=7:=by unfold pc;rw[aG c]
  rw[b,d,f];exact vF
structure At (w:ax)(p q N O y g:Nat)(ws:List Int):Prop where
 hp:w.heap[p]?=some (.cells #[.slice (ak q) (N+O) (N+O),ah 0,ah N,ah y,ah N,ah O,ah g] 122 (0,0))
 hq:w.heap[q]?=some (.cells (ws.map (Value.int .i64)).toArray 2 (0,0))
 hl:ws.length=N+O
 hN:16<=N
 hN':N<=256
 hO:O<=1024
 hy:y<=N
 hg:g<=O
structure c_ (p q:Nat)(w w':ax):Prop where
 os:w'.os=w.os
 tape:w'.tape=w.tape
 output:w'.output=w.output
 size:w.heap.size<=w'.heap.size
 block:∀k,k<w.heap.size->k≠p->k≠q->w'.heap[k]?=w.heap[k]?
theorem lt_of_some {w:ax}{k:Nat}{o:Obj}(h:w.heap[k]?=some o):k<w.heap.size:=(Array.getElem?_eq_some_iff.1 h).1
theorem c_.refl (p q:Nat)(w:ax):c_ p q w w:=⟨rfl,rfl,rfl,aD _,fun _ _ _ _=>rfl⟩
theorem aT {n m k:Nat}:n <= m -> m <= k -> n <= k:=Nat.le_trans
theorem aM {n m k:Nat}:n < m -> m <= k -> n < k:=Nat.lt_of_lt_of_le
theorem c_.trans {p q:Nat}{a b c:ax}(h:c_ p q a b)(k:c_ p q b c):c_ p q a c:=
 ⟨k.os.trans h.os,k.tape.trans h.tape,k.output.trans h.output,aT h.size k.size,fun i hi d e=>(k.block i (aM hi h.size) d e).trans (h.block i hi d e)⟩
theorem c_.of {p q:Nat}{w w':ax}(h:aw w w'):c_ p q w w':=⟨h.os,h.tape,h.output,h.size,fun k hk _ _=>h.block k hk⟩
theorem aU (w:ax)(a:Addr)(u:Value)(k:Nat)(h:k ≠ a.block):(w.setCell a u).heap[k]? = w.heap[k]?:=by intros;apply Below.heap_setCell<;>assumption
theorem c_.oJ {p q:Nat}{w:ax}(o:Nat)(v:Value):c_ p q w (w.setCell ⟨p,o,none⟩ v):=
 ⟨rfl,rfl,rfl,by simp[World.setCell],fun k _ b _=>aU _ _ _ _ b⟩
theorem c_.r6 {p q:Nat}{w:ax}(o:Nat)(v:Value):c_ p q w (w.setCell ⟨q,o,none⟩ v):=
 ⟨rfl,rfl,rfl,by simp[World.setCell],fun k _ _ b=>aU _ _ _ _ b⟩
theorem c_.B4 {p q:Nat}{w:ax}(b:Array Value):c_ p q w (w.setRow q b):=
 ⟨rfl,rfl,rfl,by simp[World.setRow],fun k _ _ c=>setRow_other w q k b c⟩
theorem c_.drew {p q:Nat}{a w:ax}(h:c_ p q a w):c_ p q a w.drew:=⟨h.os,h.tape,h.output,h.size,h.block⟩
theorem c_.below {p q B:Nat}{w w':ax}(h:c_ p q w w')(hB:B<=w.heap.size)(hp:B<=p)(hq:B<=q):Below B w w':=
 ⟨h.os,h.tape,h.output,h.size,fun k hk=>h.block k V V V⟩
theorem At.eL {w:ax}{p q N O y g:Nat}{ws:List Int}(h:At w p q N O y g ws):p<w.heap.size:=lt_of_some h.hp
theorem At.eM {w:ax}{p q N O y g:Nat}{ws:List Int}(h:At w p q N O y g ws):q<w.heap.size:=lt_of_some h.hq
theorem At.ne {w:ax}{p q N O y g:Nat}{ws:List Int}(h:At w p q N O y g ws):p≠q:=by intro e;have b:=h.hp;rw[e,h.hq] at b;simp at b
theorem At.same {w w':ax}{p q N O y g:Nat}{ws:List Int}(h:At w p q N O y g ws)(ep:w'.heap[p]?=w.heap[p]?)(eq:w'.heap[q]?=w.heap[q]?):At w' p q N O y g ws:=
 ⟨ep.trans h.hp,eq.trans h.hq,h.hl,h.hN,h.hN',h.hO,h.hy,h.hg⟩
theorem At.below {w w':ax}{p q N O y g B:Nat}{ws:List Int}(h:At w p q N O y g ws)(hb:Below B w w')(hB:w.heap.size<=B):At w' p q N O y g ws:=
 h.same (hb.block p (aM h.eL hB)) (hb.block q (aM h.eM hB))
theorem aS (w:ax)(o:Obj)(k:Nat)(h:k < w.heap.size):(w.alloc o).heap[k]? = w.heap[k]?:=by intros;apply Below.heap_alloc<;>assumption
theorem At.alloc {w:ax}{p q N O y g:Nat}{ws:List Int}(h:At w p q N O y g ws)(o:Obj):At (w.alloc o) p q N O y g ws:=
 h.same (aS _ _ _ h.eL) (aS _ _ _ h.eM)
theorem At.drew {w:ax}{p q N O y g:Nat}{ws:List Int}(h:At w p q N O y g ws):At w.drew p q N O y g ws:=h.same rfl rfl
theorem At.cells {w:ax}{p q N O y g:Nat}{ws:List Int}(h:At w p q N O y g ws):
 w.cell? (aq p 0)=some (.slice (ak q) (N+O) (N+O))/\w.cell? (aq p 1)=some (ah 0)/\w.cell? (aq p 2)=some (ah N)/\w.cell? (aq p 3)=some (ah y)/\
 w.cell? (aq p 4)=some (ah N)/\w.cell? (aq p 5)=some (ah O)/\w.cell? (aq p 6)=some (ah g):=by
 refine⟨?_,?_,?_,?_,?_,?_,?_⟩<;>simp[World.cell?,h.hp]
theorem At.frozen {w:ax}{p q N O y g:Nat}{ws:List Int}(h:At w p q N O y g ws)(o:Nat):w.frozen? (aq p o)=false:=by simp[World.frozen?,h.hp]
theorem At.r7 {w:ax}{p q N O y g:Nat}{ws:List Int}(h:At w p q N O y g ws)(o:Nat):w.frozen? (aq q o)=false:=by simp[World.frozen?,h.hq]
theorem At.word {w:ax}{p q N O y g:Nat}{ws:List Int}(h:At w p q N O y g ws)(i:Nat)(hi:i<N+O):w.cell? (aq q i)=some (ah (ws.getD i 0)):=by have hl:=h.hl;simp[World.cell?,h.hq,List.getElem?_map,List.getElem?_eq_getElem (show i<ws.length by omega),List.getD_eq_getElem?_getD]
theorem a4 {α:Type _}{«as»:List α}{i:Nat}{a:α}:(«as».set i a).length = «as».length:=List.length_set ..
theorem At.set {w:ax}{p q N O y g:Nat}{ws:List Int}(h:At w p q N O y g ws)(i:Nat)(x:Int):At (w.setCell ⟨q,i,none⟩ (.int .i64 x)) p q N O y g (ws.set i x):=by
 refine⟨(aU _ _ _ _ h.ne).trans h.hp,?_,by rw[a4];exact h.hl,h.hN,h.hN',h.hO,h.hy,h.hg⟩
 simp only [World.setCell,Array.getElem?_modify,if_true,h.hq,Option.map_some];simp[List.map_set]
theorem At.row {w:ax}{p q N O y g:Nat}{ws us:List Int}(h:At w p q N O y g ws)(b:us.length=N+O):At (w.setRow q (us.map (Value.int .i64)).toArray) p q N O y g us:=
 ⟨(setRow_other w q p _ h.ne).trans h.hp,setRow_heap w q _ _ _ _ h.hq,b,h.hN,h.hN',h.hO,h.hy,h.hg⟩
theorem At.vN {w:ax}{p q N O y g:Nat}{ws:List Int}(h:At w p q N O y g ws)(z:Nat)(hz:z<=N):At (w.setCell ⟨p,3,none⟩ (.int .i64 z)) p q N O z g ws:=by
 refine⟨?_,(aU _ _ _ _ h.ne.symm).trans h.hq,h.hl,h.hN,h.hN',h.hO,hz,h.hg⟩
 simp only [World.setCell,Array.getElem?_modify,if_true,h.hp,Option.map_some];simp
theorem At.vO {w:ax}{p q N O y g:Nat}{ws:List Int}(h:At w p q N O y g ws)(z:Nat)(hz:z<=O):At (w.setCell ⟨p,6,none⟩ (.int .i64 z)) p q N O y z ws:=by
 refine⟨?_,(aU _ _ _ _ h.ne.symm).trans h.hq,h.hl,h.hN,h.hN',h.hO,h.hy,hz⟩
 simp only [World.setCell,Array.getElem?_modify,if_true,h.hp,Option.map_some];simp
structure Fr (X:Nat->Prop)(w w':ax):Prop where
 os:w'.os=w.os
 tape:w'.tape=w.tape
 output:w'.output=w.output
 size:w.heap.size<=w'.heap.size
 block:∀k,k<w.heap.size->¬X k->w'.heap[k]?=w.heap[k]?
theorem Fr.refl (X:Nat->Prop)(w:ax):Fr X w w:=⟨rfl,rfl,rfl,aD _,fun _ _ _=>rfl⟩
theorem Fr.trans {X Y:Nat->Prop}{a b c:ax}(h:Fr X a b)(k:Fr Y b c)(hy:∀i,Y i->X i\/a.heap.size<=i):Fr X a c:=
 ⟨k.os.trans h.os,k.tape.trans h.tape,k.output.trans h.output,aT h.size k.size,fun i hi d=>(k.block i (aM hi h.size) (fun c=>(hy i c).elim d (fun c=>by omega))).trans (h.block i hi d)⟩
theorem Fr.mono {X Y:Nat->Prop}{w w':ax}(h:Fr X w w')(hy:∀i,X i->Y i):Fr Y w w':=⟨h.os,h.tape,h.output,h.size,fun i hi b=>h.block i hi (fun c=>b (hy i c))⟩
theorem Fr.of {X:Nat->Prop}{w w':ax}(h:aw w w'):Fr X w w':=⟨h.os,h.tape,h.output,h.size,fun k hk _=>h.block k hk⟩
theorem Fr.alloc {X:Nat->Prop}{a w:ax}(h:Fr X a w)(o:Obj):Fr X a (w.alloc o):=h.trans (Fr.of (bX.alloc bW _)) (fun _ c=>aK c)
theorem Fr.drew {X:Nat->Prop}{a w:ax}(h:Fr X a w):Fr X a w.drew:=⟨h.os,h.tape,h.output,h.size,h.block⟩
theorem Fr.set {X:Nat->Prop}{a w:ax}(h:Fr X a w)(c o:Nat)(v:Value)(hc:X c):Fr X a (w.setCell ⟨c,o,none⟩ v):=
 ⟨h.os,h.tape,h.output,by simpa[World.setCell] using h.size,fun k hk b=>(aU _ _ _ _ (fun e=>b (by rw[e];exact hc))).trans (h.block k hk b)⟩
theorem Fr.grown {X:Nat->Prop}{a w w':ax}{row:Option Nat}(h:Fr X a w)(g:w.grownBy w' row)(hr:∀k,row=some k->X k\/a.heap.size<=k):Fr X a w':=
 ⟨g.os.trans h.os,g.tape.trans h.tape,g.output.trans h.output,aT h.size g.size,fun k hk b=>(g.block k (aM hk h.size) (fun e=>(hr k e.symm).elim b (fun c=>by omega))).trans (h.block k hk b)⟩
theorem Fr.below {X:Nat->Prop}{w w':ax}{B:Nat}(h:Fr X w w')(hB:B<=w.heap.size)(b:∀k,X k->B<=k):Below B w w':=
 ⟨h.os,h.tape,h.output,h.size,fun k hk=>h.block k V (fun c=>by have:=b k c;omega)⟩
theorem cH {w w':ax}{base n m:Nat}{e:TypeId}{v:Value}{l:List Value}(h:w.ownsRow base e m v n l)(hk:∀k,some k=v.ownBlock->w'.heap[k]?=w.heap[k]?):w'.ownsRow base e m v n l:=by
 refine⟨h.1,?_⟩
 rcases h.2 with hn|⟨g,cap,b,rfl,hb,c,d⟩
 ·exact .inl hn
 ·exact .inr ⟨g,cap,b,rfl,hb,(hk g rfl).trans c,d⟩
theorem cn {w:ax}{base n m:Nat}{e:TypeId}{v:Value}{l:List Value}(h:w.ownsRow base e m v n l):∀k,some k=v.ownBlock->base<=k/\k<w.heap.size:=fun k hk=>h.lt k hk.symm
theorem hQ {X:Nat->Prop}{w w':ax}{base n m:Nat}{e:TypeId}{v:Value}{l:List Value}(h:w.ownsRow base e m v n l)(f:Fr X w w')(b:∀k,some k=v.ownBlock->¬X k):w'.ownsRow base e m v n l:=
 cH h (fun k hk=>f.block k (cn h k hk).2 (b k hk))
theorem eT {w:ax}{base base' n m:Nat}{e:TypeId}{v:Value}{l:List Value}(h:w.ownsRow base e m v n l)(hb:∀k,some k=v.ownBlock->base'<=k):w.ownsRow base' e m v n l:=by
 refine⟨h.1,?_⟩
 rcases h.2 with hn|⟨g,cap,b,rfl,_,c⟩
 ·exact .inl hn
 ·exact .inr ⟨g,cap,b,rfl,hb g rfl,c⟩
theorem e5 {w:ax}{base n m:Nat}{e:TypeId}{v:Value}{l:List Value}(h:w.ownsRow base e m v n l):∀k,some k=v.ownBlock->∃b,w.heap[k]?=some (.cells b e (0,0)):=by
 intro k hk;rcases h.2 with⟨rfl,_⟩|⟨g,cap,b,rfl,_,c,_⟩
 ·simp[Value.ownBlock] at hk
 ·simp[Value.ownBlock] at hk;subst hk;exact⟨b,c⟩
theorem eU {w:ax}{base n m:Nat}{e:TypeId}{v:Value}{l:List Value}(h:w.ownsRow base e m v n l)(hn:0<n):∃b cap,v=.slice (ak b) n cap:=by
 rcases h.2 with⟨_,h0⟩|⟨g,cap,c,hv,_⟩
 ·omega
 ·exact⟨g,cap,hv⟩
theorem eE {w:ax}{base n m:Nat}{e:TypeId}{v:Value}{l:List Value}(h:w.ownsRow base e m v n l):∃ad cap,v=.slice ad n cap:=by
 rcases h.2 with⟨hv,h0⟩|⟨g,cap,b,hv,_⟩
 ·exact⟨none,0,by rw[hv,h0]⟩
 ·exact⟨_,cap,hv⟩
def iJ (w:ax)(ad:Option Addr)(l:List Int):Prop:=0<l.length->∃b o,ad=some ⟨b,o,none⟩/\b<w.heap.size/\∀i,i<l.length->w.cell? (aq b (o+i))=some (ah (l.getD i 0))
def dv (w:ax)(ad:Option Addr)(l:List (Int×Int)):Prop:=
 0<l.length->∃b o,ad=some ⟨b,o,none⟩/\b<w.heap.size/\∀i,i<l.length->w.cell? (aq b (o+i*2))=some (ah (l.getD i (0,0)).1)/\w.cell? (aq b (o+i*2+1))=some (ah (l.getD i (0,0)).2)
def ev (l:List (Int×Int)):List Value:=l.flatMap fun e=>[ah e.1,ah e.2]
theorem iV (a b:List (Int×Int)):ev (a++b)=ev a++ev b:=by simp[ev]
theorem kB:∀l:List (Int×Int),(ev l).length=l.length*2
 |[]=>rfl
 |e::r=>by
  have:=kB r;simp[ev] at this⊢
  omega
theorem nN:∀(l:List (Int×Int))(i:Nat),i<l.length->(ev l)[i*2]?=some (ah (l.getD i (0,0)).1)/\(ev l)[i*2+1]?=some (ah (l.getD i (0,0)).2)
 |[],i,h=>by simp at h
 |e::r,0,_=>by simp[ev]
 |e::r,i+1,h=>by
  have b:(ev (e::r))=ah e.1::ah e.2::ev r:=by simp[ev]
  rw[b,show(i+1)*2=i*2+1+1 by omega];simpa using(nN r i (by simpa using h))
theorem gH {w:ax}{base:Nat}{e:TypeId}{ad:Option Addr}{cap:Nat}{l:List Int}(h:w.ownsRow base e 1 (.slice ad l.length cap) l.length (l.map (Value.int .i64))):iJ w ad l:=by
 intro hp;rcases h.2 with⟨_,h0⟩|⟨g,j,d,hv,hb,b,k,m,n,f⟩
 ·omega
 ·obtain⟨rfl,rfl⟩:=hv;refine⟨g,0,rfl,lt_of_some b,fun i hi=>?_⟩
  have c:(d.toList.take (l.length*1))[i]?=some (ah (l.getD i 0)):=by rw[f];simp[List.getElem?_map,List.getElem?_eq_getElem hi]
  rw[List.getElem?_take_of_lt V] at c;simp[World.cell?,b];simpa using c
theorem g7 {w:ax}{base:Nat}{e:TypeId}{ad:Option Addr}{cap:Nat}{l:List _}(h:w.ownsRow base e 2 (.slice ad l.length cap) l.length (ev l)):dv w ad l:=by
 intro hp;rcases h.2 with⟨_,h0⟩|⟨g,f,j,hv,hb,b,k,m,n,d⟩
 ·omega
 ·obtain⟨rfl,rfl⟩:=hv;refine⟨g,0,rfl,lt_of_some b,fun i hi=>?_⟩
  obtain⟨k1,c⟩:=nN l i hi;rw[<-d,List.getElem?_take_of_lt V] at k1 c;constructor
  ·simp[World.cell?,b];simpa using k1
  ·simp[World.cell?,b];simpa using c
theorem aP {w w':ax}{a:Addr}(h:w'.heap[a.block]? = w.heap[a.block]?):w'.cell? a = w.cell? a:=by intros;apply World.cell?_of_block<;>assumption
theorem iJ.keep {w w':ax}{ad:Option Addr}{l:List Int}(h:iJ w ad l)(hs:w.heap.size<=w'.heap.size)(hk:0<l.length->∀a,ad=some a->w'.heap[a.block]?=w.heap[a.block]?):iJ w' ad l:=by intro hp;obtain⟨b,o,rfl,hb,hc⟩:=h hp;exact⟨b,o,rfl,V,fun i hi=>(aP (a:=⟨b,o+i,none⟩) (hk hp ⟨b,o,none⟩ rfl)).trans (hc i hi)⟩
theorem dv.keep {w w':ax}{ad:Option Addr}{l:List _}(h:dv w ad l)(hs:w.heap.size<=w'.heap.size)(hk:0<l.length->∀a,ad=some a->w'.heap[a.block]?=w.heap[a.block]?):dv w' ad l:=by intro hp;obtain⟨b,o,rfl,hb,hc⟩:=h hp;exact⟨b,o,rfl,V,fun i hi=>⟨(aP (a:=⟨b,o+i*2,none⟩) (hk hp ⟨b,o,none⟩ rfl)).trans (hc i hi).1,(aP (a:=⟨b,o+i*2+1,none⟩) (hk hp ⟨b,o,none⟩ rfl)).trans (hc i hi).2⟩⟩
open Go.RowKit W Kp
theorem vP:(prog.info? 2).map (fun i=>(i.zero,i.size,i.bytes))=some (some (ah 0),1,8):=ae
end Go.Proofs.YtpkjkjhanlbcoaaGreat
