import Derived.Test.YtpkjkjhanlbcoaaGreatJ00
import Derived.Below
import Derived.Test.YtpkjkjhanlbcoaaGreatChecked
import Derived.WalkKit
import Derived.WalkSpells
import Derived.Deep.QuietTactic
import Derived.BigQuiet
import Derived.WalkSmall
import Derived.Laws.CopyOwn
import Derived.Maps.AppendAt
import Derived.Deep.RegionHeld3
import Derived.ArgAppend
import Derived.Deep.RegionLawGrows
import Derived.Deep.RegionWith
namespace Go.Proofs.YtpkjkjhanlbcoaaGreat
theorem ae{P:Prop}(h:P:=by decide):P:=h
theorem ah{P:Prop}(h:P:=by kernel_rfl):P:=h
theorem aj{P:Prop}(h:P:=by go_num):P:=h
set_option maxRecDepth 100000
set_option maxHeartbeats 1000000
open Tryz
open Go.RowKit
abbrev ak(n:Int):Value:=.int .i64 n
abbrev av(b n:Nat):Addr:=⟨b,n,none⟩
abbrev au(b:Nat):Option Addr:=some ⟨b,0,none⟩
abbrev aq(b:Nat):Value:=.pointer (some ⟨b,0,none⟩)
theorem b7{n:Nat}:n<=n:=Nat.le_refl n
abbrev az:=World
theorem b8{B:Nat}{w:az}:Below B w w:=Below.refl B w
theorem kl {P:Prop}(h:P:=by go_wp2;go_ret;exact⟨rfl,b8.alloc b7 _⟩):P:=h
theorem vY {P:Prop}(h:P:=by
 obtain⟨h1,h2⟩:=h;rcases h2 with⟨e,_⟩|⟨k',cap,cur,hv,hb,hh,h3,h4,h5,h6⟩
 ·cases e
 ·cases hv;rw[hh];have:cur.toList=(List.replicate n (0:Int)).map (Value.int .i64):=by rw[<-List.take_of_length_le (l:=cur.toList) (i:=n*1) (by simp;omega),h6];show(madeCells #[Value.int .i64 0] (n*1)).toList=_;rw[toList_madeCells_one];simp
  rw[<-this]):P:=h
theorem a5 {P:Go.Program}{fn:Go.Func}{R:Go.Ending -> az -> Prop}{a:Go.Act}{w:az}{v:Value}(hr:Go.Sem.run P (Go.results fn a.tmps) w = Go.Result.ok v w)(hd:a.defers = [])(hR:R (Go.Ending.returned v) w):Go.bodyPost P fn R Go.Exit.ret a w:=by intros;apply bodyPost_ret<;>assumption
theorem sa {P:Prop}(h:P:=by go_wp2_with fail;exact a5 (v:=.tuple #[.pointer none,.agg #[ak 1,ak (-1)]]) (by simp[results,results85,go_sem]) rfl ⟨rfl,b8.alloc b7 _⟩):P:=h
theorem sc {P:Prop}(h:P:=by
 go_enter func94,ntmps94;go_wp2_with fail;refine(vZ x _).mono ?_;rintro e w1 ⟨rfl,hb⟩
 go_wp2_with fail;go_ret2;exact⟨rfl,hb.alloc hb.size _⟩):P:=h
theorem oS {P:Prop}(h:P:=by
 go_enter func168,ntmps168;go_wp2
 go_ret3
 exact⟨rfl,rfl⟩):P:=h
theorem v4 {P:Prop}(h:P:=by
 go_wp2_with fail;refine(km _ _).mono ?_;rintro e w1 ⟨rfl,rfl⟩
 rw[show fl 2=0 from rfl,show fm 2=12 from rfl,show fk 2=true from rfl];go_wp2;go_ret2;exact⟨rfl,rfl⟩):P:=h
theorem v5 {P:Prop}(h:P:=by
 go_wp2_with fail;refine(km _ _).mono ?_;rintro e w1 ⟨rfl,rfl⟩
 rw[show fl 5=0 from rfl,show fm 5=0 from rfl,show fk 5=true from rfl];go_wp2;go_ret2;exact⟨rfl,rfl⟩):P:=h
theorem v6 {P:Prop}(h:P:=by
 go_wp2_with fail;refine(km _ _).mono ?_;rintro e w1 ⟨rfl,rfl⟩
 rw[show fl 4=2 from rfl,show fm 4=2 from rfl,show fk 4=true from rfl];go_wp2;go_ret2;exact⟨rfl,rfl⟩):P:=h
theorem v7 {P:Prop}(h:P:=by
 go_wp2_with fail;refine(km _ _).mono ?_;rintro e w1 ⟨rfl,rfl⟩
 rw[show fl 3=2 from rfl,show fm 3=2 from rfl,show fk 3=true from rfl];go_wp2;go_ret2;exact⟨rfl,rfl⟩):P:=h
theorem v8 {P:Prop}(h:P:=by
 go_wp2_with fail;refine(km _ _).mono ?_;rintro e w1 ⟨rfl,rfl⟩
 rw[show fl 1=2 from rfl,show fm 1=2 from rfl,show fk 1=true from rfl];go_wp2;go_ret2;exact⟨rfl,rfl⟩):P:=h
theorem v9 {P:Prop}(h:P:=by
 go_enter func99,ntmps99;go_wp2_with (go_at_call 176;refine(Cf _ _ _).mono ?_;rintro e w' ⟨rfl,rfl⟩)
 go_ret;exact⟨rfl,b8.alloc b7 _⟩):P:=h
theorem se {P:Prop}(h:P:=by
 go_wp2
 go_quiet (fail)
 go_wp2;go_ret2;exact⟨rfl,below_drewN b8 _⟩):P:=h
theorem p_ {P:Prop}(h:P:=by go_wp2;go_ret2;exact⟨sf (by decide+kernel),rfl⟩):P:=h
theorem v_ {P:Prop}(h:P:=by
 go_enter func178,ntmps178;go_wp2_with fail;refine(oT _ _ _).mono ?_;rintro e w1 ⟨rfl,rfl⟩
 go_wp2
 go_ret3
 exact⟨rfl,rfl⟩):P:=h
theorem qa {P:Prop}(h:P:=by
 rintro e w1 ⟨rfl,hb1⟩
 go_wp2;go_ret;exact⟨rfl,hb1⟩):P:=h
theorem sg {P:Prop}(h:P:=by go_enter func224,ntmps224;go_wp2;go_ret;exact⟨rfl,rfl⟩):P:=h
theorem si {P:Prop}(h:P:=by go_enter func100,ntmps100;go_wp2;go_ret;exact⟨rfl,rfl⟩):P:=h
abbrev aA(p:Prop):Prop:=Hid p
theorem aA.o{p:Prop}(h:aA p):p:=h
theorem hide {p:Prop}(h:p):aA p:=h
theorem c7 {p q:Prop}(a:p)(b:q):aA (p/\q):=⟨a,b⟩
theorem gM {p q r:Prop}(a:p)(b:q)(c:r):aA (p/\q/\r):=⟨a,b,c⟩
theorem iT {p q r s:Prop}(a:p)(b:q)(c:r)(d:s):aA (p/\q/\r/\s):=⟨a,b,c,d⟩
theorem wc {p q r s t:Prop}(a:p)(b:q)(c:r)(d:s)(e:t):aA (p/\q/\r/\s/\t):=⟨a,b,c,d,e⟩
theorem Ch {p q r s t u:Prop}(a:p)(b:q)(c:r)(d:s)(e:t)(f:u):aA (p/\q/\r/\s/\t/\u):=⟨a,b,c,d,e,f⟩
theorem Cj {p q r s t u v:Prop}(a:p)(b:q)(c:r)(d:s)(e:t)(f:u)(g:v):aA (p/\q/\r/\s/\t/\u/\v):=⟨a,b,c,d,e,f,g⟩
open Go.RowKit W
theorem Cf (n low:Int)(w:az):
 Calls prog 176 #[ak n,ak low] w fun e w'=>e=.returned (ak (rc n low))/\w'=w:=by
 by_cases c1:n<low
 ·have e:rc n low=1:=by unfold rc;rw[aK c1]
  rw[e];go_enter func176,ntmps176;go_wp2;go_ret;exact⟨rfl,rfl⟩
 ·by_cases c2:1152921504606846976<=n
  ·have e:rc n low=1:=by unfold rc;rw[aI c1,aK c2]
   rw[e];go_enter func176,ntmps176;go_wp2;go_ret;exact⟨rfl,rfl⟩
  ·have e:rc n low=0:=by unfold rc;rw[aI c1,aI c2]
   rw[e];go_wp2;go_ret;exact⟨rfl,rfl⟩
theorem Cn (k:Int)(w:az):
 Calls prog 100 #[ak k] w fun e w'=>e=.returned (ak (tg k))/\w'=w:=by
 by_cases c1:k=1
 ·subst c1;exact si
 ·by_cases c3:k=3
  ·subst c3;exact si
  ·by_cases c0:k=0
   ·subst c0;exact si
   ·have e:tg k=3:=by unfold tg;rw[aI c1,aI c3,aI c0]
    rw[e];go_wp2;go_ret;exact⟨rfl,rfl⟩
theorem wh (t:Int)(w:az):
 Calls prog 224 #[ak t] w fun e w'=>e=.returned (ak (iS t))/\w'=w:=by
 by_cases c1:t=0
 ·subst c1;exact sg
 ·by_cases c3:t=1
  ·subst c3;exact sg
  ·by_cases c0:t=2
   ·subst c0;exact sg
   ·have e:iS t=2:=by unfold iS;rw[aI c1,aI c3,aI c0]
    rw[e];go_wp2;go_ret;exact⟨rfl,rfl⟩
theorem Co (n:Int):vc 0 n=if n=0 then 0 else 7:=by simp[vc]
theorem Cr (n:Int):vc 2 n=if n=0 then 0 else 7:=by simp[vc]
theorem Ct (n:Int):vc 1 n=rc n (-1152921504606846976):=by simp[vc]
theorem sj (n:Int):vc 3 n=rc n 0:=by simp[vc]
theorem qb (k n:Int)(w:az):
 Calls prog 99 #[.agg #[ak k,ak n]] w fun e w'=>e=.returned (ak (vc k n))/\Below w.heap.size w w':=by
 by_cases c0:k=0
 ·subst c0;rw[Co];by_cases c:n=0
  ·subst c;go_enter func99,ntmps99;exact kl
  ·rw[aI c];go_enter func99,ntmps99;exact kl
 ·by_cases c2:k=2
  ·subst c2;rw[Cr];by_cases c:n=0
   ·subst c;go_enter func99,ntmps99;exact kl
   ·rw[aI c];go_enter func99,ntmps99;exact kl
  ·by_cases c1:k=1
   ·subst c1;rw[Ct];exact v9
   ·by_cases c3:k=3
    ·subst c3;rw[sj];exact v9
    ·have e:vc k n=2:=by unfold vc;rw[aI c0,aI c2,aI c1,aI c3]
     rw[e];go_enter func99,ntmps99;exact kl
theorem sk {B:Nat}{W w1:az}(hb:Below B W w1):(∀b o,b<B->w1.cell? (av b o)=W.cell? (av b o))/\(∀b o,b<B->w1.frozen? (av b o)=W.frozen? (av b o)):=
 ⟨fun b o h=>hb.cell (p:=av b o) h,fun b o h=>hb.frozen (p:=av b o) h⟩
theorem wi {w w1:az}{a b c d:Value}{s t:TypeId}(hb:Below ((w.alloc (.cells #[a,b] s)).alloc (.cells #[c,d] t)).heap.size ((w.alloc (.cells #[a,b] s)).alloc (.cells #[c,d] t)) w1):
 w1.cell? (av w.heap.size 0)=some a/\w1.cell? (av w.heap.size 1)=some b/\w1.cell? (av (w.heap.size+1) 0)=some c/\w1.cell? (av (w.heap.size+1) 1)=some d/\w1.frozen? (av w.heap.size 0)=false/\w1.frozen? (av w.heap.size 1)=false/\w.heap.size+2<=w1.heap.size:=by
 obtain⟨hc,e⟩:=sk hb;refine⟨?_,?_,?_,?_,?_,?_,by simpa using hb.size⟩
 ·rw[hc _ _ (by simp;omega)];simp[go_sem]
 ·rw[hc _ _ (by simp;omega)];simp[go_sem]
 ·rw[hc _ _ ac];simp[go_sem]
 ·rw[hc _ _ ac];simp[go_sem]
 ·rw[e _ _ (by simp;omega)];simp[go_sem]
 ·rw[e _ _ (by simp;omega)];simp[go_sem]
theorem sf {a b:Int}{c:Value}(h:a=b):Ending.returned (.tuple #[ak a,c])=.returned (.tuple #[ak b,c]):=by rw[h]
theorem wj (k n:Int)(w:az):
 Calls prog 46 #[.agg #[ak k,ak n]] w fun e w'=>e=.returned (.tuple #[ak (ew k n),ak (vc k n)])/\Below w.heap.size w w':=by
 by_cases h:vc k n=0
 ·rw[r6 k n h];have hn:=BW k n h;have H:=hide h;rw[H.o];go_enter func46,ntmps46;go_wp2_with fail;refine(qb k n _).mono ?_;rintro e w1 ⟨rfl,hb⟩
  rw[H.o];obtain⟨hc,b⟩:=sk hb;go_wp2
  go_quiet ((go_at_call 100;exact Calls.quiet_of_same (Cn _ _)))
  go_wp2;go_ret2;exact⟨sf (hide (BX k n hn.1 hn.2)).o,below_drewN ((b8.alloc b7 _).trans (hb.mono ac)) _⟩
 ·rw[B0 k n h];go_enter func46,ntmps46;go_wp2_with fail;refine(qb k n _).mono ?_;rintro e w1 ⟨rfl,hb⟩
  go_wp2;go_ret2;exact⟨rfl,(b8.alloc b7 _).trans (hb.mono ac)⟩
theorem vZ (x:Int)(w:az):
 Calls prog 173 #[ak x] w fun e w'=>e=.returned (.tuple #[.agg #[ak (dk x),ak (dm x)],ak (dc x)])/\Below w.heap.size w w':=by
 have g:=BQ x;by_cases h:dc x=0
 ·have b:dk x=iS (x%4):=by unfold dk;rw[aK h]
  have c:dm x=x/4:=by unfold dm;rw[aK h]
  have H:aA (vc (iS (x%4)) (x/4)=0):=h;rw[h,b,c];clear h b c;go_enter func173,ntmps173;go_wp2_with fail;refine(wh _ _).mono ?_;rintro e w' ⟨rfl,rfl⟩
  go_wp2_with fail;refine(qb (iS (x%4)) (x/4) _).mono ?_;rintro e w1 ⟨rfl,hb⟩
  rw[H.o];obtain⟨c0,c1,c2,c3,d,f,hz⟩:=wi hb;go_wp2_with fail;exact a5 (v:=.tuple #[.agg #[ak (iS (x%4)),ak (x/4)],ak 0]) (by simp[results,results173,go_sem,c0,c1]) rfl ⟨rfl,((((b8.alloc b7 _).alloc ac _).trans (hb.mono (by simp;omega))).setCell b7 _).setCell b7 _⟩
 ·have b:dk x=0:=by unfold dk;rw[aI h]
  have c:dm x=0:=by unfold dm;rw[aI h]
  rw[b,c];have hn:(vc (iS (x%4)) (x/4)!=0)=true:=by simpa[dc] using h
  have E:aA (dc x=vc (iS (x%4)) (x/4)):=rfl;rw[E.o];clear h b c;go_enter func173,ntmps173;go_wp2_with fail;refine(wh _ _).mono ?_;rintro e w' ⟨rfl,rfl⟩
  go_wp2_with fail;refine(qb (iS (x%4)) (x/4) _).mono ?_;rintro e w1 ⟨rfl,hb⟩
  obtain⟨c0,c1,c2,c3,d,f,hz⟩:=wi hb;go_wp2_with fail;exact a5 (v:=.tuple #[.agg #[ak 0,ak 0],ak (vc (iS (x%4)) (x/4))]) (by simp[results,results173,go_sem,c0,c1]) rfl ⟨rfl,((((b8.alloc b7 _).alloc ac _).trans (hb.mono (by simp;omega))).setCell b7 _).setCell b7 _⟩
theorem sq (w:az):Calls prog 47 #[] w fun e w'=>e=.returned (ak 2)/\w'=w:=by go_wp2;go_ret;exact⟨rfl,rfl⟩
theorem nW (w:az):Calls prog 191 #[] w fun e w'=>e=.returned (ak 3)/\w'=w:=by go_wp2;go_ret;exact⟨rfl,rfl⟩
theorem sr (n:Int)(w:az):
 Calls prog 42 #[ak n] w fun e w'=>e=.returned (ak (ew 3 n))/\Below w.heap.size w w':=by
 go_enter func42,ntmps42;go_wp2_with fail;refine(wj 3 n _).mono ?_;rintro e w1 ⟨rfl,hb⟩
 go_wp2_with fail;go_ret;exact⟨rfl,hb⟩
theorem nY (x:Int)(w:az):
 Calls prog 94 #[ak x] w fun e w'=>e=.returned (.tuple #[ak (cq x),.bool (dd x)])/\Below w.heap.size w w':=by
 by_cases h0:dc x=0
 ·have t0:(dc x !=0)=false:=by simpa using h0
  by_cases c:dk x=3
  ·have b:dd x=true:=by unfold dd;rw[h0,c];rfl
   rw[lW x b,b];have t3:(dk x !=3)=false:=by simpa using c
   exact sc
  ·have b:dd x=false:=by unfold dd;rw[beq_eq_false_iff_ne.2 c];simp
   rw[vU x b,b];exact sc
 ·have b:dd x=false:=by unfold dd;rw[beq_eq_false_iff_ne.2 h0];simp
  rw[vU x b,b];exact sc
theorem km (k:Int)(w:az):
 Calls prog 168 #[ak k] w fun e w'=>e=.returned (.tuple #[ak (fl k),ak (fm k),.bool (fk k)])/\w'=w:=by
 by_cases c1:k=1
 ·subst c1;exact oS
 by_cases c2:k=2
 ·subst c2;exact oS
 by_cases c3:k=3
 ·subst c3;exact oS
 by_cases c4:k=4
 ·subst c4;exact oS
 by_cases c5:k=5
 ·subst c5;exact oS
 have b:fl k=0:=by simp[fl,c1,c3,c4]
 have c:fm k=0:=by simp[fm,c1,c2,c3,c4]
 have d:fk k=false:=by simp[fk,c1,c2,c3,c4,c5]
 rw[b,c,d];go_wp2
 go_ret3
 exact⟨rfl,rfl⟩
theorem Cu (k f:Int)(w:az)(h:hc k f=0):
 Calls prog 89 #[ak k,ak f] w fun e w'=>e=.returned (.tuple #[ak (16*f+k),ak 0])/\w'=w:=by
 rcases oQ k f h with⟨rfl,rfl⟩|⟨rfl,rfl⟩|⟨rfl,rfl⟩|⟨rfl,b,c⟩|⟨rfl,rfl⟩
 ·go_enter func89,ntmps89;go_wp2_with fail;refine(km _ _).mono ?_;rintro e w1 ⟨rfl,rfl⟩
  rw[show fl 1=2 from rfl,show fm 1=2 from rfl,show fk 1=true from rfl];exact p_
 ·go_enter func89,ntmps89;go_wp2_with fail;refine(km _ _).mono ?_;rintro e w1 ⟨rfl,rfl⟩
  rw[show fl 3=2 from rfl,show fm 3=2 from rfl,show fk 3=true from rfl];exact p_
 ·go_enter func89,ntmps89;go_wp2_with fail;refine(km _ _).mono ?_;rintro e w1 ⟨rfl,rfl⟩
  rw[show fl 4=2 from rfl,show fm 4=2 from rfl,show fk 4=true from rfl];exact p_
 ·have E:=hide (BY 2 f h)
  go_enter func89,ntmps89;go_wp2_with fail;refine(km _ _).mono ?_;rintro e w1 ⟨rfl,rfl⟩
  rw[show fl 2=0 from rfl,show fm 2=12 from rfl,show fk 2=true from rfl];go_wp2;go_ret2;exact⟨sf E.o,rfl⟩
 ·go_enter func89,ntmps89;go_wp2_with fail;refine(km _ _).mono ?_;rintro e w1 ⟨rfl,rfl⟩
  rw[show fl 5=0 from rfl,show fm 5=0 from rfl,show fk 5=true from rfl];exact p_
theorem Cv (k f:Int)(w:az)(h:(k=1/\f<2)\/(k=1/\2<f)\/(k=3/\f<2)\/(k=3/\2<f)\/(k=4/\f<2)\/(k=4/\2<f)\/(k=2/\f<0)\/(k=2/\12<f)\/(k=5/\f<0)\/(k=5/\0<f)):
 Calls prog 89 #[ak k,ak f] w fun e w'=>e=.returned (.tuple #[ak 0,ak 1])/\w'=w:=by
 rcases h with⟨rfl,h⟩|⟨rfl,h⟩|⟨rfl,h⟩|⟨rfl,h⟩|⟨rfl,h⟩|⟨rfl,h⟩|⟨rfl,h⟩|⟨rfl,h⟩|⟨rfl,h⟩|⟨rfl,h⟩
 ·go_enter func89,ntmps89;exact v8
 ·go_enter func89,ntmps89;exact v8
 ·go_enter func89,ntmps89;exact v7
 ·go_enter func89,ntmps89;exact v7
 ·go_enter func89,ntmps89;exact v6
 ·go_enter func89,ntmps89;exact v6
 ·go_enter func89,ntmps89;exact v4
 ·go_enter func89,ntmps89;exact v4
 ·go_enter func89,ntmps89;exact v5
 ·go_enter func89,ntmps89;exact v5
theorem Cw (k f:Int)(w:az)(b:k≠1)(c:k≠2)(d:k≠3)(g:k≠4)(i:k≠5):
 Calls prog 89 #[ak k,ak f] w fun e w'=>e=.returned (.tuple #[ak 0,ak 2])/\w'=w:=by
 have j:fk k=false:=by simp[fk,b,c,d,g,i]
 go_enter func89,ntmps89;go_wp2_with fail;refine(km _ _).mono ?_;rintro e w1 ⟨rfl,rfl⟩
 go_wp2;go_ret2;exact⟨rfl,rfl⟩
theorem oT (k f:Int)(w:az):
 Calls prog 89 #[ak k,ak f] w fun e w'=>e=.returned (.tuple #[ak (hw k f),ak (hc k f)])/\w'=w:=by
 by_cases h:hc k f=0
 ·rw[r5 k f h,h];exact Cu k f w h
 ·rw[BZ k f h];rcases B4 k f h with e|⟨b,c,d,g,i⟩
  ·rw[B5 k f e];exact Cv k f w e
  ·rw[B3 k f b c d g i];exact Cw k f w b c d g i
theorem Cx (h:Int)(w:az):
 Calls prog 178 #[ak h] w fun e w'=>e=.returned (.tuple #[ak (pk h),ak (pf h),ak (pc h)])/\w'=w:=by
 have ha:=BR h;by_cases c:hc (h%16) (h/16)=0
 ·have b:pk h=h%16:=by unfold pk;rw[aK c]
  have d:pf h=h/16:=by unfold pf;rw[aK c]
  have f:pc h=0:=by unfold pc;rw[aK c]
  rw[b,d,f];clear b d f;have t:(hc (h%16) (h/16)!=0)=false:=by simpa using c
  clear c;exact v_
 ·have b:pk h=0:=by unfold pk;rw[aI c]
  have d:pf h=0:=by unfold pf;rw[aI c]
  have f:pc h=7:=by unfold pc;rw[aI c]
  rw[b,d,f];exact v_
structure At (w:az)(p q N O y g:Nat)(ws:List Int):Prop where
 hp:w.heap[p]?=some (.cells #[.slice (au q) (N+O) (N+O),ak 0,ak N,ak y,ak N,ak O,ak g] 122 (0,0))
 hq:w.heap[q]?=some (.cells (ws.map (Value.int .i64)).toArray 2 (0,0))
 hl:ws.length=N+O
 hN:16<=N
 hN':N<=256
 hO:O<=1024
 hy:y<=N
 hg:g<=O
structure dh (p q:Nat)(w w':az):Prop where
 os:w'.os=w.os
 tape:w'.tape=w.tape
 output:w'.output=w.output
 size:w.heap.size<=w'.heap.size
 block:∀k,k<w.heap.size->k≠p->k≠q->w'.heap[k]?=w.heap[k]?
theorem lt_of_some {w:az}{k:Nat}{o:Obj}(h:w.heap[k]?=some o):k<w.heap.size:=(Array.getElem?_eq_some_iff.1 h).1
theorem aG (n:Nat):n <= n:=Nat.le_refl ..
theorem dh.refl (p q:Nat)(w:az):dh p q w w:=⟨rfl,rfl,rfl,aG _,fun _ _ _ _=>rfl⟩
theorem aU {n m k:Nat}:n <= m -> m <= k -> n <= k:=Nat.le_trans
theorem aO {n m k:Nat}:n < m -> m <= k -> n < k:=Nat.lt_of_lt_of_le
theorem dh.trans {p q:Nat}{a b c:az}(h:dh p q a b)(k:dh p q b c):dh p q a c:=
 ⟨k.os.trans h.os,k.tape.trans h.tape,k.output.trans h.output,aU h.size k.size,fun i hi d e=>(k.block i (aO hi h.size) d e).trans (h.block i hi d e)⟩
theorem dh.of {p q:Nat}{w w':az}(h:Below w.heap.size w w'):dh p q w w':=⟨h.os,h.tape,h.output,h.size,fun k hk _ _=>h.block k hk⟩
theorem aW (w:az)(a:Addr)(u:Value)(k:Nat)(h:k ≠ a.block):(w.setCell a u).heap[k]? = w.heap[k]?:=by intros;apply Below.heap_setCell<;>assumption
theorem dh.oU {p q:Nat}{w:az}(o:Nat)(v:Value):dh p q w (w.setCell ⟨p,o,none⟩ v):=
 ⟨rfl,rfl,rfl,by simp_all,fun k _ b _=>aW _ _ _ _ b⟩
theorem dh.ss {p q:Nat}{w:az}(o:Nat)(v:Value):dh p q w (w.setCell ⟨q,o,none⟩ v):=
 ⟨rfl,rfl,rfl,by simp_all,fun k _ _ b=>aW _ _ _ _ b⟩
theorem dh.Cy {p q:Nat}{w:az}(b:Array Value):dh p q w (w.setRow q b):=
 ⟨rfl,rfl,rfl,by simp_all,fun k _ _ c=>setRow_other w q k b c⟩
theorem dh.drew {p q:Nat}{a w:az}(h:dh p q a w):dh p q a w.drew:=⟨h.os,h.tape,h.output,h.size,h.block⟩
theorem dh.below {p q B:Nat}{w w':az}(h:dh p q w w')(hB:B<=w.heap.size)(hp:B<=p)(hq:B<=q):Below B w w':=
 ⟨h.os,h.tape,h.output,h.size,fun k hk=>h.block k aa aa aa⟩
theorem At.e5 {w:az}{p q N O y g:Nat}{ws:List Int}(h:At w p q N O y g ws):p<w.heap.size:=lt_of_some h.hp
theorem At.e7 {w:az}{p q N O y g:Nat}{ws:List Int}(h:At w p q N O y g ws):q<w.heap.size:=lt_of_some h.hq
theorem At.ne {w:az}{p q N O y g:Nat}{ws:List Int}(h:At w p q N O y g ws):p≠q:=by intro e;have b:=h.hp;rw[e,h.hq] at b;simp at b
theorem At.same {w w':az}{p q N O y g:Nat}{ws:List Int}(h:At w p q N O y g ws)(ep:w'.heap[p]?=w.heap[p]?)(eq:w'.heap[q]?=w.heap[q]?):At w' p q N O y g ws:=
 ⟨ep.trans h.hp,eq.trans h.hq,h.hl,h.hN,h.hN',h.hO,h.hy,h.hg⟩
theorem At.below {w w':az}{p q N O y g B:Nat}{ws:List Int}(h:At w p q N O y g ws)(hb:Below B w w')(hB:w.heap.size<=B):At w' p q N O y g ws:=
 h.same (hb.block p (aO h.e5 hB)) (hb.block q (aO h.e7 hB))
theorem aS (w:az)(o:Obj)(k:Nat)(h:k < w.heap.size):(w.alloc o).heap[k]? = w.heap[k]?:=by intros;apply Below.heap_alloc<;>assumption
theorem At.alloc {w:az}{p q N O y g:Nat}{ws:List Int}(h:At w p q N O y g ws)(o:Obj):At (w.alloc o) p q N O y g ws:=
 h.same (aS _ _ _ h.e5) (aS _ _ _ h.e7)
theorem At.drew {w:az}{p q N O y g:Nat}{ws:List Int}(h:At w p q N O y g ws):At w.drew p q N O y g ws:=h.same rfl rfl
theorem At.cells {w:az}{p q N O y g:Nat}{ws:List Int}(h:At w p q N O y g ws):
 w.cell? (av p 0)=some (.slice (au q) (N+O) (N+O))/\w.cell? (av p 1)=some (ak 0)/\w.cell? (av p 2)=some (ak N)/\w.cell? (av p 3)=some (ak y)/\
 w.cell? (av p 4)=some (ak N)/\w.cell? (av p 5)=some (ak O)/\w.cell? (av p 6)=some (ak g):=by
 refine⟨?_,?_,?_,?_,?_,?_,?_⟩<;>simp[World.cell?,h.hp]
theorem At.frozen {w:az}{p q N O y g:Nat}{ws:List Int}(h:At w p q N O y g ws)(o:Nat):w.frozen? (av p o)=false:=by simp[World.frozen?,h.hp]
theorem At.su {w:az}{p q N O y g:Nat}{ws:List Int}(h:At w p q N O y g ws)(o:Nat):w.frozen? (av q o)=false:=by simp[World.frozen?,h.hq]
theorem At.word {w:az}{p q N O y g:Nat}{ws:List Int}(h:At w p q N O y g ws)(i:Nat)(hi:i<N+O):w.cell? (av q i)=some (ak (ws.getD i 0)):=by have hl:=h.hl;simp[World.cell?,h.hq,List.getElem?_map,List.getElem?_eq_getElem (show i<ws.length by omega),List.getD_eq_getElem?_getD]
theorem bf {α:Type _}{«as»:List α}{i:Nat}{a:α}:(«as».set i a).length = «as».length:=List.length_set ..
theorem At.set {w:az}{p q N O y g:Nat}{ws:List Int}(h:At w p q N O y g ws)(i:Nat)(x:Int):At (w.setCell ⟨q,i,none⟩ (.int .i64 x)) p q N O y g (ws.set i x):=by
 refine⟨(aW _ _ _ _ h.ne).trans h.hp,?_,by rw[bf];exact h.hl,h.hN,h.hN',h.hO,h.hy,h.hg⟩
 simp only [World.setCell,Array.getElem?_modify,if_true,h.hq,Option.map_some];simp[List.map_set]
theorem At.row {w:az}{p q N O y g:Nat}{ws us:List Int}(h:At w p q N O y g ws)(b:us.length=N+O):At (w.setRow q (us.map (Value.int .i64)).toArray) p q N O y g us:=
 ⟨(setRow_other w q p _ h.ne).trans h.hp,setRow_heap w q _ _ _ _ h.hq,b,h.hN,h.hN',h.hO,h.hy,h.hg⟩
theorem At.wm {w:az}{p q N O y g:Nat}{ws:List Int}(h:At w p q N O y g ws)(z:Nat)(hz:z<=N):At (w.setCell ⟨p,3,none⟩ (.int .i64 z)) p q N O z g ws:=by
 refine⟨?_,(aW _ _ _ _ h.ne.symm).trans h.hq,h.hl,h.hN,h.hN',h.hO,hz,h.hg⟩
 simp only [World.setCell,Array.getElem?_modify,if_true,h.hp,Option.map_some];simp
theorem At.wn {w:az}{p q N O y g:Nat}{ws:List Int}(h:At w p q N O y g ws)(z:Nat)(hz:z<=O):At (w.setCell ⟨p,6,none⟩ (.int .i64 z)) p q N O y z ws:=by
 refine⟨?_,(aW _ _ _ _ h.ne.symm).trans h.hq,h.hl,h.hN,h.hN',h.hO,h.hy,hz⟩
 simp only [World.setCell,Array.getElem?_modify,if_true,h.hp,Option.map_some];simp
structure Fr (X:Nat->Prop)(w w':az):Prop where
 os:w'.os=w.os
 tape:w'.tape=w.tape
 output:w'.output=w.output
 size:w.heap.size<=w'.heap.size
 block:∀k,k<w.heap.size->¬X k->w'.heap[k]?=w.heap[k]?
theorem Fr.refl (X:Nat->Prop)(w:az):Fr X w w:=⟨rfl,rfl,rfl,aG _,fun _ _ _=>rfl⟩
theorem Fr.trans {X Y:Nat->Prop}{a b c:az}(h:Fr X a b)(k:Fr Y b c)(hy:∀i,Y i->X i\/a.heap.size<=i):Fr X a c:=
 ⟨k.os.trans h.os,k.tape.trans h.tape,k.output.trans h.output,aU h.size k.size,fun i hi d=>(k.block i (aO hi h.size) (fun c=>(hy i c).elim d (fun c=>by omega))).trans (h.block i hi d)⟩
theorem Fr.mono {X Y:Nat->Prop}{w w':az}(h:Fr X w w')(hy:∀i,X i->Y i):Fr Y w w':=⟨h.os,h.tape,h.output,h.size,fun i hi b=>h.block i hi (fun c=>b (hy i c))⟩
theorem Fr.of {X:Nat->Prop}{w w':az}(h:Below w.heap.size w w'):Fr X w w':=⟨h.os,h.tape,h.output,h.size,fun k hk _=>h.block k hk⟩
theorem aM {a b:Prop}(h:a):a \/ b:=by intros;apply Or.inl<;>assumption
theorem Fr.alloc {X:Nat->Prop}{a w:az}(h:Fr X a w)(o:Obj):Fr X a (w.alloc o):=h.trans (Fr.of (b8.alloc b7 _)) (fun _ c=>aM c)
theorem Fr.drew {X:Nat->Prop}{a w:az}(h:Fr X a w):Fr X a w.drew:=⟨h.os,h.tape,h.output,h.size,h.block⟩
theorem Fr.set {X:Nat->Prop}{a w:az}(h:Fr X a w)(c o:Nat)(v:Value)(hc:X c):Fr X a (w.setCell ⟨c,o,none⟩ v):=
 ⟨h.os,h.tape,h.output,by simpa[World.setCell] using h.size,fun k hk b=>(aW _ _ _ _ (fun e=>b (by rw[e];exact hc))).trans (h.block k hk b)⟩
theorem Fr.grown {X:Nat->Prop}{a w w':az}{row:Option Nat}(h:Fr X a w)(g:w.grownBy w' row)(hr:∀k,row=some k->X k\/a.heap.size<=k):Fr X a w':=
 ⟨g.os.trans h.os,g.tape.trans h.tape,g.output.trans h.output,aU h.size g.size,fun k hk b=>(g.block k (aO hk h.size) (fun e=>(hr k e.symm).elim b (fun c=>by omega))).trans (h.block k hk b)⟩
theorem Fr.below {X:Nat->Prop}{w w':az}{B:Nat}(h:Fr X w w')(hB:B<=w.heap.size)(b:∀k,X k->B<=k):Below B w w':=
 ⟨h.os,h.tape,h.output,h.size,fun k hk=>h.block k aa (fun c=>by have:=b k c;omega)⟩
theorem cL {w w':az}{base n m:Nat}{e:TypeId}{v:Value}{l:List Value}(h:w.ownsRow base e m v n l)(hk:∀k,some k=v.ownBlock->w'.heap[k]?=w.heap[k]?):w'.ownsRow base e m v n l:=by
 refine⟨h.1,?_⟩
 rcases h.2 with hn|⟨g,cap,b,rfl,hb,c,d⟩
 ·exact .inl hn
 ·exact .inr ⟨g,cap,b,rfl,hb,(hk g rfl).trans c,d⟩
theorem cu {w:az}{base n m:Nat}{e:TypeId}{v:Value}{l:List Value}(h:w.ownsRow base e m v n l):∀k,some k=v.ownBlock->base<=k/\k<w.heap.size:=fun k hk=>h.lt k hk.symm
theorem ii {X:Nat->Prop}{w w':az}{base n m:Nat}{e:TypeId}{v:Value}{l:List Value}(h:w.ownsRow base e m v n l)(f:Fr X w w')(b:∀k,some k=v.ownBlock->¬X k):w'.ownsRow base e m v n l:=
 cL h (fun k hk=>f.block k (cu h k hk).2 (b k hk))
theorem e8 {w:az}{base base' n m:Nat}{e:TypeId}{v:Value}{l:List Value}(h:w.ownsRow base e m v n l)(hb:∀k,some k=v.ownBlock->base'<=k):w.ownsRow base' e m v n l:=by
 refine⟨h.1,?_⟩
 rcases h.2 with hn|⟨g,cap,b,rfl,_,c⟩
 ·exact .inl hn
 ·exact .inr ⟨g,cap,b,rfl,hb g rfl,c⟩
theorem fp {w:az}{base n m:Nat}{e:TypeId}{v:Value}{l:List Value}(h:w.ownsRow base e m v n l):∀k,some k=v.ownBlock->∃b,w.heap[k]?=some (.cells b e (0,0)):=by
 intro k hk;rcases h.2 with⟨rfl,_⟩|⟨g,cap,b,rfl,_,c,_⟩
 ·simp[Value.ownBlock] at hk
 ·simp[Value.ownBlock] at hk;subst hk;exact⟨b,c⟩
theorem eT {w:az}{base n m:Nat}{e:TypeId}{v:Value}{l:List Value}(h:w.ownsRow base e m v n l)(hn:0<n):∃b cap,v=.slice (au b) n cap:=by
 rcases h.2 with⟨_,h0⟩|⟨g,cap,c,hv,_⟩
 ·omega
 ·simp_all
theorem eN {w:az}{base n m:Nat}{e:TypeId}{v:Value}{l:List Value}(h:w.ownsRow base e m v n l):∃ad cap,v=.slice ad n cap:=by
 rcases h.2 with⟨hv,h0⟩|⟨g,cap,b,hv,_⟩
 ·simp_all
 ·simp_all
def iU (w:az)(ad:Option Addr)(l:List Int):Prop:=0<l.length->∃b o,ad=some ⟨b,o,none⟩/\b<w.heap.size/\∀i,i<l.length->w.cell? (av b (o+i))=some (ak (l.getD i 0))
def dz (w:az)(ad:Option Addr)(l:List (Int×Int)):Prop:=
 0<l.length->∃b o,ad=some ⟨b,o,none⟩/\b<w.heap.size/\∀i,i<l.length->w.cell? (av b (o+i*2))=some (ak (l.getD i (0,0)).1)/\w.cell? (av b (o+i*2+1))=some (ak (l.getD i (0,0)).2)
def ev (l:List (Int×Int)):List Value:=l.flatMap fun e=>[ak e.1,ak e.2]
theorem i4 (a b:List (Int×Int)):ev (a++b)=ev a++ev b:=by simp[ev]
theorem kP:∀l:List (Int×Int),(ev l).length=l.length*2
 |[]=>rfl
 |e::r=>by
  have:=kP r;simp[ev] at this⊢
  omega
theorem nZ:∀(l:List (Int×Int))(i:Nat),i<l.length->(ev l)[i*2]?=some (ak (l.getD i (0,0)).1)/\(ev l)[i*2+1]?=some (ak (l.getD i (0,0)).2)
 |[],i,h=>by simp at h
 |e::r,0,_=>by simp[ev]
 |e::r,i+1,h=>by
  have b:(ev (e::r))=ak e.1::ak e.2::ev r:=by simp[ev]
  rw[b,show(i+1)*2=i*2+1+1 by omega];simpa using(nZ r i (by simpa using h))
theorem gX {w:az}{base:Nat}{e:TypeId}{ad:Option Addr}{cap:Nat}{l:List Int}(h:w.ownsRow base e 1 (.slice ad l.length cap) l.length (l.map (Value.int .i64))):iU w ad l:=by
 intro hp;rcases h.2 with⟨_,h0⟩|⟨g,f,d,hv,hb,b,j,k,m,n⟩
 ·omega
 ·obtain⟨rfl,rfl⟩:=hv;refine⟨g,0,rfl,lt_of_some b,fun i hi=>?_⟩
  have c:(d.toList.take (l.length*1))[i]?=some (ak (l.getD i 0)):=by simp_all
  rw[List.getElem?_take_of_lt aa] at c;simp[World.cell?,b];simpa using c
theorem hZ {w:az}{base:Nat}{e:TypeId}{ad:Option Addr}{cap:Nat}{l:List _}(h:w.ownsRow base e 2 (.slice ad l.length cap) l.length (ev l)):dz w ad l:=by
 intro hp;rcases h.2 with⟨_,h0⟩|⟨g,f,j,hv,hb,b,k,m,n,d⟩
 ·omega
 ·obtain⟨rfl,rfl⟩:=hv;refine⟨g,0,rfl,lt_of_some b,fun i hi=>?_⟩
  obtain⟨k1,c⟩:=nZ l i hi;rw[<-d,List.getElem?_take_of_lt aa] at k1 c;constructor
  ·simp[World.cell?,b];simpa using k1
  ·simp[World.cell?,b];simpa using c
theorem aQ {w w':az}{a:Addr}(h:w'.heap[a.block]? = w.heap[a.block]?):w'.cell? a = w.cell? a:=by intros;apply World.cell?_of_block<;>assumption
theorem iU.keep {w w':az}{ad:Option Addr}{l:List Int}(h:iU w ad l)(hs:w.heap.size<=w'.heap.size)(hk:0<l.length->∀a,ad=some a->w'.heap[a.block]?=w.heap[a.block]?):iU w' ad l:=by intro hp;obtain⟨b,o,rfl,hb,hc⟩:=h hp;exact⟨b,o,rfl,aa,fun i hi=>(aQ (a:=⟨b,o+i,none⟩) (hk hp ⟨b,o,none⟩ rfl)).trans (hc i hi)⟩
theorem dz.keep {w w':az}{ad:Option Addr}{l:List _}(h:dz w ad l)(hs:w.heap.size<=w'.heap.size)(hk:0<l.length->∀a,ad=some a->w'.heap[a.block]?=w.heap[a.block]?):dz w' ad l:=by intro hp;obtain⟨b,o,rfl,hb,hc⟩:=h hp;exact⟨b,o,rfl,aa,fun i hi=>⟨(aQ (a:=⟨b,o+i*2,none⟩) (hk hp ⟨b,o,none⟩ rfl)).trans (hc i hi).1,(aQ (a:=⟨b,o+i*2+1,none⟩) (hk hp ⟨b,o,none⟩ rfl)).trans (hc i hi).2⟩⟩
open Go.RowKit W Kp
theorem wu:(prog.info? 2).map (fun i=>(i.zero,i.size,i.bytes))=some (some (ak 0),1,8):=ah
open Go.RowKit W Kp ck
theorem n3:(prog.info? 103).map (fun i=>(i.zero,i.size,i.bytes))=some (some (.agg #[ak 0,ak 0]),2,16):=ah
abbrev en (e:ce):Value:=.agg #[ak e.1,ak e.2]
structure dx (hX:Type) where
 J:(Nat->Prop)->hX->az->Prop
 lt:∀{F t w},J F t w->∀k,F k->k<w.heap.size
 keep:∀{F t w w'},J F t w->w.heap.size<=w'.heap.size->(∀k,F k->w'.heap[k]?=w.heap[k]?)->J F t w'
theorem dx.fr {b:Type}(o:dx b){F X:Nat->Prop}{t:b}{w w':az}(h:o.J F t w)(f:Fr X w w')(c:∀k,F k->¬X k):o.J F t w':=o.keep h f.size (fun k hk=>f.block k (o.lt h k hk) (c k hk))
theorem dx.below {b:Type}(o:dx b){F:Nat->Prop}{t:b}{w w':az}(h:o.J F t w)(f:Below w.heap.size w w'):o.J F t w':=o.keep h f.size (fun k hk=>f.block k (o.lt h k hk))
def dS (f:Nat):Prop:=∀(args:Array Value)(w:az),(callFunc f args).run prog w=.ok (.enter f args) w
theorem gw {f:Nat}{b:Func}{c:Code}(d:Tryz.prog.funcs[f]?=some b)(e:(b.name== "runtime.NumGoroutine")=false)(hb:b.body=some c):dS f:=by
 intro args w;have g:b.name≠ "runtime.NumGoroutine" :=by simpa using e
 simp[callFunc,d,g,hb]
theorem qc {b:Type}(o:dx b){F:Nat->Prop}{t:b}{w c:az}{f:Obj}{d:Option Nat}(h:o.J F t w)(hg:(w.alloc f).grownBy c d)(g:∀k,some k=d->¬F k):o.J F t c:=
 o.keep h (by have:=hg.size;simp at this;omega) (fun k hk=>(hg.block k (by have:=o.lt h k hk;simp;omega) (fun e=>g k e hk)).trans (aS _ _ _ (o.lt h k hk)))
theorem ww {w b:az}{base n m:Nat}{e:TypeId}{v:Value}{l:List Value}{d:Obj}{c:Option Nat}(h:w.ownsRow base e m v n l)(hg:(w.alloc d).grownBy b c)(f:∀k,some k=v.ownBlock->some k≠c):b.ownsRow base e m v n l:=
 cL h (fun k hk=>(hg.block k (by have:=(cu h k hk).2;simp;omega) (f k hk)).trans (aS _ _ _ (cu h k hk).2))
theorem f9 {w:az}{base n m:Nat}{e:TypeId}{v:Value}{l:List Value}(h:w.ownsRow base e m v n l)(b:Obj):(w.alloc b).ownsRow base e m v n l:=
 cL h (fun k hk=>aS _ _ _ (cu h k hk).2)
def Looks {d:Type}(o:dx d)(D:ce->Prop)(G:d->Prop)(f:Nat)(b c:Array Value)(lk:d->ce->Bool×d):Prop:=
 ∀F t w (e:ce),D e->G t->o.J F t w->Calls prog f (b.push (en e)++c) w fun r w'=>∃g,r=.returned (.bool (lk t e).1)/\o.J g (lk t e).2 w'/\Fr F w w'/\∀k,g k->F k\/w.heap.size<=k
def eB {b:Type}(lk:b->ce->Bool×b)(s:List ce×List ce×b)(e:ce):List ce×List ce×b:=
 if(lk s.2.2 e).1 then(s.1++[e],s.2.1,(lk s.2.2 e).2) else(s.1,s.2.1++[e],(lk s.2.2 e).2)
def pts {b:Type}(lk:b->ce->Bool×b)(t:b)(l:List ce):List ce×List ce×b:=l.foldl (eB lk) ([],[],t)
theorem Cz {b:Type}(lk:b->ce->Bool×b)(t:b)(l:List ce)(e:ce):pts lk t (l++[e])=eB lk (pts lk t l) e:=by simp[pts,List.foldl_append]
theorem a9 {α:Type _}{β:Type _}{a:α}{l:List α}{f:β -> α -> β}{b:β}:List.foldl f b (a :: l) = List.foldl f (f b a) l:=List.foldl_cons ..
theorem oV {b:Type}(lk:b->ce->Bool×b)(t:b)(l:List ce):(pts lk t l).1.length+(pts lk t l).2.1.length=l.length:=by
 have key:∀(l:List ce)(s:List ce×List ce×b),(l.foldl (eB lk) s).1.length+(l.foldl (eB lk) s).2.1.length=s.1.length+s.2.1.length+l.length:=by
  intro l
  induction l with
  |nil=>simp
  |cons e r c=>
   intro s;rw[a9,c];unfold eB;split<;>simp<;>omega
 simpa[pts] using key l ([],[],t)
theorem a4 (n:Nat):0 <= n:=Nat.zero_le ..
theorem bc (w:az)(base:Nat)(e:Go.TypeId)(size:Nat):w.ownsRow base e size (Value.slice Option.none 0 0) 0 []:=World.ownsRow_nil ..
theorem aJ {α:Type _}{l:List α}{i:Nat}{a:α}:l.getD i a = l[i]?.getD a:=List.getD_eq_getElem?_getD ..
theorem aN {α:Type _}{l:List α}{i:Nat}(h:i < l.length):l[i]? = some l[i]:=List.getElem?_eq_getElem ..
theorem a8 {α:Type _}{l:List α}{n:Nat}(h:n < l.length):l[n] ∈ l:=List.getElem_mem ..
theorem aP (w:az)(o:Obj):(w.alloc o).heap[w.heap.size]? = some o:=heap_alloc_new ..
theorem bz {α:Type _}{l:List α}:List.take l.length l = l:=List.take_length ..
theorem aD{w:World}{b o:Nat}{c:Array Value}{T:TypeId}{g:Nat×Nat}{v:Value}(h:w.heap[b]?=some (.cells c T g))(e:c[o]?=some v:=by rfl):w.cell? ⟨b,o,none⟩=some v:=by simp[World.cell?,h];exact e
theorem wx {ag:Type}(o:dx ag)(D:ce->Prop)(G:ag->Prop)(f:Nat)(b c:Array Value)(lk:ag->ce->Bool×ag)(b0:dS f)(hl:Looks o D G f b c lk)(l:List ce)(ad:Option Addr)(cap:Nat)(F:Nat->Prop)(t:ag)(w:az)
 (ci:∀e∈l,D e)(b1:∀j,j<l.length->G (pts lk t (l.take j)).2.2)(hm:l.length<=100000)(cj:o.J F t w)(hp:∀q bn w',o.J q bn w'->Fr F w w'->dz w' ad l):
 Calls prog 150 #[.slice ad l.length cap,.func (.func f) b c] w fun r w'=>∃a1 c1 a2 c2 q,r=.returned (.tuple #[.slice a1 (pts lk t l).1.length c1,.slice a2 (pts lk t l).2.1.length c2])/\w'.ownsRow w.heap.size 103 2 (.slice a1 (pts lk t l).1.length c1) (pts lk t l).1.length (ev (pts lk t l).1)/\
  w'.ownsRow w.heap.size 103 2 (.slice a2 (pts lk t l).2.1.length c2) (pts lk t l).2.1.length (ev (pts lk t l).2.1)/\o.J q (pts lk t l).2.2 w'/\Fr F w w'/\(∀k,q k->F k\/w.heap.size<=k)/\(∀k,some k=(Value.slice a1 (pts lk t l).1.length c1).ownBlock->¬q k)/\(∀k,some k=(Value.slice a2 (pts lk t l).2.1.length c2).ownBlock->¬q k):=by
 obtain⟨b2,hi,b3,b5,b6⟩:=info_parts n3;have ck:aA (Looks o D G f b c lk):=hl;have cl:aA (∀j,j<l.length->G (pts lk t (l.take j)).2.2):=b1;clear b1;clear hl;have cm:aA (∀q bn w',o.J q bn w'->Fr F w w'->dz w' ad l):=hp;clear hp;have cA:∀(args:Array Value)(w:az),(callFunc f args).run prog w=.ok (.enter f args) w:=b0;clear b0;go_enter func150,ntmps150;go_wp2_with fail
 go_loopw [6,7,12] (fun cn co iv wr=>∃(j:Nat)(Y N:List ce)(s an:Option Addr)(v n:Nat)(p:Nat->Prop)(i:ag),j<=l.length/\iv=ak j/\aA (pts lk t (l.take j)=(Y,N,i))/\cn=.slice s Y.length v/\co=.slice an N.length n/\
  wr.ownsRow w.heap.size 103 2 (.slice s Y.length v) Y.length (ev Y)/\wr.ownsRow w.heap.size 103 2 (.slice an N.length n) N.length (ev N)/\o.J p i wr/\Fr F w wr/\aA (∀k,p k->F k\/w.heap.size<=k)/\
  aA (∀k,some k=(Value.slice s Y.length v).ownBlock->¬p k/\some k≠(Value.slice an N.length n).ownBlock)/\aA (∀k,some k=(Value.slice an N.length n).ownBlock->¬p k)) (fun _ _ iv _=>l.length-(intOf iv).toNat)
 case atStart=>exact⟨0,[],[],none,none,0,0,F,t,a4 _,rfl,rfl,rfl,rfl,bc _ _ _ _,bc _ _ _ _,cj,Fr.refl _ _,fun k h=>aM h,fun k e=>by simp[Value.ownBlock] at e,fun k e=>by simp[Value.ownBlock] at e⟩
 case round=>
  obtain⟨j,Y,N,s,an,v,n,p,i,d,rfl,al,rfl,rfl,ba,hN,am,ao,bb,ap,bd⟩:=hrel;by_cases ar:j<l.length
  ·obtain⟨cB,cC,cp,cD,hc⟩:=cm.o p i wr am ao aa;obtain⟨cq,cr⟩:=hc j ar;clear hc;have aB:D (l.getD j (0,0)):=ci _ (by rw[aJ,aN ar];exact a8 ar)
   have cs:G i:=by have:=cl.o j ar;rw[al.o] at this;exact this
   have B:=Cz lk t (l.take j) (l.getD j (0,0))
   rw[<-gL l j ar (0,0),al.o] at B;have B:aA (pts lk t (l.take (j+1))=eB lk (Y,N,i) ((l.getD j (0,0)).1,(l.getD j (0,0)).2)):=B;have aB:D ((l.getD j (0,0)).1,(l.getD j (0,0)).2):=aB;generalize (l.getD j (0,0)).1=g at cq B aB;generalize (l.getD j (0,0)).2=z at cr B aB;subst cp;have cE:Y.length+N.length<=100000:=by
    have b9:=oV lk t (l.take j)
    rw[al.o] at b9;simp at b9;omega
   have cF:=ao.size;have ca:=o.lt am;go_wp2_with fail;refine(ck.o p i _ (g,z) aB cs (o.below am (b8.alloc b7 _))).mono ?_;rintro e aF ⟨x,rfl,be,ai,bg⟩
   have ct:=ai.size;simp at ct;have cb:¬p wr.heap.size:=fun h=>by have:=ca _ h;omega
   have cc:=(ai.block _ ac cb).trans (aP _ _)
   have cG:aF.cell? (av wr.heap.size 0)=some (ak g):=aD cc
   have cH:aF.cell? (av wr.heap.size 1)=some (ak z):=aD cc
   have bi:=ii (f9 ba (.cells #[.int .i64 g,.int .i64 z] 103)) ai (fun k e=>(ap.o k e).1)
   have bl:=ii (f9 hN (.cells #[.int .i64 g,.int .i64 z] 103)) ai (fun k e=>bd.o k e)
   have cd:Fr F w aF:=(ao.alloc (.cells #[.int .i64 g,.int .i64 z] 103)).trans ai bb.o;have cf:aA (∀k,x k->F k\/w.heap.size<=k):=fun k hk=>(bg k hk).elim (fun h=>bb.o k h) (fun h=>aL (by simp at h;omega))
   have S:aA (∀k,some k=(Value.slice s Y.length v).ownBlock->¬x k/\some k≠(Value.slice an N.length n).ownBlock):=fun k e=>⟨fun h=>(bg k h).elim (ap.o k e).1 (fun h=>by have:=(cu ba k e).2;simp at h;omega),(ap.o k e).2⟩
   have bo:aA (∀k,some k=(Value.slice an N.length n).ownBlock->¬x k):=fun k e h=>(bg k h).elim (bd.o k e) (fun h=>by have:=(cu hN k e).2;simp at h;omega)
   have cg:=o.lt be;clear ba hN ao ai bb ap bd am bg ca cb;have hd:aA (pts lk t (l.take (j+1))=if(lk i (g,z)).1 then(Y++[(g,z)],N,(lk i (g,z)).2) else(Y,N++[(g,z)],(lk i (g,z)).2)):=B.o;clear B;generalize (lk i (g,z)).2=ch at be hd;cases hb:(lk i (g,z)).1
   ·rw[hb] at hd;have hd:=hide hd;go_wp2_with (at_builtin;refine wpList_append_own_at _ rfl _ _ 151 rfl w.heap.size 103 b2 (.agg #[ak 0,ak 0]) 2 16 underlying151 hi b3 b5 b6 rfl ae (.slice an N.length n) N.length (ev N) rfl (f9 bl _) ⟨aF.heap.size,0,none⟩ 1 1 [ak g,ak z] rfl rfl ?_ ?_ ?_ ?_ ?_ ?_;(intro j u d;match j,d with|0,d=>(simp at d;subst d;simp[Addr.add])|1,d=>(simp at d;subst d;simp[Addr.add]));(intro u m;simp at m;rcases m with m|m<;>(subst m;rfl));(unfold maxLen;omega);omega;(simp;omega);intro cv bp aR W _ br;obtain⟨b4,aV,bs⟩:=eT aR (Nat.succ_pos _);subst bs)
    have cw:bp.ownsRow w.heap.size 103 2 (.slice (au b4) (N++[(g,z)]).length aV) (N++[(g,z)]).length (ev (N++[(g,z)])):=by rw[i4];simpa[ev] using aR
    have cx:=qc o be W (fun k e=>bo.o k e)
    have bt:=ww bi W (fun k e=>(S.o k e).2)
    have cy:=(cd.alloc (.cells #[.int .i64 g,.int .i64 z] 103)).grown W (fun k e=>aL (cu bl k e.symm).1)
    have a0:=br.imp id (fun e=>by simpa[Value.ownBlock] using e)
    have bx:aA (∀k,some k=(Value.slice s Y.length v).ownBlock->¬x k/\some k≠some b4):=fun k e=>⟨(S.o k e).1,fun ab=>a0.elim (fun h=>(S.o k e).2 (ab.trans h)) (fun h=>by have:=(cu bi k e).2;simp at ab;omega)⟩
    have cz:aA (∀k,some k=some b4->¬x k):=fun k e h=>a0.elim (fun a3=>bo.o k (e.trans a3) h) (fun a3=>by have:=cg k h;simp at e;omega)
    go_wp2_with fail;go_roundw
    case rel=>exact⟨j+1,Y,N++[(g,z)],s,au b4,v,aV,x,ch,aa,aj,hd,rfl,ac,bt,cw,cx,cy,cf,bx,cz⟩
    case measure=>simp[intOf];omega
   ·rw[hb] at hd;go_wp2_with (at_builtin;refine wpList_append_own_at _ rfl _ _ 151 rfl w.heap.size 103 b2 (.agg #[ak 0,ak 0]) 2 16 underlying151 hi b3 b5 b6 rfl ae (.slice s Y.length v) Y.length (ev Y) rfl (f9 bi _) ⟨aF.heap.size,0,none⟩ 1 1 [ak g,ak z] rfl rfl ?_ ?_ ?_ ?_ ?_ ?_;(intro j u d;match j,d with|0,d=>(simp at d;subst d;simp[Addr.add])|1,d=>(simp at d;subst d;simp[Addr.add]));(intro u m;simp at m;rcases m with m|m<;>(subst m;rfl));(unfold maxLen;omega);omega;(simp;omega);intro cv bp aR W _ br;obtain⟨b4,aV,bs⟩:=eT aR (Nat.succ_pos _);subst bs)
    have bt:bp.ownsRow w.heap.size 103 2 (.slice (au b4) (Y++[(g,z)]).length aV) (Y++[(g,z)]).length (ev (Y++[(g,z)])):=by rw[i4];simpa[ev] using aR
    have a0:=br.imp id (fun e=>by simpa[Value.ownBlock] using e)
    have bx:aA (∀k,some k=some b4->¬x k/\some k≠(Value.slice an N.length n).ownBlock):=fun k e=>⟨fun h=>a0.elim (fun a3=>(S.o k (e.trans a3)).1 h) (fun a3=>by have:=cg k h;simp at e;omega),fun ab=>a0.elim (fun h=>(S.o k (e.trans h)).2 ab) (fun h=>by have:=(cu bl k ab).2;simp at e;omega)⟩
    go_wp2_with fail;go_roundw;exact⟨j+1,Y++[(g,z)],N,au b4,an,aV,n,x,ch,aa,aj,hd,ac,rfl,bt,(ww bl W (fun k e ab=>(S.o k ab).2 e)),(qc o be W (fun k e=>(S.o k e).1)),((cd.alloc (.cells #[.int .i64 g,.int .i64 z] 103)).grown W (fun k e=>aL (cu bi k e.symm).1)),cf,bx,bo⟩
    simp[intOf];omega
  ·obtain rfl:j=l.length:=aa;rw[bz] at al;go_wp2_with fail;go_ret2;rw[al.o];exact⟨_,_,_,_,p,rfl,ba,hN,am,ao,bb.o,fun k e=>(ap.o k e).1,bd.o⟩
theorem dz.apart {d:Type}{o:dx d}{F:Nat->Prop}{w:az}{ad:Option Addr}{l:List ce}(h:dz w ad l)(f:0<l.length->∀z,ad=some z->¬F z.block):∀g i w',o.J g i w'->Fr F w w'->dz w' ad l:=fun _ _ _ _ b=>
 h.keep b.size (fun hp z e=>by obtain⟨k,m,c,j,_⟩:=h hp;rw[e] at c;cases c;exact b.block _ j (f hp _ e))
def wy (w0:az):dx Unit where
 J F _ w:=(∀k,F k↔k<w0.heap.size)/\w0.heap.size<=w.heap.size/\∀k,k<w0.heap.size->w.heap[k]?=w0.heap[k]?
 lt:=by rintro F t w ⟨b,d,c⟩ k hk;have:=(b k).1 hk;omega
 keep:=by rintro F t w w' ⟨b,d,c⟩ hs hk;exact⟨b,aa,fun k h=>(hk k ((b k).2 h)).trans (c k h)⟩
theorem CA {b:Type}(p:b->ce->Bool)(s:b)(l:List ce):pts (fun s e=>(p s e,s)) s l=(l.filter (p s),l.filter (fun e=>!p s e),s):=by
 have key:∀(l Y N:List ce),l.foldl (eB (fun s e=>(p s e,s))) (Y,N,s)=(Y++l.filter (p s),N++l.filter (fun e=>!p s e),s):=by
  intro l
  induction l with
  |nil=>simp
  |cons e r c=>
   intro Y N;cases h:p s e
   ·simp[eB,h,c]
   ·simp[eB,h,c]
 simpa[pts] using key l [] []
theorem sv (D:ce->Prop)(f:Nat)(b c:Array Value)(p:ce->Bool)(m:dS f)(w:az)
 (hl:∀(w':az)(e:ce),D e->w.heap.size<=w'.heap.size->(∀k,k<w.heap.size->w'.heap[k]?=w.heap[k]?)->Calls prog f (b.push (en e)++c) w' fun r n=>r=.returned (.bool (p e))/\Below w'.heap.size w' n)
 (l:List ce)(ad:Option Addr)(cap:Nat)(g:∀e∈l,D e)(hm:l.length<=100000)(hp:dz w ad l):
 Calls prog 150 #[.slice ad l.length cap,.func (.func f) b c] w fun r w'=>∃a1 c1 a2 c2,r=.returned (.tuple #[.slice a1 (l.filter p).length c1,.slice a2 (l.filter (fun e=>!p e)).length c2])/\w'.ownsRow w.heap.size 103 2 (.slice a1 (l.filter p).length c1) (l.filter p).length (ev (l.filter p))/\
  w'.ownsRow w.heap.size 103 2 (.slice a2 (l.filter (fun e=>!p e)).length c2) (l.filter (fun e=>!p e)).length (ev (l.filter (fun e=>!p e)))/\Below w.heap.size w w':=by
 have P:=wx (wy w) D (fun _=>True) f b c (fun _ e=>(p e,())) m (by
  rintro F t w1 e g _ ⟨i,j2,cH⟩
  refine(hl w1 e g j2 cH).mono ?_;rintro r u ⟨rfl,hb⟩
  exact⟨F,rfl,(wy w).below ⟨i,j2,cH⟩ hb,Fr.of hb,fun k h=>aM h⟩) l ad cap (fun k=>k<w.heap.size) () w g (fun _ _=>trivial) hm ⟨fun k=>Iff.rfl,aG _,fun _ _=>rfl⟩
  (by
    rintro o v w' ⟨i,j2,cH⟩ _;refine hp.keep j2 (fun hq z e=>?_)
    obtain⟨x,B,j,q,_⟩:=hp hq;rw[e] at j;cases j;exact cH _ q)
 rw[CA (fun _ e=>p e) () l] at P;refine P.mono ?_;rintro r w' ⟨a1,c1,a2,c2,o,rfl,s,hN,⟨i,j2,cH⟩,d,_,_,_⟩
 exact⟨a1,c1,a2,c2,rfl,s,hN,d.os,d.tape,d.output,d.size,cH⟩
theorem CD (w:az)(ad:Option Addr)(n cap:Nat)(b:n<=cap):
 Calls prog 179 #[.slice ad n cap] w fun e w'=>e=.returned (.slice ad n n)/\w'=w:=by
 go_wp2;go_ret;exact⟨rfl,rfl⟩
structure iD (w:az)(ad:Option Addr)(l:List ce)(cap:Nat):Prop where
 lp:dz w ad l
 le:l.length<=cap
 nil:ad=none->l.length=0/\cap=0
theorem dz.cells {w:az}{ad:Option Addr}{q:List ce}(h:dz w ad q):∀b,ad=some b->∀j u,(ev q)[j]?=some u->w.cell? (b.add j)=some u:=by
 intro b e j u c;have hl:=kP q;have l:=(List.getElem?_eq_some_iff.1 c).1;obtain⟨g,o,i,hb,hc⟩:=h aa;rw[e] at i;cases i;obtain⟨c1,c2⟩:=hc (j/2) aa;obtain⟨k1,d⟩:=nZ q (j/2) aa;rcases Nat.mod_two_eq_zero_or_one j with hz|hz
 ·have f:j/2*2=j:=aa;rw[f] at k1 c1;rw[c] at k1;cases k1;rw[Addr.add_lit];exact c1
 ·have f:j/2*2+1=j:=aa;have k:o+j/2*2+1=o+j:=aa;rw[f] at d;rw[k] at c2;rw[c] at d;cases d;rw[Addr.add_lit];exact c2
theorem dz.below {w w':az}{ad:Option Addr}{l:List _}(h:dz w ad l)(hb:Below w.heap.size w w'):dz w' ad l:=
 h.keep hb.size (fun hp z e=>by obtain⟨b,o,c,d,_⟩:=h hp;rw[e] at c;cases c;exact hb.block _ d)
theorem aH (B:Nat)(w:az):Below B w w:=Below.refl ..
theorem wz (w:az)(ad:Option Addr)(q:List ce)(cap:Nat)(g z:Int)(h:iD w ad q cap)(hm:q.length<=100000):
 Calls prog 104 #[.slice ad q.length cap,.agg #[ak g,ak z]] w fun e w'=>∃b1 gx,e=.returned (.slice (au b1) (q.length+1) gx)/\w'.ownsRow w.heap.size 103 2 (.slice (au b1) (q.length+1) gx) (q.length+1) (ev (q++[(g,z)]))/\Below w.heap.size w w':=by
 obtain⟨i,hi,l,m,n⟩:=info_parts n3;have o:aA (dz w ad q):=h.lp;have p:aA (ad=none->q.length=0/\q.length=0):=fun e=>⟨(h.nil e).1,(h.nil e).1⟩
 have s:=h.le;clear h;go_enter func104,ntmps104;go_wp2_with fail
 go_region_held3 (fun w'=>w'.cell? (av w.heap.size 0)=some (ak g)/\w'.cell? (av w.heap.size 1)=some (ak z)) (go_keep)
  (first|(go_at_call 179;refine(CD _ ad q.length cap s).mono ?_;rintro e B ⟨rfl,rfl⟩)|(refine step_append_grows rfl (.tmp 6) (.tmp 8) 151 rfl 103 i (.agg #[ak 0,ak 0]) 2 16 underlying151 hi l m n rfl ae ad q.length q.length (ev q) (by simp[Act.eval]) p.o (kP q) (o.o.below (by first|exact(((aH _ w).alloc b7 _).alloc ac _).drew|exact((aH _ w).alloc b7 _).drew.alloc ac _)).cells ⟨w.heap.size+1,0,none⟩ 1 1 [ak g,ak z] (by simp[Act.eval]) rfl ?_ ?_ aa (by unfold maxLen;omega) aa ?_;(intro j u b;match j,b with|0,b=>(simp at b;subst b;simp[Addr.add])|1,b=>(simp at b;subst b;simp[Addr.add]));(intro u c;simp at c;rcases c with c|c<;>(subst c;rfl));intro F N f d;obtain⟨b4,t,x⟩:=eT f (Nat.succ_pos _);subst x;have y1:=d.cell (a:=⟨w.heap.size,0,none⟩) (v:=ak g) ac ac;have S:=d.cell (a:=⟨w.heap.size,1,none⟩) (v:=ak z) ac ac))
 all_goals
  go_wp2_with fail;go_ret;exact⟨b4,t,rfl,by rw[i4];exact e8 f (fun k e=>by have:=(cu f k e).1;simp at this;omega),by first|exact((((aH _ w).alloc b7 _).alloc ac _).drew).grown d (by simp;omega) (fun k e=>by cases e)|exact(((aH _ w).alloc b7 _).drew.alloc ac _).grown d (by simp;omega) (fun k e=>by cases e)⟩
theorem n5 (l:List ce):∀u∈ev l,u.oneCell'=true:=by intro u b;simp only [ev,List.mem_flatMap] at b;obtain⟨e,_,b⟩:=b;simp at b;rcases b with rfl|rfl<;>rfl
theorem CE (w:az):(w.alloc (.cells #[] 103)).ownsRow w.heap.size 103 2 (.slice (au w.heap.size) 0 0) 0 []:=
 ⟨rfl,aL ⟨w.heap.size,0,#[],rfl,aG _,aP _ _,aG _,a4 _,rfl,rfl⟩⟩
theorem sw (w:az)(ad:Option Addr)(l:List ce)(cap:Nat)(h:iD w ad l cap)(hm:l.length<=100000):
 Calls prog 212 #[.slice ad l.length cap] w fun e w'=>∃a1 c1,e=.returned (.slice a1 l.length c1)/\w'.ownsRow w.heap.size 103 2 (.slice a1 l.length c1) l.length (ev l)/\Below w.heap.size w w':=by
 obtain⟨f,hi,g,i,j⟩:=info_parts n3;have o:∀(w:az)(a:Option Addr)(n c:Nat),_=_:=fun w a n c=>Lib.run_eql_slice_nil w _ _ a n c 0 0 underlying151;have d:=hide h.lp;cases ad with
 |none=>
  have hl:=List.eq_nil_of_length_eq_zero (h.nil rfl).1;subst hl;clear h d;go_enter func212,ntmps212;go_wp2;go_ret;exact⟨none,0,rfl,bc _ _ _ _,aH _ _⟩
 |some a=>
  clear h;go_enter func212,ntmps212;go_wp2_with (at_builtin;refine wpList_append_own _ rfl _ _ 151 rfl w.heap.size 103 f _ 2 16 underlying151 hi g i j rfl ae _ 0 [] rfl (CE w) a l.length cap (ev l) rfl (kP l) ((d.o.below (b8.alloc b7 _)).cells a rfl) (n5 l) ?_ ?_ ?_ ?_;(unfold maxLen;omega);omega;(simp);intro v w1 b m _)
  rw[List.nil_append,Nat.zero_add] at b;obtain⟨a1,c1,rfl⟩:=eN b;go_wp2;go_ret;exact⟨a1,c1,rfl,b,(b8.alloc b7 _).grown m ac (fun k e=>by cases e;exact aG _)⟩
abbrev dY:=Int×Option Addr×Nat×List (Int×Int)
def nv (m:List dY):List Value:=m.flatMap fun x=>[ak x.1,.slice x.2.1 x.2.2.2.length x.2.2.1]
def ij (m:List dY):List (Int×List (Int×Int)):=m.map fun x=>(x.1,x.2.2.2)
theorem wA (a b:List dY):nv (a++b)=nv a++nv b:=by simp[nv]
theorem oW:∀(l:List dY)(i:Nat)(x:dY),l[i]?=some x->(nv l)[i*2]?=some (ak x.1)/\(nv l)[i*2+1]?=some (.slice x.2.1 x.2.2.2.length x.2.2.1)
 |[],i,x,h=>by grind
 |e::r,0,x,h=>by simp_all [nv]
 |e::r,i+1,x,h=>by have b:(nv (e::r))=ak e.1::.slice e.2.1 e.2.2.2.length e.2.2.1::nv r:=af;rw[b,show(i+1)*2=i*2+1+1 by omega];simpa using(oW r i x (by assumption))
theorem sy:∀(l:List dY)(i:Nat)(x:dY)(ad:Option Addr)(c:Nat)(b:List (Int×Int)),l[i]?=some x->nv (l.set i (x.1,ad,c,b))=(nv l).set (i*2+1) (.slice ad b.length c)
 |[],_,_,_,_,_,_=>rfl
 |e::l,0,x,ad,c,b,h=>by simp_all [nv]
 |e::l,i+1,x,ad,c,b,h=>by have d:(nv (e::l))=ak e.1::.slice e.2.1 e.2.2.2.length e.2.2.1::nv l:=af;have f:(nv (e::l.set i (x.1,ad,c,b)))=ak e.1::.slice e.2.1 e.2.2.2.length e.2.2.1::nv (l.set i (x.1,ad,c,b)):=af;rw[List.set_cons_succ,f,d,(sy l i x ad c b (by assumption)),show(i+1)*2+1=i*2+1+1+1 by omega];simp
theorem mU {w:az}{base size n g cap:Nat}{e:TypeId}{b:List Value}(h:w.ownsRow base e size (.slice (au g) n cap) n b)(i:Nat)(u:Value):(w.setCell ⟨g,i,none⟩ u).ownsRow base e size (.slice (au g) n cap) n (b.set i u):=by
 refine⟨by rw[bf];exact h.1,?_⟩
 rcases h.2 with⟨hv,_⟩|⟨k,l,c,hv,hb,hg,d,f,m,j⟩
 ·grind
 ·obtain⟨rfl,rfl⟩:=hv;refine aL ⟨g,cap,c.setIfInBounds i u,rfl,hb,?_,d,f,by simp_all,?_⟩
  ·simp only [World.setCell,Array.getElem?_modify,if_true,hg,Option.map_some];rfl
  ·rw[Array.toList_setIfInBounds,List.take_set,j]
def fC (w:az)(ad:Option Addr)(l:List (Int×Int)):Prop:=dz w ad l/\(0<l.length->∃b o c,ad=some ⟨b,o,none⟩/\w.heap[b]?=some (.cells c 97 (0,0)))
section
variable {w:az}
theorem fC.nil {ad:Option Addr}:fC w ad []:=⟨fun h=>by simp at h,fun h=>by simp at h⟩
theorem fC.of {base cap:Nat}{ad:Option Addr}{l:List _}(h:w.ownsRow base 97 2 (.slice ad l.length cap) l.length (ev l)):fC w ad l:=by
 refine⟨hZ h,fun hp=>?_⟩
 obtain⟨b,c0,c⟩:=eT h hp;obtain⟨d,hc⟩:=fp h b (by rw[c];rfl)
 grind
end
def fD (m:List dY)(k:Nat):Prop:=∃x∈m,0<x.2.2.2.length/\∃o,x.2.1=some ⟨k,o,none⟩
theorem jR {w:az}{base size n g cap:Nat}{e:TypeId}{b:List Value}(h:w.ownsRow base e size (.slice (au g) n cap) n b){i:Nat}{u:Value}(hi:b[i]?=some u):w.cell? (av g i)=some u/\w.frozen? (av g i)=false:=by
 rcases h.2 with⟨hv,_⟩|⟨f,j,k,hv,hb,hg,l,m,o,c⟩
 ·grind
 ·obtain⟨rfl,rfl⟩:=hv;rw[<-c] at hi;have d:i<n*size:=by grind
  rw[List.getElem?_take_of_lt d] at hi;constructor
  ·simp[World.cell?,hg]
   grind
  ·simp[World.frozen?,hg]
def Ln (w:az)(ad:Option Addr)(c:List (Int×List (Int×Int))):Prop:=
 ∃m:List dY,ij m=c/\(∀x∈m,dz w x.2.1 x.2.2.2)/\(0<m.length->∃b o,ad=some ⟨b,o,none⟩/\b<w.heap.size/\∀i x,m[i]?=some x->w.cell? (av b (o+i*2))=some (ak x.1)/\w.cell? (av b (o+i*2+1))=some (.slice x.2.1 x.2.2.2.length x.2.2.1))
theorem Ln.below {w w':az}{ad:Option Addr}{c:List _}(h:Ln w ad c)(hb:Below w.heap.size w w'):Ln w' ad c:=by
 obtain⟨m,f,g,j⟩:=h;refine⟨m,f,fun x d=>(g x d).below hb,fun hp=>?_⟩
 obtain⟨b,o,e,hl,hc⟩:=j hp;exact⟨b,o,e,aO hl hb.size,fun i x d=>(by grind [Below.cell])⟩
def jo (w:az)(base:Nat)(ad:Option Addr)(l:List (Int×Int)):Prop:=dz w ad l/\(0<l.length->∃b o,ad=some ⟨b,o,none⟩/\base<=b)
def i5 (w:az)(base:Nat)(ad:Option Addr)(c:List (Int×List (Int×Int))):Prop:=
 ∃m:List dY,ij m=c/\(∀x∈m,dz w x.2.1 x.2.2.2)/\(∀k,fD m k->base<=k)/\(0<m.length->∃b o,ad=some ⟨b,o,none⟩/\base<=b/\b<w.heap.size/\∀i x,m[i]?=some x->w.cell? (av b (o+i*2))=some (ak x.1)/\w.cell? (av b (o+i*2+1))=some (.slice x.2.1 x.2.2.2.length x.2.2.1))
theorem i5.ln {w:az}{base:Nat}{ad:Option Addr}{b:List _}(h:i5 w base ad b):Ln w ad b:=by obtain⟨m,c,d,_,e⟩:=h;exact⟨m,c,d,fun hp=>by grind⟩
theorem jo.fr {F:Nat->Prop}{w w':az}{base:Nat}{ad:Option Addr}{l:List (Int×Int)}(h:jo w base ad l)(f:Fr F w w')(c:∀b,F b->b<base):jo w' base ad l:=
 ⟨h.1.keep f.size (fun hp b e=>by
  obtain⟨d,g,i,hb⟩:=h.2 hp;obtain⟨b1,o1,j,l1,_⟩:=h.1 hp
  grind [Fr.block]),h.2⟩
theorem i5.fr {F:Nat->Prop}{w w':az}{base:Nat}{ad:Option Addr}{g:List (Int×List (Int×Int))}(h:i5 w base ad g)(f:Fr F w w')(p:∀b,F b->b<base):i5 w' base ad g:=by
 obtain⟨m,l,i,j,n⟩:=h;refine⟨m,l,fun x d=>(i x d).keep f.size (fun hp b e=>?_),j,fun hp=>?_⟩
 ·obtain⟨b1,o1,k,l1,_⟩:=i x d hp;rw[k] at e;cases e;have q:=j b1 ⟨x,d,hp,o1,k⟩
  grind [Fr.block]
 ·obtain⟨b,o,e,g1,g2,c⟩:=n hp;have hb:w'.heap[b]?=w.heap[b]?:=(by grind [Fr.block])
  grind [aQ]
theorem jo.base {w:az}{b c:Nat}{ad:Option Addr}{l:List (Int×Int)}(h:jo w b ad l)(hb:c<=b):jo w c ad l:=
 ⟨h.1,fun hp=>by
  obtain⟨k,o,e,hk⟩:=h.2 hp
  grind⟩
theorem i5.base {w:az}{b c:Nat}{ad:Option Addr}{d:List (Int×List (Int×Int))}(h:i5 w b ad d)(hb:c<=b):i5 w c ad d:=by
 obtain⟨m,e,f,g,i⟩:=h;refine⟨m,e,f,fun k hk=>(by grind),fun hp=>?_⟩
 grind
def hB (b u a:Int):Bool:=decide (b<=a/\a<b+u)
theorem jC {b u a:Int}(h:hB b u a=true):b<=a/\a<b+u:=by simpa[hB] using h
def dt (N y g:Nat)(a:Int):Bool:=hB 0 y a||hB N g a
def ld (N y g:Nat)(ws:List Int)(a:Int):Int:=if dt N y g a=true then ws.getD a.toNat 0 else 0
theorem jD {N O y g:Nat}{a:Int}(h:dt N y g a=true)(hy:y<=N)(hg:g<=O):0<=a/\a<(N:Int)+O:=by
 rcases Bool.or_eq_true _ _▸h with h|h
 ·have:=jC h;omega
 ·have:=jC h;omega
theorem lX (b s u:Int)(w:az)(hb:0<=b)(c:b<=100000)(d:0<=u)(f:u<=100000):
 Calls prog 170 #[.agg #[ak b,ak s,ak u]] w fun e w'=>e=.returned (ak (b+u))/\Below w.heap.size w w':=by
 exact kl
theorem oX (b s u:Int)(w:az)(hb:0<=s)(c:s<=100000)(d:0<=u)(f:u<=100000):
 Calls prog 169 #[.agg #[ak b,ak s,ak u]] w fun e w'=>e=.returned (ak (s-u))/\Below w.heap.size w w':=by
 exact kl
theorem wB (b s u a:Int)(w:az)(hb:0<=b)(c:b<=100000)(d:0<=u)(f:u<=100000):
 Calls prog 174 #[.agg #[ak b,ak s,ak u],ak a] w fun e w'=>e=.returned (.bool (hB b u a))/\Below w.heap.size w w':=by
 by_cases h:b<=a
 ·have e:hB b u a=decide (a<b+u):=by simp[hB,h]
  rw[e];go_enter func174,ntmps174;go_wp2_with fail;refine(lX b s u _ hb c d f).mono ?_;rintro e w1 ⟨rfl,g⟩
  go_wp2;go_ret;exact⟨rfl,(b8.alloc b7 _).trans (g.mono ac)⟩
 ·have e:hB b u a=false:=by simp[hB,h]
  rw[e];exact kl
theorem mV {p q N O y g:Nat}{ws:List Int}(a:Int)(w:az)(h:At w p q N O y g ws):
 Calls prog 95 #[aq p,ak a] w fun e w'=>e=.returned (.bool (hB 0 y a))/\Below w.heap.size w w':=by
 obtain⟨c0,c1,c2,c3,c4,c5,b⟩:=h.cells;have k1:=h.hN';have c:=h.hy;go_enter func95,ntmps95;go_wp2_with fail;refine(wB 0 N y a _ aa aa aa aa).mono ?_;exact qa
theorem mW {p q N O y g:Nat}{ws:List Int}(a:Int)(w:az)(h:At w p q N O y g ws):
 Calls prog 96 #[aq p,ak a] w fun e w'=>e=.returned (.bool (hB N g a))/\Below w.heap.size w w':=by
 obtain⟨c0,c1,c2,c3,c4,c5,b⟩:=h.cells;have k1:=h.hN';have c:=h.hO;have d:=h.hg;go_enter func96,ntmps96;go_wp2_with fail;refine(wB N O g a _ aa aa aa aa).mono ?_;exact qa
theorem qd {p q N O y g:Nat}{ws:List Int}(a:Int)(w:az)(h:At w p q N O y g ws):
 Calls prog 172 #[aq p,ak a] w fun e w'=>e=.returned (.bool (dt N y g a))/\Below w.heap.size w w':=by
 cases hy:hB 0 y a
 ·have e:dt N y g a=hB N g a:=by simp[dt,hy]
  rw[e];have b:=hide hy;go_enter func172,ntmps172;go_wp2_with fail;refine(mV a _ h).mono ?_;rintro e w1 ⟨rfl,hb1⟩
  rw[b.o];go_wp2_with fail;refine(mW a _ (h.below hb1 b7)).mono ?_;rintro e d ⟨rfl,c⟩
  go_wp2;go_ret;exact⟨rfl,hb1.trans (c.mono hb1.size)⟩
 ·have e:dt N y g a=true:=by simp[dt,hy]
  rw[e];go_enter func172,ntmps172;go_wp2_with fail;refine(mV a _ h).mono ?_;exact qa
theorem jS {p q N O y g:Nat}{ws:List Int}(a:Int)(w:az)(h:At w p q N O y g ws):
 Calls prog 98 #[aq p,ak a] w fun e w'=>e=.returned (ak (ld N y g ws a))/\Below w.heap.size w w':=by
 cases hi:dt N y g a
 ·have e:ld N y g ws a=0:=by simp[ld,hi]
  rw[e];have c:=hide hi;go_enter func98,ntmps98;go_wp2_with fail;refine(qd a _ h).mono ?_;rintro e w1 ⟨rfl,b⟩
  rw[c.o];go_wp2;go_ret;exact⟨rfl,b⟩
 ·have e:ld N y g ws a=ws.getD a.toNat 0:=by simp[ld,hi]
  rw[e];obtain⟨f,i⟩:=jD hi h.hy h.hg;have c:=hide hi;clear hi;go_enter func98,ntmps98;go_wp2_with fail;refine(qd a _ h).mono ?_;rintro e w1 ⟨rfl,b⟩
  rw[c.o];have d:=h.below b b7
  obtain⟨c0,c1,c2,c3,c4,c5,j⟩:=d.cells;have k:=d.word a.toNat aa;go_wp2;go_ret;exact⟨rfl,b⟩
theorem lx {p q N O y g:Nat}{ws:List Int}(a x:Int)(w:az)(h:At w p q N O y g ws):
 Calls prog 93 #[aq p,ak a,ak x] w fun e w'=>e=.returned (.bool (dt N y g a))/\At w' p q N O y g (if dt N y g a=true then ws.set a.toNat x else ws)/\dh p q w w':=by
 cases hi:dt N y g a
 ·rw[aI ac];have d:=hide hi;go_enter func93,ntmps93;go_wp2_with fail;refine(qd a _ h).mono ?_;rintro e w1 ⟨rfl,b⟩
  rw[d.o];go_wp2;go_ret;exact⟨rfl,h.below b b7,dh.of b⟩
 ·rw[aK rfl];obtain⟨f,i⟩:=jD hi h.hy h.hg;go_enter func93,ntmps93;go_wp2_with fail;refine(qd a _ h).mono ?_;rintro e w1 ⟨rfl,b⟩
  have c:=h.below b b7
  obtain⟨c0,c1,c2,c3,c4,c5,j⟩:=c.cells;have k:=c.word a.toNat aa;have l:=c.su a.toNat;go_wp2;go_ret;exact⟨rfl,c.set a.toNat x,(dh.of b).trans (dh.ss _ _)⟩
theorem gy {p q N O y g:Nat}{ws:List Int}(a:Int)(w:az)(h:At w p q N O y g ws):
 Calls prog 102 #[aq p,ak a] w fun e w'=>e=.returned (.tuple #[ak (pk (ld N y g ws a)),ak (pf (ld N y g ws a)),ak (pc (ld N y g ws a))])/\Below w.heap.size w w':=by
 go_enter func102,ntmps102;go_wp2_with fail;refine(jS a _ h).mono ?_;rintro e w1 ⟨rfl,b⟩
 go_wp2_with fail;refine(Cx _ _).mono ?_;rintro e c ⟨rfl,rfl⟩
 go_wp2
 go_ret3
 exact⟨rfl,b⟩
theorem kQ {p q N O y g:Nat}{ws:List Int}(w:az)(h:At w p q N O y g ws):
 Calls prog 22 #[aq p] w fun e w'=>e=.returned (.tuple #[ak y,ak g])/\Below w.heap.size w w':=by
 obtain⟨c0,c1,c2,c3,c4,c5,b⟩:=h.cells;exact se
theorem mX {p q N O y g:Nat}{ws:List Int}(w:az)(h:At w p q N O y g ws):
 Calls prog 86 #[aq p] w fun e w'=>e=.returned (.tuple #[ak 0,ak N])/\Below w.heap.size w w':=by
 obtain⟨c0,c1,c2,c3,c4,c5,b⟩:=h.cells;exact se
theorem wC {p q N O y g:Nat}{ws:List Int}(w:az)(h:At w p q N O y g ws):
 Calls prog 114 #[aq p] w fun e w'=>e=.returned (.tuple #[])/\At w' p q N O 0 g ws/\dh p q w w':=by
 obtain⟨c0,c1,c2,c3,c4,c5,b⟩:=h.cells;have c:=h.frozen 3;go_wp2;go_end0;exact⟨rfl,h.wm 0 (a4 _),dh.oU _ _⟩
theorem CF {p q N O y g:Nat}{ws:List Int}(n:Int)(w:az)(h:At w p q N O y g ws)(h0:0<=n)(b:n<=O):
 Calls prog 163 #[aq p,ak n] w fun e w'=>e=.returned (.tuple #[])/\At w' p q N O y n.toNat ws/\dh p q w w':=by
 obtain⟨n,rfl⟩:=Int.eq_ofNat_of_zero_le h0;obtain⟨c0,c1,c2,c3,c4,c5,c⟩:=h.cells;have d:=h.frozen 6;go_wp2;go_end0;exact⟨rfl,h.wn n aa,dh.oU _ _⟩
theorem CG {p q N O y g:Nat}{ws:List Int}(n:Int)(w:az)(h:At w p q N O y g ws)(h0:0<=n)(j:n<=(N:Int)-y):
 Calls prog 90 #[.pointer (some ⟨p,1,none⟩),ak n] w fun e w'=>e=.returned (.tuple #[ak y,.bool true])/\At w' p q N O (y+n.toNat) g ws/\dh p q w w':=by
 obtain⟨n,rfl⟩:=Int.eq_ofNat_of_zero_le h0;obtain⟨c0,c1,c2,c3,c4,c5,c⟩:=h.cells;have k1:=h.hN';have k:=h.hy;go_enter func90,ntmps90;go_wp2_with fail;refine(oX 0 N y _ aa aa aa aa).mono ?_;rintro e w1 ⟨rfl,d⟩
 have f:=h.below d b7
 obtain⟨c0,c1,c2,c3,c4,c5,c⟩:=f.cells;go_wp2_with fail;refine(lX 0 N y _ aa aa aa aa).mono ?_;rintro e l ⟨rfl,i⟩
 have b:=f.below i b7
 obtain⟨c0,c1,c2,c3,c4,c5,c⟩:=b.cells;have m:=b.frozen 3;go_wp2_with fail;go_ret2;exact⟨ac,b.wm (y+n) aa,((dh.of d).trans (dh.of i)).trans (dh.oU _ _)⟩
theorem CH {p q N O y g:Nat}{ws:List Int}(n:Int)(w:az)(h:At w p q N O y g ws)(h0:(N:Int)-y<n):
 Calls prog 90 #[.pointer (some ⟨p,1,none⟩),ak n] w fun e w'=>e=.returned (.tuple #[ak 0,.bool false])/\Below w.heap.size w w':=by
 obtain⟨c0,c1,c2,c3,c4,c5,c⟩:=h.cells;have k1:=h.hN';have d:=h.hy;go_enter func90,ntmps90;go_wp2_with fail;refine(oX 0 N y _ aa aa aa aa).mono ?_;rintro e w1 ⟨rfl,b⟩
 go_wp2;go_ret2;exact⟨rfl,b⟩
theorem CJ {p q N O y g:Nat}{ws:List Int}(n:Int)(w:az)(h:At w p q N O y g ws)(h0:0<=n)(j:n<=(O:Int)-g):
 Calls prog 90 #[.pointer (some ⟨p,4,none⟩),ak n] w fun e w'=>e=.returned (.tuple #[ak (N+g:Nat),.bool true])/\At w' p q N O y (g+n.toNat) ws/\dh p q w w':=by
 obtain⟨n,rfl⟩:=Int.eq_ofNat_of_zero_le h0;obtain⟨c0,c1,c2,c3,c4,c5,c⟩:=h.cells;have k1:=h.hN';have k:=h.hg;have l:=h.hO;go_enter func90,ntmps90;go_wp2_with fail;refine(oX N O g _ aa aa aa aa).mono ?_;rintro e w1 ⟨rfl,d⟩
 have f:=h.below d b7
 obtain⟨c0,c1,c2,c3,c4,c5,c⟩:=f.cells;go_wp2_with fail;refine(lX N O g _ aa aa aa aa).mono ?_;rintro e m ⟨rfl,i⟩
 have b:=f.below i b7
 obtain⟨c0,c1,c2,c3,c4,c5,c⟩:=b.cells;have o:=b.frozen 6;go_wp2_with fail;go_ret2;exact⟨ac,b.wn (g+n) aa,((dh.of d).trans (dh.of i)).trans (dh.oU _ _)⟩
theorem CK {p q N O y g:Nat}{ws:List Int}(n:Int)(w:az)(h:At w p q N O y g ws)(h0:(O:Int)-g<n):
 Calls prog 90 #[.pointer (some ⟨p,4,none⟩),ak n] w fun e w'=>e=.returned (.tuple #[ak 0,.bool false])/\Below w.heap.size w w':=by
 obtain⟨c0,c1,c2,c3,c4,c5,c⟩:=h.cells;have d:=h.hg;have f:=h.hO;go_enter func90,ntmps90;go_wp2_with fail;refine(oX N O g _ aa aa aa aa).mono ?_;rintro e w1 ⟨rfl,b⟩
 go_wp2;go_ret2;exact⟨rfl,b⟩
theorem oY {p q N O y g:Nat}{ws:List Int}(w:az)(h:At w p q N O y g ws):
 Calls prog 105 #[aq p] w fun e w'=>e=.returned (.tuple #[ak ((N:Int)-y),ak ((O:Int)-g)])/\Below w.heap.size w w':=by
 obtain⟨c0,c1,c2,c3,c4,c5,f⟩:=h.cells;have k1:=h.hN';have i:=h.hg;have j:=h.hO;have k:=h.hy;go_enter func105,ntmps105;go_wp2_with fail
 go_region_with (go_at_call 169;refine(oX _ _ _ _ aa aa aa aa).mono ?_;rintro e w1 ⟨rfl,b⟩;have d:At w1 p q N O y g ws:=(by first|exact h.drew.below b b7|exact d.below b b7);have c:Below w.heap.size w w1:=(by first|exact(aH _ w).drew.trans b|exact c.trans (b.mono c.size));obtain⟨c0,c1,c2,c3,c4,c5,f⟩:=d.cells)
 all_goals
  go_wp2_with fail;go_ret2;exact⟨rfl,c⟩
theorem wD:(prog.info? 2).map (fun i=>(i.zero,i.size,i.bytes))=some (some (ak 0),1,8):=ah
theorem wE {w:az}{b k n:Nat}(h:w.ownsRow b 2 1 (.slice (au k) n n) n (madeCells (Value.int .i64 0).cells (n*1)).toList):
 w.heap[k]?=some (.cells ((List.replicate n (0:Int)).map (Value.int .i64)).toArray 2 (0,0)):=by
 exact vY
theorem sA {w:az}{k:Nat}(o:Obj)(h:w.heap.size=k):(w.alloc o).heap[k]?=some o:=by subst h;exact aP _ _
theorem CL {w w1:az}{a b:Value}{t:TypeId}(hg:(w.alloc (.cells #[a,b] t)).grownBy w1 none):
 w1.cell? (av w.heap.size 0)=some a/\w1.cell? (av w.heap.size 1)=some b/\w1.frozen? (av w.heap.size 0)=false/\w1.frozen? (av w.heap.size 1)=false/\w.heap.size<w1.heap.size:=by
 have hb:=hg.block w.heap.size ac ac;have hz:=hg.size;rw[(aP _ _)] at hb;refine⟨?_,?_,?_,?_,by simp at hz;omega⟩<;>simp[World.cell?,World.frozen?,hb]
theorem CM (n o:Int)(w:az)(h0:16<=n)(k:n<=256)(c:0<=o)(l:o<=1024):
 Calls prog 85 #[ak n,ak o] w fun e w'=>∃p q,e=.returned (.tuple #[aq p,.agg #[ak 0,ak 0]])/\At w' p q n.toNat o.toNat 0 0 (List.replicate (n.toNat+o.toNat) 0)/\w.heap.size<=p/\w.heap.size<=q/\Below w.heap.size w w':=by
 obtain⟨n,rfl⟩:=Int.eq_ofNat_of_zero_le (show 0<=n by omega)
 obtain⟨o,rfl⟩:=Int.eq_ofNat_of_zero_le c;simp only [Int.toNat_natCast];obtain⟨d,hi,f,g,i⟩:=info_parts wD;go_enter func85,ntmps85;go_wp2_with (at_make;refine wpList_make_full _ rfl _ _ 53 rfl w.heap.size 2 d (ak 0) 1 underlying53 hi f g .i64 .i64 _ _ (n+o) rfl rfl aa aa (by rw[i];omega) (by unfold maxLen;omega) ac ?_;intro w1 j b;obtain⟨c0,c1,m,s,hz⟩:=CL b)
 have hr:=wE j;simp only [World.size_alloc] at hr;have t:=lt_of_some hr;refine a5 (v:=.tuple #[aq w1.heap.size,.agg #[ak 0,ak 0]]) (by simp[results,results85,go_sem,c0,c1,hz]) rfl ⟨w1.heap.size,w.heap.size+1,rfl,⟨?_,?_,ac,aa,aa,aa,aa,aa⟩,aa,aa,?_⟩
 ·exact sA _ (by simp[World.setCell])
 ·refine(aS _ _ _ (by simp[World.setCell];omega)).trans ?_;rw[aW _ _ _ _ ac,aW _ _ _ _ ac];exact hr
 ·refine Below.alloc (Below.setCell (Below.setCell ?_ ?_ _) ?_ _) ?_ _
  ·exact(b8.alloc b7 _).grown b ac (fun _ h=>by cases h)
  ·exact aG _
  ·exact aG _
  ·simp[World.setCell];omega
theorem CN (n o:Int)(w:az)(h:n<16\/256<n\/o<0\/1024<o):
 Calls prog 85 #[ak n,ak o] w fun e w'=>e=.returned (.tuple #[.pointer none,.agg #[ak 1,ak (-1)]])/\Below w.heap.size w w':=by
 by_cases b:n<16
 ·go_enter func85,ntmps85;exact sa
 by_cases c:256<n
 ·go_enter func85,ntmps85;exact sa
 by_cases d:o<0
 ·go_enter func85,ntmps85;exact sa
 have f:1024<o:=aa;go_enter func85,ntmps85;go_wp2_with fail;exact a5 (v:=.tuple #[.pointer none,.agg #[ak 1,ak (-1)]]) (by simp[results,results85,go_sem]) rfl ⟨rfl,b8.alloc b7 _⟩
end Go.Proofs.YtpkjkjhanlbcoaaGreat
