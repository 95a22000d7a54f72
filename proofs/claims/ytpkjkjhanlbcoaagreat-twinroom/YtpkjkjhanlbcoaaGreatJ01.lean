import Derived.Test.YtpkjkjhanlbcoaaGreatJ00
import Derived.Below
import Derived.Test.YtpkjkjhanlbcoaaGreatChecked
import Derived.WalkKit
import Derived.WalkSpells
import Derived.Deep.QuietTactic
import Derived.BigQuiet
import Derived.WalkSmall
import Derived.Laws.CopyOwn
import Derived.Maps.AppendAt
import Derived.Deep.RegionHeld3
import Derived.ArgAppend
import Derived.Deep.RegionLawGrows
import Derived.Deep.RegionWith
namespace Go.Proofs.YtpkjkjhanlbcoaaGreat
theorem ae{P:Prop}(h:P:=by kernel_rfl):P:=h
theorem af{P:Prop}(h:P:=by go_num):P:=h
set_option maxRecDepth 100000
set_option maxHeartbeats 1000000
open Tryz
open Go.RowKit
abbrev ah(n:Int):Value:=.int .i64 n
abbrev aq(b n:Nat):Addr:=⟨b,n,none⟩
abbrev ak(b:Nat):Option Addr:=some ⟨b,0,none⟩
abbrev aj(b:Nat):Value:=.pointer (some ⟨b,0,none⟩)
abbrev ax:=World
theorem bX{B:Nat}{w:ax}:Below B w w:=Below.refl B w
theorem k3 {P:Prop}(h:P:=by go_wp2;go_ret;exact⟨rfl,bX.alloc bW _⟩):P:=h
theorem a3 {α:Type _}{«as»:List α}{i:Nat}{a:α}:(«as».set i a).length = «as».length:=List.length_set ..
theorem vK {P:Prop}(h:P:=by
 refine⟨by rw[a3];exact h.1,?_⟩
 rcases h.2 with⟨hv,_⟩|⟨g',cap',cur,hv,hb,hg,h1,h2,h3,h4⟩
 ·simp at hv
 ·obtain⟨rfl,rfl⟩:=hv;refine aJ ⟨g,cap,cur.setIfInBounds i u,rfl,hb,?_,h1,h2,by rw[Array.size_setIfInBounds];exact h3,?_⟩
  ·simp only [World.setCell,Array.getElem?_modify,if_true,hg,Option.map_some];rfl
  ·rw[Array.toList_setIfInBounds,List.take_set,h4]):P:=h
theorem vL {P:Prop}(h:P:=by
 obtain⟨h1,h2⟩:=h;rcases h2 with⟨e,_⟩|⟨k',cap,cur,hv,hb,hh,h3,h4,h5,h6⟩
 ·cases e
 ·cases hv;rw[hh];have:cur.toList=(List.replicate n (0:Int)).map (Value.int .i64):=by rw[<-List.take_of_length_le (l:=cur.toList) (i:=n*1) (by simp;omega),h6];show(madeCells #[Value.int .i64 0] (n*1)).toList=_;rw[toList_madeCells_one];simp
  rw[<-this]):P:=h
theorem a4 {P:Go.Program}{fn:Go.Func}{R:Go.Ending -> ax -> Prop}{a:Go.Act}{w:ax}{v:Value}(hr:Go.Sem.run P (Go.results fn a.tmps) w = Go.Result.ok v w)(hd:a.defers = [])(hR:R (Go.Ending.returned v) w):Go.bodyPost P fn R Go.Exit.ret a w:=by intros;apply bodyPost_ret<;>assumption
theorem r6 {P:Prop}(h:P:=by go_wp2_with fail;exact a4 (v:=.tuple #[.pointer none,.agg #[ah 1,ah (-1)]]) (by simp[results,results85,go_sem]) rfl ⟨rfl,bX.alloc bW _⟩):P:=h
theorem r7 {P:Prop}(h:P:=by
 go_enter func94,ntmps94;go_wp2_with fail;refine(vM x _).mono ?_;rintro e w1 ⟨rfl,hb⟩
 go_wp2_with fail;go_ret2;exact⟨rfl,hb.alloc hb.size _⟩):P:=h
theorem oJ {P:Prop}(h:P:=by
 go_enter func168,ntmps168;go_wp2
 go_ret3
 exact⟨rfl,rfl⟩):P:=h
theorem oK {P:Prop}(h:P:=by
 rintro e w1 ⟨rfl,hb1⟩
 go_wp2_with fail;go_ret2;exact⟨rfl,hb1⟩):P:=h
theorem vN {P:Prop}(h:P:=by
 go_wp2_with fail;refine(j9 _ _).mono ?_;rintro e w1 ⟨rfl,rfl⟩
 rw[show fl 2=0 from rfl,show fm 2=12 from rfl,show fk 2=true from rfl];go_wp2;go_ret2;exact⟨rfl,rfl⟩):P:=h
theorem vO {P:Prop}(h:P:=by
 go_wp2_with fail;refine(j9 _ _).mono ?_;rintro e w1 ⟨rfl,rfl⟩
 rw[show fl 5=0 from rfl,show fm 5=0 from rfl,show fk 5=true from rfl];go_wp2;go_ret2;exact⟨rfl,rfl⟩):P:=h
theorem vP {P:Prop}(h:P:=by
 go_wp2_with fail;refine(j9 _ _).mono ?_;rintro e w1 ⟨rfl,rfl⟩
 rw[show fl 4=2 from rfl,show fm 4=2 from rfl,show fk 4=true from rfl];go_wp2;go_ret2;exact⟨rfl,rfl⟩):P:=h
theorem vQ {P:Prop}(h:P:=by
 go_wp2_with fail;refine(j9 _ _).mono ?_;rintro e w1 ⟨rfl,rfl⟩
 rw[show fl 3=2 from rfl,show fm 3=2 from rfl,show fk 3=true from rfl];go_wp2;go_ret2;exact⟨rfl,rfl⟩):P:=h
theorem vR {P:Prop}(h:P:=by
 go_wp2_with fail;refine(j9 _ _).mono ?_;rintro e w1 ⟨rfl,rfl⟩
 rw[show fl 1=2 from rfl,show fm 1=2 from rfl,show fk 1=true from rfl];go_wp2;go_ret2;exact⟨rfl,rfl⟩):P:=h
theorem vS {P:Prop}(h:P:=by
 go_enter func99,ntmps99;go_wp2_with (go_at_call 176;refine(B6 _ _ _).mono ?_;rintro e w' ⟨rfl,rfl⟩)
 go_ret;exact⟨rfl,bX.alloc bW _⟩):P:=h
theorem r8 {P:Prop}(h:P:=by
 go_wp2
 go_quiet (fail)
 go_wp2;go_ret2;exact⟨rfl,below_drewN bX _⟩):P:=h
theorem pW {P:Prop}(h:P:=by go_wp2;go_ret2;exact⟨r9 (by decide+kernel),rfl⟩):P:=h
theorem vU {P:Prop}(h:P:=by
 go_enter func178,ntmps178;go_wp2_with fail;refine(oL _ _ _).mono ?_;rintro e w1 ⟨rfl,rfl⟩
 go_wp2
 go_ret3
 exact⟨rfl,rfl⟩):P:=h
theorem pX {P:Prop}(h:P:=by
 rintro e w1 ⟨rfl,hb1⟩
 go_wp2;go_ret;exact⟨rfl,hb1⟩):P:=h
theorem vV {P:Prop}(h:P:=by
 obtain⟨b0,c0,e0⟩:=eU h hp;obtain⟨cs,hc⟩:=e6 h b0 (by rw[e0];rfl)
 cases e0;exact⟨b0,0,cs,rfl,hc⟩):P:=h
theorem r_ {P:Prop}(h:P:=by go_enter func224,ntmps224;go_wp2;go_ret;exact⟨rfl,rfl⟩):P:=h
theorem sa {P:Prop}(h:P:=by go_enter func100,ntmps100;go_wp2;go_ret;exact⟨rfl,rfl⟩):P:=h
abbrev ay(p:Prop):Prop:=Hid p
theorem ay.o{p:Prop}(h:ay p):p:=h
theorem hide {p:Prop}(h:p):ay p:=h
theorem dq {p q:Prop}(a:p)(b:q):ay (p/\q):=⟨a,b⟩
theorem g7 {p q r:Prop}(a:p)(b:q)(c:r):ay (p/\q/\r):=⟨a,b,c⟩
theorem jr {p q r s:Prop}(a:p)(b:q)(c:r)(d:s):ay (p/\q/\r/\s):=⟨a,b,c,d⟩
theorem vW {p q r s t:Prop}(a:p)(b:q)(c:r)(d:s)(e:t):ay (p/\q/\r/\s/\t):=⟨a,b,c,d,e⟩
theorem B7 {p q r s t d:Prop}(a:p)(b:q)(c:r)(g:s)(e:t)(f:d):ay (p/\q/\r/\s/\t/\d):=⟨a,b,c,g,e,f⟩
theorem B8 {p q r s t d v:Prop}(a:p)(b:q)(c:r)(i:s)(e:t)(f:d)(g:v):ay (p/\q/\r/\s/\t/\d/\v):=⟨a,b,c,i,e,f,g⟩
open Go.RowKit W
theorem B6 (n low:Int)(w:ax):
 Calls prog 176 #[ah n,ah low] w fun e w'=>e=.returned (ah (rc n low))/\w'=w:=by
 by_cases c1:n<low
 ·have e:rc n low=1:=by unfold rc;rw[aI c1]
  rw[e];go_enter func176,ntmps176;go_wp2;go_ret;exact⟨rfl,rfl⟩
 ·by_cases c2:1152921504606846976<=n
  ·have e:rc n low=1:=by unfold rc;rw[aG c1,aI c2]
   rw[e];go_enter func176,ntmps176;go_wp2;go_ret;exact⟨rfl,rfl⟩
  ·have e:rc n low=0:=by unfold rc;rw[aG c1,aG c2]
   rw[e];go_wp2;go_ret;exact⟨rfl,rfl⟩
theorem B9 (k:Int)(w:ax):
 Calls prog 100 #[ah k] w fun e w'=>e=.returned (ah (tg k))/\w'=w:=by
 by_cases c1:k=1
 ·subst c1;exact sa
 ·by_cases c3:k=3
  ·subst c3;exact sa
  ·by_cases c0:k=0
   ·subst c0;exact sa
   ·have e:tg k=3:=by unfold tg;rw[aG c1,aG c3,aG c0]
    rw[e];go_wp2;go_ret;exact⟨rfl,rfl⟩
theorem vX (t:Int)(w:ax):
 Calls prog 224 #[ah t] w fun e w'=>e=.returned (ah (iJ t))/\w'=w:=by
 by_cases c1:t=0
 ·subst c1;exact r_
 ·by_cases c3:t=1
  ·subst c3;exact r_
  ·by_cases c0:t=2
   ·subst c0;exact r_
   ·have e:iJ t=2:=by unfold iJ;rw[aG c1,aG c3,aG c0]
    rw[e];go_wp2;go_ret;exact⟨rfl,rfl⟩
theorem B_ (n:Int):vc 0 n=if n=0 then 0 else 7:=by simp[vc]
theorem Ca (n:Int):vc 2 n=if n=0 then 0 else 7:=by simp[vc]
theorem Cb (n:Int):vc 1 n=rc n (-1152921504606846976):=by simp[vc]
theorem sc (n:Int):vc 3 n=rc n 0:=by simp[vc]
theorem pY (k n:Int)(w:ax):
 Calls prog 99 #[.agg #[ah k,ah n]] w fun e w'=>e=.returned (ah (vc k n))/\Below w.heap.size w w':=by
 by_cases c0:k=0
 ·subst c0;rw[B_];by_cases c:n=0
  ·subst c;go_enter func99,ntmps99;exact k3
  ·rw[aG c];go_enter func99,ntmps99;exact k3
 ·by_cases c2:k=2
  ·subst c2;rw[Ca];by_cases c:n=0
   ·subst c;go_enter func99,ntmps99;exact k3
   ·rw[aG c];go_enter func99,ntmps99;exact k3
  ·by_cases c1:k=1
   ·subst c1;rw[Cb];exact vS
   ·by_cases c3:k=3
    ·subst c3;rw[sc];exact vS
    ·have e:vc k n=2:=by unfold vc;rw[aG c0,aG c2,aG c1,aG c3]
     rw[e];go_enter func99,ntmps99;exact k3
theorem se {B:Nat}{W w1:ax}(hb:Below B W w1):(∀b o,b<B->w1.cell? (aq b o)=W.cell? (aq b o))/\(∀b o,b<B->w1.frozen? (aq b o)=W.frozen? (aq b o)):=
 ⟨fun b o h=>hb.cell (p:=aq b o) h,fun b o h=>hb.frozen (p:=aq b o) h⟩
theorem vY {w w1:ax}{a b c d:Value}{s t:TypeId}(hb:Below ((w.alloc (.cells #[a,b] s)).alloc (.cells #[c,d] t)).heap.size ((w.alloc (.cells #[a,b] s)).alloc (.cells #[c,d] t)) w1):
 w1.cell? (aq w.heap.size 0)=some a/\w1.cell? (aq w.heap.size 1)=some b/\w1.cell? (aq (w.heap.size+1) 0)=some c/\w1.cell? (aq (w.heap.size+1) 1)=some d/\w1.frozen? (aq w.heap.size 0)=false/\w1.frozen? (aq w.heap.size 1)=false/\w.heap.size+2<=w1.heap.size:=by
 obtain⟨hc,e⟩:=se hb;refine⟨?_,?_,?_,?_,?_,?_,by simpa using hb.size⟩
 ·rw[hc _ _ (by simp;omega)];simp[go_sem]
 ·rw[hc _ _ (by simp;omega)];simp[go_sem]
 ·rw[hc _ _ Z];simp[go_sem]
 ·rw[hc _ _ Z];simp[go_sem]
 ·rw[e _ _ (by simp;omega)];simp[go_sem]
 ·rw[e _ _ (by simp;omega)];simp[go_sem]
theorem r9 {a b:Int}{c:Value}(h:a=b):Ending.returned (.tuple #[ah a,c])=.returned (.tuple #[ah b,c]):=by rw[h]
theorem vZ (k n:Int)(w:ax):
 Calls prog 46 #[.agg #[ah k,ah n]] w fun e w'=>e=.returned (.tuple #[ah (ew k n),ah (vc k n)])/\Below w.heap.size w w':=by
 by_cases h:vc k n=0
 ·rw[rX k n h];have hn:=BN k n h;have H:=hide h;rw[H.o];go_enter func46,ntmps46;go_wp2_with fail;refine(pY k n _).mono ?_;rintro e w1 ⟨rfl,hb⟩
  rw[H.o];obtain⟨hc,b⟩:=se hb;go_wp2
  go_quiet ((go_at_call 100;exact Calls.quiet_of_same (B9 _ _)))
  go_wp2;go_ret2;exact⟨r9 (hide (BO k n hn.1 hn.2)).o,below_drewN ((bX.alloc bW _).trans (hb.mono Z)) _⟩
 ·rw[BR k n h];go_enter func46,ntmps46;go_wp2_with fail;refine(pY k n _).mono ?_;rintro e w1 ⟨rfl,hb⟩
  go_wp2;go_ret2;exact⟨rfl,(bX.alloc bW _).trans (hb.mono Z)⟩
theorem vM (x:Int)(w:ax):
 Calls prog 173 #[ah x] w fun e w'=>e=.returned (.tuple #[.agg #[ah (dk x),ah (de x)],ah (dc x)])/\Below w.heap.size w w':=by
 have g:=BJ x;by_cases h:dc x=0
 ·have b:dk x=iJ (x%4):=by unfold dk;rw[aI h]
  have c:de x=x/4:=by unfold de;rw[aI h]
  have H:ay (vc (iJ (x%4)) (x/4)=0):=h;rw[h,b,c];clear h b c;go_enter func173,ntmps173;go_wp2_with fail;refine(vX _ _).mono ?_;rintro e w' ⟨rfl,rfl⟩
  go_wp2_with fail;refine(pY (iJ (x%4)) (x/4) _).mono ?_;rintro e w1 ⟨rfl,hb⟩
  rw[H.o];obtain⟨c0,c1,c2,c3,d,f,hz⟩:=vY hb;go_wp2_with fail;exact a4 (v:=.tuple #[.agg #[ah (iJ (x%4)),ah (x/4)],ah 0]) (by simp[results,results173,go_sem,c0,c1]) rfl ⟨rfl,((((bX.alloc bW _).alloc Z _).trans (hb.mono (by simp;omega))).setCell bW _).setCell bW _⟩
 ·have b:dk x=0:=by unfold dk;rw[aG h]
  have c:de x=0:=by unfold de;rw[aG h]
  rw[b,c];have hn:(vc (iJ (x%4)) (x/4)!=0)=true:=by simpa[dc] using h
  have E:ay (dc x=vc (iJ (x%4)) (x/4)):=rfl;rw[E.o];clear h b c;go_enter func173,ntmps173;go_wp2_with fail;refine(vX _ _).mono ?_;rintro e w' ⟨rfl,rfl⟩
  go_wp2_with fail;refine(pY (iJ (x%4)) (x/4) _).mono ?_;rintro e w1 ⟨rfl,hb⟩
  obtain⟨c0,c1,c2,c3,d,f,hz⟩:=vY hb;go_wp2_with fail;exact a4 (v:=.tuple #[.agg #[ah 0,ah 0],ah (vc (iJ (x%4)) (x/4))]) (by simp[results,results173,go_sem,c0,c1]) rfl ⟨rfl,((((bX.alloc bW _).alloc Z _).trans (hb.mono (by simp;omega))).setCell bW _).setCell bW _⟩
theorem sf (w:ax):Calls prog 47 #[] w fun e w'=>e=.returned (ah 2)/\w'=w:=by go_wp2;go_ret;exact⟨rfl,rfl⟩
theorem nL (w:ax):Calls prog 191 #[] w fun e w'=>e=.returned (ah 3)/\w'=w:=by go_wp2;go_ret;exact⟨rfl,rfl⟩
theorem sg (n:Int)(w:ax):
 Calls prog 42 #[ah n] w fun e w'=>e=.returned (ah (ew 3 n))/\Below w.heap.size w w':=by
 go_enter func42,ntmps42;go_wp2_with fail;refine(vZ 3 n _).mono ?_;rintro e w1 ⟨rfl,hb⟩
 go_wp2_with fail;go_ret;exact⟨rfl,hb⟩
theorem nM (x:Int)(w:ax):
 Calls prog 94 #[ah x] w fun e w'=>e=.returned (.tuple #[ah (cg x),.bool (cY x)])/\Below w.heap.size w w':=by
 by_cases h0:dc x=0
 ·have t0:(dc x !=0)=false:=by simpa using h0
  by_cases c:dk x=3
  ·have b:cY x=true:=by unfold cY;rw[h0,c];rfl
   rw[lP x b,b];have t3:(dk x !=3)=false:=by simpa using c
   exact r7
  ·have b:cY x=false:=by unfold cY;rw[beq_eq_false_iff_ne.2 c];simp
   rw[vE x b,b];exact r7
 ·have b:cY x=false:=by unfold cY;rw[beq_eq_false_iff_ne.2 h0];simp
  rw[vE x b,b];exact r7
theorem j9 (k:Int)(w:ax):
 Calls prog 168 #[ah k] w fun e w'=>e=.returned (.tuple #[ah (fl k),ah (fm k),.bool (fk k)])/\w'=w:=by
 by_cases c1:k=1
 ·subst c1;exact oJ
 by_cases c2:k=2
 ·subst c2;exact oJ
 by_cases c3:k=3
 ·subst c3;exact oJ
 by_cases c4:k=4
 ·subst c4;exact oJ
 by_cases c5:k=5
 ·subst c5;exact oJ
 have b:fl k=0:=by simp[fl,c1,c3,c4]
 have c:fm k=0:=by simp[fm,c1,c2,c3,c4]
 have d:fk k=false:=by simp[fk,c1,c2,c3,c4,c5]
 rw[b,c,d];go_wp2
 go_ret3
 exact⟨rfl,rfl⟩
theorem Ce (k f:Int)(w:ax)(h:hc k f=0):
 Calls prog 89 #[ah k,ah f] w fun e w'=>e=.returned (.tuple #[ah (16*f+k),ah 0])/\w'=w:=by
 rcases oG k f h with⟨rfl,rfl⟩|⟨rfl,rfl⟩|⟨rfl,rfl⟩|⟨rfl,b,c⟩|⟨rfl,rfl⟩
 ·go_enter func89,ntmps89;go_wp2_with fail;refine(j9 _ _).mono ?_;rintro e w1 ⟨rfl,rfl⟩
  rw[show fl 1=2 from rfl,show fm 1=2 from rfl,show fk 1=true from rfl];exact pW
 ·go_enter func89,ntmps89;go_wp2_with fail;refine(j9 _ _).mono ?_;rintro e w1 ⟨rfl,rfl⟩
  rw[show fl 3=2 from rfl,show fm 3=2 from rfl,show fk 3=true from rfl];exact pW
 ·go_enter func89,ntmps89;go_wp2_with fail;refine(j9 _ _).mono ?_;rintro e w1 ⟨rfl,rfl⟩
  rw[show fl 4=2 from rfl,show fm 4=2 from rfl,show fk 4=true from rfl];exact pW
 ·have E:=hide (BP 2 f h)
  go_enter func89,ntmps89;go_wp2_with fail;refine(j9 _ _).mono ?_;rintro e w1 ⟨rfl,rfl⟩
  rw[show fl 2=0 from rfl,show fm 2=12 from rfl,show fk 2=true from rfl];go_wp2;go_ret2;exact⟨r9 E.o,rfl⟩
 ·go_enter func89,ntmps89;go_wp2_with fail;refine(j9 _ _).mono ?_;rintro e w1 ⟨rfl,rfl⟩
  rw[show fl 5=0 from rfl,show fm 5=0 from rfl,show fk 5=true from rfl];exact pW
theorem Cf (k f:Int)(w:ax)(h:(k=1/\f<2)\/(k=1/\2<f)\/(k=3/\f<2)\/(k=3/\2<f)\/(k=4/\f<2)\/(k=4/\2<f)\/(k=2/\f<0)\/(k=2/\12<f)\/(k=5/\f<0)\/(k=5/\0<f)):
 Calls prog 89 #[ah k,ah f] w fun e w'=>e=.returned (.tuple #[ah 0,ah 1])/\w'=w:=by
 rcases h with⟨rfl,h⟩|⟨rfl,h⟩|⟨rfl,h⟩|⟨rfl,h⟩|⟨rfl,h⟩|⟨rfl,h⟩|⟨rfl,h⟩|⟨rfl,h⟩|⟨rfl,h⟩|⟨rfl,h⟩
 ·go_enter func89,ntmps89;exact vR
 ·go_enter func89,ntmps89;exact vR
 ·go_enter func89,ntmps89;exact vQ
 ·go_enter func89,ntmps89;exact vQ
 ·go_enter func89,ntmps89;exact vP
 ·go_enter func89,ntmps89;exact vP
 ·go_enter func89,ntmps89;exact vN
 ·go_enter func89,ntmps89;exact vN
 ·go_enter func89,ntmps89;exact vO
 ·go_enter func89,ntmps89;exact vO
theorem Ch (k f:Int)(w:ax)(b:k≠1)(c:k≠2)(d:k≠3)(g:k≠4)(i:k≠5):
 Calls prog 89 #[ah k,ah f] w fun e w'=>e=.returned (.tuple #[ah 0,ah 2])/\w'=w:=by
 have j:fk k=false:=by simp[fk,b,c,d,g,i]
 go_enter func89,ntmps89;go_wp2_with fail;refine(j9 _ _).mono ?_;rintro e w1 ⟨rfl,rfl⟩
 go_wp2;go_ret2;exact⟨rfl,rfl⟩
theorem oL (k f:Int)(w:ax):
 Calls prog 89 #[ah k,ah f] w fun e w'=>e=.returned (.tuple #[ah (hw k f),ah (hc k f)])/\w'=w:=by
 by_cases h:hc k f=0
 ·rw[rW k f h,h];exact Ce k f w h
 ·rw[BQ k f h];rcases BU k f h with e|⟨b,c,d,g,i⟩
  ·rw[BV k f e];exact Cf k f w e
  ·rw[BS k f b c d g i];exact Ch k f w b c d g i
theorem Cj (h:Int)(w:ax):
 Calls prog 178 #[ah h] w fun e w'=>e=.returned (.tuple #[ah (pk h),ah (pf h),ah (pc h)])/\w'=w:=by
 have ha:=BK h;by_cases c:hc (h%16) (h/16)=0
 ·have b:pk h=h%16:=by unfold pk;rw[aI c]
  have d:pf h=h/16:=by unfold pf;rw[aI c]
  have f:pc h=0:=by unfold pc;rw[aI c]
  rw[b,d,f];clear b d f;have t:(hc (h%16) (h/16)!=0)=false:=by simpa using c
  clear c;exact vU
 ·have b:pk h=0:=by unfold pk;rw[aG c]
  have d:pf h=0:=by unfold pf;rw[aG c]
  have f:pc h=7:=by unfold pc;rw[aG c]
  rw[b,d,f];exact vU
structure At (w:ax)(p q N O y g:Nat)(ws:List Int):Prop where
 hp:w.heap[p]?=some (.cells #[.slice (ak q) (N+O) (N+O),ah 0,ah N,ah y,ah N,ah O,ah g] 122 (0,0))
 hq:w.heap[q]?=some (.cells (ws.map (Value.int .i64)).toArray 2 (0,0))
 hl:ws.length=N+O
 hN:16<=N
 hN':N<=256
 hO:O<=1024
 hy:y<=N
 hg:g<=O
structure c_ (p q:Nat)(w w':ax):Prop where
 os:w'.os=w.os
 tape:w'.tape=w.tape
 output:w'.output=w.output
 size:w.heap.size<=w'.heap.size
 block:∀k,k<w.heap.size->k≠p->k≠q->w'.heap[k]?=w.heap[k]?
theorem lt_of_some {w:ax}{k:Nat}{o:Obj}(h:w.heap[k]?=some o):k<w.heap.size:=(Array.getElem?_eq_some_iff.1 h).1
theorem c_.refl (p q:Nat)(w:ax):c_ p q w w:=⟨rfl,rfl,rfl,aD _,fun _ _ _ _=>rfl⟩
theorem aT {n m k:Nat}:n <= m -> m <= k -> n <= k:=Nat.le_trans
theorem aM {n m k:Nat}:n < m -> m <= k -> n < k:=Nat.lt_of_lt_of_le
theorem c_.trans {p q:Nat}{a b c:ax}(h:c_ p q a b)(k:c_ p q b c):c_ p q a c:=
 ⟨k.os.trans h.os,k.tape.trans h.tape,k.output.trans h.output,aT h.size k.size,fun i hi d e=>(k.block i (aM hi h.size) d e).trans (h.block i hi d e)⟩
theorem c_.of {p q:Nat}{w w':ax}(h:Below w.heap.size w w'):c_ p q w w':=⟨h.os,h.tape,h.output,h.size,fun k hk _ _=>h.block k hk⟩
theorem aU (w:ax)(a:Addr)(u:Value)(k:Nat)(h:k ≠ a.block):(w.setCell a u).heap[k]? = w.heap[k]?:=by intros;apply Below.heap_setCell<;>assumption
theorem c_.oM {p q:Nat}{w:ax}(o:Nat)(v:Value):c_ p q w (w.setCell ⟨p,o,none⟩ v):=
 ⟨rfl,rfl,rfl,by simp[World.setCell],fun k _ b _=>aU _ _ _ _ b⟩
theorem c_.si {p q:Nat}{w:ax}(o:Nat)(v:Value):c_ p q w (w.setCell ⟨q,o,none⟩ v):=
 ⟨rfl,rfl,rfl,by simp[World.setCell],fun k _ _ b=>aU _ _ _ _ b⟩
theorem c_.Cn {p q:Nat}{w:ax}(b:Array Value):c_ p q w (w.setRow q b):=
 ⟨rfl,rfl,rfl,by simp[World.setRow],fun k _ _ c=>setRow_other w q k b c⟩
theorem c_.drew {p q:Nat}{a w:ax}(h:c_ p q a w):c_ p q a w.drew:=⟨h.os,h.tape,h.output,h.size,h.block⟩
theorem c_.below {p q B:Nat}{w w':ax}(h:c_ p q w w')(hB:B<=w.heap.size)(hp:B<=p)(hq:B<=q):Below B w w':=
 ⟨h.os,h.tape,h.output,h.size,fun k hk=>h.block k V V V⟩
theorem At.eL {w:ax}{p q N O y g:Nat}{ws:List Int}(h:At w p q N O y g ws):p<w.heap.size:=lt_of_some h.hp
theorem At.eM {w:ax}{p q N O y g:Nat}{ws:List Int}(h:At w p q N O y g ws):q<w.heap.size:=lt_of_some h.hq
theorem At.ne {w:ax}{p q N O y g:Nat}{ws:List Int}(h:At w p q N O y g ws):p≠q:=by intro e;have b:=h.hp;rw[e,h.hq] at b;simp at b
theorem At.same {w w':ax}{p q N O y g:Nat}{ws:List Int}(h:At w p q N O y g ws)(ep:w'.heap[p]?=w.heap[p]?)(eq:w'.heap[q]?=w.heap[q]?):At w' p q N O y g ws:=
 ⟨ep.trans h.hp,eq.trans h.hq,h.hl,h.hN,h.hN',h.hO,h.hy,h.hg⟩
theorem At.below {w w':ax}{p q N O y g B:Nat}{ws:List Int}(h:At w p q N O y g ws)(hb:Below B w w')(hB:w.heap.size<=B):At w' p q N O y g ws:=
 h.same (hb.block p (aM h.eL hB)) (hb.block q (aM h.eM hB))
theorem aS (w:ax)(o:Obj)(k:Nat)(h:k < w.heap.size):(w.alloc o).heap[k]? = w.heap[k]?:=by intros;apply Below.heap_alloc<;>assumption
theorem At.alloc {w:ax}{p q N O y g:Nat}{ws:List Int}(h:At w p q N O y g ws)(o:Obj):At (w.alloc o) p q N O y g ws:=
 h.same (aS _ _ _ h.eL) (aS _ _ _ h.eM)
theorem At.drew {w:ax}{p q N O y g:Nat}{ws:List Int}(h:At w p q N O y g ws):At w.drew p q N O y g ws:=h.same rfl rfl
theorem At.cells {w:ax}{p q N O y g:Nat}{ws:List Int}(h:At w p q N O y g ws):
 w.cell? (aq p 0)=some (.slice (ak q) (N+O) (N+O))/\w.cell? (aq p 1)=some (ah 0)/\w.cell? (aq p 2)=some (ah N)/\w.cell? (aq p 3)=some (ah y)/\
 w.cell? (aq p 4)=some (ah N)/\w.cell? (aq p 5)=some (ah O)/\w.cell? (aq p 6)=some (ah g):=by
 refine⟨?_,?_,?_,?_,?_,?_,?_⟩<;>simp[World.cell?,h.hp]
theorem At.frozen {w:ax}{p q N O y g:Nat}{ws:List Int}(h:At w p q N O y g ws)(o:Nat):w.frozen? (aq p o)=false:=by simp[World.frozen?,h.hp]
theorem At.sj {w:ax}{p q N O y g:Nat}{ws:List Int}(h:At w p q N O y g ws)(o:Nat):w.frozen? (aq q o)=false:=by simp[World.frozen?,h.hq]
theorem At.word {w:ax}{p q N O y g:Nat}{ws:List Int}(h:At w p q N O y g ws)(i:Nat)(hi:i<N+O):w.cell? (aq q i)=some (ah (ws.getD i 0)):=by have hl:=h.hl;simp[World.cell?,h.hq,List.getElem?_map,List.getElem?_eq_getElem (show i<ws.length by omega),List.getD_eq_getElem?_getD]
theorem At.set {w:ax}{p q N O y g:Nat}{ws:List Int}(h:At w p q N O y g ws)(i:Nat)(x:Int):At (w.setCell ⟨q,i,none⟩ (.int .i64 x)) p q N O y g (ws.set i x):=by
 refine⟨(aU _ _ _ _ h.ne).trans h.hp,?_,by rw[a3];exact h.hl,h.hN,h.hN',h.hO,h.hy,h.hg⟩
 simp only [World.setCell,Array.getElem?_modify,if_true,h.hq,Option.map_some];simp[List.map_set]
theorem At.row {w:ax}{p q N O y g:Nat}{ws us:List Int}(h:At w p q N O y g ws)(b:us.length=N+O):At (w.setRow q (us.map (Value.int .i64)).toArray) p q N O y g us:=
 ⟨(setRow_other w q p _ h.ne).trans h.hp,setRow_heap w q _ _ _ _ h.hq,b,h.hN,h.hN',h.hO,h.hy,h.hg⟩
theorem At.v4 {w:ax}{p q N O y g:Nat}{ws:List Int}(h:At w p q N O y g ws)(z:Nat)(hz:z<=N):At (w.setCell ⟨p,3,none⟩ (.int .i64 z)) p q N O z g ws:=by
 refine⟨?_,(aU _ _ _ _ h.ne.symm).trans h.hq,h.hl,h.hN,h.hN',h.hO,hz,h.hg⟩
 simp only [World.setCell,Array.getElem?_modify,if_true,h.hp,Option.map_some];simp
theorem At.v5 {w:ax}{p q N O y g:Nat}{ws:List Int}(h:At w p q N O y g ws)(z:Nat)(hz:z<=O):At (w.setCell ⟨p,6,none⟩ (.int .i64 z)) p q N O y z ws:=by
 refine⟨?_,(aU _ _ _ _ h.ne.symm).trans h.hq,h.hl,h.hN,h.hN',h.hO,h.hy,hz⟩
 simp only [World.setCell,Array.getElem?_modify,if_true,h.hp,Option.map_some];simp
structure Fr (X:Nat->Prop)(w w':ax):Prop where
 os:w'.os=w.os
 tape:w'.tape=w.tape
 output:w'.output=w.output
 size:w.heap.size<=w'.heap.size
 block:∀k,k<w.heap.size->¬X k->w'.heap[k]?=w.heap[k]?
theorem Fr.refl (X:Nat->Prop)(w:ax):Fr X w w:=⟨rfl,rfl,rfl,aD _,fun _ _ _=>rfl⟩
theorem Fr.trans {X Y:Nat->Prop}{a b c:ax}(h:Fr X a b)(k:Fr Y b c)(hy:∀i,Y i->X i\/a.heap.size<=i):Fr X a c:=
 ⟨k.os.trans h.os,k.tape.trans h.tape,k.output.trans h.output,aT h.size k.size,fun i hi d=>(k.block i (aM hi h.size) (fun c=>(hy i c).elim d (fun c=>by omega))).trans (h.block i hi d)⟩
theorem Fr.mono {X Y:Nat->Prop}{w w':ax}(h:Fr X w w')(hy:∀i,X i->Y i):Fr Y w w':=⟨h.os,h.tape,h.output,h.size,fun i hi b=>h.block i hi (fun c=>b (hy i c))⟩
theorem Fr.of {X:Nat->Prop}{w w':ax}(h:Below w.heap.size w w'):Fr X w w':=⟨h.os,h.tape,h.output,h.size,fun k hk _=>h.block k hk⟩
theorem Fr.alloc {X:Nat->Prop}{a w:ax}(h:Fr X a w)(o:Obj):Fr X a (w.alloc o):=h.trans (Fr.of (bX.alloc bW _)) (fun _ c=>aK c)
theorem Fr.drew {X:Nat->Prop}{a w:ax}(h:Fr X a w):Fr X a w.drew:=⟨h.os,h.tape,h.output,h.size,h.block⟩
theorem Fr.set {X:Nat->Prop}{a w:ax}(h:Fr X a w)(c o:Nat)(v:Value)(hc:X c):Fr X a (w.setCell ⟨c,o,none⟩ v):=
 ⟨h.os,h.tape,h.output,by simpa[World.setCell] using h.size,fun k hk b=>(aU _ _ _ _ (fun e=>b (by rw[e];exact hc))).trans (h.block k hk b)⟩
theorem Fr.grown {X:Nat->Prop}{a w w':ax}{row:Option Nat}(h:Fr X a w)(g:w.grownBy w' row)(hr:∀k,row=some k->X k\/a.heap.size<=k):Fr X a w':=
 ⟨g.os.trans h.os,g.tape.trans h.tape,g.output.trans h.output,aT h.size g.size,fun k hk b=>(g.block k (aM hk h.size) (fun e=>(hr k e.symm).elim b (fun c=>by omega))).trans (h.block k hk b)⟩
theorem Fr.below {X:Nat->Prop}{w w':ax}{B:Nat}(h:Fr X w w')(hB:B<=w.heap.size)(b:∀k,X k->B<=k):Below B w w':=
 ⟨h.os,h.tape,h.output,h.size,fun k hk=>h.block k V (fun c=>by have:=b k c;omega)⟩
theorem cH {w w':ax}{base n m:Nat}{e:TypeId}{v:Value}{l:List Value}(h:w.ownsRow base e m v n l)(hk:∀k,some k=v.ownBlock->w'.heap[k]?=w.heap[k]?):w'.ownsRow base e m v n l:=by
 refine⟨h.1,?_⟩
 rcases h.2 with hn|⟨g,cap,b,rfl,hb,c,d⟩
 ·exact .inl hn
 ·exact .inr ⟨g,cap,b,rfl,hb,(hk g rfl).trans c,d⟩
theorem cn {w:ax}{base n m:Nat}{e:TypeId}{v:Value}{l:List Value}(h:w.ownsRow base e m v n l):∀k,some k=v.ownBlock->base<=k/\k<w.heap.size:=fun k hk=>h.lt k hk.symm
theorem hY {X:Nat->Prop}{w w':ax}{base n m:Nat}{e:TypeId}{v:Value}{l:List Value}(h:w.ownsRow base e m v n l)(f:Fr X w w')(b:∀k,some k=v.ownBlock->¬X k):w'.ownsRow base e m v n l:=
 cH h (fun k hk=>f.block k (cn h k hk).2 (b k hk))
theorem eV {w:ax}{base base' n m:Nat}{e:TypeId}{v:Value}{l:List Value}(h:w.ownsRow base e m v n l)(hb:∀k,some k=v.ownBlock->base'<=k):w.ownsRow base' e m v n l:=by
 refine⟨h.1,?_⟩
 rcases h.2 with hn|⟨g,cap,b,rfl,_,c⟩
 ·exact .inl hn
 ·exact .inr ⟨g,cap,b,rfl,hb g rfl,c⟩
theorem e6 {w:ax}{base n m:Nat}{e:TypeId}{v:Value}{l:List Value}(h:w.ownsRow base e m v n l):∀k,some k=v.ownBlock->∃b,w.heap[k]?=some (.cells b e (0,0)):=by
 intro k hk;rcases h.2 with⟨rfl,_⟩|⟨g,cap,b,rfl,_,c,_⟩
 ·simp[Value.ownBlock] at hk
 ·simp[Value.ownBlock] at hk;subst hk;exact⟨b,c⟩
theorem eU {w:ax}{base n m:Nat}{e:TypeId}{v:Value}{l:List Value}(h:w.ownsRow base e m v n l)(hn:0<n):∃b cap,v=.slice (ak b) n cap:=by
 rcases h.2 with⟨_,h0⟩|⟨g,cap,c,hv,_⟩
 ·omega
 ·exact⟨g,cap,hv⟩
theorem eE {w:ax}{base n m:Nat}{e:TypeId}{v:Value}{l:List Value}(h:w.ownsRow base e m v n l):∃ad cap,v=.slice ad n cap:=by
 rcases h.2 with⟨hv,h0⟩|⟨g,cap,b,hv,_⟩
 ·exact⟨none,0,by rw[hv,h0]⟩
 ·exact⟨_,cap,hv⟩
def iK (w:ax)(ad:Option Addr)(l:List Int):Prop:=0<l.length->∃b o,ad=some ⟨b,o,none⟩/\b<w.heap.size/\∀i,i<l.length->w.cell? (aq b (o+i))=some (ah (l.getD i 0))
def dw (w:ax)(ad:Option Addr)(l:List (Int×Int)):Prop:=
 0<l.length->∃b o,ad=some ⟨b,o,none⟩/\b<w.heap.size/\∀i,i<l.length->w.cell? (aq b (o+i*2))=some (ah (l.getD i (0,0)).1)/\w.cell? (aq b (o+i*2+1))=some (ah (l.getD i (0,0)).2)
def ev (l:List (Int×Int)):List Value:=l.flatMap fun e=>[ah e.1,ah e.2]
theorem iT (a b:List (Int×Int)):ev (a++b)=ev a++ev b:=by simp[ev]
theorem kC:∀l:List (Int×Int),(ev l).length=l.length*2
 |[]=>rfl
 |e::r=>by
  have:=kC r;simp[ev] at this⊢
  omega
theorem nN:∀(l:List (Int×Int))(i:Nat),i<l.length->(ev l)[i*2]?=some (ah (l.getD i (0,0)).1)/\(ev l)[i*2+1]?=some (ah (l.getD i (0,0)).2)
 |[],i,h=>by simp at h
 |e::r,0,_=>by simp[ev]
 |e::r,i+1,h=>by
  have b:(ev (e::r))=ah e.1::ah e.2::ev r:=by simp[ev]
  rw[b,show(i+1)*2=i*2+1+1 by omega];simpa using(nN r i (by simpa using h))
theorem gI {w:ax}{base:Nat}{e:TypeId}{ad:Option Addr}{cap:Nat}{l:List Int}(h:w.ownsRow base e 1 (.slice ad l.length cap) l.length (l.map (Value.int .i64))):iK w ad l:=by
 intro hp;rcases h.2 with⟨_,h0⟩|⟨g,j,d,hv,hb,b,k,m,n,f⟩
 ·omega
 ·obtain⟨rfl,rfl⟩:=hv;refine⟨g,0,rfl,lt_of_some b,fun i hi=>?_⟩
  have c:(d.toList.take (l.length*1))[i]?=some (ah (l.getD i 0)):=by rw[f];simp[List.getElem?_map,List.getElem?_eq_getElem hi]
  rw[List.getElem?_take_of_lt V] at c;simp[World.cell?,b];simpa using c
theorem g8 {w:ax}{base:Nat}{e:TypeId}{ad:Option Addr}{cap:Nat}{l:List _}(h:w.ownsRow base e 2 (.slice ad l.length cap) l.length (ev l)):dw w ad l:=by
 intro hp;rcases h.2 with⟨_,h0⟩|⟨g,f,j,hv,hb,b,k,m,n,d⟩
 ·omega
 ·obtain⟨rfl,rfl⟩:=hv;refine⟨g,0,rfl,lt_of_some b,fun i hi=>?_⟩
  obtain⟨k1,c⟩:=nN l i hi;rw[<-d,List.getElem?_take_of_lt V] at k1 c;constructor
  ·simp[World.cell?,b];simpa using k1
  ·simp[World.cell?,b];simpa using c
theorem aP {w w':ax}{a:Addr}(h:w'.heap[a.block]? = w.heap[a.block]?):w'.cell? a = w.cell? a:=by intros;apply World.cell?_of_block<;>assumption
theorem iK.keep {w w':ax}{ad:Option Addr}{l:List Int}(h:iK w ad l)(hs:w.heap.size<=w'.heap.size)(hk:0<l.length->∀a,ad=some a->w'.heap[a.block]?=w.heap[a.block]?):iK w' ad l:=by intro hp;obtain⟨b,o,rfl,hb,hc⟩:=h hp;exact⟨b,o,rfl,V,fun i hi=>(aP (a:=⟨b,o+i,none⟩) (hk hp ⟨b,o,none⟩ rfl)).trans (hc i hi)⟩
theorem dw.keep {w w':ax}{ad:Option Addr}{l:List _}(h:dw w ad l)(hs:w.heap.size<=w'.heap.size)(hk:0<l.length->∀a,ad=some a->w'.heap[a.block]?=w.heap[a.block]?):dw w' ad l:=by intro hp;obtain⟨b,o,rfl,hb,hc⟩:=h hp;exact⟨b,o,rfl,V,fun i hi=>⟨(aP (a:=⟨b,o+i*2,none⟩) (hk hp ⟨b,o,none⟩ rfl)).trans (hc i hi).1,(aP (a:=⟨b,o+i*2+1,none⟩) (hk hp ⟨b,o,none⟩ rfl)).trans (hc i hi).2⟩⟩
open Go.RowKit W Kp
theorem v6:(prog.info? 2).map (fun i=>(i.zero,i.size,i.bytes))=some (some (ah 0),1,8):=ae
open Go.RowKit W Kp cf
theorem nO:(prog.info? 103).map (fun i=>(i.zero,i.size,i.bytes))=some (some (.agg #[ah 0,ah 0]),2,16):=ae
abbrev en (e:b7):Value:=.agg #[ah e.1,ah e.2]
structure dr (g6:Type) where
 J:(Nat->Prop)->g6->ax->Prop
 lt:∀{F t w},J F t w->∀k,F k->k<w.heap.size
 keep:∀{F t w w'},J F t w->w.heap.size<=w'.heap.size->(∀k,F k->w'.heap[k]?=w.heap[k]?)->J F t w'
theorem dr.fr {b:Type}(o:dr b){F X:Nat->Prop}{t:b}{w w':ax}(h:o.J F t w)(f:Fr X w w')(c:∀k,F k->¬X k):o.J F t w':=o.keep h f.size (fun k hk=>f.block k (o.lt h k hk) (c k hk))
theorem dr.below {b:Type}(o:dr b){F:Nat->Prop}{t:b}{w w':ax}(h:o.J F t w)(f:Below w.heap.size w w'):o.J F t w':=o.keep h f.size (fun k hk=>f.block k (o.lt h k hk))
def dN (f:Nat):Prop:=∀(args:Array Value)(w:ax),(callFunc f args).run prog w=.ok (.enter f args) w
theorem gb {f:Nat}{b:Func}{c:Code}(d:Tryz.prog.funcs[f]?=some b)(e:(b.name== "runtime.NumGoroutine")=false)(hb:b.body=some c):dN f:=by
 intro args w;have g:b.name≠ "runtime.NumGoroutine" :=by simpa using e
 simp[callFunc,d,g,hb]
theorem pZ {b:Type}(o:dr b){F:Nat->Prop}{t:b}{w c:ax}{f:Obj}{d:Option Nat}(h:o.J F t w)(hg:(w.alloc f).grownBy c d)(g:∀k,some k=d->¬F k):o.J F t c:=
 o.keep h (by have:=hg.size;simp at this;omega) (fun k hk=>(hg.block k (by have:=o.lt h k hk;simp;omega) (fun e=>g k e hk)).trans (aS _ _ _ (o.lt h k hk)))
theorem v7 {w b:ax}{base n m:Nat}{e:TypeId}{v:Value}{l:List Value}{d:Obj}{c:Option Nat}(h:w.ownsRow base e m v n l)(hg:(w.alloc d).grownBy b c)(f:∀k,some k=v.ownBlock->some k≠c):b.ownsRow base e m v n l:=
 cH h (fun k hk=>(hg.block k (by have:=(cn h k hk).2;simp;omega) (f k hk)).trans (aS _ _ _ (cn h k hk).2))
theorem gd {w:ax}{base n m:Nat}{e:TypeId}{v:Value}{l:List Value}(h:w.ownsRow base e m v n l)(b:Obj):(w.alloc b).ownsRow base e m v n l:=
 cH h (fun k hk=>aS _ _ _ (cn h k hk).2)
def Looks {d:Type}(o:dr d)(D:b7->Prop)(G:d->Prop)(f:Nat)(b c:Array Value)(lk:d->b7->Bool×d):Prop:=
 ∀F t w (e:b7),D e->G t->o.J F t w->Calls prog f (b.push (en e)++c) w fun r w'=>∃g,r=.returned (.bool (lk t e).1)/\o.J g (lk t e).2 w'/\Fr F w w'/\∀k,g k->F k\/w.heap.size<=k
def ej {b:Type}(lk:b->b7->Bool×b)(s:List b7×List b7×b)(e:b7):List b7×List b7×b:=
 if(lk s.2.2 e).1 then(s.1++[e],s.2.1,(lk s.2.2 e).2) else(s.1,s.2.1++[e],(lk s.2.2 e).2)
def pts {b:Type}(lk:b->b7->Bool×b)(t:b)(l:List b7):List b7×List b7×b:=l.foldl (ej lk) ([],[],t)
theorem Co {b:Type}(lk:b->b7->Bool×b)(t:b)(l:List b7)(e:b7):pts lk t (l++[e])=ej lk (pts lk t l) e:=by simp[pts,List.foldl_append]
theorem oN {b:Type}(lk:b->b7->Bool×b)(t:b)(l:List b7):(pts lk t l).1.length+(pts lk t l).2.1.length=l.length:=by
 have key:∀(l:List b7)(s:List b7×List b7×b),(l.foldl (ej lk) s).1.length+(l.foldl (ej lk) s).2.1.length=s.1.length+s.2.1.length+l.length:=by
  intro l
  induction l with
  |nil=>simp
  |cons e r c=>
   intro s;rw[a8,c];unfold ej;split<;>simp<;>omega
 simpa[pts] using key l ([],[],t)
theorem aX (n:Nat):0 <= n:=Nat.zero_le ..
theorem bc (w:ax)(base:Nat)(e:Go.TypeId)(size:Nat):w.ownsRow base e size (Value.slice Option.none 0 0) 0 []:=World.ownsRow_nil ..
theorem aE {α:Type _}{l:List α}{i:Nat}{a:α}:l.getD i a = l[i]?.getD a:=List.getD_eq_getElem?_getD ..
theorem aL {α:Type _}{l:List α}{i:Nat}(h:i < l.length):l[i]? = some l[i]:=List.getElem?_eq_getElem ..
theorem a6 {α:Type _}{l:List α}{n:Nat}(h:n < l.length):l[n] ∈ l:=List.getElem_mem ..
theorem aO (w:ax)(o:Obj):(w.alloc o).heap[w.heap.size]? = some o:=heap_alloc_new ..
theorem aA{w:World}{b o:Nat}{c:Array Value}{T:TypeId}{g:Nat×Nat}{v:Value}(h:w.heap[b]?=some (.cells c T g))(e:c[o]?=some v:=by rfl):w.cell? ⟨b,o,none⟩=some v:=by simp[World.cell?,h];exact e
theorem v8 {E:Type}(o:dr E)(D:b7->Prop)(G:E->Prop)(f:Nat)(b c:Array Value)(lk:E->b7->Bool×E)(bb:dN f)(hl:Looks o D G f b c lk)(l:List b7)(ad:Option Addr)(cap:Nat)(F:Nat->Prop)(t:E)(w:ax)
 (bZ:∀e∈l,D e)(bd:∀j,j<l.length->G (pts lk t (l.take j)).2.2)(hm:l.length<=100000)(b0:o.J F t w)(hp:∀q ao w',o.J q ao w'->Fr F w w'->dw w' ad l):
 Calls prog 150 #[.slice ad l.length cap,.func (.func f) b c] w fun r w'=>∃a1 c1 a2 c2 q,r=.returned (.tuple #[.slice a1 (pts lk t l).1.length c1,.slice a2 (pts lk t l).2.1.length c2])/\w'.ownsRow w.heap.size 103 2 (.slice a1 (pts lk t l).1.length c1) (pts lk t l).1.length (ev (pts lk t l).1)/\
  w'.ownsRow w.heap.size 103 2 (.slice a2 (pts lk t l).2.1.length c2) (pts lk t l).2.1.length (ev (pts lk t l).2.1)/\o.J q (pts lk t l).2.2 w'/\Fr F w w'/\(∀k,q k->F k\/w.heap.size<=k)/\(∀k,some k=(Value.slice a1 (pts lk t l).1.length c1).ownBlock->¬q k)/\(∀k,some k=(Value.slice a2 (pts lk t l).2.1.length c2).ownBlock->¬q k):=by
 obtain⟨be,hi,bg,bi,bl⟩:=info_parts nO;have b1:ay (Looks o D G f b c lk):=hl;have b2:ay (∀j,j<l.length->G (pts lk t (l.take j)).2.2):=bd;clear bd;clear hl;have b3:ay (∀q ao w',o.J q ao w'->Fr F w w'->dw w' ad l):=hp;clear hp;have ci:∀(args:Array Value)(w:ax),(callFunc f args).run prog w=.ok (.enter f args) w:=bb;clear bb;go_enter func150,ntmps150;go_wp2_with fail
 go_loopw [6,7,12] (fun b5 b6 iv wr=>∃(j:Nat)(Y N:List b7)(s an:Option Addr)(u n:Nat)(p:Nat->Prop)(i:E),j<=l.length/\iv=ah j/\ay (pts lk t (l.take j)=(Y,N,i))/\b5=.slice s Y.length u/\b6=.slice an N.length n/\
  wr.ownsRow w.heap.size 103 2 (.slice s Y.length u) Y.length (ev Y)/\wr.ownsRow w.heap.size 103 2 (.slice an N.length n) N.length (ev N)/\o.J p i wr/\Fr F w wr/\ay (∀k,p k->F k\/w.heap.size<=k)/\
  ay (∀k,some k=(Value.slice s Y.length u).ownBlock->¬p k/\some k≠(Value.slice an N.length n).ownBlock)/\ay (∀k,some k=(Value.slice an N.length n).ownBlock->¬p k)) (fun _ _ iv _=>l.length-(intOf iv).toNat)
 case atStart=>exact⟨0,[],[],none,none,0,0,F,t,aX _,rfl,rfl,rfl,rfl,bc _ _ _ _,bc _ _ _ _,b0,Fr.refl _ _,fun k h=>aK h,fun k e=>by simp[Value.ownBlock] at e,fun k e=>by simp[Value.ownBlock] at e⟩
 case round=>
  obtain⟨j,Y,N,s,an,u,n,p,i,d,rfl,I,rfl,rfl,W,hN,J,K,X,L,ab⟩:=hrel;by_cases M:j<l.length
  ·obtain⟨cj,ck,b8,cl,hc⟩:=b3.o p i wr J K V;obtain⟨b9,ca⟩:=hc j M;clear hc;have O:D (l.getD j (0,0)):=bZ _ (by rw[aE,aL M];exact a6 M)
   have cb:G i:=by have:=b2.o j M;rw[I.o] at this;exact this
   have x:=Co lk t (l.take j) (l.getD j (0,0))
   rw[<-gy l j M (0,0),I.o] at x;have x:ay (pts lk t (l.take (j+1))=ej lk (Y,N,i) ((l.getD j (0,0)).1,(l.getD j (0,0)).2)):=x;have O:D ((l.getD j (0,0)).1,(l.getD j (0,0)).2):=O;generalize (l.getD j (0,0)).1=g at b9 x O;generalize (l.getD j (0,0)).2=z at ca x O;subst b8;have cm:Y.length+N.length<=100000:=by
    have bn:=oN lk t (l.take j)
    rw[I.o] at bn;simp at bn;omega
   have co:=K.size;have bo:=o.lt J;go_wp2_with fail;refine(b1.o p i _ (g,z) O cb (o.below J (bX.alloc bW _))).mono ?_;rintro e P ⟨v,rfl,ag,H,ai⟩
   have cc:=H.size;simp at cc;have bp:¬p wr.heap.size:=fun h=>by have:=bo _ h;omega
   have br:=(H.block _ Z bp).trans (aO _ _)
   have cp:P.cell? (aq wr.heap.size 0)=some (ah g):=aA br
   have cq:P.cell? (aq wr.heap.size 1)=some (ah z):=aA br
   have al:=hY (gd W (.cells #[.int .i64 g,.int .i64 z] 103)) H (fun k e=>(L.o k e).1)
   have am:=hY (gd hN (.cells #[.int .i64 g,.int .i64 z] 103)) H (fun k e=>ab.o k e)
   have bs:Fr F w P:=(K.alloc (.cells #[.int .i64 g,.int .i64 z] 103)).trans H X.o;have bt:ay (∀k,v k->F k\/w.heap.size<=k):=fun k hk=>(ai k hk).elim (fun h=>X.o k h) (fun h=>aJ (by simp at h;omega))
   have A:ay (∀k,some k=(Value.slice s Y.length u).ownBlock->¬v k/\some k≠(Value.slice an N.length n).ownBlock):=fun k e=>⟨fun h=>(ai k h).elim (L.o k e).1 (fun h=>by have:=(cn W k e).2;simp at h;omega),(L.o k e).2⟩
   have ap:ay (∀k,some k=(Value.slice an N.length n).ownBlock->¬v k):=fun k e h=>(ai k h).elim (ab.o k e) (fun h=>by have:=(cn hN k e).2;simp at h;omega)
   have bx:=o.lt ag;clear W hN K H X L ab J ai bo bp;have hd:ay (pts lk t (l.take (j+1))=if(lk i (g,z)).1 then(Y++[(g,z)],N,(lk i (g,z)).2) else(Y,N++[(g,z)],(lk i (g,z)).2)):=x.o;clear x;generalize (lk i (g,z)).2=bY at ag hd;cases hb:(lk i (g,z)).1
   ·rw[hb] at hd;have hd:=hide hd;go_wp2_with (at_builtin;refine wpList_append_own_at _ rfl _ _ 151 rfl w.heap.size 103 be (.agg #[ah 0,ah 0]) 2 16 underlying151 hi bg bi bl rfl aa (.slice an N.length n) N.length (ev N) rfl (gd am _) ⟨P.heap.size,0,none⟩ 1 1 [ah g,ah z] rfl rfl ?_ ?_ ?_ ?_ ?_ ?_;(intro j ar d;match j,d with|0,d=>(simp at d;subst d;simp[Addr.add])|1,d=>(simp at d;subst d;simp[Addr.add]));(intro ar m;simp at m;rcases m with m|m<;>(subst m;rfl));(unfold maxLen;omega);omega;(simp;omega);intro cd aB Q B _ aF;obtain⟨b4,R,aR⟩:=eU Q (Nat.succ_pos _);subst aR)
    have ce:aB.ownsRow w.heap.size 103 2 (.slice (ak b4) (N++[(g,z)]).length R) (N++[(g,z)]).length (ev (N++[(g,z)])):=by rw[iT];simpa[ev] using Q
    have cf:=pZ o ag B (fun k e=>ap.o k e)
    have aV:=v7 al B (fun k e=>(A.o k e).2)
    have cg:=(bs.alloc (.cells #[.int .i64 g,.int .i64 z] 103)).grown B (fun k e=>aJ (cn am k e.symm).1)
    have S:=aF.imp id (fun e=>by simpa[Value.ownBlock] using e)
    have a0:ay (∀k,some k=(Value.slice s Y.length u).ownBlock->¬v k/\some k≠some b4):=fun k e=>⟨(A.o k e).1,fun C=>S.elim (fun h=>(A.o k e).2 (C.trans h)) (fun h=>by have:=(cn al k e).2;simp at C;omega)⟩
    have ch:ay (∀k,some k=some b4->¬v k):=fun k e h=>S.elim (fun U=>ap.o k (e.trans U) h) (fun U=>by have:=bx k h;simp at e;omega)
    go_wp2_with fail;go_roundw
    case rel=>exact⟨j+1,Y,N++[(g,z)],s,ak b4,u,R,v,bY,V,af,hd,rfl,Z,aV,ce,cf,cg,bt,a0,ch⟩
    case measure=>simp[intOf];omega
   ·rw[hb] at hd;go_wp2_with (at_builtin;refine wpList_append_own_at _ rfl _ _ 151 rfl w.heap.size 103 be (.agg #[ah 0,ah 0]) 2 16 underlying151 hi bg bi bl rfl aa (.slice s Y.length u) Y.length (ev Y) rfl (gd al _) ⟨P.heap.size,0,none⟩ 1 1 [ah g,ah z] rfl rfl ?_ ?_ ?_ ?_ ?_ ?_;(intro j ar d;match j,d with|0,d=>(simp at d;subst d;simp[Addr.add])|1,d=>(simp at d;subst d;simp[Addr.add]));(intro ar m;simp at m;rcases m with m|m<;>(subst m;rfl));(unfold maxLen;omega);omega;(simp;omega);intro cd aB Q B _ aF;obtain⟨b4,R,aR⟩:=eU Q (Nat.succ_pos _);subst aR)
    have aV:aB.ownsRow w.heap.size 103 2 (.slice (ak b4) (Y++[(g,z)]).length R) (Y++[(g,z)]).length (ev (Y++[(g,z)])):=by rw[iT];simpa[ev] using Q
    have S:=aF.imp id (fun e=>by simpa[Value.ownBlock] using e)
    have a0:ay (∀k,some k=some b4->¬v k/\some k≠(Value.slice an N.length n).ownBlock):=fun k e=>⟨fun h=>S.elim (fun U=>(A.o k (e.trans U)).1 h) (fun U=>by have:=bx k h;simp at e;omega),fun C=>S.elim (fun h=>(A.o k (e.trans h)).2 C) (fun h=>by have:=(cn am k C).2;simp at e;omega)⟩
    go_wp2_with fail;go_roundw;exact⟨j+1,Y++[(g,z)],N,ak b4,an,R,n,v,bY,V,af,hd,Z,rfl,aV,(v7 am B (fun k e C=>(A.o k C).2 e)),(pZ o ag B (fun k e=>(A.o k e).1)),((bs.alloc (.cells #[.int .i64 g,.int .i64 z] 103)).grown B (fun k e=>aJ (cn al k e.symm).1)),bt,a0,ap⟩
    simp[intOf];omega
  ·obtain rfl:j=l.length:=V;rw[bm] at I;go_wp2_with fail;go_ret2;rw[I.o];exact⟨_,_,_,_,p,rfl,W,hN,J,K,X.o,fun k e=>(L.o k e).1,ab.o⟩
theorem dw.apart {d:Type}{o:dr d}{F:Nat->Prop}{w:ax}{ad:Option Addr}{l:List b7}(h:dw w ad l)(f:0<l.length->∀z,ad=some z->¬F z.block):∀g i w',o.J g i w'->Fr F w w'->dw w' ad l:=fun _ _ _ _ b=>
 h.keep b.size (fun hp z e=>by obtain⟨k,m,c,j,_⟩:=h hp;rw[e] at c;cases c;exact b.block _ j (f hp _ e))
def v9 (w0:ax):dr Unit where
 J F _ w:=(∀k,F k↔k<w0.heap.size)/\w0.heap.size<=w.heap.size/\∀k,k<w0.heap.size->w.heap[k]?=w0.heap[k]?
 lt:=by rintro F t w ⟨b,d,c⟩ k hk;have:=(b k).1 hk;omega
 keep:=by rintro F t w w' ⟨b,d,c⟩ hs hk;exact⟨b,V,fun k h=>(hk k ((b k).2 h)).trans (c k h)⟩
theorem Cr {b:Type}(p:b->b7->Bool)(s:b)(l:List b7):pts (fun s e=>(p s e,s)) s l=(l.filter (p s),l.filter (fun e=>!p s e),s):=by
 have key:∀(l Y N:List b7),l.foldl (ej (fun s e=>(p s e,s))) (Y,N,s)=(Y++l.filter (p s),N++l.filter (fun e=>!p s e),s):=by
  intro l
  induction l with
  |nil=>simp
  |cons e r c=>
   intro Y N;cases h:p s e
   ·simp[ej,h,c]
   ·simp[ej,h,c]
 simpa[pts] using key l [] []
theorem sk (D:b7->Prop)(f:Nat)(b c:Array Value)(p:b7->Bool)(m:dN f)(w:ax)
 (hl:∀(w':ax)(e:b7),D e->w.heap.size<=w'.heap.size->(∀k,k<w.heap.size->w'.heap[k]?=w.heap[k]?)->Calls prog f (b.push (en e)++c) w' fun r n=>r=.returned (.bool (p e))/\Below w'.heap.size w' n)
 (l:List b7)(ad:Option Addr)(cap:Nat)(g:∀e∈l,D e)(hm:l.length<=100000)(hp:dw w ad l):
 Calls prog 150 #[.slice ad l.length cap,.func (.func f) b c] w fun r w'=>∃a1 c1 a2 c2,r=.returned (.tuple #[.slice a1 (l.filter p).length c1,.slice a2 (l.filter (fun e=>!p e)).length c2])/\w'.ownsRow w.heap.size 103 2 (.slice a1 (l.filter p).length c1) (l.filter p).length (ev (l.filter p))/\
  w'.ownsRow w.heap.size 103 2 (.slice a2 (l.filter (fun e=>!p e)).length c2) (l.filter (fun e=>!p e)).length (ev (l.filter (fun e=>!p e)))/\Below w.heap.size w w':=by
 have P:=v8 (v9 w) D (fun _=>True) f b c (fun _ e=>(p e,())) m (by
  rintro F t w1 e g _ ⟨i,j2,cA⟩
  refine(hl w1 e g j2 cA).mono ?_;rintro r u ⟨rfl,hb⟩
  exact⟨F,rfl,(v9 w).below ⟨i,j2,cA⟩ hb,Fr.of hb,fun k h=>aK h⟩) l ad cap (fun k=>k<w.heap.size) () w g (fun _ _=>trivial) hm ⟨fun k=>Iff.rfl,aD _,fun _ _=>rfl⟩
  (by
    rintro o v w' ⟨i,j2,cA⟩ _;refine hp.keep j2 (fun hq z e=>?_)
    obtain⟨x,A,j,q,_⟩:=hp hq;rw[e] at j;cases j;exact cA _ q)
 rw[Cr (fun _ e=>p e) () l] at P;refine P.mono ?_;rintro r w' ⟨a1,c1,a2,c2,o,rfl,s,hN,⟨i,j2,cA⟩,d,_,_,_⟩
 exact⟨a1,c1,a2,c2,rfl,s,hN,d.os,d.tape,d.output,d.size,cA⟩
theorem Ct (w:ax)(ad:Option Addr)(n cap:Nat)(b:n<=cap):
 Calls prog 179 #[.slice ad n cap] w fun e w'=>e=.returned (.slice ad n n)/\w'=w:=by
 go_wp2;go_ret;exact⟨rfl,rfl⟩
structure iu (w:ax)(ad:Option Addr)(l:List b7)(cap:Nat):Prop where
 lp:dw w ad l
 le:l.length<=cap
 nil:ad=none->l.length=0/\cap=0
theorem dw.cells {w:ax}{ad:Option Addr}{q:List b7}(h:dw w ad q):∀b,ad=some b->∀j c,(ev q)[j]?=some c->w.cell? (b.add j)=some c:=by
 intro b e j c d;have hl:=kC q;have m:=(List.getElem?_eq_some_iff.1 d).1;obtain⟨g,o,k,hb,hc⟩:=h V;rw[e] at k;cases k;obtain⟨c1,c2⟩:=hc (j/2) V;obtain⟨k1,f⟩:=nN q (j/2) V;rcases Nat.mod_two_eq_zero_or_one j with hz|hz
 ·have i:j/2*2=j:=V;rw[i] at k1 c1;rw[d] at k1;cases k1;rw[Addr.add_lit];exact c1
 ·have i:j/2*2+1=j:=V;have l:o+j/2*2+1=o+j:=V;rw[i] at f;rw[l] at c2;rw[d] at f;cases f;rw[Addr.add_lit];exact c2
theorem dw.below {w w':ax}{ad:Option Addr}{l:List _}(h:dw w ad l)(hb:Below w.heap.size w w'):dw w' ad l:=
 h.keep hb.size (fun hp z e=>by obtain⟨b,o,c,d,_⟩:=h hp;rw[e] at c;cases c;exact hb.block _ d)
theorem aH (B:Nat)(w:ax):Below B w w:=Below.refl ..
theorem v_ (w:ax)(ad:Option Addr)(q:List b7)(cap:Nat)(g z:Int)(h:iu w ad q cap)(hm:q.length<=100000):
 Calls prog 104 #[.slice ad q.length cap,.agg #[ah g,ah z]] w fun e w'=>∃b1 ge,e=.returned (.slice (ak b1) (q.length+1) ge)/\w'.ownsRow w.heap.size 103 2 (.slice (ak b1) (q.length+1) ge) (q.length+1) (ev (q++[(g,z)]))/\Below w.heap.size w w':=by
 obtain⟨i,hi,l,m,n⟩:=info_parts nO;have o:ay (dw w ad q):=h.lp;have p:ay (ad=none->q.length=0/\q.length=0):=fun e=>⟨(h.nil e).1,(h.nil e).1⟩
 have s:=h.le;clear h;go_enter func104,ntmps104;go_wp2_with fail
 go_region_held3 (fun w'=>w'.cell? (aq w.heap.size 0)=some (ah g)/\w'.cell? (aq w.heap.size 1)=some (ah z)) (go_keep)
  (first|(go_at_call 179;refine(Ct _ ad q.length cap s).mono ?_;rintro e A ⟨rfl,rfl⟩)|(refine step_append_grows rfl (.tmp 6) (.tmp 8) 151 rfl 103 i (.agg #[ah 0,ah 0]) 2 16 underlying151 hi l m n rfl aa ad q.length q.length (ev q) (by simp[Act.eval]) p.o (kC q) (o.o.below (by first|exact(((aH _ w).alloc bW _).alloc Z _).drew|exact((aH _ w).alloc bW _).drew.alloc Z _)).cells ⟨w.heap.size+1,0,none⟩ 1 1 [ah g,ah z] (by simp[Act.eval]) rfl ?_ ?_ V (by unfold maxLen;omega) V ?_;(intro j t b;match j,b with|0,b=>(simp at b;subst b;simp[Addr.add])|1,b=>(simp at b;subst b;simp[Addr.add]));(intro t c;simp at c;rcases c with c|c<;>(subst c;rfl));intro B C f d;obtain⟨b4,u,x⟩:=eU f (Nat.succ_pos _);subst x;have y1:=d.cell (a:=⟨w.heap.size,0,none⟩) (v:=ah g) Z Z;have D:=d.cell (a:=⟨w.heap.size,1,none⟩) (v:=ah z) Z Z))
 all_goals
  go_wp2_with fail;go_ret;exact⟨b4,u,rfl,by rw[iT];exact eV f (fun k e=>by have:=(cn f k e).1;simp at this;omega),by first|exact((((aH _ w).alloc bW _).alloc Z _).drew).grown d (by simp;omega) (fun k e=>by cases e)|exact(((aH _ w).alloc bW _).drew.alloc Z _).grown d (by simp;omega) (fun k e=>by cases e)⟩
theorem nP (l:List b7):∀c∈ev l,c.oneCell'=true:=by intro c b;simp only [ev,List.mem_flatMap] at b;obtain⟨e,_,b⟩:=b;simp at b;rcases b with rfl|rfl<;>rfl
theorem Cu (w:ax):(w.alloc (.cells #[] 103)).ownsRow w.heap.size 103 2 (.slice (ak w.heap.size) 0 0) 0 []:=
 ⟨rfl,aJ ⟨w.heap.size,0,#[],rfl,aD _,aO _ _,aD _,aX _,rfl,rfl⟩⟩
theorem sq (w:ax)(ad:Option Addr)(l:List b7)(cap:Nat)(h:iu w ad l cap)(hm:l.length<=100000):
 Calls prog 212 #[.slice ad l.length cap] w fun e w'=>∃a1 c1,e=.returned (.slice a1 l.length c1)/\w'.ownsRow w.heap.size 103 2 (.slice a1 l.length c1) l.length (ev l)/\Below w.heap.size w w':=by
 obtain⟨f,hi,g,i,j⟩:=info_parts nO;have o:∀(w:ax)(a:Option Addr)(n c:Nat),_=_:=fun w a n c=>Lib.run_eql_slice_nil w _ _ a n c 0 0 underlying151;have d:=hide h.lp;cases ad with
 |none=>
  have hl:=List.eq_nil_of_length_eq_zero (h.nil rfl).1;subst hl;clear h d;go_enter func212,ntmps212;go_wp2;go_ret;exact⟨none,0,rfl,bc _ _ _ _,aH _ _⟩
 |some a=>
  clear h;go_enter func212,ntmps212;go_wp2_with (at_builtin;refine wpList_append_own _ rfl _ _ 151 rfl w.heap.size 103 f _ 2 16 underlying151 hi g i j rfl aa _ 0 [] rfl (Cu w) a l.length cap (ev l) rfl (kC l) ((d.o.below (bX.alloc bW _)).cells a rfl) (nP l) ?_ ?_ ?_ ?_;(unfold maxLen;omega);omega;(simp);intro v w1 b m _)
  rw[List.nil_append,Nat.zero_add] at b;obtain⟨a1,c1,rfl⟩:=eE b;go_wp2;go_ret;exact⟨a1,c1,rfl,b,(bX.alloc bW _).grown m Z (fun k e=>by cases e;exact aD _)⟩
abbrev dT:=Int×Option Addr×Nat×List (Int×Int)
def nv (m:List dT):List Value:=m.flatMap fun x=>[ah x.1,.slice x.2.1 x.2.2.2.length x.2.2.1]
def hZ (m:List dT):List (Int×List (Int×Int)):=m.map fun x=>(x.1,x.2.2.2)
theorem wc (a b:List dT):nv (a++b)=nv a++nv b:=by simp[nv]
theorem oO:∀(l:List dT)(i:Nat)(x:dT),l[i]?=some x->(nv l)[i*2]?=some (ah x.1)/\(nv l)[i*2+1]?=some (.slice x.2.1 x.2.2.2.length x.2.2.1)
 |[],i,x,h=>by simp at h
 |e::r,0,x,h=>by simp at h;subst h;simp[nv]
 |e::r,i+1,x,h=>by
  have b:(nv (e::r))=ah e.1::.slice e.2.1 e.2.2.2.length e.2.2.1::nv r:=by simp[nv]
  rw[b,show(i+1)*2=i*2+1+1 by omega];simpa using(oO r i x (by simpa using h))
theorem sr:∀(l:List dT)(i:Nat)(x:dT)(ad:Option Addr)(c:Nat)(b:List (Int×Int)),l[i]?=some x->nv (l.set i (x.1,ad,c,b))=(nv l).set (i*2+1) (.slice ad b.length c)
 |[],_,_,_,_,_,_=>rfl
 |e::l,0,x,ad,c,b,h=>by simp at h;subst h;simp[nv]
 |e::l,i+1,x,ad,c,b,h=>by
  have d:(nv (e::l))=ah e.1::.slice e.2.1 e.2.2.2.length e.2.2.1::nv l:=by simp[nv]
  have f:(nv (e::l.set i (x.1,ad,c,b)))=ah e.1::.slice e.2.1 e.2.2.2.length e.2.2.1::nv (l.set i (x.1,ad,c,b)):=by simp[nv]
  rw[List.set_cons_succ,f,d,(sr l i x ad c b (by simpa using h)),show(i+1)*2+1=i*2+1+1+1 by omega];simp
theorem nQ {w:ax}{base size n g cap:Nat}{e:TypeId}{b:List Value}(h:w.ownsRow base e size (.slice (ak g) n cap) n b)(i:Nat)(u:Value):(w.setCell ⟨g,i,none⟩ u).ownsRow base e size (.slice (ak g) n cap) n (b.set i u):=by exact vK
def fj (w:ax)(ad:Option Addr)(l:List (Int×Int)):Prop:=dw w ad l/\(0<l.length->∃b o c,ad=some ⟨b,o,none⟩/\w.heap[b]?=some (.cells c 97 (0,0)))
section
variable {B:Nat}{w w' w'':ax}
theorem fj.nil {ad:Option Addr}:fj w ad []:=⟨fun h=>by simp at h,fun h=>by simp at h⟩
theorem fj.of {base cap:Nat}{ad:Option Addr}{l:List _}(h:w.ownsRow base 97 2 (.slice ad l.length cap) l.length (ev l)):fj w ad l:=by
 refine⟨g8 h,fun hp=>?_⟩
 exact vV
end
def fp (m:List dT)(k:Nat):Prop:=∃x∈m,0<x.2.2.2.length/\∃o,x.2.1=some ⟨k,o,none⟩
theorem kD {w:ax}{base size n g cap:Nat}{e:TypeId}{b:List Value}(h:w.ownsRow base e size (.slice (ak g) n cap) n b){i:Nat}{d:Value}(hi:b[i]?=some d):w.cell? (aq g i)=some d/\w.frozen? (aq g i)=false:=by
 rcases h.2 with⟨hv,_⟩|⟨k,l,m,hv,hb,hg,o,p,q,f⟩
 ·simp at hv
 ·obtain⟨rfl,rfl⟩:=hv;rw[<-f] at hi;have j:i<n*size:=by
   rcases Nat.lt_or_ge i _ with c|c
   ·exact c
   ·rw[List.getElem?_take,aG V] at hi;simp at hi
  rw[List.getElem?_take_of_lt j] at hi;constructor
  ·simp[World.cell?,hg];simpa using hi
  ·simp[World.frozen?,hg]
def Ln (w:ax)(ad:Option Addr)(c:List (Int×List (Int×Int))):Prop:=
 ∃m:List dT,hZ m=c/\(∀x∈m,dw w x.2.1 x.2.2.2)/\(0<m.length->∃b o,ad=some ⟨b,o,none⟩/\b<w.heap.size/\∀i x,m[i]?=some x->w.cell? (aq b (o+i*2))=some (ah x.1)/\w.cell? (aq b (o+i*2+1))=some (.slice x.2.1 x.2.2.2.length x.2.2.1))
theorem Ln.below {w w':ax}{ad:Option Addr}{d:List _}(h:Ln w ad d)(hb:Below w.heap.size w w'):Ln w' ad d:=by
 obtain⟨m,f,g,j⟩:=h;refine⟨m,f,fun x c=>(g x c).below hb,fun hp=>?_⟩
 obtain⟨b,o,e,hl,hc⟩:=j hp;exact⟨b,o,e,aM hl hb.size,fun i x c=>⟨(hb.cell hl).trans (hc i x c).1,(hb.cell hl).trans (hc i x c).2⟩⟩
def mM (w:ax)(base:Nat)(ad:Option Addr)(l:List (Int×Int)):Prop:=dw w ad l/\(0<l.length->∃b o,ad=some ⟨b,o,none⟩/\base<=b)
def k4 (w:ax)(base:Nat)(ad:Option Addr)(c:List (Int×List (Int×Int))):Prop:=
 ∃m:List dT,hZ m=c/\(∀x∈m,dw w x.2.1 x.2.2.2)/\(∀k,fp m k->base<=k)/\(0<m.length->∃b o,ad=some ⟨b,o,none⟩/\base<=b/\b<w.heap.size/\∀i x,m[i]?=some x->w.cell? (aq b (o+i*2))=some (ah x.1)/\w.cell? (aq b (o+i*2+1))=some (.slice x.2.1 x.2.2.2.length x.2.2.1))
theorem k4.ln {w:ax}{base:Nat}{ad:Option Addr}{d:List _}(h:k4 w base ad d):Ln w ad d:=by obtain⟨m,f,g,_,i⟩:=h;exact⟨m,f,g,fun hp=>by obtain⟨b,o,e,_,l,c⟩:=i hp;exact⟨b,o,e,l,c⟩⟩
def hB (b c a:Int):Bool:=decide (b<=a/\a<b+c)
theorem js {b c a:Int}(h:hB b c a=true):b<=a/\a<b+c:=by simpa[hB] using h
def dd (N y g:Nat)(a:Int):Bool:=hB 0 y a||hB N g a
def ld (N y g:Nat)(ws:List Int)(a:Int):Int:=if dd N y g a=true then ws.getD a.toNat 0 else 0
theorem ju {N O y g:Nat}{a:Int}(h:dd N y g a=true)(hy:y<=N)(hg:g<=O):0<=a/\a<(N:Int)+O:=by
 rcases Bool.or_eq_true _ _▸h with h|h
 ·have:=js h;omega
 ·have:=js h;omega
theorem lQ (b s c:Int)(w:ax)(hb:0<=b)(d:b<=100000)(f:0<=c)(g:c<=100000):
 Calls prog 170 #[.agg #[ah b,ah s,ah c]] w fun e w'=>e=.returned (ah (b+c))/\Below w.heap.size w w':=by
 exact k3
theorem oP (b s c:Int)(w:ax)(hb:0<=s)(d:s<=100000)(f:0<=c)(g:c<=100000):
 Calls prog 169 #[.agg #[ah b,ah s,ah c]] w fun e w'=>e=.returned (ah (s-c))/\Below w.heap.size w w':=by
 exact k3
theorem wh (b s c a:Int)(w:ax)(hb:0<=b)(d:b<=100000)(f:0<=c)(g:c<=100000):
 Calls prog 174 #[.agg #[ah b,ah s,ah c],ah a] w fun e w'=>e=.returned (.bool (hB b c a))/\Below w.heap.size w w':=by
 by_cases h:b<=a
 ·have e:hB b c a=decide (a<b+c):=by simp[hB,h]
  rw[e];go_enter func174,ntmps174;go_wp2_with fail;refine(lQ b s c _ hb d f g).mono ?_;rintro e w1 ⟨rfl,i⟩
  go_wp2;go_ret;exact⟨rfl,(bX.alloc bW _).trans (i.mono Z)⟩
 ·have e:hB b c a=false:=by simp[hB,h]
  rw[e];exact k3
theorem mN {p q N O y g:Nat}{ws:List Int}(a:Int)(w:ax)(h:At w p q N O y g ws):
 Calls prog 95 #[aj p,ah a] w fun e w'=>e=.returned (.bool (hB 0 y a))/\Below w.heap.size w w':=by
 obtain⟨c0,c1,c2,c3,c4,c5,b⟩:=h.cells;have k1:=h.hN';have c:=h.hy;go_enter func95,ntmps95;go_wp2_with fail;refine(wh 0 N y a _ V V V V).mono ?_;exact pX
theorem mO {p q N O y g:Nat}{ws:List Int}(a:Int)(w:ax)(h:At w p q N O y g ws):
 Calls prog 96 #[aj p,ah a] w fun e w'=>e=.returned (.bool (hB N g a))/\Below w.heap.size w w':=by
 obtain⟨c0,c1,c2,c3,c4,c5,b⟩:=h.cells;have k1:=h.hN';have c:=h.hO;have d:=h.hg;go_enter func96,ntmps96;go_wp2_with fail;refine(wh N O g a _ V V V V).mono ?_;exact pX
theorem p3 {p q N O y g:Nat}{ws:List Int}(a:Int)(w:ax)(h:At w p q N O y g ws):
 Calls prog 172 #[aj p,ah a] w fun e w'=>e=.returned (.bool (dd N y g a))/\Below w.heap.size w w':=by
 cases hy:hB 0 y a
 ·have e:dd N y g a=hB N g a:=by simp[dd,hy]
  rw[e];have b:=hide hy;go_enter func172,ntmps172;go_wp2_with fail;refine(mN a _ h).mono ?_;rintro e w1 ⟨rfl,hb1⟩
  rw[b.o];go_wp2_with fail;refine(mO a _ (h.below hb1 bW)).mono ?_;rintro e d ⟨rfl,c⟩
  go_wp2;go_ret;exact⟨rfl,hb1.trans (c.mono hb1.size)⟩
 ·have e:dd N y g a=true:=by simp[dd,hy]
  rw[e];go_enter func172,ntmps172;go_wp2_with fail;refine(mN a _ h).mono ?_;exact pX
theorem jI {p q N O y g:Nat}{ws:List Int}(a:Int)(w:ax)(h:At w p q N O y g ws):
 Calls prog 98 #[aj p,ah a] w fun e w'=>e=.returned (ah (ld N y g ws a))/\Below w.heap.size w w':=by
 cases hi:dd N y g a
 ·have e:ld N y g ws a=0:=by simp[ld,hi]
  rw[e];have c:=hide hi;go_enter func98,ntmps98;go_wp2_with fail;refine(p3 a _ h).mono ?_;rintro e w1 ⟨rfl,b⟩
  rw[c.o];go_wp2;go_ret;exact⟨rfl,b⟩
 ·have e:ld N y g ws a=ws.getD a.toNat 0:=by simp[ld,hi]
  rw[e];obtain⟨f,i⟩:=ju hi h.hy h.hg;have c:=hide hi;clear hi;go_enter func98,ntmps98;go_wp2_with fail;refine(p3 a _ h).mono ?_;rintro e w1 ⟨rfl,b⟩
  rw[c.o];have d:=h.below b bW
  obtain⟨c0,c1,c2,c3,c4,c5,j⟩:=d.cells;have k:=d.word a.toNat V;go_wp2;go_ret;exact⟨rfl,b⟩
theorem k7 {p q N O y g:Nat}{ws:List Int}(a x:Int)(w:ax)(h:At w p q N O y g ws):
 Calls prog 93 #[aj p,ah a,ah x] w fun e w'=>e=.returned (.bool (dd N y g a))/\At w' p q N O y g (if dd N y g a=true then ws.set a.toNat x else ws)/\c_ p q w w':=by
 cases hi:dd N y g a
 ·rw[aG Z];have d:=hide hi;go_enter func93,ntmps93;go_wp2_with fail;refine(p3 a _ h).mono ?_;rintro e w1 ⟨rfl,b⟩
  rw[d.o];go_wp2;go_ret;exact⟨rfl,h.below b bW,c_.of b⟩
 ·rw[aI rfl];obtain⟨f,i⟩:=ju hi h.hy h.hg;go_enter func93,ntmps93;go_wp2_with fail;refine(p3 a _ h).mono ?_;rintro e w1 ⟨rfl,b⟩
  have c:=h.below b bW
  obtain⟨c0,c1,c2,c3,c4,c5,j⟩:=c.cells;have k:=c.word a.toNat V;have l:=c.sj a.toNat;go_wp2;go_ret;exact⟨rfl,c.set a.toNat x,(c_.of b).trans (c_.si _ _)⟩
theorem gf {p q N O y g:Nat}{ws:List Int}(a:Int)(w:ax)(h:At w p q N O y g ws):
 Calls prog 102 #[aj p,ah a] w fun e w'=>e=.returned (.tuple #[ah (pk (ld N y g ws a)),ah (pf (ld N y g ws a)),ah (pc (ld N y g ws a))])/\Below w.heap.size w w':=by
 go_enter func102,ntmps102;go_wp2_with fail;refine(jI a _ h).mono ?_;rintro e w1 ⟨rfl,b⟩
 go_wp2_with fail;refine(Cj _ _).mono ?_;rintro e c ⟨rfl,rfl⟩
 go_wp2
 go_ret3
 exact⟨rfl,b⟩
theorem kE {p q N O y g:Nat}{ws:List Int}(w:ax)(h:At w p q N O y g ws):
 Calls prog 22 #[aj p] w fun e w'=>e=.returned (.tuple #[ah y,ah g])/\Below w.heap.size w w':=by
 obtain⟨c0,c1,c2,c3,c4,c5,b⟩:=h.cells;exact r8
theorem mP {p q N O y g:Nat}{ws:List Int}(w:ax)(h:At w p q N O y g ws):
 Calls prog 86 #[aj p] w fun e w'=>e=.returned (.tuple #[ah 0,ah N])/\Below w.heap.size w w':=by
 obtain⟨c0,c1,c2,c3,c4,c5,b⟩:=h.cells;exact r8
theorem wi {p q N O y g:Nat}{ws:List Int}(w:ax)(h:At w p q N O y g ws):
 Calls prog 114 #[aj p] w fun e w'=>e=.returned (.tuple #[])/\At w' p q N O 0 g ws/\c_ p q w w':=by
 obtain⟨c0,c1,c2,c3,c4,c5,b⟩:=h.cells;have c:=h.frozen 3;go_enter func114,ntmps114;go_wp2_with fail;go_end0;exact⟨rfl,h.v4 0 (aX _),c_.oM _ _⟩
theorem Cv {p q N O y g:Nat}{ws:List Int}(n:Int)(w:ax)(h:At w p q N O y g ws)(h0:0<=n)(b:n<=O):
 Calls prog 163 #[aj p,ah n] w fun e w'=>e=.returned (.tuple #[])/\At w' p q N O y n.toNat ws/\c_ p q w w':=by
 obtain⟨n,rfl⟩:=Int.eq_ofNat_of_zero_le h0;rw[Int.toNat_natCast];obtain⟨c0,c1,c2,c3,c4,c5,c⟩:=h.cells;have d:=h.frozen 6;go_enter func163,ntmps163;go_wp2_with fail;go_end0;exact⟨rfl,h.v5 n V,c_.oM _ _⟩
theorem Cw {p q N O y g:Nat}{ws:List Int}(n:Int)(w:ax)(h:At w p q N O y g ws)(h0:0<=n)(j:n<=(N:Int)-y):
 Calls prog 90 #[.pointer (some ⟨p,1,none⟩),ah n] w fun e w'=>e=.returned (.tuple #[ah y,.bool true])/\At w' p q N O (y+n.toNat) g ws/\c_ p q w w':=by
 obtain⟨n,rfl⟩:=Int.eq_ofNat_of_zero_le h0;rw[Int.toNat_natCast];obtain⟨c0,c1,c2,c3,c4,c5,c⟩:=h.cells;have k1:=h.hN';have k:=h.hy;go_enter func90,ntmps90;go_wp2_with fail;refine(oP 0 N y _ V V V V).mono ?_;rintro e w1 ⟨rfl,d⟩
 have f:=h.below d bW
 obtain⟨c0,c1,c2,c3,c4,c5,c⟩:=f.cells;go_wp2_with fail;refine(lQ 0 N y _ V V V V).mono ?_;rintro e l ⟨rfl,i⟩
 have b:=f.below i bW
 obtain⟨c0,c1,c2,c3,c4,c5,c⟩:=b.cells;have m:=b.frozen 3;go_wp2_with fail;go_ret2;exact⟨Z,b.v4 (y+n) V,((c_.of d).trans (c_.of i)).trans (c_.oM _ _)⟩
theorem Cx {p q N O y g:Nat}{ws:List Int}(n:Int)(w:ax)(h:At w p q N O y g ws)(h0:(N:Int)-y<n):
 Calls prog 90 #[.pointer (some ⟨p,1,none⟩),ah n] w fun e w'=>e=.returned (.tuple #[ah 0,.bool false])/\Below w.heap.size w w':=by
 obtain⟨c0,c1,c2,c3,c4,c5,b⟩:=h.cells;have k1:=h.hN';have c:=h.hy;go_enter func90,ntmps90;go_wp2_with fail;refine(oP 0 N y _ V V V V).mono ?_;exact oK
theorem Cy {p q N O y g:Nat}{ws:List Int}(n:Int)(w:ax)(h:At w p q N O y g ws)(h0:0<=n)(j:n<=(O:Int)-g):
 Calls prog 90 #[.pointer (some ⟨p,4,none⟩),ah n] w fun e w'=>e=.returned (.tuple #[ah (N+g:Nat),.bool true])/\At w' p q N O y (g+n.toNat) ws/\c_ p q w w':=by
 obtain⟨n,rfl⟩:=Int.eq_ofNat_of_zero_le h0;rw[Int.toNat_natCast];obtain⟨c0,c1,c2,c3,c4,c5,c⟩:=h.cells;have k1:=h.hN';have k:=h.hg;have l:=h.hO;go_enter func90,ntmps90;go_wp2_with fail;refine(oP N O g _ V V V V).mono ?_;rintro e w1 ⟨rfl,d⟩
 have f:=h.below d bW
 obtain⟨c0,c1,c2,c3,c4,c5,c⟩:=f.cells;go_wp2_with fail;refine(lQ N O g _ V V V V).mono ?_;rintro e m ⟨rfl,i⟩
 have b:=f.below i bW
 obtain⟨c0,c1,c2,c3,c4,c5,c⟩:=b.cells;have o:=b.frozen 6;go_wp2_with fail;go_ret2;exact⟨Z,b.v5 (g+n) V,((c_.of d).trans (c_.of i)).trans (c_.oM _ _)⟩
theorem Cz {p q N O y g:Nat}{ws:List Int}(n:Int)(w:ax)(h:At w p q N O y g ws)(h0:(O:Int)-g<n):
 Calls prog 90 #[.pointer (some ⟨p,4,none⟩),ah n] w fun e w'=>e=.returned (.tuple #[ah 0,.bool false])/\Below w.heap.size w w':=by
 obtain⟨c0,c1,c2,c3,c4,c5,b⟩:=h.cells;have k1:=h.hN';have c:=h.hg;have d:=h.hO;go_enter func90,ntmps90;go_wp2_with fail;refine(oP N O g _ V V V V).mono ?_;exact oK
theorem oQ {p q N O y g:Nat}{ws:List Int}(w:ax)(h:At w p q N O y g ws):
 Calls prog 105 #[aj p] w fun e w'=>e=.returned (.tuple #[ah ((N:Int)-y),ah ((O:Int)-g)])/\Below w.heap.size w w':=by
 obtain⟨c0,c1,c2,c3,c4,c5,f⟩:=h.cells;have k1:=h.hN';have i:=h.hg;have j:=h.hO;have k:=h.hy;go_enter func105,ntmps105;go_wp2_with fail
 go_region_with (go_at_call 169;refine(oP _ _ _ _ V V V V).mono ?_;rintro e w1 ⟨rfl,b⟩;have d:At w1 p q N O y g ws:=(by first|exact h.drew.below b bW|exact d.below b bW);have c:Below w.heap.size w w1:=(by first|exact(aH _ w).drew.trans b|exact c.trans (b.mono c.size));obtain⟨c0,c1,c2,c3,c4,c5,f⟩:=d.cells)
 all_goals
  go_wp2_with fail;go_ret2;exact⟨rfl,c⟩
theorem wj:(prog.info? 2).map (fun i=>(i.zero,i.size,i.bytes))=some (some (ah 0),1,8):=ae
theorem wm {w:ax}{b k n:Nat}(h:w.ownsRow b 2 1 (.slice (ak k) n n) n (madeCells (Value.int .i64 0).cells (n*1)).toList):
 w.heap[k]?=some (.cells ((List.replicate n (0:Int)).map (Value.int .i64)).toArray 2 (0,0)):=by
 exact vL
theorem ss {w:ax}{k:Nat}(o:Obj)(h:w.heap.size=k):(w.alloc o).heap[k]?=some o:=by subst h;exact aO _ _
theorem CA {w w1:ax}{a b:Value}{t:TypeId}(hg:(w.alloc (.cells #[a,b] t)).grownBy w1 none):
 w1.cell? (aq w.heap.size 0)=some a/\w1.cell? (aq w.heap.size 1)=some b/\w1.frozen? (aq w.heap.size 0)=false/\w1.frozen? (aq w.heap.size 1)=false/\w.heap.size<w1.heap.size:=by
 have hb:=hg.block w.heap.size Z Z;have hz:=hg.size;have e:(w.alloc (.cells #[a,b] t)).heap[w.heap.size]?=some (.cells #[a,b] t):=aO _ _;rw[e] at hb;refine⟨?_,?_,?_,?_,by simp at hz;omega⟩<;>simp[World.cell?,World.frozen?,hb]
theorem CD (n o:Int)(w:ax)(h0:16<=n)(k:n<=256)(c:0<=o)(l:o<=1024):
 Calls prog 85 #[ah n,ah o] w fun e w'=>∃p q,e=.returned (.tuple #[aj p,.agg #[ah 0,ah 0]])/\At w' p q n.toNat o.toNat 0 0 (List.replicate (n.toNat+o.toNat) 0)/\w.heap.size<=p/\w.heap.size<=q/\Below w.heap.size w w':=by
 obtain⟨n,rfl⟩:=Int.eq_ofNat_of_zero_le (show 0<=n by omega)
 obtain⟨o,rfl⟩:=Int.eq_ofNat_of_zero_le c;simp only [Int.toNat_natCast];obtain⟨d,hi,f,g,i⟩:=info_parts wj;go_enter func85,ntmps85;go_wp2_with (at_make;refine wpList_make_full _ rfl _ _ 53 rfl w.heap.size 2 d (ah 0) 1 underlying53 hi f g .i64 .i64 _ _ (n+o) rfl rfl V V (by rw[i];omega) (by unfold maxLen;omega) Z ?_;intro w1 j b;obtain⟨c0,c1,m,s,hz⟩:=CA b)
 have hr:=wm j;simp only [World.size_alloc] at hr;have t:=lt_of_some hr;refine a4 (v:=.tuple #[aj w1.heap.size,.agg #[ah 0,ah 0]]) (by simp[results,results85,go_sem,c0,c1,hz]) rfl ⟨w1.heap.size,w.heap.size+1,rfl,⟨?_,?_,Z,V,V,V,V,V⟩,V,V,?_⟩
 ·exact ss _ (by simp[World.setCell])
 ·refine(aS _ _ _ (by simp[World.setCell];omega)).trans ?_;rw[aU _ _ _ _ Z,aU _ _ _ _ Z];exact hr
 ·refine Below.alloc (Below.setCell (Below.setCell ?_ ?_ _) ?_ _) ?_ _
  ·exact(bX.alloc bW _).grown b Z (fun _ h=>by cases h)
  ·exact aD _
  ·exact aD _
  ·simp[World.setCell];omega
theorem CE (n o:Int)(w:ax)(h:n<16\/256<n\/o<0\/1024<o):
 Calls prog 85 #[ah n,ah o] w fun e w'=>e=.returned (.tuple #[.pointer none,.agg #[ah 1,ah (-1)]])/\Below w.heap.size w w':=by
 by_cases b:n<16
 ·go_enter func85,ntmps85;exact r6
 by_cases c:256<n
 ·go_enter func85,ntmps85;exact r6
 by_cases d:o<0
 ·go_enter func85,ntmps85;exact r6
 have f:1024<o:=V;go_enter func85,ntmps85;go_wp2_with fail;exact a4 (v:=.tuple #[.pointer none,.agg #[ah 1,ah (-1)]]) (by simp[results,results85,go_sem]) rfl ⟨rfl,bX.alloc bW _⟩
end Go.Proofs.YtpkjkjhanlbcoaaGreat
