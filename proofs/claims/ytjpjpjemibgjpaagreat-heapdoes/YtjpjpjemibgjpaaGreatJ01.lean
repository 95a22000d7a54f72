import Derived.Test.YtjpjpjemibgjpaaGreatJ00
import Derived.Below
import Derived.Test.YtjpjpjemibgjpaaGreatChecked
import Derived.WalkKit
import Derived.WalkSpells
import Derived.Deep.QuietTactic
import Derived.BigQuiet
import Derived.WalkSmall
import Derived.Laws.CopyOwn
import Derived.Maps.AppendAt
import Derived.Deep.RegionHeld3
import Derived.ArgAppend
import Derived.Deep.RegionLawGrows
namespace Go.Proofs.YtjpjpjemibgjpaaGreat
theorem ae{P:Prop}(h:P:=by kernel_rfl):P:=h
theorem af{P:Prop}(h:P:=by go_num):P:=h
set_option maxRecDepth 100000
set_option maxHeartbeats 1000000
open Tryz
open Go.RowKit
abbrev ah(n:Int):Value:=.int .i64 n
abbrev am(b n:Nat):Addr:=⟨b,n,none⟩
abbrev ak(b:Nat):Option Addr:=some ⟨b,0,none⟩
abbrev aj(b:Nat):Value:=.pointer (some ⟨b,0,none⟩)
theorem aX {α:Type _}{«as»:List α}{i:Nat}{a:α}:(«as».set i a).length = «as».length:=List.length_set ..
theorem vg {P:Prop}(h:P:=by
 refine⟨by rw[aX];exact h.1,?_⟩
 rcases h.2 with⟨hv,_⟩|⟨g',cap',cur,hv,hb,hg,h1,h2,h3,h4⟩
 ·simp at hv
 ·obtain⟨rfl,rfl⟩:=hv;refine aI ⟨g,cap,cur.setIfInBounds i u,rfl,hb,?_,h1,h2,by rw[Array.size_setIfInBounds];exact h3,?_⟩
  ·simp only [World.setCell,Array.getElem?_modify,if_true,hg,Option.map_some];rfl
  ·rw[Array.toList_setIfInBounds,List.take_set,h4]):P:=h
abbrev au:=World
theorem bX{B:Nat}{w:au}:Below B w w:=Below.refl B w
theorem ly {P:Prop}(h:P:=by go_wp2;go_ret;exact⟨rfl,bX.alloc bW _⟩):P:=h
theorem rP {P:Prop}(h:P:=by
 go_enter func69,ntmps69;go_wp2_with fail;refine(vh x _).mono ?_;rintro e w1 ⟨rfl,hb⟩
 go_wp2_with fail;go_ret2;exact⟨rfl,hb.alloc hb.size _⟩):P:=h
theorem oh {P:Prop}(h:P:=by
 go_enter func135,ntmps135;go_wp2
 go_ret3
 exact⟨rfl,rfl⟩):P:=h
theorem vi {P:Prop}(h:P:=by
 go_wp2_with fail;refine(jO _ _).mono ?_;rintro e w1 ⟨rfl,rfl⟩
 rw[show fl 2=0 from rfl,show fm 2=12 from rfl,show fk 2=true from rfl];go_wp2;go_ret2;exact⟨rfl,rfl⟩):P:=h
theorem vj {P:Prop}(h:P:=by
 go_wp2_with fail;refine(jO _ _).mono ?_;rintro e w1 ⟨rfl,rfl⟩
 rw[show fl 5=0 from rfl,show fm 5=0 from rfl,show fk 5=true from rfl];go_wp2;go_ret2;exact⟨rfl,rfl⟩):P:=h
theorem vk {P:Prop}(h:P:=by
 go_wp2_with fail;refine(jO _ _).mono ?_;rintro e w1 ⟨rfl,rfl⟩
 rw[show fl 4=2 from rfl,show fm 4=2 from rfl,show fk 4=true from rfl];go_wp2;go_ret2;exact⟨rfl,rfl⟩):P:=h
theorem vl {P:Prop}(h:P:=by
 go_wp2_with fail;refine(jO _ _).mono ?_;rintro e w1 ⟨rfl,rfl⟩
 rw[show fl 3=2 from rfl,show fm 3=2 from rfl,show fk 3=true from rfl];go_wp2;go_ret2;exact⟨rfl,rfl⟩):P:=h
theorem vm {P:Prop}(h:P:=by
 go_wp2_with fail;refine(jO _ _).mono ?_;rintro e w1 ⟨rfl,rfl⟩
 rw[show fl 1=2 from rfl,show fm 1=2 from rfl,show fk 1=true from rfl];go_wp2;go_ret2;exact⟨rfl,rfl⟩):P:=h
theorem vo {P:Prop}(h:P:=by
 go_enter func74,ntmps74;go_wp2_with (go_at_call 143;refine(BD _ _ _).mono ?_;rintro e w' ⟨rfl,rfl⟩)
 go_ret;exact⟨rfl,bX.alloc bW _⟩):P:=h
theorem pN {P:Prop}(h:P:=by go_wp2;go_ret2;exact⟨rQ (by decide+kernel),rfl⟩):P:=h
theorem vp {P:Prop}(h:P:=by
 go_enter func145,ntmps145;go_wp2_with fail;refine(oi _ _ _).mono ?_;rintro e w1 ⟨rfl,rfl⟩
 go_wp2
 go_ret3
 exact⟨rfl,rfl⟩):P:=h
theorem vu {P:Prop}(h:P:=by
 obtain⟨b0,c0,e0⟩:=dW h hp;obtain⟨cs,hc⟩:=dZ h b0 (by rw[e0];rfl)
 cases e0;exact⟨b0,0,cs,rfl,hc⟩):P:=h
theorem rR {P:Prop}(h:P:=by go_enter func178,ntmps178;go_wp2;go_ret;exact⟨rfl,rfl⟩):P:=h
theorem rS {P:Prop}(h:P:=by go_enter func75,ntmps75;go_wp2;go_ret;exact⟨rfl,rfl⟩):P:=h
abbrev av(p:Prop):Prop:=Hid p
theorem av.o{p:Prop}(h:av p):p:=h
theorem hide {p:Prop}(h:p):av p:=h
theorem dC {p q:Prop}(a:p)(b:q):av (p/\q):=⟨a,b⟩
theorem ir {p q r:Prop}(a:p)(b:q)(c:r):av (p/\q/\r):=⟨a,b,c⟩
theorem jp {p q r s:Prop}(a:p)(b:q)(c:r)(d:s):av (p/\q/\r/\s):=⟨a,b,c,d⟩
theorem BE {p q r s t u:Prop}(a:p)(b:q)(c:r)(d:s)(e:t)(f:u):av (p/\q/\r/\s/\t/\u):=⟨a,b,c,d,e,f⟩
theorem BF {p q r s t u v:Prop}(a:p)(b:q)(c:r)(d:s)(e:t)(f:u)(g:v):av (p/\q/\r/\s/\t/\u/\v):=⟨a,b,c,d,e,f,g⟩
open Go.RowKit W
theorem BD (n low:Int)(w:au):
 Calls prog 143 #[ah n,ah low] w fun e w'=>e=.returned (ah (rc n low))/\w'=w:=by
 by_cases c1:n<low
 ·have e:rc n low=1:=by unfold rc;rw[aH c1]
  rw[e];go_enter func143,ntmps143;go_wp2;go_ret;exact⟨rfl,rfl⟩
 ·by_cases c2:1152921504606846976<=n
  ·have e:rc n low=1:=by unfold rc;rw[aE c1,aH c2]
   rw[e];go_enter func143,ntmps143;go_wp2;go_ret;exact⟨rfl,rfl⟩
  ·have e:rc n low=0:=by unfold rc;rw[aE c1,aE c2]
   rw[e];go_wp2;go_ret;exact⟨rfl,rfl⟩
theorem BG (k:Int)(w:au):
 Calls prog 75 #[ah k] w fun e w'=>e=.returned (ah (tg k))/\w'=w:=by
 by_cases c1:k=1
 ·subst c1;exact rS
 ·by_cases c3:k=3
  ·subst c3;exact rS
  ·by_cases c0:k=0
   ·subst c0;exact rS
   ·have e:tg k=3:=by unfold tg;rw[aE c1,aE c3,aE c0]
    rw[e];go_wp2;go_ret;exact⟨rfl,rfl⟩
theorem vv (t:Int)(w:au):
 Calls prog 178 #[ah t] w fun e w'=>e=.returned (ah (iq t))/\w'=w:=by
 by_cases c1:t=0
 ·subst c1;exact rR
 ·by_cases c3:t=1
  ·subst c3;exact rR
  ·by_cases c0:t=2
   ·subst c0;exact rR
   ·have e:iq t=2:=by unfold iq;rw[aE c1,aE c3,aE c0]
    rw[e];go_wp2;go_ret;exact⟨rfl,rfl⟩
theorem BH (n:Int):vc 0 n=if n=0 then 0 else 7:=by simp[vc]
theorem BI (n:Int):vc 2 n=if n=0 then 0 else 7:=by simp[vc]
theorem BJ (n:Int):vc 1 n=rc n (-1152921504606846976):=by simp[vc]
theorem vx (n:Int):vc 3 n=rc n 0:=by simp[vc]
theorem pO (k n:Int)(w:au):
 Calls prog 74 #[.agg #[ah k,ah n]] w fun e w'=>e=.returned (ah (vc k n))/\Below w.heap.size w w':=by
 by_cases c0:k=0
 ·subst c0;rw[BH];by_cases c:n=0
  ·subst c;go_enter func74,ntmps74;exact ly
  ·rw[aE c];go_enter func74,ntmps74;exact ly
 ·by_cases c2:k=2
  ·subst c2;rw[BI];by_cases c:n=0
   ·subst c;go_enter func74,ntmps74;exact ly
   ·rw[aE c];go_enter func74,ntmps74;exact ly
  ·by_cases c1:k=1
   ·subst c1;rw[BJ];exact vo
   ·by_cases c3:k=3
    ·subst c3;rw[vx];exact vo
    ·have e:vc k n=2:=by unfold vc;rw[aE c0,aE c2,aE c1,aE c3]
     rw[e];go_enter func74,ntmps74;exact ly
theorem m9 {B:Nat}{W w1:au}(c:Below B W w1):(∀b o,b<B->w1.cell? (am b o)=W.cell? (am b o))/\(∀b o,b<B->w1.frozen? (am b o)=W.frozen? (am b o)):=
 ⟨fun b o h=>c.cell (p:=am b o) h,fun b o h=>c.frozen (p:=am b o) h⟩
theorem vy {w w1:au}{a b c d:Value}{s t:TypeId}(e:Below ((w.alloc (.cells #[a,b] s)).alloc (.cells #[c,d] t)).heap.size ((w.alloc (.cells #[a,b] s)).alloc (.cells #[c,d] t)) w1):
 w1.cell? (am w.heap.size 0)=some a/\w1.cell? (am w.heap.size 1)=some b/\w1.cell? (am (w.heap.size+1) 0)=some c/\w1.cell? (am (w.heap.size+1) 1)=some d/\w1.frozen? (am w.heap.size 0)=false/\w1.frozen? (am w.heap.size 1)=false/\w.heap.size+2<=w1.heap.size:=by
 obtain⟨hc,f⟩:=m9 e;refine⟨?_,?_,?_,?_,?_,?_,by simpa using e.size⟩
 ·rw[hc _ _ (by simp;omega)];simp[go_sem]
 ·rw[hc _ _ (by simp;omega)];simp[go_sem]
 ·rw[hc _ _ Z];simp[go_sem]
 ·rw[hc _ _ Z];simp[go_sem]
 ·rw[f _ _ (by simp;omega)];simp[go_sem]
 ·rw[f _ _ (by simp;omega)];simp[go_sem]
theorem vz {w w1:au}{a b:Value}{t:TypeId}(c:Below (w.alloc (.cells #[a,b] t)).heap.size (w.alloc (.cells #[a,b] t)) w1):
 w1.cell? (am w.heap.size 0)=some a/\w1.cell? (am w.heap.size 1)=some b/\w.heap.size+1<=w1.heap.size:=by
 obtain⟨hc,_⟩:=m9 c;refine⟨?_,?_,by simpa using c.size⟩
 ·rw[hc _ _ Z];simp[go_sem]
 ·rw[hc _ _ Z];simp[go_sem]
theorem rQ {a b:Int}{c:Value}(h:a=b):Ending.returned (.tuple #[ah a,c])=.returned (.tuple #[ah b,c]):=by rw[h]
theorem vA (k n:Int)(w:au):
 Calls prog 29 #[.agg #[ah k,ah n]] w fun e w'=>e=.returned (.tuple #[ah (ew k n),ah (vc k n)])/\Below w.heap.size w w':=by
 by_cases h:vc k n=0
 ·rw[rI k n h];have c:=Bn k n h;have H:=hide h;rw[H.o];go_enter func29,ntmps29;go_wp2_with fail;refine(pO k n _).mono ?_;rintro e w1 ⟨rfl,b⟩
  rw[H.o];obtain⟨hc,d⟩:=m9 b;go_wp2
  go_quiet ((go_at_call 75;exact Calls.quiet_of_same (BG _ _)))
  go_wp2;go_ret2;exact⟨rQ (hide (Bo k n c.1 c.2)).o,below_drewN ((bX.alloc bW _).trans (b.mono Z)) _⟩
 ·rw[Br k n h];go_enter func29,ntmps29;go_wp2_with fail;refine(pO k n _).mono ?_;rintro e w1 ⟨rfl,b⟩
  go_wp2;go_ret2;exact⟨rfl,(bX.alloc bW _).trans (b.mono Z)⟩
theorem bv {P:Go.Program}{fn:Go.Func}{R:Go.Ending -> au -> Prop}{a:Go.Act}{w:au}{v:Value}(hr:Go.Sem.run P (Go.results fn a.tmps) w = Go.Result.ok v w)(hd:a.defers = [])(hR:R (Go.Ending.returned v) w):Go.bodyPost P fn R Go.Exit.ret a w:=by intros;apply bodyPost_ret<;>assumption
theorem vh (x:Int)(w:au):
 Calls prog 140 #[ah x] w fun e w'=>e=.returned (.tuple #[.agg #[ah (dk x),ah (dv x)],ah (dc x)])/\Below w.heap.size w w':=by
 have i:=Bj x;by_cases h:dc x=0
 ·have b:dk x=iq (x%4):=by unfold dk;rw[aH h]
  have c:dv x=x/4:=by unfold dv;rw[aH h]
  have H:av (vc (iq (x%4)) (x/4)=0):=h;rw[h,b,c];clear h b c;go_enter func140,ntmps140;go_wp2_with fail;refine(vv _ _).mono ?_;rintro e w' ⟨rfl,rfl⟩
  go_wp2_with fail;refine(pO (iq (x%4)) (x/4) _).mono ?_;rintro e w1 ⟨rfl,d⟩
  rw[H.o];obtain⟨c0,c1,c2,c3,f,g,hz⟩:=vy d;go_wp2_with fail;exact bv (v:=.tuple #[.agg #[ah (iq (x%4)),ah (x/4)],ah 0]) (by simp[results,results140,go_sem,c0,c1]) rfl ⟨rfl,((((bX.alloc bW _).alloc Z _).trans (d.mono (by simp;omega))).setCell bW _).setCell bW _⟩
 ·have b:dk x=0:=by unfold dk;rw[aE h]
  have c:dv x=0:=by unfold dv;rw[aE h]
  rw[b,c];have j:(vc (iq (x%4)) (x/4)!=0)=true:=by simpa[dc] using h
  have E:av (dc x=vc (iq (x%4)) (x/4)):=rfl;rw[E.o];clear h b c;go_enter func140,ntmps140;go_wp2_with fail;refine(vv _ _).mono ?_;rintro e w' ⟨rfl,rfl⟩
  go_wp2_with fail;refine(pO (iq (x%4)) (x/4) _).mono ?_;rintro e w1 ⟨rfl,d⟩
  obtain⟨c0,c1,c2,c3,f,g,hz⟩:=vy d;go_wp2_with fail;exact bv (v:=.tuple #[.agg #[ah 0,ah 0],ah (vc (iq (x%4)) (x/4))]) (by simp[results,results140,go_sem,c0,c1]) rfl ⟨rfl,((((bX.alloc bW _).alloc Z _).trans (d.mono (by simp;omega))).setCell bW _).setCell bW _⟩
theorem rU (w:au):Calls prog 30 #[] w fun e w'=>e=.returned (ah 2)/\w'=w:=by go_wp2;go_ret;exact⟨rfl,rfl⟩
theorem m_ (w:au):Calls prog 158 #[] w fun e w'=>e=.returned (ah 3)/\w'=w:=by go_wp2;go_ret;exact⟨rfl,rfl⟩
theorem pP (n:Int)(w:au):
 Calls prog 25 #[ah n] w fun e w'=>e=.returned (ah (ew 3 n))/\Below w.heap.size w w':=by
 go_enter func25,ntmps25;go_wp2_with fail;refine(vA 3 n _).mono ?_;rintro e w1 ⟨rfl,b⟩
 go_wp2_with fail;go_ret;exact⟨rfl,b⟩
theorem na (x:Int)(w:au):
 Calls prog 69 #[ah x] w fun e w'=>e=.returned (.tuple #[ah (cf x),.bool (cX x)])/\Below w.heap.size w w':=by
 by_cases h0:dc x=0
 ·have t0:(dc x !=0)=false:=by simpa using h0
  by_cases c:dk x=3
  ·have b:cX x=true:=by unfold cX;rw[h0,c];rfl
   rw[lv x b,b];have t3:(dk x !=3)=false:=by simpa using c
   exact rP
  ·have b:cX x=false:=by unfold cX;rw[beq_eq_false_iff_ne.2 c];simp
   rw[uW x b,b];exact rP
 ·have b:cX x=false:=by unfold cX;rw[beq_eq_false_iff_ne.2 h0];simp
  rw[uW x b,b];exact rP
theorem jO (k:Int)(w:au):
 Calls prog 135 #[ah k] w fun e w'=>e=.returned (.tuple #[ah (fl k),ah (fm k),.bool (fk k)])/\w'=w:=by
 by_cases c1:k=1
 ·subst c1;exact oh
 by_cases c2:k=2
 ·subst c2;exact oh
 by_cases c3:k=3
 ·subst c3;exact oh
 by_cases c4:k=4
 ·subst c4;exact oh
 by_cases c5:k=5
 ·subst c5;exact oh
 have b:fl k=0:=by simp[fl,c1,c3,c4]
 have c:fm k=0:=by simp[fm,c1,c2,c3,c4]
 have d:fk k=false:=by simp[fk,c1,c2,c3,c4,c5]
 rw[b,c,d];go_wp2
 go_ret3
 exact⟨rfl,rfl⟩
theorem BK (k f:Int)(w:au)(h:hc k f=0):
 Calls prog 64 #[ah k,ah f] w fun e w'=>e=.returned (.tuple #[ah (16*f+k),ah 0])/\w'=w:=by
 rcases oe k f h with⟨rfl,rfl⟩|⟨rfl,rfl⟩|⟨rfl,rfl⟩|⟨rfl,b,c⟩|⟨rfl,rfl⟩
 ·go_enter func64,ntmps64;go_wp2_with fail;refine(jO _ _).mono ?_;rintro e w1 ⟨rfl,rfl⟩
  rw[show fl 1=2 from rfl,show fm 1=2 from rfl,show fk 1=true from rfl];exact pN
 ·go_enter func64,ntmps64;go_wp2_with fail;refine(jO _ _).mono ?_;rintro e w1 ⟨rfl,rfl⟩
  rw[show fl 3=2 from rfl,show fm 3=2 from rfl,show fk 3=true from rfl];exact pN
 ·go_enter func64,ntmps64;go_wp2_with fail;refine(jO _ _).mono ?_;rintro e w1 ⟨rfl,rfl⟩
  rw[show fl 4=2 from rfl,show fm 4=2 from rfl,show fk 4=true from rfl];exact pN
 ·have E:=hide (Bp 2 f h)
  go_enter func64,ntmps64;go_wp2_with fail;refine(jO _ _).mono ?_;rintro e w1 ⟨rfl,rfl⟩
  rw[show fl 2=0 from rfl,show fm 2=12 from rfl,show fk 2=true from rfl];go_wp2;go_ret2;exact⟨rQ E.o,rfl⟩
 ·go_enter func64,ntmps64;go_wp2_with fail;refine(jO _ _).mono ?_;rintro e w1 ⟨rfl,rfl⟩
  rw[show fl 5=0 from rfl,show fm 5=0 from rfl,show fk 5=true from rfl];exact pN
theorem BL (k f:Int)(w:au)(h:(k=1/\f<2)\/(k=1/\2<f)\/(k=3/\f<2)\/(k=3/\2<f)\/(k=4/\f<2)\/(k=4/\2<f)\/(k=2/\f<0)\/(k=2/\12<f)\/(k=5/\f<0)\/(k=5/\0<f)):
 Calls prog 64 #[ah k,ah f] w fun e w'=>e=.returned (.tuple #[ah 0,ah 1])/\w'=w:=by
 rcases h with⟨rfl,h⟩|⟨rfl,h⟩|⟨rfl,h⟩|⟨rfl,h⟩|⟨rfl,h⟩|⟨rfl,h⟩|⟨rfl,h⟩|⟨rfl,h⟩|⟨rfl,h⟩|⟨rfl,h⟩
 ·go_enter func64,ntmps64;exact vm
 ·go_enter func64,ntmps64;exact vm
 ·go_enter func64,ntmps64;exact vl
 ·go_enter func64,ntmps64;exact vl
 ·go_enter func64,ntmps64;exact vk
 ·go_enter func64,ntmps64;exact vk
 ·go_enter func64,ntmps64;exact vi
 ·go_enter func64,ntmps64;exact vi
 ·go_enter func64,ntmps64;exact vj
 ·go_enter func64,ntmps64;exact vj
theorem BM (k f:Int)(w:au)(b:k≠1)(c:k≠2)(d:k≠3)(g:k≠4)(i:k≠5):
 Calls prog 64 #[ah k,ah f] w fun e w'=>e=.returned (.tuple #[ah 0,ah 2])/\w'=w:=by
 have j:fk k=false:=by simp[fk,b,c,d,g,i]
 go_enter func64,ntmps64;go_wp2_with fail;refine(jO _ _).mono ?_;rintro e w1 ⟨rfl,rfl⟩
 go_wp2;go_ret2;exact⟨rfl,rfl⟩
theorem oi (k f:Int)(w:au):
 Calls prog 64 #[ah k,ah f] w fun e w'=>e=.returned (.tuple #[ah (hw k f),ah (hc k f)])/\w'=w:=by
 by_cases h:hc k f=0
 ·rw[rH k f h,h];exact BK k f w h
 ·rw[Bq k f h];rcases Bu k f h with e|⟨b,c,d,g,i⟩
  ·rw[Bv k f e];exact BL k f w e
  ·rw[Bt k f b c d g i];exact BM k f w b c d g i
theorem BN (h:Int)(w:au):
 Calls prog 145 #[ah h] w fun e w'=>e=.returned (.tuple #[ah (pk h),ah (pf h),ah (pc h)])/\w'=w:=by
 have ha:=Bk h;by_cases c:hc (h%16) (h/16)=0
 ·have b:pk h=h%16:=by unfold pk;rw[aH c]
  have d:pf h=h/16:=by unfold pf;rw[aH c]
  have f:pc h=0:=by unfold pc;rw[aH c]
  rw[b,d,f];clear b d f;have t:(hc (h%16) (h/16)!=0)=false:=by simpa using c
  clear c;exact vp
 ·have b:pk h=0:=by unfold pk;rw[aE c]
  have d:pf h=0:=by unfold pf;rw[aE c]
  have f:pc h=7:=by unfold pc;rw[aE c]
  rw[b,d,f];exact vp
structure At (w:au)(p q N O y g:Nat)(ws:List Int):Prop where
 hp:w.heap[p]?=some (.cells #[.slice (ak q) (N+O) (N+O),ah 0,ah N,ah y,ah N,ah O,ah g] 103 (0,0))
 hq:w.heap[q]?=some (.cells (ws.map (Value.int .i64)).toArray 2 (0,0))
 hl:ws.length=N+O
 hN:16<=N
 hN':N<=256
 hO:O<=1024
 hy:y<=N
 hg:g<=O
structure c7 (p q:Nat)(w w':au):Prop where
 os:w'.os=w.os
 tape:w'.tape=w.tape
 output:w'.output=w.output
 size:w.heap.size<=w'.heap.size
 block:∀k,k<w.heap.size->k≠p->k≠q->w'.heap[k]?=w.heap[k]?
theorem lt_of_some {w:au}{k:Nat}{o:Obj}(h:w.heap[k]?=some o):k<w.heap.size:=(Array.getElem?_eq_some_iff.1 h).1
theorem c7.refl (p q:Nat)(w:au):c7 p q w w:=⟨rfl,rfl,rfl,aA _,fun _ _ _ _=>rfl⟩
theorem aP {n m k:Nat}:n <= m -> m <= k -> n <= k:=Nat.le_trans
theorem aM {n m k:Nat}:n < m -> m <= k -> n < k:=Nat.lt_of_lt_of_le
theorem c7.trans {p q:Nat}{a b c:au}(h:c7 p q a b)(k:c7 p q b c):c7 p q a c:=
 ⟨k.os.trans h.os,k.tape.trans h.tape,k.output.trans h.output,aP h.size k.size,fun i hi d e=>(k.block i (aM hi h.size) d e).trans (h.block i hi d e)⟩
theorem c7.of {p q:Nat}{w w':au}(h:Below w.heap.size w w'):c7 p q w w':=⟨h.os,h.tape,h.output,h.size,fun k hk _ _=>h.block k hk⟩
theorem aN (w:au)(a:Addr)(u:Value)(k:Nat)(h:k ≠ a.block):(w.setCell a u).heap[k]? = w.heap[k]?:=by intros;apply Below.heap_setCell<;>assumption
theorem c7.oj {p q:Nat}{w:au}(o:Nat)(v:Value):c7 p q w (w.setCell ⟨p,o,none⟩ v):=
 ⟨rfl,rfl,rfl,by simp[World.setCell],fun k _ b _=>aN _ _ _ _ b⟩
theorem c7.rV {p q:Nat}{w:au}(o:Nat)(v:Value):c7 p q w (w.setCell ⟨q,o,none⟩ v):=
 ⟨rfl,rfl,rfl,by simp[World.setCell],fun k _ _ b=>aN _ _ _ _ b⟩
theorem c7.BO {p q:Nat}{w:au}(b:Array Value):c7 p q w (w.setRow q b):=
 ⟨rfl,rfl,rfl,by simp[World.setRow],fun k _ _ c=>setRow_other w q k b c⟩
theorem c7.drew {p q:Nat}{a w:au}(h:c7 p q a w):c7 p q a w.drew:=⟨h.os,h.tape,h.output,h.size,h.block⟩
theorem c7.below {p q B:Nat}{w w':au}(h:c7 p q w w')(hB:B<=w.heap.size)(hp:B<=p)(hq:B<=q):Below B w w':=
 ⟨h.os,h.tape,h.output,h.size,fun k hk=>h.block k V V V⟩
theorem At.eJ {w:au}{p q N O y g:Nat}{ws:List Int}(h:At w p q N O y g ws):p<w.heap.size:=lt_of_some h.hp
theorem At.eK {w:au}{p q N O y g:Nat}{ws:List Int}(h:At w p q N O y g ws):q<w.heap.size:=lt_of_some h.hq
theorem At.ne {w:au}{p q N O y g:Nat}{ws:List Int}(h:At w p q N O y g ws):p≠q:=by intro e;have b:=h.hp;rw[e,h.hq] at b;simp at b
theorem At.same {w w':au}{p q N O y g:Nat}{ws:List Int}(h:At w p q N O y g ws)(ep:w'.heap[p]?=w.heap[p]?)(eq:w'.heap[q]?=w.heap[q]?):At w' p q N O y g ws:=
 ⟨ep.trans h.hp,eq.trans h.hq,h.hl,h.hN,h.hN',h.hO,h.hy,h.hg⟩
theorem At.below {w w':au}{p q N O y g B:Nat}{ws:List Int}(h:At w p q N O y g ws)(b:Below B w w')(hB:w.heap.size<=B):At w' p q N O y g ws:=
 h.same (b.block p (aM h.eJ hB)) (b.block q (aM h.eK hB))
theorem a4 (w:au)(o:Obj)(k:Nat)(h:k < w.heap.size):(w.alloc o).heap[k]? = w.heap[k]?:=by intros;apply Below.heap_alloc<;>assumption
theorem At.alloc {w:au}{p q N O y g:Nat}{ws:List Int}(h:At w p q N O y g ws)(o:Obj):At (w.alloc o) p q N O y g ws:=
 h.same (a4 _ _ _ h.eJ) (a4 _ _ _ h.eK)
theorem At.drew {w:au}{p q N O y g:Nat}{ws:List Int}(h:At w p q N O y g ws):At w.drew p q N O y g ws:=h.same rfl rfl
theorem At.cells {w:au}{p q N O y g:Nat}{ws:List Int}(h:At w p q N O y g ws):
 w.cell? (am p 0)=some (.slice (ak q) (N+O) (N+O))/\w.cell? (am p 1)=some (ah 0)/\w.cell? (am p 2)=some (ah N)/\w.cell? (am p 3)=some (ah y)/\
 w.cell? (am p 4)=some (ah N)/\w.cell? (am p 5)=some (ah O)/\w.cell? (am p 6)=some (ah g):=by
 refine⟨?_,?_,?_,?_,?_,?_,?_⟩<;>simp[World.cell?,h.hp]
theorem At.frozen {w:au}{p q N O y g:Nat}{ws:List Int}(h:At w p q N O y g ws)(o:Nat):w.frozen? (am p o)=false:=by simp[World.frozen?,h.hp]
theorem At.rW {w:au}{p q N O y g:Nat}{ws:List Int}(h:At w p q N O y g ws)(o:Nat):w.frozen? (am q o)=false:=by simp[World.frozen?,h.hq]
theorem At.word {w:au}{p q N O y g:Nat}{ws:List Int}(h:At w p q N O y g ws)(i:Nat)(hi:i<N+O):w.cell? (am q i)=some (ah (ws.getD i 0)):=by have hl:=h.hl;simp[World.cell?,h.hq,List.getElem?_map,List.getElem?_eq_getElem (show i<ws.length by omega),List.getD_eq_getElem?_getD]
theorem At.set {w:au}{p q N O y g:Nat}{ws:List Int}(h:At w p q N O y g ws)(i:Nat)(x:Int):At (w.setCell ⟨q,i,none⟩ (.int .i64 x)) p q N O y g (ws.set i x):=by
 refine⟨(aN _ _ _ _ h.ne).trans h.hp,?_,by rw[aX];exact h.hl,h.hN,h.hN',h.hO,h.hy,h.hg⟩
 simp only [World.setCell,Array.getElem?_modify,if_true,h.hq,Option.map_some];simp[List.map_set]
theorem At.row {w:au}{p q N O y g:Nat}{ws us:List Int}(h:At w p q N O y g ws)(b:us.length=N+O):At (w.setRow q (us.map (Value.int .i64)).toArray) p q N O y g us:=
 ⟨(setRow_other w q p _ h.ne).trans h.hp,setRow_heap w q _ _ _ _ h.hq,b,h.hN,h.hN',h.hO,h.hy,h.hg⟩
theorem At.vB {w:au}{p q N O y g:Nat}{ws:List Int}(h:At w p q N O y g ws)(z:Nat)(hz:z<=N):At (w.setCell ⟨p,3,none⟩ (.int .i64 z)) p q N O z g ws:=by
 refine⟨?_,(aN _ _ _ _ h.ne.symm).trans h.hq,h.hl,h.hN,h.hN',h.hO,hz,h.hg⟩
 simp only [World.setCell,Array.getElem?_modify,if_true,h.hp,Option.map_some];simp
theorem At.vC {w:au}{p q N O y g:Nat}{ws:List Int}(h:At w p q N O y g ws)(z:Nat)(hz:z<=O):At (w.setCell ⟨p,6,none⟩ (.int .i64 z)) p q N O y z ws:=by
 refine⟨?_,(aN _ _ _ _ h.ne.symm).trans h.hq,h.hl,h.hN,h.hN',h.hO,h.hy,hz⟩
 simp only [World.setCell,Array.getElem?_modify,if_true,h.hp,Option.map_some];simp
structure Fr (X:Nat->Prop)(w w':au):Prop where
 os:w'.os=w.os
 tape:w'.tape=w.tape
 output:w'.output=w.output
 size:w.heap.size<=w'.heap.size
 block:∀k,k<w.heap.size->¬X k->w'.heap[k]?=w.heap[k]?
theorem Fr.refl (X:Nat->Prop)(w:au):Fr X w w:=⟨rfl,rfl,rfl,aA _,fun _ _ _=>rfl⟩
theorem Fr.trans {X Y:Nat->Prop}{a b c:au}(h:Fr X a b)(k:Fr Y b c)(hy:∀i,Y i->X i\/a.heap.size<=i):Fr X a c:=
 ⟨k.os.trans h.os,k.tape.trans h.tape,k.output.trans h.output,aP h.size k.size,fun i hi d=>(k.block i (aM hi h.size) (fun c=>(hy i c).elim d (fun c=>by omega))).trans (h.block i hi d)⟩
theorem Fr.mono {X Y:Nat->Prop}{w w':au}(h:Fr X w w')(hy:∀i,X i->Y i):Fr Y w w':=⟨h.os,h.tape,h.output,h.size,fun i hi b=>h.block i hi (fun c=>b (hy i c))⟩
theorem Fr.of {X:Nat->Prop}{w w':au}(h:Below w.heap.size w w'):Fr X w w':=⟨h.os,h.tape,h.output,h.size,fun k hk _=>h.block k hk⟩
theorem Fr.alloc {X:Nat->Prop}{a w:au}(h:Fr X a w)(o:Obj):Fr X a (w.alloc o):=h.trans (Fr.of (bX.alloc bW _)) (fun _ c=>aJ c)
theorem Fr.drew {X:Nat->Prop}{a w:au}(h:Fr X a w):Fr X a w.drew:=⟨h.os,h.tape,h.output,h.size,h.block⟩
theorem Fr.set {X:Nat->Prop}{a w:au}(h:Fr X a w)(c o:Nat)(v:Value)(hc:X c):Fr X a (w.setCell ⟨c,o,none⟩ v):=
 ⟨h.os,h.tape,h.output,by simpa[World.setCell] using h.size,fun k hk b=>(aN _ _ _ _ (fun e=>b (by rw[e];exact hc))).trans (h.block k hk b)⟩
theorem Fr.grown {X:Nat->Prop}{a w w':au}{row:Option Nat}(h:Fr X a w)(g:w.grownBy w' row)(d:∀k,row=some k->X k\/a.heap.size<=k):Fr X a w':=
 ⟨g.os.trans h.os,g.tape.trans h.tape,g.output.trans h.output,aP h.size g.size,fun k hk b=>(g.block k (aM hk h.size) (fun e=>(d k e.symm).elim b (fun c=>by omega))).trans (h.block k hk b)⟩
theorem Fr.below {X:Nat->Prop}{w w':au}{B:Nat}(h:Fr X w w')(hB:B<=w.heap.size)(b:∀k,X k->B<=k):Below B w w':=
 ⟨h.os,h.tape,h.output,h.size,fun k hk=>h.block k V (fun c=>by have:=b k c;omega)⟩
theorem cv {w w':au}{base n m:Nat}{e:TypeId}{v:Value}{l:List Value}(h:w.ownsRow base e m v n l)(hk:∀k,some k=v.ownBlock->w'.heap[k]?=w.heap[k]?):w'.ownsRow base e m v n l:=by
 refine⟨h.1,?_⟩
 rcases h.2 with b|⟨g,c,d,rfl,f,i,rest⟩
 ·exact .inl b
 ·exact .inr ⟨g,c,d,rfl,f,(hk g rfl).trans i,rest⟩
theorem ce {w:au}{base n m:Nat}{e:TypeId}{v:Value}{l:List Value}(h:w.ownsRow base e m v n l):∀k,some k=v.ownBlock->base<=k/\k<w.heap.size:=fun k hk=>h.lt k hk.symm
theorem gH {X:Nat->Prop}{w w':au}{base n m:Nat}{e:TypeId}{v:Value}{l:List Value}(h:w.ownsRow base e m v n l)(f:Fr X w w')(b:∀k,some k=v.ownBlock->¬X k):w'.ownsRow base e m v n l:=
 cv h (fun k hk=>f.block k (ce h k hk).2 (b k hk))
theorem d7 {w:au}{base base' n m:Nat}{e:TypeId}{v:Value}{l:List Value}(h:w.ownsRow base e m v n l)(b:∀k,some k=v.ownBlock->base'<=k):w.ownsRow base' e m v n l:=by
 refine⟨h.1,?_⟩
 rcases h.2 with c|⟨g,d,f,rfl,_,rest⟩
 ·exact .inl c
 ·exact .inr ⟨g,d,f,rfl,b g rfl,rest⟩
theorem dZ {w:au}{base n m:Nat}{e:TypeId}{v:Value}{l:List Value}(h:w.ownsRow base e m v n l):∀k,some k=v.ownBlock->∃b,w.heap[k]?=some (.cells b e (0,0)):=by
 intro k hk;rcases h.2 with⟨rfl,_⟩|⟨g,d,b,rfl,_,c,_⟩
 ·simp[Value.ownBlock] at hk
 ·simp[Value.ownBlock] at hk;subst hk;exact⟨b,c⟩
theorem dW {w:au}{base n m:Nat}{e:TypeId}{v:Value}{l:List Value}(h:w.ownsRow base e m v n l)(f:0<n):∃b c,v=.slice (ak b) n c:=by
 rcases h.2 with⟨_,h0⟩|⟨g,c,i,d,_⟩
 ·omega
 ·exact⟨g,c,d⟩
theorem dQ {w:au}{base n m:Nat}{e:TypeId}{v:Value}{l:List Value}(h:w.ownsRow base e m v n l):∃d b,v=.slice d n b:=by
 rcases h.2 with⟨c,h0⟩|⟨g,b,f,c,_⟩
 ·exact⟨none,0,by rw[c,h0]⟩
 ·exact⟨_,b,c⟩
def iF (w:au)(c:Option Addr)(l:List Int):Prop:=0<l.length->∃b o,c=some ⟨b,o,none⟩/\b<w.heap.size/\∀i,i<l.length->w.cell? (am b (o+i))=some (ah (l.getD i 0))
def cY (w:au)(c:Option Addr)(l:List (Int×Int)):Prop:=
 0<l.length->∃b o,c=some ⟨b,o,none⟩/\b<w.heap.size/\∀i,i<l.length->w.cell? (am b (o+i*2))=some (ah (l.getD i (0,0)).1)/\w.cell? (am b (o+i*2+1))=some (ah (l.getD i (0,0)).2)
def ev (l:List (Int×Int)):List Value:=l.flatMap fun e=>[ah e.1,ah e.2]
theorem kQ (a b:List (Int×Int)):ev (a++b)=ev a++ev b:=by simp[ev]
theorem jP:∀l:List (Int×Int),(ev l).length=l.length*2
 |[]=>rfl
 |e::r=>by
  have:=jP r;simp[ev] at this⊢
  omega
theorem ol:∀(l:List (Int×Int))(i:Nat),i<l.length->(ev l)[i*2]?=some (ah (l.getD i (0,0)).1)/\(ev l)[i*2+1]?=some (ah (l.getD i (0,0)).2)
 |[],i,h=>by simp at h
 |e::r,0,_=>by simp[ev]
 |e::r,i+1,h=>by
  have b:(ev (e::r))=ah e.1::ah e.2::ev r:=by simp[ev]
  rw[b,show(i+1)*2=i*2+1+1 by omega];simpa using(ol r i (by simpa using h))
theorem gO {w:au}{base:Nat}{e:TypeId}{b:Option Addr}{f:Nat}{l:List Int}(h:w.ownsRow base e 1 (.slice b l.length f) l.length (l.map (Value.int .i64))):iF w b l:=by
 intro hp;rcases h.2 with⟨_,h0⟩|⟨g,n,j,k,o,c,p,q,s,m⟩
 ·omega
 ·obtain⟨rfl,rfl⟩:=k;refine⟨g,0,rfl,lt_of_some c,fun i hi=>?_⟩
  have d:(j.toList.take (l.length*1))[i]?=some (ah (l.getD i 0)):=by rw[m];simp[List.getElem?_map,List.getElem?_eq_getElem hi]
  rw[List.getElem?_take_of_lt V] at d;simp[World.cell?,c];simpa using d
theorem gh {w:au}{base:Nat}{e:TypeId}{c:Option Addr}{f:Nat}{l:List _}(h:w.ownsRow base e 2 (.slice c l.length f) l.length (ev l)):cY w c l:=by
 intro hp;rcases h.2 with⟨_,h0⟩|⟨g,m,n,j,o,b,p,q,s,k⟩
 ·omega
 ·obtain⟨rfl,rfl⟩:=j;refine⟨g,0,rfl,lt_of_some b,fun i hi=>?_⟩
  obtain⟨k1,d⟩:=ol l i hi;rw[<-k,List.getElem?_take_of_lt V] at k1 d;constructor
  ·simp[World.cell?,b];simpa using k1
  ·simp[World.cell?,b];simpa using d
theorem aU {w w':au}{a:Addr}(h:w'.heap[a.block]? = w.heap[a.block]?):w'.cell? a = w.cell? a:=by intros;apply World.cell?_of_block<;>assumption
theorem iF.keep {w w':au}{c:Option Addr}{l:List Int}(h:iF w c l)(hs:w.heap.size<=w'.heap.size)(hk:0<l.length->∀a,c=some a->w'.heap[a.block]?=w.heap[a.block]?):iF w' c l:=by intro hp;obtain⟨b,o,rfl,d,hc⟩:=h hp;exact⟨b,o,rfl,V,fun i hi=>(aU (a:=⟨b,o+i,none⟩) (hk hp ⟨b,o,none⟩ rfl)).trans (hc i hi)⟩
theorem cY.keep {w w':au}{c:Option Addr}{l:List _}(h:cY w c l)(hs:w.heap.size<=w'.heap.size)(hk:0<l.length->∀a,c=some a->w'.heap[a.block]?=w.heap[a.block]?):cY w' c l:=by intro hp;obtain⟨b,o,rfl,d,hc⟩:=h hp;exact⟨b,o,rfl,V,fun i hi=>⟨(aU (a:=⟨b,o+i*2,none⟩) (hk hp ⟨b,o,none⟩ rfl)).trans (hc i hi).1,(aU (a:=⟨b,o+i*2+1,none⟩) (hk hp ⟨b,o,none⟩ rfl)).trans (hc i hi).2⟩⟩
open Go.RowKit W Kp cg
structure b_ (F:Nat->Prop)(w:au)(F':Nat->Prop)(w':au):Prop where
 fr:Fr F w w'
 sub:∀b,F' b->F b\/w.heap.size<=b
theorem b_.refl (F:Nat->Prop)(w:au):b_ F w F w:=⟨Fr.refl _ _,fun _ h=>aJ h⟩
theorem b_.trans {F d e:Nat->Prop}{w w' f:au}(h:b_ F w d w')(k:b_ d w' e f):b_ F w e f:=
 ⟨h.fr.trans k.fr h.sub,fun b g=>(k.sub b g).elim (h.sub b) (fun c=>aI (aP h.fr.size c))⟩
theorem b_.of {F:Nat->Prop}{w w':au}(h:Below w.heap.size w w'):b_ F w F w':=⟨Fr.of h,fun _ h=>aJ h⟩
theorem b_.below {F b:Nat->Prop}{w w' c:au}(h:b_ F w b w')(d:Below w'.heap.size w' c):b_ F w b c:=h.trans (b_.of d)
theorem bf {α:Type _}{i:Nat}{l:List α}:(List.take i l).length = Min.min i l.length:=List.length_take ..
theorem vD {w:au}{base g n b:Nat}{e:TypeId}{xs:List Value}(h:w.ownsRow base e 1 (.slice (ak g) n b) n xs)(m:Nat)(hm:m<=n):w.ownsRow base e 1 (.slice (ak g) m b) m (xs.take m):=by
 obtain⟨p,d⟩:=h;rcases d with⟨c,_⟩|⟨q,s,f,c,i,j,t,k,l,o⟩
 ·simp at c
 ·obtain⟨rfl,rfl⟩:=c;refine⟨by rw[bf];omega,aI ⟨g,b,f,rfl,i,j,V,k,l,?_⟩⟩
  rw[<-o,List.take_take]
  congr 1
  omega
theorem vE {w:au}{base g n b:Nat}{e:TypeId}{xs:List Value}(h:w.ownsRow base e 1 (.slice (ak g) n b) n xs):n<=b/\b<=maxLen:=by
 rcases h.2 with⟨c,_⟩|⟨i,j,k,c,l,m,d,f,o,p⟩
 ·simp at c
 ·obtain⟨rfl,rfl⟩:=c;exact⟨d,f⟩
open Go.RowKit W Kp
theorem vF:(prog.info? 2).map (fun i=>(i.zero,i.size,i.bytes))=some (some (ah 0),1,8):=ae
theorem nf:(prog.info? 83).map (fun i=>(i.zero,i.size,i.bytes))=some (some (.agg #[ah 0,ah 0]),2,16):=ae
abbrev en (e:bZ):Value:=.agg #[ah e.1,ah e.2]
structure dP (gM:Type) where
 J:(Nat->Prop)->gM->au->Prop
 lt:∀{F t w},J F t w->∀k,F k->k<w.heap.size
 keep:∀{F t w w'},J F t w->w.heap.size<=w'.heap.size->(∀k,F k->w'.heap[k]?=w.heap[k]?)->J F t w'
theorem dP.fr {b:Type}(o:dP b){F X:Nat->Prop}{t:b}{w w':au}(h:o.J F t w)(f:Fr X w w')(c:∀k,F k->¬X k):o.J F t w':=o.keep h f.size (fun k hk=>f.block k (o.lt h k hk) (c k hk))
theorem dP.below {b:Type}(o:dP b){F:Nat->Prop}{t:b}{w w':au}(h:o.J F t w)(f:Below w.heap.size w w'):o.J F t w':=o.keep h f.size (fun k hk=>f.block k (o.lt h k hk))
def d3 (f:Nat):Prop:=∀(args:Array Value)(w:au),(callFunc f args).run prog w=.ok (.enter f args) w
theorem gP {f:Nat}{b:Func}{c:Code}(d:Tryz.prog.funcs[f]?=some b)(e:(b.name== "runtime.NumGoroutine")=false)(g:b.body=some c):d3 f:=by
 intro args w;have i:b.name≠ "runtime.NumGoroutine" :=by simpa using e
 simp[callFunc,d,i,g]
theorem pQ {b:Type}(o:dP b){F:Nat->Prop}{t:b}{w c:au}{f:Obj}{d:Option Nat}(h:o.J F t w)(hg:(w.alloc f).grownBy c d)(g:∀k,some k=d->¬F k):o.J F t c:=
 o.keep h (by have:=hg.size;simp at this;omega) (fun k hk=>(hg.block k (by have:=o.lt h k hk;simp;omega) (fun e=>g k e hk)).trans (a4 _ _ _ (o.lt h k hk)))
theorem vG {w b:au}{base n m:Nat}{e:TypeId}{v:Value}{l:List Value}{d:Obj}{c:Option Nat}(h:w.ownsRow base e m v n l)(hg:(w.alloc d).grownBy b c)(f:∀k,some k=v.ownBlock->some k≠c):b.ownsRow base e m v n l:=
 cv h (fun k hk=>(hg.block k (by have:=(ce h k hk).2;simp;omega) (f k hk)).trans (a4 _ _ _ (ce h k hk).2))
theorem f6 {w:au}{base n m:Nat}{e:TypeId}{v:Value}{l:List Value}(h:w.ownsRow base e m v n l)(b:Obj):(w.alloc b).ownsRow base e m v n l:=
 cv h (fun k hk=>a4 _ _ _ (ce h k hk).2)
def Looks {d:Type}(o:dP d)(D:bZ->Prop)(G:d->Prop)(f:Nat)(b c:Array Value)(lk:d->bZ->Bool×d):Prop:=
 ∀F t w (e:bZ),D e->G t->o.J F t w->Calls prog f (b.push (en e)++c) w fun r w'=>∃g,r=.returned (.bool (lk t e).1)/\o.J g (lk t e).2 w'/\Fr F w w'/\∀k,g k->F k\/w.heap.size<=k
def ej {b:Type}(lk:b->bZ->Bool×b)(s:List bZ×List bZ×b)(e:bZ):List bZ×List bZ×b:=
 if(lk s.2.2 e).1 then(s.1++[e],s.2.1,(lk s.2.2 e).2) else(s.1,s.2.1++[e],(lk s.2.2 e).2)
def pts {b:Type}(lk:b->bZ->Bool×b)(t:b)(l:List bZ):List bZ×List bZ×b:=l.foldl (ej lk) ([],[],t)
theorem BP {b:Type}(lk:b->bZ->Bool×b)(t:b)(l:List bZ)(e:bZ):pts lk t (l++[e])=ej lk (pts lk t l) e:=by simp[pts,List.foldl_append]
theorem om {b:Type}(lk:b->bZ->Bool×b)(t:b)(l:List bZ):(pts lk t l).1.length+(pts lk t l).2.1.length=l.length:=by
 have key:∀(l:List bZ)(s:List bZ×List bZ×b),(l.foldl (ej lk) s).1.length+(l.foldl (ej lk) s).2.1.length=s.1.length+s.2.1.length+l.length:=by
  intro l
  induction l with
  |nil=>simp
  |cons e r c=>
   intro s;rw[a8,c];unfold ej;split<;>simp<;>omega
 simpa[pts] using key l ([],[],t)
theorem aS (n:Nat):0 <= n:=Nat.zero_le ..
theorem a7 (w:au)(base:Nat)(e:Go.TypeId)(size:Nat):w.ownsRow base e size (Value.slice Option.none 0 0) 0 []:=World.ownsRow_nil ..
theorem aC {α:Type _}{l:List α}{i:Nat}{a:α}:l.getD i a = l[i]?.getD a:=List.getD_eq_getElem?_getD ..
theorem aG {α:Type _}{l:List α}{i:Nat}(h:i < l.length):l[i]? = some l[i]:=List.getElem?_eq_getElem ..
theorem a6 {α:Type _}{l:List α}{n:Nat}(h:n < l.length):l[n] ∈ l:=List.getElem_mem ..
theorem aL (w:au)(o:Obj):(w.alloc o).heap[w.heap.size]? = some o:=heap_alloc_new ..
theorem ay{w:World}{b o:Nat}{c:Array Value}{T:TypeId}{g:Nat×Nat}{v:Value}(h:w.heap[b]?=some (.cells c T g))(e:c[o]?=some v:=by rfl):w.cell? ⟨b,o,none⟩=some v:=by simp[World.cell?,h];exact e
theorem vH {I:Type}(o:dP I)(D:bZ->Prop)(G:I->Prop)(f:Nat)(b c:Array Value)(lk:I->bZ->Bool×I)(bb:d3 f)(hl:Looks o D G f b c lk)(l:List bZ)(ax:Option Addr)(b0:Nat)(F:Nat->Prop)(t:I)(w:au)
 (hD:∀e∈l,D e)(bd:∀j,j<l.length->G (pts lk t (l.take j)).2.2)(hm:l.length<=100000)(b1:o.J F t w)(hp:∀s aB w',o.J s aB w'->Fr F w w'->cY w' ax l):
 Calls prog 117 #[.slice ax l.length b0,.func (.func f) b c] w fun r w'=>∃a1 c1 a2 c2 s,r=.returned (.tuple #[.slice a1 (pts lk t l).1.length c1,.slice a2 (pts lk t l).2.1.length c2])/\w'.ownsRow w.heap.size 83 2 (.slice a1 (pts lk t l).1.length c1) (pts lk t l).1.length (ev (pts lk t l).1)/\
  w'.ownsRow w.heap.size 83 2 (.slice a2 (pts lk t l).2.1.length c2) (pts lk t l).2.1.length (ev (pts lk t l).2.1)/\o.J s (pts lk t l).2.2 w'/\Fr F w w'/\(∀k,s k->F k\/w.heap.size<=k)/\(∀k,some k=(Value.slice a1 (pts lk t l).1.length c1).ownBlock->¬s k)/\(∀k,some k=(Value.slice a2 (pts lk t l).2.1.length c2).ownBlock->¬s k):=by
 obtain⟨be,hi,bg,bi,bl⟩:=info_parts nf;have b2:av (Looks o D G f b c lk):=hl;have b3:av (∀j,j<l.length->G (pts lk t (l.take j)).2.2):=bd;clear bd;clear hl;have b5:av (∀s aB w',o.J s aB w'->Fr F w w'->cY w' ax l):=hp;clear hp;have cj:∀(args:Array Value)(w:au),(callFunc f args).run prog w=.ok (.enter f args) w:=bb;clear bb;go_enter func117,ntmps117;go_wp2_with fail
 go_loopw [6,7,12] (fun b6 b7 iv wr=>∃(j:Nat)(Y N:List bZ)(v n:Option Addr)(x p:Nat)(q:Nat->Prop)(i:I),j<=l.length/\iv=ah j/\av (pts lk t (l.take j)=(Y,N,i))/\b6=.slice v Y.length x/\b7=.slice n N.length p/\
  wr.ownsRow w.heap.size 83 2 (.slice v Y.length x) Y.length (ev Y)/\wr.ownsRow w.heap.size 83 2 (.slice n N.length p) N.length (ev N)/\o.J q i wr/\Fr F w wr/\av (∀k,q k->F k\/w.heap.size<=k)/\
  av (∀k,some k=(Value.slice v Y.length x).ownBlock->¬q k/\some k≠(Value.slice n N.length p).ownBlock)/\av (∀k,some k=(Value.slice n N.length p).ownBlock->¬q k)) (fun _ _ iv _=>l.length-(intOf iv).toNat)
 case atStart=>exact⟨0,[],[],none,none,0,0,F,t,aS _,rfl,rfl,rfl,rfl,a7 _ _ _ _,a7 _ _ _ _,b1,Fr.refl _ _,fun k h=>aJ h,fun k e=>by simp[Value.ownBlock] at e,fun k e=>by simp[Value.ownBlock] at e⟩
 case round=>
  obtain⟨j,Y,N,v,n,x,p,q,i,d,rfl,K,rfl,rfl,ab,hN,L,M,ad,O,ag⟩:=hrel;by_cases P:j<l.length
  ·obtain⟨ck,cl,b8,cm,hc⟩:=b5.o q i wr L M V;obtain⟨b9,ca⟩:=hc j P;clear hc;have Q:D (l.getD j (0,0)):=hD _ (by rw[aC,aG P];exact a6 P)
   have cb:G i:=by have:=b3.o j P;rw[K.o] at this;exact this
   have B:=BP lk t (l.take j) (l.getD j (0,0))
   rw[<-fz l j P (0,0),K.o] at B;have B:av (pts lk t (l.take (j+1))=ej lk (Y,N,i) ((l.getD j (0,0)).1,(l.getD j (0,0)).2)):=B;have Q:D ((l.getD j (0,0)).1,(l.getD j (0,0)).2):=Q;generalize (l.getD j (0,0)).1=g at b9 B Q;generalize (l.getD j (0,0)).2=z at ca B Q;subst b8;have cn:Y.length+N.length<=100000:=by
    have bn:=om lk t (l.take j)
    rw[K.o] at bn;simp at bn;omega
   have co:=M.size;have bo:=o.lt L;go_wp2_with fail;refine(b2.o q i _ (g,z) Q cb (o.below L (bX.alloc bW _))).mono ?_;rintro e R ⟨A,rfl,ai,J,al⟩
   have cc:=J.size;simp at cc;have bp:¬q wr.heap.size:=fun h=>by have:=bo _ h;omega
   have br:=(J.block _ Z bp).trans (aL _ _)
   have cp:R.cell? (am wr.heap.size 0)=some (ah g):=ay br
   have cq:R.cell? (am wr.heap.size 1)=some (ah z):=ay br
   have ap:=gH (f6 ab (.cells #[.int .i64 g,.int .i64 z] 83)) J (fun k e=>(O.o k e).1)
   have ar:=gH (f6 hN (.cells #[.int .i64 g,.int .i64 z] 83)) J (fun k e=>ag.o k e)
   have bs:Fr F w R:=(M.alloc (.cells #[.int .i64 g,.int .i64 z] 83)).trans J ad.o;have bt:av (∀k,A k->F k\/w.heap.size<=k):=fun k hk=>(al k hk).elim (fun h=>ad.o k h) (fun h=>aI (by simp at h;omega))
   have C:av (∀k,some k=(Value.slice v Y.length x).ownBlock->¬A k/\some k≠(Value.slice n N.length p).ownBlock):=fun k e=>⟨fun h=>(al k h).elim (O.o k e).1 (fun h=>by have:=(ce ab k e).2;simp at h;omega),(O.o k e).2⟩
   have aF:av (∀k,some k=(Value.slice n N.length p).ownBlock->¬A k):=fun k e h=>(al k h).elim (ag.o k e) (fun h=>by have:=(ce hN k e).2;simp at h;omega)
   have bx:=o.lt ai;clear ab hN M J ad O ag L al bo bp;have hd:av (pts lk t (l.take (j+1))=if(lk i (g,z)).1 then(Y++[(g,z)],N,(lk i (g,z)).2) else(Y,N++[(g,z)],(lk i (g,z)).2)):=B.o;clear B;generalize (lk i (g,z)).2=bY at ai hd;cases hb:(lk i (g,z)).1
   ·rw[hb] at hd;have hd:=hide hd;go_wp2_with (at_builtin;refine wpList_append_own_at _ rfl _ _ 126 rfl w.heap.size 83 be (.agg #[ah 0,ah 0]) 2 16 underlying126 hi bg bi bl rfl aa (.slice n N.length p) N.length (ev N) rfl (f6 ar _) ⟨R.heap.size,0,none⟩ 1 1 [ah g,ah z] rfl rfl ?_ ?_ ?_ ?_ ?_ ?_;(intro j u d;match j,d with|0,d=>(simp at d;subst d;simp[Addr.add])|1,d=>(simp at d;subst d;simp[Addr.add]));(intro u m;simp at m;rcases m with m|m<;>(subst m;rfl));(unfold maxLen;omega);omega;(simp;omega);intro cd aR S E _ aT;obtain⟨b4,U,aV⟩:=dW S (Nat.succ_pos _);subst aV)
    have cf:aR.ownsRow w.heap.size 83 2 (.slice (ak b4) (N++[(g,z)]).length U) (N++[(g,z)]).length (ev (N++[(g,z)])):=by rw[kQ];simpa[ev] using S
    have cg:=pQ o ai E (fun k e=>aF.o k e)
    have a0:=vG ap E (fun k e=>(C.o k e).2)
    have ch:=(bs.alloc (.cells #[.int .i64 g,.int .i64 z] 83)).grown E (fun k e=>aI (ce ar k e.symm).1)
    have W:=aT.imp id (fun e=>by simpa[Value.ownBlock] using e)
    have a3:av (∀k,some k=(Value.slice v Y.length x).ownBlock->¬A k/\some k≠some b4):=fun k e=>⟨(C.o k e).1,fun H=>W.elim (fun h=>(C.o k e).2 (H.trans h)) (fun h=>by have:=(ce ap k e).2;simp at H;omega)⟩
    have ci:av (∀k,some k=some b4->¬A k):=fun k e h=>W.elim (fun X=>aF.o k (e.trans X) h) (fun X=>by have:=bx k h;simp at e;omega)
    go_wp2_with fail;go_roundw
    case rel=>exact⟨j+1,Y,N++[(g,z)],v,ak b4,x,U,A,bY,V,af,hd,rfl,Z,a0,cf,cg,ch,bt,a3,ci⟩
    case measure=>simp[intOf];omega
   ·rw[hb] at hd;go_wp2_with (at_builtin;refine wpList_append_own_at _ rfl _ _ 126 rfl w.heap.size 83 be (.agg #[ah 0,ah 0]) 2 16 underlying126 hi bg bi bl rfl aa (.slice v Y.length x) Y.length (ev Y) rfl (f6 ap _) ⟨R.heap.size,0,none⟩ 1 1 [ah g,ah z] rfl rfl ?_ ?_ ?_ ?_ ?_ ?_;(intro j u d;match j,d with|0,d=>(simp at d;subst d;simp[Addr.add])|1,d=>(simp at d;subst d;simp[Addr.add]));(intro u m;simp at m;rcases m with m|m<;>(subst m;rfl));(unfold maxLen;omega);omega;(simp;omega);intro cd aR S E _ aT;obtain⟨b4,U,aV⟩:=dW S (Nat.succ_pos _);subst aV)
    have a0:aR.ownsRow w.heap.size 83 2 (.slice (ak b4) (Y++[(g,z)]).length U) (Y++[(g,z)]).length (ev (Y++[(g,z)])):=by rw[kQ];simpa[ev] using S
    have W:=aT.imp id (fun e=>by simpa[Value.ownBlock] using e)
    have a3:av (∀k,some k=some b4->¬A k/\some k≠(Value.slice n N.length p).ownBlock):=fun k e=>⟨fun h=>W.elim (fun X=>(C.o k (e.trans X)).1 h) (fun X=>by have:=bx k h;simp at e;omega),fun H=>W.elim (fun h=>(C.o k (e.trans h)).2 H) (fun h=>by have:=(ce ar k H).2;simp at e;omega)⟩
    go_wp2_with fail;go_roundw;exact⟨j+1,Y++[(g,z)],N,ak b4,n,U,p,A,bY,V,af,hd,Z,rfl,a0,(vG ar E (fun k e H=>(C.o k H).2 e)),(pQ o ai E (fun k e=>(C.o k e).1)),((bs.alloc (.cells #[.int .i64 g,.int .i64 z] 83)).grown E (fun k e=>aI (ce ap k e.symm).1)),bt,a3,aF⟩
    simp[intOf];omega
  ·obtain rfl:j=l.length:=V;rw[a_] at K;go_wp2_with fail;go_ret2;rw[K.o];exact⟨_,_,_,_,q,rfl,ab,hN,L,M,ad.o,fun k e=>(O.o k e).1,ag.o⟩
theorem cY.apart {f:Type}{o:dP f}{F:Nat->Prop}{w:au}{b:Option Addr}{l:List bZ}(h:cY w b l)(g:0<l.length->∀z,b=some z->¬F z.block):∀i j w',o.J i j w'->Fr F w w'->cY w' b l:=fun _ _ _ _ c=>
 h.keep c.size (fun hp z e=>by obtain⟨m,n,d,k,_⟩:=h hp;rw[e] at d;cases d;exact c.block _ k (g hp _ e))
def vI (w0:au):dP Unit where
 J F _ w:=(∀k,F k↔k<w0.heap.size)/\w0.heap.size<=w.heap.size/\∀k,k<w0.heap.size->w.heap[k]?=w0.heap[k]?
 lt:=by rintro F t w ⟨b,d,c⟩ k hk;have:=(b k).1 hk;omega
 keep:=by rintro F t w w' ⟨b,d,c⟩ hs hk;exact⟨b,V,fun k h=>(hk k ((b k).2 h)).trans (c k h)⟩
theorem BQ {b:Type}(p:b->bZ->Bool)(s:b)(l:List bZ):pts (fun s e=>(p s e,s)) s l=(l.filter (p s),l.filter (fun e=>!p s e),s):=by
 have key:∀(l Y N:List bZ),l.foldl (ej (fun s e=>(p s e,s))) (Y,N,s)=(Y++l.filter (p s),N++l.filter (fun e=>!p s e),s):=by
  intro l
  induction l with
  |nil=>simp
  |cons e r c=>
   intro Y N;cases h:p s e
   ·simp[ej,h,c]
   ·simp[ej,h,c]
 simpa[pts] using key l [] []
theorem rX (D:bZ->Prop)(f:Nat)(b c:Array Value)(p:bZ->Bool)(o:d3 f)(w:au)
 (hl:∀(w':au)(e:bZ),D e->w.heap.size<=w'.heap.size->(∀k,k<w.heap.size->w'.heap[k]?=w.heap[k]?)->Calls prog f (b.push (en e)++c) w' fun r q=>r=.returned (.bool (p e))/\Below w'.heap.size w' q)
 (l:List bZ)(g:Option Addr)(j:Nat)(hD:∀e∈l,D e)(hm:l.length<=100000)(hp:cY w g l):
 Calls prog 117 #[.slice g l.length j,.func (.func f) b c] w fun r w'=>∃a1 c1 a2 c2,r=.returned (.tuple #[.slice a1 (l.filter p).length c1,.slice a2 (l.filter (fun e=>!p e)).length c2])/\w'.ownsRow w.heap.size 83 2 (.slice a1 (l.filter p).length c1) (l.filter p).length (ev (l.filter p))/\
  w'.ownsRow w.heap.size 83 2 (.slice a2 (l.filter (fun e=>!p e)).length c2) (l.filter (fun e=>!p e)).length (ev (l.filter (fun e=>!p e)))/\Below w.heap.size w w':=by
 have P:=vH (vI w) D (fun _=>True) f b c (fun _ e=>(p e,())) o (by
  rintro F t w1 e hD _ ⟨i,j2,cy⟩
  refine(hl w1 e hD j2 cy).mono ?_;rintro r x ⟨rfl,m⟩
  exact⟨F,rfl,(vI w).below ⟨i,j2,cy⟩ m,Fr.of m,fun k h=>aJ h⟩) l g j (fun k=>k<w.heap.size) () w hD (fun _ _=>trivial) hm ⟨fun k=>Iff.rfl,aA _,fun _ _=>rfl⟩
  (by
    rintro s A w' ⟨i,j2,cy⟩ _;refine hp.keep j2 (fun hq z e=>?_)
    obtain⟨B,C,n,u,_⟩:=hp hq;rw[e] at n;cases n;exact cy _ u)
 rw[BQ (fun _ e=>p e) () l] at P;refine P.mono ?_;rintro r w' ⟨a1,c1,a2,c2,s,rfl,v,hN,⟨i,j2,cy⟩,d,_,_,_⟩
 exact⟨a1,c1,a2,c2,rfl,v,hN,d.os,d.tape,d.output,d.size,cy⟩
theorem BR (w:au)(b:Option Addr)(n c:Nat)(d:n<=c):
 Calls prog 146 #[.slice b n c] w fun e w'=>e=.returned (.slice b n n)/\w'=w:=by
 go_wp2;go_ret;exact⟨rfl,rfl⟩
structure it (w:au)(ad:Option Addr)(l:List bZ)(cap:Nat):Prop where
 lp:cY w ad l
 le:l.length<=cap
 nil:ad=none->l.length=0/\cap=0
theorem cY.cells {w:au}{i:Option Addr}{q:List bZ}(h:cY w i q):∀b,i=some b->∀j u,(ev q)[j]?=some u->w.cell? (b.add j)=some u:=by
 intro b e j u c;have hl:=jP q;have m:=(List.getElem?_eq_some_iff.1 c).1;obtain⟨g,o,k,n,hc⟩:=h V;rw[e] at k;cases k;obtain⟨c1,c2⟩:=hc (j/2) V;obtain⟨k1,d⟩:=ol q (j/2) V;rcases Nat.mod_two_eq_zero_or_one j with hz|hz
 ·have f:j/2*2=j:=V;rw[f] at k1 c1;rw[c] at k1;cases k1;rw[Addr.add_lit];exact c1
 ·have f:j/2*2+1=j:=V;have l:o+j/2*2+1=o+j:=V;rw[f] at d;rw[l] at c2;rw[c] at d;cases d;rw[Addr.add_lit];exact c2
theorem cY.below {w w':au}{c:Option Addr}{l:List _}(h:cY w c l)(d:Below w.heap.size w w'):cY w' c l:=
 h.keep d.size (fun hp z e=>by obtain⟨b,o,f,g,_⟩:=h hp;rw[e] at f;cases f;exact d.block _ g)
theorem aD (B:Nat)(w:au):Below B w w:=Below.refl ..
theorem vJ (w:au)(c:Option Addr)(q:List bZ)(i:Nat)(g z:Int)(h:it w c q i)(hm:q.length<=100000):
 Calls prog 79 #[.slice c q.length i,.agg #[ah g,ah z]] w fun e w'=>∃b1 gj,e=.returned (.slice (ak b1) (q.length+1) gj)/\w'.ownsRow w.heap.size 83 2 (.slice (ak b1) (q.length+1) gj) (q.length+1) (ev (q++[(g,z)]))/\Below w.heap.size w w':=by
 obtain⟨m,hi,n,o,p⟩:=info_parts nf;have s:av (cY w c q):=h.lp;have t:av (c=none->q.length=0/\q.length=0):=fun e=>⟨(h.nil e).1,(h.nil e).1⟩
 have x:=h.le;clear h;go_enter func79,ntmps79;go_wp2_with fail
 go_region_held3 (fun w'=>w'.cell? (am w.heap.size 0)=some (ah g)/\w'.cell? (am w.heap.size 1)=some (ah z)) (go_keep)
  (first|(go_at_call 146;refine(BR _ c q.length i x).mono ?_;rintro e w3 ⟨rfl,rfl⟩)|(refine step_append_grows rfl (.tmp 6) (.tmp 8) 126 rfl 83 m (.agg #[ah 0,ah 0]) 2 16 underlying126 hi n o p rfl aa c q.length q.length (ev q) (by simp[Act.eval]) t.o (jP q) (s.o.below (by first|exact(((aD _ w).alloc bW _).alloc Z _).drew|exact((aD _ w).alloc bW _).drew.alloc Z _)).cells ⟨w.heap.size+1,0,none⟩ 1 1 [ah g,ah z] (by simp[Act.eval]) rfl ?_ ?_ V (by unfold maxLen;omega) V ?_;(intro j u b;match j,b with|0,b=>(simp at b;subst b;simp[Addr.add])|1,b=>(simp at b;subst b;simp[Addr.add]));(intro u d;simp at d;rcases d with d|d<;>(subst d;rfl));intro C D l f;obtain⟨b4,A,B⟩:=dW l (Nat.succ_pos _);subst B;have y1:=f.cell (a:=⟨w.heap.size,0,none⟩) (v:=ah g) Z Z;have E:=f.cell (a:=⟨w.heap.size,1,none⟩) (v:=ah z) Z Z))
 all_goals
  go_wp2_with fail;go_ret;exact⟨b4,A,rfl,by rw[kQ];exact d7 l (fun k e=>by have:=(ce l k e).1;simp at this;omega),by first|exact((((aD _ w).alloc bW _).alloc Z _).drew).grown f (by simp;omega) (fun k e=>by cases e)|exact(((aD _ w).alloc bW _).drew.alloc Z _).grown f (by simp;omega) (fun k e=>by cases e)⟩
theorem iX (l:List bZ):∀u∈ev l,u.oneCell'=true:=by intro u b;simp only [ev,List.mem_flatMap] at b;obtain⟨e,_,b⟩:=b;simp at b;rcases b with rfl|rfl<;>rfl
theorem BS (w:au):(w.alloc (.cells #[] 83)).ownsRow w.heap.size 83 2 (.slice (ak w.heap.size) 0 0) 0 []:=
 ⟨rfl,aI ⟨w.heap.size,0,#[],rfl,aA _,aL _ _,aA _,aS _,rfl,rfl⟩⟩
theorem bF (n:Nat):0 + n = n:=Nat.zero_add ..
theorem rY (w:au)(b:Option Addr)(l:List bZ)(d:Nat)(h:it w b l d)(hm:l.length<=100000):
 Calls prog 166 #[.slice b l.length d] w fun e w'=>∃a1 c1,e=.returned (.slice a1 l.length c1)/\w'.ownsRow w.heap.size 83 2 (.slice a1 l.length c1) l.length (ev l)/\Below w.heap.size w w':=by
 obtain⟨i,hi,j,m,o⟩:=info_parts nf;have q:∀(w:au)(a:Option Addr)(n c:Nat),_=_:=fun w a n c=>Lib.run_eql_slice_nil w _ _ a n c 0 0 underlying126;have g:=hide h.lp;cases b with
 |none=>
  have hl:=List.eq_nil_of_length_eq_zero (h.nil rfl).1;subst hl;clear h g;go_enter func166,ntmps166;go_wp2;go_ret;exact⟨none,0,rfl,a7 _ _ _ _,aD _ _⟩
 |some a=>
  clear h;go_enter func166,ntmps166;go_wp2_with (at_builtin;refine wpList_append_own _ rfl _ _ 126 rfl w.heap.size 83 i _ 2 16 underlying126 hi j m o rfl aa _ 0 [] rfl (BS w) a l.length d (ev l) rfl (jP l) ((g.o.below (bX.alloc bW _)).cells a rfl) (iX l) ?_ ?_ ?_ ?_;(unfold maxLen;omega);omega;(simp);intro v w1 f p _)
  rw[List.nil_append,bF] at f;obtain⟨a1,c1,rfl⟩:=dQ f;go_wp2;go_ret;exact⟨a1,c1,rfl,f,(bX.alloc bW _).grown p Z (fun k e=>by cases e;exact aA _)⟩
abbrev dm:=Int×Option Addr×Nat×List (Int×Int)
def nv (m:List dm):List Value:=m.flatMap fun x=>[ah x.1,.slice x.2.1 x.2.2.2.length x.2.2.1]
def iu (m:List dm):List (Int×List (Int×Int)):=m.map fun x=>(x.1,x.2.2.2)
theorem vK (a b:List dm):nv (a++b)=nv a++nv b:=by simp[nv]
theorem ng:∀(l:List dm)(i:Nat)(x:dm),l[i]?=some x->(nv l)[i*2]?=some (ah x.1)/\(nv l)[i*2+1]?=some (.slice x.2.1 x.2.2.2.length x.2.2.1)
 |[],i,x,h=>by simp at h
 |e::r,0,x,h=>by simp at h;subst h;simp[nv]
 |e::r,i+1,x,h=>by
  have b:(nv (e::r))=ah e.1::.slice e.2.1 e.2.2.2.length e.2.2.1::nv r:=by simp[nv]
  rw[b,show(i+1)*2=i*2+1+1 by omega];simpa using(ng r i x (by simpa using h))
theorem rZ:∀(l:List dm)(i:Nat)(x:dm)(b:Option Addr)(c:Nat)(d:List (Int×Int)),l[i]?=some x->nv (l.set i (x.1,b,c,d))=(nv l).set (i*2+1) (.slice b d.length c)
 |[],_,_,_,_,_,_=>rfl
 |e::l,0,x,b,c,d,h=>by simp at h;subst h;simp[nv]
 |e::l,i+1,x,b,c,d,h=>by
  have f:(nv (e::l))=ah e.1::.slice e.2.1 e.2.2.2.length e.2.2.1::nv l:=by simp[nv]
  have g:(nv (e::l.set i (x.1,b,c,d)))=ah e.1::.slice e.2.1 e.2.2.2.length e.2.2.1::nv (l.set i (x.1,b,c,d)):=by simp[nv]
  rw[List.set_cons_succ,g,f,(rZ l i x b c d (by simpa using h)),show(i+1)*2+1=i*2+1+1+1 by omega];simp
theorem jq {w:au}{base size n g cap:Nat}{e:TypeId}{xs:List Value}(h:w.ownsRow base e size (.slice (ak g) n cap) n xs)(i:Nat)(u:Value):(w.setCell ⟨g,i,none⟩ u).ownsRow base e size (.slice (ak g) n cap) n (xs.set i u):=by exact vg
def f7 (w:au)(c:Option Addr)(l:List (Int×Int)):Prop:=cY w c l/\(0<l.length->∃b o d,c=some ⟨b,o,none⟩/\w.heap[b]?=some (.cells d 77 (0,0)))
section
variable {B:Nat}{w w' w'':au}
theorem f7.nil {b:Option Addr}:f7 w b []:=⟨fun h=>by simp at h,fun h=>by simp at h⟩
theorem f7.of {base c:Nat}{b:Option Addr}{l:List _}(h:w.ownsRow base 77 2 (.slice b l.length c) l.length (ev l)):f7 w b l:=by
 refine⟨gh h,fun hp=>?_⟩
 exact vu
end
def fA (m:List dm)(k:Nat):Prop:=∃x∈m,0<x.2.2.2.length/\∃o,x.2.1=some ⟨k,o,none⟩
theorem e8 {w:au}{base size n g d:Nat}{e:TypeId}{xs:List Value}(h:w.ownsRow base e size (.slice (ak g) n d) n xs){i:Nat}{u:Value}(hi:xs[i]?=some u):w.cell? (am g i)=some u/\w.frozen? (am g i)=false:=by
 rcases h.2 with⟨b,_⟩|⟨k,l,m,b,o,hg,p,q,s,f⟩
 ·simp at b
 ·obtain⟨rfl,rfl⟩:=b;rw[<-f] at hi;have j:i<n*size:=by
   rcases Nat.lt_or_ge i _ with c|c
   ·exact c
   ·rw[List.getElem?_take,aE V] at hi;simp at hi
  rw[List.getElem?_take_of_lt j] at hi;constructor
  ·simp[World.cell?,hg];simpa using hi
  ·simp[World.frozen?,hg]
def Ln (w:au)(c:Option Addr)(d:List (Int×List (Int×Int))):Prop:=
 ∃m:List dm,iu m=d/\(∀x∈m,cY w x.2.1 x.2.2.2)/\(0<m.length->∃b o,c=some ⟨b,o,none⟩/\b<w.heap.size/\∀i x,m[i]?=some x->w.cell? (am b (o+i*2))=some (ah x.1)/\w.cell? (am b (o+i*2+1))=some (.slice x.2.1 x.2.2.2.length x.2.2.1))
theorem Ln.below {w w':au}{f:Option Addr}{g:List _}(h:Ln w f g)(c:Below w.heap.size w w'):Ln w' f g:=by
 obtain⟨m,j,k,l⟩:=h;refine⟨m,j,fun x d=>(k x d).below c,fun hp=>?_⟩
 obtain⟨b,o,e,hl,hc⟩:=l hp;exact⟨b,o,e,aM hl c.size,fun i x d=>⟨(c.cell hl).trans (hc i x d).1,(c.cell hl).trans (hc i x d).2⟩⟩
def nh (w:au)(base:Nat)(c:Option Addr)(l:List (Int×Int)):Prop:=cY w c l/\(0<l.length->∃b o,c=some ⟨b,o,none⟩/\base<=b)
def lz (w:au)(base:Nat)(c:Option Addr)(d:List (Int×List (Int×Int))):Prop:=
 ∃m:List dm,iu m=d/\(∀x∈m,cY w x.2.1 x.2.2.2)/\(∀k,fA m k->base<=k)/\(0<m.length->∃b o,c=some ⟨b,o,none⟩/\base<=b/\b<w.heap.size/\∀i x,m[i]?=some x->w.cell? (am b (o+i*2))=some (ah x.1)/\w.cell? (am b (o+i*2+1))=some (.slice x.2.1 x.2.2.2.length x.2.2.1))
theorem lz.ln {w:au}{base:Nat}{d:Option Addr}{f:List _}(h:lz w base d f):Ln w d f:=by obtain⟨m,g,i,_,j⟩:=h;exact⟨m,g,i,fun hp=>by obtain⟨b,o,e,_,l,c⟩:=j hp;exact⟨b,o,e,l,c⟩⟩
abbrev cG:=Int×List (Int×Int)×Bool×Bool
structure cj where
 T:List cG
 rs:List (Int×Int)
 rg:List bZ
 wt:List bZ
theorem r4:∀(l:List (Int×Int))(i:Nat)(x:Int×Int),ev (l.set i x)=((ev l).set (i*2) (ah x.1)).set (i*2+1) (ah x.2)
 |[],_,_=>rfl
 |e::l,0,x=>by simp[ev]
 |e::l,i+1,x=>by
  have b:ev (e::l)=ah e.1::ah e.2::ev l:=by simp[ev]
  have c:ev ((e::l).set (i+1) x)=ah e.1::ah e.2::ev (l.set i x):=by simp[ev]
  rw[b,c,(r4 l i x),show(i+1)*2=i*2+1+1 by omega];simp
def dR (g:Int)(q:List bZ):Nat:=q.findIdx (fun e=>e.1==g)
end Go.Proofs.YtjpjpjemibgjpaaGreat
