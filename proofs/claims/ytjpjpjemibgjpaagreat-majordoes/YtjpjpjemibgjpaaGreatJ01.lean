import Derived.Test.YtjpjpjemibgjpaaGreatChecked
import Derived.Test.YtjpjpjemibgjpaaGreatJ00
import Derived.WalkKit
import Derived.WalkSpells
import Derived.Deep.QuietTactic
import Derived.BigQuiet
import Derived.WalkSmall
import Derived.Laws.CopyOwn
import Derived.Maps.AppendAt
namespace Go.Proofs.YtjpjpjemibgjpaaGreat
theorem ab{P:Prop}(h:P:=by kernel_rfl):P:=h
set_option maxRecDepth 100000
set_option maxHeartbeats 400000
open Tryz
open Go.RowKit W
abbrev ae(n:Int):Value:=.int .i64 n
abbrev ah(b n:Nat):Addr:=⟨b,n,none⟩
abbrev ag(b:Nat):Option Addr:=some ⟨b,0,none⟩
abbrev af(b:Nat):Value:=.pointer (some ⟨b,0,none⟩)
theorem qP (n low:Int)(w:World):
 Calls prog 143 #[ae n,ae low] w fun e w'=>e=.returned (ae (rc n low))/\w'=w:=by
 by_cases c1:n<low
 ·have e:rc n low=1:=by unfold rc;rw[aq c1]
  rw[e];go_enter func143,ntmps143;go_wp2;go_ret;exact⟨rfl,rfl⟩
 ·by_cases c2:1152921504606846976<=n
  ·have e:rc n low=1:=by unfold rc;rw[ao c1,aq c2]
   rw[e];go_enter func143,ntmps143;go_wp2;go_ret;exact⟨rfl,rfl⟩
  ·have e:rc n low=0:=by unfold rc;rw[ao c1,ao c2]
   rw[e];go_enter func143,ntmps143;go_wp2;go_ret;exact⟨rfl,rfl⟩
theorem vO (k:Int)(w:World):
 Calls prog 75 #[ae k] w fun e w'=>e=.returned (ae (tg k))/\w'=w:=by
 by_cases c1:k=1
 ·subst c1;go_enter func75,ntmps75;go_wp2;go_ret;exact⟨rfl,rfl⟩
 ·by_cases a:k=3
  ·subst a;go_enter func75,ntmps75;go_wp2;go_ret;exact⟨rfl,rfl⟩
  ·by_cases c0:k=0
   ·subst c0;go_enter func75,ntmps75;go_wp2;go_ret;exact⟨rfl,rfl⟩
   ·have e:tg k=3:=by unfold tg;rw[ao c1,ao a,ao c0]
    rw[e];go_enter func75,ntmps75;go_wp2;go_ret;exact⟨rfl,rfl⟩
theorem qQ (t:Int)(w:World):
 Calls prog 178 #[ae t] w fun e w'=>e=.returned (ae (gJ t))/\w'=w:=by
 by_cases c1:t=0
 ·subst c1;go_enter func178,ntmps178;go_wp2;go_ret;exact⟨rfl,rfl⟩
 ·by_cases a:t=1
  ·subst a;go_enter func178,ntmps178;go_wp2;go_ret;exact⟨rfl,rfl⟩
  ·by_cases c0:t=2
   ·subst c0;go_enter func178,ntmps178;go_wp2;go_ret;exact⟨rfl,rfl⟩
   ·have e:gJ t=2:=by unfold gJ;rw[ao c1,ao a,ao c0]
    rw[e];go_enter func178,ntmps178;go_wp2;go_ret;exact⟨rfl,rfl⟩
theorem vP (n:Int):vc 0 n=if n=0 then 0 else 7:=by simp[vc]
theorem vQ (n:Int):vc 2 n=if n=0 then 0 else 7:=by simp[vc]
theorem vR (n:Int):vc 1 n=rc n (-1152921504606846976):=by simp[vc]
theorem qR (n:Int):vc 3 n=rc n 0:=by simp[vc]
theorem bK{B:Nat}{w:World}:Below B w w:=Below.refl B w
theorem m5 (k n:Int)(w:World):
 Calls prog 74 #[.agg #[ae k,ae n]] w fun e w'=>e=.returned (ae (vc k n))/\Below w.heap.size w w':=by
 by_cases c0:k=0
 ·subst c0;rw[vP];by_cases c:n=0
  ·subst c;go_enter func74,ntmps74;go_wp2;go_ret;exact⟨rfl,bK.alloc bJ _⟩
  ·rw[ao c];go_enter func74,ntmps74;go_wp2;go_ret;exact⟨rfl,bK.alloc bJ _⟩
 ·by_cases c2:k=2
  ·subst c2;rw[vQ];by_cases c:n=0
   ·subst c;go_enter func74,ntmps74;go_wp2;go_ret;exact⟨rfl,bK.alloc bJ _⟩
   ·rw[ao c];go_enter func74,ntmps74;go_wp2;go_ret;exact⟨rfl,bK.alloc bJ _⟩
  ·by_cases c1:k=1
   ·subst c1;rw[vR];go_enter func74,ntmps74;go_wp2_with (go_at_call 143;refine(qP _ _ _).mono ?_;rintro e w' ⟨rfl,rfl⟩)
    go_ret;exact⟨rfl,bK.alloc bJ _⟩
   ·by_cases a:k=3
    ·subst a;rw[qR];go_enter func74,ntmps74;go_wp2_with (go_at_call 143;refine(qP _ _ _).mono ?_;rintro e w' ⟨rfl,rfl⟩)
     go_ret;exact⟨rfl,bK.alloc bJ _⟩
    ·have e:vc k n=2:=by unfold vc;rw[ao c0,ao c2,ao c1,ao a]
     rw[e];go_enter func74,ntmps74;go_wp2;go_ret;exact⟨rfl,bK.alloc bJ _⟩
theorem jL {B:Nat}{W w1:World}(a:Below B W w1):(∀b o,b<B->w1.cell? (ah b o)=W.cell? (ah b o))/\(∀b o,b<B->w1.frozen? (ah b o)=W.frozen? (ah b o)):=
 ⟨fun b o h=>a.cell (p:=ah b o) h,fun b o h=>a.frozen (p:=ah b o) h⟩
theorem qS {w w1:World}{a b c d:Value}{s t:TypeId}(e:Below ((w.alloc (.cells #[a,b] s)).alloc (.cells #[c,d] t)).heap.size ((w.alloc (.cells #[a,b] s)).alloc (.cells #[c,d] t)) w1):
 w1.cell? (ah w.heap.size 0)=some a/\w1.cell? (ah w.heap.size 1)=some b/\w1.cell? (ah (w.heap.size+1) 0)=some c/\w1.cell? (ah (w.heap.size+1) 1)=some d/\w1.frozen? (ah w.heap.size 0)=false/\w1.frozen? (ah w.heap.size 1)=false/\w.heap.size+2<=w1.heap.size:=by
 obtain⟨hc,f⟩:=jL e;have hz:=e.size;refine⟨?_,?_,?_,?_,?_,?_,by simpa using hz⟩
 ·rw[hc _ _ (by simp;omega)];simp[go_sem]
 ·rw[hc _ _ (by simp;omega)];simp[go_sem]
 ·rw[hc _ _ V];simp[go_sem]
 ·rw[hc _ _ V];simp[go_sem]
 ·rw[f _ _ (by simp;omega)];simp[go_sem]
 ·rw[f _ _ (by simp;omega)];simp[go_sem]
theorem m6 {w w1:World}{a b:Value}{t:TypeId}(c:Below (w.alloc (.cells #[a,b] t)).heap.size (w.alloc (.cells #[a,b] t)) w1):
 w1.cell? (ah w.heap.size 0)=some a/\w1.cell? (ah w.heap.size 1)=some b/\w.heap.size+1<=w1.heap.size:=by
 obtain⟨hc,_⟩:=jL c;have hz:=c.size;refine⟨?_,?_,by simpa using hz⟩
 ·rw[hc _ _ V];simp[go_sem]
 ·rw[hc _ _ V];simp[go_sem]
theorem lj {a b:Int}{c:Value}(h:a=b):Ending.returned (.tuple #[ae a,c])=.returned (.tuple #[ae b,c]):=by rw[h]
theorem qT (k n:Int)(w:World):
 Calls prog 29 #[.agg #[ae k,ae n]] w fun e w'=>e=.returned (.tuple #[ae (ew k n),ae (vc k n)])/\Below w.heap.size w w':=by
 by_cases h:vc k n=0
 ·rw[oH k n h];have b:=vA k n h;have H:Hid (vc k n=0):=h;clear h;rw[H.out];have E:Hid (bits .or .i64 (n*4) (tg k)=4*n+tg k):=vB k n b.1 b.2;go_enter func29,ntmps29;go_wp2_with fail;refine(m5 k n _).mono ?_;rintro e w1 ⟨rfl,a⟩
  rw[H.out];obtain⟨hc,c⟩:=jL a;go_wp2_with fail
  go_quiet ((go_at_call 75;exact Calls.quiet_of_same (vO _ _)))
  go_wp2_with fail;go_ret2;exact⟨lj E.out,below_drewN ((bK.alloc bJ _).trans (a.mono V)) _⟩
 ·rw[vE k n h];have hc:(vc k n !=0)=true:=by simpa using h
  go_enter func29,ntmps29;go_wp2_with fail;refine(m5 k n _).mono ?_;rintro e w1 ⟨rfl,a⟩
  go_wp2_with fail;go_ret2;exact⟨rfl,(bK.alloc bJ _).trans (a.mono V)⟩
theorem aW {P:Go.Program}{fn:Go.Func}{R:Go.Ending -> World -> Prop}{a:Go.Act}{w:World}{v:Value}(hr:Go.Sem.run P (Go.results fn a.tmps) w = Go.Result.ok v w)(hd:a.defers = [])(hR:R (Go.Ending.returned v) w):Go.bodyPost P fn R Go.Exit.ret a w:=by intros;apply bodyPost_ret<;>assumption
theorem m7 (x:Int)(w:World):
 Calls prog 140 #[ae x] w fun e w'=>e=.returned (.tuple #[.agg #[ae (dk x),ae (cL x)],ae (dc x)])/\Below w.heap.size w w':=by
 have i:=vv x;by_cases h:dc x=0
 ·have a:dk x=gJ (x%4):=by unfold dk;rw[aq h]
  have b:cL x=x/4:=by unfold cL;rw[aq h]
  have H:Hid (vc (gJ (x%4)) (x/4)=0):=h;rw[h,a,b];clear h a b;go_enter func140,ntmps140;go_wp2_with fail;refine(qQ _ _).mono ?_;rintro e w' ⟨rfl,rfl⟩
  go_wp2_with fail;refine(m5 (gJ (x%4)) (x/4) _).mono ?_;rintro e w1 ⟨rfl,c⟩
  rw[H.out];obtain⟨c0,c1,c2,d,f,g,hz⟩:=qS c;go_wp2_with fail;exact aW (v:=.tuple #[.agg #[ae (gJ (x%4)),ae (x/4)],ae 0]) (by simp[results,results140,go_sem,c0,c1]) rfl ⟨rfl,((((bK.alloc bJ _).alloc V _).trans (c.mono (by simp;omega))).setCell bJ _).setCell bJ _⟩
 ·have a:dk x=0:=by unfold dk;rw[ao h]
  have b:cL x=0:=by unfold cL;rw[ao h]
  rw[a,b];have j:(vc (gJ (x%4)) (x/4)!=0)=true:=by simpa[dc] using h
  have E:Hid (dc x=vc (gJ (x%4)) (x/4)):=rfl;rw[E.out];clear h a b;go_enter func140,ntmps140;go_wp2_with fail;refine(qQ _ _).mono ?_;rintro e w' ⟨rfl,rfl⟩
  go_wp2_with fail;refine(m5 (gJ (x%4)) (x/4) _).mono ?_;rintro e w1 ⟨rfl,c⟩
  obtain⟨c0,c1,c2,d,f,g,hz⟩:=qS c;go_wp2_with fail;exact aW (v:=.tuple #[.agg #[ae 0,ae 0],ae (vc (gJ (x%4)) (x/4))]) (by simp[results,results140,go_sem,c0,c1]) rfl ⟨rfl,((((bK.alloc bJ _).alloc V _).trans (c.mono (by simp;omega))).setCell bJ _).setCell bJ _⟩
theorem oO (w:World):Calls prog 30 #[] w fun e w'=>e=.returned (ae 2)/\w'=w:=by go_enter func30,ntmps30;go_wp2;go_ret;exact⟨rfl,rfl⟩
theorem lq (w:World):Calls prog 158 #[] w fun e w'=>e=.returned (ae 3)/\w'=w:=by go_enter func158,ntmps158;go_wp2;go_ret;exact⟨rfl,rfl⟩
theorem m8 (n:Int)(w:World):
 Calls prog 25 #[ae n] w fun e w'=>e=.returned (ae (ew 3 n))/\Below w.heap.size w w':=by
 go_enter func25,ntmps25;go_wp2_with fail;refine(qT 3 n _).mono ?_;rintro e w1 ⟨rfl,a⟩
 go_wp2_with fail;go_ret;exact⟨rfl,a⟩
theorem lu (x:Int)(w:World):
 Calls prog 69 #[ae x] w fun e w'=>e=.returned (.tuple #[ae (bQ x),.bool (cI x)])/\Below w.heap.size w w':=by
 by_cases h0:dc x=0
 ·have t0:(dc x !=0)=false:=by simpa using h0
  by_cases c:dk x=3
  ·have a:cI x=true:=by unfold cI;rw[h0,c];rfl
   rw[iD x a,a];have t3:(dk x !=3)=false:=by simpa using c
   clear h0 c a;go_enter func69,ntmps69;go_wp2_with fail;refine(m7 x _).mono ?_;rintro e w1 ⟨rfl,b⟩
   go_wp2_with fail;go_ret2;exact⟨rfl,b.alloc b.size _⟩
  ·have a:cI x=false:=by unfold cI;rw[beq_eq_false_iff_ne.2 c];simp
   rw[qJ x a,a];have t3:(dk x !=3)=true:=by simpa using c
   clear h0 c a;go_enter func69,ntmps69;go_wp2_with fail;refine(m7 x _).mono ?_;rintro e w1 ⟨rfl,b⟩
   go_wp2_with fail;go_ret2;exact⟨rfl,b.alloc b.size _⟩
 ·have t0:(dc x !=0)=true:=by simpa using h0
  have a:cI x=false:=by unfold cI;rw[beq_eq_false_iff_ne.2 h0];simp
  rw[qJ x a,a];clear h0 a;go_enter func69,ntmps69;go_wp2_with fail;refine(m7 x _).mono ?_;rintro e w1 ⟨rfl,b⟩
  go_wp2_with fail;go_ret2;exact⟨rfl,b.alloc b.size _⟩
theorem gU (k:Int)(w:World):
 Calls prog 135 #[ae k] w fun e w'=>e=.returned (.tuple #[ae (fl k),ae (fm k),.bool (fk k)])/\w'=w:=by
 by_cases c1:k=1
 ·subst c1;go_enter func135,ntmps135;go_wp2
  go_ret3
  exact⟨rfl,rfl⟩
 by_cases c2:k=2
 ·subst c2;go_enter func135,ntmps135;go_wp2
  go_ret3
  exact⟨rfl,rfl⟩
 by_cases a:k=3
 ·subst a;go_enter func135,ntmps135;go_wp2
  go_ret3
  exact⟨rfl,rfl⟩
 by_cases b:k=4
 ·subst b;go_enter func135,ntmps135;go_wp2
  go_ret3
  exact⟨rfl,rfl⟩
 by_cases c:k=5
 ·subst c;go_enter func135,ntmps135;go_wp2
  go_ret3
  exact⟨rfl,rfl⟩
 have d:fl k=0:=by simp[fl,c1,a,b]
 have f:fm k=0:=by simp[fm,c1,c2,a,b]
 have g:fk k=false:=by simp[fk,c1,c2,a,b,c]
 rw[d,f,g];clear d f g;go_enter func135,ntmps135;go_wp2
 go_ret3
 exact⟨rfl,rfl⟩
theorem vS (k f:Int)(w:World)(h:hc k f=0):
 Calls prog 64 #[ae k,ae f] w fun e w'=>e=.returned (.tuple #[ae (16*f+k),ae 0])/\w'=w:=by
 rcases lY k f h with⟨rfl,rfl⟩|⟨rfl,rfl⟩|⟨rfl,rfl⟩|⟨rfl,a,b⟩|⟨rfl,rfl⟩
 ·clear h;go_enter func64,ntmps64;go_wp2_with fail;refine(gU _ _).mono ?_;rintro e w1 ⟨rfl,rfl⟩
  rw[show fl 1=2 from rfl,show fm 1=2 from rfl,show fk 1=true from rfl];go_wp2;go_ret2;exact⟨lj (by decide+kernel),rfl⟩
 ·clear h;go_enter func64,ntmps64;go_wp2_with fail;refine(gU _ _).mono ?_;rintro e w1 ⟨rfl,rfl⟩
  rw[show fl 3=2 from rfl,show fm 3=2 from rfl,show fk 3=true from rfl];go_wp2;go_ret2;exact⟨lj (by decide+kernel),rfl⟩
 ·clear h;go_enter func64,ntmps64;go_wp2_with fail;refine(gU _ _).mono ?_;rintro e w1 ⟨rfl,rfl⟩
  rw[show fl 4=2 from rfl,show fm 4=2 from rfl,show fk 4=true from rfl];go_wp2;go_ret2;exact⟨lj (by decide+kernel),rfl⟩
 ·have E:Hid (bits .or .i64 (f*16) 2=16*f+2):=vC 2 f h;clear h;go_enter func64,ntmps64;go_wp2_with fail;refine(gU _ _).mono ?_;rintro e w1 ⟨rfl,rfl⟩
  rw[show fl 2=0 from rfl,show fm 2=12 from rfl,show fk 2=true from rfl];go_wp2;go_ret2;exact⟨lj E.out,rfl⟩
 ·clear h;go_enter func64,ntmps64;go_wp2_with fail;refine(gU _ _).mono ?_;rintro e w1 ⟨rfl,rfl⟩
  rw[show fl 5=0 from rfl,show fm 5=0 from rfl,show fk 5=true from rfl];go_wp2;go_ret2;exact⟨lj (by decide+kernel),rfl⟩
theorem vU (k f:Int)(w:World)(h:(k=1/\f<2)\/(k=1/\2<f)\/(k=3/\f<2)\/(k=3/\2<f)\/(k=4/\f<2)\/(k=4/\2<f)\/(k=2/\f<0)\/(k=2/\12<f)\/(k=5/\f<0)\/(k=5/\0<f)):
 Calls prog 64 #[ae k,ae f] w fun e w'=>e=.returned (.tuple #[ae 0,ae 1])/\w'=w:=by
 rcases h with⟨rfl,h⟩|⟨rfl,h⟩|⟨rfl,h⟩|⟨rfl,h⟩|⟨rfl,h⟩|⟨rfl,h⟩|⟨rfl,h⟩|⟨rfl,h⟩|⟨rfl,h⟩|⟨rfl,h⟩
 ·go_enter func64,ntmps64;go_wp2_with fail;refine(gU _ _).mono ?_;rintro e w1 ⟨rfl,rfl⟩
  rw[show fl 1=2 from rfl,show fm 1=2 from rfl,show fk 1=true from rfl];go_wp2;go_ret2;exact⟨rfl,rfl⟩
 ·go_enter func64,ntmps64;go_wp2_with fail;refine(gU _ _).mono ?_;rintro e w1 ⟨rfl,rfl⟩
  rw[show fl 1=2 from rfl,show fm 1=2 from rfl,show fk 1=true from rfl];go_wp2;go_ret2;exact⟨rfl,rfl⟩
 ·go_enter func64,ntmps64;go_wp2_with fail;refine(gU _ _).mono ?_;rintro e w1 ⟨rfl,rfl⟩
  rw[show fl 3=2 from rfl,show fm 3=2 from rfl,show fk 3=true from rfl];go_wp2;go_ret2;exact⟨rfl,rfl⟩
 ·go_enter func64,ntmps64;go_wp2_with fail;refine(gU _ _).mono ?_;rintro e w1 ⟨rfl,rfl⟩
  rw[show fl 3=2 from rfl,show fm 3=2 from rfl,show fk 3=true from rfl];go_wp2;go_ret2;exact⟨rfl,rfl⟩
 ·go_enter func64,ntmps64;go_wp2_with fail;refine(gU _ _).mono ?_;rintro e w1 ⟨rfl,rfl⟩
  rw[show fl 4=2 from rfl,show fm 4=2 from rfl,show fk 4=true from rfl];go_wp2;go_ret2;exact⟨rfl,rfl⟩
 ·go_enter func64,ntmps64;go_wp2_with fail;refine(gU _ _).mono ?_;rintro e w1 ⟨rfl,rfl⟩
  rw[show fl 4=2 from rfl,show fm 4=2 from rfl,show fk 4=true from rfl];go_wp2;go_ret2;exact⟨rfl,rfl⟩
 ·go_enter func64,ntmps64;go_wp2_with fail;refine(gU _ _).mono ?_;rintro e w1 ⟨rfl,rfl⟩
  rw[show fl 2=0 from rfl,show fm 2=12 from rfl,show fk 2=true from rfl];go_wp2;go_ret2;exact⟨rfl,rfl⟩
 ·go_enter func64,ntmps64;go_wp2_with fail;refine(gU _ _).mono ?_;rintro e w1 ⟨rfl,rfl⟩
  rw[show fl 2=0 from rfl,show fm 2=12 from rfl,show fk 2=true from rfl];go_wp2;go_ret2;exact⟨rfl,rfl⟩
 ·go_enter func64,ntmps64;go_wp2_with fail;refine(gU _ _).mono ?_;rintro e w1 ⟨rfl,rfl⟩
  rw[show fl 5=0 from rfl,show fm 5=0 from rfl,show fk 5=true from rfl];go_wp2;go_ret2;exact⟨rfl,rfl⟩
 ·go_enter func64,ntmps64;go_wp2_with fail;refine(gU _ _).mono ?_;rintro e w1 ⟨rfl,rfl⟩
  rw[show fl 5=0 from rfl,show fm 5=0 from rfl,show fk 5=true from rfl];go_wp2;go_ret2;exact⟨rfl,rfl⟩
theorem vV (k f:Int)(w:World)(a:k≠1)(b:k≠2)(c:k≠3)(d:k≠4)(g:k≠5):
 Calls prog 64 #[ae k,ae f] w fun e w'=>e=.returned (.tuple #[ae 0,ae 2])/\w'=w:=by
 have i:fk k=false:=by simp[fk,a,b,c,d,g]
 go_enter func64,ntmps64;go_wp2_with fail;refine(gU _ _).mono ?_;rintro e w1 ⟨rfl,rfl⟩
 go_wp2;go_ret2;exact⟨rfl,rfl⟩
theorem l3 (k f:Int)(w:World):
 Calls prog 64 #[ae k,ae f] w fun e w'=>e=.returned (.tuple #[ae (hw k f),ae (hc k f)])/\w'=w:=by
 by_cases h:hc k f=0
 ·rw[oG k f h,h];exact vS k f w h
 ·rw[vD k f h];rcases vG k f h with e|⟨a,b,c,d,g⟩
  ·rw[vH k f e];exact vU k f w e
  ·rw[vF k f a b c d g];exact vV k f w a b c d g
theorem vW (h:Int)(w:World):
 Calls prog 145 #[ae h] w fun e w'=>e=.returned (.tuple #[ae (pk h),ae (pf h),ae (pc h)])/\w'=w:=by
 have ha:=vx h;by_cases c:hc (h%16) (h/16)=0
 ·have a:pk h=h%16:=by unfold pk;rw[aq c]
  have b:pf h=h/16:=by unfold pf;rw[aq c]
  have d:pc h=0:=by unfold pc;rw[aq c]
  rw[a,b,d];clear a b d;have t:(hc (h%16) (h/16)!=0)=false:=by simpa using c
  clear c;go_enter func145,ntmps145;go_wp2_with fail;refine(l3 _ _ _).mono ?_;rintro e w1 ⟨rfl,rfl⟩
  go_wp2_with fail
  go_ret3
  exact⟨rfl,rfl⟩
 ·have a:pk h=0:=by unfold pk;rw[ao c]
  have b:pf h=0:=by unfold pf;rw[ao c]
  have d:pc h=7:=by unfold pc;rw[ao c]
  rw[a,b,d];clear a b d;have t:(hc (h%16) (h/16)!=0)=true:=by simpa using c
  clear c;go_enter func145,ntmps145;go_wp2_with fail;refine(l3 _ _ _).mono ?_;rintro e w1 ⟨rfl,rfl⟩
  go_wp2_with fail
  go_ret3
  exact⟨rfl,rfl⟩
structure At (w:World)(p q N O y g:Nat)(ws:List Int):Prop where
 hp:w.heap[p]?=some (.cells #[.slice (ag q) (N+O) (N+O),ae 0,ae N,ae y,ae N,ae O,ae g] 103 (0,0))
 hq:w.heap[q]?=some (.cells (ws.map (Value.int .i64)).toArray 2 (0,0))
 hl:ws.length=N+O
 hN:16<=N
 hN':N<=256
 hO:O<=1024
 hy:y<=N
 hg:g<=O
structure cY (p q:Nat)(w w':World):Prop where
 os:w'.os=w.os
 tape:w'.tape=w.tape
 output:w'.output=w.output
 size:w.heap.size<=w'.heap.size
 block:∀k,k<w.heap.size->k≠p->k≠q->w'.heap[k]?=w.heap[k]?
theorem lt_of_some {w:World}{k:Nat}{o:Obj}(h:w.heap[k]?=some o):k<w.heap.size:=(Array.getElem?_eq_some_iff.1 h).1
theorem cY.refl (p q:Nat)(w:World):cY p q w w:=⟨rfl,rfl,rfl,ak _,fun _ _ _ _=>rfl⟩
theorem az {n m k:Nat}:n <= m -> m <= k -> n <= k:=Nat.le_trans
theorem av {n m k:Nat}:n < m -> m <= k -> n < k:=Nat.lt_of_lt_of_le
theorem cY.trans {p q:Nat}{a b c:World}(h:cY p q a b)(k:cY p q b c):cY p q a c:=
 ⟨k.os.trans h.os,k.tape.trans h.tape,k.output.trans h.output,az h.size k.size,fun i hi d e=>(k.block i (av hi h.size) d e).trans (h.block i hi d e)⟩
theorem cY.of {p q:Nat}{w w':World}(h:Below w.heap.size w w'):cY p q w w':=⟨h.os,h.tape,h.output,h.size,fun k hk _ _=>h.block k hk⟩
theorem cY.l4 {p q:Nat}{w:World}(o:Nat)(v:Value):cY p q w (w.setCell ⟨p,o,none⟩ v):=
 ⟨rfl,rfl,rfl,by simp[World.setCell],fun k _ a _=>Below.heap_setCell _ _ _ _ a⟩
theorem cY.oP {p q:Nat}{w:World}(o:Nat)(v:Value):cY p q w (w.setCell ⟨q,o,none⟩ v):=
 ⟨rfl,rfl,rfl,by simp[World.setCell],fun k _ _ a=>Below.heap_setCell _ _ _ _ a⟩
theorem cY.vX {p q:Nat}{w:World}(a:Array Value):cY p q w (w.setRow q a):=
 ⟨rfl,rfl,rfl,by simp[World.setRow],fun k _ _ b=>setRow_other w q k a b⟩
theorem cY.drew {p q:Nat}{a w:World}(h:cY p q a w):cY p q a w.drew:=⟨h.os,h.tape,h.output,h.size,h.block⟩
theorem cY.below {p q B:Nat}{w w':World}(h:cY p q w w')(hB:B<=w.heap.size)(hp:B<=p)(hq:B<=q):Below B w w':=
 ⟨h.os,h.tape,h.output,h.size,fun k hk=>h.block k I I I⟩
theorem At.ee {w:World}{p q N O y g:Nat}{ws:List Int}(h:At w p q N O y g ws):p<w.heap.size:=lt_of_some h.hp
theorem At.ef {w:World}{p q N O y g:Nat}{ws:List Int}(h:At w p q N O y g ws):q<w.heap.size:=lt_of_some h.hq
theorem At.ne {w:World}{p q N O y g:Nat}{ws:List Int}(h:At w p q N O y g ws):p≠q:=by intro e;have a:=h.hp;rw[e,h.hq] at a;simp at a
theorem At.same {w w':World}{p q N O y g:Nat}{ws:List Int}(h:At w p q N O y g ws)(ep:w'.heap[p]?=w.heap[p]?)(eq:w'.heap[q]?=w.heap[q]?):At w' p q N O y g ws:=
 ⟨ep.trans h.hp,eq.trans h.hq,h.hl,h.hN,h.hN',h.hO,h.hy,h.hg⟩
theorem At.below {w w':World}{p q N O y g B:Nat}{ws:List Int}(h:At w p q N O y g ws)(a:Below B w w')(hB:w.heap.size<=B):At w' p q N O y g ws:=
 h.same (a.block p (av h.ee hB)) (a.block q (av h.ef hB))
theorem At.alloc {w:World}{p q N O y g:Nat}{ws:List Int}(h:At w p q N O y g ws)(o:Obj):At (w.alloc o) p q N O y g ws:=
 h.same (Below.heap_alloc _ _ _ h.ee) (Below.heap_alloc _ _ _ h.ef)
theorem At.drew {w:World}{p q N O y g:Nat}{ws:List Int}(h:At w p q N O y g ws):At w.drew p q N O y g ws:=h.same rfl rfl
theorem At.cells {w:World}{p q N O y g:Nat}{ws:List Int}(h:At w p q N O y g ws):
 w.cell? (ah p 0)=some (.slice (ag q) (N+O) (N+O))/\w.cell? (ah p 1)=some (ae 0)/\w.cell? (ah p 2)=some (ae N)/\w.cell? (ah p 3)=some (ae y)/\
 w.cell? (ah p 4)=some (ae N)/\w.cell? (ah p 5)=some (ae O)/\w.cell? (ah p 6)=some (ae g):=by
 have hp:=h.hp;refine⟨?_,?_,?_,?_,?_,?_,?_⟩<;>simp[World.cell?,hp]
theorem At.frozen {w:World}{p q N O y g:Nat}{ws:List Int}(h:At w p q N O y g ws)(o:Nat):w.frozen? (ah p o)=false:=by have hp:=h.hp;simp[World.frozen?,hp]
theorem At.oQ {w:World}{p q N O y g:Nat}{ws:List Int}(h:At w p q N O y g ws)(o:Nat):w.frozen? (ah q o)=false:=by have hq:=h.hq;simp[World.frozen?,hq]
theorem At.word {w:World}{p q N O y g:Nat}{ws:List Int}(h:At w p q N O y g ws)(i:Nat)(hi:i<N+O):w.cell? (ah q i)=some (ae (ws.getD i 0)):=by have hq:=h.hq;have hl:=h.hl;simp[World.cell?,hq,List.getElem?_map,List.getElem?_eq_getElem (show i<ws.length by omega),List.getD_eq_getElem?_getD]
theorem aM {α:Type _}{«as»:List α}{i:Nat}{a:α}:(«as».set i a).length = «as».length:=List.length_set ..
theorem At.set {w:World}{p q N O y g:Nat}{ws:List Int}(h:At w p q N O y g ws)(i:Nat)(x:Int):At (w.setCell ⟨q,i,none⟩ (.int .i64 x)) p q N O y g (ws.set i x):=by
 refine⟨(Below.heap_setCell _ _ _ _ h.ne).trans h.hp,?_,by rw[aM];exact h.hl,h.hN,h.hN',h.hO,h.hy,h.hg⟩
 have hq:=h.hq;simp only [World.setCell,Array.getElem?_modify,if_true,hq,Option.map_some];simp[List.map_set]
theorem At.row {w:World}{p q N O y g:Nat}{ws us:List Int}(h:At w p q N O y g ws)(a:us.length=N+O):At (w.setRow q (us.map (Value.int .i64)).toArray) p q N O y g us:=
 ⟨(setRow_other w q p _ h.ne).trans h.hp,setRow_heap w q _ _ _ _ h.hq,a,h.hN,h.hN',h.hO,h.hy,h.hg⟩
theorem At.qU {w:World}{p q N O y g:Nat}{ws:List Int}(h:At w p q N O y g ws)(z:Nat)(hz:z<=N):At (w.setCell ⟨p,3,none⟩ (.int .i64 z)) p q N O z g ws:=by
 refine⟨?_,(Below.heap_setCell _ _ _ _ h.ne.symm).trans h.hq,h.hl,h.hN,h.hN',h.hO,hz,h.hg⟩
 have hp:=h.hp;simp only [World.setCell,Array.getElem?_modify,if_true,hp,Option.map_some];simp
theorem At.qV {w:World}{p q N O y g:Nat}{ws:List Int}(h:At w p q N O y g ws)(z:Nat)(hz:z<=O):At (w.setCell ⟨p,6,none⟩ (.int .i64 z)) p q N O y z ws:=by
 refine⟨?_,(Below.heap_setCell _ _ _ _ h.ne.symm).trans h.hq,h.hl,h.hN,h.hN',h.hO,h.hy,hz⟩
 have hp:=h.hp;simp only [World.setCell,Array.getElem?_modify,if_true,hp,Option.map_some];simp
structure Fr (X:Nat->Prop)(w w':World):Prop where
 os:w'.os=w.os
 tape:w'.tape=w.tape
 output:w'.output=w.output
 size:w.heap.size<=w'.heap.size
 block:∀k,k<w.heap.size->¬X k->w'.heap[k]?=w.heap[k]?
theorem Fr.refl (X:Nat->Prop)(w:World):Fr X w w:=⟨rfl,rfl,rfl,ak _,fun _ _ _=>rfl⟩
theorem Fr.trans {X Y:Nat->Prop}{a b c:World}(h:Fr X a b)(k:Fr Y b c)(hy:∀i,Y i->X i\/a.heap.size<=i):Fr X a c:=
 ⟨k.os.trans h.os,k.tape.trans h.tape,k.output.trans h.output,az h.size k.size,fun i hi d=>(k.block i (av hi h.size) (fun c=>(hy i c).elim d (fun c=>by omega))).trans (h.block i hi d)⟩
theorem Fr.mono {X Y:Nat->Prop}{w w':World}(h:Fr X w w')(hy:∀i,X i->Y i):Fr Y w w':=⟨h.os,h.tape,h.output,h.size,fun i hi a=>h.block i hi (fun c=>a (hy i c))⟩
theorem Fr.of {X:Nat->Prop}{w w':World}(h:Below w.heap.size w w'):Fr X w w':=⟨h.os,h.tape,h.output,h.size,fun k hk _=>h.block k hk⟩
theorem Fr.alloc {X:Nat->Prop}{a w:World}(h:Fr X a w)(o:Obj):Fr X a (w.alloc o):=h.trans (Fr.of (X:=X) (bK.alloc bJ _)) (fun _ c=>ap c)
theorem Fr.drew {X:Nat->Prop}{a w:World}(h:Fr X a w):Fr X a w.drew:=⟨h.os,h.tape,h.output,h.size,h.block⟩
theorem Fr.set {X:Nat->Prop}{a w:World}(h:Fr X a w)(c o:Nat)(v:Value)(hc:X c):Fr X a (w.setCell ⟨c,o,none⟩ v):=
 ⟨h.os,h.tape,h.output,by simpa[World.setCell] using h.size,fun k hk b=>(Below.heap_setCell _ _ _ _ (fun e=>b (by rw[e];exact hc))).trans (h.block k hk b)⟩
theorem Fr.grown {X:Nat->Prop}{a w w':World}{row:Option Nat}(h:Fr X a w)(g:w.grownBy w' row)(d:∀k,row=some k->X k\/a.heap.size<=k):Fr X a w':=
 ⟨g.os.trans h.os,g.tape.trans h.tape,g.output.trans h.output,az h.size g.size,fun k hk b=>(g.block k (av hk h.size) (fun e=>(d k e.symm).elim b (fun c=>by omega))).trans (h.block k hk b)⟩
theorem Fr.below {X:Nat->Prop}{w w':World}{B:Nat}(h:Fr X w w')(hB:B<=w.heap.size)(a:∀k,X k->B<=k):Below B w w':=
 ⟨h.os,h.tape,h.output,h.size,fun k hk=>h.block k I (fun c=>by have:=a k c;omega)⟩
theorem ca {w w':World}{base n m:Nat}{e:TypeId}{v:Value}{l:List Value}(h:w.ownsRow base e m v n l)(hk:∀k,some k=v.ownBlock->w'.heap[k]?=w.heap[k]?):w'.ownsRow base e m v n l:=by
 refine⟨h.1,?_⟩
 rcases h.2 with a|⟨g,b,c,rfl,d,f,rest⟩
 ·exact .inl a
 ·exact .inr ⟨g,b,c,rfl,d,(hk g rfl).trans f,rest⟩
theorem bR {w:World}{base n m:Nat}{e:TypeId}{v:Value}{l:List Value}(h:w.ownsRow base e m v n l):∀k,some k=v.ownBlock->base<=k/\k<w.heap.size:=fun k hk=>h.lt k hk.symm
theorem fQ {X:Nat->Prop}{w w':World}{base n m:Nat}{e:TypeId}{v:Value}{l:List Value}(h:w.ownsRow base e m v n l)(f:Fr X w w')(a:∀k,some k=v.ownBlock->¬X k):w'.ownsRow base e m v n l:=
 ca h (fun k hk=>f.block k (bR h k hk).2 (a k hk))
theorem d5 {w:World}{base base' n m:Nat}{e:TypeId}{v:Value}{l:List Value}(h:w.ownsRow base e m v n l)(a:∀k,some k=v.ownBlock->base'<=k):w.ownsRow base' e m v n l:=by
 refine⟨h.1,?_⟩
 rcases h.2 with b|⟨g,c,d,rfl,_,rest⟩
 ·exact .inl b
 ·exact .inr ⟨g,c,d,rfl,a g rfl,rest⟩
theorem dO {w:World}{base n m:Nat}{e:TypeId}{v:Value}{l:List Value}(h:w.ownsRow base e m v n l):∀k,some k=v.ownBlock->∃a,w.heap[k]?=some (.cells a e (0,0)):=by
 intro k hk;rcases h.2 with⟨rfl,_⟩|⟨g,c,a,rfl,_,b,_⟩
 ·simp[Value.ownBlock] at hk
 ·simp[Value.ownBlock] at hk;subst hk;exact⟨a,b⟩
theorem dP {w:World}{base n m:Nat}{e:TypeId}{v:Value}{l:List Value}(h:w.ownsRow base e m v n l)(d:0<n):∃b a,v=.slice (ag b) n a:=by
 rcases h.2 with⟨_,h0⟩|⟨g,a,f,c,_⟩
 ·omega
 ·exact⟨g,a,c⟩
theorem dG {w:World}{base n m:Nat}{e:TypeId}{v:Value}{l:List Value}(h:w.ownsRow base e m v n l):∃c a,v=.slice c n a:=by
 rcases h.2 with⟨b,h0⟩|⟨g,a,d,b,_⟩
 ·exact⟨none,0,by rw[b,h0]⟩
 ·exact⟨_,a,b⟩
def fZ (w:World)(a:Option Addr)(l:List Int):Prop:=0<l.length->∃b o,a=some ⟨b,o,none⟩/\b<w.heap.size/\∀i,i<l.length->w.cell? (ah b (o+i))=some (ae (l.getD i 0))
def cS (w:World)(a:Option Addr)(l:List (Int×Int)):Prop:=
 0<l.length->∃b o,a=some ⟨b,o,none⟩/\b<w.heap.size/\∀i,i<l.length->w.cell? (ah b (o+i*2))=some (ae (l.getD i (0,0)).1)/\w.cell? (ah b (o+i*2+1))=some (ae (l.getD i (0,0)).2)
def ev (l:List (Int×Int)):List Value:=l.flatMap fun e=>[ae e.1,ae e.2]
theorem kn (a b:List (Int×Int)):ev (a++b)=ev a++ev b:=by simp[ev]
theorem kq:∀l:List (Int×Int),(ev l).length=l.length*2
 |[]=>rfl
 |e::r=>by
  have:=kq r;simp[ev] at this⊢
  omega
theorem l5:∀(l:List (Int×Int))(i:Nat),i<l.length->(ev l)[i*2]?=some (ae (l.getD i (0,0)).1)/\(ev l)[i*2+1]?=some (ae (l.getD i (0,0)).2)
 |[],i,h=>by simp at h
 |e::r,0,_=>by simp[ev]
 |e::r,i+1,h=>by
  have a:=l5 r i (by simpa using h)
  have b:(ev (e::r))=ae e.1::ae e.2::ev r:=by simp[ev]
  rw[b,show(i+1)*2=i*2+1+1 by omega];simpa using a
theorem ga {w:World}{base:Nat}{e:TypeId}{a:Option Addr}{f:Nat}{l:List Int}(h:w.ownsRow base e 1 (.slice a l.length f) l.length (l.map (Value.int .i64))):fZ w a l:=by
 intro hp;rcases h.2 with⟨_,h0⟩|⟨g,m,j,b,n,c,o,p,q,k⟩
 ·omega
 ·simp at b;obtain⟨rfl,rfl⟩:=b;refine⟨g,0,rfl,lt_of_some c,fun i hi=>?_⟩
  have d:(j.toList.take (l.length*1))[i]?=some (ae (l.getD i 0)):=by rw[k];simp[List.getElem?_map,List.getElem?_eq_getElem hi]
  rw[List.getElem?_take_of_lt I] at d;simp[World.cell?,c];simpa using d
theorem fR {w:World}{base:Nat}{e:TypeId}{b:Option Addr}{f:Nat}{l:List (Int×Int)}(h:w.ownsRow base e 2 (.slice b l.length f) l.length (ev l)):cS w b l:=by
 intro hp;rcases h.2 with⟨_,h0⟩|⟨g,k,m,c,n,a,o,p,q,j⟩
 ·omega
 ·simp at c;obtain⟨rfl,rfl⟩:=c;refine⟨g,0,rfl,lt_of_some a,fun i hi=>?_⟩
  obtain⟨k1,d⟩:=l5 l i hi;rw[<-j,List.getElem?_take_of_lt I] at k1 d;constructor
  ·simp[World.cell?,a];simpa using k1
  ·simp[World.cell?,a];simpa using d
theorem aD {w w':World}{a:Addr}(h:w'.heap[a.block]? = w.heap[a.block]?):w'.cell? a = w.cell? a:=by intros;apply World.cell?_of_block<;>assumption
theorem fZ.keep {w w':World}{c:Option Addr}{l:List Int}(h:fZ w c l)(hs:w.heap.size<=w'.heap.size)(hk:0<l.length->∀a,c=some a->w'.heap[a.block]?=w.heap[a.block]?):fZ w' c l:=by intro hp;obtain⟨b,o,rfl,d,hc⟩:=h hp;exact⟨b,o,rfl,I,fun i hi=>(aD (a:=⟨b,o+i,none⟩) (hk hp ⟨b,o,none⟩ rfl)).trans (hc i hi)⟩
theorem cS.keep {w w':World}{c:Option Addr}{l:List (Int×Int)}(h:cS w c l)(hs:w.heap.size<=w'.heap.size)(hk:0<l.length->∀a,c=some a->w'.heap[a.block]?=w.heap[a.block]?):cS w' c l:=by intro hp;obtain⟨b,o,rfl,d,hc⟩:=h hp;exact⟨b,o,rfl,I,fun i hi=>⟨(aD (a:=⟨b,o+i*2,none⟩) (hk hp ⟨b,o,none⟩ rfl)).trans (hc i hi).1,(aD (a:=⟨b,o+i*2+1,none⟩) (hk hp ⟨b,o,none⟩ rfl)).trans (hc i hi).2⟩⟩
open Go.RowKit W Kp
theorem qW:(prog.info? 2).map (fun i=>(i.zero,i.size,i.bytes))=some (some (ae 0),1,8):=ab
end Go.Proofs.YtjpjpjemibgjpaaGreat
