import Derived.Test.YtjckpdepffejnaaGreatDoorJ00
import Derived.Below
import Derived.Test.YtjckpdepffejnaaGreatDoorChecked
import Derived.WalkKit
import Derived.WalkSpells
import Derived.Deep.QuietTactic
import Derived.BigQuiet
import Derived.WalkSmall
import Derived.Laws.CopyOwn
import Derived.Maps.AppendAt
import Derived.Deep.RegionHeld3
import Derived.ArgAppend
import Derived.Deep.RegionLawGrows
import Derived.Deep.Slices
import Derived.Lib.SmallJoins
import Derived.OpenShut
import Derived.Deep.RegionWith
open Array renaming getElem?_modify->bE,size->I
open Bool renaming false->O4,true->C
open Go renaming Addr->bB,Calls->M,TypeId->bI,Value->a7,info_parts->bM,maxLen->bL,wpList_append_own_at->bO
open Go.Ending renaming returned->Q
open Go.IntKind renaming i64->OW
open Go.Obj renaming cells->OX
open Go.Proofs.Tryz renaming prog->J
open Go.RowKit renaming Below->O7
open Go.Value renaming agg->bz,bool->bA,int->U,ownBlock->A,pointer->bq,slice->Z,tuple->ay
open Go.World renaming alloc->bu,cell?->V,frozen?->bF,heap->G,ownsRow->aC,setCell->P
open Int renaming eq_ofNat_of_zero_le->bC,toNat->K
open List renaming getD->X,getElem?_take_of_lt->rq,length->L,replicate->aZ
open Nat renaming le_refl->OD,succ_pos->jw
open Option renaming map_some->bH,none->O0,some->OR
namespace Go.Proofs.YtjckpdepffejnaaGreatDoor
theorem ae{P:Prop}(h:P:=by decide):P:=h
theorem ah{P:Prop}(h:P:=by kernel_rfl):P:=h
theorem aj{P:Prop}(h:P:=by go_num):P:=h
set_option maxRecDepth 100000
set_option maxHeartbeats 1000000
open Tryz
open Go.RowKit
abbrev ak(n:Int):Value:=U OW n
abbrev av(b n:Nat):Addr:=⟨b,n,O0⟩
abbrev au(b:Nat):Option Addr:=OR ⟨b,0,O0⟩
abbrev aq(b:Nat):Value:=bq (OR ⟨b,0,O0⟩)
theorem bY{n:Nat}:n<=n:=OD n
abbrev az:=World
theorem bZ{B:Nat}{w:az}:O7 B w w:=Below.refl B w
theorem ll {P:Prop}(h:P:=by go_wp2;go_ret;exact⟨rfl,bZ.alloc bY _⟩):P:=h
theorem xZ {P:Prop}(h:P:=by
 obtain⟨h1,h2⟩:=h;rcases h2 with⟨e,_⟩|⟨k',cap,cur,hv,hb,hh,h3,h4,h5,h6⟩
 ·cases e
 ·cases hv;rw[hh];have:cur.toList=(List.replicate n (0:Int)).map (Value.int .i64):=by rw[<-List.take_of_length_le (l:=cur.toList) (i:=n*1) (by simp;omega),h6];show(madeCells #[Value.int .i64 0] (n*1)).toList=_;rw[toList_madeCells_one];simp
  rw[<-this]):P:=h
theorem a3 {P:Go.Program}{fn:Go.Func}{R:Go.Ending -> az -> Prop}{a:Go.Act}{w:az}{v:a7}(hr:Go.Sem.run P (Go.results fn a.tmps) w = Go.Result.ok v w)(hd:a.defers = [])(hR:R (Q v) w):Go.bodyPost P fn R Go.Exit.ret a w:=by intros;apply bodyPost_ret<;>assumption
theorem uq {P:Prop}(h:P:=by go_wp2_with fail;exact a3 (v:=.tuple #[.pointer none,.agg #[ak 1,ak (-1)]]) (by simp[results,results152,go_sem]) rfl ⟨rfl,bZ.alloc bY _⟩):P:=h
theorem ur {P:Prop}(h:P:=by
 go_enter func170,ntmps170;go_wp2_with fail;refine(x0 x _).mono ?_;rintro e w1 ⟨rfl,hb⟩
 go_wp2_with fail;go_ret2;exact⟨rfl,hb.alloc hb.size _⟩):P:=h
theorem qi {P:Prop}(h:P:=by
 go_enter func294,ntmps294;go_wp2
 go_ret3
 exact⟨rfl,rfl⟩):P:=h
theorem x1 {P:Prop}(h:P:=by
 go_wp2_with fail;refine(lq _ _).mono ?_;rintro e w1 ⟨rfl,rfl⟩
 rw[show fl 2=0 from rfl,show fm 2=12 from rfl,show fk 2=true from rfl];go_wp2;go_ret2;exact⟨rfl,rfl⟩):P:=h
theorem x2 {P:Prop}(h:P:=by
 go_enter func226,ntmps226;go_wp2_with (go_at_call 292;refine(Eb _ _ _).mono ?_;rintro e w' ⟨rfl,rfl⟩)
 go_ret;exact⟨rfl,bZ.alloc bY _⟩):P:=h
theorem x3 {P:Prop}(h:P:=by
 go_wp2_with fail;refine(lq _ _).mono ?_;rintro e w1 ⟨rfl,rfl⟩
 rw[show fl 5=0 from rfl,show fm 5=0 from rfl,show fk 5=true from rfl];go_wp2;go_ret2;exact⟨rfl,rfl⟩):P:=h
theorem x4 {P:Prop}(h:P:=by
 go_wp2_with fail;refine(lq _ _).mono ?_;rintro e w1 ⟨rfl,rfl⟩
 rw[show fl 4=2 from rfl,show fm 4=2 from rfl,show fk 4=true from rfl];go_wp2;go_ret2;exact⟨rfl,rfl⟩):P:=h
theorem x5 {P:Prop}(h:P:=by
 go_wp2_with fail;refine(lq _ _).mono ?_;rintro e w1 ⟨rfl,rfl⟩
 rw[show fl 3=2 from rfl,show fm 3=2 from rfl,show fk 3=true from rfl];go_wp2;go_ret2;exact⟨rfl,rfl⟩):P:=h
theorem x6 {P:Prop}(h:P:=by
 go_wp2_with fail;refine(lq _ _).mono ?_;rintro e w1 ⟨rfl,rfl⟩
 rw[show fl 1=2 from rfl,show fm 1=2 from rfl,show fk 1=true from rfl];go_wp2;go_ret2;exact⟨rfl,rfl⟩):P:=h
theorem ut {P:Prop}(h:P:=by
 go_wp2
 go_quiet (fail)
 go_wp2;go_ret2;exact⟨rfl,below_drewN bZ _⟩):P:=h
theorem rM {P:Prop}(h:P:=by go_wp2;go_ret2;exact⟨uu (by decide+kernel),rfl⟩):P:=h
theorem x7 {P:Prop}(h:P:=by
 go_enter func291,ntmps291;go_wp2_with fail;refine(qj _ _ _).mono ?_;rintro e w1 ⟨rfl,rfl⟩
 go_wp2
 go_ret3
 exact⟨rfl,rfl⟩):P:=h
theorem rN {P:Prop}(h:P:=by
 rintro e w1 ⟨rfl,hb1⟩
 go_wp2;go_ret;exact⟨rfl,hb1⟩):P:=h
theorem uv {P:Prop}(h:P:=by go_enter func310,ntmps310;go_wp2;go_ret;exact⟨rfl,rfl⟩):P:=h
theorem uw {P:Prop}(h:P:=by go_enter func225,ntmps225;go_wp2;go_ret;exact⟨rfl,rfl⟩):P:=h
abbrev aA(p:Prop):Prop:=Hid p
theorem aA.o{p:Prop}(h:aA p):p:=h
theorem cg {p:Prop}(h:p):aA p:=h
theorem cU {p q:Prop}(a:p)(b:q):aA (p/\q):=⟨a,b⟩
theorem ge {p q r:Prop}(a:p)(b:q)(c:r):aA (p/\q/\r):=⟨a,b,c⟩
theorem jm {p q r s:Prop}(a:p)(b:q)(c:r)(d:s):aA (p/\q/\r/\s):=⟨a,b,c,d⟩
theorem qk {p q r s t:Prop}(a:p)(b:q)(c:r)(d:s)(e:t):aA (p/\q/\r/\s/\t):=⟨a,b,c,d,e⟩
theorem ql {p q r s t u:Prop}(a:p)(b:q)(c:r)(d:s)(e:t)(f:u):aA (p/\q/\r/\s/\t/\u):=⟨a,b,c,d,e,f⟩
theorem Ec {p q r s t u v:Prop}(a:p)(b:q)(c:r)(d:s)(e:t)(f:u)(g:v):aA (p/\q/\r/\s/\t/\u/\v):=⟨a,b,c,d,e,f,g⟩
open Go.RowKit W
theorem Eb (n low:Int)(w:az):
 M J 292 #[ak n,ak low] w λe w'=>e=Q (ak (rc n low))/\w'=w:=by
 by_cases c1:n<low
 ·have e:rc n low=1:=by unfold rc;rw[aN c1]
  rw[e];go_enter func292,ntmps292;go_wp2;go_ret;exact⟨rfl,rfl⟩
 ·by_cases c2:1152921504606846976<=n
  ·have e:rc n low=1:=by unfold rc;rw[aJ c1,aN c2]
   rw[e];go_enter func292,ntmps292;go_wp2;go_ret;exact⟨rfl,rfl⟩
  ·have e:rc n low=0:=by unfold rc;rw[aJ c1,aJ c2]
   rw[e];go_wp2;go_ret;exact⟨rfl,rfl⟩
theorem Ed (k:Int)(w:az):
 M J 310 #[ak k] w λe w'=>e=Q (ak (tg k))/\w'=w:=by
 by_cases c1:k=1
 ·subst c1;exact uv
 ·by_cases c3:k=3
  ·subst c3;exact uv
  ·by_cases c0:k=0
   ·subst c0;exact uv
   ·have e:tg k=3:=by unfold tg;rw[aJ c1,aJ c3,aJ c0]
    rw[e];go_wp2;go_ret;exact⟨rfl,rfl⟩
theorem x8 (t:Int)(w:az):
 M J 225 #[ak t] w λe w'=>e=Q (ak (jk t))/\w'=w:=by
 by_cases c1:t=0
 ·subst c1;exact uw
 ·by_cases c3:t=1
  ·subst c3;exact uw
  ·by_cases c0:t=2
   ·subst c0;exact uw
   ·have e:jk t=2:=by unfold jk;rw[aJ c1,aJ c3,aJ c0]
    rw[e];go_wp2;go_ret;exact⟨rfl,rfl⟩
theorem Ee (n:Int):vc 0 n=if n=0 then 0 else 7:=by simp[vc]
theorem Ef (n:Int):vc 2 n=if n=0 then 0 else 7:=by simp[vc]
theorem Eg (n:Int):vc 1 n=rc n (-1152921504606846976):=by simp[vc]
theorem ux (n:Int):vc 3 n=rc n 0:=by simp[vc]
theorem rO (k n:Int)(w:az):
 M J 226 #[bz #[ak k,ak n]] w λe w'=>e=Q (ak (vc k n))/\O7 (I (G w)) w w':=by
 by_cases c0:k=0
 ·subst c0;rw[Ee];by_cases c:n=0
  ·subst c;go_enter func226,ntmps226;exact ll
  ·rw[aJ c];go_enter func226,ntmps226;exact ll
 ·by_cases c2:k=2
  ·subst c2;rw[Ef];by_cases c:n=0
   ·subst c;go_enter func226,ntmps226;exact ll
   ·rw[aJ c];go_enter func226,ntmps226;exact ll
  ·by_cases c1:k=1
   ·subst c1;rw[Eg];exact x2
   ·by_cases c3:k=3
    ·subst c3;rw[ux];exact x2
    ·have e:vc k n=2:=by unfold vc;rw[aJ c0,aJ c2,aJ c1,aJ c3]
     rw[e];go_enter func226,ntmps226;exact ll
theorem uy {B:Nat}{W w1:az}(hb:O7 B W w1):(∀b o,b<B->V w1 (av b o)=V W (av b o))/\(∀b o,b<B->bF w1 (av b o)=bF W (av b o)):=
 ⟨λb o h=>hb.cell (p:=av b o) h,λb o h=>hb.frozen (p:=av b o) h⟩
theorem x9 {w w1:az}{a b c d:a7}{s t:bI}(hb:O7 (I (G (bu (bu w (OX #[a,b] s)) (OX #[c,d] t)))) (bu (bu w (OX #[a,b] s)) (OX #[c,d] t)) w1):
 V w1 (av (I (G w)) 0)=OR a/\V w1 (av (I (G w)) 1)=OR b/\V w1 (av (I (G w)+1) 0)=OR c/\V w1 (av (I (G w)+1) 1)=OR d/\bF w1 (av (I (G w)) 0)=O4/\bF w1 (av (I (G w)) 1)=O4/\I (G w)+2<=I (G w1):=by
 obtain⟨hc,e⟩:=uy hb;refine⟨?_,?_,?_,?_,?_,?_,by simpa using hb.size⟩
 ·rw[hc _ _ (by simp;omega)];simp[go_sem]
 ·rw[hc _ _ (by simp;omega)];simp[go_sem]
 ·rw[hc _ _ ac];simp[go_sem]
 ·rw[hc _ _ ac];simp[go_sem]
 ·rw[e _ _ (by simp;omega)];simp[go_sem]
 ·rw[e _ _ (by simp;omega)];simp[go_sem]
theorem uu {a b:Int}{c:a7}(h:a=b):Ending.returned (ay #[ak a,c])=Q (ay #[ak b,c]):=by rw[h]
theorem x_ (k n:Int)(w:az):
 M J 277 #[bz #[ak k,ak n]] w λe w'=>e=Q (ay #[ak (ew k n),ak (vc k n)])/\O7 (I (G w)) w w':=by
 by_cases h:vc k n=0
 ·rw[uk k n h];have hn:=xU k n h;have H:=cg h;rw[H.o];go_enter func277,ntmps277;go_wp2_with fail;refine(rO k n _).mono ?_;rintro e w1 ⟨rfl,hb⟩
  rw[H.o];obtain⟨hc,b⟩:=uy hb;go_wp2
  go_quiet ((go_at_call 310;exact Calls.quiet_of_same (Ed _ _)))
  go_wp2;go_ret2;exact⟨uu (cg (DX k n hn.1 hn.2)).o,below_drewN ((bZ.alloc bY _).trans (hb.mono ac)) _⟩
 ·rw[D0 k n h];go_enter func277,ntmps277;go_wp2_with fail;refine(rO k n _).mono ?_;rintro e w1 ⟨rfl,hb⟩
  go_wp2;go_ret2;exact⟨rfl,(bZ.alloc bY _).trans (hb.mono ac)⟩
theorem x0 (x:Int)(w:az):
 M J 161 #[ak x] w λe w'=>e=Q (ay #[bz #[ak (dk x),ak (dp x)],ak (dc x)])/\O7 (I (G w)) w w':=by
 have g:=DS x;by_cases h:dc x=0
 ·have b:dk x=jk (x%4):=by unfold dk;rw[aN h]
  have c:dp x=x/4:=by unfold dp;rw[aN h]
  have H:aA (vc (jk (x%4)) (x/4)=0):=h;rw[h,b,c];clear h b c;go_enter func161,ntmps161;go_wp2_with fail;refine(x8 _ _).mono ?_;rintro e w' ⟨rfl,rfl⟩
  go_wp2_with fail;refine(rO (jk (x%4)) (x/4) _).mono ?_;rintro e w1 ⟨rfl,hb⟩
  rw[H.o];obtain⟨c0,c1,c2,c3,d,f,hz⟩:=x9 hb;go_wp2_with fail;exact a3 (v:=ay #[bz #[ak (jk (x%4)),ak (x/4)],ak 0]) (by simp[results,results161,go_sem,c0,c1]) rfl ⟨rfl,((((bZ.alloc bY _).alloc ac _).trans (hb.mono (by simp;omega))).setCell bY _).setCell bY _⟩
 ·have b:dk x=0:=by unfold dk;rw[aJ h]
  have c:dp x=0:=by unfold dp;rw[aJ h]
  rw[b,c];have hn:(vc (jk (x%4)) (x/4)!=0)=C:=by simpa[dc] using h
  have E:aA (dc x=vc (jk (x%4)) (x/4)):=rfl;rw[E.o];clear h b c;go_enter func161,ntmps161;go_wp2_with fail;refine(x8 _ _).mono ?_;rintro e w' ⟨rfl,rfl⟩
  go_wp2_with fail;refine(rO (jk (x%4)) (x/4) _).mono ?_;rintro e w1 ⟨rfl,hb⟩
  obtain⟨c0,c1,c2,c3,d,f,hz⟩:=x9 hb;go_wp2_with fail;exact a3 (v:=ay #[bz #[ak 0,ak 0],ak (vc (jk (x%4)) (x/4))]) (by simp[results,results161,go_sem,c0,c1]) rfl ⟨rfl,((((bZ.alloc bY _).alloc ac _).trans (hb.mono (by simp;omega))).setCell bY _).setCell bY _⟩
theorem uz (w:az):M J 156 #[] w λe w'=>e=Q (ak 2)/\w'=w:=by go_wp2;go_ret;exact⟨rfl,rfl⟩
theorem o7 (w:az):M J 257 #[] w λe w'=>e=Q (ak 3)/\w'=w:=by go_wp2;go_ret;exact⟨rfl,rfl⟩
theorem uA (n:Int)(w:az):
 M J 280 #[ak n] w λe w'=>e=Q (ak (ew 3 n))/\O7 (I (G w)) w w':=by
 go_enter func280,ntmps280;go_wp2_with fail;refine(x_ 3 n _).mono ?_;rintro e w1 ⟨rfl,hb⟩
 go_wp2_with fail;go_ret;exact⟨rfl,hb⟩
theorem o8 (x:Int)(w:az):
 M J 170 #[ak x] w λe w'=>e=Q (ay #[ak (cq x),bA (di x)])/\O7 (I (G w)) w w':=by
 by_cases h0:dc x=0
 ·have t0:(dc x !=0)=O4:=by simpa using h0
  by_cases c:dk x=3
  ·have b:di x=C:=by unfold di;rw[h0,c];rfl
   rw[oZ x b,b];have t3:(dk x !=3)=O4:=by simpa using c
   exact ur
  ·have b:di x=O4:=by unfold di;rw[beq_eq_false_iff_ne.2 c];simp
   rw[xV x b,b];exact ur
 ·have b:di x=O4:=by unfold di;rw[beq_eq_false_iff_ne.2 h0];simp
  rw[xV x b,b];exact ur
theorem lq (k:Int)(w:az):
 M J 294 #[ak k] w λe w'=>e=Q (ay #[ak (fl k),ak (fm k),bA (fk k)])/\w'=w:=by
 by_cases c1:k=1
 ·subst c1;exact qi
 by_cases c2:k=2
 ·subst c2;exact qi
 by_cases c3:k=3
 ·subst c3;exact qi
 by_cases b:k=4
 ·subst b;exact qi
 by_cases c:k=5
 ·subst c;exact qi
 have d:fl k=0:=by simp[fl,c1,c3,b]
 have f:fm k=0:=by simp[fm,c1,c2,c3,b]
 have g:fk k=O4:=by simp[fk,c1,c2,c3,b,c]
 rw[d,f,g];go_wp2
 go_ret3
 exact⟨rfl,rfl⟩
theorem Eh (k f:Int)(w:az)(h:hc k f=0):
 M J 228 #[ak k,ak f] w λe w'=>e=Q (ay #[ak (16*f+k),ak 0])/\w'=w:=by
 rcases qf k f h with⟨rfl,rfl⟩|⟨rfl,rfl⟩|⟨rfl,rfl⟩|⟨rfl,b,c⟩|⟨rfl,rfl⟩
 ·go_enter func228,ntmps228;go_wp2_with fail;refine(lq _ _).mono ?_;rintro e w1 ⟨rfl,rfl⟩
  rw[show fl 1=2 from rfl,show fm 1=2 from rfl,show fk 1=C from rfl];exact rM
 ·go_enter func228,ntmps228;go_wp2_with fail;refine(lq _ _).mono ?_;rintro e w1 ⟨rfl,rfl⟩
  rw[show fl 3=2 from rfl,show fm 3=2 from rfl,show fk 3=C from rfl];exact rM
 ·go_enter func228,ntmps228;go_wp2_with fail;refine(lq _ _).mono ?_;rintro e w1 ⟨rfl,rfl⟩
  rw[show fl 4=2 from rfl,show fm 4=2 from rfl,show fk 4=C from rfl];exact rM
 ·have E:=cg (DY 2 f h)
  go_enter func228,ntmps228;go_wp2_with fail;refine(lq _ _).mono ?_;rintro e w1 ⟨rfl,rfl⟩
  rw[show fl 2=0 from rfl,show fm 2=12 from rfl,show fk 2=C from rfl];go_wp2;go_ret2;exact⟨uu E.o,rfl⟩
 ·go_enter func228,ntmps228;go_wp2_with fail;refine(lq _ _).mono ?_;rintro e w1 ⟨rfl,rfl⟩
  rw[show fl 5=0 from rfl,show fm 5=0 from rfl,show fk 5=C from rfl];exact rM
theorem Ei (k f:Int)(w:az)(h:(k=1/\f<2)\/(k=1/\2<f)\/(k=3/\f<2)\/(k=3/\2<f)\/(k=4/\f<2)\/(k=4/\2<f)\/(k=2/\f<0)\/(k=2/\12<f)\/(k=5/\f<0)\/(k=5/\0<f)):
 M J 228 #[ak k,ak f] w λe w'=>e=Q (ay #[ak 0,ak 1])/\w'=w:=by
 rcases h with⟨rfl,h⟩|⟨rfl,h⟩|⟨rfl,h⟩|⟨rfl,h⟩|⟨rfl,h⟩|⟨rfl,h⟩|⟨rfl,h⟩|⟨rfl,h⟩|⟨rfl,h⟩|⟨rfl,h⟩
 ·go_enter func228,ntmps228;exact x6
 ·go_enter func228,ntmps228;exact x6
 ·go_enter func228,ntmps228;exact x5
 ·go_enter func228,ntmps228;exact x5
 ·go_enter func228,ntmps228;exact x4
 ·go_enter func228,ntmps228;exact x4
 ·go_enter func228,ntmps228;exact x1
 ·go_enter func228,ntmps228;exact x1
 ·go_enter func228,ntmps228;exact x3
 ·go_enter func228,ntmps228;exact x3
theorem Ej (k f:Int)(w:az)(b:k≠1)(c:k≠2)(d:k≠3)(g:k≠4)(i:k≠5):
 M J 228 #[ak k,ak f] w λe w'=>e=Q (ay #[ak 0,ak 2])/\w'=w:=by
 have j:fk k=O4:=by simp[fk,b,c,d,g,i]
 go_enter func228,ntmps228;go_wp2_with fail;refine(lq _ _).mono ?_;rintro e w1 ⟨rfl,rfl⟩
 go_wp2;go_ret2;exact⟨rfl,rfl⟩
theorem qj (k f:Int)(w:az):
 M J 228 #[ak k,ak f] w λe w'=>e=Q (ay #[ak (hw k f),ak (hc k f)])/\w'=w:=by
 by_cases h:hc k f=0
 ·rw[uj k f h,h];exact Eh k f w h
 ·rw[DZ k f h];rcases D2 k f h with e|⟨b,c,d,g,i⟩
  ·rw[D3 k f e];exact Ei k f w e
  ·rw[D1 k f b c d g i];exact Ej k f w b c d g i
theorem Ek (h:Int)(w:az):
 M J 291 #[ak h] w λe w'=>e=Q (ay #[ak (pk h),ak (pf h),ak (pc h)])/\w'=w:=by
 have ha:=DT h;by_cases c:hc (h%16) (h/16)=0
 ·have b:pk h=h%16:=by unfold pk;rw[aN c]
  have d:pf h=h/16:=by unfold pf;rw[aN c]
  have f:pc h=0:=by unfold pc;rw[aN c]
  rw[b,d,f];clear b d f;have t:(hc (h%16) (h/16)!=0)=O4:=by simpa using c
  clear c;exact x7
 ·have b:pk h=0:=by unfold pk;rw[aJ c]
  have d:pf h=0:=by unfold pf;rw[aJ c]
  have f:pc h=7:=by unfold pc;rw[aJ c]
  rw[b,d,f];exact x7
structure At (w:az)(p q N O y g:Nat)(ws:List Int):Prop where
 hp:w.heap[p]?=OR (OX #[Z (au q) (N+O) (N+O),ak 0,ak N,ak y,ak N,ak O,ak g] 164 (0,0))
 hq:w.heap[q]?=OR (OX (ws.map (Value.int OW)).toArray 2 (0,0))
 hl:L ws=N+O
 hN:16<=N
 hN':N<=256
 hO:O<=1024
 hy:y<=N
 hg:g<=O
structure dl (p q:Nat)(w w':az):Prop where
 os:w'.os=w.os
 tape:w'.tape=w.tape
 output:w'.output=w.output
 size:I (G w)<=I (G w')
 block:∀k,k<I (G w)->k≠p->k≠q->w'.heap[k]?=w.heap[k]?
theorem cj {w:az}{k:Nat}{o:Obj}(h:w.heap[k]?=OR o):k<I (G w):=(Array.getElem?_eq_some_iff.1 h).1
theorem aG (n:Nat):n <= n:=OD ..
theorem dl.refl (p q:Nat)(w:az):dl p q w w:=⟨rfl,rfl,rfl,aG _,λ_ _ _ _=>rfl⟩
theorem aQ {n m k:Nat}:n <= m -> m <= k -> n <= k:=Nat.le_trans
theorem aL {n m k:Nat}:n < m -> m <= k -> n < k:=Nat.lt_of_lt_of_le
theorem dl.trans {p q:Nat}{a b c:az}(h:dl p q a b)(k:dl p q b c):dl p q a c:=
 ⟨k.os.trans h.os,k.tape.trans h.tape,k.output.trans h.output,aQ h.size k.size,λi hi d e=>(k.block i (aL hi h.size) d e).trans (by grind [block])⟩
theorem dl.of {p q:Nat}{w w':az}(h:O7 (I (G w)) w w'):dl p q w w':=⟨h.os,h.tape,h.output,h.size,λk hk _ _=>h.block k hk⟩
theorem aW (w:az)(a:bB)(u:a7)(k:Nat)(h:k ≠ a.block):(w.setCell a u).heap[k]? = w.heap[k]?:=by intros;apply Below.heap_setCell<;>assumption
theorem dl.qm {p q:Nat}{w:az}(o:Nat)(v:a7):dl p q w (P w ⟨p,o,O0⟩ v):=
 ⟨rfl,rfl,rfl,by simp_all,λk _ b _=>aW _ _ _ _ b⟩
theorem dl.uB {p q:Nat}{w:az}(o:Nat)(v:a7):dl p q w (P w ⟨q,o,O0⟩ v):=
 ⟨rfl,rfl,rfl,by simp_all,λk _ _ b=>aW _ _ _ _ b⟩
theorem dl.El {p q:Nat}{w:az}(b:Array a7):dl p q w (w.setRow q b):=
 ⟨rfl,rfl,rfl,by simp_all,λk _ _ c=>setRow_other w q k b c⟩
theorem dl.drew {p q:Nat}{a w:az}(h:dl p q a w):dl p q a w.drew:=⟨h.os,h.tape,h.output,h.size,h.block⟩
theorem dl.below {p q B:Nat}{w w':az}(h:dl p q w w')(hB:B<=I (G w))(hp:B<=p)(hq:B<=q):O7 B w w':=
 ⟨h.os,h.tape,h.output,h.size,λk hk=>h.block k aa aa aa⟩
theorem At.fw {w:az}{p q N O y g:Nat}{ws:List Int}(h:At w p q N O y g ws):p<I (G w):=cj h.hp
theorem At.fz {w:az}{p q N O y g:Nat}{ws:List Int}(h:At w p q N O y g ws):q<I (G w):=cj h.hq
theorem At.ne {w:az}{p q N O y g:Nat}{ws:List Int}(h:At w p q N O y g ws):p≠q:=by
 intro e;have b:=h.hp;rw[e,h.hq] at b
 grind
theorem At.same {w w':az}{p q N O y g:Nat}{ws:List Int}(h:At w p q N O y g ws)(ep:w'.heap[p]?=w.heap[p]?)(eq:w'.heap[q]?=w.heap[q]?):At w' p q N O y g ws:=
 ⟨ep.trans h.hp,eq.trans h.hq,h.hl,h.hN,h.hN',h.hO,h.hy,h.hg⟩
theorem At.below {w w':az}{p q N O y g B:Nat}{ws:List Int}(h:At w p q N O y g ws)(hb:O7 B w w')(hB:I (G w)<=B):At w' p q N O y g ws:=
 (by grind [same,fw,fz,Below.block])
theorem aU (w:az)(o:Obj)(k:Nat)(h:k < I (G w)):(w.alloc o).heap[k]? = w.heap[k]?:=by intros;apply Below.heap_alloc<;>assumption
theorem At.alloc {w:az}{p q N O y g:Nat}{ws:List Int}(h:At w p q N O y g ws)(o:Obj):At (w.alloc o) p q N O y g ws:=
 (by grind [same,fw,fz,aU])
theorem At.drew {w:az}{p q N O y g:Nat}{ws:List Int}(h:At w p q N O y g ws):At w.drew p q N O y g ws:=h.same rfl rfl
theorem At.cells {w:az}{p q N O y g:Nat}{ws:List Int}(h:At w p q N O y g ws):
 V w (av p 0)=OR (Z (au q) (N+O) (N+O))/\V w (av p 1)=OR (ak 0)/\V w (av p 2)=OR (ak N)/\V w (av p 3)=OR (ak y)/\
 V w (av p 4)=OR (ak N)/\V w (av p 5)=OR (ak O)/\V w (av p 6)=OR (ak g):=by
 refine⟨?_,?_,?_,?_,?_,?_,?_⟩<;>simp[World.cell?,h.hp]
theorem At.frozen {w:az}{p q N O y g:Nat}{ws:List Int}(h:At w p q N O y g ws)(o:Nat):bF w (av p o)=O4:=by simp[World.frozen?,h.hp]
theorem At.uC {w:az}{p q N O y g:Nat}{ws:List Int}(h:At w p q N O y g ws)(o:Nat):bF w (av q o)=O4:=by simp[World.frozen?,h.hq]
theorem At.word {w:az}{p q N O y g:Nat}{ws:List Int}(h:At w p q N O y g ws)(i:Nat)(hi:i<N+O):V w (av q i)=OR (ak (X ws i 0)):=by have hl:=h.hl;simp[World.cell?,h.hq,List.getElem?_map,List.getElem?_eq_getElem (show i<L ws by omega),List.getD_eq_getElem?_getD]
theorem At.set {w:az}{p q N O y g:Nat}{ws:List Int}(h:At w p q N O y g ws)(i:Nat)(x:Int):At (P w ⟨q,i,O0⟩ (U OW x)) p q N O y g (ws.set i x):=by
 refine⟨(by grind [ne,hp,aW]),?_,by grind [hl],h.hN,h.hN',h.hO,h.hy,h.hg⟩
 simp only [World.setCell,bE,if_true,h.hq,bH];simp[List.map_set]
theorem At.row {w:az}{p q N O y g:Nat}{ws us:List Int}(h:At w p q N O y g ws)(b:L us=N+O):At (w.setRow q (us.map (Value.int OW)).toArray) p q N O y g us:=
 ⟨(by grind [ne,hp,setRow_other]),setRow_heap w q _ _ _ _ h.hq,b,h.hN,h.hN',h.hO,h.hy,h.hg⟩
theorem At.ya {w:az}{p q N O y g:Nat}{ws:List Int}(h:At w p q N O y g ws)(z:Nat)(hz:z<=N):At (P w ⟨p,3,O0⟩ (U OW z)) p q N O z g ws:=by
 refine⟨?_,(by grind [ne,hq,aW]),h.hl,h.hN,h.hN',h.hO,hz,h.hg⟩
 simp only [World.setCell,bE,if_true,h.hp,bH];simp
theorem At.yb {w:az}{p q N O y g:Nat}{ws:List Int}(h:At w p q N O y g ws)(z:Nat)(hz:z<=O):At (P w ⟨p,6,O0⟩ (U OW z)) p q N O y z ws:=by
 refine⟨?_,(by grind [ne,hq,aW]),h.hl,h.hN,h.hN',h.hO,h.hy,hz⟩
 simp only [World.setCell,bE,if_true,h.hp,bH];simp
structure Fr (X:Nat->Prop)(w w':az):Prop where
 os:w'.os=w.os
 tape:w'.tape=w.tape
 output:w'.output=w.output
 size:I (G w)<=I (G w')
 block:∀k,k<I (G w)->¬X k->w'.heap[k]?=w.heap[k]?
theorem Fr.refl (X:Nat->Prop)(w:az):Fr X w w:=⟨rfl,rfl,rfl,aG _,λ_ _ _=>rfl⟩
theorem Fr.trans {X Y:Nat->Prop}{a b c:az}(h:Fr X a b)(k:Fr Y b c)(hy:∀i,Y i->X i\/I (G a)<=i):Fr X a c:=
 ⟨k.os.trans h.os,k.tape.trans h.tape,k.output.trans h.output,aQ h.size k.size,λi hi d=>(k.block i (aL hi h.size) (by grind)).trans (h.block i hi d)⟩
theorem Fr.mono {X Y:Nat->Prop}{w w':az}(h:Fr X w w')(hy:∀i,X i->Y i):Fr Y w w':=⟨h.os,h.tape,h.output,h.size,λi hi b=>(by grind [block])⟩
theorem Fr.of {X:Nat->Prop}{w w':az}(h:O7 (I (G w)) w w'):Fr X w w':=⟨h.os,h.tape,h.output,h.size,λk hk _=>h.block k hk⟩
theorem aK {a b:Prop}(h:a):a \/ b:=by intros;apply Or.inl<;>assumption
theorem Fr.alloc {X:Nat->Prop}{a w:az}(h:Fr X a w)(o:Obj):Fr X a (w.alloc o):=h.trans (Fr.of (bZ.alloc bY _)) (λ_ c=>aK c)
theorem Fr.drew {X:Nat->Prop}{a w:az}(h:Fr X a w):Fr X a w.drew:=⟨h.os,h.tape,h.output,h.size,h.block⟩
theorem Fr.set {X:Nat->Prop}{a w:az}(h:Fr X a w)(c o:Nat)(v:a7)(hc:X c):Fr X a (P w ⟨c,o,O0⟩ v):=
 ⟨h.os,h.tape,h.output,by simpa[World.setCell] using h.size,λk hk b=>(by grind [block,aW])⟩
theorem Fr.grown {X:Nat->Prop}{a w w':az}{row:Option Nat}(h:Fr X a w)(g:w.grownBy w' row)(hr:∀k,row=OR k->X k\/I (G a)<=k):Fr X a w':=
 ⟨g.os.trans h.os,g.tape.trans h.tape,g.output.trans h.output,aQ h.size g.size,λk hk b=>(g.block k (aL hk h.size) (by grind)).trans (h.block k hk b)⟩
theorem Fr.below {X:Nat->Prop}{w w':az}{B:Nat}(h:Fr X w w')(hB:B<=I (G w))(b:∀k,X k->B<=k):O7 B w w':=
 ⟨h.os,h.tape,h.output,h.size,λk hk=>(by grind [block])⟩
theorem cK {w w':az}{base n m:Nat}{e:bI}{v:a7}{l:List a7}(h:aC w base e m v n l)(hk:∀k,OR k=A v->w'.heap[k]?=w.heap[k]?):aC w' base e m v n l:=by
 refine⟨h.1,?_⟩
 rcases h.2 with hn|⟨g,cap,b,rfl,hb,c,d⟩
 ·grind
 ·exact .inr ⟨g,cap,b,rfl,hb,(hk g rfl).trans c,d⟩
theorem cu {w:az}{base n m:Nat}{e:bI}{v:a7}{l:List a7}(h:aC w base e m v n l):∀k,OR k=A v->base<=k/\k<I (G w):=λk hk=>h.lt k (by grind)
theorem iq {X:Nat->Prop}{w w':az}{base n m:Nat}{e:bI}{v:a7}{l:List a7}(h:aC w base e m v n l)(f:Fr X w w')(b:∀k,OR k=A v->¬X k):aC w' base e m v n l:=
 cK h (λk hk=>f.block k (cu h k hk).2 (by grind))
theorem fA {w:az}{base base' n m:Nat}{e:bI}{v:a7}{l:List a7}(h:aC w base e m v n l)(hb:∀k,OR k=A v->base'<=k):aC w base' e m v n l:=by
 refine⟨h.1,?_⟩
 rcases h.2 with hn|⟨g,cap,b,rfl,_,c⟩
 ·grind
 ·exact .inr ⟨g,cap,b,rfl,hb g rfl,c⟩
theorem fI {w:az}{base n m:Nat}{e:bI}{v:a7}{l:List a7}(h:aC w base e m v n l):∀k,OR k=A v->∃b,w.heap[k]?=OR (OX b e (0,0)):=by
 intro k hk;rcases h.2 with⟨rfl,_⟩|⟨g,cap,b,rfl,_,c,_⟩
 ·simp[Value.ownBlock] at hk
 ·simp[Value.ownBlock] at hk
  grind
theorem fi {w:az}{base n m:Nat}{e:bI}{v:a7}{l:List a7}(h:aC w base e m v n l)(hn:0<n):∃b cap,v=Z (au b) n cap:=by
 rcases h.2 with⟨_,h0⟩|⟨g,cap,c,hv,_⟩
 all_goals grind
theorem e7 {w:az}{base n m:Nat}{e:bI}{v:a7}{l:List a7}(h:aC w base e m v n l):∃ad cap,v=Z ad n cap:=by
 rcases h.2 with⟨hv,h0⟩|⟨g,cap,b,hv,_⟩
 all_goals grind
def jn (w:az)(ad:Option bB)(l:List Int):Prop:=0<L l->∃b o,ad=OR ⟨b,o,O0⟩/\b<I (G w)/\∀i,i<L l->V w (av b (o+i))=OR (ak (X l i 0))
def dQ (w:az)(ad:Option bB)(l:List (Int×Int)):Prop:=
 0<L l->∃b o,ad=OR ⟨b,o,O0⟩/\b<I (G w)/\∀i,i<L l->V w (av b (o+i*2))=OR (ak (X l i (0,0)).1)/\V w (av b (o+i*2+1))=OR (ak (X l i (0,0)).2)
def ev (l:List (Int×Int)):List Value:=l.flatMap λe=>[ak e.1,ak e.2]
theorem jL (a b:List (Int×Int)):ev (a++b)=ev a++ev b:=by simp[ev]
theorem lY:∀l:List (Int×Int),L (ev l)=L l*2
 |[]=>rfl
 |e::r=>by
  have:=lY r;simp[ev] at this⊢
  omega
theorem o9:∀(l:List (Int×Int))(i:Nat),i<L l->(ev l)[i*2]?=OR (ak (X l i (0,0)).1)/\(ev l)[i*2+1]?=OR (ak (X l i (0,0)).2)
 |[],i,h=>by grind
 |e::r,0,_=>by simp[ev]
 |e::r,i+1,h=>by have b:(ev (e::r))=ak e.1::ak e.2::ev r:=af;rw[b,show(i+1)*2=i*2+1+1 by omega];simpa using(o9 r i (by grind))
theorem ir {w:az}{base:Nat}{e:bI}{ad:Option bB}{cap:Nat}{l:List Int}(h:aC w base e 1 (Z ad (L l) cap) (L l) (l.map (Value.int OW))):jn w ad l:=by
 intro hp;rcases h.2 with⟨_,h0⟩|⟨g,f,c,hv,hb,b,j,k,m,n⟩
 ·omega
 ·obtain⟨rfl,rfl⟩:=hv;refine⟨g,0,rfl,cj b,λi hi=>?_⟩
  have d:(c.toList.take (L l*1))[i]?=OR (ak (X l i 0)):=by simp_all
  rw[rq aa] at d;simp[World.cell?,b]
  grind
theorem iQ {w:az}{base:Nat}{e:bI}{ad:Option bB}{cap:Nat}{l:List _}(h:aC w base e 2 (Z ad (L l) cap) (L l) (ev l)):dQ w ad l:=by
 intro hp;rcases h.2 with⟨_,h0⟩|⟨g,d,f,hv,hb,b,j,k,m,c⟩
 ·omega
 ·obtain⟨rfl,rfl⟩:=hv;refine⟨g,0,rfl,cj b,λi hi=>?_⟩
  obtain⟨k1,k2⟩:=o9 l i hi;rw[<-c,rq aa] at k1 k2;constructor
  ·simp[World.cell?,b]
   grind
  ·simp[World.cell?,b]
   grind
theorem aS {w w':az}{a:bB}(h:w'.heap[a.block]? = w.heap[a.block]?):V w' a = V w a:=by intros;apply World.cell?_of_block<;>assumption
theorem jn.keep {w w':az}{ad:Option bB}{l:List Int}(h:jn w ad l)(hs:I (G w)<=I (G w'))(hk:0<L l->∀a,ad=OR a->w'.heap[a.block]?=w.heap[a.block]?):jn w' ad l:=by
 intro hp;obtain⟨b,o,rfl,hb,hc⟩:=h hp
 grind [aS]
theorem dQ.keep {w w':az}{ad:Option bB}{l:List _}(h:dQ w ad l)(hs:I (G w)<=I (G w'))(hk:0<L l->∀a,ad=OR a->w'.heap[a.block]?=w.heap[a.block]?):dQ w' ad l:=by
 intro hp;obtain⟨b,o,rfl,hb,hc⟩:=h hp
 grind [aS]
open Go.RowKit W Kp
theorem yc:(prog.info? 2).map (λi=>(i.zero,i.size,i.bytes))=OR (OR (ak 0),1,8):=ah
open Go.RowKit W Kp ch
theorem o_:(prog.info? 247).map (λi=>(i.zero,i.size,i.bytes))=OR (OR (bz #[ak 0,ak 0]),2,16):=ah
abbrev en (e:b8):Value:=bz #[ak e.1,ak e.2]
structure dr (iP:Type) where
 J:(Nat->Prop)->iP->az->Prop
 lt:∀{F t w},J F t w->∀k,F k->k<I (G w)
 keep:∀{F t w w'},J F t w->I (G w)<=I (G w')->(∀k,F k->w'.heap[k]?=w.heap[k]?)->J F t w'
theorem dr.fr {b:Type}(o:dr b){F X:Nat->Prop}{t:b}{w w':az}(h:o.J F t w)(f:Fr X w w')(c:∀k,F k->¬X k):o.J F t w':=(by grind [keep,Fr.size,Fr.block,lt])
theorem dr.below {b:Type}(o:dr b){F:Nat->Prop}{t:b}{w w':az}(h:o.J F t w)(f:O7 (I (G w)) w w'):o.J F t w':=(by grind [keep,lt,Below.size,Below.block])
def ef (f:Nat):Prop:=∀(args:Array a7)(w:az),(callFunc f args).run J w=.ok (.enter f args) w
theorem g9 {f:Nat}{b:Func}{c:Code}(d:Tryz.prog.funcs[f]?=some b)(g:(b.name== "runtime.NumGoroutine")=false)(hb:b.body=some c):ef f:=by
 intro args w;have e:b.name≠ "runtime.NumGoroutine" :=by grind
 simp[callFunc,d,e,hb]
theorem bh (w:az)(o:Obj):I (G (w.alloc o)) = I (G w) + 1:=World.size_alloc ..
theorem rP {b:Type}(o:dr b){F:Nat->Prop}{t:b}{w c:az}{e:Obj}{d:Option Nat}(h:o.J F t w)(hg:(w.alloc e).grownBy c d)(f:∀k,OR k=d->¬F k):o.J F t c:=
 o.keep h (by have:=hg.size;grind [bh]) (by grind [dr.lt,World.grownBy.block,bh,aU])
theorem yd {w b:az}{base n m:Nat}{e:bI}{v:a7}{l:List a7}{d:Obj}{c:Option Nat}(h:aC w base e m v n l)(hg:(w.alloc d).grownBy b c)(f:∀k,OR k=A v->OR k≠c):aC b base e m v n l:=
 cK h (λk hk=>(hg.block k (by have:=(cu h k hk).2;simp;omega) (by grind)).trans (aU _ _ _ (cu h k hk).2))
theorem gq {w:az}{base n m:Nat}{e:bI}{v:a7}{l:List a7}(h:aC w base e m v n l)(b:Obj):aC (w.alloc b) base e m v n l:=
 cK h (λk hk=>aU _ _ _ (cu h k hk).2)
def Looks {d:Type}(o:dr d)(D:b8->Prop)(G:d->Prop)(f:Nat)(b c:Array a7)(lk:d->b8->Bool×d):Prop:=
 ∀F t w (e:b8),D e->G t->o.J F t w->M prog f (b.push (en e)++c) w λr w'=>∃g,r=Q (bA (lk t e).1)/\o.J g (lk t e).2 w'/\Fr F w w'/\∀k,g k->F k\/w.heap.size<=k
def eZ {b:Type}(lk:b->b8->Bool×b)(s:List b8×List b8×b)(e:b8):List b8×List b8×b:=
 if(lk s.2.2 e).1 then(s.1++[e],s.2.1,(lk s.2.2 e).2) else(s.1,s.2.1++[e],(lk s.2.2 e).2)
def dF {b:Type}(lk:b->b8->Bool×b)(t:b)(l:List b8):List b8×List b8×b:=l.foldl (eZ lk) ([],[],t)
theorem Em {b:Type}(lk:b->b8->Bool×b)(t:b)(l:List b8)(e:b8):dF lk t (l++[e])=eZ lk (dF lk t l) e:=by simp[dF,List.foldl_append]
theorem a8 {α:Type _}{β:Type _}{a:α}{l:List α}{f:β -> α -> β}{b:β}:List.foldl f b (a :: l) = List.foldl f (f b a) l:=List.foldl_cons ..
theorem qn {b:Type}(lk:b->b8->Bool×b)(t:b)(l:List b8):L (dF lk t l).1+L (dF lk t l).2.1=L l:=by
 have key:∀(l:List b8)(s:List b8×List b8×b),L (l.foldl (eZ lk) s).1+L (l.foldl (eZ lk) s).2.1=L s.1+L s.2.1+L l:=by
  intro l
  induction l with
  |nil=>simp
  |cons e r c=>
   intro s;rw[a8,c];unfold eZ
   grind
 simp_all [dF]
theorem a4 (n:Nat):0 <= n:=Nat.zero_le ..
theorem a9 (w:az)(base:Nat)(e:bI)(size:Nat):aC w base e size (Value.slice O0 0 0) 0 []:=World.ownsRow_nil ..
theorem aO (w:az)(o:Obj):(w.alloc o).heap[I (G w)]? = OR o:=heap_alloc_new ..
theorem ba {α:Type _}{l:List α}:List.take (L l) l = l:=List.take_length ..
theorem aD{w:World}{b o:Nat}{c:Array a7}{T:bI}{g:Nat×Nat}{v:a7}(h:w.heap[b]?=OR (OX c T g))(e:c[o]?=OR v:=by rfl):V w ⟨b,o,O0⟩=OR v:=by simp[World.cell?,h];exact e
theorem ye {W:Type}(o:dr W)(D:b8->Prop)(G:W->Prop)(f:Nat)(b c:Array a7)(lk:W->b8->Bool×W)(bx:ef f)(hl:Looks o D G f b c lk)(l:List b8)(ad:Option bB)(cap:Nat)(F:Nat->Prop)(t:W)(w:az)
 (hD:∀e∈l,D e)(b0:∀j,j<l.length->G (dF lk t (l.take j)).2.2)(hm:l.length<=100000)(ci:o.J F t w)(hp:∀q be w',o.J q be w'->Fr F w w'->dQ w' ad l):
 M prog 250 #[.slice ad l.length cap,.func (.func f) b c] w λr w'=>∃a1 c1 a2 c2 q,r=Q (ay #[.slice a1 (dF lk t l).1.length c1,.slice a2 (dF lk t l).2.1.length c2])/\aC w' w.heap.size 247 2 (.slice a1 (dF lk t l).1.length c1) (dF lk t l).1.length (ev (dF lk t l).1)/\
  aC w' w.heap.size 247 2 (.slice a2 (dF lk t l).2.1.length c2) (dF lk t l).2.1.length (ev (dF lk t l).2.1)/\o.J q (dF lk t l).2.2 w'/\Fr F w w'/\(∀k,q k->F k\/w.heap.size<=k)/\(∀k,OR k=A (Value.slice a1 (dF lk t l).1.length c1)->¬q k)/\(∀k,OR k=A (Value.slice a2 (dF lk t l).2.1.length c2)->¬q k):=by
 obtain⟨b1,hi,b2,b3,b5⟩:=bM o_;have cj:aA (Looks o D G f b c lk):=hl;have cy:aA (∀j,j<l.length->G (dF lk t (l.take j)).2.2):=b0;clear b0;clear hl;have ck:aA (∀q be w',o.J q be w'->Fr F w w'->dQ w' ad l):=hp;clear hp;have cz:∀(args:Array a7)(w:az),(callFunc f args).run prog w=.ok (.enter f args) w:=bx;clear bx;go_enter func250,ntmps250;go_wp2_with fail
 go_loopw [6,7,12] (λcl cm iv wr=>∃(j:Nat)(Y N:List b8)(s an:Option bB)(v n:Nat)(p:Nat->Prop)(i:W),j<=l.length/\iv=ak j/\aA (dF lk t (l.take j)=(Y,N,i))/\cl=.slice s Y.length v/\cm=.slice an N.length n/\
  aC wr w.heap.size 247 2 (.slice s Y.length v) Y.length (ev Y)/\aC wr w.heap.size 247 2 (.slice an N.length n) N.length (ev N)/\o.J p i wr/\Fr F w wr/\aA (∀k,p k->F k\/w.heap.size<=k)/\
  aA (∀k,OR k=A (Value.slice s Y.length v)->¬p k/\OR k≠A (Value.slice an N.length n))/\aA (∀k,OR k=A (Value.slice an N.length n)->¬p k)) (λ_ _ iv _=>l.length-(intOf iv).toNat)
 case atStart=>exact⟨0,[],[],O0,O0,0,0,F,t,a4 _,rfl,rfl,rfl,rfl,a9 _ _ _ _,a9 _ _ _ _,ci,Fr.refl _ _,λk h=>aK h,λk e=>by simp[Value.ownBlock] at e,λk e=>by simp[Value.ownBlock] at e⟩
 case round=>
  obtain⟨j,Y,N,s,an,v,n,p,i,d,rfl,bg,rfl,rfl,bi,hN,ag,ai,bl,bn,aV⟩:=hrel;by_cases b6:j<l.length
  ·obtain⟨cA,cB,cn,cC,hc⟩:=ck.o p i wr ag ai aa;obtain⟨co,cp⟩:=hc j b6;clear hc;have al:D (l.getD j (0,0)):=hD _ (by grind)
   have cq:G i:=by grind [Hid.out]
   have B:=Em lk t (l.take j) (l.getD j (0,0))
   rw[<-h_ l j b6 (0,0),bg.o] at B;have B:aA (dF lk t (l.take (j+1))=eZ lk (Y,N,i) ((l.getD j (0,0)).1,(l.getD j (0,0)).2)):=B;have al:D ((l.getD j (0,0)).1,(l.getD j (0,0)).2):=al;generalize (l.getD j (0,0)).1=g at co B al;generalize (l.getD j (0,0)).2=z at cp B al;subst cn;have cD:Y.length+N.length<=100000:=by grind [qn,Hid.out]
   have cE:=ai.size;have b7:=o.lt ag;go_wp2_with fail;refine(cj.o p i _ (g,z) al cq (o.below ag (by simp[Below.alloc,Below.refl]))).mono ?_;rintro e am ⟨x,rfl,a0,ab,b9⟩
   have cr:=ab.size;simp at cr;have ca:¬p wr.heap.size:=λh=>by have:=b7 _ h;omega
   have cb:=(ab.block _ ac ca).trans (aO _ _)
   have cF:V am (av wr.heap.size 0)=OR (ak g):=aD cb
   have cG:V am (av wr.heap.size 1)=OR (ak z):=aD cb
   have bb:=iq (gq bi (OX #[.int OW g,.int OW z] 247)) ab (λk e=>(bn.o k e).1)
   have bd:=iq (gq hN (OX #[.int OW g,.int OW z] 247)) ab (λk e=>aV.o k e)
   have cc:Fr F w am:=(ai.alloc (OX #[.int OW g,.int OW z] 247)).trans ab bl.o;have cd:aA (∀k,x k->F k\/w.heap.size<=k):=λk hk=>(by grind [Hid.out,bh])
   have ao:aA (∀k,OR k=A (Value.slice s Y.length v)->¬x k/\OR k≠A (Value.slice an N.length n)):=λk e=>(by grind [cu,Hid.out,bh])
   have ce:aA (∀k,OR k=A (Value.slice an N.length n)->¬x k):=λk e h=>(b9 k h).elim (aV.o k e) (λh=>by have:=(cu hN k e).2;simp at h;omega)
   have cf:=o.lt a0;clear bi hN ai ab bl bn aV ag b9 b7 ca;have hd:aA (dF lk t (l.take (j+1))=if(lk i (g,z)).1 then(Y++[(g,z)],N,(lk i (g,z)).2) else(Y,N++[(g,z)],(lk i (g,z)).2)):=B.o;clear B;generalize (lk i (g,z)).2=ch at a0 hd;cases hb:(lk i (g,z)).1
   ·rw[hb] at hd;have hd:=cg hd;go_wp2_with (at_builtin;refine bO _ rfl _ _ 195 rfl w.heap.size 247 b1 (.agg #[ak 0,ak 0]) 2 16 underlying195 hi b2 b3 b5 rfl ae (.slice an N.length n) N.length (ev N) rfl (gq bd _) ⟨am.heap.size,0,O0⟩ 1 1 [ak g,ak z] rfl rfl ?_ ?_ ?_ ?_ ?_ ?_;(intro j u d;match j,d with|0,d=>(simp at d;subst d;simp[Addr.add])|1,d=>(simp at d;subst d;simp[Addr.add]));(intro u m;simp at m;rcases m with m|m<;>(subst m;rfl));(unfold bL;omega);omega;(simp;omega);intro cs bo ap S _ bp;obtain⟨b4,ar,br⟩:=fi ap (jw _);subst br)
    have ct:aC bo w.heap.size 247 2 (.slice (au b4) (N++[(g,z)]).length ar) (N++[(g,z)]).length (ev (N++[(g,z)])):=by rw[jL];simpa[ev] using ap
    have cv:=rP o a0 S (by assumption)
    have bs:=yd bb S (λk e=>(ao.o k e).2)
    have cw:=(cc.alloc (OX #[.int OW g,.int OW z] 247)).grown S (λk e=>aI (cu bd k e.symm).1)
    have aB:=bp.imp id (λe=>by simpa[Value.ownBlock] using e)
    have bt:aA (∀k,OR k=A (Value.slice s Y.length v)->¬x k/\OR k≠OR b4):=λk e=>⟨(ao.o k e).1,λaF=>aB.elim (λh=>(ao.o k e).2 (aF.trans h)) (λh=>by have:=(cu bb k e).2;simp at aF;omega)⟩
    have cx:aA (∀k,OR k=OR b4->¬x k):=λk e h=>aB.elim (λaR=>ce.o k (e.trans aR) h) (λaR=>by have:=cf k h;simp at e;omega)
    go_wp2_with fail;go_roundw
    case rel=>exact⟨j+1,Y,N++[(g,z)],s,au b4,v,ar,x,ch,aa,aj,hd,rfl,ac,bs,ct,cv,cw,cd,bt,cx⟩
    case measure=>simp[intOf];omega
   ·rw[hb] at hd;go_wp2_with (at_builtin;refine bO _ rfl _ _ 195 rfl w.heap.size 247 b1 (.agg #[ak 0,ak 0]) 2 16 underlying195 hi b2 b3 b5 rfl ae (.slice s Y.length v) Y.length (ev Y) rfl (gq bb _) ⟨am.heap.size,0,O0⟩ 1 1 [ak g,ak z] rfl rfl ?_ ?_ ?_ ?_ ?_ ?_;(intro j u d;match j,d with|0,d=>(simp at d;subst d;simp[Addr.add])|1,d=>(simp at d;subst d;simp[Addr.add]));(intro u m;simp at m;rcases m with m|m<;>(subst m;rfl));(unfold bL;omega);omega;(simp;omega);intro cs bo ap S _ bp;obtain⟨b4,ar,br⟩:=fi ap (jw _);subst br)
    have bs:aC bo w.heap.size 247 2 (.slice (au b4) (Y++[(g,z)]).length ar) (Y++[(g,z)]).length (ev (Y++[(g,z)])):=by rw[jL];simpa[ev] using ap
    have aB:=bp.imp id (λe=>by simpa[Value.ownBlock] using e)
    have bt:aA (∀k,OR k=OR b4->¬x k/\OR k≠A (Value.slice an N.length n)):=λk e=>⟨λh=>aB.elim (λaR=>(ao.o k (e.trans aR)).1 h) (λaR=>by have:=cf k h;simp at e;omega),λaF=>aB.elim (λh=>(ao.o k (e.trans h)).2 aF) (λh=>by have:=(cu bd k aF).2;simp at e;omega)⟩
    go_wp2_with fail;go_roundw;exact⟨j+1,Y++[(g,z)],N,au b4,an,ar,n,x,ch,aa,aj,hd,ac,rfl,bs,(yd bd S (by grind [Hid.out])),(rP o a0 S (by grind [Hid.out])),((cc.alloc (OX #[.int OW g,.int OW z] 247)).grown S (λk e=>aI (cu bb k (by grind)).1)),cd,bt,ce⟩
    simp[intOf];omega
  ·obtain rfl:j=l.length:=aa;rw[ba] at bg;go_wp2_with fail;go_ret2;rw[bg.o];exact⟨_,_,_,_,p,rfl,bi,hN,ag,ai,bl.o,λk e=>(bn.o k e).1,aV.o⟩
theorem dQ.apart {b:Type}{o:dr b}{F:Nat->Prop}{w:az}{ad:Option bB}{l:List b8}(h:dQ w ad l)(g:0<L l->∀z,ad=OR z->¬F z.block):∀c d w',o.J c d w'->Fr F w w'->dQ w' ad l:=λ_ _ _ _ f=>
 h.keep f.size (λhp z e=>by
  obtain⟨i,j,k,m,_⟩:=h hp
  grind [Fr.block])
def yf (w0:az):dr Unit where
 J F _ w:=(∀k,F k↔k<I (G w0))/\I (G w0)<=I (G w)/\∀k,k<I (G w0)->w.heap[k]?=w0.heap[k]?
 lt:=by rintro F t w ⟨b,d,c⟩ k hk;have:=(b k).1 hk;omega
 keep:=by rintro F t w w' ⟨b,d,c⟩ hs hk;exact⟨b,aa,λk h=>(hk k ((b k).2 h)).trans (c k h)⟩
theorem Ep {b:Type}(p:b->b8->Bool)(s:b)(l:List b8):dF (λs e=>(p s e,s)) s l=(l.filter (p s),l.filter (λe=>!p s e),s):=by
 have key:∀(l Y N:List b8),l.foldl (eZ (λs e=>(p s e,s))) (Y,N,s)=(Y++l.filter (p s),N++l.filter (λe=>!p s e),s):=by
  intro l
  induction l with
  |nil=>simp
  |cons e r c=>
   grind [eZ]
 grind [dF]
theorem uD (D:b8->Prop)(f:Nat)(b c:Array a7)(p:b8->Bool)(i:ef f)(w:az)
 (hl:∀(w':az)(e:b8),D e->I (G w)<=I (G w')->(∀k,k<I (G w)->w'.heap[k]?=w.heap[k]?)->M J f (b.push (en e)++c) w' λr j=>r=Q (bA (p e))/\O7 (I (G w')) w' j)
 (l:List b8)(ad:Option bB)(cap:Nat)(hD:∀e∈l,D e)(hm:L l<=100000)(hp:dQ w ad l):
 M J 250 #[Z ad (L l) cap,.func (.func f) b c] w λr w'=>∃a1 c1 a2 c2,r=Q (ay #[Z a1 (L (l.filter p)) c1,Z a2 (L (l.filter (λe=>!p e))) c2])/\aC w' (I (G w)) 247 2 (Z a1 (L (l.filter p)) c1) (L (l.filter p)) (ev (l.filter p))/\
  aC w' (I (G w)) 247 2 (Z a2 (L (l.filter (λe=>!p e))) c2) (L (l.filter (λe=>!p e))) (ev (l.filter (λe=>!p e)))/\O7 (I (G w)) w w':=by
 have P:=ye (yf w) D (λ_=>True) f b c (λ_ e=>(p e,())) i (by
  rintro F t w1 e hD _ ⟨d,j2,cI⟩
  refine(hl w1 e hD j2 cI).mono ?_;rintro r o ⟨rfl,hb⟩
  exact⟨F,rfl,(yf w).below ⟨d,j2,cI⟩ hb,Fr.of hb,λk h=>aK h⟩) l ad cap (λk=>k<I (G w)) () w hD (by grind) hm ⟨λk=>Iff.rfl,aG _,λ_ _=>rfl⟩
  (by
    rintro m q w' ⟨d,j2,cI⟩ _;refine hp.keep j2 (λhq z e=>?_)
    obtain⟨s,u,v,x,_⟩:=hp hq
    grind)
 rw[Ep (λ_ e=>p e) () l] at P;refine P.mono ?_;rintro r w' ⟨a1,c1,a2,c2,m,rfl,n,hN,⟨d,j2,cI⟩,g,_,_,_⟩
 exact⟨a1,c1,a2,c2,rfl,n,hN,g.os,g.tape,g.output,(by assumption),cI⟩
theorem Er (w:az)(ad:Option bB)(n cap:Nat)(b:n<=cap):
 M J 296 #[Z ad n cap] w λe w'=>e=Q (Z ad n n)/\w'=w:=by
 go_wp2;go_ret;exact⟨rfl,rfl⟩
structure i_ (w:az)(ad:Option bB)(l:List b8)(cap:Nat):Prop where
 lp:dQ w ad l
 le:L l<=cap
 nil:ad=O0->L l=0/\cap=0
theorem dQ.cells {w:az}{ad:Option bB}{q:List b8}(h:dQ w ad q):∀b,ad=OR b->∀j u,(ev q)[j]?=OR u->V w (b.add j)=OR u:=by
 intro b e j u c;have hl:=lY q;have k:=(List.getElem?_eq_some_iff.1 c).1;obtain⟨g,o,f,hb,hc⟩:=h aa;rw[e] at f;cases f;obtain⟨c1,c2⟩:=hc (j/2) aa;obtain⟨k1,k2⟩:=o9 q (j/2) aa;rcases Nat.mod_two_eq_zero_or_one j with hz|hz
 ·have d:j/2*2=j:=aa;rw[d] at k1 c1;rw[c] at k1;cases k1;rw[Addr.add_lit];exact c1
 ·have d:j/2*2+1=j:=aa;have i:o+j/2*2+1=o+j:=aa;rw[d] at k2;rw[i] at c2;rw[c] at k2;cases k2;rw[Addr.add_lit];exact c2
theorem dQ.below {w w':az}{ad:Option bB}{l:List _}(h:dQ w ad l)(hb:O7 (I (G w)) w w'):dQ w' ad l:=
 h.keep hb.size (λhp z e=>by obtain⟨b,o,c,d,_⟩:=h hp;rw[e] at c;cases c;exact hb.block _ d)
theorem aH (B:Nat)(w:az):O7 B w w:=Below.refl ..
theorem yh (w:az)(ad:Option bB)(q:List b8)(cap:Nat)(g z:Int)(h:i_ w ad q cap)(hm:L q<=100000):
 M J 231 #[Z ad (L q) cap,bz #[ak g,ak z]] w λe w'=>∃b1 g_,e=Q (Z (au b1) (L q+1) g_)/\aC w' (I (G w)) 247 2 (Z (au b1) (L q+1) g_) (L q+1) (ev (q++[(g,z)]))/\O7 (I (G w)) w w':=by
 obtain⟨i,hi,l,m,n⟩:=bM o_;have o:aA (dQ w ad q):=h.lp;have p:aA (ad=O0->L q=0/\L q=0):=λe=>⟨(h.nil e).1,(h.nil e).1⟩
 have s:=h.le;clear h;go_enter func231,ntmps231;go_wp2_with fail
 go_region_held3 (λw'=>V w' (av (I (G w)) 0)=OR (ak g)/\V w' (av (I (G w)) 1)=OR (ak z)) (go_keep)
  (first|(go_at_call 296;refine(Er _ ad (L q) cap s).mono ?_;rintro e B ⟨rfl,rfl⟩)|(refine step_append_grows rfl (.tmp 6) (.tmp 8) 195 rfl 247 i (bz #[ak 0,ak 0]) 2 16 underlying195 hi l m n rfl ae ad (L q) (L q) (ev q) (by simp[Act.eval]) p.o (lY q) (o.o.below (by first|exact(((aH _ w).alloc bY _).alloc ac _).drew|exact((aH _ w).alloc bY _).drew.alloc ac _)).cells ⟨I (G w)+1,0,O0⟩ 1 1 [ak g,ak z] (by simp[Act.eval]) rfl ?_ ?_ aa (by unfold bL;omega) aa ?_;(intro j u b;match j,b with|0,b=>(simp at b;subst b;simp[Addr.add])|1,b=>(simp at b;subst b;simp[Addr.add]));(intro u c;simp at c;rcases c with c|c<;>(subst c;rfl));intro F N f d;obtain⟨b4,t,x⟩:=fi f (jw _);subst x;have y1:=d.cell (a:=⟨I (G w),0,O0⟩) (v:=ak g) ac ac;have S:=d.cell (a:=⟨I (G w),1,O0⟩) (v:=ak z) ac ac))
 all_goals
  go_wp2_with fail;go_ret;exact⟨b4,t,rfl,by rw[jL];exact fA f (λk e=>by have:=(cu f k e).1;simp at this;omega),by first|exact((((aH _ w).alloc bY _).alloc ac _).drew).grown d (by simp;omega) (λk e=>by cases e)|exact(((aH _ w).alloc bY _).drew.alloc ac _).grown d (by simp;omega) (λk e=>by cases e)⟩
theorem pa (l:List b8):∀u∈ev l,u.oneCell'=C:=by intro u b;simp only [ev,List.mem_flatMap] at b;obtain⟨e,_,b⟩:=b;simp at b;rcases b with rfl|rfl<;>rfl
theorem Es (w:az):aC (bu w (OX #[] 247)) (I (G w)) 247 2 (Z (au (I (G w))) 0 0) 0 []:=
 ⟨rfl,aI ⟨I (G w),0,#[],rfl,aG _,aO _ _,aG _,a4 _,rfl,rfl⟩⟩
theorem uE (w:az)(ad:Option bB)(l:List b8)(cap:Nat)(h:i_ w ad l cap)(hm:L l<=100000):
 M J 299 #[Z ad (L l) cap] w λe w'=>∃a1 c1,e=Q (Z a1 (L l) c1)/\aC w' (I (G w)) 247 2 (Z a1 (L l) c1) (L l) (ev l)/\O7 (I (G w)) w w':=by
 obtain⟨f,hi,g,i,j⟩:=bM o_;have o:∀(w:az)(a:Option bB)(n c:Nat),_=_:=λw a n c=>Lib.run_eql_slice_nil w _ _ a n c 0 0 underlying195;have d:=cg h.lp;cases ad with
 |none=>
  have hl:=List.eq_nil_of_length_eq_zero (h.nil rfl).1;subst hl;clear h d;go_enter func299,ntmps299;go_wp2;go_ret;exact⟨O0,0,rfl,a9 _ _ _ _,aH _ _⟩
 |some a=>
  clear h;go_enter func299,ntmps299;go_wp2_with (at_builtin;refine wpList_append_own _ rfl _ _ 195 rfl (I (G w)) 247 f _ 2 16 underlying195 hi g i j rfl ae _ 0 [] rfl (Es w) a (L l) cap (ev l) rfl (lY l) ((d.o.below (bZ.alloc bY _)).cells a rfl) (pa l) ?_ ?_ ?_ ?_;(unfold bL;omega);omega;(simp);intro v w1 b m _)
  rw[List.nil_append,Nat.zero_add] at b;obtain⟨a1,c1,rfl⟩:=e7 b;go_wp2;go_ret;exact⟨a1,c1,rfl,b,(bZ.alloc bY _).grown m ac (λk e=>by cases e;exact aG _)⟩
abbrev ec:=Int×Option bB×Nat×List (Int×Int)
def nv (m:List ec):List Value:=m.flatMap λx=>[ak x.1,Z x.2.1 (L x.2.2.2) x.2.2.1]
def hW (m:List ec):List (Int×List (Int×Int)):=m.map λx=>(x.1,x.2.2.2)
theorem yi (a b:List ec):nv (a++b)=nv a++nv b:=by simp[nv]
theorem qp:∀(l:List ec)(i:Nat)(x:ec),l[i]?=OR x->(nv l)[i*2]?=OR (ak x.1)/\(nv l)[i*2+1]?=OR (Z x.2.1 (L x.2.2.2) x.2.2.1)
 |[],i,x,h=>by grind
 |e::r,0,x,h=>by simp_all [nv]
 |e::r,i+1,x,h=>by have b:(nv (e::r))=ak e.1::Z e.2.1 (L e.2.2.2) e.2.2.1::nv r:=af;rw[b,show(i+1)*2=i*2+1+1 by omega];simpa using(qp r i x (by assumption))
theorem uF:∀(l:List ec)(i:Nat)(x:ec)(ad:Option bB)(c:Nat)(b:List (Int×Int)),l[i]?=OR x->nv (l.set i (x.1,ad,c,b))=(nv l).set (i*2+1) (Z ad (L b) c)
 |[],_,_,_,_,_,_=>rfl
 |e::l,0,x,ad,c,b,h=>by simp_all [nv]
 |e::l,i+1,x,ad,c,b,h=>by have d:(nv (e::l))=ak e.1::Z e.2.1 (L e.2.2.2) e.2.2.1::nv l:=af;have f:(nv (e::l.set i (x.1,ad,c,b)))=ak e.1::Z e.2.1 (L e.2.2.2) e.2.2.1::nv (l.set i (x.1,ad,c,b)):=af;rw[List.set_cons_succ,f,d,(uF l i x ad c b (by assumption)),show(i+1)*2+1=i*2+1+1+1 by omega];simp
theorem qq {w:az}{base size n g cap:Nat}{e:bI}{b:List a7}(h:aC w base e size (Z (au g) n cap) n b)(i:Nat)(u:a7):aC (P w ⟨g,i,O0⟩ u) base e size (Z (au g) n cap) n (b.set i u):=by
 refine⟨by rw[List.length_set];exact h.1,?_⟩
 rcases h.2 with⟨hv,_⟩|⟨k,l,c,hv,hb,hg,d,f,m,j⟩
 ·grind
 ·obtain⟨rfl,rfl⟩:=hv;refine aI ⟨g,cap,c.setIfInBounds i u,rfl,hb,?_,d,f,by simp_all,?_⟩
  ·simp only [World.setCell,bE,if_true,hg,bH];rfl
  ·rw[Array.toList_setIfInBounds,List.take_set,j]
def fP (w:az)(ad:Option bB)(l:List (Int×Int)):Prop:=dQ w ad l/\(0<L l->∃b o c,ad=OR ⟨b,o,O0⟩/\w.heap[b]?=OR (OX c 139 (0,0)))
section
variable {w:az}
theorem fP.nil {ad:Option bB}:fP w ad []:=⟨λh=>by simp at h,λh=>by simp at h⟩
theorem fP.of {base cap:Nat}{ad:Option bB}{l:List _}(h:aC w base 139 2 (Z ad (L l) cap) (L l) (ev l)):fP w ad l:=by
 refine⟨iQ h,λhp=>?_⟩
 obtain⟨b,c0,c⟩:=fi h hp;obtain⟨d,hc⟩:=fI h b (by rw[c];rfl)
 grind
end
def gf (m:List ec)(k:Nat):Prop:=∃x∈m,0<L x.2.2.2/\∃o,x.2.1=OR ⟨k,o,O0⟩
theorem kt {w:az}{base size n g cap:Nat}{e:bI}{b:List a7}(h:aC w base e size (Z (au g) n cap) n b){i:Nat}{u:a7}(hi:b[i]?=OR u):V w (av g i)=OR u/\bF w (av g i)=O4:=by
 rcases h.2 with⟨hv,_⟩|⟨f,j,k,hv,hb,hg,l,m,o,c⟩
 ·grind
 ·obtain⟨rfl,rfl⟩:=hv;rw[<-c] at hi;have d:i<n*size:=by grind
  rw[rq d] at hi;constructor
  ·simp[World.cell?,hg]
   grind
  ·simp[World.frozen?,hg]
def Ln (w:az)(ad:Option bB)(c:List (Int×List (Int×Int))):Prop:=
 ∃m:List ec,hW m=c/\(∀x∈m,dQ w x.2.1 x.2.2.2)/\(0<L m->∃b o,ad=OR ⟨b,o,O0⟩/\b<I (G w)/\∀i x,m[i]?=OR x->V w (av b (o+i*2))=OR (ak x.1)/\V w (av b (o+i*2+1))=OR (Z x.2.1 (L x.2.2.2) x.2.2.1))
theorem Ln.below {w w':az}{ad:Option bB}{c:List _}(h:Ln w ad c)(hb:O7 (I (G w)) w w'):Ln w' ad c:=by
 obtain⟨m,f,g,j⟩:=h;refine⟨m,f,λx d=>(g x d).below hb,λhp=>?_⟩
 obtain⟨b,o,e,hl,hc⟩:=j hp;exact⟨b,o,e,aL hl hb.size,λi x d=>(by grind [Below.cell])⟩
def lr (w:az)(base:Nat)(ad:Option bB)(l:List (Int×Int)):Prop:=dQ w ad l/\(0<L l->∃b o,ad=OR ⟨b,o,O0⟩/\base<=b)
def jZ (w:az)(base:Nat)(ad:Option bB)(c:List (Int×List (Int×Int))):Prop:=
 ∃m:List ec,hW m=c/\(∀x∈m,dQ w x.2.1 x.2.2.2)/\(∀k,gf m k->base<=k)/\(0<L m->∃b o,ad=OR ⟨b,o,O0⟩/\base<=b/\b<I (G w)/\∀i x,m[i]?=OR x->V w (av b (o+i*2))=OR (ak x.1)/\V w (av b (o+i*2+1))=OR (Z x.2.1 (L x.2.2.2) x.2.2.1))
theorem jZ.ln {w:az}{base:Nat}{ad:Option bB}{b:List _}(h:jZ w base ad b):Ln w ad b:=by obtain⟨m,c,d,_,e⟩:=h;exact⟨m,c,d,λhp=>by grind⟩
theorem lr.fr {F:Nat->Prop}{w w':az}{base:Nat}{ad:Option bB}{l:List (Int×Int)}(h:lr w base ad l)(f:Fr F w w')(c:∀b,F b->b<base):lr w' base ad l:=
 ⟨h.1.keep f.size (λhp b e=>by
  obtain⟨d,g,i,hb⟩:=h.2 hp;obtain⟨b1,o1,j,l1,_⟩:=h.1 hp
  grind [Fr.block]),h.2⟩
theorem jZ.fr {F:Nat->Prop}{w w':az}{base:Nat}{ad:Option bB}{g:List (Int×List (Int×Int))}(h:jZ w base ad g)(f:Fr F w w')(p:∀b,F b->b<base):jZ w' base ad g:=by
 obtain⟨m,l,i,j,n⟩:=h;refine⟨m,l,λx d=>(i x d).keep f.size (λhp b e=>?_),j,λhp=>?_⟩
 ·obtain⟨b1,o1,k,l1,_⟩:=i x d hp;rw[k] at e;cases e;have q:=j b1 ⟨x,d,hp,o1,k⟩
  grind [Fr.block]
 ·obtain⟨b,o,e,g1,g2,c⟩:=n hp;have hb:w'.heap[b]?=w.heap[b]?:=(by grind [Fr.block])
  grind [aS]
theorem lr.below {w w':az}{base:Nat}{ad:Option bB}{l:List (Int×Int)}(h:lr w base ad l)(hb:O7 (I (G w)) w w'):lr w' base ad l:=h.fr (F:=λ_=>False) (Fr.of hb) (by grind)
theorem jZ.below {w w':az}{base:Nat}{ad:Option bB}{b:List (Int×List (Int×Int))}(h:jZ w base ad b)(hb:O7 (I (G w)) w w'):jZ w' base ad b:=h.fr (F:=λ_=>False) (Fr.of hb) (by grind)
open Go.ChangeShapes Go.WideShapes Go.ChangeAt Go.RowKit Go.Joins Go.Deep W ch
structure S6 where
 k:Int
 R:Int
 A:Int
 B:Int
 I:Int
 n:Int
def gQ (a:Int):Prop:=-9223372036854775808<=a/\a<=9223372036854775807
def hB (b u a:Int):Bool:=decide (b<=a/\a<b+u)
theorem kM {b u a:Int}(h:hB b u a=C):b<=a/\a<b+u:=by simpa[hB] using h
def dB (N y g:Nat)(a:Int):Bool:=hB 0 y a||hB N g a
def ld (N y g:Nat)(ws:List Int)(a:Int):Int:=if dB N y g a=C then X ws (K a) 0 else 0
theorem ku {N O y g:Nat}{a:Int}(h:dB N y g a=C)(hy:y<=N)(hg:g<=O):0<=a/\a<(N:Int)+O:=by
 rcases Bool.or_eq_true _ _▸h with h|h
 ·have:=kM h;omega
 ·have:=kM h;omega
theorem nf (b s u:Int)(w:az)(hb:0<=b)(c:b<=100000)(d:0<=u)(f:u<=100000):
 M J 223 #[bz #[ak b,ak s,ak u]] w λe w'=>e=Q (ak (b+u))/\O7 (I (G w)) w w':=by
 exact ll
theorem qr (b s u:Int)(w:az)(hb:0<=s)(c:s<=100000)(d:0<=u)(f:u<=100000):
 M J 236 #[bz #[ak b,ak s,ak u]] w λe w'=>e=Q (ak (s-u))/\O7 (I (G w)) w w':=by
 exact ll
theorem yj (b s u a:Int)(w:az)(hb:0<=b)(c:b<=100000)(d:0<=u)(f:u<=100000):
 M J 234 #[bz #[ak b,ak s,ak u],ak a] w λe w'=>e=Q (bA (hB b u a))/\O7 (I (G w)) w w':=by
 by_cases h:b<=a
 ·have e:hB b u a=decide (a<b+u):=by simp[hB,h]
  rw[e];go_enter func234,ntmps234;go_wp2_with fail;refine(nf b s u _ hb c d f).mono ?_;rintro e w1 ⟨rfl,g⟩
  go_wp2;go_ret;exact⟨rfl,(bZ.alloc bY _).trans (g.mono ac)⟩
 ·have e:hB b u a=O4:=by simp[hB,h]
  rw[e];exact ll
theorem n6 {p q N O y g:Nat}{ws:List Int}(a:Int)(w:az)(h:At w p q N O y g ws):
 M J 171 #[aq p,ak a] w λe w'=>e=Q (bA (hB 0 y a))/\O7 (I (G w)) w w':=by
 obtain⟨c0,c1,c2,c3,b,c,d⟩:=h.cells;have k1:=h.hN';have k2:=h.hy;go_enter func171,ntmps171;go_wp2_with fail;refine(yj 0 N y a _ aa aa aa aa).mono ?_;exact rN
theorem n7 {p q N O y g:Nat}{ws:List Int}(a:Int)(w:az)(h:At w p q N O y g ws):
 M J 172 #[aq p,ak a] w λe w'=>e=Q (bA (hB N g a))/\O7 (I (G w)) w w':=by
 obtain⟨c0,c1,c2,c3,b,c,d⟩:=h.cells;have k1:=h.hN';have k2:=h.hO;have k3:=h.hg;go_enter func172,ntmps172;go_wp2_with fail;refine(yj N O g a _ aa aa aa aa).mono ?_;exact rN
theorem rQ {p q N O y g:Nat}{ws:List Int}(a:Int)(w:az)(h:At w p q N O y g ws):
 M J 233 #[aq p,ak a] w λe w'=>e=Q (bA (dB N y g a))/\O7 (I (G w)) w w':=by
 cases hy:hB 0 y a
 ·have e:dB N y g a=hB N g a:=by simp[dB,hy]
  rw[e];have b:=cg hy;go_enter func233,ntmps233;go_wp2_with fail;refine(n6 a _ h).mono ?_;rintro e w1 ⟨rfl,hb1⟩
  rw[b.o];go_wp2_with fail;refine(n7 a _ (h.below hb1 bY)).mono ?_;rintro e d ⟨rfl,c⟩
  go_wp2;go_ret;exact⟨rfl,hb1.trans (c.mono hb1.size)⟩
 ·have e:dB N y g a=C:=by simp[dB,hy]
  rw[e];go_enter func233,ntmps233;go_wp2_with fail;refine(n6 a _ h).mono ?_;exact rN
theorem kN {p q N O y g:Nat}{ws:List Int}(a:Int)(w:az)(h:At w p q N O y g ws):
 M J 256 #[aq p,ak a] w λe w'=>e=Q (ak (ld N y g ws a))/\O7 (I (G w)) w w':=by
 cases hi:dB N y g a
 ·have e:ld N y g ws a=0:=by simp[ld,hi]
  rw[e];have c:=cg hi;go_enter func256,ntmps256;go_wp2_with fail;refine(rQ a _ h).mono ?_;rintro e w1 ⟨rfl,b⟩
  rw[c.o];go_wp2;go_ret;exact⟨rfl,b⟩
 ·have e:ld N y g ws a=X ws (K a) 0:=by simp[ld,hi]
  rw[e];obtain⟨f,i⟩:=ku hi h.hy h.hg;have c:=cg hi;clear hi;go_enter func256,ntmps256;go_wp2_with fail;refine(rQ a _ h).mono ?_;rintro e w1 ⟨rfl,b⟩
  rw[c.o];have d:=h.below b bY
  obtain⟨c0,c1,c2,c3,j,k,l⟩:=d.cells;have m:=d.word (K a) aa;go_wp2;go_ret;exact⟨rfl,b⟩
theorem mK {p q N O y g:Nat}{ws:List Int}(a x:Int)(w:az)(h:At w p q N O y g ws):
 M J 169 #[aq p,ak a,ak x] w λe w'=>e=Q (bA (dB N y g a))/\At w' p q N O y g (if dB N y g a=C then ws.set (K a) x else ws)/\dl p q w w':=by
 cases hi:dB N y g a
 ·rw[aJ ac];have d:=cg hi;go_enter func169,ntmps169;go_wp2_with fail;refine(rQ a _ h).mono ?_;rintro e w1 ⟨rfl,b⟩
  rw[d.o];go_wp2;go_ret;exact⟨rfl,h.below b bY,dl.of b⟩
 ·rw[aN rfl];obtain⟨f,i⟩:=ku hi h.hy h.hg;go_enter func169,ntmps169;go_wp2_with fail;refine(rQ a _ h).mono ?_;rintro e w1 ⟨rfl,b⟩
  have c:=h.below b bY
  obtain⟨c0,c1,c2,c3,j,k,l⟩:=c.cells;have m:=c.word (K a) aa;have n:=c.uC (K a);go_wp2;go_ret;exact⟨rfl,c.set (K a) x,(dl.of b).trans (dl.uB _ _)⟩
theorem hC {p q N O y g:Nat}{ws:List Int}(a:Int)(w:az)(h:At w p q N O y g ws):
 M J 224 #[aq p,ak a] w λe w'=>e=Q (ay #[ak (pk (ld N y g ws a)),ak (pf (ld N y g ws a)),ak (pc (ld N y g ws a))])/\O7 (I (G w)) w w':=by
 go_enter func224,ntmps224;go_wp2_with fail;refine(kN a _ h).mono ?_;rintro e w1 ⟨rfl,b⟩
 go_wp2_with fail;refine(Ek _ _).mono ?_;rintro e c ⟨rfl,rfl⟩
 go_wp2
 go_ret3
 exact⟨rfl,b⟩
theorem lZ {p q N O y g:Nat}{ws:List Int}(w:az)(h:At w p q N O y g ws):
 M J 61 #[aq p] w λe w'=>e=Q (ay #[ak y,ak g])/\O7 (I (G w)) w w':=by
 obtain⟨c0,c1,c2,c3,b,c,d⟩:=h.cells;exact ut
theorem n8 {p q N O y g:Nat}{ws:List Int}(w:az)(h:At w p q N O y g ws):
 M J 153 #[aq p] w λe w'=>e=Q (ay #[ak 0,ak N])/\O7 (I (G w)) w w':=by
 obtain⟨c0,c1,c2,c3,b,c,d⟩:=h.cells;exact ut
theorem yk {p q N O y g:Nat}{ws:List Int}(w:az)(h:At w p q N O y g ws):
 M J 184 #[aq p] w λe w'=>e=Q (ay #[])/\At w' p q N O 0 g ws/\dl p q w w':=by
 obtain⟨c0,c1,c2,c3,b,c,d⟩:=h.cells;have f:=h.frozen 3;go_wp2;go_end0;exact⟨rfl,h.ya 0 (a4 _),dl.qm _ _⟩
theorem Eu {p q N O y g:Nat}{ws:List Int}(n:Int)(w:az)(h:At w p q N O y g ws)(h0:0<=n)(b:n<=O):
 M J 274 #[aq p,ak n] w λe w'=>e=Q (ay #[])/\At w' p q N O y (K n) ws/\dl p q w w':=by
 obtain⟨n,rfl⟩:=bC h0;obtain⟨c0,c1,c2,c3,c,d,f⟩:=h.cells;have i:=h.frozen 6;go_wp2;go_end0;exact⟨rfl,h.yb n aa,dl.qm _ _⟩
theorem Ev {p q N O y g:Nat}{ws:List Int}(n:Int)(w:az)(h:At w p q N O y g ws)(h0:0<=n)(l:n<=(N:Int)-y):
 M J 309 #[bq (OR ⟨p,1,O0⟩),ak n] w λe w'=>e=Q (ay #[ak y,bA C])/\At w' p q N O (y+K n) g ws/\dl p q w w':=by
 obtain⟨n,rfl⟩:=bC h0;obtain⟨c0,c1,c2,c3,c,d,f⟩:=h.cells;have k1:=h.hN';have k2:=h.hy;go_enter func309,ntmps309;go_wp2_with fail;refine(qr 0 N y _ aa aa aa aa).mono ?_;rintro e w1 ⟨rfl,i⟩
 have j:=h.below i bY
 obtain⟨c0,c1,c2,c3,c,d,f⟩:=j.cells;go_wp2_with fail;refine(nf 0 N y _ aa aa aa aa).mono ?_;rintro e m ⟨rfl,k⟩
 have b:=j.below k bY
 obtain⟨c0,c1,c2,c3,c,d,f⟩:=b.cells;have o:=b.frozen 3;go_wp2_with fail;go_ret2;exact⟨ac,b.ya (y+n) aa,((dl.of i).trans (dl.of k)).trans (dl.qm _ _)⟩
theorem Ew {p q N O y g:Nat}{ws:List Int}(n:Int)(w:az)(h:At w p q N O y g ws)(h0:(N:Int)-y<n):
 M J 309 #[bq (OR ⟨p,1,O0⟩),ak n] w λe w'=>e=Q (ay #[ak 0,bA O4])/\O7 (I (G w)) w w':=by
 obtain⟨c0,c1,c2,c3,c,d,f⟩:=h.cells;have k1:=h.hN';have k2:=h.hy;go_enter func309,ntmps309;go_wp2_with fail;refine(qr 0 N y _ aa aa aa aa).mono ?_;rintro e w1 ⟨rfl,b⟩
 go_wp2;go_ret2;exact⟨rfl,b⟩
theorem Ex {p q N O y g:Nat}{ws:List Int}(n:Int)(w:az)(h:At w p q N O y g ws)(h0:0<=n)(l:n<=(O:Int)-g):
 M J 309 #[bq (OR ⟨p,4,O0⟩),ak n] w λe w'=>e=Q (ay #[ak (N+g:Nat),bA C])/\At w' p q N O y (g+K n) ws/\dl p q w w':=by
 obtain⟨n,rfl⟩:=bC h0;obtain⟨c0,c1,c2,c3,c,d,f⟩:=h.cells;have k1:=h.hN';have k2:=h.hg;have k3:=h.hO;go_enter func309,ntmps309;go_wp2_with fail;refine(qr N O g _ aa aa aa aa).mono ?_;rintro e w1 ⟨rfl,i⟩
 have j:=h.below i bY
 obtain⟨c0,c1,c2,c3,c,d,f⟩:=j.cells;go_wp2_with fail;refine(nf N O g _ aa aa aa aa).mono ?_;rintro e m ⟨rfl,k⟩
 have b:=j.below k bY
 obtain⟨c0,c1,c2,c3,c,d,f⟩:=b.cells;have o:=b.frozen 6;go_wp2_with fail;go_ret2;exact⟨ac,b.yb (g+n) aa,((dl.of i).trans (dl.of k)).trans (dl.qm _ _)⟩
theorem Ey {p q N O y g:Nat}{ws:List Int}(n:Int)(w:az)(h:At w p q N O y g ws)(h0:(O:Int)-g<n):
 M J 309 #[bq (OR ⟨p,4,O0⟩),ak n] w λe w'=>e=Q (ay #[ak 0,bA O4])/\O7 (I (G w)) w w':=by
 obtain⟨c0,c1,c2,c3,c,d,f⟩:=h.cells;have k2:=h.hg;have k3:=h.hO;go_enter func309,ntmps309;go_wp2_with fail;refine(qr N O g _ aa aa aa aa).mono ?_;rintro e w1 ⟨rfl,b⟩
 go_wp2;go_ret2;exact⟨rfl,b⟩
theorem qs {p q N O y g:Nat}{ws:List Int}(w:az)(h:At w p q N O y g ws):
 M J 174 #[aq p] w λe w'=>e=Q (ay #[ak ((N:Int)-y),ak ((O:Int)-g)])/\O7 (I (G w)) w w':=by
 obtain⟨c0,c1,c2,c3,f,i,j⟩:=h.cells;have k1:=h.hN';have k2:=h.hg;have k3:=h.hO;have k4:=h.hy;go_enter func174,ntmps174;go_wp2_with fail
 go_region_with (go_at_call 236;refine(qr _ _ _ _ aa aa aa aa).mono ?_;rintro e w1 ⟨rfl,b⟩;have d:At w1 p q N O y g ws:=(by first|exact h.drew.below b bY|exact d.below b bY);have c:O7 (I (G w)) w w1:=(by first|exact(aH _ w).drew.trans b|exact c.trans (b.mono c.size));obtain⟨c0,c1,c2,c3,f,i,j⟩:=d.cells)
 all_goals
  go_wp2_with fail;go_ret2;exact⟨rfl,c⟩
theorem yl:(prog.info? 2).map (λi=>(i.zero,i.size,i.bytes))=OR (OR (ak 0),1,8):=ah
theorem ym {w:az}{b k n:Nat}(h:aC w b 2 1 (Z (au k) n n) n (madeCells (Value.int OW 0).cells (n*1)).toList):
 w.heap[k]?=OR (OX ((aZ n (0:Int)).map (Value.int OW)).toArray 2 (0,0)):=by
 exact xZ
theorem uG {w:az}{k:Nat}(o:Obj)(h:I (G w)=k):(w.alloc o).heap[k]?=OR o:=by subst h;exact aO _ _
theorem Ez {w w1:az}{a b:a7}{t:bI}(hg:(bu w (OX #[a,b] t)).grownBy w1 O0):
 V w1 (av (I (G w)) 0)=OR a/\V w1 (av (I (G w)) 1)=OR b/\bF w1 (av (I (G w)) 0)=O4/\bF w1 (av (I (G w)) 1)=O4/\I (G w)<I (G w1):=by
 have hb:=hg.block (I (G w)) ac ac;have hz:=hg.size;rw[(aO _ _)] at hb;refine⟨?_,?_,?_,?_,by simp at hz;omega⟩<;>simp[World.cell?,World.frozen?,hb]
theorem EA (n o:Int)(w:az)(h0:16<=n)(k:n<=256)(c:0<=o)(l:o<=1024):
 M J 152 #[ak n,ak o] w λe w'=>∃p q,e=Q (ay #[aq p,bz #[ak 0,ak 0]])/\At w' p q (K n) (K o) 0 0 (aZ (K n+K o) 0)/\I (G w)<=p/\I (G w)<=q/\O7 (I (G w)) w w':=by
 obtain⟨n,rfl⟩:=bC (show 0<=n by omega)
 obtain⟨o,rfl⟩:=bC c;simp only [Int.toNat_natCast];obtain⟨d,hi,f,g,i⟩:=bM yl;go_enter func152,ntmps152;go_wp2_with (at_make;refine wpList_make_full _ rfl _ _ 66 rfl (I (G w)) 2 d (ak 0) 1 underlying66 hi f g OW OW _ _ (n+o) rfl rfl aa aa (by rw[i];omega) (by unfold bL;omega) ac ?_;intro w1 j b;obtain⟨c0,c1,m,s,hz⟩:=Ez b)
 have hr:=ym j;simp only [World.size_alloc] at hr;have t:=cj hr;refine a3 (v:=ay #[aq (I (G w1)),bz #[ak 0,ak 0]]) (by simp[results,results152,go_sem,c0,c1,hz]) rfl ⟨I (G w1),I (G w)+1,rfl,⟨?_,?_,ac,aa,aa,aa,aa,aa⟩,aa,aa,?_⟩
 ·exact uG _ (by simp[World.setCell])
 ·refine(aU _ _ _ (by simp[World.setCell];omega)).trans ?_;rw[aW _ _ _ _ ac,aW _ _ _ _ ac];exact hr
 ·refine Below.alloc (Below.setCell (Below.setCell ?_ ?_ _) ?_ _) ?_ _
  ·exact(bZ.alloc bY _).grown b ac (λ_ h=>by cases h)
  ·exact aG _
  ·exact aG _
  ·simp[World.setCell];omega
theorem EB (n o:Int)(w:az)(h:n<16\/256<n\/o<0\/1024<o):
 M J 152 #[ak n,ak o] w λe w'=>e=Q (ay #[bq O0,bz #[ak 1,ak (-1)]])/\O7 (I (G w)) w w':=by
 by_cases b:n<16
 ·go_enter func152,ntmps152;exact uq
 by_cases c:256<n
 ·go_enter func152,ntmps152;exact uq
 by_cases d:o<0
 ·go_enter func152,ntmps152;exact uq
 have f:1024<o:=aa;go_enter func152,ntmps152;go_wp2_with fail;exact a3 (v:=ay #[bq O0,bz #[ak 1,ak (-1)]]) (by simp[results,results152,go_sem]) rfl ⟨rfl,bZ.alloc bY _⟩
end Go.Proofs.YtjckpdepffejnaaGreatDoor
