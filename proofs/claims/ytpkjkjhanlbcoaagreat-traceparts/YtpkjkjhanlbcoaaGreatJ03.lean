import Derived.Test.YtpkjkjhanlbcoaaGreatJ02
import Derived.Maps.OwnSet
namespace Go.Proofs.YtpkjkjhanlbcoaaGreat
set_option maxRecDepth 100000
set_option maxHeartbeats 1000000
open Tryz
open Go.RowKit W
theorem sE {P:Prop}(h:P:=by
 go_wp2_with fail;refine P.mono ?_;clear P;rintro e w1 ⟨rfl,hb1⟩
 have y1:=(hb1.cell (p:=av pw 0) iF).trans c0;go_wp2_with fail;refine(kR.o w1 hb1).mono ?_;rintro e w2 ⟨rfl,W2,F2⟩
 clear y1;go_wp2_with fail;refine(n8.o w2).mono ?_;rintro e w3 ⟨rfl,hb3⟩
 have W3:=W2.o.below hb3;have mZ:=F2.o.trans (Fr.of (X:=fun k=>k=p\/k=q\/k=pc\/k=cT) hb3) (fun _ c=>aM c)
 obtain⟨y0,y1,_,_,l3⟩:=W3.cells;clear y0 y1;go_wp2_with fail;go_ret;exact⟨rfl,W3,mZ⟩):P:=h
theorem w9 {P:Prop}(h:P:=by
 go_enter func171,ntmps171;go_wp2_with fail;refine(kQ w HA.o).mono ?_;rintro e w1 ⟨rfl,hb1⟩
 have y1:=(hb1.cell (p:=av pw 0) iF).trans hc;go_wp2_with fail;refine(mX w1 (HA.o.below hb1 b7)).mono ?_;rintro e w2 ⟨rfl,hb2⟩
 have et:=hb1.trans (hb2.mono hb1.size)
 have y2:=(et.cell (p:=av pw 0) iF).trans hc;have P:=mW a w2 (HA.o.below et b7)
 rw[ho] at P;go_wp2_with fail;refine P.mono ?_;rintro e w3 ⟨rfl,hb3⟩
 have jW:=et.trans (hb3.mono et.size)
 go_wp2_with fail;go_ret;exact⟨rfl,jW⟩):P:=h
theorem w_ {P:Prop}(h:P:=by
 go_enter func101,ntmps101;go_wp2_with fail;refine P.mono ?_;rintro e w1 ⟨rfl,hb1⟩
 have y1:=(hb1.cell (p:=av pw 0) iF).trans hc;go_wp2_with fail;refine(HK.o w1 hb1).mono ?_;rintro e w2 ⟨d1,f1,d2,f2,rfl,L1,L2,hb2⟩
 have et:=hb1.trans (hb2.mono hb1.size)
 go_wp2_with fail;refine(L1.o w2 b8).mono ?_;rintro e w3 ⟨rfl,hb3⟩
 have jW:=et.trans (hb3.mono et.size)
 go_wp2_with fail;refine(L2.o w3 hb3).mono ?_;rintro e w4 ⟨rfl,hb4⟩
 have Dd:=jW.trans (hb4.mono jW.size)
 go_wp2_with fail;go_ret2;exact⟨rfl,Dd⟩):P:=h
theorem xa {P:Prop}(h:P:=by
 by_cases c:i<t
 ·rw[List.getElem?_append_left (by simp;omega),aI aa,List.getElem?_take_of_lt c]
 ·have e1:(ws.take t).length=t:=by simp;omega
  rw[List.getElem?_append_right aa,e1];by_cases c2:i<t+n
  ·rw[aK aa,List.getElem?_append_left aa,List.getElem?_take_of_lt aa,List.getElem?_drop,show f+(i-t)=f+i-t by omega]
  ·rw[aI aa,List.getElem?_append_right aa,hl,List.getElem?_drop,show t+n+(i-t-n)=i by omega]):P:=h
theorem xc {P:Prop}(h:P:=by
 go_enter func92,ntmps92;go_wp2_with fail;refine P.mono ?_;rintro e w1 ⟨rfl,hb1⟩
 have y1:=(hb1.cell (p:=av pw 0) iF).trans hc;go_wp2_with fail;refine(K.o w1 hb1).mono ?_;rintro e w2 ⟨rfl,hb2⟩
 have et:=hb1.trans (hb2.mono hb1.size)
 go_wp2_with fail;refine(kR.o w2 et).mono ?_;rintro e w3 ⟨rfl,hb3⟩
 have jW:=et.trans (hb3.mono et.size)
 go_wp2_with fail
 go_ret3
 exact⟨rfl,jW⟩):P:=h
theorem xd {P:Prop}(h:P:=by
 go_enter func92,ntmps92;go_wp2_with fail;refine P.mono ?_;rintro e w1 ⟨rfl,hb1⟩
 have y1:=(hb1.cell (p:=av pw 0) iF).trans hc;go_wp2_with fail;refine(K.o w1 hb1).mono ?_;rintro e w2 ⟨rfl,hb2⟩
 have et:=hb1.trans (hb2.mono hb1.size)
 go_wp2_with fail
 go_ret3
 exact⟨rfl,et⟩):P:=h
theorem sF {P:Prop}(h:P:=by rw[ef (hD hi.1 hi.2),ef (hD hi.1 hi.2),jT _ _ _ _ _ hlt,aI aa,aI aa]):P:=h
theorem sG {P:Prop}(h:P:=by
 go_wp2_with fail;refine P.mono ?_;rintro e w1 ⟨rfl,hb1⟩
 go_wp2_with fail;go_ret2;exact⟨rfl,hb1⟩):P:=h
theorem xe {P:Prop}(h:P:=by rw[ef (iW hi.1 aa),ef (iW hi.1 hi.2),jT _ _ _ _ _ hlt,aI aa,aI aa]):P:=h
theorem De (w:az)(ad:Option Addr)(l:List Int)(cap:Nat)(v:Int)(h:iU w ad l)(hm:l.length<=100000):
 Calls prog 225 #[.slice ad l.length cap,ak v] w fun e w'=>∃a:Int,e=.returned (ak a)/\decide (0<=a)=l.contains v/\Below w.heap.size w w':=by
 go_enter func225,ntmps225;go_wp2_with fail
 go_loopw [8] (fun iv wr=>∃j:Nat,j<=l.length/\iv=ak j/\aA (∀i,i<j->¬l.getD i 0=v)/\Below w.heap.size w wr) (fun iv _=>l.length-(intOf iv).toNat)
 exact⟨0,a4 _,rfl,fun i h=>aa,aH _ _⟩
 ·
   obtain⟨j,n,rfl,d,hb⟩:=hrel;by_cases f:j<l.length
   ·obtain⟨o,p,k,q,hc⟩:=(hide h).o.below hb aa;have g:=hc j f;subst k;by_cases hv:l.getD j 0=v
    ·have b:l.contains v=true:=by rw[List.contains_iff_mem,<-hv,aJ,aN f];exact a8 _
     rw[hv] at g;clear hc;go_wp2;go_ret;exact⟨j,rfl,by rw[b];simp,hb⟩
    ·have m:aA (∀i,i<j+1->¬l.getD i 0=v):=fun i hi=>by
      by_cases c:i=j
      ·rw[c];exact hv
      ·exact d.o i aa
     generalize l.getD j 0=u at g hv;clear hc;go_wp2;go_roundw;exact⟨j+1,aa,aj,m,hb⟩
     simp[intOf];omega
   ·obtain rfl:j=l.length:=aa;have b:l.contains v=false:=by rw[Bool.eq_false_iff];intro hc;rw[List.contains_iff_mem] at hc;obtain⟨i,hi,e⟩:=List.mem_iff_getElem.1 hc;exact d.o i hi (by simp[List.getElem?_eq_getElem hi,e])
    go_wp2;go_ret;exact⟨-1,rfl,by rw[b];rfl,hb⟩
theorem xf (w:az)(ad:Option Addr)(l:List Int)(cap:Nat)(v:Int)(h:iU w ad l)(hm:l.length<=100000):
 Calls prog 177 #[.slice ad l.length cap,ak v] w fun e w'=>e=.returned (.bool (l.contains v))/\Below w.heap.size w w':=by
 go_enter func177,ntmps177;go_wp2_with fail;refine(De w ad l cap v h hm).mono ?_;rintro e w1 ⟨a,rfl,ha,b⟩
 have c:=hide ha;clear ha;go_wp2;go_ret;exact⟨by rw[<-c.o];rfl,b⟩
def tB (N y g:Nat)(ws:List Int)(x:Int):Bool:=dd x&&((eC N y g ws).contains (cq x)||(dH N y g ws).contains (cq x))
def jX (N y g:Nat)(ws:List Int)(x:Int):Int:=if tB N y g ws x=true then cq x else 0
theorem aT (w:az)(a:Addr){u:Value}(h:w.cell? a = some u):a.block < w.heap.size:=by intros;apply World.block_lt_of_cell?<;>assumption
theorem Df {pw p q N O y g:Nat}{ws:List Int}(x:Int)(w:az)(hc:w.cell? (av pw 0)=some (aq p))(h:At w p q N O y g ws)(l:(eC N y g ws).length<=100000)(hO:(dH N y g ws).length<=100000):
 Calls prog 101 #[aq pw,ak x] w fun e w'=>e=.returned (.tuple #[ak (jX N y g ws x),.bool (tB N y g ws x)])/\Below w.heap.size w w':=by
 have m:=hide h;have iF:=aT w _ hc;have P:=nY x w;cases ha:dd x
 ·have c:tB N y g ws x=false:=by simp[tB,ha]
  have d:jX N y g ws x=0:=by simp[jX,c]
  rw[c,d];rw[ha] at P;go_enter func101,ntmps101;exact sG
 ·rw[ha] at P;have c:tB N y g ws x=((eC N y g ws).contains (cq x)||(dH N y g ws).contains (cq x)):=by simp[tB,ha]
  have d:jX N y g ws x=if((eC N y g ws).contains (cq x)||(dH N y g ws).contains (cq x))=true then cq x else 0:=by unfold jX;rw[c]
  rw[c,d];generalize cq x=v at P;obtain⟨c1,f⟩:∃b,(eC N y g ws).contains v=b:=⟨_,rfl⟩
  obtain⟨c2,i⟩:∃b,(dH N y g ws).contains v=b:=⟨_,rfl⟩
  rw[f,i];have n:=hide f;have o:=hide i;have K:∀w1,Below w.heap.size w w1->Calls prog 129 #[aq p] w1 fun e w'=>∃d1 f1 d2 f2,e=.returned (.tuple #[.slice d1 (eC N y g ws).length f1,.slice d2 (dH N y g ws).length f2])/\aA (∀w3,Below w'.heap.size w' w3->Calls prog 177 #[.slice d1 (eC N y g ws).length f1,ak v] w3 fun e w4=>e=.returned (.bool c1)/\Below w3.heap.size w3 w4)/\aA (∀w3,Below w'.heap.size w' w3->Calls prog 177 #[.slice d2 (dH N y g ws).length f2,ak v] w3 fun e w4=>e=.returned (.bool c2)/\Below w3.heap.size w3 w4)/\Below w1.heap.size w1 w':=fun w1 hb1=>by
   refine(qg w1 (m.o.below hb1 b7)).mono ?_;rintro e w2 ⟨v1,v2,rfl,j,k,hb2⟩
   obtain⟨d1,f1,rfl⟩:=eN j;obtain⟨d2,f2,rfl⟩:=eN k;refine⟨d1,f1,d2,f2,rfl,fun w3 hb3=>?_,fun w3 hb3=>?_,hb2⟩
   ·rw[<-n.o];exact xf w3 d1 (eC N y g ws) f1 v ((gX j).below hb3) l
   ·rw[<-o.o];exact xf w3 d2 (dH N y g ws) f2 v ((gX k).below hb3) hO
  have HK:=hide K;cases c1
  ·cases c2
   ·simp only [Bool.or_self,Bool.false_eq_true,if_false];exact w_
   ·simp only [Bool.false_or,if_true];exact w_
  ·simp only [Bool.true_or,if_true];go_enter func101,ntmps101;go_wp2_with fail;refine P.mono ?_;rintro e w1 ⟨rfl,hb1⟩
   have y1:=(hb1.cell (p:=av pw 0) iF).trans hc;go_wp2_with fail;refine(HK.o w1 hb1).mono ?_;rintro e w2 ⟨d1,f1,d2,f2,rfl,L1,L2,hb2⟩
   have et:=hb1.trans (hb2.mono hb1.size)
   go_wp2_with fail;refine(L1.o w2 b8).mono ?_;rintro e w3 ⟨rfl,hb3⟩
   have jW:=et.trans (hb3.mono et.size)
   go_wp2_with fail;go_ret2;exact⟨rfl,jW⟩
theorem iX {N y g:Nat}{ws:List Int}{hi:Int}:∀(k:Nat)(a:Int),(eJ N y g ws hi k a).length<=k
 |0,_=>by simp[eJ]
 |k+1,a=>by
  have b:=iX (N:=N) (y:=y) (g:=g) (ws:=ws) (hi:=hi) k (a+(1+pf (ld N y g ws a)))
  unfold eJ;split
  ·split
   ·rw[List.length_cons];omega
   ·simp
  ·simp
section
variable {pw p q N O y g:Nat}{ws:List Int}
theorem xg (x:Int)(w:az)(hc:w.cell? (av pw 0)=some (aq p))(h:At w p q N O y g ws):
 Calls prog 101 #[aq pw,ak x] w fun e w'=>e=.returned (.tuple #[ak (jX N y g ws x),.bool (tB N y g ws x)])/\Below w.heap.size w w':=
 Df x w hc h (aU (iX _ _) ae) (aU (iX _ _) ae)
theorem Dg (x:Int)(w:az)(hc:w.cell? (av pw 0)=some (aq p))(h:At w p q N O y g ws):
 Calls prog 48 #[aq pw,ak x] w fun e w'=>e=.returned (.tuple #[ak (if tB N y g ws x=true then pk (ld N y g ws (cq x)) else 0),ak (if tB N y g ws x=true then pf (ld N y g ws (cq x)) else 0),ak (if tB N y g ws x=true then pc (ld N y g ws (cq x)) else 2)])/\Below w.heap.size w w':=by
 have c:=hide h;have d:=aT w _ hc;have P:=xg x w hc h;cases ht:tB N y g ws x
 ·rw[ht] at P;simp only [Bool.false_eq_true,if_false];generalize jX N y g ws x=v at P;go_enter func48,ntmps48;go_wp2_with fail;refine P.mono ?_;rintro e w1 ⟨rfl,b⟩
  go_wp2_with fail
  go_ret3
  exact⟨rfl,b⟩
 ·rw[ht] at P;have ev:jX N y g ws x=cq x:=by simp[jX,ht]
  rw[ev] at P;simp only [if_true];generalize cq x=v at P;go_enter func48,ntmps48;go_wp2_with fail;refine P.mono ?_;rintro e w1 ⟨rfl,b⟩
  have y1:=(b.cell (p:=av pw 0) d).trans hc;go_wp2_with fail;refine(gy v w1 (c.o.below b b7)).mono ?_;rintro e j ⟨rfl,f⟩
  have i:=b.trans (f.mono b.size)
  go_wp2_with fail
  go_ret3
  exact⟨rfl,i⟩
def iG (N y g:Nat)(a f:Int):Int:=min f ((if hB N g a=true then(N:Int)+g else(y:Int))-a-1)
theorem xh (a f:Int)(w:az)(hc:w.cell? (av pw 0)=some (aq p))(h:At w p q N O y g ws)(a0:0<=a)(a1:a<=100000):
 Calls prog 171 #[aq pw,ak a,ak f] w fun e w'=>e=.returned (ak (iG N y g a f))/\Below w.heap.size w w':=by
 have HA:aA (At w p q N O y g ws):=h;have iF:=aT w _ hc;have k1:=h.hN';have c:=h.hy;have d:=h.hO;have i:=h.hg;clear h;unfold iG;cases ho:hB N g a
 ·simp only [Bool.false_eq_true,if_false];by_cases hm:f<=(y:Int)-a-1
  ·rw[Int.min_eq_left hm];have b:¬((y:Int)-a-1<f):=aa;go_enter func171,ntmps171;go_wp2_with fail;refine(kQ w HA.o).mono ?_;rintro e w1 ⟨rfl,hb1⟩
   have y1:=(hb1.cell (p:=av pw 0) iF).trans hc;go_wp2_with fail;refine(mX w1 (HA.o.below hb1 b7)).mono ?_;rintro e w2 ⟨rfl,hb2⟩
   have et:=hb1.trans (hb2.mono hb1.size)
   have y2:=(et.cell (p:=av pw 0) iF).trans hc;clear y1;have P:=mW a w2 (HA.o.below et b7)
   rw[ho] at P;go_wp2_with fail;refine P.mono ?_;clear P;rintro e w3 ⟨rfl,hb3⟩
   have jW:=et.trans (hb3.mono et.size)
   clear y2 hb1 hb2 et hb3;go_wp2_with fail;go_ret;exact⟨rfl,jW⟩
  ·rw[Int.min_eq_right aa];have b:(y:Int)-a-1<f:=aa;go_enter func171,ntmps171;go_wp2_with fail;refine(kQ w HA.o).mono ?_;rintro e w1 ⟨rfl,hb1⟩
   have y1:=(hb1.cell (p:=av pw 0) iF).trans hc;go_wp2_with fail;refine(mX w1 (HA.o.below hb1 b7)).mono ?_;rintro e w2 ⟨rfl,hb2⟩
   have et:=hb1.trans (hb2.mono hb1.size)
   have y2:=(et.cell (p:=av pw 0) iF).trans hc;clear y1;have P:=mW a w2 (HA.o.below et b7)
   rw[ho] at P;go_wp2_with fail;refine P.mono ?_;rintro e w3 ⟨rfl,hb3⟩
   have jW:=et.trans (hb3.mono et.size)
   go_wp2_with fail;go_ret;exact⟨rfl,jW⟩
 ·simp only [if_true];by_cases hm:f<=(N:Int)+g-a-1
  ·rw[Int.min_eq_left hm];have b:¬((N:Int)+g-a-1<f):=aa;exact w9
  ·rw[Int.min_eq_right aa];exact w9
end
theorem dr (h:Int):0<=pf h/\pf h<=12:=by
 unfold pf;split
 ·have:=i3 _ _ (by assumption)
  omega
 ·omega
theorem m0 {N y g:Nat}{ws:List Int}{hi:Int}:∀(k:Nat)(a x:Int),x∈eJ N y g ws hi k a->a<=x/\x<hi
 |0,_,_,h=>by simp[eJ] at h
 |k+1,a,x,h=>by
  unfold eJ at h;split at h
  ·split at h
   ·rcases List.mem_cons.1 h with h|h
    ·rw[h];exact⟨Int.le_refl _,by assumption⟩
    ·have b:=m0 k _ x h;have c:=dr (ld N y g ws a)
     omega
   ·simp at h
  ·simp at h
theorem xi {N O y g:Nat}{ws:List Int}{x:Int}(h:tB N y g ws x=true)(hN:N<=256)(hy:y<=N)(hO:O<=1024)(hg:g<=O):0<=cq x/\cq x<=1280:=by
 unfold tB at h;simp only [Bool.and_eq_true,Bool.or_eq_true,List.contains_iff_mem] at h;rcases h.2 with h|h
 ·have:=m0 _ _ _ h;omega
 ·have:=m0 _ _ _ h;omega
def eD (N y g:Nat)(ws:List Int)(x i:Int):Int:=
 if tB N y g ws x=true then(if pk (ld N y g ws (cq x))=5 then 2 else if i<0\/iG N y g (cq x) (pf (ld N y g ws (cq x)))<=i then 1 else 0) else 2
section
variable {pw p q N O y g:Nat}{ws:List Int}
theorem xj (x i:Int)(w:az)(hc:w.cell? (av pw 0)=some (aq p))(h:At w p q N O y g ws):
 Calls prog 92 #[aq pw,ak x,ak i] w fun e w'=>e=.returned (.tuple #[ak (if eD N y g ws x i=0 then cq x else 0),ak (if eD N y g ws x i=0 then cq x+1+i else 0),ak (eD N y g ws x i)])/\Below w.heap.size w w':=by
 have c:aA (At w p q N O y g ws):=h;have iF:=aT w _ hc;have P:=xg x w hc h;have k1:=h.hN';have l:=h.hy;have m:=h.hO;have n:=h.hg;cases ht:tB N y g ws x
 ·rw[ht] at P;have b:eD N y g ws x i=2:=by unfold eD;rw[ht,aI ac]
  rw[b,aI ae,aI ae];generalize jX N y g ws x=v at P;go_enter func92,ntmps92;go_wp2_with fail;refine P.mono ?_;rintro e w1 ⟨rfl,hb1⟩
  go_wp2_with fail
  go_ret3
  exact⟨rfl,hb1⟩
 ·obtain⟨d,b1⟩:=xi (O:=O) ht k1 l m n;have j:=dr (ld N y g ws (cq x))
  rw[ht] at P;have ev:jX N y g ws x=cq x:=by simp[jX,ht]
  rw[ev] at P;have b:eD N y g ws x i=if pk (ld N y g ws (cq x))=5 then 2 else if i<0\/iG N y g (cq x) (pf (ld N y g ws (cq x)))<=i then 1 else 0:=by unfold eD;rw[aK ht]
  rw[b];generalize cq x=v at P j d b1;have K:aA (∀w1,Below w.heap.size w w1->_):=fun w1 hb=>gy v w1 (c.o.below hb b7)
  have kR:aA (∀w1,Below w.heap.size w w1->Calls prog 171 #[aq pw,ak v,ak (pf (ld N y g ws v))] w1 fun e w'=>e=.returned (ak (iG N y g v (pf (ld N y g ws v))))/\Below w1.heap.size w1 w'):=fun w1 hb=>xh v _ w1 ((hb.cell (p:=av pw 0) iF).trans hc) (c.o.below hb b7) d aa;have o:iG N y g v (pf (ld N y g ws v))<=12:=by unfold iG;exact Int.le_trans (Int.min_le_left _ _) j.2
  generalize iG N y g v (pf (ld N y g ws v))=s at kR o⊢;generalize pk (ld N y g ws v)=kd at K⊢;generalize pf (ld N y g ws v)=f at K kR;generalize pc (ld N y g ws v)=cc at K;by_cases k:kd=5
  ·subst k;rw[aK rfl,aI ae,aI ae];exact xd
  ·rw[aI k];by_cases hi:i<0
   ·rw[aK (aM hi),aI ae,aI ae];exact xd
   ·by_cases hs:s<=i
    ·rw[aK (aL hs),aI ae,aI ae];exact xc
    ·have t:¬(i<0\/s<=i):=aa;rw[aI t,aK rfl,aK rfl];exact xc
theorem Dh (x i:Int)(w:az)(hc:w.cell? (av pw 0)=some (aq p))(h:At w p q N O y g ws):
 Calls prog 45 #[aq pw,ak x,ak i] w fun e w'=>e=.returned (.tuple #[ak (if eD N y g ws x i=0 then ld N y g ws (cq x+1+i) else 0),ak (eD N y g ws x i)])/\Below w.heap.size w w':=by
 have c:=hide h;have d:=aT w _ hc;have P:=xj x i w hc h;generalize eD N y g ws x i=cd at P⊢;by_cases h0:cd=0
 ·subst h0;rw[aK rfl,aK rfl] at P;rw[aK rfl];generalize cq x+1+i=fl at P⊢;generalize cq x=v at P;go_enter func45,ntmps45;go_wp2_with fail;refine P.mono ?_;rintro e w1 ⟨rfl,b⟩
  have y1:=(b.cell (p:=av pw 0) d).trans hc;go_wp2_with fail;refine(jS fl w1 (c.o.below b b7)).mono ?_;rintro e k ⟨rfl,f⟩
  have j:=b.trans (f.mono b.size)
  go_wp2;go_ret2;exact⟨rfl,j⟩
 ·rw[aI h0,aI h0] at P;rw[aI h0];go_enter func45,ntmps45;go_wp2_with fail;refine P.mono ?_;rintro e w1 ⟨rfl,b⟩
  go_wp2;go_ret2;exact⟨rfl,b⟩
end
def eb (L:Int->Int)(hi:Int):Int->List Int->Prop
 |a,[]=>a=hi
 |a,x::l=>x=a/\pc (L a)=0/\a+(1+pf (L a))<=hi/\eb L hi (a+(1+pf (L a))) l
section
variable {L L':Int->Int}{hi:Int}
theorem eb.done:eb L hi hi []:=rfl
theorem eb.step {a:Int}{l:List Int}(h0:pc (L a)=0)(b:a+(1+pf (L a))<=hi)(ht:eb L hi (a+(1+pf (L a))) l):eb L hi a (a::l):=⟨rfl,h0,b,ht⟩
theorem eb.mem {a:Int}{l:List Int}(h:eb L hi a l):∀x∈l,a<=x/\x+(1+pf (L x))<=hi/\pc (L x)=0:=by
 induction l generalizing a with
 |nil=>intro x b;simp at b
 |cons z l c=>
  obtain⟨rfl,h0,d,ht⟩:=h;intro x b;rcases List.mem_cons.1 b with rfl|b
  ·exact⟨Int.le_refl _,d,h0⟩
  ·have:=dr (L z)
   have e:=c ht x b;exact⟨aa,e.2⟩
theorem eb.apart {a:Int}{l:List Int}(h:eb L hi a l):∀x∈l,∀z∈l,x<z->x+(1+pf (L x))<=z:=by
 induction l generalizing a with
 |nil=>intro x b;simp at b
 |cons y l e=>
  obtain⟨rfl,h0,i,ht⟩:=h;intro x b z hz f;rcases List.mem_cons.1 b with ex|d
  ·rcases List.mem_cons.1 hz with g|c
   ·omega
   ·rw[ex];exact(ht.mem z c).1
  ·rcases List.mem_cons.1 hz with g|c
   ·have j:=(ht.mem x d).1;have k:=dr (L y)
    omega
   ·exact e ht x d z c f
theorem eb.heads {a:Int}{l:List Int}(h:eb L hi a l)(he:∀x∈l,L' x=L x):eb L' hi a l:=by
 induction l generalizing a with
 |nil=>exact h
 |cons z l b=>
  obtain⟨rfl,h0,c,ht⟩:=h;have e:=he z ac;refine .step (by rw[e];exact h0) (by rw[e];exact c) ?_;rw[e];exact b ht (fun x d=>he x (by simp[d]))
theorem eb.snoc {a:Int}{l:List Int}(h:eb L hi a l)(he:∀x∈l,L' x=L x){b:Int}(h0:pc (L' hi)=0)(c:b=hi+(1+pf (L' hi))):eb L' b a (l++[hi]):=by
 have hp:=dr (L' hi)
 induction l generalizing a with
 |nil=>
  have e:=h;subst e;refine .step h0 aa ?_;rw[<-c];exact .done
 |cons z l d=>
  obtain⟨rfl,f,i,ht⟩:=h;have e:=he z ac;refine .step (by rw[e];exact f) (by rw[e];omega) ?_;rw[e];exact d ht (fun x g=>he x (by simp[g]))
theorem eb.field {a:Int}{l:List Int}(h:eb L hi a l){v i:Int}(hv:v∈l)(b:0<=i)(c:i<pf (L v)):v+1+i∉l:=by intro hm;have:=h.apart v hv _ hm aa;omega
theorem eb.eJ {N y g:Nat}{ws:List Int}{hi a:Int}{l:List Int}(h:eb (ld N y g ws) hi a l):∀k:Nat,hi-a<=k->eJ N y g ws hi k a=l:=by
 induction l generalizing a with
 |nil=>
  have e:a=hi:=h;subst e;intro k _;exact wH k (Int.le_refl _)
 |cons z l b=>
  obtain⟨rfl,h0,c,ht⟩:=h;intro k hk;have hp:=dr (ld N y g ws z)
  match k,hk with
  |0,hk=>omega
  |k+1,hk=>
   unfold Proofs.YtpkjkjhanlbcoaaGreat.eJ;rw[aK aa,aK h0,b ht k aa]
end
structure ec (N y g:Nat)(ws:List Int)(Y G:List Int):Prop where
 ty:eb (ld N y g ws) y 0 Y
 es:eb (ld N y g ws) ((N:Int)+g) N G
theorem ec.lists {N O y g:Nat}{ws:List Int}{Y G:List Int}(h:ec N y g ws Y G)(hN:N<=256)(hy:y<=N)(hO:O<=1024)(hg:g<=O):eC N y g ws=Y/\dH N y g ws=G:=
 ⟨h.ty.eJ 2000 aa,h.es.eJ 2000 aa⟩
theorem ec.start {N:Nat}{ws:List Int}:ec N 0 0 ws [] []:=⟨.done,by simpa using eb.done (L:=ld N 0 0 ws) (hi:=(N:Int))⟩
theorem bm {p:Prop} [inst:Decidable p]:p -> Decidable.decide p = Bool.true:=decide_eq_true
theorem ec.stands {N y g:Nat}{ws:List Int}{Y G:List Int}(h:ec N y g ws Y G)(hy:y<=N){v:Int}(hv:v∈Y\/v∈G):iG N y g v (pf (ld N y g ws v))=pf (ld N y g ws v):=by
 have hp:=dr (ld N y g ws v)
 refine Int.min_eq_left ?_;rcases hv with hv|hv
 ·have b:=h.ty.mem v hv;have e:hB N g v=false:=by rw[Bool.eq_false_iff];intro c;have:=jC c;omega
  rw[e,aI ac];omega
 ·have b:=h.es.mem v hv;have e:hB N g v=true:=by exact bm ⟨b.1,aa⟩
  rw[e,aK rfl];omega
def lA (M:List Int)(k:Int):List Int:=if M.contains k then M else M++[k]
theorem sH (M:List Int)(k j:Int):(lA M k).contains j=(M.contains j||j==k):=by
 unfold lA;by_cases c:M.contains k=true
 ·rw[aK c];by_cases e:j=k
  ·subst e;rw[c];rfl
  ·simp[e]
 ·rw[aI c];by_cases e:j=k<;>simp[e]
theorem Di (M:List Int)(k:Int):(lA M k).length<=M.length+1:=by unfold lA;split<;>simp
theorem sI:Maps.Keyed prog 173:=Maps.int_keyed underlying173
theorem Dj (w:az):(zeroValue 212).run prog w=.ok (.agg #[]) w:=ah
structure Cd (w:az)(p q:Nat)(B c:Int)(M:List Int):Prop where
 hp:w.heap[p]?=some (.cells #[ak B,.int .u64 c,.map (some q)] 176 (0,0))
 hq:∃D:DataW Unit,w.ownsMap prog 173 unitElem q M.length D/\(∀k:Int,Maps.has D (.int .u64 k)=M.contains k)/\Maps.size D=M.length
theorem sJ {H:Type}{P:Program}{k:TypeId}{R:Value->Option _}{w w':az}{b n:Nat}{D:DataW H}(h:w.ownsMap P k R b n D)(e:w'.heap[b]?=w.heap[b]?):w'.ownsMap P k R b n D:=by obtain⟨c,d,hb,r⟩:=h;exact⟨c,d,e.trans hb,r⟩
theorem sK {H:Type}{P:Program}{k:TypeId}{R:Value->Option _}{w:az}{b n m:Nat}{D:DataW H}(h:w.ownsMap P k R b n D)(e:Maps.size D=m):w.ownsMap P k R b m D:=by obtain⟨c,d,hb,F,hs,rfl⟩:=h;exact⟨c,d,hb,F,by rw[<-e];simp[Maps.size,length_sorted],rfl⟩
theorem Cd.e5 {w:az}{p q:Nat}{B c:Int}{M:List Int}(h:Cd w p q B c M):p<w.heap.size:=lt_of_some h.hp
theorem Cd.e7 {w:az}{p q:Nat}{B c:Int}{M:List Int}(h:Cd w p q B c M):q<w.heap.size:=by obtain⟨D,b,_⟩:=h.hq;exact b.lt
theorem Cd.ne {w:az}{p q:Nat}{B c:Int}{M:List Int}(h:Cd w p q B c M):p≠q:=by intro e;obtain⟨D,⟨d,f,hb,_⟩,_⟩:=h.hq;have b:=h.hp;rw[e,hb] at b;simp at b
theorem Cd.same {w w':az}{p q:Nat}{B c:Int}{M:List Int}(h:Cd w p q B c M)(ep:w'.heap[p]?=w.heap[p]?)(eq:w'.heap[q]?=w.heap[q]?):Cd w' p q B c M:=by obtain⟨D,b,d⟩:=h.hq;exact⟨ep.trans h.hp,D,sJ b eq,d⟩
theorem Cd.below {w w':az}{p q X:Nat}{B c:Int}{M:List Int}(h:Cd w p q B c M)(hb:Below X w w')(b:w.heap.size<=X):Cd w' p q B c M:=
 h.same (hb.block p (aO h.e5 b)) (hb.block q (aO h.e7 b))
theorem Cd.cells {w:az}{p q:Nat}{B c:Int}{M:List Int}(h:Cd w p q B c M):
 w.cell? (av p 0)=some (ak B)/\w.cell? (av p 1)=some (.int .u64 c)/\w.cell? (av p 2)=some (.map (some q)):=by
 have hp:=h.hp;refine⟨?_,?_,?_⟩<;>simp[World.cell?,hp]
theorem Cd.put {w w':az}{p q:Nat}{B c k:Int}{M:List Int}{D:DataW Unit}{n:Nat}(h:w.heap[p]?=some (.cells #[.int .i64 B,.int .u64 c,.map (some q)] 176 (0,0)))
 (h0:w.ownsMap prog 173 unitElem q M.length D)(d:∀k:Int,Maps.has D (.int .u64 k)=M.contains k)(f:Maps.size D=M.length)(g:p≠q)
 (l:w'.ownsMap prog 173 unitElem q n (D.put (.int .u64 k) (.agg [])))(b:w.grownBy w' (some q)):Cd w' p q B c (lA M k)/\dh p q w w':=by
 have hs:Maps.size (D.put (.int .u64 k) (.agg []))=(lA M k).length:=by rw[Maps.size_put (h0.tidy sI),d,f];unfold lA;split<;>simp
 refine⟨⟨(b.block p (lt_of_some h) (fun e=>g (by cases e;rfl))).trans h,_,sK l hs,fun j=>?_,hs⟩,⟨b.os,b.tape,b.output,b.size,fun i hi _ e=>b.block i hi (fun m=>e (by cases m;rfl))⟩⟩
 rw[sH];by_cases e:j=k
 ·subst e;rw[Maps.has_put_same (k:=.int .u64 j) h0.isMap trivial];simp
 ·rw[Maps.has_put_other (by simpa using e),d];simp[e]
theorem Cd.none {w:az}{p q:Nat}{B c:Int}(h:w.heap[p]?=some (.cells #[.int .i64 B,.int .u64 c,.map (some q)] 176 (0,0)))(b:w.ownsMap prog 173 unitElem q 0 (.map []:DataW Unit)):Cd w p q B c []:=
 ⟨h,_,b,fun _=>rfl,rfl⟩
def dJ (x:Int):Int:=if x<0 then 0 else(x+8-1)/8
def cN (B a:Int):Int:=if a<B then 0 else(a-B)/8
def gf (B c a:Int):Bool:=decide (B<=a)&&decide ((a-B)/8<c)
theorem Dk (x:Int)(w:az)(h:x<=100000):Calls prog 166 #[ak x] w fun e w'=>e=.returned (.int .u64 (dJ x))/\w'=w:=by
 by_cases c:x<0
 ·have e:dJ x=0:=by unfold dJ;rw[aK c]
  rw[e];go_enter func166,ntmps166;go_wp2;go_ret;exact⟨rfl,rfl⟩
 ·have e:dJ x=(x+8-1)/8:=by unfold dJ;rw[aI c]
  go_wp2;go_ret;exact⟨rfl,rfl⟩
theorem bB {p:Prop} [Decidable p]:¬p -> Decidable.decide p = Bool.false:=decide_eq_false
theorem xk {p q:Nat}{B c:Int}{M:List Int}(a:Int)(w:az)(h:Cd w p q B c M)(hB:0<=B)(d:B<=100000)(ha:a<=9223372036854775807):
 Calls prog 175 #[aq p,ak a] w fun e w'=>e=.returned (.tuple #[.int .u64 (cN B a),.bool (gf B c a)])/\Below w.heap.size w w':=by
 obtain⟨c0,c1,c2⟩:=h.cells;by_cases hc:a<B
 ·have e:gf B c a=false:=by unfold gf;rw[bB aa];rfl
  have b:cN B a=0:=by unfold cN;rw[aK hc]
  rw[e,b];go_enter func175,ntmps175;go_wp2;go_ret2;exact⟨rfl,aH _ _⟩
 ·have e:gf B c a=decide ((a-B)/8<c):=by unfold gf;rw[bm aa];rfl
  have b:cN B a=(a-B)/8:=by unfold cN;rw[aI hc]
  rw[e,b];go_enter func175,ntmps175;exact se
def lB (B c a:Int)(M:List Int):List Int:=if gf B c a then lA M (cN B a) else M
theorem xl {B c a:Int}{M:List Int}(h:gf B c a=true):lB B c a M=lA M (cN B a):=by unfold lB;rw[aK h]
theorem Dl {B c a:Int}{M:List Int}(h:gf B c a=false):lB B c a M=M:=by unfold lB;rw[aI (by rw[h];simp)]
theorem xm {B a:Int}(hB:0<=B)(ha:a<=9223372036854775807):(Lit.int .u64 (cN B a)).wf=true:=by
 unfold cN;split
 ·decide
 ·have b:0<=(a-B)/8:=aa;exact WalkArith.wf_u64 ⟨b,aa⟩
theorem Do {p q:Nat}{B c:Int}{M:List Int}(a:Int)(w:az)(h:Cd w p q B c M)(hB:0<=B)(f:B<=100000)(ha:a<=9223372036854775807)(hM:M.length<=100000):
 Calls prog 97 #[aq p,ak a] w fun e w'=>e=.returned (.bool (gf B c a))/\Cd w' p q B c (lB B c a M)/\dh p q w w':=by
 go_enter func97,ntmps97;go_wp2_with fail;refine(xk a _ h hB f ha).mono ?_;rintro e w1 ⟨rfl,d⟩
 have b:=h.below d b7
 obtain⟨c0,c1,c2⟩:=b.cells;obtain⟨D,o1,g,i⟩:=b.hq;cases hc:gf B c a
 ·go_wp2;go_ret;exact⟨by rw[hc];rfl,by rw[Dl hc];exact b,dh.of d⟩
 ·go_wp2_with (first
   |(at_mapUpdate;refine wpList_mapUpdate_own _ rfl _ _ _ 174 rfl 173 212 sI underlying174 _ q M.length D rfl o1 (by unfold maxLen;omega) _ _ _ rfl rfl (Maps.keyOf_int_mk (P:=prog) underlying173 (xm (B:=B) (a:=a) hB ha)) _ [] unitElem_mk ?_;intro m j k)
   |go_in)
  go_ret;obtain⟨l,s2⟩:=Cd.put b.hp o1 g i b.ne j k;exact⟨by rw[hc];rfl,by rw[xl hc];exact l,(dh.of d).trans s2⟩
theorem Dp {p q:Nat}{B c:Int}{M:List Int}(a:Int)(w:az)(h:Cd w p q B c M)(hB:0<=B)(f:B<=100000)(ha:a<=9223372036854775807):
 Calls prog 184 #[aq p,ak a] w fun e w'=>e=.returned (.bool (gf B c a&&M.contains (cN B a)))/\Below w.heap.size w w':=by
 go_enter func184,ntmps184;go_wp2_with fail;refine(xk a _ h hB f ha).mono ?_;rintro e w1 ⟨rfl,b⟩
 have d:=h.below b b7
 obtain⟨c0,c1,c2⟩:=d.cells;obtain⟨D,o1,g,i⟩:=d.hq;cases hc:gf B c a
 ·go_wp2;go_ret;exact⟨by rw[hc];rfl,b⟩
 ·go_wp2_with (first
   |(at_lookup;refine wpList_lookup_own_unit _ rfl _ _ 174 rfl 173 212 sI underlying174 (Dj _) q M.length D rfl o1 _ _ rfl (Maps.keyOf_int_mk underlying173 (xm (a:=a) hB ha)) ?_)
   |go_in)
  go_ret;exact⟨by rw[hc];simp,b.alloc b.size _⟩
theorem sL {p:Nat}{B c:Int}{v:Value}(w:az)(h:w.heap[p]?=some (.cells #[ak B,.int .u64 c,v] 176 (0,0))):
 Calls prog 115 #[aq p] w fun e w'=>e=.returned (.tuple #[])/\Cd w' p w.heap.size B c []/\dh p p w w':=by
 have b:=@run_makeMap prog;have hp:=lt_of_some h;have d:(w.alloc (.map #[] 0)).frozen? (av p 2)=false:=by simp[World.frozen?,Below.heap_alloc _ _ _ hp,h]
 have hc:(w.alloc (.map #[] 0)).cell? (av p 2)=some v:=by simp[World.cell?,Below.heap_alloc _ _ _ hp,h]
 go_enter func115,ntmps115;go_wp2_with fail;go_end0;have hm:=World.ownsMap_made (w.setCell ⟨p,2,none⟩ (.map (some w.heap.size))) prog 173 (unitElem (H:=Unit))
 have hz:(w.setCell ⟨p,2,none⟩ (.map (some w.heap.size))).heap.size=w.heap.size:=by simp[World.setCell]
 rw[hz] at hm;refine⟨rfl,Cd.none ((aS _ _ _ aa).trans ?_) hm,(dh.oU _ _).trans (dh.of (b8.alloc b7 _))⟩
 simp only [World.setCell,Array.getElem?_modify,if_true,h,Option.map_some];simp
theorem Dq (B x:Int)(w:az)(h:x<=100000):
 Calls prog 87 #[ak B,ak x] w fun e w'=>∃p q,e=.returned (aq p)/\Cd w' p q B (dJ x) []/\w.heap.size<=p/\w.heap.size<=q/\Below w.heap.size w w':=by
 go_enter func87,ntmps87;go_wp2_with fail;refine(Dk x _ h).mono ?_;rintro e w1 ⟨rfl,b⟩
 have b:=b.symm;subst b;go_wp2_with fail;refine(sL (v:=.map none) _ (aP _ _)).mono ?_;rintro e d ⟨rfl,c,s2⟩
 go_wp2_with fail;go_ret;exact⟨_,_,rfl,c,aG _,ac,(b8.alloc b7 _).trans (s2.below ac b7 b7)⟩
structure ik (w:az)(pw p q pc cT N O y g:Nat)(ws:List Int)(c:Int)(M:List Int)(vs vr:Value):Prop where
 blk:w.heap[pw]?=some (.cells #[aq p,aq pc,vs,vr] 55 (0,0))
 ar:At w p q N O y g ws
 cd:Cd w pc cT N c M
section
variable {w w':az}{pw p q pc cT N O y g:Nat}{ws:List Int}{c:Int}{M:List Int}{vs vr:Value}
theorem ik.cells (h:ik w pw p q pc cT N O y g ws c M vs vr):w.cell? (av pw 0)=some (aq p)/\w.cell? (av pw 1)=some (aq pc)/\w.cell? (av pw 2)=some vs/\w.cell? (av pw 3)=some vr/\pw<w.heap.size:=
 ⟨by simp[World.cell?,h.blk],by simp[World.cell?,h.blk],by simp[World.cell?,h.blk],by simp[World.cell?,h.blk],lt_of_some h.blk⟩
theorem ik.apart (h:ik w pw p q pc cT N O y g ws c M vs vr):pw≠p/\pw≠q/\pw≠pc/\pw≠cT/\p≠pc/\p≠cT/\q≠pc/\q≠cT:=by
 obtain⟨D,⟨j,k,hb,_⟩,_⟩:=h.cd.hq;have b:=h.blk;have d:=h.ar.hp;have f:=h.ar.hq;have i:=h.cd.hp;refine⟨fun e=>?_,fun e=>?_,fun e=>?_,fun e=>?_,fun e=>?_,fun e=>?_,fun e=>?_,fun e=>?_⟩
 ·rw[e,d] at b;simp at b
 ·rw[e,f] at b;simp at b
 ·rw[e,i] at b;simp at b
 ·rw[e,hb] at b;simp at b
 ·rw[e,i] at d;simp at d
 ·rw[e,hb] at d;simp at d
 ·rw[e,i] at f;simp at f
 ·rw[e,hb] at f;simp at f
theorem ik.below (h:ik w pw p q pc cT N O y g ws c M vs vr)(hb:Below w.heap.size w w'):ik w' pw p q pc cT N O y g ws c M vs vr:=
 ⟨(hb.block pw (lt_of_some h.blk)).trans h.blk,h.ar.below hb b7,h.cd.below hb b7⟩
theorem ik.arena (h:ik w pw p q pc cT N O y g ws c M vs vr){b d:Nat}{e:List Int}(ha:At w' p q N O b d e)(s:dh p q w w'):ik w' pw p q pc cT N O b d e c M vs vr:=by obtain⟨a1,a2,l,m,f,i,j,k⟩:=h.apart;exact⟨(s.block pw (lt_of_some h.blk) a1 a2).trans h.blk,ha,h.cd.same (s.block pc h.cd.e5 (Ne.symm f) (Ne.symm j)) (s.block cT h.cd.e7 (Ne.symm i) (Ne.symm k))⟩
theorem ik.cards (h:ik w pw p q pc cT N O y g ws c M vs vr){b:List Int}(hc:Cd w' pc cT N c b)(s:dh pc cT w w'):ik w' pw p q pc cT N O y g ws c b vs vr:=by obtain⟨a1,a2,d,e,f,i,j,k⟩:=h.apart;exact⟨(s.block pw (lt_of_some h.blk) d e).trans h.blk,h.ar.same (s.block p h.ar.e5 f i) (s.block q h.ar.e7 j k),hc⟩
def gz (N y g:Nat)(ws:List Int)(x i z:Int):List Int:=if eD N y g ws x i=0 then(if dt N y g (cq x+1+i)=true then ws.set (cq x+1+i).toNat z else ws) else ws
def m2 (N y g:Nat)(ws:List Int)(x i z:Int):Bool:=decide (eD N y g ws x i=0)&&(dd z&&hB 0 y (cq z)&&hB N g (cq x))
def stM (N y g:Nat)(ws:List Int)(x i z c:Int)(M:List Int):List Int:=if m2 N y g ws x i z=true then lB N c (cq x) M else M
theorem Dr (x i z:Int)(h:ik w pw p q pc cT N O y g ws c M vs vr)(hM:M.length<=100000):
 Calls prog 44 #[aq pw,ak x,ak i,ak z] w fun e w'=>e=.returned (ak (eD N y g ws x i))/\ik w' pw p q pc cT N O y g (gz N y g ws x i z) c (stM N y g ws x i z c M) vs vr/\Fr (fun k=>k=p\/k=q\/k=pc\/k=cT) w w':=by
 have H:aA (_):=h;obtain⟨c0,c1,_,_,iF⟩:=h.cells;have P:=xj x i w c0 h.ar;have k1:=h.ar.hN';have ao:=h.ar.hy;have ap:=h.ar.hO;have ar:=h.ar.hg;have aF:∀{a b:az},dh p q a b->Fr (fun k=>k=p\/k=q\/k=pc\/k=cT) a b:=fun s=>⟨s.os,s.tape,s.output,s.size,fun k hk hn=>s.block k hk (fun e=>hn (aM e)) (fun e=>hn (aL (aM e)))⟩
 have aR:∀{a b:az},dh pc cT a b->Fr (fun k=>k=p\/k=q\/k=pc\/k=cT) a b:=fun s=>⟨s.os,s.tape,s.output,s.size,fun k hk hn=>s.block k hk (fun e=>hn (aL (aL (aM e)))) (fun e=>hn (aL (aL (aL e))))⟩
 clear h;by_cases h0:eD N y g ws x i=0
 ·have ht:tB N y g ws x=true:=by
   cases e:tB N y g ws x
   ·unfold eD at h0;rw[e,aI ac] at h0;omega
   ·rfl
  obtain⟨a0,b1⟩:=xi (O:=O) ht k1 ao ap ar;have B:gz N y g ws x i z=if dt N y g (cq x+1+i)=true then ws.set (cq x+1+i).toNat z else ws:=by unfold gz;rw[aK h0]
  have F:stM N y g ws x i z c M=if(dd z&&hB 0 y (cq z)&&hB N g (cq x))=true then lB N c (cq x) M else M:=by unfold stM m2;rw[bm h0,Bool.true_and]
  rw[h0,aK rfl,aK rfl] at P;rw[h0,B,F];clear B F h0 ht;generalize cq x+1+i=fl at P⊢;generalize cq x=v at P a0 b1⊢;have kR:aA (∀w1,Below w.heap.size w w1->Calls prog 93 #[aq p,ak fl,ak z] w1 fun e w'=>e=.returned (.bool (dt N y g fl))/\aA (ik w' pw p q pc cT N O y g (if dt N y g fl=true then ws.set fl.toNat z else ws) c M vs vr)/\aA (Fr (fun k=>k=p\/k=q\/k=pc\/k=cT) w w')):=fun w1 hb=>by
   have S:=H.o.below hb;refine(lx fl z w1 S.ar).mono ?_;rintro e w2 ⟨rfl,a1,s2⟩
   exact⟨rfl,S.arena a1 s2,(Fr.of (X:=fun k=>k=p\/k=q\/k=pc\/k=cT) hb).trans (aF s2) (fun _ c=>aM c)⟩
  have n8:aA (∀w2,_):=fun w2=>nY z w2;generalize (if dt N y g fl=true then ws.set fl.toNat z else ws)=bd at kR⊢;generalize dt N y g fl=be at kR;obtain⟨ab,al⟩:∃b,dd z=b:=⟨_,rfl⟩
  rw[al] at n8⊢;clear al;generalize cq z=u at n8⊢;cases hb2:hB 0 y u
  ·rw[Bool.and_false,Bool.false_and,aI ac];cases ab
   ·go_enter func44,ntmps44;exact sE
   ·go_enter func44,ntmps44;go_wp2_with fail;refine P.mono ?_;clear P;rintro e w1 ⟨rfl,hb1⟩
    have y1:=(hb1.cell (p:=av pw 0) iF).trans c0;go_wp2_with fail;refine(kR.o w1 hb1).mono ?_;rintro e w2 ⟨rfl,W2,F2⟩
    clear y1;go_wp2_with fail;refine(n8.o w2).mono ?_;rintro e w3 ⟨rfl,hb3⟩
    have W3:=W2.o.below hb3;have mZ:=F2.o.trans (Fr.of (X:=fun k=>k=p\/k=q\/k=pc\/k=cT) hb3) (fun _ c=>aM c)
    obtain⟨y0,y1,_,_,l3⟩:=W3.cells;have d:=mV u w3 W3.ar;rw[hb2] at d;go_wp2_with fail;refine d.mono ?_;clear d;rintro e W ⟨rfl,j⟩
    have f:=W3.below j;have n:=mZ.trans (Fr.of (X:=fun k=>k=p\/k=q\/k=pc\/k=cT) j) (fun _ c=>aM c)
    obtain⟨z0,o,_,_,am⟩:=f.cells;clear y0 y1;clear z0 o;go_wp2_with fail;go_ret;exact⟨rfl,f,n⟩
  ·rw[Bool.and_true];cases xn:hB N g v
   ·rw[Bool.and_false,aI ac];cases ab
    ·go_enter func44,ntmps44;exact sE
    ·go_enter func44,ntmps44;go_wp2_with fail;refine P.mono ?_;clear P;rintro e w1 ⟨rfl,hb1⟩
     have y1:=(hb1.cell (p:=av pw 0) iF).trans c0;go_wp2_with fail;refine(kR.o w1 hb1).mono ?_;rintro e w2 ⟨rfl,W2,F2⟩
     clear y1;go_wp2_with fail;refine(n8.o w2).mono ?_;rintro e w3 ⟨rfl,hb3⟩
     have W3:=W2.o.below hb3;have mZ:=F2.o.trans (Fr.of (X:=fun k=>k=p\/k=q\/k=pc\/k=cT) hb3) (fun _ c=>aM c)
     obtain⟨y0,y1,_,_,l3⟩:=W3.cells;have d:=mV u w3 W3.ar;rw[hb2] at d;go_wp2_with fail;refine d.mono ?_;clear d;rintro e W ⟨rfl,j⟩
     have f:=W3.below j;have n:=mZ.trans (Fr.of (X:=fun k=>k=p\/k=q\/k=pc\/k=cT) j) (fun _ c=>aM c)
     obtain⟨z0,o,_,_,am⟩:=f.cells;clear y0 y1;have l:=mW v W f.ar;rw[xn] at l;go_wp2_with fail;refine l.mono ?_;clear l;rintro e an ⟨rfl,t⟩
     have m:=f.below t;have ad:=n.trans (Fr.of (X:=fun k=>k=p\/k=q\/k=pc\/k=cT) t) (fun _ c=>aM c)
     obtain⟨ag,ai,_,_,a2⟩:=m.cells;clear z0 o;clear ag ai;go_wp2_with fail;go_ret;exact⟨rfl,m,ad⟩
   ·rw[Bool.and_true];cases ab
    ·rw[aI ac];go_enter func44,ntmps44;exact sE
    ·rw[aK rfl];go_enter func44,ntmps44;go_wp2_with fail;refine P.mono ?_;clear P;rintro e w1 ⟨rfl,hb1⟩
     have y1:=(hb1.cell (p:=av pw 0) iF).trans c0;go_wp2_with fail;refine(kR.o w1 hb1).mono ?_;rintro e w2 ⟨rfl,W2,F2⟩
     clear y1;go_wp2_with fail;refine(n8.o w2).mono ?_;rintro e w3 ⟨rfl,hb3⟩
     have W3:=W2.o.below hb3;have mZ:=F2.o.trans (Fr.of (X:=fun k=>k=p\/k=q\/k=pc\/k=cT) hb3) (fun _ c=>aM c)
     obtain⟨y0,y1,_,_,l3⟩:=W3.cells;have d:=mV u w3 W3.ar;rw[hb2] at d;go_wp2_with fail;refine d.mono ?_;clear d;rintro e W ⟨rfl,j⟩
     have f:=W3.below j;have n:=mZ.trans (Fr.of (X:=fun k=>k=p\/k=q\/k=pc\/k=cT) j) (fun _ c=>aM c)
     obtain⟨z0,o,_,_,am⟩:=f.cells;clear y0 y1;have l:=mW v W f.ar;rw[xn] at l;go_wp2_with fail;refine l.mono ?_;clear l;rintro e an ⟨rfl,t⟩
     have m:=f.below t;have ad:=n.trans (Fr.of (X:=fun k=>k=p\/k=q\/k=pc\/k=cT) t) (fun _ c=>aM c)
     obtain⟨ag,ai,_,_,a2⟩:=m.cells;clear z0 o;go_wp2_with fail;refine(Do v an m.cd aa aa aa hM).mono ?_;rintro e bg ⟨rfl,a3,s6⟩
     have ba:=m.cards a3 s6;have bb:=ad.trans (aR s6) (fun _ c=>aM c)
     clear ag ai;go_wp2_with fail;go_ret;exact⟨rfl,ba,bb⟩
 ·have B:gz N y g ws x i z=ws:=by unfold gz;rw[aI h0]
  have F:stM N y g ws x i z c M=M:=by unfold stM m2;rw[bB h0];rfl
  rw[aI h0,aI h0] at P;rw[B,F];generalize eD N y g ws x i=cd at P h0⊢;go_enter func44,ntmps44;go_wp2_with fail;refine P.mono ?_;clear P;rintro e w1 ⟨rfl,hb1⟩
  have S:=H.o.below hb1;clear c0 c1;go_wp2_with fail;go_ret;exact⟨rfl,S,Fr.of hb1⟩
end
open Go.ChangeShapes Go.WideShapes Go.ChangeAt Go.RowKit Go.Joins Go.Deep W
namespace o6
theorem qi (ws:List Int)(t f n i:Nat)(b:t+n<=ws.length)(d:f+n<=ws.length):
 (splice ws t ((ws.drop f).take n)).getD i 0=if t<=i/\i<t+n then ws.getD (f+i-t) 0 else ws.getD i 0:=by
 have hl:((ws.drop f).take n).length=n:=by simp;omega
 unfold splice;rw[hl];simp only [List.getD_eq_getElem?_getD];exact xa
theorem copied {N O y g:Nat}{ws:List Int}{a:Nat}(hl:ws.length=N+O)(hy:y<=N)(hi:dt N y g a=true)(n:Nat)(d:1+(n:Int)<=gE N y g a-a)(f:1+(n:Int)<=(O:Int)-g)(j:Nat)(i:j<=n):
 ld N y (g+(1+n)) (splice ws (N+g) ((ws.drop a).take (1+n))) ((N:Int)+g+j)=ws.getD (a+j) 0/\ld N y (g+(1+n)) (splice ws (N+g) ((ws.drop a).take (1+n))) ((a:Int)+j)=ws.getD (a+j) 0:=by
 have he:gE N y g a<=(N:Int)+g:=by unfold gE;split<;>omega
 constructor
 ·have b:hB N ((g+(1+n):Nat):Int) ((N:Int)+g+j)=true:=by simp[hB];omega
  have hi:dt N y (g+(1+n)) ((N:Int)+g+j)=true:=by unfold dt;rw[b];simp
  unfold ld;rw[aK hi,show((N:Int)+g+j).toNat=N+g+j by omega,qi _ _ _ _ _ aa aa,aK aa,show a+(N+g+j)-(N+g)=a+j by omega]
 ·have e:dt N y (g+(1+n)) ((a:Int)+j)=true:=by
   unfold gE at d;split at d
   ·rename_i c;have c:=jC c;have b:hB 0 y ((a:Int)+j)=true:=by simp[hB];omega
    unfold dt;rw[b];rfl
   ·rename_i c;have c1:hB N g a=true:=by unfold dt at hi;simp only [Bool.not_eq_true] at c;rw[c] at hi;simpa using hi
    have c2:=jC c1;have b:hB N ((g+(1+n):Nat):Int) ((a:Int)+j)=true:=by simp[hB];omega
    unfold dt;rw[b];simp
  unfold ld;rw[aK e,show((a:Int)+j).toNat=a+j by omega,qi _ _ _ _ _ aa aa,aI aa]
end o6
open Go.RowKit W o6
theorem ef {N y g:Nat}{ws:List Int}{a:Int}(h:dt N y g a=true):ld N y g ws a=ws.getD a.toNat 0:=by unfold ld;rw[aK h]
theorem iW {N y g:Nat}{a:Int}(h0:0<=a)(b:a<y):dt N y g a=true:=by unfold dt hB;rw[bm (⟨h0,aa⟩:(0:Int)<=a/\a<0+(y:Int))];rfl
theorem hD {N y g:Nat}{a:Int}(h0:(N:Int)<=a)(b:a<(N:Int)+g):dt N y g a=true:=by unfold dt hB;rw[bm (⟨h0,b⟩:(N:Int)<=a/\a<(N:Int)+g),Bool.or_true]
section
variable {N O y g:Nat}{ws:List Int}{Y G:List Int}
theorem ec.iH (h:ec N y g ws Y G):∀x∈Y,0<=x/\x<y:=fun x b=>by
 have c:=h.ty.mem x b;have d:=dr (ld N y g ws x)
 omega
theorem ec.io (h:ec N y g ws Y G):∀x∈G,(N:Int)<=x/\x<(N:Int)+g:=fun x b=>by
 have c:=h.es.mem x b;have d:=dr (ld N y g ws x)
 omega
theorem ec.make (h:ec N y g ws Y G)(hl:ws.length=N+O){k f:Int}(hm:iV N y k f=true):ec N (i_ N y k f) g (fS N y k f ws) (Y++[(y:Int)]) G:=by
 obtain⟨c,j⟩:=o4 hm;have l:=i3 k f c;have e:i_ N y k f=y+1+f.toNat:=by unfold i_;rw[aK hm]
 have i:fS N y k f ws=fK ws y (hw k f) f.toNat:=by unfold fS;rw[aK hm]
 rw[e,i];have hlt:y+f.toNat<ws.length:=aa;have d:ld N (y+1+f.toNat) g (fK ws y (hw k f) f.toNat) y=hw k f:=w6 _ _ hlt;have hp:=p8 k f c;refine⟨h.ty.snoc (fun x b=>?_) (by rw[d];exact hp.2.2) (by rw[d,hp.2.1];omega),h.es.heads (fun x b=>?_)⟩
 ·have hi:=h.iH x b;exact xe
 ·have hi:=h.io x b;exact sF
theorem ec.copy (h:ec N y g ws Y G)(hl:ws.length=N+O)(hy:y<=N)(hg:g<=O){a:Int}(hm:iE N O y g ws a=true)(ha:a∈Y\/a∈G):ec N y (jU N O y g ws a) (jV N O y g ws a) Y (G++[((N+g:Nat):Int)])/\ld N y (jU N O y g ws a) (jV N O y g ws a) ((N+g:Nat):Int)=ld N y g ws a:=by
 obtain⟨f,o,p⟩:=o5 hm;have hp:=dr (ld N y g ws a)
 have j:jU N O y g ws a=g+(1+(pf (ld N y g ws a)).toNat):=by unfold jU;rw[aK hm]
 have k:jV N O y g ws a=splice ws (N+g) ((ws.drop a.toNat).take (1+(pf (ld N y g ws a)).toNat)):=by unfold jV;rw[aK hm]
 have l:0<=a/\a+(1+pf (ld N y g ws a))<=(N:Int)+g/\dt N y g a=true:=by
  rcases ha with ha|ha
  ·have m:=h.ty.mem a ha;have b:=h.iH a ha;exact⟨b.1,aa,iW b.1 b.2⟩
  ·have m:=h.es.mem a ha;have b:=h.io a ha;exact⟨aa,aa,hD b.1 b.2⟩
 rw[j,k];obtain⟨n,hn⟩:∃n,n=(pf (ld N y g ws a)).toNat:=⟨_,rfl⟩
 rw[<-hn];have c:∀i:Nat,_=_:=fun i=>qi ws (N+g) a.toNat (1+n) i aa aa;have d:ld N y (g+(1+n)) (splice ws (N+g) ((ws.drop a.toNat).take (1+n))) ((N+g:Nat):Int)=ld N y g ws a:=by rw[ef (hD aa aa),Int.toNat_natCast,c,aK aa,Nat.add_sub_cancel,ef l.2.2]
 refine⟨⟨h.ty.heads (fun x e=>?_),?_⟩,d⟩
 ·have hi:=h.iH x e;rw[ef (iW hi.1 hi.2),ef (iW hi.1 hi.2),c,aI aa]
 ·have ht:=h.es;rw[show(N:Int)+g=((N+g:Nat):Int) by omega] at ht;refine ht.snoc (fun x e=>?_) (by rw[d];exact f) (by rw[d];omega)
  have hi:=h.io x e;rw[ef (hD hi.1 aa),ef (hD hi.1 hi.2),c,aI aa]
theorem ec.set (h:ec N y g ws Y G)(hl:ws.length=N+O)(hy:y<=N)(hg:g<=O){v i z:Int}(hv:v∈Y\/v∈G)(f:0<=i)(j:i<pf (ld N y g ws v)):ec N y g (ws.set (v+1+i).toNat z) Y G/\∀x,(x∈Y\/x∈G)->ld N y g (ws.set (v+1+i).toNat z) x=ld N y g ws x:=by
 have hb:0<=v/\v+1+i<(N:Int)+g:=by
  rcases hv with hv|hv
  ·have d:=h.ty.mem v hv;have c:=h.iH v hv;omega
  ·have d:=h.es.mem v hv;have c:=h.io v hv;omega
 have key:∀x,(x∈Y\/x∈G)->ld N y g (ws.set (v+1+i).toNat z) x=ld N y g ws x:=fun x b=>by
  have k:x≠v+1+i:=by
   intro e;rcases hv with hv|hv<;>rcases b with b|b
   ·exact h.ty.field hv f j (by rw[<-e];exact b)
   ·have d:=h.ty.mem v hv;have c:=h.io x b;omega
   ·have d:=h.io v hv;have c:=h.iH x b;omega
   ·exact h.es.field hv f j (by rw[<-e];exact b)
  have hi:dt N y g x=true/\0<=x:=by
   rcases b with b|b
   ·have c:=h.iH x b;exact⟨iW c.1 c.2,c.1⟩
   ·have c:=h.io x b;exact⟨hD c.1 c.2,aa⟩
  rw[ef hi.1,ef hi.1,lZ _ _ _ _ aa,aI aa]
 exact⟨⟨h.ty.heads (fun x b=>key x (aM b)),h.es.heads (fun x b=>key x (aL b))⟩,key⟩
end
open Go.RowKit W Kp ck
structure fT (σ:Type) extends dx σ where
 p:Nat
 vr:Value
 wt:σ->List ce
 put:σ->List ce->σ
 side:∀{F s w},J F s w->∃ad cap,w.heap[p]?=some (.cells #[vr,.slice ad (wt s).length cap] 153 (0,0))/\iD w ad (wt s) cap/\F p/\(0<(wt s).length->∀z,ad=some z->F z.block)
 set:∀{F s w},J F s w->∀{w1:az}{q:List ce}{b1 gx:Nat},Below w.heap.size w w1->w1.ownsRow w.heap.size 103 2 (.slice (au b1) q.length gx) q.length (ev q)->
  J (fun k=>F k\/k=b1) (put s q) (w1.setCell ⟨p,1,none⟩ (.slice (some ⟨b1,0,none⟩) q.length gx))
 qj:∀s q,wt (put s q)=q
theorem iD.keep {w w':az}{ad:Option Addr}{l:List ce}{cap:Nat}(h:iD w ad l cap)(hs:w.heap.size<=w'.heap.size)(hk:0<l.length->∀a,ad=some a->w'.heap[a.block]?=w.heap[a.block]?):iD w' ad l cap:=⟨h.lp.keep hs hk,h.le,h.nil⟩
theorem iD.below {w w':az}{ad:Option Addr}{l:List ce}{cap:Nat}(h:iD w ad l cap)(hb:Below w.heap.size w w'):iD w' ad l cap:=⟨h.lp.below hb,h.le,h.nil⟩
def m3 {d:Type}(o:fT d)(D:Int->Prop)(f:Nat)(b c:Array Value)(kp:d->Int->Int×d):Prop:=
 ∀F t w (x:Int),D x->(o.wt (kp t x).2).length<=90000->o.J F t w->Calls prog f (b.push (ak x)++c) w fun r w'=>∃e,r=.returned (ak (kp t x).1)/\o.J e (kp t x).2 w'/\Fr F w w'/\∀k,e k->F k\/w.heap.size<=k
structure f5 where
 f:Nat
 b:Array Value
 c:Array Value
abbrev f5.v (x:f5):Value:=.func (.func x.f) x.b x.c
structure lC (w:az)(p bl Ds bs:Nat)(fa fk fn:f5):Prop where
 l:w.heap[bl]?=some (.cells #[fa.v,fk.v,fn.v] 145 (0,0))
 g:w.heap[Ds]?=some (.cells #[.func (.func 146) #[] #[aq bl]] 101 (0,0))
 s:w.heap[bs]?=some (.cells #[aq p] 52 (0,0))
theorem xo {i:Type}(o:dx i)(D:Int->Prop)(d:f5)(is:i->Int->Bool)(he:dS d.f)(ha:kq o D d.f d.b d.c is)(F:Nat->Prop)(s:i)(w:az)(bl:Nat)(e:ce)(l:D e.1)(j:o.J F s w)(hc:w.cell? (av bl 0)=some d.v):
 Calls prog 146 #[en e,aq bl] w fun r w'=>r=.returned (.bool (is s e.1))/\Below w.heap.size w w':=by
 obtain⟨g,z⟩:=e;obtain⟨f,b,c⟩:=d;have m:aA (_):=ha;have n:aA (_):=j;have p:=aT w _ hc;have q:∀(args:Array Value)(w:az),_=_:=he;clear he ha j;go_enter func146,ntmps146;go_wp2_with fail;have k:=aw w (.cells #[.int .i64 g,.int .i64 z] 103)
 refine(m.o F s _ g l (o.below n.o k)).mono ?_;rintro r w1 ⟨rfl,hb⟩
 go_wp2_with fail;go_ret;exact⟨rfl,k.trans (hb.mono ac)⟩
theorem Dt {i:Type}(o:dx i)(D:Int->Prop)(d:f5)(is:i->Int->Bool)(he:dS d.f)(ha:kq o D d.f d.b d.c is)(F:Nat->Prop)(s:i)(w:az)(bl:Nat)(e:ce)(l:D e.2)(j:o.J F s w)(hc:w.cell? (av bl 0)=some d.v):
 Calls prog 151 #[en e,aq bl] w fun r w'=>r=.returned (.bool (is s e.2))/\Below w.heap.size w w':=by
 obtain⟨g,z⟩:=e;obtain⟨f,b,c⟩:=d;have m:aA (_):=ha;have n:aA (_):=j;have p:=aT w _ hc;have q:∀(args:Array Value)(w:az),_=_:=he;clear he ha j;go_enter func151,ntmps151;go_wp2_with fail;have k:=aw w (.cells #[.int .i64 g,.int .i64 z] 103)
 refine(m.o F s _ z l (o.below n.o k)).mono ?_;rintro r w1 ⟨rfl,hb⟩
 go_wp2_with fail;go_ret;exact⟨rfl,k.trans (hb.mono ac)⟩
def cm {b:Type}(o:fT b)(is:b->Int->Bool)(kp:b->Int->Int×b)(s:b)(e:ce):Bool×b:=
 if is s e.1 then(true,o.put (kp s e.2).2 (o.wt (kp s e.2).2++[(e.1,(kp s e.2).1)])) else(false,s)
theorem m4 {b:Type}{o:fT b}{is:b->Int->Bool}{kp:b->Int->Int×b}{s:b}{e:ce}(h:is s e.1=false):cm o is kp s e=(false,s):=by simp[cm,h]
theorem m5 {b:Type}{o:fT b}{is:b->Int->Bool}{kp:b->Int->Int×b}{s:b}{e:ce}(h:is s e.1=true):cm o is kp s e=(true,o.put (kp s e.2).2 (o.wt (kp s e.2).2++[(e.1,(kp s e.2).1)])):=by simp[cm,h]
theorem aY (w:az)(a b:Addr)(v:Value)(h:a ≠ b):(w.setCell a v).cell? b = w.cell? b:=by intros;apply World.cell?_setCell_other<;>assumption
theorem a_ (w:az)(a:Addr)(v:Value){u:Value}(h:w.cell? a = some u):(w.setCell a v).cell? a = some v:=by intros;apply World.cell?_setCell_same<;>assumption
theorem Du {m:Type}(o:fT m)(D:Int->Prop)(d fk be:f5)(is:m->Int->Bool)(kp:m->Int->Int×m)(he:dS d.f)(an:dS fk.f)(ha:kq o.todx D d.f d.b d.c is)(hk:m3 o D fk.f fk.b fk.c kp)
 (F:Nat->Prop)(s:m)(w:az)(bl v bs:Nat)(e:ce)(ao:D e.1/\D e.2)(hn:(o.wt (kp s e.2).2).length<=90000)(ap:o.J F s w)(hB:lC w o.p bl v bs d fk be)(hs:¬F bs):
 Calls prog 147 #[en e,aq v,aq bl,aq bs] w fun r w'=>∃ar,r=.returned (.bool (cm o is kp s e).1)/\o.J ar (cm o is kp s e).2 w'/\Fr F w w'/\∀k,ar k->F k\/w.heap.size<=k:=by
 obtain⟨g,z⟩:=e;have bg:aA (kq o.todx D d.f d.b d.c is):=ha;have bi:aA (m3 o D fk.f fk.b fk.c kp):=hk;have ai:aA ((o.wt (kp s z).2).length<=90000):=hn;have bn:aA (dS d.f):=he;have x:aA (o.J F s w):=ap;have c0:w.cell? (av bl 0)=some d.v:=aD hB.l
 have c1:w.cell? (av bl 1)=some (.func (.func fk.f) fk.b fk.c):=aD hB.l
 have c2:w.cell? (av v 0)=some (.func (.func 146) #[] #[aq bl]):=aD hB.g
 have c3:w.cell? (av bs 0)=some (aq o.p):=aD hB.s
 have l1:bl<w.heap.size:=lt_of_some hB.l;have l2:v<w.heap.size:=lt_of_some hB.g;have bo:bs<w.heap.size:=lt_of_some hB.s;have cg:∀(args:Array Value)(w:az),(callFunc fk.f args).run prog w=.ok (.enter fk.f args) w:=an;clear he ha ap hk an hn hB;go_enter func147,ntmps147;go_wp2_with fail;have B:=aw w (.cells #[.int .i64 g,.int .i64 z] 103)
 refine(xo o.todx D d is bn.o bg.o F s _ bl (g,z) ao.1 (o.below x.o B) ((B.cell l1).trans c0)).mono ?_;rintro r w1 ⟨rfl,hb⟩
 have f:=B.trans (hb.mono ac)
 have bp:w.heap.size<w1.heap.size:=by have:=hb.size;simp at this;omega
 have aB:w1.cell? (av w.heap.size 0)=some (ak g):=(hb.cell ac).trans ac;have y1:w1.cell? (av w.heap.size 1)=some (ak z):=(hb.cell ac).trans ac;have br:w1.cell? (av bl 1)=some (.func (.func fk.f) fk.b fk.c):=(f.cell l1).trans c1;have aF:w1.cell? (av bs 0)=some (aq o.p):=(f.cell bo).trans c3;have aR:w1.frozen? (av w.heap.size 1)=false:=(hb.frozen ac).trans ac;clear hb B;cases hg:is s g
 ·have n:aA (cm o is kp s (g,z)=(false,s)):=m4 hg;go_wp2_with fail;go_ret;rw[n.o];exact⟨F,rfl,o.below x.o f,Fr.of f,fun k h=>aM h⟩
 ·have n:aA (cm o is kp s (g,z)=(true,o.put (kp s z).2 (o.wt (kp s z).2++[(g,(kp s z).1)]))):=m5 hg;go_wp2_with fail;refine(bi.o F s _ z ao.2 ai.o (o.below x.o f)).mono ?_;rintro r b ⟨t,rfl,N,u,S⟩
  generalize (kp s z).1=y at n⊢;generalize (kp s z).2=s1 at n N ai;have al:¬F w.heap.size:=fun h=>by have:=o.lt x.o _ h;omega
  have W:¬t w.heap.size:=fun h=>(S _ h).elim al (fun h=>by omega)
  have ch:=u.size;have ci:=f.size;obtain⟨ad,cap,hp,aV,ab,a0⟩:=o.side N;have a1:o.p≠w.heap.size:=fun e=>W (by rw[<-e];exact ab)
  have cj:o.p<b.heap.size:=lt_of_some hp;have ck:bs≠o.p:=fun e=>(S bs (by rw[e];exact ab)).elim hs (fun h=>by omega)
  have cl:=ai.o;have ag:=u.block _ bp al;have a2:=u.block bs aa hs;have z0:b.cell? (av w.heap.size 0)=some (ak g):=(aQ (a:=⟨w.heap.size,0,none⟩) ag).trans aB;have a3:b.cell? (av w.heap.size 1)=some (ak z):=(aQ (a:=⟨w.heap.size,1,none⟩) ag).trans y1;have bt:b.frozen? (av w.heap.size 1)=false:=(World.frozen?_of_block (a:=⟨w.heap.size,1,none⟩) ag).trans aR;have ba:b.cell? (av bs 0)=some (aq o.p):=(aQ (a:=⟨bs,0,none⟩) a2).trans aF;have bx:bs≠w.heap.size:=aa;have l:∀k:Nat,k≠w.heap.size->(b.setCell ⟨w.heap.size,1,none⟩ (.int .i64 y)).heap[k]?=b.heap[k]?:=fun k hk=>aW _ _ _ _ hk;have am:(b.setCell ⟨w.heap.size,1,none⟩ (.int .i64 y)).heap.size=b.heap.size:=by simp[World.setCell]
  have b0:(b.setCell ⟨w.heap.size,1,none⟩ (.int .i64 y)).cell? (av w.heap.size 0)=some (ak g):=(aY b ⟨w.heap.size,1,none⟩ ⟨w.heap.size,0,none⟩ (ak y) ac).trans z0;have b2:(b.setCell ⟨w.heap.size,1,none⟩ (.int .i64 y)).cell? (av w.heap.size 1)=some (ak y):=a_ _ _ _ a3;have b3:(b.setCell ⟨w.heap.size,1,none⟩ (.int .i64 y)).cell? (av bs 0)=some (aq o.p):=(aQ (a:=⟨bs,0,none⟩) (l bs bx)).trans ba;have b4:(b.setCell ⟨w.heap.size,1,none⟩ (.int .i64 y)).cell? (av o.p 1)=some (.slice ad (o.wt s1).length cap):=(aQ (a:=⟨o.p,1,none⟩) (l o.p a1)).trans (by simp[World.cell?,hp])
  have b5:(b.setCell ⟨w.heap.size,1,none⟩ (.int .i64 y)).frozen? (av o.p 1)=false:=(World.frozen?_of_block (a:=⟨o.p,1,none⟩) (l o.p a1)).trans (by simp[World.frozen?,hp])
  have b6:o.J t s1 (b.setCell ⟨w.heap.size,1,none⟩ (.int .i64 y)):=o.keep N (by rw[am];exact aG _) (fun k hk=>l k (fun e=>W (by rw[<-e];exact hk)))
  have b9:iD (b.setCell ⟨w.heap.size,1,none⟩ (.int .i64 y)) ad (o.wt s1) cap:=aV.keep (by rw[am];exact aG _) (fun hq a e=>l _ (fun ca=>W (by rw[<-ca];exact a0 hq a e)))
  have cb:Fr F w (b.setCell ⟨w.heap.size,1,none⟩ (.int .i64 y)):=((Fr.of (X:=F) f).trans u (fun _ c=>aM c)).trans ((Fr.refl (fun k=>k=w.heap.size) b).set _ 1 _ rfl) (fun i c=>aL aa)
  have bb:aA (∀k,t k->F k\/w.heap.size<=k):=fun k h=>(S k h).imp id (fun h=>by omega)
  have cc:aA (t o.p):=ab;have lo:bs<(b.setCell ⟨w.heap.size,1,none⟩ (.int .i64 y)).heap.size:=aa;have lp:o.p<(b.setCell ⟨w.heap.size,1,none⟩ (.int .i64 y)).heap.size:=aa;have lw:w.heap.size<(b.setCell ⟨w.heap.size,1,none⟩ (.int .i64 y)).heap.size:=aa;clear al W hp aV ab a0 ag a2 ba l u N S aB y1 br aF aR am;go_wp2_with fail;generalize b.setCell ⟨w.heap.size,1,none⟩ (.int .i64 y)=cn at*;clear z0 a3 bt
  go_region_with (go_at_call 104;refine(wz _ ad (o.wt s1) cap g y (b9.below (b8.drew)) aa).mono ?_;rintro e cd ⟨b1,gx,rfl,bd,j⟩;have co:=(j.cell (p:=av w.heap.size 0) lw).trans b0;have cp:=(j.cell (p:=av w.heap.size 1) lw).trans b2;have cq:=(j.cell (p:=av bs 0) lo).trans b3;have cr:=(j.cell (p:=av o.p 1) lp).trans b4;have cs:=(j.frozen (p:=av o.p 1) lp).trans b5)
  all_goals
   go_wp2_with fail;go_ret;rw[n.o];have cf:=o.set (q:=o.wt s1++[(g,y)]) (b1:=b1) (gx:=gx) (o.below b6 b8.drew) j (by simpa using bd)
   refine⟨fun k=>t k\/k=b1,rfl,by simpa using cf,(cb.drew.trans (Fr.of (X:=F) j) (fun _ c=>aM c)).trans ((Fr.refl (fun k=>k=o.p) cd).set o.p 1 _ rfl) (fun i c=>by rw[c];exact bb.o _ cc.o),fun k h=>h.elim (bb.o k) (fun h=>aL (by have:=(cu bd b1 rfl).1;simp at this;omega))⟩
def boxed {e:Type}(o:fT e)(bl d bs:Nat)(f fk g:f5):dx e where
 J F s w:=∃b,o.J b s w/\lC w o.p bl d bs f fk g/\¬b bl/\¬b d/\¬b bs/\∀k,F k↔(b k\/k=bl\/k=d\/k=bs)
 lt:=by
  rintro F t w ⟨b,h0,hB,_,_,_,c⟩ k hk;rcases(c k).1 hk with h|rfl|rfl|rfl
  ·exact o.lt h0 k h
  ·exact lt_of_some hB.l
  ·exact lt_of_some hB.g
  ·exact lt_of_some hB.s
 keep:=by rintro F t w w' ⟨b,h0,hB,i,j,l,c⟩ hs hk;exact⟨b,o.keep h0 hs (fun k h=>hk k ((c k).2 (aM h))),⟨(hk bl ((c bl).2 ac)).trans hB.l,(hk d ((c d).2 ac)).trans hB.g,(hk bs ((c bs).2 ac)).trans hB.s⟩,i,j,l,c⟩
theorem Dv {c:Type}(o:fT c)(bl d bs:Nat)(D:Int->Prop)(b fk j:f5)(is:c->Int->Bool)(kp:c->Int->Int×c)(he:dS b.f)(v:dS fk.f)(ha:kq o.todx D b.f b.b b.c is)(hk:m3 o D fk.f fk.b fk.c kp):
 Looks (boxed o bl d bs b fk j) (fun e=>D e.1/\D e.2) (fun s=>∀x,(o.wt (kp s x).2).length<=90000) 147 #[] #[aq d,aq bl,aq bs] (cm o is kp):=by
 intro F s w e B N S;obtain⟨l,h0,hB,m,n,g,i⟩:=S;refine(Du o D b fk j is kp he v ha hk l s w bl d bs e B (N e.2) h0 hB g).mono ?_;rintro r w' ⟨p,rfl,W,f,t⟩
 have q:∀k,k<w.heap.size->¬l k->_:=fun k hk hn h=>(t k h).elim hn (fun h=>by omega)
 have lb:=lt_of_some hB.l;have u:=lt_of_some hB.g;have ls:=lt_of_some hB.s;refine⟨fun k=>p k\/k=bl\/k=d\/k=bs,rfl,⟨p,W,⟨(f.block _ lb m).trans hB.l,(f.block _ u n).trans hB.g,(f.block _ ls g).trans hB.s⟩,q _ lb m,q _ u n,q _ ls g,fun k=>Iff.rfl⟩,f.mono (fun k h=>(i k).2 (aM h)),fun k h=>?_⟩
 rcases h with h|h
 ·exact(t k h).imp (fun h=>(i k).2 (aM h)) id
 ·exact aM ((i k).2 (aL h))
def eK {c:Type}(lk:c->ce->Bool×c):Nat->c->List ce->c×List ce
 |0,s,b=>(s,b)
 |n+1,s,b=>if(pts lk s b).1.length=0 then((pts lk s b).2.2,(pts lk s b).2.1) else eK lk n (pts lk s b).2.2 (pts lk s b).2.1
theorem l4 {c:Type}(lk:c->ce->Bool×c)(n:Nat)(s:c)(b:List ce)(h:(pts lk s b).1.length=0):eK lk (n+1) s b=((pts lk s b).2.2,(pts lk s b).2.1):=by rw[eK,aK h]
theorem l5 {c:Type}(lk:c->ce->Bool×c)(n:Nat)(s:c)(b:List ce)(h:¬(pts lk s b).1.length=0):eK lk (n+1) s b=eK lk n (pts lk s b).2.2 (pts lk s b).2.1:=by rw[eK,aI h]
theorem sM {b:Type}(lk:b->ce->Bool×b)(t:b)(l:List ce)(e:ce):(e∈(pts lk t l).1\/e∈(pts lk t l).2.1)->e∈l:=by
 have key:∀(l:List ce)(s:List ce×List ce×b),(e∈(l.foldl (eB lk) s).1\/e∈(l.foldl (eB lk) s).2.1)->e∈s.1\/e∈s.2.1\/e∈l:=by
  intro l
  induction l with
  |nil=>intro s h;rcases h with h|h<;>simp at h<;>simp[h]
  |cons x r c=>
   intro s h;have:=c _ h;unfold eB at this
   split at this<;>simp only [List.mem_append,List.mem_cons] at this⊢<;>grind
 intro h;have:=key l ([],[],t) h;simpa using this
abbrev m6 (b bl bs:Nat):Value:=.func (.func 147) #[] #[aq b,aq bl,aq bs]
theorem a7 {α:Type _}{«as» bs:List α}:(«as» ++ bs).length = «as».length + bs.length:=List.length_append ..
theorem sN {b:Type}(o:fT b)(is:b->Int->Bool)(kp:b->Int->Int×b)(hl:∀s x,(o.wt (kp s x).2).length=(o.wt s).length)(s:b)(l:List ce):(o.wt (pts (cm o is kp) s l).2.2).length=(o.wt s).length+(pts (cm o is kp) s l).1.length:=by
 have key:∀(l:List ce)(t:List ce×List ce×b),(o.wt (l.foldl (eB (cm o is kp)) t).2.2).length+t.1.length=(o.wt t.2.2).length+(l.foldl (eB (cm o is kp)) t).1.length:=by
  intro l
  induction l with
  |nil=>simp
  |cons e r d=>
   intro t;rw[a9];have h:=d (eB (cm o is kp) t e)
   cases hc:is t.2.2 e.1
   ·have c:eB (cm o is kp) t e=(t.1,t.2.1++[e],t.2.2):=by simp[eB,cm,hc]
    rw[c] at h⊢;exact h
   ·have c:eB (cm o is kp) t e=(t.1++[e],t.2.1,o.put (kp t.2.2 e.2).2 (o.wt (kp t.2.2 e.2).2++[(e.1,(kp t.2.2 e.2).1)])):=by simp[eB,cm,hc]
    rw[c] at h⊢;rw[o.qj,a7,a7,hl] at h;simp at h;omega
 have:=key l ([],[],s)
 simpa[pts] using this
def fE {b:Type}(o:fT b)(is:b->Int->Bool)(kp:b->Int->Int×b)(s:b)(r:List ce):b:=(eK (cm o is kp) ((r.filter (fun e=>!is s e.2)).length+1) s (r.filter (fun e=>!is s e.2))).1
def eV {b:Type}(o:fT b)(is:b->Int->Bool)(kp:b->Int->Int×b)(nw:b->Int->Int)(s:b)(r:List ce):List ce:=((r.filter (fun e=>is s e.2)).filter (fun e=>is (fE o is kp s r) e.1)).map fun e=>(nw (fE o is kp s r) e.1,nw (fE o is kp s r) e.2)
def eW {b:Type}(o:fT b)(is:b->Int->Bool)(kp:b->Int->Int×b)(nw:b->Int->Int)(s:b)(r:List ce):List ce:=((o.wt (fE o is kp s r)).filter (fun e=>is (fE o is kp s r) e.1)).map fun e=>(nw (fE o is kp s r) e.1,nw (fE o is kp s r) e.2)
structure l6 {σ:Type}(o:fT σ)(D:Int->Prop)(fa fk fn:f5)(is:σ->Int->Bool)(kp:σ->Int->Int×σ)(nw:σ->Int->Int):Prop where
 ea:dS fa.f
 fU:dS fk.f
 en:dS fn.f
 ha:kq o.todx D fa.f fa.b fa.c is
 hk:m3 o D fk.f fk.b fk.c kp
 ht:lz o.todx D fn.f fn.b fn.c nw
 hl:∀s x,(o.wt (kp s x).2).length=(o.wt s).length
end Go.Proofs.YtpkjkjhanlbcoaaGreat
