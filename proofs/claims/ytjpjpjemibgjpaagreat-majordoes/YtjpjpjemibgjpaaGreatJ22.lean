import Derived.Test.YtjpjpjemibgjpaaGreatJ21
import Derived.Test.YtjpjpjemibgjpaaGreatJ19
import Derived.Test.YtjpjpjemibgjpaaGreatJ20
import Derived.Test.YtjpjpjemibgjpaaGreatJ08
import Derived.Lib.AppendZeros
import Derived.Test.YtjpjpjemibgjpaaGreatJ15
import Derived.Test.YtjpjpjemibgjpaaGreatJ04
import Derived.Test.YtjpjpjemibgjpaaGreatJ01
import Derived.Test.YtjpjpjemibgjpaaGreatJ00
import Derived.Test.YtjpjpjemibgjpaaGreatJ02
import Derived.Test.YtjpjpjemibgjpaaGreatJ05
import Derived.Test.YtjpjpjemibgjpaaGreatJ07
import Derived.Test.YtjpjpjemibgjpaaGreatJ03
namespace Go.Proofs.YtjpjpjemibgjpaaGreat
set_option maxRecDepth 100000
set_option maxHeartbeats 4000000
open Tryz
open Go.RowKit W Kp bY
section
variable {c:eB}{k:bL}{F:Nat->Prop}{s:bX}{w:World}{vr:Value}
theorem pQ (bx d:Nat)(fv:eV):ic (cw (cw (cZ c k) d (fu fv)) bx (cz c)) (fun _=>True) (g4 bx).f (g4 bx).b (g4 bx).c k.al:=by
 rintro F s w x _ ⟨g,⟨i,⟨⟨vt,bO,h⟩,_⟩,_⟩,a,_⟩
 have P:=mG h x;have c0:w.cell? (ah bx 0)=some (af c.pk):=by simp[World.cell?,a]
 have E:k.al s x=!k.co s x:=rfl;rw[E];clear h a E;generalize k.co s x=b at P⊢;show Calls prog 120 #[ae x,af bx] w _;go_enter func120,ntmps120;go_wp2_with fail;refine P.mono ?_;rintro e w1 ⟨rfl,f⟩
 go_wp2_with fail;go_ret;exact⟨rfl,f⟩
theorem yV {g:Option Addr}{nr i:Nat}(j:vr=.slice g nr i){t:bX×List bN}(h:(cA (cZ c k) c.bs vr).J F t w)(hq:t.2.length<=90000)(bx d:Nat)(l:w.heap[bx]?=some (cz c))(hy:w.heap[d]?=some (fu (gF c)))(m:¬F bx)(hm:¬F d)(n:bx≠d):
 Calls prog 112 #[af c.bs,.agg #[(g4 bx).v,(gi d).v,(hJ c).v]] w fun e w'=>∃f,e=.returned (.bool (k.wa t).2)/\(cA (cZ c k) c.bs vr).J f (k.wa t).1 w'/\Fr (fun b=>F b\/b=d\/b=bx) w w'/\(∀b,f b->F b\/b=d\/b=bx\/w.heap.size<=b):=by
 have o:=pu (cw (cw (cZ c k) d (fu (gF c))) bx (cz c)) c.bs vr (fun _=>True) (g4 bx) (gi d) (hJ c) k.al k.mp k.nw pL pM pN (pQ bx d (gF c)) (pE (tp d)) (j6 (j6 pP))
 have P:=sH (cA (cw (cw (cZ c k) d (fu (gF c))) bx (cz c)) c.bs vr) (sV _ _ _) (fun _=>True) (g4 bx) (gi d) (hJ c) _ _ _ o g nr i j _ t w hq (fun _ _=>⟨trivial,trivial⟩) (iN (iN h hy hm) l (fun a=>a.elim m n))
 refine P.mono ?_;rintro e w' ⟨f,rfl,p,q,hs⟩
 refine⟨f,rfl,pD (pD p),q.mono (fun b a=>?_),fun b s=>?_⟩
 ·rcases a with(a|a)|a
  ·exact ap a
  ·exact an (ap a)
  ·exact an (an a)
 ·rcases hs b s with((a|a)|a)|a
  ·exact ap a
  ·exact an (ap a)
  ·exact an (an (ap a))
  ·exact an (an (an a))
theorem tu {br:Option Addr}{nr bs:Nat}(bx:vr=.slice br nr bs){t:bX×List bN}(h:(cA (cZ c k) c.bs vr).J F t w)(hq:t.2.length<=90000):
 Calls prog 52 #[af c.pk] w fun e w'=>∃G,e=.returned (.tuple #[])/\(cA (cZ c k) c.bs vr).J G (k.sp t) w'/\bM F w G w':=by
 have aB:∀(aF:Fn)(first aR:Array Value)(w:World),(Instr.makeFunc aF first aR).run prog w=.ok (.func aF first aR) w:=fun _ _ _ _=>rfl;obtain⟨f,P⟩:∃f,k.sp t=f:=⟨_,rfl⟩
 rw[P];have aT:Hid (k.cK (k.mu t.1+1) t=f):=P;clear P;go_enter func52,ntmps52;go_wp2_with fail
 go_loopg [2] (k.mu t.1+1) (fun n bO wr=>∃(q:Nat->Prop)(a:bX×List bN)(b:Bool),bO=.bool b/\(cA (cZ c k) c.bs vr).J q a wr/\bM F w q wr/\Hid (if b=true then k.mu a.1<n/\k.cK n a=f else a=f)/\a.2.length<=90000)
 case atStart=>exact⟨F,t,true,rfl,h,bM.refl _ _,⟨I,aT.out⟩,hq⟩
 case round=>
  clear h hq aT;obtain⟨q,a,b,rfl,Q,R,U,hq⟩:=hrel;cases b
  ·have s:Hid (a=f):=U.out;go_wp2_with fail;go_end0;rw[<-s.out];exact⟨q,rfl,Q,R⟩
  ·obtain⟨bP,aV⟩:=U.out;obtain⟨m,hm⟩:∃m,gk=m+1:=⟨gk-1,I⟩
   obtain⟨bQ,L,a0⟩:=lI Q;have B:=yS L.1 L.2;have j0:=c9.c6 L.2;obtain⟨W,j2⟩:=c9.kv j0.dy;have b7:=(j0.trans W).mu;have b9:=j0.mu;have a1:k.lm (k.lost a.1+a.1.td.length+1) a.1=k.c6 a.1:=rfl;rw[a1] at B;have bR:Hid (cu k (k.c6 a.1)):=j0.dy;have j:Hid (bM F w q wr/\(∀a2 a3 w',(cZ c k).J a2 a3 w'->bM bQ wr a2 w'->∃G,(cA (cZ c k) c.bs vr).J G (a3,a.2) w'/\bM q wr G w')/\cu k (k.kv (k.c6 a.1)).2):=⟨R,a0,W.dy⟩
   have M:Hid (k.mu (k.kv (k.c6 a.1)).2<=k.mu a.1/\((k.kv (k.c6 a.1)).1=true->k.mu (k.kv (k.c6 a.1)).2<k.mu a.1)/\k.mu a.1<m+1):=⟨b7,fun e=>by have:=j2 e;omega,I⟩
   have s:Hid (k.cK (m+1) a=f):=by rw[<-hm];exact aV
   have X:Hid (gk=m+1):=hm;clear L a0 j0 W j2 b7 b9 Q R U bP aV a1 hm;go_wp2_with fail;refine B.mono ?_;clear B;rintro e w1 ⟨bV,rfl,u,x⟩
   have A:=yT ((dM c k).below u (Below.refl _ w1).drew) bR.out;have x:=x.below (Below.refl _ w1).drew;obtain⟨bW,bY,u⟩:=u;obtain⟨_,_,_,_,bb,_⟩:=dX u;cases hkv:(k.kv (k.c6 a.1)).1
   ·rw[hkv] at A;have bd:Hid ((if(k.wa ((k.kv (k.c6 a.1)).2,a.2)).2=true then k.cK m (k.wa ((k.kv (k.c6 a.1)).2,a.2)).1 else(k.wa ((k.kv (k.c6 a.1)).2,a.2)).1)=f):=by
     have:=s.out;unfold bL.cK at this
     rw[hkv] at this
     exact this
    have C:=c9.wa (t:=((k.kv (k.c6 a.1)).2,a.2)) j.out.2.2;have C:Hid ((k.wa ((k.kv (k.c6 a.1)).2,a.2)).1.2.length<=90000/\((k.wa ((k.kv (k.c6 a.1)).2,a.2)).2=true->k.mu (k.wa ((k.kv (k.c6 a.1)).2,a.2)).1.1<k.mu a.1)):=by have n1:=M.out.1;refine⟨by rw[C.2.1];exact hq,fun e=>by have:=C.2.2 e;dsimp only at this;omega⟩
    generalize k.c6 a.1=s1 at*;generalize (k.kv s1).2=s2 at*;clear u;go_wp2_with fail
    go_region_held3 (fun w'=>w'.cell? (ah c.pk 4)=some (af c.bs)) (go_keep)
     (first
       |(go_at_call 111;refine A.mono ?_;clear A;rintro e d ⟨Y,rfl,l,H⟩;obtain⟨D,hM,J⟩:=j.out.2.1 Y s2 d ⟨l,j.out.2.2⟩ (x.trans H);obtain⟨bZ,b0,l⟩:=l;obtain⟨_,_,_,_,ad,_⟩:=dX l;have l0:=au d _ ad;have g:Hid ((cA (cZ c k) c.bs vr).J D (s2,a.2) d/\bM F w D d):=⟨hM,j.out.1.trans J⟩;clear l H hM J)
       |(go_at_call 54;refine(pO (gF c) d c.pk).mono ?_;rintro e w3 ⟨rfl,be,bg,ai⟩;have bS:=(ai.cell (p:=ah c.pk 4) l0).trans ad;have E:Hid (w3.heap[d.heap.size]?=some (cz c)/\w3.heap[d.heap.size+1]?=some (fu (gF c))/\Below d.heap.size d w3):=⟨be,bg,ai⟩;clear be bg ai)
       |(go_at_call 112;refine(yV bx (t:=(s2,a.2)) ((cA (cZ c k) c.bs vr).below g.out.1 E.out.2.2) hq d.heap.size (d.heap.size+1) E.out.1 E.out.2.1 (fun h=>by have:=(cA (cZ c k) c.bs vr).lt g.out.1 _ h;omega) (fun h=>by have:=(cA (cZ c k) c.bs vr).lt g.out.1 _ h;omega) I).mono ?_;rintro e bi ⟨N,rfl,al,bl,bn⟩;have O:Hid ((cA (cZ c k) c.bs vr).J N (k.wa (s2,a.2)).1 bi/\bM F w N bi):=⟨al,⟨(g.out.2.below E.out.2.2).fr.trans bl (fun b ar=>ar.elim (g.out.2.sub b) (fun e=>an (by have:=g.out.2.fr.size;omega))),fun b ar=>(bn b ar).elim (g.out.2.sub b) (fun h=>an (by have o:=g.out.2.fr.size;have bo:=E.out.2.2.size;omega))⟩⟩;obtain⟨b1,⟨⟨b2,b3,bp⟩,_⟩,_⟩:=lI al;obtain⟨_,_,_,_,bT,_⟩:=dX bp;clear al bl bn bp))
    clear bT ad bS bb j g E s aB x;cases hbw:(k.wa (s2,a.2)).2
    ·have K:Hid (if false=true then k.mu (k.wa (s2,a.2)).1.1<m/\k.cK m (k.wa (s2,a.2)).1=f else(k.wa (s2,a.2)).1=f):=by
      have:=bd.out;rw[hbw] at this
      exact this
     go_wp2_with fail
     go_roundg m
     case measure=>have:=X.out;omega
     case rel=>exact⟨N,(k.wa (s2,a.2)).1,false,rfl,O.out.1,O.out.2,K,C.out.1⟩
    ·have K:Hid (if true=true then k.mu (k.wa (s2,a.2)).1.1<m/\k.cK m (k.wa (s2,a.2)).1=f else(k.wa (s2,a.2)).1=f):=by have o:=bd.out;rw[hbw] at o;have bo:=C.out.2 hbw;have bU:=M.out.2.2;exact⟨I,o⟩
     go_wp2_with fail
     go_roundg m
     case measure=>have:=X.out;omega
     case rel=>exact⟨N,(k.wa (s2,a.2)).1,true,rfl,O.out.1,O.out.2,K,C.out.1⟩
   ·rw[hkv] at A;have K:Hid (if true=true then k.mu (k.kv (k.c6 a.1)).2<m/\k.cK m ((k.kv (k.c6 a.1)).2,a.2)=f else((k.kv (k.c6 a.1)).2,a.2)=f):=by have o:=s.out;unfold bL.cK at o;rw[hkv] at o;have bo:=M.out.2.1 hkv;have bU:=M.out.2.2;exact⟨I,o⟩
    generalize k.c6 a.1=s1 at*;generalize (k.kv s1).2=s2 at*;clear u;go_wp2_with fail;refine wp_region_noPanic ?_;refine wp_region_any ab ?_;refine nM (T:=fun _=>True) (S:=fun _=>True) (St:=[]) _ _ _ _ ?_;refine dW (i:=0) (v:=?_) rfl ab ab ab ab (fun _ _ _ h=>h) (ap ⟨aa,?_⟩) trivial (an trivial) ?_
    rotate_left
    ·intro w ax;go_simp
     try rfl
    try simp only [Act.put,List.getElem_toArray,List.getElem_cons_zero,List.setIfInBounds_toArray,List.set_cons_zero,List.set_cons_succ]
    refine kM (i:=1) ab ?_;refine s8 rfl aa ?_;simp only [List.getElem_toArray,List.getElem_cons_succ,List.getElem_cons_zero];go_simp;refine A.mono ?_;clear A;rintro e d ⟨Y,rfl,l,H⟩
    obtain⟨D,hM,J⟩:=j.out.2.1 Y s2 d ⟨l,j.out.2.2⟩ (x.trans H)
    have g:Hid ((cA (cZ c k) c.bs vr).J D (s2,a.2) d/\bM F w D d):=⟨hM,j.out.1.trans J⟩
    clear l H hM J;refine dW (i:=2) (v:=?_) rfl ab ab ab ab (fun _ _ _ h=>h) (ap ⟨aa,?_⟩) trivial (an trivial) ?_
    rotate_left
    ·intro w ax;go_simp
     try rfl
    try simp only [Act.put,List.getElem_toArray,List.getElem_cons_succ,List.getElem_cons_zero,List.setIfInBounds_toArray,List.set_cons_zero,List.set_cons_succ]
    refine dW (i:=3) (v:=undef) rfl ab ab ab ab (fun _ _ _ h=>h) (an ⟨aa,rfl⟩) trivial (an trivial) ?_
    try simp only [Act.put,List.getElem_toArray,List.getElem_cons_succ,List.getElem_cons_zero,List.setIfInBounds_toArray,List.set_cons_zero,List.set_cons_succ]
    refine dW (i:=4) (v:=undef) rfl ab ab ab ab (fun _ _ _ h=>h) (an ⟨aa,rfl⟩) trivial (an trivial) ?_
    try simp only [Act.put,List.getElem_toArray,List.getElem_cons_succ,List.getElem_cons_zero,List.setIfInBounds_toArray,List.set_cons_zero,List.set_cons_succ]
    refine dW (i:=5) (v:=undef) rfl ab ab ab ab (fun _ _ _ h=>h) (an ⟨aa,rfl⟩) trivial (an trivial) ?_
    try simp only [Act.put,List.getElem_toArray,List.getElem_cons_succ,List.getElem_cons_zero,List.setIfInBounds_toArray,List.set_cons_zero,List.set_cons_succ]
    refine dW (i:=6) (v:=undef) rfl ab ab ab ab (fun _ _ _ h=>h) (an ⟨aa,rfl⟩) trivial (an trivial) ?_
    try simp only [Act.put,List.getElem_toArray,List.getElem_cons_succ,List.getElem_cons_zero,List.setIfInBounds_toArray,List.set_cons_zero,List.set_cons_succ]
    refine dW (i:=7) (v:=undef) rfl ab ab ab ab (fun _ _ _ h=>h) (an ⟨aa,rfl⟩) trivial (an trivial) ?_
    try simp only [Act.put,List.getElem_toArray,List.getElem_cons_succ,List.getElem_cons_zero,List.setIfInBounds_toArray,List.set_cons_zero,List.set_cons_succ]
    refine dW (i:=8) (v:=undef) rfl ab ab ab ab (fun _ _ _ h=>h) (an ⟨aa,rfl⟩) trivial (an trivial) ?_
    try simp only [Act.put,List.getElem_toArray,List.getElem_cons_succ,List.getElem_cons_zero,List.setIfInBounds_toArray,List.set_cons_zero,List.set_cons_succ]
    refine dW (i:=9) (v:=undef) rfl ab ab ab ab (fun _ _ _ h=>h) (an ⟨aa,rfl⟩) trivial (an trivial) ?_
    try simp only [Act.put,List.getElem_toArray,List.getElem_cons_succ,List.getElem_cons_zero,List.setIfInBounds_toArray,List.set_cons_zero,List.set_cons_succ]
    refine dW (i:=10) (v:=undef) rfl ab ab ab ab (fun _ _ _ h=>h) (an ⟨aa,rfl⟩) trivial (an trivial) ?_
    try simp only [Act.put,List.getElem_toArray,List.getElem_cons_succ,List.getElem_cons_zero,List.setIfInBounds_toArray,List.set_cons_zero,List.set_cons_succ]
    refine dW (i:=11) (v:=undef) rfl ab ab ab ab (fun _ _ _ h=>h) (an ⟨aa,rfl⟩) trivial (an trivial) ?_
    try simp only [Act.put,List.getElem_toArray,List.getElem_cons_succ,List.getElem_cons_zero,List.setIfInBounds_toArray,List.set_cons_zero,List.set_cons_succ]
    refine dW (i:=12) (v:=?_) rfl ab ab ab ab (fun _ _ _ h=>h) (ap ⟨aa,?_⟩) trivial (an trivial) ?_
    rotate_left
    ·intro w ax;go_simp
     try rfl
    try simp only [Act.put,List.getElem_toArray,List.getElem_cons_succ,List.getElem_cons_zero,List.setIfInBounds_toArray,List.set_cons_zero,List.set_cons_succ]
    refine dW (i:=13) (v:=?_) rfl ab ab ab ab (fun _ _ _ h=>h) (ap ⟨aa,?_⟩) trivial (an trivial) ?_
    rotate_left
    ·intro w ax;go_simp
     try rfl
    try simp only [Act.put,List.getElem_toArray,List.getElem_cons_succ,List.getElem_cons_zero,List.setIfInBounds_toArray,List.set_cons_zero,List.set_cons_succ]
    refine pG ab ?_ _;refine NoPanic.normal ?_;clear bb j s aB x;go_wp2_with fail
    go_roundg m
    case measure=>have:=X.out;omega
    case rel=>exact⟨D,(s2,a.2),true,rfl,g.out.1,g.out.2,K,hq⟩
theorem yW {u:Option Addr}{nr v:Nat}(A:vr=.slice u nr v){t:bX×List bN}(h:(cA (cZ c k) c.bs vr).J F t w)(hq:t.2.length<=90000)(x:Int):
 Calls prog 55 #[af c.pk,ae x] w fun e w'=>∃a,e=.returned (.tuple #[])/\(cA (cZ c k) c.bs vr).J a (k.ke t x).2 w'/\bM F w a w':=by
 obtain⟨B,⟨g,d⟩,i⟩:=lI h;have P:=mH g d x;have j:Hid ((∀b f w',(cZ c k).J b f w'->bM B w b w'->∃a,(cA (cZ c k) c.bs vr).J a (f,t.2) w'/\bM F w a w')/\cu k (k.ma t.1 x)):=⟨i,(d.ma x).1⟩
 have E:Hid ((k.ke t x).2=k.sp (k.ma t.1 x,t.2)):=rfl;generalize (k.ke t x).2=f at E⊢;clear g d i h;go_enter func55,ntmps55;go_wp2_with fail;refine P.mono ?_;clear P;rintro e w1 ⟨b,rfl,l,m⟩
 obtain⟨D,hM,n⟩:=j.out.1 b _ w1 ⟨l,j.out.2⟩ m;have o:Hid (_/\_):=⟨hM,n⟩
 clear l m hM n;go_wp2_with fail;refine(tu A o.out.1 hq).mono ?_;rintro e G ⟨C,rfl,p,q⟩
 have s:Hid (_/\_):=⟨p,o.out.2.trans q⟩
 clear p q;go_wp2_with fail;go_end0;rw[E.out];exact⟨C,rfl,s.out.1,s.out.2⟩
end
section
variable {fX:Type}{o:dB fX}{bx p:Nat}{x:Obj}{vr:Value}{F:Nat->Prop}{w w':World}
theorem nP {t:fX×List bN}(h:(cA (cw o bx x) p vr).J F t w):(cA o p vr).J (fun b=>F b/\b≠bx) t w/\w.heap[bx]?=some x/\F bx:=by
 obtain⟨k,l,m,⟨n,g1,g2,g3,a⟩,q,s,i,u,j,f,v⟩:=h;have g:k bx:=(a bx).2 (an rfl)
 exact⟨⟨n,l,m,g1,q,s,fun b d=>⟨i b ((a b).2 (ap d)),fun e=>g3 (by rw[<-e];exact d)⟩,⟨u,fun e=>j (by rw[e];exact g)⟩,fun c=>j ((a p).2 (ap c)),fun b e=>⟨⟨(f b e).1,fun A=>(f b e).2 (by rw[A];exact g)⟩,fun c=>(f b e).2 ((a b).2 (ap c))⟩,fun b d=>v b d.1⟩,g2,i _ g⟩
theorem hr {t:fX×List bN}(h:(cA o p vr).J F t w):∃c,o.J c t.1 w/\∀{s:Type}(d:dB s) b f w',d.J b f w'->bM c w b w'->∃j,(cA d p vr).J j (f,t.2) w'/\bM F w j w':=by
 obtain⟨c,u,v,x,l,g,m,A,n,i,B⟩:=h;refine⟨c,x,fun d b f w' q a=>?_⟩
 have lp:=lt_of_some l;refine⟨fun k=>F k\/b k,⟨b,u,v,q,(a.fr.block p lp n).trans l,ca g (fun k e=>a.fr.block k (bR g k e).2 (i k e).2),fun k h=>an h,ap A,fun h=>(a.sub p h).elim n (fun h=>by omega),fun k e=>⟨ap (i k e).1,fun h=>(a.sub k h).elim (i k e).2 (fun h=>by have:=(bR g k e).2;omega)⟩,fun k h=>?_⟩,a.fr.mono m,fun k h=>?_⟩
 ·rcases h with h|h
  ·exact av (B k h) a.fr.size
  ·exact d.lt q k h
 ·rcases h with h|h
  ·exact ap h
  ·exact(a.sub k h).imp (m k) id
end
def yX (a:Type):dB a where
 J _ _ _:=False
 lt:=fun h=>h.elim
 keep:=fun h=>h.elim
def dE (a:Type):eQ (a×List bN):=cA (yX a) 0 (.slice none 0 0)
def bP.d_ (k:bP)(t:bU×List bN)(r:List bN):bU×List bN:=eH (dE bU) (fun s x=>k.al s.1 x) k.ke t r
def bP.sR (k:bP)(t:bU×List bN)(r:List bN):List bN:=el (dE bU) (fun s x=>k.al s.1 x) k.ke (fun s x=>k.nw s.1 x) t r
def bP.fw (k:bP)(t:bU×List bN)(r:List bN):List bN:=em (dE bU) (fun s x=>k.al s.1 x) k.ke (fun s x=>k.nw s.1 x) t r
theorem mI {a:Type}(is:a->Int->Bool)(kp:a->Int->Int×a)(s:a×List bN):∀n,(fF is kp s n).1.2.length=s.2.length
 |0=>rfl
 |n+1=>by
  have e:fF is kp s (n+1)=dt is kp (fF is kp s n) n:=by simp[fF,List.range_succ]
  rw[e];have b:=mI is kp s n;generalize fF is kp s n=t at b⊢;unfold dt;split
  ·exact b
  ·simpa using b
theorem mJ (k:bP):∀(n:Nat)(t:bU×List bN),(k.cK n t).2.length=t.2.length
 |0,_=>rfl
 |n+1,t=>by
  unfold bP.cK;split
  ·exact mJ k n _
  ·split
   ·exact(mJ k n _).trans (mI _ _ _ _)
   ·exact mI _ _ _ _
theorem pR (k:bP)(t:bU×List bN)(x:Int):(k.ke t x).2.2.length=t.2.length:=mJ k _ _
section
variable {c:fs}{k:bP}{F:Nat->Prop}{s:bU}{w:World}{vr:Value}
theorem yY (bx:Nat){i:Option Addr}{nr j:Nat}(l:vr=.slice i nr j):kC (cA (cw (ei c k) bx (fG c)) c.sd vr) (fun _=>True) (kL c).f (kL c).b (kL c).c k.ke:=by
 intro F t w x _ d m;have d:(k.ke t x).2.2.length<=90000:=d;obtain⟨n,f,o⟩:=nP m;rw[pR] at d;refine(yC l n d x).mono ?_;rintro r w' ⟨g,rfl,hM,e⟩
 have p:=lt_of_some f;have q:¬g bx:=fun a=>(e.sub bx a).elim (fun a=>a.2 rfl) (fun a=>by omega)
 refine⟨fun b=>g b\/b=bx,rfl,iN hM ((e.fr.block bx p (fun a=>a.2 rfl)).trans f) q,e.fr.mono (fun b a=>a.1),fun b a=>?_⟩
 rcases a with a|a
 ·exact(e.sub b a).imp (fun a=>a.1) id
 ·exact ap (by rw[a];exact o)
theorem yZ (bx:Nat){d:Option Addr}{nr e:Nat}(f:vr=.slice d nr e):jW (cA (cw (ei c k) bx (fG c)) c.sd vr) (fun _=>True) (iO bx) (kL c) (jv c) (fun s x=>k.al s.1 x) k.ke (fun s x=>k.nw s.1 x) where
 ea:=sX
 eR:=ys
 en:=sY
 ha:=by
  rintro F s w x _ ⟨a,g,i,b,_⟩
  exact s3 bx a s.1 w x trivial b
 hk:=yY bx f
 ht:=by
  rintro F s w x _ ⟨a,g,i,b,_⟩
  exact j6 s7 a s.1 w x trivial b
 hl:=fun s x=>pR k s x
theorem y0 {m:Option Addr}{n:Nat}{r:List bN}(B:vr=.slice m r.length n){t:bU×List bN}(h:(cA (ei c k) c.sd vr).J F t w)(C:w.ownsRow 0 83 2 vr r.length (ev r))(hq:t.2.length+r.length<=90000)(bx:Nat)(D:w.heap[bx]?=some (fG c))(E:¬F bx):
 Calls prog 53 #[af c.sd,.agg #[(iO bx).v,(kL c).v,(jv c).v]] w fun e w'=>∃a1 c1 o,e=.returned (.tuple #[])/\(cA (ei c k) c.sd (.slice a1 (k.sR t r).length c1)).J o ((k.d_ t r).1,k.fw t r) w'/\
  w'.ownsRow 0 83 2 (.slice a1 (k.sR t r).length c1) (k.sR t r).length (ev (k.sR t r))/\(∀b,some b=(Value.slice a1 (k.sR t r).length c1).ownBlock->¬o b/\w.heap.size<=b)/\Fr (fun b=>F b\/b=bx) w w'/\(∀b,o b->F b\/w.heap.size<=b):=by
 subst B;have P:=pt (cA (cw (ei c k) bx (fG c)) c.sd (.slice m r.length n)) (fun _=>True) (iO bx) (kL c) (jv c) _ _ _ (yZ bx rfl) r m n rfl I (fun _ _=>⟨trivial,trivial⟩) _ t w (fun _ _=>⟨trivial,trivial⟩) hq (iN h D E) (fR C)
 refine P.mono ?_;clear P;rintro e w' ⟨a1,c1,a2,c2,p,G,rfl,⟨H,R,S,⟨f,g1,g2,g3,v⟩,U,W,J,X,K,Y,ad⟩,q3,L,g,i,j,M,N,q,s,u⟩
 have g:w'.heap[c.sd]?=some (.cells #[.slice a1 (k.sR t r).length c1,.slice a2 (k.fw t r).length c2] 128 (0,0)):=g;have i:w'.ownsRow w.heap.size 83 2 (.slice a1 (k.sR t r).length c1) (k.sR t r).length (ev (k.sR t r)):=i;have j:w'.ownsRow w.heap.size 83 2 (.slice a2 (k.fw t r).length c2) (k.fw t r).length (ev (k.fw t r)):=j;have q:∀b,some b=(Value.slice a1 (k.sR t r).length c1).ownBlock->¬p b:=q;have s:∀b,some b=(Value.slice a2 (k.fw t r).length c2).ownBlock->¬p b:=s;have u:∀b,some b=(Value.slice a1 (k.sR t r).length c1).ownBlock->some b≠(Value.slice a2 (k.fw t r).length c2).ownBlock:=u;have g1:(ei c k).J f (k.d_ t r).1 G:=g1;have l:∀b,f b->p b:=fun b a=>J b ((v b).2 (ap a))
 have x:∀b,f b->b≠c.sd:=fun b a e=>K (by show H c.sd;rw[<-e];exact(v b).2 (ap a))
 have A:=(ei c k).keep (w':=w') g1 L (fun b a=>q3 b (l b a) (x b a))
 have O:F c.sd:=by obtain⟨_,_,_,_,_,_,_,Q,_⟩:=h;exact Q
 refine⟨a1,c1,fun b=>f b\/b=c.sd\/some b=(Value.slice a2 (k.fw t r).length c2).ownBlock,rfl,⟨f,a2,c2,A,g,d5 j (fun _ _=>aA _),fun b a=>ap a,an (ap rfl),fun d=>x _ d rfl,fun b e=>⟨an (an e),fun d=>s b e (l b d)⟩,fun b a=>?_⟩,d5 i (fun _ _=>aA _),fun b e=>⟨fun d=>?_,(bR i b e).1⟩,M,fun b a=>?_⟩
 ·rcases a with a|a|a
  ·exact(ei c k).lt A b a
  ·rw[a];exact lt_of_some g
  ·exact(bR j b a).2
 ·rcases d with d|d|d
  ·exact q b e (l b d)
  ·obtain⟨ai,hc⟩:=dO i b e;rw[d,g] at hc;simp at hc
  ·exact u b e d
 ·rcases a with a|a|a
  ·rcases N b (l b a) with(d|d)|d
   ·exact ap d
   ·exact absurd a (by rw[d];exact g3)
   ·exact an d
  ·exact ap (by rw[a];exact O)
  ·exact an (bR j b a).1
end
theorem y2 {pk bW ct y:Nat}{a:Wc}{M T:List Int}{F:Nat->Prop}{s:bU}{w:World}(h:(dq ⟨pk,bW,a.pw,a.p,a.q,a.pc,ct,a.sd,a.nb,dx a.O,M⟩ ⟨a.N,a.O,y,T⟩).J F s w):∃f,(dD a).J f ⟨y,s.g,s.ws,M,s.rs⟩ w/\(∀b,f b->F b)/\¬f pk:=by
 obtain⟨ch,bO,own,h,g⟩:=h;have c:∀b j,own b=j->j<=4->(if own b<=4 then own b else 0)=j:=fun b j e i=>by rw[aq I];exact e
 refine⟨fun b=>(if own b<=4 then own b else 0)≠0,⟨fun b=>if own b<=4 then own b else 0,ct,?_,fun b=>Iff.rfl⟩,fun b d=>(g b).2 (fun e=>d (by rw[e];rfl)),fun d=>d ?_⟩
 ·exact {
   ar:=h.ar,a1:=c _ _ h.a1 Z,a2:=c _ _ h.a2 Z,cd:=h.cd,c1:=c _ _ h.c1 Z,c2:=c _ _ h.c2 Z,wd:=h.wd,w1:=c _ _ h.w1 Z,rt:=h.rt,rl:=h.rl,r1:=c _ _ h.r1 Z
   le:=fun b=>by
    split
    ·assumption
    ·decide
   lt:=fun b d=>h.lt b (fun e=>d (by rw[e];rfl))}
 ·have:=h.k1;dsimp only at this
  rw[this];rfl
structure bZ where
 s:dT
 r:List bN
 q:List bN
def eT (a:Wc):dB bZ where
 J F S w:=∃f ar c,(cA (dD a) a.sd (.slice ar S.r.length c)).J f (S.s,S.q) w/\w.ownsRow 0 83 2 (.slice ar S.r.length c) S.r.length (ev S.r)/\(∀b,some b=(Value.slice ar S.r.length c).ownBlock->¬f b)/\∀b,F b↔(f b\/some b=(Value.slice ar S.r.length c).ownBlock)
 lt:=by
  rintro F S w ⟨f,ar,c,i,j,k,g⟩ b d;rcases(g b).1 d with d|d
  ·exact(cA (dD a) a.sd (.slice ar S.r.length c)).lt i b d
  ·exact(bR j b d).2
 keep:=by rintro F S w w' ⟨f,ar,c,i,j,k,g⟩ hs hk;exact⟨f,ar,c,(cA (dD a) a.sd (.slice ar S.r.length c)).keep i hs (fun b d=>hk b ((g b).2 (ap d))),ca j (fun b e=>hk b ((g b).2 (an e))),k,g⟩
def bL.d_ (k:bL)(t:bX×List bN)(r:List bN):bX×List bN:=eH (dE bX) (fun s x=>k.al s.1 x) k.ke t r
def bL.sR (k:bL)(t:bX×List bN)(r:List bN):List bN:=el (dE bX) (fun s x=>k.al s.1 x) k.ke (fun s x=>k.nw s.1 x) t r
def bL.fw (k:bL)(t:bX×List bN)(r:List bN):List bN:=em (dE bX) (fun s x=>k.al s.1 x) k.ke (fun s x=>k.nw s.1 x) t r
theorem lJ (k:bL):∀(n:Nat)(t:bX×List bN),(k.cK n t).2.length=t.2.length
 |0,t=>rfl
 |n+1,t=>by
  unfold bL.cK;split
  ·exact lJ k n ((k.kv (k.c6 t.1)).2,t.2)
  ·split
   ·exact(lJ k n _).trans (mI _ _ _ _)
   ·exact mI _ _ _ _
theorem nQ (k:bL)(t:bX×List bN)(x:Int):(k.ke t x).2.2.length=t.2.length:=lJ k _ _
section
variable {c:eB}{k:bL}{F:Nat->Prop}{s:bX}{w:World}{vr:Value}
theorem y3 (bx d:Nat)(C:bx≠d){D:Option Addr}{nr G:Nat}(H:vr=.slice D nr G):kC (cA (cw (cw (cZ c k) d (fu (ii c))) bx (cz c)) c.bs vr) (fun _=>True) (gi d).f (gi d).b (gi d).c k.ke:=by
 intro F t w x _ i m;have i:(k.ke t x).2.2.length<=90000:=i;obtain⟨n,o,p⟩:=nP m;obtain⟨q,hy,s⟩:=nP n;rw[nQ] at i;have P:=yW H q i x;have c0:w.cell? (ah d 0)=some (ii c).v:=by simp[World.cell?,hy]
 have g:Hid (w.heap[bx]?=some (cz c)/\w.heap[d]?=some (fu (ii c))/\F bx/\F d):=⟨o,hy,p,s.1⟩
 have E:Hid ((k.ke t x).1=x):=rfl;generalize (k.ke t x).1=M at E⊢;generalize (k.ke t x).2=J at P⊢;clear m n q o hy p s i;show Calls prog 122 #[ae x,af d] w _;go_enter func122,ntmps122;go_wp2_with fail;refine P.mono ?_;clear P;rintro e w1 ⟨j,rfl,hM,f⟩
 have K:=lt_of_some g.out.1;have L:=lt_of_some g.out.2.1;have u:w1.heap[bx]?=some (cz c):=(f.fr.block bx K (fun a=>a.1.2 rfl)).trans g.out.1;have v:w1.heap[d]?=some (fu (ii c)):=(f.fr.block d L (fun a=>a.2 rfl)).trans g.out.2.1;have A:¬j d:=fun a=>(f.sub d a).elim (fun a=>a.2 rfl) (fun a=>by omega)
 have B:¬(j bx\/bx=d):=fun a=>a.elim (fun a=>(f.sub bx a).elim (fun a=>a.1.2 rfl) (fun a=>by omega)) C;have l:Hid ((cA (cw (cw (cZ c k) d (fu (ii c))) bx (cz c)) c.bs vr).J (fun b=>(j b\/b=d)\/b=bx) J w1/\Fr F w w1/\∀b,((j b\/b=d)\/b=bx)->F b\/w.heap.size<=b):=by
  refine⟨iN (iN hM v A) u B,f.fr.mono (fun b a=>a.1.1),fun b a=>?_⟩
  rcases a with(a|a)|a
  ·exact(f.sub b a).imp (fun a=>a.1.1) id
  ·exact ap (by rw[a];exact g.out.2.2.2)
  ·exact ap (by rw[a];exact g.out.2.2.1)
 clear hM f u v A B;go_wp2_with fail;go_ret;rw[E.out];exact⟨_,rfl,l.out.1,l.out.2.1,l.out.2.2⟩
theorem y4 (bx a:Nat)(e:bx≠a){f:Option Addr}{nr g:Nat}(i:vr=.slice f nr g):jW (cA (cw (cw (cZ c k) a (fu (ii c))) bx (cz c)) c.bs vr) (fun _=>True) (g4 bx) (gi a) (hJ c) (fun s x=>k.al s.1 x) k.ke (fun s x=>k.nw s.1 x) where
 ea:=pL
 eR:=pM
 en:=pN
 ha:=by
  rintro F s w x _ ⟨b,j,l,d,_⟩
  exact pQ bx a (ii c) b s.1 w x trivial d
 hk:=y3 bx a e i
 ht:=by
  rintro F s w x _ ⟨b,j,l,d,_⟩
  exact j6 (j6 pP) b s.1 w x trivial d
 hl:=fun s x=>nQ k s x
theorem y5 {n:Option Addr}{o:Nat}{r:List bN}(G:vr=.slice n r.length o){t:bX×List bN}(h:(cA (cZ c k) c.bs vr).J F t w)(H:w.ownsRow 0 83 2 vr r.length (ev r))(hq:t.2.length+r.length<=90000)(bx f:Nat)(x:bx≠f)(J:w.heap[bx]?=some (cz c))(hy:w.heap[f]?=some (fu (ii c)))(K:¬F bx)(hm:¬F f):
 Calls prog 53 #[af c.bs,.agg #[(g4 bx).v,(gi f).v,(hJ c).v]] w fun e w'=>∃a1 c1 p,e=.returned (.tuple #[])/\(cA (cZ c k) c.bs (.slice a1 (k.sR t r).length c1)).J p ((k.d_ t r).1,k.fw t r) w'/\
  w'.ownsRow 0 83 2 (.slice a1 (k.sR t r).length c1) (k.sR t r).length (ev (k.sR t r))/\(∀b,some b=(Value.slice a1 (k.sR t r).length c1).ownBlock->¬p b/\w.heap.size<=b)/\Fr (fun b=>F b\/b=f\/b=bx) w w'/\(∀b,p b->F b\/w.heap.size<=b):=by
 subst G;have P:=pt (cA (cw (cw (cZ c k) f (fu (ii c))) bx (cz c)) c.bs (.slice n r.length o)) (fun _=>True) (g4 bx) (gi f) (hJ c) _ _ _ (y4 bx f x rfl) r n o rfl I (fun _ _=>⟨trivial,trivial⟩) _ t w (fun _ _=>⟨trivial,trivial⟩) hq (iN (iN h hy hm) J (fun a=>a.elim K x)) (fR H)
 refine P.mono ?_;clear P;rintro e w' ⟨a1,c1,a2,c2,q,L,rfl,⟨A,Y,ad,⟨eN,⟨g,g1,ai,M,B⟩,g2,g3,N⟩,al,ar,O,ax,Q,aB,aF⟩,q3,R,i,j,l,S,U,s,u,v⟩
 have i:w'.heap[c.bs]?=some (.cells #[.slice a1 (k.sR t r).length c1,.slice a2 (k.fw t r).length c2] 128 (0,0)):=i;have j:w'.ownsRow w.heap.size 83 2 (.slice a1 (k.sR t r).length c1) (k.sR t r).length (ev (k.sR t r)):=j;have l:w'.ownsRow w.heap.size 83 2 (.slice a2 (k.fw t r).length c2) (k.fw t r).length (ev (k.fw t r)):=l;have s:∀b,some b=(Value.slice a1 (k.sR t r).length c1).ownBlock->¬q b:=s;have u:∀b,some b=(Value.slice a2 (k.fw t r).length c2).ownBlock->¬q b:=u;have v:∀b,some b=(Value.slice a1 (k.sR t r).length c1).ownBlock->some b≠(Value.slice a2 (k.fw t r).length c2).ownBlock:=v;have g1:(cZ c k).J g (k.d_ t r).1 L:=g1;have C:∀b,g b->A b:=fun b d=>(N b).2 (ap ((B b).2 (ap d)))
 have m:∀b,g b->q b:=fun b d=>O b (C b d)
 have D:∀b,g b->b≠c.bs:=fun b d e=>Q (by show A c.bs;rw[<-e];exact C b d)
 have E:=(cZ c k).keep (w':=w') g1 R (fun b d=>q3 b (m b d) (D b d))
 have W:F c.bs:=by obtain⟨_,_,_,_,_,_,_,X,_⟩:=h;exact X
 refine⟨a1,c1,fun b=>g b\/b=c.bs\/some b=(Value.slice a2 (k.fw t r).length c2).ownBlock,rfl,⟨g,a2,c2,E,i,d5 l (fun _ _=>aA _),fun b d=>ap d,an (ap rfl),fun a=>D _ a rfl,fun b e=>⟨an (an e),fun a=>u b e (m b a)⟩,fun b d=>?_⟩,d5 j (fun _ _=>aA _),fun b e=>⟨fun a=>?_,(bR j b e).1⟩,S.mono (fun b a=>?_),fun b d=>?_⟩
 ·rcases d with d|d|d
  ·exact(cZ c k).lt E b d
  ·rw[d];exact lt_of_some i
  ·exact(bR l b d).2
 ·rcases a with a|a|a
  ·exact s b e (m b a)
  ·obtain⟨aR,hc⟩:=dO j b e;rw[a,i] at hc;simp at hc
  ·exact v b e a
 ·rcases a with(a|a)|a
  ·exact ap a
  ·exact an (ap a)
  ·exact an (an a)
 ·rcases d with d|d|d
  ·rcases U b (m b d) with((a|a)|a)|a
   ·exact ap a
   ·exact absurd d (by rw[a];exact M)
   ·exact absurd ((B b).2 (ap d)) (by rw[a];exact g3)
   ·exact an a
  ·exact ap (by rw[d];exact W)
  ·exact an (bR l b d).1
def bL.cg (k:bL)(s:bX):Nat->bX
 |0=>s
 |n+1=>k.ma (k.cg s n) (k.s.rs.getD n 0)
theorem c9.cg (h:cu k s):∀n,c9 k s (k.cg s n)
 |0=>c9.refl h
 |n+1=>(c9.cg h n).trans (c9.ma (c9.cg h n).dy _)
theorem y6 (h:(dM c k).J F s w)(g:cu k s):
 Calls prog 51 #[af c.pk] w fun e w'=>∃a,e=.returned (.tuple #[])/\(dM c k).J a (k.cg s 12) w'/\bM F w a w':=by
 have i:Hid ((dM c k).J F s w):=h;have p:Hid (cu k s):=g;obtain⟨vt,bO,h⟩:=h;obtain⟨_,c0,q,_⟩:=fH h;obtain⟨t,_⟩:=dX h;clear h g;go_enter func51,ntmps51;go_wp2_with fail
 go_loopw [12] (fun iv wr=>∃(j:Nat)(a:Nat->Prop),j<=12/\iv=ae j/\Hid ((dM c k).J a (k.cg s j) wr/\bM F w a wr)) (fun iv _=>12-(intOf iv).toNat)
 case atStart=>exact⟨0,F,aA _,rfl,⟨i.out,bM.refl _ _⟩⟩
 case round=>
  clear i c0 q t;obtain⟨j,a,A,rfl,b⟩:=hrel;by_cases u:j<12
  ·obtain⟨vt,bO,l⟩:=b.out.1;obtain⟨_,_,_,rt⟩:=fH l;have r1:=rt j u;have d:=mH b.out.1 (c9.cg p.out j).dy (k.s.rs.getD j 0)
   have m:Hid (k.ma (k.cg s j) (k.s.rs.getD j 0)=k.cg s (j+1)):=rfl;rw[m.out] at d;have j0:(0:Int)<=(j:Int):=I;have B:(j:Int)<12:=I;generalize k.s.rs.getD j 0=x at r1 d;clear l rt m;go_wp2_with fail;refine d.mono ?_;clear d;rintro e n ⟨f,rfl,j2,o⟩
   have v:Hid ((dM c k).J f (k.cg s (j+1)) n/\bM F w f n):=⟨j2,b.out.2.trans o⟩
   clear j2 o r1 b;go_wp2_with fail;go_roundw
   case rel=>exact⟨j+1,f,I,ac,v⟩
   case measure=>simp[intOf];omega
  ·obtain rfl:j=12:=I;go_wp2_with fail;go_end0;exact⟨a,rfl,b.out.1,b.out.2⟩
end
theorem tx (z:Value)(n:Nat)(hz:z.cells.size=1):(Builtin.zeroCells z.cells n).size=n*1:=by rw[size_zeroCells,hz]
theorem tz (l:List Int):∀u∈l.map (Value.int .i64),u.oneCell'=true:=fun u a=>by obtain⟨x,_,rfl⟩:=List.mem_map.1 a;rfl
theorem tA {w:World}{base:Nat}{e:TypeId}{f:Option Addr}{i:Nat}{l:List Int}(h:w.ownsRow base e 1 (.slice f l.length i) l.length (l.map (Value.int .i64))):∀a,f=some a->∀j u,(l.map (Value.int .i64))[j]?=some u->w.cell? (a.add j)=some u:=fun a ea j u c=>by
 have d:j<l.length:=by have:=(List.getElem?_eq_some_iff.1 c).1;simpa using this
 obtain⟨b,o,g,_,hc⟩:=ga h I;rw[ea] at g;cases g;have k:=hc j d;rw[aX,am d] at c;simp at c;have m:(⟨b,o,none⟩:Addr).add j=⟨b,o+j,none⟩:=by simp[Addr.add]
 rw[m,k,<-c];simp[List.getD_eq_getElem?_getD,List.getElem?_eq_getElem d]
theorem y7 (w:World)(n:Nat)(m:n<=100000):
 Calls prog 187 #[.slice none 0 0,ae n] w fun e w'=>∃a1 c1,e=.returned (.slice a1 0 c1)/\w'.ownsRow w.heap.size 3 1 (.slice a1 0 c1) 0 []/\Below w.heap.size w w':=by
 obtain⟨f,hi,i,j,k⟩:=info_parts iE;rcases Nat.eq_zero_or_pos n with h0|h0
 ·subst h0;go_enter func187,ntmps187;go_wp2_with fail;go_ret;exact⟨none,0,rfl,aO _ _ _ _,Below.refl _ _⟩
 ·have a:=Lib.run_append_nil_zeros (P:=prog) w 96 3 96 3 f (ae 0) .i64 .i64 Tryz.underlying96 Tryz.underlying3 hi i n h0 (by rw[j];decide) I (by rw[k];omega)
  have l:=grownCap_ge w n 0 3;have b:grownCap w n 0 3<=maxLen:=grownCap_le_maxLen w n 0 3 (by unfold maxLen;omega)
  generalize grownCap w n 0 3=g at a l b;have c:(w.drew.alloc (.cells (Builtin.zeroCells (Value.int .i64 0).cells n++Builtin.zeroCells (Value.int .i64 0).cells (g-n)) 3)).ownsRow w.heap.size 3 1 (.slice (some ⟨w.heap.size,0,none⟩) 0 g) 0 []:=
   World.ownsRow_made w.drew _ g bJ b (by rw[Array.size_append,tx _ _ rfl,tx _ _ rfl];omega)
  have d:Below w.heap.size w (w.drew.alloc (.cells (Builtin.zeroCells (Value.int .i64 0).cells n++Builtin.zeroCells (Value.int .i64 0).cells (g-n)) 3)):=(Below.refl _ w).drew.alloc bJ _;generalize w.drew.alloc (.cells (Builtin.zeroCells (Value.int .i64 0).cells n++Builtin.zeroCells (Value.int .i64 0).cells (g-n)) 3)=w1 at a c d;go_enter func187,ntmps187;go_wp2_with (at_builtin;refine Lib.wpList_append_run _ rfl _ _ _ _ rfl _ _ rfl rfl _ _ a ?_)
  go_wp2_with fail;go_ret;exact⟨_,_,rfl,c,d⟩
theorem tC (w:World)(B:Nat)(l1 l2:List Int)(i j:Option Addr)(c1 c2:Nat)(t:w.cell? (ah B 0)=some (.slice i l1.length c1))(E:w.cell? (ah B 1)=some (.slice j l2.length c2))(u:w.ownsRow 0 3 1 (.slice i l1.length c1) l1.length (l1.map (Value.int .i64)))(v:w.ownsRow 0 3 1 (.slice j l2.length c2) l2.length (l2.map (Value.int .i64)))(hm:l1.length+l2.length<=100000):
 Calls prog 169 #[.slice (ag B) 2 2] w fun e w'=>∃a c,e=.returned (.slice a (l1.length+l2.length) c)/\w'.ownsRow w.heap.size 3 1 (.slice a (l1.length+l2.length) c) (l1.length+l2.length) ((l1++l2).map (Value.int .i64))/\Below w.heap.size w w':=by
 obtain⟨x,hi,A,C,D⟩:=info_parts iE;have l:Hid (w.ownsRow 0 3 1 (.slice i l1.length c1) l1.length (l1.map (Value.int .i64))):=u;have m:Hid (w.ownsRow 0 3 1 (.slice j l2.length c2) l2.length (l2.map (Value.int .i64))):=v;have hB:=au w _ t;clear u v;go_enter func169,ntmps169;go_wp2_with fail
 go_loopw [3,11] (fun n iv wr=>wr=w/\((iv=ae 0/\n=ae 0)\/(iv=ae 1/\n=ae l1.length)\/(iv=ae 2/\n=ae (l1.length+l2.length:Nat)))) (fun _ iv _=>2-(intOf iv).toNat)
 case atStart=>exact⟨rfl,ap ⟨rfl,rfl⟩⟩
 case round=>
  obtain⟨hw,⟨rfl,rfl⟩|⟨rfl,rfl⟩|⟨rfl,rfl⟩⟩:=hrel
  all_goals
   have hw:=hw.symm;subst hw
  ·go_wp2_with fail;go_roundw
   case rel=>exact⟨trivial,an (ap ⟨ac,ac⟩)⟩
   case measure=>simp[intOf]
  ·go_wp2_with fail;go_roundw
   case rel=>exact⟨trivial,an (an ⟨ac,ac⟩)⟩
   case measure=>simp[intOf]
  ·go_wp2_with fail;refine(y7 w (l1.length+l2.length) hm).mono ?_;rintro e w1 ⟨a1,F,rfl,d,b⟩
   go_wp2_with fail
   go_loopw [6,27] (fun o iv wk=>Below w.heap.size w wk/\((∃a c,iv=ae 0/\o=.slice a 0 c/\wk.ownsRow w.heap.size 3 1 (.slice a 0 c) 0 [])\/(∃a c,iv=ae 1/\o=.slice a l1.length c/\wk.ownsRow w.heap.size 3 1 (.slice a l1.length c) l1.length (l1.map (Value.int .i64)))\/(∃a c,iv=ae 2/\o=.slice a (l1.length+l2.length) c/\wk.ownsRow w.heap.size 3 1 (.slice a (l1.length+l2.length) c) (l1.length+l2.length) ((l1++l2).map (Value.int .i64))))) (fun _ iv _=>2-(intOf iv).toNat)
   case atStart=>exact⟨b,ap ⟨a1,F,rfl,rfl,d⟩⟩
   case round=>
    clear d b;obtain⟨b,⟨a,c,rfl,rfl,d⟩|⟨a,c,rfl,rfl,d⟩|⟨a,c,rfl,rfl,d⟩⟩:=hrel
    ·have G:=(b.cell (p:=ah B 0) hB).trans t;have hs:=b.size;go_wp2_with (at_builtin;refine hS _ rfl _ _ 96 rfl w.heap.size 3 x (ae 0) 1 8 Tryz.underlying96 hi A C D rfl Z (.slice a 0 c) 0 [] rfl d i l1.length c1 (l1.map (Value.int .i64)) rfl V (pr l.out) (tA (ca l.out (fun k e=>b.block k (bR l.out k e).2))) (tz l1) ?_ ?_ hs ?_;(unfold maxLen;omega);omega;intro a2 q H f g _;rw[Nat.zero_add,List.nil_append] at f)
     have s:=b.grown g hs (fun k e=>(bR d k e.symm).1)
     clear b g;go_wp2_with fail;go_roundw
     case rel=>exact⟨s,an (ap ⟨a2,q,ac,rfl,f⟩)⟩
     case measure=>simp[intOf]
    ·have G:=(b.cell (p:=ah B 1) hB).trans E;have hs:=b.size;go_wp2_with (at_builtin;refine hS _ rfl _ _ 96 rfl w.heap.size 3 x (ae 0) 1 8 Tryz.underlying96 hi A C D rfl Z (.slice a l1.length c) l1.length (l1.map (Value.int .i64)) rfl d j l2.length c2 (l2.map (Value.int .i64)) rfl V (pr m.out) (tA (ca m.out (fun k e=>b.block k (bR m.out k e).2))) (tz l2) ?_ ?_ hs ?_;(unfold maxLen;omega);omega;intro a2 q H f g _;rw[<-bc] at f)
     have s:=b.grown g hs (fun k e=>(bR d k e.symm).1)
     clear b g;go_wp2_with fail;go_roundw
     case rel=>exact⟨s,an (an ⟨a2,q,ac,rfl,f⟩)⟩
     case measure=>simp[intOf]
    ·go_wp2_with fail;go_ret;exact⟨a,c,rfl,d,b⟩
section
variable {c:eB}{k:bL}{F:Nat->Prop}{s:bX}{w:World}
theorem tD {vt bO:Value}(h:(cy c k vt bO).J F s w):w.ownsRow 0 3 1 c.yv k.Y.length (k.Y.map (Value.int .i64))/\w.ownsRow 0 3 1 c.ov k.G.length (k.G.map (Value.int .i64)):=by obtain⟨a,own,h,_⟩:=h;exact⟨h.yr,h.gr⟩
theorem tE (h:(dM c k).J F s w)(hl:k.T.length<=4000):
 Calls prog 108 #[af c.pk] w fun e w'=>∃a i,e=.returned (.slice a k.T.length i)/\w'.ownsRow w.heap.size 3 1 (.slice a k.T.length i) k.T.length (k.T.map (Value.int .i64))/\Below w.heap.size w w':=by
 have u:k.T.length=k.G.length+k.Y.length:=by unfold bL.T;rw[aJ]
 have D:Hid (k.T.map (Value.int .i64)=(k.G++k.Y).map (Value.int .i64)):=rfl;rw[u] at hl⊢;rw[D.out];obtain⟨vt,bO,h⟩:=h;obtain⟨_,m,n,_,_,_,_,_,lk⟩:=dX h;obtain⟨yr,gr⟩:=tD h;obtain⟨d,f,v⟩:=dG yr;obtain⟨g,gc,x⟩:=dG gr;rw[v] at m yr;rw[x] at n gr;have A:=(Below.refl w.drew.heap.size w.drew).alloc bJ (.cells #[.slice g k.G.length gc,.slice d k.Y.length f] 96)
 have j:Below w.heap.size w (w.drew.alloc (.cells #[.slice g k.G.length gc,.slice d k.Y.length f] 96)):=(Below.refl w.heap.size w).drew.trans (A.mono bJ)
 have o:=aw w.drew (.cells #[.slice g k.G.length gc,.slice d k.Y.length f] 96)
 have P:=tC (w.drew.alloc (.cells #[.slice g k.G.length gc,.slice d k.Y.length f] 96)) w.heap.size k.G k.Y g d gc f (by simp only [World.cell?];rw[show w.heap.size=w.drew.heap.size from rfl,o];rfl) (by simp only [World.cell?];rw[show w.heap.size=w.drew.heap.size from rfl,o];rfl) (ca gr (fun b e=>j.block b (bR gr b e).2)) (ca yr (fun b e=>j.block b (bR yr b e).2)) I;have q:Hid (Below w.heap.size w (w.drew.alloc (.cells #[.slice g k.G.length gc,.slice d k.Y.length f] 96))):=j;clear h yr gr A o j u v x;go_enter func108,ntmps108;go_wp2_with fail
 go_region_held3 (fun w'=>w'.cell? (ah c.pk 1)=some (.slice d k.Y.length f)/\w'.cell? (ah c.pk 2)=some (.slice g k.G.length gc)) (go_keep)
  (first
    |(go_at_call 169;refine P.mono ?_;clear P;rintro e w3 ⟨a,i,rfl,t,B⟩;have l:=q.out.trans (B.mono q.out.size);have y1:=(l.cell (p:=ah c.pk 1) lk).trans m;have E:=(l.cell (p:=ah c.pk 2) lk).trans n;have C:Hid (w3.ownsRow w.heap.size 3 1 (.slice a (k.G.length+k.Y.length) i) (k.G.length+k.Y.length) ((k.G++k.Y).map (Value.int .i64))/\Below w.heap.size w w3):=⟨d5 t (fun b e=>az q.out.size (bR t b e).1),l⟩;clear t B l))
 clear y1 E m n;go_wp2_with fail;go_ret;exact⟨a,i,rfl,C.out.1,C.out.2⟩
end
end Go.Proofs.YtjpjpjemibgjpaaGreat
