import Derived.Test.YtjpjpjemibgjpaaGreatJ23
import Derived.Test.YtjpjpjemibgjpaaGreatJ03
import Derived.Test.YtjpjpjemibgjpaaGreatJ04
import Derived.Test.YtjpjpjemibgjpaaGreatJ22
import Derived.Test.YtjpjpjemibgjpaaGreatJ01
import Derived.Test.YtjpjpjemibgjpaaGreatJ00
import Derived.Test.YtjpjpjemibgjpaaGreatJ02
import Derived.Test.YtjpjpjemibgjpaaGreatJ05
namespace Go.Proofs.YtjpjpjemibgjpaaGreat
set_option maxRecDepth 100000
set_option maxHeartbeats 4000000
open Tryz
open Go.RowKit W Kp bY
def cH (c:eB)(k0:bL)(s:bX)(vt bO:Value):dB bL where
 J F k w:=(cy c k vt bO).J F s w/\k.a=k0.a/\k.Y=k0.Y/\k.G=k0.G
 lt:=fun h=>(cy c _ vt bO).lt h.1
 keep:=fun h hs hk=>⟨(cy c _ vt bO).keep h.1 hs hk,h.2⟩
def bL.fx (k:bL)(s:bX)(a:Int):Nat->bL
 |0=>k
 |n+1=>(k.fx s a n).f6 (a+1+n) (k.nw s ((k.fx s a n).ld (a+1+n)))
def bL.ij (k:bL)(s:bX)(a:Int):bL:=(k.brk s a).fx s a (pf (k.ld a)).toNat
theorem bL.jy {k k0:bL}(s:bX)(x:Int)(a:k.Y=k0.Y)(b:k.G=k0.G):k.nw s x=k0.nw s x:=by unfold bL.nw bL.jt bL.T;rw[a,b]
theorem pT (k:bL)(s:bX)(a:Int):(k.brk s a).a=k.a/\(k.brk s a).Y=k.Y/\(k.brk s a).G=k.G:=by
 unfold bL.brk;split
 ·split<;>exact⟨rfl,rfl,rfl⟩
 ·exact⟨rfl,rfl,rfl⟩
section
variable {c:eB}{k0 k:bL}{vt bO:Value}{F:Nat->Prop}{s:bX}{w:World}{bp:Nat}
theorem gj (h:(cH c k0 s vt bO).J F k w):w.cell? (ah c.pk 0)=some (af k0.a.pw)/\w.cell? (ah c.pk 3)=some (.map (some c.bW))/\w.cell? (ah k0.a.pw 0)=some (af k0.a.p)/\Mp w c.bW k0.T s.f/\At w k0.a.p k0.a.q k0.a.N k0.a.O k.s.y k.s.g k.s.ws:=by
 obtain⟨h,ea,d,e⟩:=h;obtain⟨a,_,_,f,_⟩:=dX h;obtain⟨b,c0,_⟩:=fH h;obtain⟨hM,_⟩:=mF h;rw[ea] at a b c0;have g:k.T=k0.T:=by unfold bL.T;rw[d,e]
 rw[g] at hM;exact⟨a,f,c0,hM,b⟩
theorem zf (h:(cH c k0 s vt bO).J F k w)(a:Int):Calls prog 73 #[af k0.a.p,ae a] w fun e w'=>e=.returned (ae (k.ld a))/\Below w.heap.size w w':=by
 have b:=(gj h).2.2.2.2;have e:k.ld a=ld k0.a.N k.s.y k.s.g k.s.ws a:=by unfold bL.ld;rw[h.2.1]
 rw[e];exact h8 a w b
theorem tH (h:(cH c k0 s vt bO).J F k w)(x:Int):Calls prog 123 #[af c.pk,ae x] w fun e w'=>e=.returned (ae (k0.nw s x))/\Below w.heap.size w w':=by have P:=tk h.1 x;rw[bL.jy s x h.2.2.1 h.2.2.2] at P;exact P
theorem zi (h:(cH c k0 s vt bO).J F k w)(a x:Int):Calls prog 68 #[af k0.a.p,ae a,ae x] w fun e w'=>∃b d,e=.returned (.bool b)/\(cH c k0 s vt bO).J d (k.f6 a x) w'/\bM F w d w':=by
 obtain⟨h,ea,f,g⟩:=h;obtain⟨i,j⟩:=lL h;have P:=jP a x w i;rw[<-ea];refine P.mono ?_;rintro e l ⟨rfl,m,n⟩
 obtain⟨o,p,q⟩:=j l _ _ _ m n;exact⟨_,o,rfl,⟨p,ea,f,g⟩,q⟩
theorem zj (h:(cH c k0 s vt bO).J F k w)(a:Int)(ha:0<=a/\a<=2000):Calls prog 127 #[af c.pk,ae a] w fun e w'=>∃b,e=.returned (.tuple #[])/\(cH c k0 s vt bO).J b (k.brk s a) w'/\bM F w b w':=by
 refine(ze h.1 a ha).mono ?_;rintro e m ⟨d,rfl,f,g⟩
 obtain⟨i,j,l⟩:=pT k s a;exact⟨d,rfl,⟨f,i.trans h.2.1,j.trans h.2.2.1,l.trans h.2.2.2⟩,g⟩
theorem zk (h:(cw (cH c k0 s vt bO) bp (cz c)).J F k w)(a:Int)(ha:0<=a/\a<=2000)(m:Nat)(hm:m<=12):
 Calls prog 126 #[ae a,ae (1+m),af bp] w fun e w'=>∃U,e=.returned (.tuple #[])/\(cw (cH c k0 s vt bO) bp (cz c)).J U ((k.brk s a).fx s a m) w'/\bM F w U w':=by
 have W:Hid (∀x,(k.brk s a).nw s x=k0.nw s x):=by obtain⟨_,aR,aT⟩:=pT k s a;obtain⟨_,⟨_,_,g2,g3⟩,_⟩:=h;exact fun x=>bL.jy s x (aR.trans g2) (aT.trans g3)
 obtain⟨aV,h0,g,lb,l⟩:=fI h;have P:=zj h0 a ha;have n:Hid (∀d f w1,(cH c k0 s vt bO).J d f w1->bM aV w d w1->(cw (cH c k0 s vt bO) bp (cz c)).J (fun b=>d b\/b=bp) f w1/\bM F w (fun b=>d b\/b=bp) w1):=l;have o:w.cell? (ah bp 0)=some (af c.pk):=by simp[World.cell?,g]
 generalize k.brk s a=k1 at P W⊢;clear h h0 g l lb;go_enter func126,ntmps126;go_wp2_with fail;refine P.mono ?_;clear P;rintro e w1 ⟨d,rfl,X,f⟩
 obtain⟨Y,ad⟩:=n.out d _ w1 X f;clear X f n o;go_wp2_with fail
 go_loopw [5] (fun iv wr=>∃(j:Nat)(q:Nat->Prop),j<=m/\iv=ae (a+1+j)/\Hid ((cw (cH c k0 s vt bO) bp (cz c)).J q (k1.fx s a j) wr/\bM F w q wr)) (fun iv _=>m-(intOf iv-a-1).toNat)
 case atStart=>exact⟨0,_,aA _,ac,⟨Y,ad⟩⟩
 case round=>
  clear Y ad;obtain⟨j,q,bl,rfl,i⟩:=hrel;by_cases bn:j<m
  ·obtain⟨u,t,g,lb,l⟩:=fI i.out.1;have n:Hid (∀d f w1,(cH c k0 s vt bO).J d f w1->bM u wr d w1->(cw (cH c k0 s vt bO) bp (cz c)).J (fun b=>d b\/b=bp) f w1/\bM q wr (fun b=>d b\/b=bp) w1):=l;have H:Hid (wr.heap[bp]?=some (cz c)/\bp<wr.heap.size):=⟨g,lb⟩
   have v:Hid ((cH c k0 s vt bO).J u (k1.fx s a j) wr):=t;have o:wr.cell? (ah bp 0)=some (af c.pk):=by simp[World.cell?,g]
   obtain⟨a0,_,c0,_,_⟩:=gj t;have J:=zf ((cH c k0 s vt bO).below t (Below.refl _ wr).drew) (a+1+j)
   have A:Hid (k1.fx s a (j+1)=(k1.fx s a j).f6 (a+1+j) (k0.nw s ((k1.fx s a j).ld (a+1+j)))):=by show _=_;rw[<-W.out];rfl
   generalize (k1.fx s a j).ld (a+1+j)=x at J A;obtain⟨B,K⟩:∃B,k1.fx s a (j+1)=B:=⟨_,rfl⟩
   rw[K] at A;have a1:Hid (k1.fx s a (j+1)=B):=K;clear K;generalize k1.fx s a j=ai at v i t A;have j0:(0:Int)<=(j:Int):=I;have bo:(j:Int)<m:=I;have br:(m:Int)<=12:=I;clear t g lb l;go_wp2_with fail
   go_region_held3 (fun w'=>w'.cell? (ah bp 0)=some (af c.pk)/\w'.cell? (ah c.pk 0)=some (af k0.a.pw)/\w'.cell? (ah k0.a.pw 0)=some (af k0.a.p)) (go_keep)
    (first
      |(go_at_call 73;refine J.mono ?_;clear J;rintro e L ⟨rfl,al⟩;have C:Below wr.heap.size wr L:=((Below.refl _ wr).drew).trans (al.mono V);have M:=(cH c k0 s vt bO).below v.out C;obtain⟨y1,_,a2,_,_⟩:=gj M;have a3:=(C.cell (p:=ah bp 0) H.out.2).trans o;have D:Hid ((cH c k0 s vt bO).J u ai L/\Below wr.heap.size wr L):=⟨M,C⟩;clear al C M)
      |(go_at_call 123;refine(tH D.out.1 x).mono ?_;rintro e ar ⟨rfl,ax⟩;have E:=D.out.2.trans (ax.mono D.out.2.size);have N:=(cH c k0 s vt bO).below v.out E;obtain⟨bb,_,bd,_,_⟩:=gj N;have z0:=(E.cell (p:=ah bp 0) H.out.2).trans o;have O:Hid ((cH c k0 s vt bO).J u ai ar/\Below wr.heap.size wr ar):=⟨N,E⟩;clear ax E N)
      |(go_at_call 68;refine(zi O.out.1 (a+1+j) (k0.nw s x)).mono ?_;rintro e G ⟨bs,Q,rfl,R,aB⟩;obtain⟨r1,_,be,_,_⟩:=gj R;obtain⟨S,aF⟩:=n.out Q _ G R ((bM.of O.out.2).trans aB);have r0:G.cell? (ah bp 0)=some (af c.pk):=(by obtain⟨_,_,bg,_⟩:=S;simp[World.cell?,bg]);have bi:Hid ((cw (cH c k0 s vt bO) bp (cz c)).J (fun b=>Q b\/b=bp) B G/\bM F w (fun b=>Q b\/b=bp) G):=⟨(by rw[A.out];exact S),i.out.2.trans aF⟩;clear R aB S aF))
   clear o a0 c0 a3 y1 a2 z0 bb bd r0 r1 be v D O i n H;go_wp2_with fail;go_roundw
   case rel=>exact⟨j+1,_,I,ac,by rw[a1.out];exact bi⟩
   case measure=>simp[intOf];omega
  ·obtain rfl:j=m:=I;go_wp2_with fail;go_end0;exact⟨q,rfl,i.out.1,i.out.2⟩
end
def bL.eX (k:bL)(s:bX):Nat->bL
 |0=>k
 |n+1=>(k.eX s n).nR n (k.nw s ((k.eX s n).s.rs.getD n 0))
def bL.kP (k:bL)(s:bX)(l:List Int):bL:=fL (fun(_:bL) a=>s.f a) (fun k a=>k.ij s a) k l
def bL.bW (k:bL)(t:bX×List bN)(x:Int):Int×(bX×List bN):=((k.mp t.1 x).1,((k.mp t.1 x).2,t.2))
def bL.tS (k:bL)(t:bX×List bN)(r:List bN):bX×List bN:=eH (dE bX) (fun s x=>k.al s.1 x) k.bW t r
def bL.tR (k:bL)(t:bX×List bN)(r:List bN):List bN:=el (dE bX) (fun s x=>k.al s.1 x) k.bW (fun s x=>k.nw s.1 x) t r
def bL.fz (k:bL)(t:bX×List bN)(r:List bN):List bN:=em (dE bX) (fun s x=>k.al s.1 x) k.bW (fun s x=>k.nw s.1 x) t r
theorem zl:dQ 126:=gb func126 ab rfl
section
variable {c:eB}{k0 k:bL}{vt bO vr:Value}{F:Nat->Prop}{s:bX}{w:World}{bp:Nat}
theorem zm (h:(cH c k0 s vt bO).J F k w)(i:Nat)(x:Int):∃a,(cH c k0 s vt bO).J a (k.nR i x) (w.setCell ⟨k0.a.nb,i,none⟩ (.int .i64 x))/\bM F w a (w.setCell ⟨k0.a.nb,i,none⟩ (.int .i64 x)):=by obtain⟨h,ea,e,f⟩:=h;obtain⟨a,b,d⟩:=zd h i x;rw[ea] at b d;exact⟨a,⟨b,ea,e,f⟩,d⟩
theorem pU (h:(cH c k0 s vt bO).J F k w):w.cell? (ah k0.a.pw 3)=some (.slice (ag k0.a.nb) 12 12)/\∀i,i<12->w.cell? (ah k0.a.nb i)=some (ae (k.s.rs.getD i 0))/\w.frozen? (ah k0.a.nb i)=false:=by obtain⟨h,ea,d,e⟩:=h;obtain⟨_,b,_⟩:=mK h;obtain⟨_,_,_,a,_,_,_,rt⟩:=hH b;rw[ea] at a rt;exact⟨a,rt⟩
theorem zn (h:(cw (cH c k0 s vt bO) bp (cz c)).J F k w)(ht:k0.T.length<=4000)(hp:∀a∈k0.T,0<=a/\a<=2000){g:Option Addr}{i B:Nat}(l:w.ownsRow B 3 1 (.slice g k0.T.length i) k0.T.length (k0.T.map (Value.int .i64)))(hB:∀b,F b->b<B):
 Calls prog 124 #[af c.pk,.slice g k0.T.length i,.func (.func 126) #[] #[af bp]] w fun e w'=>∃f,e=.returned (.tuple #[])/\(cw (cH c k0 s vt bO) bp (cz c)).J f (k.kP s k0.T) w'/\bM F w f w':=by
 have E:=tF (cw (cH c k0 s vt bO) bp (cz c)) (fun(_:bL) a=>s.f a) (fun k a=>pf (k.ld a)) (fun k a=>k.ij s a) (fun _ _=>True) k0.T c.pk k0.a.pw k0.a.p c.bW 126 #[af bp] zl k0.T g i F k w
  (by
    rintro F t n a p;obtain⟨_,d,_⟩:=fI p;have ea:t.a=k0.a:=d.2.1;obtain⟨c0,q,u,hM,v⟩:=gj d;refine⟨c0,q,u,hM,(e9 a n v).mono ?_⟩
    rintro r w' ⟨rfl,x⟩
    have A:pf (t.ld a)=pf (ld k0.a.N t.s.y t.s.g t.s.ws a):=by unfold bL.ld;rw[ea]
    exact⟨pk (ld k0.a.N t.s.y t.s.g t.s.ws a),pc (ld k0.a.N t.s.y t.s.g t.s.ws a),by rw[A],x⟩)
  (fun t a=>cU _) (fun a ha=>⟨by have:=hp a ha;omega,ha⟩) I
  (by
    rintro j F t n o _ C _;have hm:k0.T.getD j 0∈k0.T:=by rw[aj,am o];exact aK o
    have d:=hp _ hm;have m:=cU (t.ld (k0.T.getD j 0))
    have P:=zk C (k0.T.getD j 0) d (pf (t.ld (k0.T.getD j 0))).toNat I;rw[show(((pf (t.ld (k0.T.getD j 0))).toNat:Nat):Int)=pf (t.ld (k0.T.getD j 0)) from by omega] at P;exact P)
  (fun _ _ _ _=>trivial) trivial h (ga l)
  (fun D z e hz=>by obtain⟨b,H,G⟩:=dP l D;cases G;cases e;have m:=(bR l b rfl).1;have:=hB b hz;omega)
 refine E.mono ?_;rintro r w' ⟨f,rfl,d,m,_⟩
 exact⟨f,rfl,d,m⟩
theorem zo {m:Option Addr}{n:Nat}{r:List bN}(E:vr=.slice m r.length n){t:bX×List bN}(h:(cA (cZ c k) c.bs vr).J F t w)(G:w.ownsRow 0 83 2 vr r.length (ev r))(hq:t.2.length+r.length<=90000)(bx f:Nat)(H:bx≠f)(J:w.heap[bx]?=some (cz c))(hy:w.heap[f]?=some (fu (gF c)))(K:¬F bx)(hm:¬F f):
 Calls prog 53 #[af c.bs,.agg #[(g4 bx).v,(gi f).v,(hJ c).v]] w fun e w'=>∃a1 c1 p,e=.returned (.tuple #[])/\(cA (cZ c k) c.bs (.slice a1 (k.tR t r).length c1)).J p ((k.tS t r).1,k.fz t r) w'/\
  w'.ownsRow 0 83 2 (.slice a1 (k.tR t r).length c1) (k.tR t r).length (ev (k.tR t r))/\(∀b,some b=(Value.slice a1 (k.tR t r).length c1).ownBlock->¬p b/\w.heap.size<=b)/\Fr (fun b=>F b\/b=f\/b=bx) w w'/\(∀b,p b->F b\/w.heap.size<=b):=by
 subst E;have P:=pt (cA (cw (cw (cZ c k) f (fu (gF c))) bx (cz c)) c.bs (.slice m r.length n)) (fun _=>True) (g4 bx) (gi f) (hJ c) _ _ _ (pu (cw (cw (cZ c k) f (fu (gF c))) bx (cz c)) c.bs (.slice m r.length n) (fun _=>True) (g4 bx) (gi f) (hJ c) k.al k.mp k.nw pL pM pN (pQ bx f (gF c)) (pE (tp f)) (j6 (j6 pP))) r m n rfl I (fun _ _=>⟨trivial,trivial⟩) _ t w (fun _ _=>⟨trivial,trivial⟩) hq (iN (iN h hy hm) J (fun a=>a.elim K H)) (fR G)
 refine P.mono ?_;clear P;rintro e w' ⟨a1,c1,a2,c2,q,L,rfl,⟨x,Y,ad,⟨eN,⟨g,g1,ai,M,A⟩,g2,g3,N⟩,al,ar,O,ax,Q,aB,aF⟩,q3,R,i,j,l,S,U,s,u,v⟩
 have i:w'.heap[c.bs]?=some (.cells #[.slice a1 (k.tR t r).length c1,.slice a2 (k.fz t r).length c2] 128 (0,0)):=i;have j:w'.ownsRow w.heap.size 83 2 (.slice a1 (k.tR t r).length c1) (k.tR t r).length (ev (k.tR t r)):=j;have l:w'.ownsRow w.heap.size 83 2 (.slice a2 (k.fz t r).length c2) (k.fz t r).length (ev (k.fz t r)):=l;have s:∀b,some b=(Value.slice a1 (k.tR t r).length c1).ownBlock->¬q b:=s;have u:∀b,some b=(Value.slice a2 (k.fz t r).length c2).ownBlock->¬q b:=u;have v:∀b,some b=(Value.slice a1 (k.tR t r).length c1).ownBlock->some b≠(Value.slice a2 (k.fz t r).length c2).ownBlock:=v;have g1:(cZ c k).J g (k.tS t r).1 L:=g1;have B:∀b,g b->x b:=fun b d=>(N b).2 (ap ((A b).2 (ap d)))
 have o:∀b,g b->q b:=fun b d=>O b (B b d)
 have C:∀b,g b->b≠c.bs:=fun b d e=>Q (by show x c.bs;rw[<-e];exact B b d)
 have D:=(cZ c k).keep (w':=w') g1 R (fun b d=>q3 b (o b d) (C b d))
 have W:F c.bs:=by obtain⟨_,_,_,_,_,_,_,X,_⟩:=h;exact X
 refine⟨a1,c1,fun b=>g b\/b=c.bs\/some b=(Value.slice a2 (k.fz t r).length c2).ownBlock,rfl,⟨g,a2,c2,D,i,d5 l (fun _ _=>aA _),fun b d=>ap d,an (ap rfl),fun a=>C _ a rfl,fun b e=>⟨an (an e),fun a=>u b e (o b a)⟩,fun b d=>?_⟩,d5 j (fun _ _=>aA _),fun b e=>⟨fun a=>?_,(bR j b e).1⟩,S.mono (fun b a=>?_),fun b d=>?_⟩
 ·rcases d with d|d|d
  ·exact(cZ c k).lt D b d
  ·rw[d];exact lt_of_some i
  ·exact(bR l b d).2
 ·rcases a with a|a|a
  ·exact s b e (o b a)
  ·obtain⟨aR,hc⟩:=dO j b e;rw[a,i] at hc;simp at hc
  ·exact v b e a
 ·rcases a with(a|a)|a
  ·exact ap a
  ·exact an (ap a)
  ·exact an (an a)
 ·rcases d with d|d|d
  ·rcases U b (o b d) with((a|a)|a)|a
   ·exact ap a
   ·exact absurd d (by rw[a];exact M)
   ·exact absurd ((A b).2 (ap d)) (by rw[a];exact g3)
   ·exact an a
  ·exact ap (by rw[d];exact W)
  ·exact an (bR l b d).1
end
def bL.es (k:bL)(s:bX):bL:=(k.eX s 12).kP s k.T
section
variable {c:eB}{k0 k:bL}{vt bO vr:Value}{F:Nat->Prop}{s:bX}{w:World}{bp:Nat}
theorem cu.of {k k0:bL}(h:cu k0 s)(a:k.Y=k0.Y)(b:k.G=k0.G):cu k s:=by
 have e:k.T=k0.T:=by unfold bL.T;rw[a,b]
 exact⟨by rw[e];exact h.nd,by rw[e];exact h.ps,by rw[e];exact h.td,by rw[e];exact h.ep,by rw[e];exact h.tl,by unfold bL.lost;rw[e];exact h.sum⟩
theorem tJ (h:(cH c k0 s vt bO).J F k w):k0.a.nb≠c.pk/\k0.a.nb≠k0.a.pw/\F k0.a.nb:=by
 obtain⟨⟨g,own,h,i⟩,ea,_⟩:=h;have hw:=h.wd;rw[<-ea];have d:=h.w1;obtain⟨l,ct,a,j⟩:=hw;have f:g k.a.nb:=(j _).2 (by rw[a.r1];decide)
 refine⟨fun e=>?_,fun e=>?_,(i _).2 (by rw[(d _).1 f];decide)⟩
 ·have b:=(d _).1 f;rw[e,h.k1] at b;omega
 ·have b:=a.r1;rw[e,a.w1] at b;omega
theorem zp {cI:Option Addr}{cJ:Nat}{r:List bN}(cK:vr=.slice cI r.length cJ){t:bX×List bN}(h:(cA (cZ c k) c.bs vr).J F t w)(bp:w.ownsRow 0 83 2 vr r.length (ev r))(cL:∀b,some b=vr.ownBlock->¬F b)(hq:t.2.length+r.length<=90000){v1 v2:Value}(hs:w.heap[k.a.sd]?=some (.cells #[v1,v2] 128 (0,0)))(cb:¬F k.a.sd):
 Calls prog 58 #[af c.pk] w fun e w'=>∃a1 c1 o,e=.returned (.tuple #[])/\(cA (cZ c (k.es t.1)) c.bs (.slice a1 ((k.es t.1).tR t r).length c1)).J o (((k.es t.1).tS t r).1,(k.es t.1).fz t r) w'/\w'.ownsRow 0 83 2 (.slice a1 ((k.es t.1).tR t r).length c1) ((k.es t.1).tR t r).length (ev ((k.es t.1).tR t r))/\(∀b,some b=(Value.slice a1 ((k.es t.1).tR t r).length c1).ownBlock->¬o b/\w.heap.size<=b)/\w'.heap[k.a.sd]?=w'.heap[c.bs]?/\¬o k.a.sd/\Fr (fun b=>F b\/b=k.a.sd) w w'/\(∀b,o b->F b\/w.heap.size<=b):=by
 have dl:∀(cc:Fn)(first cd:Array Value)(w:World),(Instr.makeFunc cc first cd).run prog w=.ok (.func cc first cd) w:=fun _ _ _ _=>rfl;obtain⟨C,⟨⟨vt,bO,h0⟩,ce⟩,cf⟩:=hr h;have br:Hid (cu k t.1):=ce;have cM:=(Below.refl w.heap.size w).alloc bJ (cz c)
 have cN:∀b,C b->b<w.heap.size:=(cy c k vt bO).lt h0;have bs:(cw (cH c k t.1 vt bO) w.heap.size (cz c)).J (fun b=>C b\/b=w.heap.size) k (w.alloc (cz c)):=⟨C,⟨(cy c k vt bO).below h0 cM,rfl,rfl,rfl⟩,aw _ _,fun f=>by have:=cN _ f;omega,fun b=>Iff.rfl⟩
 obtain⟨_,bx,E,_,_⟩:=fI bs;obtain⟨ar,_,c0,_,_⟩:=gj bx;obtain⟨ax,_⟩:=pU bx;have M:(w.alloc (cz c)).cell? (ah w.heap.size 0)=some (af c.pk):=by simp only [World.cell?];rw[E];rfl
 clear bx E ce;go_enter func58,ntmps58;go_wp2_with fail
 go_loopw [12] (fun iv wr=>∃(j:Nat)(G:Nat->Prop),j<=12/\iv=ae j/\Hid ((cw (cH c k t.1 vt bO) w.heap.size (cz c)).J G (k.eX t.1 j) wr/\bM (fun b=>C b\/b=w.heap.size) (w.alloc (cz c)) G wr)) (fun iv _=>12-(intOf iv).toNat)
 case atStart=>exact⟨0,_,aA _,rfl,⟨bs,bM.refl _ _⟩⟩
 case round=>
  clear bs M ar c0 ax;obtain⟨j,G,dm,rfl,B⟩:=hrel;obtain⟨aB,u,E,lb,bP⟩:=fI B.out.1;have M:wr.cell? (ah w.heap.size 0)=some (af c.pk):=by simp[World.cell?,E]
  obtain⟨ar,_,c0,_,_⟩:=gj u;obtain⟨ax,rt⟩:=pU u;by_cases bQ:j<12
  ·have cg:Hid (∀aF aR w1,(cH c k t.1 vt bO).J aF aR w1->bM aB wr aF w1->(cw (cH c k t.1 vt bO) w.heap.size (cz c)).J (fun b=>aF b\/b=w.heap.size) aR w1/\bM G wr (fun b=>aF b\/b=w.heap.size) w1):=bP;have v:Hid (wr.heap[w.heap.size]?=some (cz c)/\w.heap.size<wr.heap.size/\(cH c k t.1 vt bO).J aB (k.eX t.1 j) wr):=⟨E,lb,u⟩
   obtain⟨n1,dn,cO⟩:=tJ u;have n4:k.a.nb≠w.heap.size:=fun e=>by obtain⟨H,g1,_,g3,_⟩:=B.out.1;exact g3 (by rw[<-e];exact(tJ g1).2.2)
   obtain⟨ch,cP⟩:=rt j bQ;have bS:=tH ((cH c k t.1 vt bO).below u (Below.refl _ wr).drew) ((k.eX t.1 j).s.rs.getD j 0)
   have aT:Hid (k.eX t.1 (j+1)=(k.eX t.1 j).nR j (k.nw t.1 ((k.eX t.1 j).s.rs.getD j 0))):=rfl;obtain⟨aV,bT⟩:∃aV,k.eX t.1 (j+1)=aV:=⟨_,rfl⟩
   rw[bT] at aT;have cQ:Hid (k.eX t.1 (j+1)=aV):=bT;clear bT u E lb bP rt cO;generalize (k.eX t.1 j).s.rs.getD j 0=x at bS aT ch;generalize k.eX t.1 j=ci at aT v B;have j0:(0:Int)<=(j:Int):=I;have dp:(j:Int)<12:=I;go_wp2_with fail
   go_region_held3 (fun w'=>w'.cell? (ah w.heap.size 0)=some (af c.pk)/\w'.cell? (ah c.pk 0)=some (af k.a.pw)/\w'.cell? (ah k.a.pw 3)=some (.slice (ag k.a.nb) 12 12)) (go_keep)
    (first
      |(go_at_call 123;refine bS.mono ?_;clear bS;rintro e g ⟨rfl,cj⟩;have a0:Below wr.heap.size wr g:=((Below.refl _ wr).drew).trans (cj.mono V);have J:=(cH c k t.1 vt bO).below v.out.2.2 a0;obtain⟨y1,_,_,_,_⟩:=gj J;obtain⟨cR,ck⟩:=pU J;obtain⟨cS,cT⟩:=ck j bQ;have bU:=(a0.cell (p:=ah w.heap.size 0) v.out.2.1).trans M;have i:Hid ((cH c k t.1 vt bO).J aB ci g/\Below wr.heap.size wr g):=⟨J,a0⟩;clear cj a0 J ck))
   have A:Hid (∃H,(cw (cH c k t.1 vt bO) w.heap.size (cz c)).J H aV (g.setCell ⟨k.a.nb,j,none⟩ (.int .i64 (k.nw t.1 x)))/\bM (fun b=>C b\/b=w.heap.size) (w.alloc (cz c)) H (g.setCell ⟨k.a.nb,j,none⟩ (.int .i64 (k.nw t.1 x)))):=by
    obtain⟨H,cU,cV⟩:=zm i.out.1 j (k.nw t.1 x)
    obtain⟨cC,bV⟩:=cg.out H _ _ cU ((bM.of i.out.2).trans cV)
    exact⟨_,by rw[aT.out];exact cC,B.out.2.trans bV⟩
   clear i cg v B bU y1 cR cS cT M ar c0 ax ch cP;go_wp2_with fail;go_roundw
   case rel=>
    obtain⟨H,cC,bV⟩:=A.out;exact⟨j+1,H,I,ac,by rw[cQ.out];exact⟨cC,bV⟩⟩
   case measure=>simp[intOf];omega
  ·obtain rfl:j=12:=I;clear bQ rt bP;have bW:Hid (k.T.length<=4000/\∀a∈k.T,0<=a/\a<=2000):=⟨br.out.tl,br.out.ps⟩
   have hd:=(Below.refl wr.heap.size wr).drew;have cl:Calls prog 108 #[af c.pk] wr.drew fun e w'=>∃a f,e=.returned (.slice a k.T.length f)/\w'.ownsRow wr.drew.heap.size 3 1 (.slice a k.T.length f) k.T.length (k.T.map (Value.int .i64))/\Below wr.drew.heap.size wr.drew w':=by
    have e:(k.eX t.1 12).T=k.T:=by unfold bL.T;rw[u.2.2.1,u.2.2.2]
    have P:=tE (c:=c) (k:=k.eX t.1 12) (F:=aB) (s:=t.1) (w:=wr.drew) ⟨vt,bO,(cy c _ vt bO).below u.1 hd⟩ (by rw[e];exact bW.out.1)
    rw[e] at P;exact P
   have v:Hid (w.heap.size<wr.heap.size/\(cw (cH c k t.1 vt bO) w.heap.size (cz c)).J G (k.eX t.1 12) wr.drew/\bM (fun b=>C b\/b=w.heap.size) (w.alloc (cz c)) G wr.drew/\∀b,G b->b<wr.drew.heap.size):=⟨lb,(cw (cH c k t.1 vt bO) w.heap.size (cz c)).below B.out.1 hd,B.out.2.below hd,fun b D=>by have:=(cw (cH c k t.1 vt bO) w.heap.size (cz c)).lt B.out.1 b D;simpa using this⟩
   have a2:Hid (k.es t.1=(k.eX t.1 12).kP t.1 k.T):=rfl;obtain⟨d,bY⟩:∃d,k.es t.1=d:=⟨_,rfl⟩
   rw[bY] at a2;have cW:Hid (k.es t.1=d):=bY;clear bY;generalize k.eX t.1 12=ci at a2 v B u;clear u E lb hd B ar c0 ax;go_wp2_with fail
   go_region_held3 (fun w'=>w'.cell? (ah w.heap.size 0)=some (af c.pk)) (go_keep)
    (first
      |(go_at_call 108;refine cl.mono ?_;clear cl;rintro e w3 ⟨cX,cY,rfl,cm,bZ⟩;have bU:w3.cell? (ah w.heap.size 0)=some (af c.pk):=(bZ.cell (p:=ah w.heap.size 0) (by have:=v.out.1;simpa using this)).trans M;have a3:Hid (w3.ownsRow wr.drew.heap.size 3 1 (.slice cX k.T.length cY) k.T.length (k.T.map (Value.int .i64))/\Below wr.drew.heap.size wr.drew w3):=⟨cm,bZ⟩;clear cm bZ)
      |(go_at_call 124;refine(zn ((cw (cH c k t.1 vt bO) w.heap.size (cz c)).below v.out.2.1 a3.out.2) bW.out.1 bW.out.2 a3.out.1 v.out.2.2.2).mono ?_;rintro e g ⟨bb,rfl,b2,cn⟩;obtain⟨co,N,q,_,_⟩:=fI b2;have cp:g.cell? (ah w.heap.size 0)=some (af c.pk):=(by simp[World.cell?,q]);clear N q;have cq:Hid ((cw (cH c k t.1 vt bO) w.heap.size (cz c)).J bb d g/\bM (fun b=>C b\/b=w.heap.size) (w.alloc (cz c)) bb g):=⟨(by rw[a2.out];exact b2),(v.out.2.2.1.below a3.out.2).trans cn⟩;clear b2 cn))
   all_goals
    have bd:Hid (∃n,(cA (cZ c d) c.bs vr).J n (t.1,t.2) g/\¬n w.heap.size/\g.heap[w.heap.size]?=some (cz c)/\Fr F w g/\(∀b,n b->F b\/w.heap.size<=b))/\d.a=k.a:=by
     obtain⟨co,N,q,c2,c3⟩:=cq.out.1;have cr:=cq.out.2;have c4:bM C w bb g:=⟨(Fr.of (X:=C) ((Below.refl w.heap.size w).alloc bJ (cz c))).trans cr.fr (fun b f=>f.imp id (fun e=>by omega)),fun b D=>(cr.sub b D).elim (fun f=>f.imp id (fun e=>by omega)) (fun f=>an (by simp at f;omega))⟩
     obtain⟨n,hM,cs⟩:=cf (cw (cZ c d) w.heap.size (cz c)) bb t.1 g ⟨co,⟨⟨vt,bO,N.1⟩,br.out.of N.2.2.1 N.2.2.2⟩,q,c2,c3⟩ c4;obtain⟨g1,g2,g3⟩:=nP hM;exact⟨⟨_,g1,fun f=>f.2 rfl,g2,cs.fr,fun b f=>cs.sub b f.1⟩,N.2.1⟩
    obtain⟨bd,c5⟩:=bd;obtain⟨n,hM,ct,b3,be,b4⟩:=bd.out;have cv:g.ownsRow 0 83 2 vr r.length (ev r):=ca bp (fun b e=>be.block b (bR bp b e).2 (cL b e))
    have cx:g.heap[k.a.sd]?=some (.cells #[v1,v2] 128 (0,0)):=(be.block _ (lt_of_some hs) cb).trans hs;have cB:∀b,n b->b<g.heap.size:=(cA (cZ c d) c.bs vr).lt hM;obtain⟨_,⟨⟨dq,dr,J⟩,_⟩,_⟩:=hr hM;obtain⟨_,_,_,_,b5,_⟩:=dX J;have cD:=au g _ b5;have cE:=lt_of_some b3;have O:¬n k.a.sd/\k.a.sd<w.heap.size:=⟨fun f=>(b4 _ f).elim cb (fun f=>by have:=lt_of_some hs;omega),lt_of_some hs⟩
    have i:Hid ((cA (cZ c d) c.bs vr).J n (t.1,t.2) g/\g.ownsRow 0 83 2 vr r.length (ev r)/\g.heap[k.a.sd]?=some (.cells #[v1,v2] 128 (0,0))/\(∀b,n b->b<g.heap.size)/\¬n w.heap.size/\w.heap.size<g.heap.size/\(¬n k.a.sd/\k.a.sd<w.heap.size)/\c.pk<g.heap.size/\g.heap[w.heap.size]?=some (cz c)):=⟨hM,cv,cx,cB,ct,cE,O,cD,b3⟩
    have bg:Hid (Fr F w g/\∀b,n b->F b\/w.heap.size<=b):=⟨be,b4⟩
    have c6:Hid (∀m,Below g.heap.size g m->m.heap[g.heap.size]?=some (cz c)->m.heap[g.heap.size+1]?=some (fu (gF c))->Calls prog 53 #[af c.bs,.agg #[(g4 g.heap.size).v,(gi (g.heap.size+1)).v,(hJ c).v]] m fun e w'=>∃a1 c1 o,e=.returned (.tuple #[])/\(cA (cZ c d) c.bs (.slice a1 (d.tR t r).length c1)).J o ((d.tS t r).1,d.fz t r) w'/\w'.ownsRow 0 83 2 (.slice a1 (d.tR t r).length c1) (d.tR t r).length (ev (d.tR t r))/\(∀b,some b=(Value.slice a1 (d.tR t r).length c1).ownBlock->¬o b/\m.heap.size<=b)/\Fr (fun b=>n b\/b=g.heap.size+1\/b=g.heap.size) m w'/\(∀b,o b->n b\/m.heap.size<=b)):=fun m S bi bl=>
     zo cK ((cA (cZ c d) c.bs vr).below i.out.1 S) (ca i.out.2.1 (fun b e=>S.block b (bR i.out.2.1 b e).2)) hq g.heap.size (g.heap.size+1) I bi bl (fun f=>by have:=i.out.2.2.2.1 _ f;omega) (fun f=>by have:=i.out.2.2.2.1 _ f;omega)
    clear bU M a3 v a2 hM cv cx cB ct cE O cD b3 be b4 J bd cf h0 bp hs h;go_wp2_with fail
    go_region_held3 (fun w'=>w'.cell? (ah w.heap.size 0)=some (af c.pk)/\w'.cell? (ah c.pk 4)=some (af c.bs)) (go_keep)
     (first
       |(go_at_call 54;refine(pO (gF c) g.drew c.pk).mono ?_;rintro e m ⟨rfl,bi,bl,S⟩;have bn:Below g.heap.size g m:=((Below.refl _ g).drew).trans (S.mono V);have b6:=(bn.cell (p:=ah c.pk 4) i.out.2.2.2.2.2.2.2.1).trans b5;have b7:=(bn.cell (p:=ah w.heap.size 0) i.out.2.2.2.2.2.1).trans cp;have A:Hid (m.heap[g.heap.size]?=some (cz c)/\m.heap[g.heap.size+1]?=some (fu (gF c))/\Below g.heap.size g m):=⟨bi,bl,bn⟩;clear bi bl S bn)
       |(go_at_call 53;refine(c6.out m A.out.2.2 A.out.1 A.out.2.1).mono ?_;rintro e l ⟨a1,c1,Q,rfl,q,U,R,W,Y⟩;obtain⟨_,⟨⟨c7,c8,b8⟩,_⟩,_⟩:=hr q;obtain⟨u0,_,_,_,c9,_⟩:=dX b8;have da:l.cell? (ah w.heap.size 0)=some (af c.pk):=(by have b9:=A.out.2.2.block w.heap.size i.out.2.2.2.2.2.1;have db:=W.block w.heap.size (by have:=A.out.2.2.size;have:=i.out.2.2.2.2.2.1;omega) (fun f=>by rcases f with f|f|f;(exact i.out.2.2.2.2.1 f);(have:=i.out.2.2.2.2.2.1;omega);(have:=i.out.2.2.2.2.2.1;omega));simp[World.cell?,db,b9,i.out.2.2.2.2.2.2.2.2]);have bo:Hid ((cA (cZ c d) c.bs (.slice a1 (d.tR t r).length c1)).J Q ((d.tS t r).1,d.fz t r) l/\l.ownsRow 0 83 2 (.slice a1 (d.tR t r).length c1) (d.tR t r).length (ev (d.tR t r))/\(∀b,some b=(Value.slice a1 (d.tR t r).length c1).ownBlock->¬Q b/\m.heap.size<=b)/\Fr (fun b=>n b\/b=g.heap.size+1\/b=g.heap.size) m l/\(∀b,Q b->n b\/m.heap.size<=b)/\(cy c d c7 c8).J _ (d.tS t r).1 l):=⟨q,U,R,W,Y,b8⟩;clear q U R W Y b8))
    all_goals
     clear b6 b7 cp b5;have ad:Hid (l.heap[k.a.sd]?=some (.cells #[v1,v2] 128 (0,0))):=by have l1:=i.out.2.2.2.2.2.2.1;have l2:=i.out.2.2.2.2.2.1;have dc:=A.out.2.2.size;exact((bo.out.2.2.2.1.block k.a.sd I (fun f=>by rcases f with f|f|f;(exact l1.1 f);omega;omega)).trans (A.out.2.2.block k.a.sd I)).trans i.out.2.2.1
     obtain⟨_,cF,_⟩:=mK bo.out.2.2.2.2.2;obtain⟨_,_,cG,_⟩:=hH cF;rw[c5] at cG u0;obtain⟨ds,K,L,_,ai,_⟩:=bo.out.1;have b0:l.cell? (ah c.bs 0)=some (.slice a1 (d.tR t r).length c1):=by simp[World.cell?,ai]
     have b1:l.cell? (ah c.bs 1)=some (.slice K (d.fz t r).length L):=by simp[World.cell?,ai]
     have s0:l.cell? (ah k.a.sd 0)=some v1:=by simp[World.cell?,ad.out]
     have s1:l.cell? (ah k.a.sd 1)=some v2:=by simp[World.cell?,ad.out]
     have t0:l.frozen? (ah k.a.sd 0)=false:=by simp[World.frozen?,ad.out]
     have aR:l.frozen? (ah k.a.sd 1)=false:=by simp[World.frozen?,ad.out]
     have dd:Hid (∃o,(cA (cZ c d) c.bs (.slice a1 (d.tR t r).length c1)).J o ((d.tS t r).1,d.fz t r) ((l.setCell ⟨k.a.sd,0,none⟩ (.slice a1 (d.tR t r).length c1)).setCell ⟨k.a.sd,1,none⟩ (.slice K (d.fz t r).length L)).drew/\((l.setCell ⟨k.a.sd,0,none⟩ (.slice a1 (d.tR t r).length c1)).setCell ⟨k.a.sd,1,none⟩ (.slice K (d.fz t r).length L)).drew.ownsRow 0 83 2 (.slice a1 (d.tR t r).length c1) (d.tR t r).length (ev (d.tR t r))/\(∀b,some b=(Value.slice a1 (d.tR t r).length c1).ownBlock->¬o b/\w.heap.size<=b)/\((l.setCell ⟨k.a.sd,0,none⟩ (.slice a1 (d.tR t r).length c1)).setCell ⟨k.a.sd,1,none⟩ (.slice K (d.fz t r).length L)).drew.heap[k.a.sd]?=((l.setCell ⟨k.a.sd,0,none⟩ (.slice a1 (d.tR t r).length c1)).setCell ⟨k.a.sd,1,none⟩ (.slice K (d.fz t r).length L)).drew.heap[c.bs]?/\¬o k.a.sd/\Fr (fun b=>F b\/b=k.a.sd) w ((l.setCell ⟨k.a.sd,0,none⟩ (.slice a1 (d.tR t r).length c1)).setCell ⟨k.a.sd,1,none⟩ (.slice K (d.fz t r).length L)).drew/\(∀b,o b->F b\/w.heap.size<=b)):=by
      have l1:=i.out.2.2.2.2.2.2.1;have l2:=i.out.2.2.2.2.2.1;have dc:=A.out.2.2.size;obtain⟨q,U,R,W,Y,_⟩:=bo.out;have O:¬Q k.a.sd:=fun f=>(Y _ f).elim l1.1 (fun f=>by omega)
      have al:Fr (fun b=>b=k.a.sd) l ((l.setCell ⟨k.a.sd,0,none⟩ (.slice a1 (d.tR t r).length c1)).setCell ⟨k.a.sd,1,none⟩ (.slice K (d.fz t r).length L)).drew:=(((Fr.refl (fun b=>b=k.a.sd) l).set k.a.sd 0 _ rfl).set k.a.sd 1 _ rfl).drew;have de:Q c.bs:=by obtain⟨_,_,_,_,_,_,_,b9,_⟩:=q;exact b9
      have df:Fr F w l:=(bg.out.1.trans (Fr.of (X:=F) A.out.2.2) (fun b f=>ap f)).trans W (fun b f=>by
       have:=bg.out.1.size;rcases f with f|f|f
       ·exact bg.out.2 b f
       ·exact an I
       ·exact an I)
      refine⟨Q,(cA (cZ c d) c.bs _).keep q al.size (fun b D=>al.block b ((cA (cZ c d) c.bs _).lt q b D) (fun e=>O (by rw[<-e];exact D))),ca U (fun b e=>al.block b (bR U b e).2 (fun dt=>by have:=(R b e).2;omega)),fun b e=>⟨(R b e).1,by have:=(R b e).2;omega⟩,?_,O,(df.mono (fun b f=>ap f)).trans al (fun b e=>ap (an e)),fun b D=>(Y b D).elim (bg.out.2 b) (fun f=>an I)⟩
      rw[al.block c.bs (lt_of_some ai) (fun e=>O (by rw[<-e];exact de)),ai];show((l.setCell _ _).setCell _ _).heap[k.a.sd]?=_;simp only [World.setCell,Array.getElem?_modify,if_true,ad.out,Option.map_some];simp
     clear cF ai;go_wp2_with fail
     go_region
     clear b0 b1 s0 s1 t0 aR cG u0 c9 da;obtain⟨o,dg,dh,di,b6,b7,dj,dk⟩:=dd.out;go_end0;rw[cW.out];exact⟨a1,c1,o,rfl,dg,dh,di,b6,b7,dj,dk⟩
end
def bL.i5 (k:bL)(t f n:Nat):bL:=k.ar k.s.y k.s.g (splice k.s.ws t ((k.s.ws.drop f).take n))
def bL.cop (k:bL)(a:Int):bL:=k.ar k.s.y (h9 k.a.N k.a.O k.s.y k.s.g k.s.ws a) (h_ k.a.N k.a.O k.s.y k.s.g k.s.ws a)
section
variable {c:eB}{k0 k:bL}{vt bO vr:Value}{F:Nat->Prop}{s:bX}{w:World}{bp eU:Nat}
theorem zq (h:(cH c k0 s vt bO).J F k w)(t f n:Nat)(d:t+n<=k0.a.N+k0.a.O)(a:f+n<=k0.a.N+k0.a.O):Calls prog 129 #[af k0.a.p,ae t,ae f,ae n] w fun e w'=>∃b,e=.returned (.tuple #[])/\(cH c k0 s vt bO).J b (k.i5 t f n) w'/\bM F w b w':=by
 obtain⟨h,ea,g,i⟩:=h;obtain⟨j,l⟩:=lL h;have P:=re t f n w j (by rw[ea];exact d) (by rw[ea];exact a)
 rw[<-ea];refine P.mono ?_;rintro e m ⟨rfl,o,p⟩
 obtain⟨q,a,u⟩:=l m _ _ _ o p;exact⟨q,rfl,⟨a,ea,g,i⟩,u⟩
theorem zr (h:(cH c k0 s vt bO).J F k w)(a:Int):Calls prog 132 #[af k0.a.p,ae a] w fun e w'=>∃b v,e=.returned (ae v)/\(cH c k0 s vt bO).J b (k.cop a) w'/\bM F w b w':=by
 obtain⟨h,ea,d,f⟩:=h;obtain⟨g,i⟩:=lL h;have P:=rC a w g;rw[<-ea];refine P.mono ?_;rintro e j ⟨rfl,l,m⟩
 obtain⟨n,o,p⟩:=i j _ _ _ l m;exact⟨n,_,rfl,⟨o,ea,d,f⟩,p⟩
theorem zs {u:Int}(h:(e4 (cw (cH c k0 s vt bO) bp (cz c)) eU).J F (k,u) w)(a:Int)(m:Nat)(ha:a∈k0.T)(hp:0<=a/\a<=2000)(n:0<=s.f a)(K:s.f a+m<=k0.a.N+k0.a.O)(L:a+m<=k0.a.N+k0.a.O)(g:0<=u/\u<=100000)(hm:m<=13):
 Calls prog 128 #[ae a,ae m,af bp,af eU] w fun e w'=>∃o,e=.returned (.tuple #[])/\(e4 (cw (cH c k0 s vt bO) bp (cz c)) eU).J o (k.i5 (s.f a).toNat a.toNat m,u+m) w'/\bM F w o w':=by
 have i:=hF hp.1 I;obtain⟨aT,g1,_,_,p⟩:=jx h;obtain⟨j,g2,v,lb,x⟩:=fI g1;have M:w.cell? (ah bp 0)=some (af c.pk):=by simp[World.cell?,v]
 obtain⟨N,O,c0,_,_⟩:=gj g2;have gd:=(cH c k0 s vt bO).below g2 (Below.refl _ w).drew;obtain⟨_,_,_,⟨D,o1,Q,A⟩,_⟩:=gj gd;obtain⟨z,l,B,R⟩:=o1.lookup_int (t:=108) (e:=3) (q:=.i64) gz Tryz.underlying108 Tryz.underlying3 (jm _) i;obtain rfl:z=s.f a:=by have:=B.symm.trans (A a ha);simpa using this
 obtain⟨tn,C⟩:=Int.eq_ofNat_of_zero_le n;obtain⟨E,G⟩:=Int.eq_ofNat_of_zero_le hp.1;rw[C] at l K⊢;rw[G] at l L i⊢;have P:=zq gd tn E m I I;rw[Int.toNat_natCast,Int.toNat_natCast];have S:Hid (∀b f w1,(cH c k0 s vt bO).J b f w1->bM j w b w1->∃d,(e4 (cw (cH c k0 s vt bO) bp (cz c)) eU).J d (f,u) w1/\bM F w d w1):=fun b f w1 U t=>by obtain⟨j2,W⟩:=x b f w1 U t;obtain⟨b7,t3⟩:=p _ f w1 j2 W;exact⟨_,b7,t3⟩
 have X:Hid (bM j w j w.drew):=bM.of (Below.refl _ w).drew;have aV:=g.1;have a0:=g.2;clear h g1 g2 v lb gd o1 Q A B R p x ha hp n i g C G;go_enter func128,ntmps128;go_wp2_with fail
 go_region_held3 (fun w'=>w'.cell? (ah bp 0)=some (af c.pk)/\w'.cell? (ah c.pk 0)=some (af k0.a.pw)/\w'.cell? (ah c.pk 3)=some (.map (some c.bW))/\w'.cell? (ah k0.a.pw 0)=some (af k0.a.p)) (go_keep)
  (first
    |(go_at_call 129;refine P.mono ?_;clear P;rintro e w3 ⟨b,rfl,b7,t3⟩;obtain⟨Y,ad,ai,_,_⟩:=gj b7;have al:=S.out b _ w3 b7 (X.out.trans t3);obtain⟨d,b9,H⟩:=al;have ar:=(lK b9).1;have a1:=(lK b9).2;dsimp only at ar;have ax:w3.cell? (ah bp 0)=some (af c.pk):=(by obtain⟨_,aB,_⟩:=jx b9;obtain⟨_,_,aF,_⟩:=fI aB;simp[World.cell?,aF]);have J:Hid ((e4 (cw (cH c k0 s vt bO) bp (cz c)) eU).J d (k.i5 tn E m,u) w3/\bM F w d w3):=⟨b9,H⟩;clear b7 t3 b9 H))
 all_goals
  clear M N O c0 Y ad ai ax l;go_wp2_with fail;go_end0;obtain⟨cC,aR⟩:=tG J.out.1 (u+m)
  exact⟨d,rfl,cC,J.out.2.trans aR⟩
theorem zt (h:(cw (cH c k0 s vt bO) bp (cz c)).J F k w)(a m:Int):
 Calls prog 131 #[ae a,ae m,af bp] w fun e w'=>∃g,e=.returned (.tuple #[])/\(cw (cH c k0 s vt bO) bp (cz c)).J g (k.cop a) w'/\bM F w g w':=by
 obtain⟨o,g2,i,lb,j⟩:=fI h;have p:w.cell? (ah bp 0)=some (af c.pk):=by simp[World.cell?,i]
 obtain⟨q,t,c0,_,_⟩:=gj g2;have P:=zr g2 a;have u:Hid (∀d f w1,(cH c k0 s vt bO).J d f w1->bM o w d w1->(cw (cH c k0 s vt bO) bp (cz c)).J (fun b=>d b\/b=bp) f w1/\bM F w (fun b=>d b\/b=bp) w1):=j;clear h g2 i lb j;go_enter func131,ntmps131;go_wp2_with fail;refine P.mono ?_;clear P;rintro e w1 ⟨d,v,rfl,l,f⟩
 have n:Hid ((cw (cH c k0 s vt bO) bp (cz c)).J (fun b=>d b\/b=bp) (k.cop a) w1/\bM F w (fun b=>d b\/b=bp) w1):=u.out d _ w1 l f;clear l f p q t c0;go_wp2_with fail;go_end0;exact⟨_,rfl,n.out.1,n.out.2⟩
end
section
variable {N y g:Nat}{ws:List Int}{hi:Int}
theorem nT:∀(k:Nat)(a:Int),(du N y g ws hi k a).Nodup
 |0,a=>by unfold du;exact List.nodup_nil
 |k+1,a=>by
  unfold du;split
  ·split
   ·rw[List.nodup_cons];refine⟨fun h=>?_,nT k _⟩
    have b:=(ku k _ _ h).1;have c:=cU (ld N y g ws a)
    omega
   ·exact List.nodup_nil
  ·exact List.nodup_nil
theorem tK:∀(k:Nat)(a x:Int),x∈du N y g ws hi k a->pc (ld N y g ws x)=0
 |0,a,x,h=>by simp[du] at h
 |k+1,a,x,h=>by
  unfold du at h;split at h
  ·split at h
   ·rcases List.mem_cons.1 h with h|h
    ·rw[h];assumption
    ·exact tK k _ x h
   ·simp at h
  ·simp at h
theorem tL:∀(k:Nat)(a:Int),(((du N y g ws y k a).filter (fun a=>decide (a+pf (ld N y g ws a)<y))).map (fun a=>1+(pf (ld N y g ws a)).toNat)).sum<=((y:Int)-a).toNat
 |0,a=>by simp[du]
 |k+1,a=>by
  unfold du;split
  ·split
   ·have b:=tL k (a+(1+pf (ld N y g ws a)))
    have d:=cU (ld N y g ws a)
    by_cases c:a+pf (ld N y g ws a)<y
    ·rw[List.filter_cons_of_pos (by simpa using c)];simp only [List.map_cons,List.sum_cons];omega
    ·rw[List.filter_cons_of_neg (by simpa using c)];omega
   ·simp
  ·simp
end
def dT.k0 (a:Wc)(s:dT):bP:=⟨a.N,a.O,s.y,kN a.N s.y s.g s.ws⟩
def dT.s0 (a:Wc)(s:dT):bU:=⟨s.g,s.ws,fun _=>-1,(a.N:Int)+s.g,[],[],s.rs⟩
theorem CI.start {a:Wc}{s:dT}(hN:16<=a.N)(hN':a.N<=256)(hO:a.O<=1024)(hy:s.y<=a.N)(hg:s.g<=a.O)(hl:s.ws.length=a.N+a.O)(i:s.y<=a.O-s.g):CI (s.k0 a) (s.s0 a):=by
 have d:∀x∈kN a.N s.y s.g s.ws,x∈dv a.N s.y s.g s.ws/\x+pf (ld a.N s.y s.g s.ws x)<s.y:=fun x b=>by simpa[kN] using b
 refine⟨hN,hN',hO,hy,hg,hl,fun x b=>?_,(nT 2000 0).filter _,?_,?_,?_,by simp[dT.s0],by simp[dT.s0],?_⟩
 ·obtain⟨c,j⟩:=d x b;exact⟨(lx x c).1,tK _ _ _ c,by show x+1+pf (ld a.N s.y s.g s.ws x)<=s.y;omega⟩
 ·have c:=tL (N:=a.N) (y:=s.y) (g:=s.g) (ws:=s.ws) 2000 0;have e:(s.k0 a).sz (s.s0 a)=(((du a.N s.y s.g s.ws s.y 2000 0).filter (fun x=>decide (x+pf (ld a.N s.y s.g s.ws x)<s.y))).map (fun x=>1+(pf (ld a.N s.y s.g s.ws x)).toNat)).sum:=by
   unfold bP.sz;have f:(s.k0 a).T.filter (fun x=>(s.s0 a).f x==-1)=(s.k0 a).T:=List.filter_eq_self.2 (fun _ _=>rfl)
   rw[f];rfl
  rw[e];show _<=a.O-s.g;omega
 ·show(a.N:Int)<=(a.N:Int)+s.g;omega
 ·show(a.N:Int)+s.g<=(a.N:Int)+a.O+13;omega
 ·exact az (aY _ _) (gx _ _)
def dT.s1 (a:Wc)(s:dT):bU:=(s.k0 a).cg (s.s0 a) 12
def dT.s2 (a:Wc)(s:dT):bU:=(s.k0 a).lm (dx a.O) s.M (s.s1 a) (c8 a.N s.y (s.s1 a).g (s.s1 a).ws)
def bZ.t3 (a:Wc)(S:bZ):bU×List bN:=(S.s.k0 a).sp (S.s.s2 a,S.q)
def bZ.s4 (a:Wc)(S:bZ):bU:=((S.s.k0 a).d_ (S.t3 a) S.r).1
def bZ.s5 (a:Wc)(S:bZ):bU:=(S.s.k0 a).mw (S.s4 a) (S.s4 a).wk
def bZ.s6 (a:Wc)(S:bZ):bU:=(S.s.k0 a).be (S.s5 a) (S.s5 a).ep
def bZ.full (a:Wc)(S:bZ):Bool:=decide (a.O-S.s.g<S.s.y)
def bZ.cut (a:Wc)(S:bZ):bZ:=if S.full a=true then S else⟨⟨0,(S.s6 a).g,(S.s6 a).ws,[],(S.s6 a).rs⟩,(S.s.k0 a).sR (S.t3 a) S.r,(S.s.k0 a).fw (S.t3 a) S.r⟩
def bZ.code (a:Wc)(S:bZ):Int:=if S.full a=true then 3 else 0
end Go.Proofs.YtjpjpjemibgjpaaGreat
