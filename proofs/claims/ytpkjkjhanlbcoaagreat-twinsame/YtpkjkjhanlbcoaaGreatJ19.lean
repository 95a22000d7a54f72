import Derived.Test.YtpkjkjhanlbcoaaGreatJ18
namespace Go.Proofs.YtpkjkjhanlbcoaaGreat
set_option maxRecDepth 100000
set_option maxHeartbeats 4000000
open Tryz
open Go.RowKit W Kp cf
theorem tA {P:Prop}(h:P:=by
 rintro e w2 ⟨rfl,hA2,hs2⟩
 obtain⟨F2,h2,t2⟩:=hU w2 _ _ _ hA2 hs2;exact⟨F2,rfl,⟨h2,ea,tC,tD⟩,t2⟩):P:=h
def df (c:e8)(k0:b9)(s:cu)(vt b:Value):dr b9 where
 J F k w:=(cT c k vt b).J F s w/\k.a=k0.a/\k.Y=k0.Y/\k.G=k0.G
 lt:=fun h=>(cT c _ vt b).lt h.1
 keep:=fun h hs hk=>⟨(cT c _ vt b).keep h.1 hs hk,h.2⟩
def b9.gK (k:b9)(s:cu)(a:Int):Nat->b9
 |0=>k
 |n+1=>(k.gK s a n).hD (a+1+n) (k.nw s ((k.gK s a n).ld (a+1+n)))
def b9.jQ (k:b9)(s:cu)(a:Int):b9:=(k.brk s a).gK s a (pf (k.ld a)).toNat
theorem b9.km {k k0:b9}(s:cu)(x:Int)(b:k.Y=k0.Y)(c:k.G=k0.G):k.nw s x=k0.nw s x:=by unfold b9.nw b9.jt b9.T;rw[b,c]
theorem tE (k:b9)(s:cu)(a:Int):(k.brk s a).a=k.a/\(k.brk s a).Y=k.Y/\(k.brk s a).G=k.G:=by
 unfold b9.brk;split
 ·split<;>exact⟨rfl,rfl,rfl⟩
 ·exact⟨rfl,rfl,rfl⟩
section
variable {c:e8}{k0 k:b9}{vt cr:Value}{F:Nat->Prop}{s:cu}{w:ax}{bp:Nat}
theorem ic (h:(df c k0 s vt cr).J F k w):w.cell? (aq c.pk 0)=some (aj k0.a.pw)/\w.cell? (aq c.pk 3)=some (.map (some c.ch))/\w.cell? (aq k0.a.pw 0)=some (aj k0.a.p)/\Mp w c.ch k0.T s.f/\At w k0.a.p k0.a.q k0.a.N k0.a.O k.s.y k.s.g k.s.ws:=by
 obtain⟨h,ea,e,f⟩:=h;obtain⟨b,_,_,g,_⟩:=ey h;obtain⟨d,c0,_⟩:=gB h;obtain⟨hM,_⟩:=o9 h;rw[ea] at b d c0;have i:k.T=k0.T:=by unfold b9.T;rw[e,f]
 rw[i] at hM;exact⟨b,g,c0,hM,d⟩
theorem Fx (h:(df c k0 s vt cr).J F k w)(a:Int):Calls prog 98 #[aj k0.a.p,ah a] w fun e w'=>e=.returned (ah (k.ld a))/\aw w w':=by
 have e:k.ld a=ld k0.a.N k.s.y k.s.g k.s.ws a:=by unfold b9.ld;rw[h.2.1]
 rw[e];exact jJ a w (ic h).2.2.2.2
theorem yq (h:(df c k0 s vt cr).J F k w)(x:Int):Calls prog 156 #[aj c.pk,ah x] w fun e w'=>e=.returned (ah (k0.nw s x))/\aw w w':=by have P:=x_ h.1 x;rw[b9.km s x h.2.2.1 h.2.2.2] at P;exact P
theorem Fy (h:(df c k0 s vt cr).J F k w)(a x:Int):Calls prog 93 #[aj k0.a.p,ah a,ah x] w fun e w'=>∃b d,e=.returned (.bool b)/\(df c k0 s vt cr).J d (k.hD a x) w'/\b8 F w d w':=by
 obtain⟨h,ea,f,g⟩:=h;obtain⟨i,j⟩:=oa h;rw[<-ea];refine(k3 a x w i).mono ?_;rintro e l ⟨rfl,m,n⟩
 obtain⟨o,p,q⟩:=j l _ _ _ m n;exact⟨_,o,rfl,⟨p,ea,f,g⟩,q⟩
theorem Fz (h:(df c k0 s vt cr).J F k w)(a:Int)(ha:0<=a/\a<=2000):Calls prog 160 #[aj c.pk,ah a] w fun e w'=>∃b,e=.returned (.tuple #[])/\(df c k0 s vt cr).J b (k.brk s a) w'/\b8 F w b w':=by
 refine(Fw h.1 a ha).mono ?_;rintro e m ⟨d,rfl,f,g⟩
 obtain⟨i,j,l⟩:=tE k s a;exact⟨d,rfl,⟨f,i.trans h.2.1,j.trans h.2.2.1,l.trans h.2.2.2⟩,g⟩
theorem FA (h:(da (df c k0 s vt cr) bp (dl c)).J F k w)(a:Int)(ha:0<=a/\a<=2000)(m:Nat)(hm:m<=12):
 Calls prog 159 #[ah a,ah (1+m),aj bp] w fun e w'=>∃G,e=.returned (.tuple #[])/\(da (df c k0 s vt cr) bp (dl c)).J G ((k.brk s a).gK s a m) w'/\b8 F w G w':=by
 have H:ay (∀x,(k.brk s a).nw s x=k0.nw s x):=by obtain⟨_,W,X⟩:=tE k s a;obtain⟨_,⟨_,_,g2,g3⟩,_⟩:=h;exact fun x=>b9.km s x (W.trans g2) (X.trans g3)
 obtain⟨aF,h0,f,lb,o⟩:=gC h;have P:=Fz h0 a ha;have q:=hide o;have t:w.cell? (aq bp 0)=some (aj c.pk):=by simp[World.cell?,f]
 generalize k.brk s a=k1 at P H⊢;go_enter func159,ntmps159;go_wp2_with fail;refine P.mono ?_;rintro e w1 ⟨Y,rfl,ab,ad⟩
 obtain⟨ag,ai⟩:=q.out Y _ w1 ab ad;go_wp2_with fail
 go_loopw [5] (fun iv wr=>∃(j:Nat)(g:Nat->Prop),j<=m/\iv=ah (a+1+j)/\ay ((da (df c k0 s vt cr) bp (dl c)).J g (k1.gK s a j) wr/\b8 F w g wr)) (fun iv _=>m-(intOf iv-a-1).toNat)
 exact⟨0,_,aZ _,af,⟨ag,ai⟩⟩
 ·
   obtain⟨j,g,aR,rfl,d⟩:=hrel;by_cases aV:j<m
   ·obtain⟨I,i,f,lb,o⟩:=gC d.out.1;have q:=hide o;have J:=dq f lb;have u:=hide i;have t:wr.cell? (aq bp 0)=some (aj c.pk):=by simp[World.cell?,f]
    obtain⟨a0,_,c0,_,_⟩:=ic i;have K:=Fx ((df c k0 s vt cr).below i (aH _ wr).drew) (a+1+j)
    have l:ay (k1.gK s a (j+1)=(k1.gK s a j).hD (a+1+j) (k0.nw s ((k1.gK s a j).ld (a+1+j)))):=by show _=_;rw[<-H.out];rfl
    generalize (k1.gK s a j).ld (a+1+j)=x at K l;obtain⟨v,L⟩:∃v,k1.gK s a (j+1)=v:=⟨_,rfl⟩
    rw[L] at l;have al:=hide L;generalize k1.gK s a j=M at u d i l;go_wp2_with fail
    go_region_held3 (fun w'=>w'.cell? (aq bp 0)=some (aj c.pk)/\w'.cell? (aq c.pk 0)=some (aj k0.a.pw)/\w'.cell? (aq k0.a.pw 0)=some (aj k0.a.p)) (go_keep)
     (first
       |(go_at_call 98;refine K.mono ?_;rintro e A ⟨rfl,am⟩;have B:aw wr A:=((aH _ wr).drew).trans (am.mono Z);have N:=(df c k0 s vt cr).below u.out B;obtain⟨y1,_,a1,_,_⟩:=ic N;have a2:=(B.cell (p:=aq bp 0) J.out.2).trans t;have C:ay ((df c k0 s vt cr).J I M A/\aw wr A):=⟨N,B⟩)
       |(go_at_call 156;refine(yq C.out.1 x).mono ?_;rintro e O ⟨rfl,an⟩;have D:=C.out.2.trans (an.mono C.out.2.size);have Q:=(df c k0 s vt cr).below u.out D;obtain⟨bb,_,bd,_,_⟩:=ic Q;have z0:=(D.cell (p:=aq bp 0) J.out.2).trans t;have R:ay ((df c k0 s vt cr).J I M O/\aw wr O):=⟨Q,D⟩)
       |(go_at_call 93;refine(Fy R.out.1 (a+1+j) (k0.nw s x)).mono ?_;rintro e n ⟨be,E,rfl,S,ao⟩;obtain⟨r1,_,bg,_,_⟩:=ic S;obtain⟨U,ap⟩:=q.out E _ n S ((b8.of R.out.2).trans ao);have r0:n.cell? (aq bp 0)=some (aj c.pk):=(by obtain⟨_,_,ar,_⟩:=U;simp[World.cell?,ar]);have aB:ay ((da (df c k0 s vt cr) bp (dl c)).J (fun b=>E b\/b=bp) v n/\b8 F w (fun b=>E b\/b=bp) n):=⟨(by rw[l.out];exact U),d.out.2.trans ap⟩))
    go_wp2_with fail;go_roundw
    case rel=>exact⟨j+1,_,V,af,by rw[al.out];exact aB⟩
    case measure=>simp[intOf];omega
   ·obtain rfl:j=m:=V;go_wp2_with fail;go_end0;exact⟨g,rfl,d.out.1,d.out.2⟩
end
def b9.fQ (k:b9)(s:cu):Nat->b9
 |0=>k
 |n+1=>(k.fQ s n).qy n (k.nw s ((k.fQ s n).s.rs.getD n 0))
def b9.ob (k:b9)(s:cu)(l:List Int):b9:=gU (fun(_:b9) a=>s.f a) (fun k a=>k.jQ s a) k l
def b9.ch (k:b9)(t:cu×List b7)(x:Int):Int×(cu×List b7):=((k.mp t.1 x).1,((k.mp t.1 x).2,t.2))
def b9.tS (k:b9)(t:cu×List b7)(r:List b7):cu×List b7:=ft (dI cu) (fun s x=>k.al s.1 x) k.ch t r
def b9.tR (k:b9)(t:cu×List b7)(r:List b7):List b7:=eO (dI cu) (fun s x=>k.al s.1 x) k.ch (fun s x=>k.nw s.1 x) t r
def b9.ie (k:b9)(t:cu×List b7)(r:List b7):List b7:=eP (dI cu) (fun s x=>k.al s.1 x) k.ch (fun s x=>k.nw s.1 x) t r
theorem FB:dN 159:=f_ func159 ae rfl
section
variable {c:e8}{k0 k:b9}{vt cr vr:Value}{F:Nat->Prop}{s:cu}{w:ax}{bp:Nat}
theorem FC (h:(df c k0 s vt cr).J F k w)(i:Nat)(x:Int):∃b,(df c k0 s vt cr).J b (k.qy i x) (w.setCell ⟨k0.a.nb,i,none⟩ (.int .i64 x))/\b8 F w b (w.setCell ⟨k0.a.nb,i,none⟩ (.int .i64 x)):=by obtain⟨h,ea,f,g⟩:=h;obtain⟨b,d,e⟩:=Fu h i x;rw[ea] at d e;exact⟨b,⟨d,ea,f,g⟩,e⟩
theorem tH (h:(df c k0 s vt cr).J F k w):w.cell? (aq k0.a.pw 3)=some (.slice (ak k0.a.nb) 12 12)/\∀i,i<12->w.cell? (aq k0.a.nb i)=some (ah (k.s.rs.getD i 0))/\w.frozen? (aq k0.a.nb i)=false:=by obtain⟨h,ea,d,e⟩:=h;obtain⟨_,b,_⟩:=pi h;obtain⟨_,_,_,c3,_,_,_,rt⟩:=jO b;rw[ea] at c3 rt;exact⟨c3,rt⟩
theorem FD (h:(da (df c k0 s vt cr) bp (dl c)).J F k w)(ht:k0.T.length<=4000)(hp:∀a∈k0.T,0<=a/\a<=2000){ad:Option Addr}{g B:Nat}(hr:w.ownsRow B 3 1 (.slice ad k0.T.length g) k0.T.length (k0.T.map (Value.int .i64)))(hB:∀b,F b->b<B):
 Calls prog 157 #[aj c.pk,.slice ad k0.T.length g,.func (.func 159) #[] #[aj bp]] w fun e w'=>∃f,e=.returned (.tuple #[])/\(da (df c k0 s vt cr) bp (dl c)).J f (k.ob s k0.T) w'/\b8 F w f w':=by
 have E:=ym _ (fun(_:b9) a=>s.f a) (fun k a=>pf (k.ld a)) (fun k a=>k.jQ s a) (fun _ _=>True) k0.T c.pk k0.a.pw k0.a.p c.ch 159 #[.pointer _] FB k0.T ad g F k w
  (by
    rintro F t l a n;obtain⟨_,d,_⟩:=gC n;obtain⟨c0,c3,c5,hM,o⟩:=ic d;refine⟨c0,c3,c5,hM,(gd a l o).mono ?_⟩
    rintro r w' ⟨rfl,hb⟩
    have p:pf (t.ld a)=pf (ld k0.a.N t.s.y t.s.g t.s.ws a):=by unfold b9.ld;rw[d.2.1]
    exact⟨pk _,pc _,by rw[p],hb⟩)
  (fun t a=>dj _) (fun a ha=>⟨by have:=hp a ha;omega,ha⟩) V
  (by
    rintro j F t l m _ q _;have hm:k0.T.getD j 0∈k0.T:=by rw[aE,aL m];exact a6 m
    have d:=hp _ hm;have i:=dj (t.ld (k0.T.getD j 0))
    have P:=FA q _ d (pf (t.ld (k0.T.getD j 0))).toNat V;rw[show(((pf (t.ld (k0.T.getD j 0))).toNat:Nat):Int)=pf (t.ld (k0.T.getD j 0)) from by omega] at P;exact P)
  (fun _ _ _ _=>trivial) trivial h (gH hr)
  (fun u z e hz=>by obtain⟨b,cap,v⟩:=eU hr u;cases v;cases e;have i:=(cn hr b rfl).1;have:=hB b hz;omega)
 refine E.mono ?_;rintro r w' ⟨f,rfl,d,i,_⟩
 exact⟨f,rfl,d,i⟩
theorem FE {o:Option Addr}{p:Nat}{r:List b7}(A:vr=.slice o r.length p){t:cu×List b7}(h:(c7 (dP c k) c.bs vr).J F t w)(hr:w.ownsRow 0 103 2 vr r.length (ev r))(hq:t.2.length+r.length<=90000)(bx f:Nat)(B:bx≠f)(C:w.heap[bx]?=some (dl c))(hy:w.heap[f]?=some (jy (kk c)))(hn:¬F bx)(hm:¬F f):
 Calls prog 78 #[aj c.bs,.agg #[(iX bx).v,(ib f).v,(jj c).v]] w fun e w'=>∃a1 c1 n,e=.returned (.tuple #[])/\(c7 (dP c k) c.bs (.slice a1 (k.tR t r).length c1)).J n ((k.tS t r).1,k.ie t r) w'/\
  w'.ownsRow 0 103 2 (.slice a1 (k.tR t r).length c1) (k.tR t r).length (ev (k.tR t r))/\(∀b,some b=(Value.slice a1 (k.tR t r).length c1).ownBlock->¬n b/\w.heap.size<=b)/\Fr (fun b=>F b\/b=f\/b=bx) w w'/\(∀b,n b->F b\/w.heap.size<=b):=by
 subst A;refine(p9 _ (fun _=>True) (iX bx) (ib f) (jj c) _ _ _ (p_ _ c.bs _ (fun _=>True) (iX bx) (ib f) (jj c) k.al k.mp k.nw tf ti tq (tu bx f (kk c)) (sO (yb f)) (lZ (lZ tt))) r o p rfl V (fun _ _=>⟨trivial,trivial⟩) _ t w (fun _ _=>⟨trivial,trivial⟩) hq (ka (ka h hy hm) C (fun d=>d.elim hn B)) (g7 hr)).mono ?_;rintro e w' ⟨a1,c1,a2,c2,D,Q,rfl,⟨q,ad,cap,⟨fp,⟨g,g1,R,E,s⟩,g2,g3,g4⟩,S,U,G,W,H,X,Y⟩,q3,I,i,j,l,J,K,L,M,N⟩
 have i:w'.heap[c.bs]?=some (.cells #[.slice a1 (k.tR t r).length c1,.slice a2 (k.ie t r).length c2] 153 (0,0)):=i;have j:=j;have l:=l;have u:∀b,g b->q b:=fun b hb=>(g4 b).2 (aK ((s b).2 (aK hb)))
 have m:∀b,g b->D b:=fun b hb=>G b (u b hb)
 have v:∀b,g b->b≠c.bs:=fun b hb e=>H (by show q c.bs;rw[<-e];exact u b hb)
 have x:=(dP c k).keep (w':=w') g1 I (fun b hb=>q3 b (m b hb) (v b hb))
 have O:F c.bs:=by obtain⟨_,_,_,_,_,_,_,P,_⟩:=h;exact P
 refine⟨a1,c1,fun b=>g b\/b=c.bs\/some b=(Value.slice a2 (k.ie t r).length c2).ownBlock,rfl,⟨g,a2,c2,x,i,eT l (fun _ _=>aZ _),fun b hb=>aK hb,aJ (aK rfl),fun d=>v _ d rfl,fun b e=>⟨aJ (aJ e),fun d=>M b e (m b d)⟩,fun b hb=>?_⟩,eT j (fun _ _=>aZ _),fun b e=>⟨fun d=>?_,(cn j b e).1⟩,J.mono (fun b d=>?_),fun b hb=>?_⟩
 ·rcases hb with hb|hb|hb
  ·exact(dP c k).lt x b hb
  ·rw[hb];exact lt_of_some i
  ·exact(cn l b hb).2
 ·rcases d with d|d|d
  ·exact L b e (m b d)
  ·obtain⟨ab,hc⟩:=e5 j b e;rw[d,i] at hc;simp at hc
  ·exact N b e d
 ·rcases d with(d|d)|d
  ·exact aK d
  ·exact aJ (aK d)
  ·exact aJ (aJ d)
 ·rcases hb with hb|hb|hb
  ·rcases K b (m b hb) with((d|d)|d)|d
   ·exact aK d
   ·exact absurd hb (by rw[d];exact E)
   ·exact absurd ((s b).2 (aK hb)) (by rw[d];exact g3)
   ·exact aJ d
  ·exact aK (by rw[hb];exact O)
  ·exact aJ (cn l b hb).1
end
def b9.e3 (k:b9)(s:cu):b9:=(k.fQ s 12).ob s k.T
section
variable {c:e8}{k0 k:b9}{vt cr vr:Value}{F:Nat->Prop}{s:cu}{w:ax}{bp:Nat}
theorem cV.of {k k0:b9}(h:cV k0 s)(b:k.Y=k0.Y)(c:k.G=k0.G):cV k s:=by
 have e:k.T=k0.T:=by unfold b9.T;rw[b,c]
 exact⟨by rw[e];exact h.nd,by rw[e];exact h.ps,by rw[e];exact h.td,by rw[e];exact h.ep,by rw[e];exact h.tl,by unfold b9.lost;rw[e];exact h.sum⟩
theorem ys (h:(df c k0 s vt cr).J F k w):k0.a.nb≠c.pk/\k0.a.nb≠k0.a.pw/\F k0.a.nb:=by
 obtain⟨⟨i,own,h,j⟩,ea,_⟩:=h;have hw:=h.wd;rw[<-ea];have f:=h.w1;obtain⟨m,cO,b,l⟩:=hw;have g:i k.a.nb:=(l _).2 (by rw[b.r1];decide)
 refine⟨fun e=>?_,fun e=>?_,(j _).2 (by rw[(f _).1 g];decide)⟩
 ·have d:=(f _).1 g;rw[e,h.k1] at d;omega
 ·have d:=b.r1;rw[e,b.w1] at d;omega
theorem FF {cE:Option Addr}{cF:Nat}{r:List b7}(cG:vr=.slice cE r.length cF){t:cu×List b7}(h:(c7 (dP c k) c.bs vr).J F t w)(hr:w.ownsRow 0 103 2 vr r.length (ev r))(cI:∀b,some b=vr.ownBlock->¬F b)(hq:t.2.length+r.length<=90000){v1 v2:Value}(hs:w.heap[k.a.sd]?=some (.cells #[v1,v2] 153 (0,0)))(cc:¬F k.a.sd):
 Calls prog 83 #[aj c.pk] w fun e w'=>∃a1 c1 o,e=.returned (.tuple #[])/\(c7 (dP c (k.e3 t.1)) c.bs (.slice a1 ((k.e3 t.1).tR t r).length c1)).J o (((k.e3 t.1).tS t r).1,(k.e3 t.1).ie t r) w'/\w'.ownsRow 0 103 2 (.slice a1 ((k.e3 t.1).tR t r).length c1) ((k.e3 t.1).tR t r).length (ev ((k.e3 t.1).tR t r))/\(∀b,some b=(Value.slice a1 ((k.e3 t.1).tR t r).length c1).ownBlock->¬o b/\w.heap.size<=b)/\w'.heap[k.a.sd]?=w'.heap[c.bs]?/\¬o k.a.sd/\Fr (fun b=>F b\/b=k.a.sd) w w'/\(∀b,o b->F b\/w.heap.size<=b):=by
 have dq:∀(cd:Fn)(first cap:Array Value)(w:ax),(Instr.makeFunc cd first cap).run prog w=.ok (.func cd first cap) w:=fun _ _ _ _=>rfl;obtain⟨C,⟨⟨vt,cr,h0⟩,ce⟩,cf⟩:=i4 h;have be:ay (cV k t.1):=ce;have cJ:=au w (dl c)
 have cK:∀b,C b->b<w.heap.size:=(cT c k vt cr).lt h0;have bg:(da (df c k t.1 vt cr) w.heap.size (dl c)).J (fun b=>C b\/b=w.heap.size) k (w.alloc (dl c)):=⟨C,⟨(cT c k vt cr).below h0 cJ,rfl,rfl,rfl⟩,aN _ _,fun f=>by have:=cK _ f;omega,fun b=>Iff.rfl⟩
 obtain⟨_,bi,D,_,_⟩:=gC bg;obtain⟨ad,_,c0,_,_⟩:=ic bi;obtain⟨c3,_⟩:=tH bi;have K:(w.alloc (dl c)).cell? (aq w.heap.size 0)=some (aj c.pk):=by simp only [World.cell?];rw[D];rfl
 clear bi D ce;go_enter func83,ntmps83;go_wp2_with fail
 go_loopw [12] (fun iv wr=>∃(j:Nat)(E:Nat->Prop),j<=12/\iv=ah j/\ay ((da (df c k t.1 vt cr) w.heap.size (dl c)).J E (k.fQ t.1 j) wr/\b8 (fun b=>C b\/b=w.heap.size) (w.alloc (dl c)) E wr)) (fun iv _=>12-(intOf iv).toNat)
 case atStart=>exact⟨0,_,aZ _,rfl,⟨bg,b8.refl _ _⟩⟩
 case round=>
  clear bg K ad c0 c3;obtain⟨j,E,dr,rfl,B⟩:=hrel;obtain⟨ag,u,D,lb,bl⟩:=gC B.out.1;have K:wr.cell? (aq w.heap.size 0)=some (aj c.pk):=by simp[World.cell?,D]
  obtain⟨ad,_,c0,_,_⟩:=ic u;obtain⟨c3,rt⟩:=tH u;by_cases bn:j<12
  ·have cg:ay (∀ai al w1,(df c k t.1 vt cr).J ai al w1->b8 ag wr ai w1->(da (df c k t.1 vt cr) w.heap.size (dl c)).J (fun b=>ai b\/b=w.heap.size) al w1/\b8 E wr (fun b=>ai b\/b=w.heap.size) w1):=bl;have v:ay (wr.heap[w.heap.size]?=some (dl c)/\w.heap.size<wr.heap.size/\(df c k t.1 vt cr).J ag (k.fQ t.1 j) wr):=⟨D,lb,u⟩
   obtain⟨n1,ds,cL⟩:=ys u;have n4:k.a.nb≠w.heap.size:=fun e=>by obtain⟨G,g1,_,g3,_⟩:=B.out.1;exact g3 (by rw[<-e];exact(ys g1).2.2)
   obtain⟨ch,cM⟩:=rt j bn;have bo:=yq ((df c k t.1 vt cr).below u (aH _ wr).drew) ((k.fQ t.1 j).s.rs.getD j 0)
   have am:ay (k.fQ t.1 (j+1)=(k.fQ t.1 j).qy j (k.nw t.1 ((k.fQ t.1 j).s.rs.getD j 0))):=rfl;obtain⟨an,bp⟩:∃an,k.fQ t.1 (j+1)=an:=⟨_,rfl⟩
   rw[bp] at am;have cN:ay (k.fQ t.1 (j+1)=an):=bp;clear bp u D lb bl rt cL;generalize (k.fQ t.1 j).s.rs.getD j 0=x at bo am ch;generalize k.fQ t.1 j=ci at am v B;have j0:(0:Int)<=(j:Int):=V;have dt:(j:Int)<12:=V;go_wp2_with fail
   go_region_held3 (fun w'=>w'.cell? (aq w.heap.size 0)=some (aj c.pk)/\w'.cell? (aq c.pk 0)=some (aj k.a.pw)/\w'.cell? (aq k.a.pw 3)=some (.slice (ak k.a.nb) 12 12)) (go_keep)
    (first
      |(go_at_call 156;refine bo.mono ?_;clear bo;rintro e g ⟨rfl,cj⟩;have ao:aw wr g:=((aH _ wr).drew).trans (cj.mono Z);have H:=(df c k t.1 vt cr).below v.out.2.2 ao;obtain⟨y1,_,_,_,_⟩:=ic H;obtain⟨cO,ck⟩:=tH H;obtain⟨cP,cQ⟩:=ck j bn;have br:=(ao.cell (p:=aq w.heap.size 0) v.out.2.1).trans K;have i:ay ((df c k t.1 vt cr).J ag ci g/\aw wr g):=⟨H,ao⟩;clear cj ao H ck))
   have A:ay (∃G,(da (df c k t.1 vt cr) w.heap.size (dl c)).J G an (g.setCell ⟨k.a.nb,j,none⟩ (.int .i64 (k.nw t.1 x)))/\b8 (fun b=>C b\/b=w.heap.size) (w.alloc (dl c)) G (g.setCell ⟨k.a.nb,j,none⟩ (.int .i64 (k.nw t.1 x)))):=by
    obtain⟨G,cR,cS⟩:=FC i.out.1 j (k.nw t.1 x)
    obtain⟨dC,bs⟩:=cg.out G _ _ cR ((b8.of i.out.2).trans cS)
    exact⟨_,by rw[am.out];exact dC,B.out.2.trans bs⟩
   clear i cg v B br y1 cO cP cQ K ad c0 c3 ch cM;go_wp2_with fail;go_roundw
   case rel=>
    obtain⟨G,dC,bs⟩:=A.out;exact⟨j+1,G,V,af,by rw[cN.out];exact⟨dC,bs⟩⟩
   case measure=>simp[intOf];omega
  ·obtain rfl:j=12:=V;clear bn rt bl;have bt:ay (k.T.length<=4000/\∀a∈k.T,0<=a/\a<=2000):=⟨be.out.tl,be.out.ps⟩
   have hd:=(av wr).drew;have cl:Calls prog 141 #[aj c.pk] wr.drew fun e w'=>∃a f,e=.returned (.slice a k.T.length f)/\w'.ownsRow wr.drew.heap.size 3 1 (.slice a k.T.length f) k.T.length (k.T.map (Value.int .i64))/\aw wr.drew w':=by
    have e:(k.fQ t.1 12).T=k.T:=by unfold b9.T;rw[u.2.2.1,u.2.2.2]
    have P:=yl (c:=c) (k:=k.fQ t.1 12) (F:=ag) (s:=t.1) (w:=wr.drew) ⟨vt,cr,(cT c _ vt cr).below u.1 hd⟩ (by rw[e];exact bt.out.1)
    rw[e] at P;exact P
   have v:ay (w.heap.size<wr.heap.size/\(da (df c k t.1 vt cr) w.heap.size (dl c)).J E (k.fQ t.1 12) wr.drew/\b8 (fun b=>C b\/b=w.heap.size) (w.alloc (dl c)) E wr.drew/\∀b,E b->b<wr.drew.heap.size):=⟨lb,(da (df c k t.1 vt cr) w.heap.size (dl c)).below B.out.1 hd,B.out.2.below hd,fun b hb=>by have:=(da (df c k t.1 vt cr) w.heap.size (dl c)).lt B.out.1 b hb;simpa using this⟩
   have ap:ay (k.e3 t.1=(k.fQ t.1 12).ob t.1 k.T):=rfl;obtain⟨d,bx⟩:∃d,k.e3 t.1=d:=⟨_,rfl⟩
   rw[bx] at ap;have cU:ay (k.e3 t.1=d):=bx;clear bx;generalize k.fQ t.1 12=ci at ap v B u;clear u D lb hd B ad c0 c3;go_wp2_with fail
   go_region_held3 (fun w'=>w'.cell? (aq w.heap.size 0)=some (aj c.pk)) (go_keep)
    (first
      |(go_at_call 141;refine cl.mono ?_;clear cl;rintro e bY ⟨cW,cX,rfl,cm,bZ⟩;have br:bY.cell? (aq w.heap.size 0)=some (aj c.pk):=(bZ.cell (p:=aq w.heap.size 0) (by have:=v.out.1;simpa using this)).trans K;have ar:ay (bY.ownsRow wr.drew.heap.size 3 1 (.slice cW k.T.length cX) k.T.length (k.T.map (Value.int .i64))/\aw wr.drew bY):=⟨cm,bZ⟩;clear cm bZ)
      |(go_at_call 157;refine(FD ((da (df c k t.1 vt cr) w.heap.size (dl c)).below v.out.2.1 ar.out.2) bt.out.1 bt.out.2 ar.out.1 v.out.2.2.2).mono ?_;rintro e g ⟨aB,rfl,b0,co⟩;obtain⟨cp,L,q,_,_⟩:=gC b0;have cq:g.cell? (aq w.heap.size 0)=some (aj c.pk):=(by simp[World.cell?,q]);clear L q;have cs:ay ((da (df c k t.1 vt cr) w.heap.size (dl c)).J aB d g/\b8 (fun b=>C b\/b=w.heap.size) (w.alloc (dl c)) aB g):=⟨(by rw[ap.out];exact b0),(v.out.2.2.1.below ar.out.2).trans co⟩;clear b0 co))
   all_goals
    have aF:ay (∃n,(c7 (dP c d) c.bs vr).J n (t.1,t.2) g/\¬n w.heap.size/\g.heap[w.heap.size]?=some (dl c)/\Fr F w g/\(∀b,n b->F b\/w.heap.size<=b))/\d.a=k.a:=by
     obtain⟨cp,L,q,cY,cZ⟩:=cs.out.1;have ct:=cs.out.2;have c2:b8 C w aB g:=⟨(Fr.of (X:=C) (au w (dl c))).trans ct.fr (fun b f=>f.imp id (fun e=>by omega)),fun b hb=>(ct.sub b hb).elim (fun f=>f.imp id (fun e=>by omega)) (fun f=>aJ (by simp at f;omega))⟩
     obtain⟨n,hM,cv⟩:=cf (da (dP c d) w.heap.size (dl c)) aB t.1 g ⟨cp,⟨⟨vt,cr,L.1⟩,be.out.of L.2.2.1 L.2.2.2⟩,q,cY,cZ⟩ c2;obtain⟨g1,g2,g3⟩:=qq hM;exact⟨⟨_,g1,fun f=>f.2 rfl,g2,cv.fr,fun b f=>cv.sub b f.1⟩,L.2.1⟩
    obtain⟨aF,c4⟩:=aF;obtain⟨n,hM,cw,b2,aR,b3⟩:=aF.out;have cx:g.ownsRow 0 103 2 vr r.length (ev r):=cH hr (fun b e=>aR.block b (cn hr b e).2 (cI b e))
    have cy:g.heap[k.a.sd]?=some (.cells #[v1,v2] 153 (0,0)):=(aR.block _ (lt_of_some hs) cc).trans hs;have cz:∀b,n b->b<g.heap.size:=(c7 (dP c d) c.bs vr).lt hM;obtain⟨_,⟨⟨du,dv,H⟩,_⟩,_⟩:=i4 hM;obtain⟨_,_,_,_,b4,_⟩:=ey H;have cA:=aQ g _ b4;have cB:=lt_of_some b2;have M:¬n k.a.sd/\k.a.sd<w.heap.size:=⟨fun f=>(b3 _ f).elim cc (fun f=>by have:=lt_of_some hs;omega),lt_of_some hs⟩
    have i:ay ((c7 (dP c d) c.bs vr).J n (t.1,t.2) g/\g.ownsRow 0 103 2 vr r.length (ev r)/\g.heap[k.a.sd]?=some (.cells #[v1,v2] 153 (0,0))/\(∀b,n b->b<g.heap.size)/\¬n w.heap.size/\w.heap.size<g.heap.size/\(¬n k.a.sd/\k.a.sd<w.heap.size)/\c.pk<g.heap.size/\g.heap[w.heap.size]?=some (dl c)):=⟨hM,cx,cy,cz,cw,cB,M,cA,b2⟩
    have aV:ay (Fr F w g/\∀b,n b->F b\/w.heap.size<=b):=⟨aR,b3⟩
    have c5:ay (∀m,aw g m->m.heap[g.heap.size]?=some (dl c)->m.heap[g.heap.size+1]?=some (jy (kk c))->Calls prog 78 #[aj c.bs,.agg #[(iX g.heap.size).v,(ib (g.heap.size+1)).v,(jj c).v]] m fun e w'=>∃a1 c1 o,e=.returned (.tuple #[])/\(c7 (dP c d) c.bs (.slice a1 (d.tR t r).length c1)).J o ((d.tS t r).1,d.ie t r) w'/\w'.ownsRow 0 103 2 (.slice a1 (d.tR t r).length c1) (d.tR t r).length (ev (d.tR t r))/\(∀b,some b=(Value.slice a1 (d.tR t r).length c1).ownBlock->¬o b/\m.heap.size<=b)/\Fr (fun b=>n b\/b=g.heap.size+1\/b=g.heap.size) m w'/\(∀b,o b->n b\/m.heap.size<=b)):=fun m Q a0 a2=>
     FE cG ((c7 (dP c d) c.bs vr).below i.out.1 Q) (cH i.out.2.1 (fun b e=>Q.block b (cn i.out.2.1 b e).2)) hq g.heap.size (g.heap.size+1) V a0 a2 (fun f=>by have:=i.out.2.2.2.1 _ f;omega) (fun f=>by have:=i.out.2.2.2.1 _ f;omega)
    clear br K ar v ap hM cx cy cz cw cB M cA b2 aR b3 H aF cf h0 hr hs h;go_wp2_with fail
    go_region_held3 (fun w'=>w'.cell? (aq w.heap.size 0)=some (aj c.pk)/\w'.cell? (aq c.pk 4)=some (aj c.bs)) (go_keep)
     (first
       |(go_at_call 79;refine(ts (kk c) g.drew c.pk).mono ?_;rintro e m ⟨rfl,a0,a2,Q⟩;have bb:aw g m:=((aH _ g).drew).trans (Q.mono Z);have b5:=(bb.cell (p:=aq c.pk 4) i.out.2.2.2.2.2.2.2.1).trans b4;have b6:=(bb.cell (p:=aq w.heap.size 0) i.out.2.2.2.2.2.1).trans cq;have A:ay (m.heap[g.heap.size]?=some (dl c)/\m.heap[g.heap.size+1]?=some (jy (kk c))/\aw g m):=⟨a0,a2,bb⟩;clear a0 a2 Q bb)
       |(go_at_call 78;refine(c5.out m A.out.2.2 A.out.1 A.out.2.1).mono ?_;rintro e l ⟨a1,c1,N,rfl,q,R,O,S,U⟩;obtain⟨_,⟨⟨c6,c8,ca⟩,_⟩,_⟩:=i4 q;obtain⟨u0,_,_,_,c9,_⟩:=ey ca;have db:l.cell? (aq w.heap.size 0)=some (aj c.pk):=(by have cb:=A.out.2.2.block w.heap.size i.out.2.2.2.2.2.1;have dc:=S.block w.heap.size (by have:=A.out.2.2.size;have:=i.out.2.2.2.2.2.1;omega) (fun f=>by rcases f with f|f|f;(exact i.out.2.2.2.2.1 f);(have:=i.out.2.2.2.2.2.1;omega);(have:=i.out.2.2.2.2.2.1;omega));simp[World.cell?,dc,cb,i.out.2.2.2.2.2.2.2.2]);have bd:ay ((c7 (dP c d) c.bs (.slice a1 (d.tR t r).length c1)).J N ((d.tS t r).1,d.ie t r) l/\l.ownsRow 0 103 2 (.slice a1 (d.tR t r).length c1) (d.tR t r).length (ev (d.tR t r))/\(∀b,some b=(Value.slice a1 (d.tR t r).length c1).ownBlock->¬N b/\m.heap.size<=b)/\Fr (fun b=>n b\/b=g.heap.size+1\/b=g.heap.size) m l/\(∀b,N b->n b\/m.heap.size<=b)/\(cT c d c6 c8).J _ (d.tS t r).1 l):=⟨q,R,O,S,U,ca⟩;clear q R O S U ca))
    all_goals
     clear b5 b6 cq b4;have W:ay (l.heap[k.a.sd]?=some (.cells #[v1,v2] 153 (0,0))):=by have l1:=i.out.2.2.2.2.2.2.1;have l2:=i.out.2.2.2.2.2.1;have dd:=A.out.2.2.size;exact((bd.out.2.2.2.1.block k.a.sd V (fun f=>by rcases f with f|f|f;(exact l1.1 f);omega;omega)).trans (A.out.2.2.block k.a.sd V)).trans i.out.2.2.1
     obtain⟨_,cC,_⟩:=pi bd.out.2.2.2.2.2;obtain⟨_,_,cD,_⟩:=jO cC;rw[c4] at cD u0;obtain⟨dw,I,J,_,Y,_⟩:=bd.out.1;have de:l.cell? (aq c.bs 0)=some (.slice a1 (d.tR t r).length c1):=by simp[World.cell?,Y]
     have b1:l.cell? (aq c.bs 1)=some (.slice I (d.ie t r).length J):=by simp[World.cell?,Y]
     have s0:l.cell? (aq k.a.sd 0)=some v1:=by simp[World.cell?,W.out]
     have s1:l.cell? (aq k.a.sd 1)=some v2:=by simp[World.cell?,W.out]
     have t0:l.frozen? (aq k.a.sd 0)=false:=by simp[World.frozen?,W.out]
     have al:l.frozen? (aq k.a.sd 1)=false:=by simp[World.frozen?,W.out]
     have dg:ay (∃o,(c7 (dP c d) c.bs (.slice a1 (d.tR t r).length c1)).J o ((d.tS t r).1,d.ie t r) ((l.setCell ⟨k.a.sd,0,none⟩ (.slice a1 (d.tR t r).length c1)).setCell ⟨k.a.sd,1,none⟩ (.slice I (d.ie t r).length J)).drew/\((l.setCell ⟨k.a.sd,0,none⟩ (.slice a1 (d.tR t r).length c1)).setCell ⟨k.a.sd,1,none⟩ (.slice I (d.ie t r).length J)).drew.ownsRow 0 103 2 (.slice a1 (d.tR t r).length c1) (d.tR t r).length (ev (d.tR t r))/\(∀b,some b=(Value.slice a1 (d.tR t r).length c1).ownBlock->¬o b/\w.heap.size<=b)/\((l.setCell ⟨k.a.sd,0,none⟩ (.slice a1 (d.tR t r).length c1)).setCell ⟨k.a.sd,1,none⟩ (.slice I (d.ie t r).length J)).drew.heap[k.a.sd]?=((l.setCell ⟨k.a.sd,0,none⟩ (.slice a1 (d.tR t r).length c1)).setCell ⟨k.a.sd,1,none⟩ (.slice I (d.ie t r).length J)).drew.heap[c.bs]?/\¬o k.a.sd/\Fr (fun b=>F b\/b=k.a.sd) w ((l.setCell ⟨k.a.sd,0,none⟩ (.slice a1 (d.tR t r).length c1)).setCell ⟨k.a.sd,1,none⟩ (.slice I (d.ie t r).length J)).drew/\(∀b,o b->F b\/w.heap.size<=b)):=by
      have l1:=i.out.2.2.2.2.2.2.1;have l2:=i.out.2.2.2.2.2.1;have dd:=A.out.2.2.size;obtain⟨q,R,O,S,U,_⟩:=bd.out;have M:¬N k.a.sd:=fun f=>(U _ f).elim l1.1 (fun f=>by omega)
      have ab:Fr (fun b=>b=k.a.sd) l ((l.setCell ⟨k.a.sd,0,none⟩ (.slice a1 (d.tR t r).length c1)).setCell ⟨k.a.sd,1,none⟩ (.slice I (d.ie t r).length J)).drew:=(((Fr.refl (fun b=>b=k.a.sd) l).set k.a.sd 0 _ rfl).set k.a.sd 1 _ rfl).drew;have dh:N c.bs:=by obtain⟨_,_,_,_,_,_,_,cb,_⟩:=q;exact cb
      have di:Fr F w l:=(aV.out.1.trans (Fr.of (X:=F) A.out.2.2) (fun b f=>aK f)).trans S (fun b f=>by
       have:=aV.out.1.size;rcases f with f|f|f
       ·exact aV.out.2 b f
       ·exact aJ V
       ·exact aJ V)
      refine⟨N,(c7 (dP c d) c.bs _).keep q ab.size (fun b hb=>ab.block b ((c7 (dP c d) c.bs _).lt q b hb) (fun e=>M (by rw[<-e];exact hb))),cH R (fun b e=>ab.block b (cn R b e).2 (fun dx=>by have:=(O b e).2;omega)),fun b e=>⟨(O b e).1,by have:=(O b e).2;omega⟩,?_,M,(di.mono (fun b f=>aK f)).trans ab (fun b e=>aK (aJ e)),fun b hb=>(U b hb).elim (aV.out.2 b) (fun f=>aJ V)⟩
      rw[ab.block c.bs (lt_of_some Y) (fun e=>M (by rw[<-e];exact dh)),Y];show((l.setCell _ _).setCell _ _).heap[k.a.sd]?=_;simp only [World.setCell,Array.getElem?_modify,if_true,W.out,Option.map_some];simp
     clear cC Y;go_wp2_with fail
     go_region
     clear de b1 s0 s1 t0 al cD u0 c9 db;obtain⟨o,dj,dk,dm,b5,b6,dn,dp⟩:=dg.out;go_end0;rw[cU.out];exact⟨a1,c1,o,rfl,dj,dk,dm,b5,b6,dn,dp⟩
end
def b9.lz (k:b9)(t f n:Nat):b9:=k.ar k.s.y k.s.g (splice k.s.ws t ((k.s.ws.drop f).take n))
def b9.cop (k:b9)(a:Int):b9:=k.ar k.s.y (jL k.a.N k.a.O k.s.y k.s.g k.s.ws a) (jM k.a.N k.a.O k.s.y k.s.g k.s.ws a)
section
variable {c:e8}{k0 k:b9}{vt cr vr:Value}{F:Nat->Prop}{s:cu}{w:ax}{bp f3:Nat}
theorem FG (h:(df c k0 s vt cr).J F k w)(t f n:Nat)(d:t+n<=k0.a.N+k0.a.O)(h2:f+n<=k0.a.N+k0.a.O):Calls prog 162 #[aj k0.a.p,ah t,ah f,ah n] w fun e w'=>∃b,e=.returned (.tuple #[])/\(df c k0 s vt cr).J b (k.lz t f n) w'/\b8 F w b w':=by obtain⟨h,ea,tC,tD⟩:=h;obtain⟨g,hU⟩:=oa h;rw[<-ea];refine(wc t f n w g (by rw[ea];exact d) (by rw[ea];exact h2)).mono ?_;exact tA
theorem FH (h:(df c k0 s vt cr).J F k w)(a:Int):Calls prog 165 #[aj k0.a.p,ah a] w fun e w'=>∃b v,e=.returned (ah v)/\(df c k0 s vt cr).J b (k.cop a) w'/\b8 F w b w':=by
 obtain⟨h,ea,d,f⟩:=h;obtain⟨g,i⟩:=oa h;rw[<-ea];refine(wH a w g).mono ?_;rintro e j ⟨rfl,l,m⟩
 obtain⟨n,o,p⟩:=i j _ _ _ l m;exact⟨n,_,rfl,⟨o,ea,d,f⟩,p⟩
theorem FI {b:Int}(h:(g_ (da (df c k0 s vt cr) bp (dl c)) f3).J F (k,b) w)(a:Int)(m:Nat)(ha:a∈k0.T)(hp:0<=a/\a<=2000)(x:0<=s.f a)(A:s.f a+m<=k0.a.N+k0.a.O)(B:a+m<=k0.a.N+k0.a.O)(am:0<=b/\b<=100000)(hm:m<=13):
 Calls prog 161 #[ah a,ah m,aj bp,aj f3] w fun e w'=>∃l,e=.returned (.tuple #[])/\(g_ (da (df c k0 s vt cr) bp (dl c)) f3).J l (k.lz (s.f a).toNat a.toNat m,b+m) w'/\b8 F w l w':=by
 have n:=je hp.1 V;obtain⟨ao,g1,_,_,C⟩:=ly h;obtain⟨i,g2,E,lb,G⟩:=gC g1;have H:w.cell? (aq bp 0)=some (aj c.pk):=by simp[World.cell?,E]
 obtain⟨I,J,c0,_,_⟩:=ic g2;have o:=(df c k0 s vt cr).below g2 (aH _ w).drew;obtain⟨_,_,_,⟨D,o1,ap,K⟩,_⟩:=ic o;obtain⟨z,j,L,ar⟩:=o1.lookup_int (t:=127) (e:=3) (q:=.i64) iN Tryz.underlying127 Tryz.underlying3 (lW _) n;obtain rfl:z=s.f a:=by have:=L.symm.trans (K a ha);simpa using this
 obtain⟨tn,M⟩:=Int.eq_ofNat_of_zero_le x;obtain⟨an,N⟩:=Int.eq_ofNat_of_zero_le hp.1;rw[M] at j A⊢;rw[N] at j B n⊢;have P:=FG o tn an m V V;rw[Int.toNat_natCast,Int.toNat_natCast];have O:ay (∀d f w1,(df c k0 s vt cr).J d f w1->b8 i w d w1->∃g,(g_ (da (df c k0 s vt cr) bp (dl c)) f3).J g (f,b) w1/\b8 F w g w1):=fun d f w1 Q t=>by obtain⟨j2,R⟩:=G d f w1 Q t;obtain⟨cA,t3⟩:=C _ f w1 j2 R;exact⟨_,cA,t3⟩
 have S:ay (b8 i w i w.drew):=b8.of (aH _ w).drew;go_enter func161,ntmps161;go_wp2_with fail
 go_region_held3 (fun w'=>w'.cell? (aq bp 0)=some (aj c.pk)/\w'.cell? (aq c.pk 0)=some (aj k0.a.pw)/\w'.cell? (aq c.pk 3)=some (.map (some c.ch))/\w'.cell? (aq k0.a.pw 0)=some (aj k0.a.p)) (go_keep)
  (first
    |(go_at_call 162;refine P.mono ?_;rintro e p ⟨d,rfl,cA,t3⟩;obtain⟨U,W,X,_,_⟩:=ic cA;have Y:=O.out d _ p cA (S.out.trans t3);obtain⟨g,cE,u⟩:=Y;have ab:=(n_ cE).1;have aB:=(n_ cE).2;dsimp only at ab;have ad:p.cell? (aq bp 0)=some (aj c.pk):=(by obtain⟨_,ag,_⟩:=ly cE;obtain⟨_,_,ai,_⟩:=gC ag;simp[World.cell?,ai]);have v:ay (_/\_):=⟨cE,u⟩;clear cA t3 cE u))
 all_goals
  clear H I J c0 U W X ad j;go_wp2_with fail;go_end0;obtain⟨dC,al⟩:=yp v.out.1 (b+m)
  exact⟨g,rfl,dC,v.out.2.trans al⟩
theorem FJ (h:(da (df c k0 s vt cr) bp (dl c)).J F k w)(a m:Int):
 Calls prog 164 #[ah a,ah m,aj bp] w fun e w'=>∃b,e=.returned (.tuple #[])/\(da (df c k0 s vt cr) bp (dl c)).J b (k.cop a) w'/\b8 F w b w':=by
 obtain⟨n,g2,f,lb,g⟩:=gC h;have o:w.cell? (aq bp 0)=some (aj c.pk):=by simp[World.cell?,f]
 obtain⟨p,q,c0,_,_⟩:=ic g2;go_enter func164,ntmps164;go_wp2_with fail;refine(FH g2 a).mono ?_;rintro e w1 ⟨i,v,rfl,j,l⟩
 have d:=hide ((hide g).out i _ w1 j l)
 go_wp2;go_end0;exact⟨_,rfl,d.out.1,d.out.2⟩
end
def b9.i6 (s:cu)(t:b9×Int)(a:Int):b9×Int:=(t.1.lz (s.f a).toNat a.toNat (1+(pf (t.1.ld a)).toNat),t.2+(1+pf (t.1.ld a)))
def b9.lA (k:b9)(s:cu)(l:List Int):b9×Int:=gU (fun _ a=>s.f a) (b9.i6 s) (k,0) l
def b9.pj (k:b9)(s:cu)(l:List Int):b9:=gU (fun(_:b9) a=>s.f a) (fun k a=>k.cop a) k l
def b9.tJ (k:b9):b9:={k with s:={k.s with M:=[]}}
def b9.sl1 (k:b9)(s:cu):b9:=(k.lA s k.G).1.ar (k.lA s k.G).1.s.y (k.lA s k.G).2.toNat (k.lA s k.G).1.s.ws
def b9.sl2 (k:b9)(s:cu):b9:=(k.sl1 s).pj s k.Y
def b9.sl (k:b9)(s:cu):b9:=((k.sl2 s).ar 0 (k.sl2 s).s.g (k.sl2 s).s.ws).tJ
theorem FK:dN 161:=f_ func161 ae rfl
theorem FL:dN 164:=f_ func164 ae rfl
section
variable {c:e8}{k0 k:b9}{vt cr vr:Value}{F:Nat->Prop}{s:cu}{w:ax}{bp f3:Nat}
theorem FM (h:(df c k0 s vt cr).J F k w)(n:Int)(h0:0<=n)(d:n<=k0.a.O):Calls prog 163 #[aj k0.a.p,ah n] w fun e w'=>∃b,e=.returned (.tuple #[])/\(df c k0 s vt cr).J b (k.ar k.s.y n.toNat k.s.ws) w'/\b8 F w b w':=by obtain⟨h,ea,tC,tD⟩:=h;obtain⟨f,hU⟩:=oa h;rw[<-ea];refine(B9 n w f h0 (by rw[ea];exact d)).mono ?_;exact tA
theorem FN (h:(df c k0 s vt cr).J F k w):Calls prog 114 #[aj k0.a.p] w fun e w'=>∃b,e=.returned (.tuple #[])/\(df c k0 s vt cr).J b (k.ar 0 k.s.g k.s.ws) w'/\b8 F w b w':=by obtain⟨h,ea,tC,tD⟩:=h;obtain⟨d,hU⟩:=oa h;rw[<-ea];refine(v4 w d).mono ?_;exact tA
theorem FO (h:(df c k0 s vt cr).J F k w):w.cell? (aq k0.a.pw 1)=some (aj k0.a.pc)/\Calls prog 115 #[aj k0.a.pc] w fun e w'=>∃f,e=.returned (.tuple #[])/\(df c k0 s vt cr).J f k.tJ w'/\b8 F w f w':=by
 obtain⟨h,ea,j,l⟩:=h;obtain⟨u,g1,g2⟩:=pi h;obtain⟨_,c1,_⟩:=jO g1;obtain⟨cO,hc,m⟩:=xM g1;have P:=sv w hc.hp;rw[ea] at c1 P;refine⟨c1,P.mono ?_⟩
 rintro e n ⟨rfl,g,d⟩
 rw[<-ea] at g d;obtain⟨v,o,p⟩:=m n _ _ g ⟨d.os,d.tape,d.output,d.size,fun b hb i _=>d.block b hb i i⟩ (aJ bW)
 obtain⟨q,j2,t⟩:=g2 _ _ _ o p;exact⟨q,rfl,⟨j2,ea,j,l⟩,t⟩
theorem oc (h:(df c k0 s vt cr).J F k w):w.cell? (aq c.pk 1)=some c.yv/\w.cell? (aq c.pk 2)=some c.ov/\w.ownsRow 0 3 1 c.yv k0.Y.length (k0.Y.map (Value.int .i64))/\w.ownsRow 0 3 1 c.ov k0.G.length (k0.G.map (Value.int .i64)):=by obtain⟨h,ea,b,d⟩:=h;obtain⟨_,e,f,_⟩:=ey h;obtain⟨y,g⟩:=yk h;rw[b] at y;rw[d] at g;exact⟨e,f,y,g⟩
def iD (k0:b9)(s:cu)(G:Nat->b9×Int->Prop):Prop:=
 (∀j t,j<k0.G.length->G j t->s.f (k0.G.getD j 0)≠-1->0<=s.f (k0.G.getD j 0)/\s.f (k0.G.getD j 0)+(1+pf (t.1.ld (k0.G.getD j 0)))<=k0.a.N+k0.a.O/\k0.G.getD j 0+(1+pf (t.1.ld (k0.G.getD j 0)))<=k0.a.N+k0.a.O/\0<=t.2/\t.2<=100000)/\
 (∀j t,j<k0.G.length->G j t->G (j+1) (e_ (fun _ a=>s.f a) (b9.i6 s) t (k0.G.getD j 0)))/\(∀t,G k0.G.length t->0<=t.2/\t.2<=k0.a.O)
theorem FP {G:Nat->b9×Int->Prop}(m:iD k0 s G){t:b9×Int}(h0:G 0 t)(h:(g_ (da (df c k0 s vt cr) bp (dl c)) f3).J F t w)(hl:k0.G.length<=4000)(hp:∀a∈k0.G,0<=a/\a<=2000){ad:Option Addr}{d:Nat}(hv:c.ov=.slice ad k0.G.length d):
 Calls prog 157 #[aj c.pk,.slice ad k0.G.length d,.func (.func 161) #[] #[aj bp,aj f3]] w fun e w'=>∃f,e=.returned (.tuple #[])/\(g_ (da (df c k0 s vt cr) bp (dl c)) f3).J f (gU (fun _ a=>s.f a) (b9.i6 s) t k0.G) w'/\b8 F w f w'/\G k0.G.length (gU (fun _ a=>s.f a) (b9.i6 s) t k0.G):=by
 have n:∀a∈k0.G,a∈k0.T:=fun a ha=>List.mem_append.2 (aK ha)
 refine tz _ (fun _ a=>s.f a) (fun t a=>pf _) _ G k0.T c.pk k0.a.pw k0.a.p c.ch 161 #[.pointer _,.pointer _] FK k0.G ad d F t w
  (by
    rintro F t o a p;obtain⟨_,g,_⟩:=ly p;obtain⟨_,b,_⟩:=gC g;obtain⟨c0,c3,c5,hM,q⟩:=ic b;refine⟨c0,c3,c5,hM,(gd a o q).mono ?_⟩
    rintro r w' ⟨rfl,hb⟩
    have u:pf (t.1.ld a)=pf (ld k0.a.N t.1.s.y t.1.s.g t.1.s.ws a):=by unfold b9.ld;rw[b.2.1]
    exact⟨pk _,pc _,by rw[u],hb⟩)
  (fun t a=>dj _) (fun a ha=>⟨by have:=hp a ha;omega,n a ha⟩) V
  (by
    rintro j F t o i hg k v;have hm:k0.G.getD j 0∈k0.G:=by rw[aE,aL i];exact a6 i
    have b:=hp _ hm;have C:=dj (t.1.ld (k0.G.getD j 0))
    obtain⟨a1,a2,x,A,B⟩:=m.1 j t i hg v;have l:((1+(pf (t.1.ld (k0.G.getD j 0))).toNat:Nat):Int)=1+pf (t.1.ld (k0.G.getD j 0)):=V;have P:=FI k _ _ (n _ hm) b a1 (by rw[l];exact a2) (by rw[l];exact x) ⟨A,B⟩ V;rw[l] at P;exact P)
  m.2.1 h0 h (fun f D w' k _=>?_)
 obtain⟨_,g,_⟩:=ly k;obtain⟨_,b,_⟩:=gC g;have hr:=(oc b).2.2.2;rw[hv] at hr;exact gH hr
theorem FQ (h:(da (df c k0 s vt cr) bp (dl c)).J F k w)(hl:k0.Y.length<=4000)(hp:∀a∈k0.Y,0<=a/\a<=2000){ad:Option Addr}{f:Nat}(hv:c.yv=.slice ad k0.Y.length f):
 Calls prog 157 #[aj c.pk,.slice ad k0.Y.length f,.func (.func 164) #[] #[aj bp]] w fun e w'=>∃d,e=.returned (.tuple #[])/\(da (df c k0 s vt cr) bp (dl c)).J d (k.pj s k0.Y) w'/\b8 F w d w':=by
 have l:∀a∈k0.Y,a∈k0.T:=fun a ha=>List.mem_append.2 (aJ ha)
 have E:=tz _ (fun(_:b9) a=>s.f a) (fun t a=>pf (t.ld a)) (fun k a=>k.cop a) (fun _ _=>True) k0.T c.pk k0.a.pw k0.a.p c.ch 164 #[.pointer _] FL k0.Y ad f F k w
  (by
    rintro F t i a m;obtain⟨_,b,_⟩:=gC m;obtain⟨c0,c3,c5,hM,n⟩:=ic b;refine⟨c0,c3,c5,hM,(gd a i n).mono ?_⟩
    rintro r w' ⟨rfl,hb⟩
    have o:pf (t.ld a)=pf (ld k0.a.N t.s.y t.s.g t.s.ws a):=by unfold b9.ld;rw[b.2.1]
    exact⟨pk _,pc _,by rw[o],hb⟩)
  (fun t a=>dj _) (fun a ha=>⟨by have:=hp a ha;omega,l a ha⟩) V
  (fun j F t i _ _ g _=>FJ g _ _)
  (fun _ _ _ _=>trivial) trivial h (fun d q w' g _=>by obtain⟨_,b,_⟩:=gC g;have hr:=(oc b).2.2.1;rw[hv] at hr;exact gH hr)
 refine E.mono ?_;rintro r w' ⟨d,rfl,b,p,_⟩
 exact⟨d,rfl,b,p⟩
end
end Go.Proofs.YtpkjkjhanlbcoaaGreat
