import Derived.Test.YtjpjpjemibgjpaaGreatJ22
import Derived.Test.YtjpjpjemibgjpaaGreatJ19
import Derived.Test.YtjpjpjemibgjpaaGreatJ03
import Derived.Test.YtjpjpjemibgjpaaGreatJ01
import Derived.Test.YtjpjpjemibgjpaaGreatJ00
import Derived.Test.YtjpjpjemibgjpaaGreatJ02
namespace Go.Proofs.YtjpjpjemibgjpaaGreat
set_option maxRecDepth 100000
set_option maxHeartbeats 2000000
open Tryz
open Go.RowKit W Kp bY
def ey {b:Type}(fm:b->Int->Int)(st:b->Int->b)(t:b)(a:Int):b:=if fm t a=-1 then t else st t a
def fL {a:Type}(fm:a->Int->Int)(st:a->Int->a)(t:a)(l:List Int):a:=l.foldl (ey fm st) t
theorem pS {g:Type}(o:dB g)(fm fd:g->Int->Int)(st:g->Int->g)(G:Nat->g->Prop)(T:List Int)(pk pw p bW f:Nat)(k:Array Value)(N:dQ f)(l:List Int)(C:Option Addr)(a3:Nat)(F:Nat->Prop)(t:g)(w:World)
 (O:∀F t w a,o.J F t w->w.cell? (ah pk 0)=some (af pw)/\w.cell? (ah pk 3)=some (.map (some bW))/\w.cell? (ah pw 0)=some (af p)/\Mp w bW T (fm t)/\Calls prog 77 #[af p,ae a] w fun r w'=>∃x z,r=.returned (.tuple #[ae x,ae (fd t a),ae z])/\Below w.heap.size w w')
 (P:∀t a,0<=fd t a/\fd t a<=12)(Q:∀a∈l,(0<=a/\a<=100000)/\a∈T)(bs:l.length<=100000)
 (R:∀j F t w,j<l.length->G j t->o.J F t w->fm t (l.getD j 0)≠-1->Calls prog f (#[ae (l.getD j 0),ae (1+fd t (l.getD j 0))]++k) w fun r w'=>∃c,r=.returned (.tuple #[])/\o.J c (st t (l.getD j 0)) w'/\bM F w c w')
 (S:∀j t,j<l.length->G j t->G (j+1) (ey fm st t (l.getD j 0)))(h0:G 0 t)(e:o.J F t w)(U:∀c E w',o.J c E w'->bM F w c w'->fZ w' C l):
 Calls prog 124 #[af pk,.slice C l.length a3,.func (.func f) #[] k] w fun r w'=>∃c,r=.returned (.tuple #[])/\o.J c (fL fm st t l) w'/\bM F w c w'/\G l.length (fL fm st t l):=by
 have bb:Hid (∀F t w a,o.J F t w->w.cell? (ah pk 0)=some (af pw)/\w.cell? (ah pk 3)=some (.map (some bW))/\w.cell? (ah pw 0)=some (af p)/\Mp w bW T (fm t)/\Calls prog 77 #[af p,ae a] w fun r w'=>∃x z,r=.returned (.tuple #[ae x,ae (fd t a),ae z])/\Below w.heap.size w w'):=O;have bd:Hid (∀j F t w,j<l.length->G j t->o.J F t w->fm t (l.getD j 0)≠-1->Calls prog f (#[ae (l.getD j 0),ae (1+fd t (l.getD j 0))]++k) w fun r w'=>∃c,r=.returned (.tuple #[])/\o.J c (st t (l.getD j 0)) w'/\bM F w c w'):=R;have be:Hid (∀j t,j<l.length->G j t->G (j+1) (ey fm st t (l.getD j 0))):=S;have bg:Hid (∀c E w',o.J c E w'->bM F w c w'->fZ w' C l):=U;have bi:Hid (∀a∈l,(0<=a/\a<=100000)/\a∈T):=Q;have bl:Hid (∀t a,0<=fd t a/\fd t a<=12):=P;have bx:∀(args:Array Value)(w:World),(callFunc f args).run prog w=.ok (.enter f args) w:=N;clear O R S U Q P N;go_enter func124,ntmps124;go_wp2_with fail
 go_loopw [13] (fun iv wr=>∃(j:Nat)(d:Nat->Prop)(b:g),j<=l.length/\iv=ae j/\Hid (fL fm st t (l.take j)=b)/\Hid (G j b)/\o.J d b wr/\bM F w d wr) (fun iv _=>l.length-(intOf iv).toNat)
 case atStart=>exact⟨0,F,t,aA _,rfl,rfl,h0,e,bM.refl _ _⟩
 case round=>
  clear h0 e;obtain⟨j,d,b,bL,rfl,H,J,e,u⟩:=hrel;by_cases i:j<l.length
  ·obtain⟨b0,bN,bn,bO,hc⟩:=bg.out d b wr e u I;have W:=hc j i;subst bn;have X:l.getD j 0∈l:=by rw[aj,am i];exact aK i
   obtain⟨bo,Y⟩:=bi.out _ X;have ad:=hF bo.1 I;have ai:Hid (fL fm st t (l.take (j+1))=ey fm st b (l.getD j 0)):=by
    show _=_;rw[eY l j i 0];unfold fL;rw[List.foldl_append];have:=H.out;unfold fL at this
    rw[this];rfl
   have al:Hid (G (j+1) (ey fm st b (l.getD j 0))):=be.out j b i J.out;have n:=fun w h=>bd.out j d b w i J.out h;obtain⟨ar,ax,aB,⟨D,o1,bp,aF⟩,L⟩:=bb.out d b wr (l.getD j 0) e;have A:Hid (D.atKey (.int .i64 (l.getD j 0)) (.lit (.int .i64 0))=.lit (.int .i64 (fm b (l.getD j 0)))):=aF _ Y;have bP:=bl.out b (l.getD j 0)
   have B:Hid (o.J d b wr/\bM F w d wr):=⟨e,u⟩
   have n:Hid (∀w,o.J d b w->fm b (l.getD j 0)≠-1->Calls prog f (#[ae (l.getD j 0),ae (1+fd b (l.getD j 0))]++k) w fun r w'=>∃c,r=.returned (.tuple #[])/\o.J c (st b (l.getD j 0)) w'/\bM d w c w'):=n;clear hc X Y e u bp aF;by_cases hw:fm b (l.getD j 0)=-1
   ·have q:Hid (ey fm st b (l.getD j 0)=b):=by show _=_;unfold ey;rw[aq hw]
    rw[hw] at A;clear n L;generalize l.getD j 0=a at*;go_wp2_with (at_lookup;refine wpList_lookup_own_int _ rfl _ _ 108 rfl 3 3 .i64 gz Tryz.underlying108 Tryz.underlying3 (jm _) bW T.length D rfl o1 _ _ rfl ad ?_;intro z s K;obtain rfl:z=-1:=(by have:=s.symm.trans A.out;simpa using this);clear s K)
    clear W ar ax aB o1;go_roundw
    case rel=>exact⟨j+1,d,b,I,ac,by show _=_;rw[ai.out,q.out],by show G _ _;rw[<-q.out];exact al.out,B.out.1,B.out.2⟩
    case measure=>simp[intOf];omega
   ·have q:Hid (ey fm st b (l.getD j 0)=st b (l.getD j 0)):=by show _=_;unfold ey;rw[ao hw]
    have br:Hid (∀w,o.J d b w->Calls prog f (#[ae (l.getD j 0),ae (1+fd b (l.getD j 0))]++k) w fun r w'=>∃c,r=.returned (.tuple #[])/\o.J c (st b (l.getD j 0)) w'/\bM d w c w'):=fun w h=>n.out w h hw;clear n;generalize l.getD j 0=a at*;generalize fm b a=v at*;generalize fd b a=m at*;generalize st b a=aR at*;go_wp2_with (at_lookup;refine wpList_lookup_own_int _ rfl _ _ 108 rfl 3 3 .i64 gz Tryz.underlying108 Tryz.underlying3 (jm _) bW T.length D rfl o1 _ _ rfl ad ?_;intro z s K;obtain rfl:z=v:=(by have:=s.symm.trans A.out;simpa using this);clear s K A)
    refine L.mono ?_;clear L;rintro r w1 ⟨x,y,rfl,aT⟩
    go_wp2_with fail;refine(br.out w1 (o.below B.out.1 aT)).mono ?_;rintro r aV ⟨M,rfl,a0,a1⟩
    have a2:Hid (o.J M aR aV/\bM F w M aV):=⟨a0,(B.out.2.below aT).trans a1⟩
    clear a0 a1 W ar ax aB o1;go_wp2_with fail;go_roundw
    case rel=>exact⟨j+1,M,aR,I,ac,by show _=_;rw[ai.out,q.out],by show G _ _;rw[<-q.out];exact al.out,a2.out.1,a2.out.2⟩
    case measure=>simp[intOf];omega
  ·obtain rfl:j=l.length:=I;rw[aP] at H;go_wp2_with fail;go_end0;rw[H.out];exact⟨d,rfl,e,u,J.out⟩
theorem tF {c:Type}(o:dB c)(fm fd:c->Int->Int)(st:c->Int->c)(G:Nat->c->Prop)(T:List Int)(pk pw p bW f:Nat)(i:Array Value)(s:dQ f)(l:List Int)(g:Option Addr)(k:Nat)(F:Nat->Prop)(t:c)(w:World)
 (u:∀F t w a,o.J F t w->w.cell? (ah pk 0)=some (af pw)/\w.cell? (ah pk 3)=some (.map (some bW))/\w.cell? (ah pw 0)=some (af p)/\Mp w bW T (fm t)/\Calls prog 77 #[af p,ae a] w fun r w'=>∃x z,r=.returned (.tuple #[ae x,ae (fd t a),ae z])/\Below w.heap.size w w')
 (v:∀t a,0<=fd t a/\fd t a<=12)(A:∀a∈l,(0<=a/\a<=100000)/\a∈T)(B:l.length<=100000)
 (C:∀j F t w,j<l.length->G j t->o.J F t w->fm t (l.getD j 0)≠-1->Calls prog f (#[ae (l.getD j 0),ae (1+fd t (l.getD j 0))]++i) w fun r w'=>∃d,r=.returned (.tuple #[])/\o.J d (st t (l.getD j 0)) w'/\bM F w d w')
 (D:∀j t,j<l.length->G j t->G (j+1) (ey fm st t (l.getD j 0)))(h0:G 0 t)(E:o.J F t w)(m:fZ w g l)(H:0<l.length->∀z,g=some z->¬F z.block):
 Calls prog 124 #[af pk,.slice g l.length k,.func (.func f) #[] i] w fun r w'=>∃d,r=.returned (.tuple #[])/\o.J d (fL fm st t l) w'/\bM F w d w'/\G l.length (fL fm st t l):=
 pS o fm fd st G T pk pw p bW f i s l g k F t w u v A B C D h0 E (fun d _ w' _ n=>m.keep n.fr.size (fun hp z e=>n.fr.block _ (by obtain⟨b,K,q,J,_⟩:=m hp;rw[e] at q;cases q;exact J) (H hp z e)))
abbrev gQ (n:Int):Obj:=.cells #[ae n] 3 (0,0)
def e4 {g:Type}(o:dB g)(d:Nat):dB (g×Int) where
 J F t w:=∃c,o.J c t.1 w/\w.heap[d]?=some (gQ t.2)/\¬c d/\∀b,F b↔(c b\/b=d)
 lt:=by
  rintro F t w ⟨c,h,f,_,e⟩ b a;rcases(e b).1 a with a|a
  ·exact o.lt h b a
  ·rw[a];exact lt_of_some f
 keep:=by rintro F t w w' ⟨c,h,f,i,e⟩ hs hk;exact⟨c,o.keep h hs (fun b a=>hk b ((e b).2 (ap a))),(hk d ((e d).2 (an rfl))).trans f,i,e⟩
section
variable {fX:Type}{o:dB fX}{bx eU:Nat}{x:Obj}{F:Nat->Prop}{w:World}
theorem fI {t:fX}(h:(cw o bx x).J F t w):∃d,o.J d t w/\w.heap[bx]?=some x/\bx<w.heap.size/\∀c g w1,o.J c g w1->bM d w c w1->(cw o bx x).J (fun b=>c b\/b=bx) g w1/\bM F w (fun b=>c b\/b=bx) w1:=by
 obtain⟨d,h,g2,g3,i⟩:=h;refine⟨d,h,g2,lt_of_some g2,fun c g w1 j e=>⟨⟨c,j,(e.fr.block bx (lt_of_some g2) g3).trans g2,fun f=>(e.sub bx f).elim g3 (fun f=>by have:=lt_of_some g2;omega),fun b=>Iff.rfl⟩,⟨e.fr.mono (fun b a=>(i b).2 (ap a)),fun b a=>?_⟩⟩⟩
 rcases a with a|a
 ·exact(e.sub b a).imp (fun f=>(i b).2 (ap f)) id
 ·exact ap ((i b).2 (an a))
theorem jx {t:fX×Int}(h:(e4 o eU).J F t w):∃d,o.J d t.1 w/\w.heap[eU]?=some (gQ t.2)/\eU<w.heap.size/\∀c g w1,o.J c g w1->bM d w c w1->(e4 o eU).J (fun b=>c b\/b=eU) (g,t.2) w1/\bM F w (fun b=>c b\/b=eU) w1:=by
 obtain⟨d,h,g2,g3,i⟩:=h;refine⟨d,h,g2,lt_of_some g2,fun c g w1 j e=>⟨⟨c,j,(e.fr.block eU (lt_of_some g2) g3).trans g2,fun f=>(e.sub eU f).elim g3 (fun f=>by have:=lt_of_some g2;omega),fun b=>Iff.rfl⟩,⟨e.fr.mono (fun b a=>(i b).2 (ap a)),fun b a=>?_⟩⟩⟩
 rcases a with a|a
 ·exact(e.sub b a).imp (fun f=>(i b).2 (ap f)) id
 ·exact ap ((i b).2 (an a))
theorem lK {t:fX×Int}(h:(e4 o eU).J F t w):w.cell? (ah eU 0)=some (ae t.2)/\w.frozen? (ah eU 0)=false:=by obtain⟨a,h,g2,g3,b⟩:=h;exact⟨by simp[World.cell?,g2],by simp[World.frozen?,g2]⟩
theorem tG {t:fX×Int}(h:(e4 o eU).J F t w)(m:Int):(e4 o eU).J F (t.1,m) (w.setCell ⟨eU,0,none⟩ (.int .i64 m))/\bM F w F (w.setCell ⟨eU,0,none⟩ (.int .i64 m)):=by
 obtain⟨d,h,g2,g3,a⟩:=h;have fr:Fr (fun b=>b=eU) w (w.setCell ⟨eU,0,none⟩ (.int .i64 m)):=(Fr.refl _ w).set _ 0 _ rfl;refine⟨⟨d,o.keep h fr.size (fun b c=>fr.block b (o.lt h b c) (fun e=>g3 (by rw[<-e];exact c))),?_,g3,a⟩,⟨fr.mono (fun b e=>(a b).2 (an e)),fun _ f=>ap f⟩⟩
 simp only [World.setCell,Array.getElem?_modify,if_true,g2,Option.map_some];simp
end
section
variable {c:eB}{k:bL}{vt bO:Value}{F:Nat->Prop}{s:bX}{w:World}
theorem y8 (h:(cy c k vt bO).J F s w):
 Calls prog 57 #[af c.pk] w fun e w'=>e=.returned (ae k.a.O)/\Below w.heap.size w w':=by
 obtain⟨a,c0,_⟩:=fH h;obtain⟨g,_⟩:=dX h;have P:=iZ w a;have i:Hid ((cy c k vt bO).J F s w):=h;have k1:=a.hO;have o:=a.hg;clear h a;go_enter func57,ntmps57;go_wp2_with fail;refine P.mono ?_;clear P;rintro e w1 ⟨rfl,b⟩
 have d:=(cy c k vt bO).below i.out b;obtain⟨a,j,_⟩:=fH d;obtain⟨l,_⟩:=dX d;have P:=oV w1 a;clear d a c0 g;go_wp2_with fail;refine P.mono ?_;clear P;rintro e m ⟨rfl,f⟩
 have n:Hid (Below w.heap.size w m):=b.trans (f.mono b.size)
 clear b f j l;go_wp2_with fail;go_ret;exact⟨ac,n.out⟩
theorem y9 {d j:Nat}{n m a:Int}(h:(e4 (cw (cy c k vt bO) d (cz c)) j).J F (s,n) w)(ht:k.T.length<=4000)(ha:a∈k.T)(hp:0<=a/\a<=2000)(R:0<=n/\n<=100000)(hm:0<=m/\m<=13):
 Calls prog 125 #[ae a,ae m,af j,af d] w fun e w'=>∃o,e=.returned (.tuple #[])/\(e4 (cw (cy c k vt bO) d (cz c)) j).J o ({s with f:=fe s.f a n},n+m) w'/\bM F w o w':=by
 have L:=hF hp.1 I;have M:=kz n (WalkArith.wf_i64 ⟨I,I⟩)
 obtain⟨N,_⟩:=lK h;obtain⟨_,g,_⟩:=jx h;obtain⟨_,i,p,_⟩:=fI g;obtain⟨_,_,_,S,_⟩:=dX i;have p:w.cell? (ah d 0)=some (af c.pk):=by simp[World.cell?,p]
 clear g i;have hd:=(e4 (cw (cy c k vt bO) d (cz c)) j).below h (Below.refl _ w).drew;obtain⟨U,g,_,_,q⟩:=jx hd;obtain⟨W,i,_,_,u⟩:=fI g;obtain⟨⟨D,o1,v,x⟩,hM⟩:=mF i;obtain⟨w3,X,A,B⟩:=o1.update (t:=108) (e:=3) gz Tryz.underlying108 (by unfold maxLen;omega) L M;obtain⟨C,E⟩:=hM w3 _ (Mp.put o1 v x ha A) ((Fr.refl _ w.drew).grown B (fun b e=>ap (by cases e;rfl)))
 obtain⟨G,H⟩:=u _ _ _ C E;obtain⟨l,J⟩:=q _ _ _ G H;obtain⟨O,Y⟩:=lK l;have K:Hid (_/\_):=⟨l,(bM.of (Below.refl _ w).drew).trans J⟩
 clear h hd g i q u hM o1 v x A B C E G H l J;dsimp only at N O;go_enter func125,ntmps125;go_wp2_with fail
 go_region
 go_wp2_with fail;go_end0;obtain⟨P,Q⟩:=tG K.out.1 (n+m)
 exact⟨_,rfl,P,K.out.2.trans Q⟩
end
def bL.j7 (k:bL)(t:bX×Int)(a:Int):bX×Int:=({t.1 with f:=fe t.1.f a t.2},t.2+(1+pf (k.ld a)))
def bL.j8 (k:bL)(t:bX×Int)(l:List Int):bX×Int:=fL (fun t a=>t.1.f a) k.j7 t l
def bL.pl (k:bL)(s:bX):bX×Int:=k.j8 (s,k.a.N) k.T
section
variable {c:eB}{k:bL}{vt bO:Value}{F:Nat->Prop}{s:bX}{w:World}
theorem y_:dQ 125:=gb func125 ab rfl
theorem za {f g:Nat}(h:(e4 (cw (cy c k vt bO) f (cz c)) g).J F (s,(k.a.N:Int)) w)(ht:k.T.length<=4000)(hp:∀a∈k.T,0<=a/\a<=2000)(hN:k.a.N<=2000){o:Option Addr}{p B:Nat}(q:w.ownsRow B 3 1 (.slice o k.T.length p) k.T.length (k.T.map (Value.int .i64)))(hB:∀b,F b->b<B):
 Calls prog 124 #[af c.pk,.slice o k.T.length p,.func (.func 125) #[] #[af g,af f]] w fun e w'=>∃l,e=.returned (.tuple #[])/\(e4 (cw (cy c k vt bO) f (cz c)) g).J l (k.pl s) w'/\bM F w l w'/\0<=(k.pl s).2/\(k.pl s).2<=60000:=by
 have E:=tF (e4 (cw (cy c k vt bO) f (cz c)) g) (fun t a=>t.1.f a) (fun _ a=>pf (k.ld a)) k.j7 (fun j t=>0<=t.2/\t.2<=2000+13*(j:Int)) k.T c.pk k.a.pw k.a.p c.bW 125 #[af g,af f] y_ k.T o p F (s,(k.a.N:Int)) w
  (by
    rintro F t v a x;obtain⟨_,i,_⟩:=jx x;obtain⟨_,d,_⟩:=fI i;obtain⟨c0,_,_,A,_⟩:=dX d;obtain⟨C,D,_⟩:=fH d;obtain⟨hM,_⟩:=mF d;refine⟨c0,A,D,hM,(e9 a v C).mono ?_⟩
    rintro r w' ⟨rfl,G⟩
    exact⟨_,_,rfl,G⟩)
  (fun t a=>cU _) (fun a ha=>⟨by have:=hp a ha;omega,ha⟩) I
  (by
    rintro j F t v u ⟨g1,g2⟩ H _;have hm:k.T.getD j 0∈k.T:=by rw[aj,am u];exact aK u
    have i:=hp _ hm;have d:=cU (k.ld (k.T.getD j 0))
    exact y9 (s:=t.1) (n:=t.2) (m:=1+pf (k.ld (k.T.getD j 0))) H ht hm i ⟨g1,I⟩ I)
  (by
    rintro j t u ⟨g1,g2⟩
    have d:=cU (k.ld (k.T.getD j 0))
    unfold ey;split
    ·exact⟨g1,I⟩
    ·unfold bL.j7;dsimp only;exact⟨I,I⟩)
  ⟨by dsimp only;omega,by dsimp only;omega⟩ h (ga q)
  (fun J z e hz=>by obtain⟨b,N,K⟩:=dP q J;cases K;cases e;have d:=(bR q b rfl).1;have:=hB b hz;omega)
 refine E.mono ?_;rintro r w' ⟨l,rfl,i,d,L,M⟩
 exact⟨l,rfl,i,d,L,Int.le_trans M I⟩
theorem zb (h:(cy c k vt bO).J F s w)(ht:k.T.length<=4000)(hp:∀a∈k.T,0<=a/\a<=2000):
 Calls prog 56 #[af c.pk] w fun e w'=>∃g,e=.returned (ae ((k.pl s).2-k.a.N))/\(cy c k vt bO).J g (k.pl s).1 w'/\bM F w g w':=by
 have bi:∀(L:Fn)(first M:Array Value)(w:World),(Instr.makeFunc L first M).run prog w=.ok (.func L first M) w:=fun _ _ _ _=>rfl;have A:Hid ((cy c k vt bO).J F s w):=h;have B:=(Below.refl w.heap.size w).alloc bJ (cz c)
 have h0:=(cy c k vt bO).below h B;obtain⟨C,c0,_⟩:=fH h0;obtain⟨aB,_⟩:=dX h0;have P:=jQ _ C;have n1:=C.hN';have D:Hid (Below w.heap.size w (w.alloc (cz c))):=B;clear h h0 C B;go_enter func56,ntmps56;go_wp2_with fail;refine P.mono ?_;clear P;rintro e w1 ⟨rfl,E⟩
 have o:w1.heap[w.heap.size]?=some (cz c):=(E.block _ V).trans (aw _ _)
 have N:w1.cell? (ah w.heap.size 0)=some (af c.pk):=by simp[World.cell?,o]
 have q:∀b,F b->b<w.heap.size:=(cy c k vt bO).lt A.out;have t:w.heap.size<w1.heap.size:=lt_of_some o;have i:Below w1.heap.size w1 (w1.alloc (gQ k.a.N)):=(Below.refl w1.heap.size w1).alloc bJ _;have u:Below w.heap.size w w1:=D.out.trans (E.mono D.out.size)
 have G:=(cy c k vt bO).below ((cy c k vt bO).below A.out u) i;have O:(cw (cy c k vt bO) w.heap.size (cz c)).J (fun b=>F b\/b=w.heap.size) s (w1.alloc (gQ k.a.N)):=⟨F,G,(i.block _ t).trans o,fun d=>by have:=q _ d;omega,fun b=>Iff.rfl⟩
 have Q:(e4 (cw (cy c k vt bO) w.heap.size (cz c)) w1.heap.size).J (fun b=>(F b\/b=w.heap.size)\/b=w1.heap.size) (s,(k.a.N:Int)) (w1.alloc (gQ k.a.N)):=⟨_,O,aw _ _,fun d=>d.elim (fun d=>by have:=q _ d;omega) (fun d=>by omega),fun b=>Iff.rfl⟩
 have hd:=(Below.refl (w1.alloc (gQ k.a.N)).heap.size (w1.alloc (gQ k.a.N))).drew;have R:=tE (c:=c) ⟨vt,bO,(cy c k vt bO).below G hd⟩ ht;have j:Hid ((e4 (cw (cy c k vt bO) w.heap.size (cz c)) w1.heap.size).J (fun b=>(F b\/b=w.heap.size)\/b=w1.heap.size) (s,(k.a.N:Int)) (w1.alloc (gQ k.a.N)).drew/\Below w.heap.size w (w1.alloc (gQ k.a.N)).drew/\(∀b,F b->b<w.heap.size)/\w.heap.size<w1.heap.size/\(w1.alloc (gQ k.a.N)).drew.heap.size=w1.heap.size+1):=⟨(e4 (cw (cy c k vt bO) w.heap.size (cz c)) w1.heap.size).below Q hd,(u.trans (i.mono u.size)).trans (hd.mono (by simp;omega)),q,t,V⟩
 have S:(w1.alloc (gQ k.a.N)).cell? (ah w.heap.size 0)=some (af c.pk):=(i.cell (p:=ah w.heap.size 0) t).trans N;have H:Hid (k.T.length<=4000/\∀a∈k.T,0<=a/\a<=2000):=⟨ht,hp⟩
 clear q i u G O Q hd E o N c0 aB D t A;go_wp2_with fail
 go_region_held3 (fun w'=>w'.cell? (ah w.heap.size 0)=some (af c.pk)) (go_keep)
  (first
    |(go_at_call 108;refine R.mono ?_;clear R;rintro e w3 ⟨aF,aR,rfl,U,l⟩;have aT:w3.cell? (ah w.heap.size 0)=some (af c.pk):=(l.cell (p:=ah w.heap.size 0) (by have:=j.out.2.2.2;simp;omega)).trans S;have v:Hid (w3.ownsRow (w1.alloc (gQ k.a.N)).drew.heap.size 3 1 (.slice aF k.T.length aR) k.T.length (k.T.map (Value.int .i64))/\Below (w1.alloc (gQ k.a.N)).drew.heap.size (w1.alloc (gQ k.a.N)).drew w3):=⟨U,l⟩;clear U l)
    |(go_at_call 124;refine(za ((e4 (cw (cy c k vt bO) w.heap.size (cz c)) w1.heap.size).below j.out.1 v.out.2) H.out.1 H.out.2 I v.out.1 (fun b f=>by have m:=j.out.2.2;rw[m.2.2];rcases f with(f|f)|f;(have:=m.1 b f;omega);omega;omega)).mono ?_;rintro e n ⟨W,rfl,x,Y,b1,b2⟩;have bl:=(lK x).1;obtain⟨aV,m,_,_,_⟩:=jx x;obtain⟨ad,J,K,_,_⟩:=fI m;have a0:n.cell? (ah w.heap.size 0)=some (af c.pk):=(by simp[World.cell?,K]);clear m J K;have ai:Hid ((e4 (cw (cy c k vt bO) w.heap.size (cz c)) w1.heap.size).J W (k.pl s) n/\bM (fun b=>(F b\/b=w.heap.size)\/b=w1.heap.size) w3 W n):=⟨x,Y⟩;clear x Y))
 all_goals
  have a1:Hid (∃g,(cy c k vt bO).J g (k.pl s).1 n/\bM F w g n):=by
   obtain⟨⟨aV,⟨ad,J,K,a2,al⟩,bn,a3,bb⟩,ar⟩:=ai.out;obtain⟨_,bd,q3,bo,bp⟩:=j.out;have l:=v.out.2;have ax:Below w.heap.size w w3:=bd.trans (l.mono I)
   refine⟨ad,J,⟨(Fr.of (X:=F) ax).trans ar.fr (fun b d=>?_),fun b f=>?_⟩⟩
   ·rcases d with(d|d)|d
    ·exact ap d
    ·exact an I
    ·exact an I
   ·rcases ar.sub b ((bb b).2 (ap ((al b).2 (ap f)))) with((d|d)|d)|d
    ·exact ap d
    ·exact absurd f (by rw[d];exact a2)
    ·exact absurd ((al b).2 (ap f)) (by rw[d];exact a3)
    ·exact an (by have:=ax.size;omega)
  clear ai j v H S aT a0;go_wp2_with fail;go_ret;obtain⟨g,be,bg⟩:=a1.out;exact⟨g,by first|rfl|go_num,be,bg⟩
end
section
variable {c:fs}{k:bP}{F:Nat->Prop}{s:bU}{w:World}
theorem zc (h:(dq c k).J F s w)(p:CI k s)(hl:s.ep.length<=10000):
 Calls prog 88 #[af c.pk] w fun e w'=>e=.returned (.tuple #[])/\(dq c k).J F (k.be s s.ep) w'/\bM F w F w':=by
 obtain⟨ch,bO,h⟩:=h;obtain⟨c0,_,_,_,aT,aV,_,_,_,P,_,er,_,lk,_⟩:=dL h;obtain⟨Q,f,rfl⟩:=dG er;have R:Hid (CI k s):=p;have S:Hid (∀a∈s.ep,(k.N:Int)<=a/\a<=2000):=p.gD;have a0:(0:Int)<=k.N:=I;clear p P;go_enter func88,ntmps88;go_wp2_with fail
 go_loopw [9] (fun iv wr=>∃(j:Nat)(s1:bU),j<=s.ep.length/\iv=ae j/\Hid (k.be s (s.ep.take j)=s1)/\(cutV c k ch (.slice Q s.ep.length f)).J F s1 wr/\bM F w F wr/\Hid (CI k s1/\d9 k s s1)) (fun iv _=>s.ep.length-(intOf iv).toNat)
 case atStart=>exact⟨0,s,aA _,rfl,rfl,h,bM.refl _ _,⟨R.out,d9.refl _ _⟩⟩
 case round=>
  obtain⟨j,s1,a1,rfl,q,g,t,u⟩:=hrel;obtain⟨U,_,_,_,W,X,_,_,_,Y,_,v,_,a2,_⟩:=dL g;have ad:=u.out.2.ep;rw[ad] at v;by_cases o:j<s.ep.length
  ·obtain⟨b0,i,ai,a3,hc⟩:=ga v I;have al:=hc j o;subst ai;have E:s.ep.getD j 0∈s.ep:=by rw[aj,am o];exact aK o
   have G:=S.out _ E;have x:Hid (k.be s (s.ep.take (j+1))=k.gg s1 (s.ep.getD j 0)):=by
    show _=_;rw[eY s.ep j o 0];unfold bP.be;rw[List.foldl_append];have:=q.out;unfold bP.be at this
    rw[this];rfl
   generalize s.ep.getD j 0=a at al G x;have H:Hid (CI k (k.gg s1 a)/\d9 k s (k.gg s1 a)):=by obtain⟨ar,ax⟩:=u.out.1.gg G.1;exact⟨ar,u.out.2.trans ax⟩
   have J:Hid (k.gg s1 a=k.st (k.st s1 (a+1) 3) (a+2) 3):=rfl;generalize k.gg s1 a=K at x H J;have L:Hid ((cutV c k ch (.slice (some ⟨b0,i,none⟩) s.ep.length f)).J F s1 wr/\bM F w F wr):=⟨g,t⟩
   have l:=(gO ((cutV c k ch (.slice (some ⟨b0,i,none⟩) s.ep.length f)).below g (Below.refl _ wr).drew))
   have b:Hid (_/\_):=l;have bb:IntKind.i64.wrap (a+1)=a+1:=by rw[a_];omega
   have bd:IntKind.i64.wrap (a+2)=a+2:=by rw[a_];omega
   clear hc E g t l Y v W;go_wp2_with fail
   go_region_held3 (fun w'=>w'.cell? (ah c.pk 0)=some (af c.pw)/\w'.cell? (ah c.pw 0)=some (af c.p)) (go_keep)
    (first
      |(go_at_call 158;refine(lq _).mono ?_;rintro e aB ⟨rfl,d⟩;have d:=d.symm;subst d)
      |(go_at_call 68;refine(jP (a+1) 3 wr.drew b.out.1).mono ?_;rintro e w3 ⟨rfl,m,n⟩;obtain⟨A,M⟩:=b.out.2 w3 _ _ m n;obtain⟨g0,_,_,_,_,aF,_⟩:=dL A;have B:Hid ((cutV c k ch (.slice (some ⟨b0,i,none⟩) s.ep.length f)).J F (k.st s1 (a+1) 3) w3/\bM F w F w3):=⟨A,(L.out.2.below (Below.refl _ wr).drew).trans M⟩;clear m n A M b L))
   have l:=(gO ((cutV c k ch (.slice (some ⟨b0,i,none⟩) s.ep.length f)).below B.out.1 (Below.refl _ w3).drew))
   have b:Hid (_/\_):=l;clear l U X;go_wp2_with fail
   go_region_held3 (fun w'=>w'.cell? (ah c.pk 0)=some (af c.pw)/\w'.cell? (ah c.pw 0)=some (af c.p)) (go_keep)
    (first
      |(go_at_call 158;refine(lq _).mono ?_;rintro e aB ⟨rfl,d⟩;have d:=d.symm;subst d)
      |(go_at_call 68;refine(jP (a+2) 3 w3.drew b.out.1).mono ?_;rintro e C ⟨rfl,m,n⟩;obtain⟨D,N⟩:=b.out.2 C _ _ m n;obtain⟨r0,_,_,_,_,aR,_⟩:=dL D;have O:Hid ((cutV c k ch (.slice (some ⟨b0,i,none⟩) s.ep.length f)).J F K C/\bM F w F C):=⟨(by rw[J.out];exact D),(B.out.2.below (Below.refl _ w3).drew).trans N⟩;clear m n D N b B))
   clear g0 aF r0 aR;go_wp2_with fail;go_roundw
   case rel=>exact⟨j+1,K,I,ac,x,O.out.1,O.out.2,H⟩
   case measure=>simp[intOf];omega
  ·obtain rfl:j=s.ep.length:=I;rw[aP] at q;go_wp2_with fail;go_end0;rw[q.out];exact⟨rfl,⟨_,_,g⟩,t⟩
end
def bL.ar (k:bL)(y g:Nat)(ws:List Int):bL:={k with s:={k.s with y:=y,g:=g,ws:=ws}}
def bL.f6 (k:bL)(a x:Int):bL:=k.ar k.s.y k.s.g (if cO k.a.N k.s.y k.s.g a=true then k.s.ws.set a.toNat x else k.s.ws)
def bL.nR (k:bL)(i:Nat)(x:Int):bL:={k with s:={k.s with rs:=k.s.rs.set i x}}
def bL.brk (k:bL)(s:bX)(a:Int):bL:=
 if(pk (k.ld a)=3\/pk (k.ld a)=4)/\k.co s (k.ld (a+1))=true then(if pk (k.ld a)=4 then(k.f6 (a+1) 3).f6 (a+2) 3 else k.f6 (a+1) 3) else k
section
variable {c:eB}{k:bL}{vt bO:Value}{F:Nat->Prop}{s:bX}{w:World}
open Classical in
theorem mK (h:(cy c k vt bO).J F s w):∃f,(dD k.a).J f k.s w/\∀g s' w',(dD k.a).J g s' w'->bM f w g w'->∃o,(cy c {k with s:=s'} vt bO).J o s w'/\bM F w o w':=by
 obtain⟨f,own,h,n⟩:=h;refine⟨f,h.wd,fun g s' w' p m=>⟨_,⟨g,fun b=>if g b then 1 else if f b then 0 else own b,?_,fun b=>Iff.rfl⟩,⟨m.fr.mono (fun b a=>(n b).2 (by rw[(h.w1 b).1 a];decide)),fun b d=>?_⟩⟩⟩
 ·have l:∀b j,own b=j->j≠0->j≠1->(if g b then 1 else if f b then 0 else own b)=j:=fun b j e h0 q=>by
   have n1:¬f b:=fun a=>q (e.symm.trans ((h.w1 b).1 a))
   rw[ao (fun a=>(m.sub b a).elim n1 (fun a=>by have:=h.lt b I;omega)),ao n1];exact e
  have hk:∀b,b<w.heap.size->own b≠1->w'.heap[b]?=w.heap[b]?:=fun b d t=>m.fr.block b d (fun a=>t ((h.w1 b).1 a))
  exact {
   wd:=p,w1:=fun b=>⟨fun a=>by rw[aq a],fun a=>by
    by_cases e:g b
    ·exact e
    ·rw[ao e] at a;by_cases i:f b
     ·rw[aq i] at a;omega
     ·rw[ao i] at a;exact absurd ((h.w1 b).2 a) i⟩
   cb:=(hk _ (lt_of_some h.cb) (by rw[h.k1];decide)).trans h.cb,k1:=l _ _ h.k1 Z Z
   mp:=h.mp.same (hk _ h.mp.lt (by rw[h.m1];decide)),m1:=l _ _ h.m1 Z Z
   tr:=ca h.tr (fun b e=>hk b (bR h.tr b e).2 (by rw[h.fU b e];decide)),fU:=fun b e=>l _ _ (h.fU b e) Z Z
   er:=ca h.er (fun b e=>hk b (bR h.er b e).2 (by rw[h.eo b e];decide)),eo:=fun b e=>l _ _ (h.eo b e) Z Z
   yr:=ca h.yr (fun b e=>hk b (bR h.yr b e).2 (by rw[h.gh b e];decide)),gh:=fun b e=>l _ _ (h.gh b e) Z Z
   gr:=ca h.gr (fun b e=>hk b (bR h.gr b e).2 (by rw[h.go b e];decide)),go:=fun b e=>l _ _ (h.go b e) Z Z
   lt:=fun b d=>by
    by_cases e:g b
    ·exact(dD k.a).lt p b e
    ·rw[ao e] at d;by_cases i:f b
     ·rw[aq i] at d;exact absurd rfl d
     ·rw[ao i] at d;exact av (h.lt b d) m.fr.size}
 ·dsimp only at d;by_cases e:g b
  ·exact(m.sub b e).imp (fun a=>(n b).2 (by rw[(h.w1 b).1 a];decide)) id
  ·rw[ao e] at d;by_cases i:f b
   ·rw[aq i] at d;exact absurd rfl d
   ·rw[ao i] at d;exact ap ((n b).2 d)
theorem lL (h:(cy c k vt bO).J F s w):At w k.a.p k.a.q k.a.N k.a.O k.s.y k.s.g k.s.ws/\∀w' y g ws,At w' k.a.p k.a.q k.a.N k.a.O y g ws->cY k.a.p k.a.q w w'->∃a,(cy c (k.ar y g ws) vt bO).J a s w'/\bM F w a w':=by
 obtain⟨i,b,d⟩:=mK h;obtain⟨g1,g2⟩:=hG b;refine⟨g1,fun w' y g ws ha e=>?_⟩
 obtain⟨f,j2⟩:=g2 w' y g ws ha e;exact d _ _ _ f j2
theorem zd (h:(cy c k vt bO).J F s w)(i:Nat)(x:Int):∃a,(cy c (k.nR i x) vt bO).J a s (w.setCell ⟨k.a.nb,i,none⟩ (.int .i64 x))/\bM F w a (w.setCell ⟨k.a.nb,i,none⟩ (.int .i64 x)):=by obtain⟨f,b,d⟩:=mK h;obtain⟨e,j2⟩:=ta b i x;exact d _ _ _ e j2
theorem ze (h:(cy c k vt bO).J F s w)(a:Int)(ha:0<=a/\a<=2000):
 Calls prog 127 #[af c.pk,ae a] w fun e w'=>∃X,e=.returned (.tuple #[])/\(cy c (k.brk s a) vt bO).J X s w'/\bM F w X w':=by
 have q:Hid ((cy c k vt bO).J F s w):=h;obtain⟨L,_⟩:=dX h;obtain⟨M,c0,_⟩:=fH h;have P:=e9 a w M;have n:Hid (k.brk s a=if(pk (ld k.a.N k.s.y k.s.g k.s.ws a)=3\/pk (ld k.a.N k.s.y k.s.g k.s.ws a)=4)/\k.co s (k.ld (a+1))=true then(if pk (ld k.a.N k.s.y k.s.g k.s.ws a)=4 then(k.f6 (a+1) 3).f6 (a+2) 3 else k.f6 (a+1) 3) else k):=rfl;have aT:IntKind.i64.wrap (a+1)=a+1:=by rw[a_];omega
 have aV:IntKind.i64.wrap (a+2)=a+2:=by rw[a_];omega
 generalize k.brk s a=j at n⊢;generalize pk (ld k.a.N k.s.y k.s.g k.s.ws a)=N at P n;generalize pf (ld k.a.N k.s.y k.s.g k.s.ws a)=a0 at P;generalize pc (ld k.a.N k.s.y k.s.g k.s.ws a)=cc at P;clear h M;by_cases H:N=3\/N=4
 ·have O:Hid (∀w1,Below w.heap.size w w1->Calls prog 73 #[af k.a.p,ae (a+1)] w1 fun e w'=>e=.returned (ae (k.ld (a+1)))/\Below w1.heap.size w1 w'):=fun w1 g=>h8 (a+1) w1 (fH ((cy c k vt bO).below q.out g)).1;have J:Hid (∀w1,Below w.heap.size w w1->Calls prog 121 #[af c.pk,ae (k.ld (a+1))] w1 fun e w'=>e=.returned (.bool (k.co s (k.ld (a+1))))/\Below w1.heap.size w1 w'):=fun w1 g=>mG ((cy c k vt bO).below q.out g) _;generalize k.ld (a+1)=x at O J n;cases hl:k.co s x
  ·have E:Hid (j=k):=by show j=k;rw[n.out,hl,ao (fun Q=>by simp at Q)]
   rw[hl] at J;clear n;rcases H with rfl|rfl
   all_goals
    go_enter func127,ntmps127;go_wp2_with fail;refine P.mono ?_;clear P;rintro e w1 ⟨rfl,f⟩
    have l:=(cy c k vt bO).below q.out f;obtain⟨D,_⟩:=dX l;obtain⟨_,G,_⟩:=fH l;clear l L c0;go_wp2_with fail;refine(O.out w1 f).mono ?_;rintro e p ⟨rfl,v⟩
    have i:=f.trans (v.mono f.size)
    go_wp2_with fail;refine(J.out p i).mono ?_;rintro e w3 ⟨rfl,A⟩
    have m:Hid ((cy c j vt bO).J F s w3/\bM F w F w3):=by
     have g:=i.trans (A.mono i.size)
     rw[E.out];exact⟨(cy c k vt bO).below q.out g,bM.of g⟩
    clear f v A i G D;go_wp2_with fail;refine aW (results_none rfl _ _ _) rfl ?_;exact⟨F,rfl,m.out.1,m.out.2⟩
  ·rw[hl] at J;have R:Hid (∀k w1,(∃d,(cy c k vt bO).J d s w1/\bM F w d w1)->∀(a:Int),Calls prog 68 #[af k.a.p,ae a,ae 3] w1 fun e w'=>∃b,e=.returned (.bool b)/\(∃d,(cy c (k.f6 a 3) vt bO).J d s w'/\bM F w d w')/\w'.cell? (ah c.pk 0)=some (af k.a.pw)/\w'.cell? (ah k.a.pw 0)=some (af k.a.p)):=by
    rintro k w1 ⟨d,l,ad⟩ a;obtain⟨M,ai⟩:=lL l;refine(jP a 3 w1 M).mono ?_;rintro e p ⟨rfl,al,ar⟩
    obtain⟨ax,S,aB⟩:=ai p _ _ _ al ar;obtain⟨D,_⟩:=dX S;obtain⟨_,G,_⟩:=fH S;exact⟨_,rfl,⟨ax,S,ad.trans aB⟩,D,G⟩
   rcases H with rfl|rfl
   ·have E:Hid (j=k.f6 (a+1) 3):=by show j=_;rw[n.out,aq ⟨ap rfl,hl⟩,ao Z]
    clear n;go_enter func127,ntmps127;go_wp2_with fail;refine P.mono ?_;clear P;rintro e w1 ⟨rfl,f⟩
    have l:=(cy c k vt bO).below q.out f;obtain⟨D,_⟩:=dX l;obtain⟨_,G,_⟩:=fH l;clear l L c0;go_wp2_with fail;refine(O.out w1 f).mono ?_;rintro e p ⟨rfl,v⟩
    have i:=f.trans (v.mono f.size)
    go_wp2_with fail;refine(J.out p i).mono ?_;rintro e w3 ⟨rfl,A⟩
    have g:=i.trans (A.mono i.size)
    have t:=(cy c k vt bO).below q.out g;obtain⟨U,_⟩:=dX t;obtain⟨_,l0,_⟩:=fH t;have B:=R.out k w3.drew ⟨F,(cy c k vt bO).below t (Below.refl _ w3).drew,(bM.of g).below (Below.refl _ w3).drew⟩ (a+1)
    clear f v A i G D t g;go_wp2_with fail
    go_region_held3 (fun w'=>w'.cell? (ah c.pk 0)=some (af k.a.pw)/\w'.cell? (ah k.a.pw 0)=some (af k.a.p)) (go_keep)
     (first
       |(go_at_call 158;refine(lq _).mono ?_;rintro e p ⟨rfl,o⟩;have o:=o.symm;subst o)
       |(go_at_call 68;refine B.mono ?_;clear B;rintro e u ⟨aF,rfl,C,W,y1⟩;have m:Hid (∃d,(cy c j vt bO).J d s u/\bM F w d u):=(by rw[E.out];exact C);clear C))
    clear W y1 U l0;go_wp2_with fail;go_end0;obtain⟨d,K,j2⟩:=m.out;exact⟨d,rfl,K,j2⟩
   ·have E:Hid (j=(k.f6 (a+1) 3).f6 (a+2) 3):=by show j=_;rw[n.out,aq ⟨an rfl,hl⟩,aq rfl]
    clear n;go_enter func127,ntmps127;go_wp2_with fail;refine P.mono ?_;clear P;rintro e w1 ⟨rfl,f⟩
    have l:=(cy c k vt bO).below q.out f;obtain⟨D,_⟩:=dX l;obtain⟨_,G,_⟩:=fH l;clear l L c0;go_wp2_with fail;refine(O.out w1 f).mono ?_;rintro e p ⟨rfl,v⟩
    have i:=f.trans (v.mono f.size)
    go_wp2_with fail;refine(J.out p i).mono ?_;rintro e w3 ⟨rfl,A⟩
    have g:=i.trans (A.mono i.size)
    have t:=(cy c k vt bO).below q.out g;obtain⟨U,_⟩:=dX t;obtain⟨_,l0,_⟩:=fH t;have B:=R.out k w3.drew ⟨F,(cy c k vt bO).below t (Below.refl _ w3).drew,(bM.of g).below (Below.refl _ w3).drew⟩ (a+1)
    clear f v A i G D t g;go_wp2_with fail
    go_region_held3 (fun w'=>w'.cell? (ah c.pk 0)=some (af k.a.pw)/\w'.cell? (ah k.a.pw 0)=some (af k.a.p)) (go_keep)
     (first
       |(go_at_call 158;refine(lq _).mono ?_;rintro e p ⟨rfl,o⟩;have o:=o.symm;subst o)
       |(go_at_call 68;refine B.mono ?_;clear B;rintro e u ⟨aF,rfl,C,W,y1⟩;have m:Hid (∃d,(cy c (k.f6 (a+1) 3) vt bO).J d s u/\bM F w d u):=C;clear C))
    clear U l0;have B:Calls prog 68 #[af k.a.p,ae (a+2),ae 3] u.drew fun e w'=>∃b,e=.returned (.bool b)/\(∃d,(cy c j vt bO).J d s w'/\bM F w d w')/\w'.cell? (ah c.pk 0)=some (af k.a.pw)/\w'.cell? (ah k.a.pw 0)=some (af k.a.p):=by rw[E.out];obtain⟨d,K,j2⟩:=m.out;exact R.out (k.f6 (a+1) 3) u.drew ⟨d,(cy c _ vt bO).below K (Below.refl _ u).drew,j2.below (Below.refl _ u).drew⟩ (a+2)
    clear m;go_wp2_with fail
    go_region_held3 (fun w'=>w'.cell? (ah c.pk 0)=some (af k.a.pw)/\w'.cell? (ah k.a.pw 0)=some (af k.a.p)) (go_keep)
     (first
       |(go_at_call 158;refine(lq _).mono ?_;rintro e p ⟨rfl,o⟩;have o:=o.symm;subst o)
       |(go_at_call 68;refine B.mono ?_;clear B;rintro e Y ⟨a1,rfl,C,z0,aR⟩;have m:Hid (∃d,(cy c j vt bO).J d s Y/\bM F w d Y):=C;clear C))
    clear W y1 z0 aR;go_wp2_with fail;go_end0;obtain⟨d,K,j2⟩:=m.out;exact⟨d,rfl,K,j2⟩
 ·have E:Hid (j=k):=by show j=k;rw[n.out,ao (fun Q=>H Q.1)]
  have a2:N≠3:=fun e=>H (ap e)
  have n4:N≠4:=fun e=>H (an e)
  clear n H;go_enter func127,ntmps127;go_wp2_with fail;refine P.mono ?_;clear P;rintro e w1 ⟨rfl,f⟩
  have m:Hid ((cy c j vt bO).J F s w1/\bM F w F w1):=by rw[E.out];exact⟨(cy c k vt bO).below q.out f,bM.of f⟩
  clear f L c0;go_wp2_with fail;refine aW (results_none rfl _ _ _) rfl ?_;exact⟨F,rfl,m.out.1,m.out.2⟩
end
end Go.Proofs.YtjpjpjemibgjpaaGreat
