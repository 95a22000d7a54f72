import Derived.Test.YtjpjpjemibgjpaaGreatJ01
import Derived.Test.YtjpjpjemibgjpaaGreatJ00
import Derived.Deep.RegionHeld3
import Derived.ArgAppend
import Derived.Deep.RegionLawGrows
namespace Go.Proofs.YtjpjpjemibgjpaaGreat
theorem ac{P:Prop}(h:P:=by go_num):P:=h
set_option maxRecDepth 100000
set_option maxHeartbeats 1000000
open Tryz
open Go.RowKit W Kp bY
theorem m9:(prog.info? 83).map (fun i=>(i.zero,i.size,i.bytes))=some (some (.agg #[ae 0,ae 0]),2,16):=ab
abbrev en (e:bN):Value:=.agg #[ae e.1,ae e.2]
structure dB (fX:Type) where
 J:(Nat->Prop)->fX->World->Prop
 lt:∀{F t w},J F t w->∀k,F k->k<w.heap.size
 keep:∀{F t w w'},J F t w->w.heap.size<=w'.heap.size->(∀k,F k->w'.heap[k]?=w.heap[k]?)->J F t w'
theorem dB.below {a:Type}(o:dB a){F:Nat->Prop}{t:a}{w w':World}(h:o.J F t w)(f:Below w.heap.size w w'):o.J F t w':=o.keep h f.size (fun k hk=>f.block k (o.lt h k hk))
def dQ (f:Nat):Prop:=∀(args:Array Value)(w:World),(callFunc f args).run prog w=.ok (.enter f args) w
theorem gb {f:Nat}{a:Func}{c:Code}(b:Tryz.prog.funcs[f]?=some a)(d:(a.name== "runtime.NumGoroutine")=false)(e:a.body=some c):dQ f:=by
 intro args w;have g:a.name≠ "runtime.NumGoroutine" :=by simpa using d
 simp[callFunc,b,g,e]
theorem m_ {a:Type}(o:dB a){F:Nat->Prop}{t:a}{w b:World}{d:Obj}{c:Option Nat}(h:o.J F t w)(hg:(w.alloc d).grownBy b c)(f:∀k,some k=c->¬F k):o.J F t b:=
 o.keep h (by have:=hg.size;simp at this;omega) (fun k hk=>(hg.block k (by have:=o.lt h k hk;simp;omega) (fun e=>f k e hk)).trans (Below.heap_alloc _ _ _ (o.lt h k hk)))
theorem qX {w a:World}{base n m:Nat}{e:TypeId}{v:Value}{l:List Value}{c:Obj}{b:Option Nat}(h:w.ownsRow base e m v n l)(hg:(w.alloc c).grownBy a b)(d:∀k,some k=v.ownBlock->some k≠b):a.ownsRow base e m v n l:=
 ca h (fun k hk=>(hg.block k (by have:=(bR h k hk).2;simp;omega) (d k hk)).trans (Below.heap_alloc _ _ _ (bR h k hk).2))
theorem fC {w:World}{base n m:Nat}{e:TypeId}{v:Value}{l:List Value}(h:w.ownsRow base e m v n l)(a:Obj):(w.alloc a).ownsRow base e m v n l:=
 ca h (fun k hk=>Below.heap_alloc _ _ _ (bR h k hk).2)
def Looks {a:Type}(o:dB a)(D:bN->Prop)(G:a->Prop)(f:Nat)(b c:Array Value)(lk:a->bN->Bool×a):Prop:=
 ∀F t w (e:bN),D e->G t->o.J F t w->Calls prog f (b.push (en e)++c) w fun r w'=>∃d,r=.returned (.bool (lk t e).1)/\o.J d (lk t e).2 w'/\Fr F w w'/\∀k,d k->F k\/w.heap.size<=k
def ec {a:Type}(lk:a->bN->Bool×a)(s:List bN×List bN×a)(e:bN):List bN×List bN×a:=
 if(lk s.2.2 e).1 then(s.1++[e],s.2.1,(lk s.2.2 e).2) else(s.1,s.2.1++[e],(lk s.2.2 e).2)
def pts {a:Type}(lk:a->bN->Bool×a)(t:a)(l:List bN):List bN×List bN×a:=l.foldl (ec lk) ([],[],t)
theorem vY {a:Type}(lk:a->bN->Bool×a)(t:a)(l:List bN)(e:bN):pts lk t (l++[e])=ec lk (pts lk t l) e:=by simp[pts,List.foldl_append]
theorem l6 {a:Type}(lk:a->bN->Bool×a)(t:a)(l:List bN):(pts lk t l).1.length+(pts lk t l).2.1.length=l.length:=by
 have key:∀(l:List bN)(s:List bN×List bN×a),(l.foldl (ec lk) s).1.length+(l.foldl (ec lk) s).2.1.length=s.1.length+s.2.1.length+l.length:=by
  intro l
  induction l with
  |nil=>intro s;simp
  |cons e r b=>
   intro s;rw[aI,b];unfold ec;split<;>simp<;>omega
 simpa[pts] using key l ([],[],t)
theorem aA (n:Nat):0 <= n:=Nat.zero_le ..
theorem aO (w:World)(base:Nat)(e:Go.TypeId)(size:Nat):w.ownsRow base e size (Value.slice Option.none 0 0) 0 []:=World.ownsRow_nil ..
theorem aj {α:Type _}{l:List α}{i:Nat}{a:α}:l.getD i a = l[i]?.getD a:=List.getD_eq_getElem?_getD ..
theorem am {α:Type _}{l:List α}{i:Nat}(h:i < l.length):l[i]? = some l[i]:=List.getElem?_eq_getElem ..
theorem aK {α:Type _}{l:List α}{n:Nat}(h:n < l.length):l[n] ∈ l:=List.getElem_mem ..
theorem aw (w:World)(o:Obj):(w.alloc o).heap[w.heap.size]? = some o:=heap_alloc_new ..
theorem qY {L:Type}(o:dB L)(D:bN->Prop)(G:L->Prop)(f:Nat)(b c:Array Value)(lk:L->bN->Bool×L)(bx:dQ f)(hl:Looks o D G f b c lk)(l:List bN)(a3:Option Addr)(bZ:Nat)(F:Nat->Prop)(t:L)(w:World)
 (hD:∀e∈l,D e)(bL:∀j,j<l.length->G (pts lk t (l.take j)).2.2)(hm:l.length<=100000)(b1:o.J F t w)(hp:∀B bb w',o.J B bb w'->Fr F w w'->cS w' a3 l):
 Calls prog 117 #[.slice a3 l.length bZ,.func (.func f) b c] w fun r w'=>∃a1 c1 a2 c2 B,r=.returned (.tuple #[.slice a1 (pts lk t l).1.length c1,.slice a2 (pts lk t l).2.1.length c2])/\w'.ownsRow w.heap.size 83 2 (.slice a1 (pts lk t l).1.length c1) (pts lk t l).1.length (ev (pts lk t l).1)/\
  w'.ownsRow w.heap.size 83 2 (.slice a2 (pts lk t l).2.1.length c2) (pts lk t l).2.1.length (ev (pts lk t l).2.1)/\o.J B (pts lk t l).2.2 w'/\Fr F w w'/\(∀k,B k->F k\/w.heap.size<=k)/\(∀k,some k=(Value.slice a1 (pts lk t l).1.length c1).ownBlock->¬B k)/\(∀k,some k=(Value.slice a2 (pts lk t l).2.1.length c2).ownBlock->¬B k):=by
 obtain⟨bM,hi,bO,bP,bQ⟩:=info_parts m9;have b2:Hid (Looks o D G f b c lk):=hl;have b3:Hid (∀j,j<l.length->G (pts lk t (l.take j)).2.2):=bL;clear bL;clear hl;have b5:Hid (∀B bb w',o.J B bb w'->Fr F w w'->cS w' a3 l):=hp;clear hp;have cd:∀(args:Array Value)(w:World),(callFunc f args).run prog w=.ok (.enter f args) w:=bx;clear bx;go_enter func117,ntmps117;go_wp2_with fail
 go_loopw [6,7,12] (fun b6 b7 iv wr=>∃(j:Nat)(Y N:List bN)(p i:Option Addr)(q m:Nat)(s:Nat->Prop)(d:L),j<=l.length/\iv=ae j/\Hid (pts lk t (l.take j)=(Y,N,d))/\b6=.slice p Y.length q/\b7=.slice i N.length m/\
  wr.ownsRow w.heap.size 83 2 (.slice p Y.length q) Y.length (ev Y)/\wr.ownsRow w.heap.size 83 2 (.slice i N.length m) N.length (ev N)/\o.J s d wr/\Fr F w wr/\Hid (∀k,s k->F k\/w.heap.size<=k)/\
  Hid (∀k,some k=(Value.slice p Y.length q).ownBlock->¬s k/\some k≠(Value.slice i N.length m).ownBlock)/\Hid (∀k,some k=(Value.slice i N.length m).ownBlock->¬s k)) (fun _ _ iv _=>l.length-(intOf iv).toNat)
 case atStart=>exact⟨0,[],[],none,none,0,0,F,t,aA _,rfl,rfl,rfl,rfl,aO _ _ _ _,aO _ _ _ _,b1,Fr.refl _ _,fun k h=>ap h,fun k e=>by simp[Value.ownBlock] at e,fun k e=>by simp[Value.ownBlock] at e⟩
 case round=>
  obtain⟨j,Y,N,p,i,q,m,s,d,a,rfl,R,rfl,rfl,ax,hN,S,U,aB,W,aF⟩:=hrel;by_cases X:j<l.length
  ·obtain⟨b0,ce,b8,cf,hc⟩:=b5.out s d wr S U I;obtain⟨bd,be⟩:=hc j X;clear hc;have ad:D (l.getD j (0,0)):=hD _ (by rw[aj,am X];exact aK X)
   have b9:G d:=by have:=b3.out j X;rw[R.out] at this;exact this
   have E:=vY lk t (l.take j) (l.getD j (0,0))
   rw[<-eY l j X (0,0),R.out] at E;have E:Hid (pts lk t (l.take (j+1))=ec lk (Y,N,d) ((l.getD j (0,0)).1,(l.getD j (0,0)).2)):=E;have ad:D ((l.getD j (0,0)).1,(l.getD j (0,0)).2):=ad;generalize (l.getD j (0,0)).1=g at bd E ad;generalize (l.getD j (0,0)).2=z at be E ad;subst b8;have cg:Y.length+N.length<=100000:=by
    have bS:=l6 lk t (l.take j)
    rw[R.out] at bS;simp at bS;omega
   have ch:=U.size;have bT:=o.lt S;go_wp2_with fail;refine(b2.out s d _ (g,z) ad b9 (o.below S (bK.alloc bJ _))).mono ?_;rintro e v ⟨C,rfl,M,O,aR⟩
   have ca:=O.size;simp at ca;have bU:¬s wr.heap.size:=fun h=>by have:=bT _ h;omega
   have bg:v.heap[wr.heap.size]?=some (.cells #[ae g,ae z] 83 (0,0)):=(O.block _ V bU).trans (aw _ _)
   have bV:v.cell? (ah wr.heap.size 0)=some (ae g):=by simp[World.cell?,bg]
   have bW:v.cell? (ah wr.heap.size 1)=some (ae z):=by simp[World.cell?,bg]
   have ci:wr.heap.size<v.heap.size:=I;clear bg;have P:=fQ (fC ax (.cells #[ae g,ae z] 83)) O (fun k e=>(W.out k e).1)
   have Q:=fQ (fC hN (.cells #[ae g,ae z] 83)) O (fun k e=>aF.out k e)
   have aT:Fr F w v:=(U.alloc (.cells #[.int .i64 g,.int .i64 z] 83)).trans O aB.out;have bX:Hid (∀k,C k->F k\/w.heap.size<=k):=fun k hk=>(aR k hk).elim (fun h=>aB.out k h) (fun h=>an (by simp at h;omega))
   have x:Hid (∀k,some k=(Value.slice p Y.length q).ownBlock->¬C k/\some k≠(Value.slice i N.length m).ownBlock):=fun k e=>⟨fun h=>(aR k h).elim (W.out k e).1 (fun h=>by have:=(bR ax k e).2;simp at h;omega),(W.out k e).2⟩
   have aV:Hid (∀k,some k=(Value.slice i N.length m).ownBlock->¬C k):=fun k e h=>(aR k h).elim (aF.out k e) (fun h=>by have:=(bR hN k e).2;simp at h;omega)
   have bY:=o.lt M;clear ax hN U O aB W aF S aR bT bU;have hd:Hid (pts lk t (l.take (j+1))=if(lk d (g,z)).1 then(Y++[(g,z)],N,(lk d (g,z)).2) else(Y,N++[(g,z)],(lk d (g,z)).2)):=E.out;clear E;generalize (lk d (g,z)).2=a0 at M hd;cases hb:(lk d (g,z)).1
   ·rw[hb] at hd;have hd:Hid (pts lk t (l.take (j+1))=(Y,N++[(g,z)],a0)):=hd;clear hb;go_wp2_with (at_builtin;refine wpList_append_own_at _ rfl _ _ 126 rfl w.heap.size 83 bM (.agg #[ae 0,ae 0]) 2 16 Tryz.underlying126 hi bO bP bQ rfl Z (.slice i N.length m) N.length (ev N) rfl (fC Q _) ⟨v.heap.size,0,none⟩ 1 1 [ae g,ae z] rfl rfl ?_ ?_ ?_ ?_ ?_ ?_;(intro j u a;match j,a with|0,a=>(simp at a;subst a;simp[Addr.add])|1,a=>(simp at a;subst a;simp[Addr.add]));(intro u n;simp at n;rcases n with n|n<;>(subst n;rfl));(unfold maxLen;omega);omega;(simp;omega);intro cb bi H A _ ai;obtain⟨b4,al,bl⟩:=dP H (Nat.succ_pos _);subst bl)
    have bn:bi.ownsRow w.heap.size 83 2 (.slice (ag b4) (N++[(g,z)]).length al) (N++[(g,z)]).length (ev (N++[(g,z)])):=by rw[kn];simpa[ev] using H
    have bo:=m_ o M A (fun k e=>aV.out k e)
    have bp:=qX P A (fun k e=>(x.out k e).2)
    have br:=(aT.alloc (.cells #[.int .i64 g,.int .i64 z] 83)).grown A (fun k e=>an (bR Q k e.symm).1)
    have J:some b4=(Value.slice i N.length m).ownBlock\/b4=v.heap.size+1:=ai.imp id (fun e=>by simpa[Value.ownBlock] using e)
    have bs:Hid (∀k,some k=(Value.slice p Y.length q).ownBlock->¬C k/\some k≠some b4):=fun k e=>⟨(x.out k e).1,fun K=>J.elim (fun h=>(x.out k e).2 (K.trans h)) (fun h=>by have:=(bR P k e).2;simp at K;omega)⟩
    have cc:Hid (∀k,some k=some b4->¬C k):=fun k e h=>J.elim (fun ar=>aV.out k (e.trans ar) h) (fun ar=>by have:=bY k h;simp at e;omega)
    clear H A ai J P Q aT x aV M bd be bV bW;go_wp2_with fail;go_roundw
    case rel=>exact⟨j+1,Y,N++[(g,z)],p,ag b4,q,al,C,a0,I,ac,hd,rfl,V,bp,bn,bo,br,bX,bs,cc⟩
    case measure=>simp[intOf];omega
   ·rw[hb] at hd;have hd:Hid (pts lk t (l.take (j+1))=(Y++[(g,z)],N,a0)):=hd;clear hb;go_wp2_with (at_builtin;refine wpList_append_own_at _ rfl _ _ 126 rfl w.heap.size 83 bM (.agg #[ae 0,ae 0]) 2 16 Tryz.underlying126 hi bO bP bQ rfl Z (.slice p Y.length q) Y.length (ev Y) rfl (fC P _) ⟨v.heap.size,0,none⟩ 1 1 [ae g,ae z] rfl rfl ?_ ?_ ?_ ?_ ?_ ?_;(intro j u a;match j,a with|0,a=>(simp at a;subst a;simp[Addr.add])|1,a=>(simp at a;subst a;simp[Addr.add]));(intro u n;simp at n;rcases n with n|n<;>(subst n;rfl));(unfold maxLen;omega);omega;(simp;omega);intro cb bi H A _ ai;obtain⟨b4,al,bl⟩:=dP H (Nat.succ_pos _);subst bl)
    have bp:bi.ownsRow w.heap.size 83 2 (.slice (ag b4) (Y++[(g,z)]).length al) (Y++[(g,z)]).length (ev (Y++[(g,z)])):=by rw[kn];simpa[ev] using H
    have bo:=m_ o M A (fun k e=>(x.out k e).1)
    have bn:=qX Q A (fun k e K=>(x.out k K).2 e)
    have br:=(aT.alloc (.cells #[.int .i64 g,.int .i64 z] 83)).grown A (fun k e=>an (bR P k e.symm).1)
    have J:some b4=(Value.slice p Y.length q).ownBlock\/b4=v.heap.size+1:=ai.imp id (fun e=>by simpa[Value.ownBlock] using e)
    have bs:Hid (∀k,some k=some b4->¬C k/\some k≠(Value.slice i N.length m).ownBlock):=fun k e=>⟨fun h=>J.elim (fun ar=>(x.out k (e.trans ar)).1 h) (fun ar=>by have:=bY k h;simp at e;omega),fun K=>J.elim (fun h=>(x.out k (e.trans h)).2 K) (fun h=>by have:=(bR Q k K).2;simp at e;omega)⟩
    clear H A ai J P Q aT x M bd be bV bW;go_wp2_with fail;go_roundw
    case rel=>exact⟨j+1,Y++[(g,z)],N,ag b4,i,al,m,C,a0,I,ac,hd,V,rfl,bp,bn,bo,br,bX,bs,aV⟩
    case measure=>simp[intOf];omega
  ·obtain rfl:j=l.length:=I;rw[aP] at R;go_wp2_with fail;go_ret2;rw[R.out];exact⟨_,_,_,_,s,rfl,ax,hN,S,U,aB.out,fun k e=>(W.out k e).1,aF.out⟩
theorem cS.apart {d:Type}{o:dB d}{F:Nat->Prop}{w:World}{a:Option Addr}{l:List bN}(h:cS w a l)(f:0<l.length->∀z,a=some z->¬F z.block):∀g i w',o.J g i w'->Fr F w w'->cS w' a l:=fun _ _ _ _ b=>
 h.keep b.size (fun hp z e=>by obtain⟨b0,k,c,j,_⟩:=h hp;rw[e] at c;cases c;exact b.block _ j (f hp _ e))
def qZ (w0:World):dB Unit where
 J F _ w:=(∀k,F k↔k<w0.heap.size)/\w0.heap.size<=w.heap.size/\∀k,k<w0.heap.size->w.heap[k]?=w0.heap[k]?
 lt:=by rintro F t w ⟨a,c,b⟩ k hk;have:=(a k).1 hk;omega
 keep:=by rintro F t w w' ⟨a,c,b⟩ hs hk;exact⟨a,I,fun k h=>(hk k ((a k).2 h)).trans (b k h)⟩
theorem vZ {a:Type}(p:a->bN->Bool)(s:a)(l:List bN):pts (fun s e=>(p s e,s)) s l=(l.filter (p s),l.filter (fun e=>!p s e),s):=by
 have key:∀(l Y N:List bN),l.foldl (ec (fun s e=>(p s e,s))) (Y,N,s)=(Y++l.filter (p s),N++l.filter (fun e=>!p s e),s):=by
  intro l
  induction l with
  |nil=>intro Y N;simp
  |cons e r b=>
   intro Y N;rw[aI];cases h:p s e
   ·simp[ec,h,b]
   ·simp[ec,h,b]
 simpa[pts] using key l [] []
theorem oR (D:bN->Prop)(f:Nat)(b c:Array Value)(p:bN->Bool)(n:dQ f)(w:World)
 (hl:∀(w':World)(e:bN),D e->w.heap.size<=w'.heap.size->(∀k,k<w.heap.size->w'.heap[k]?=w.heap[k]?)->Calls prog f (b.push (en e)++c) w' fun r o=>r=.returned (.bool (p e))/\Below w'.heap.size w' o)
 (l:List bN)(d:Option Addr)(i:Nat)(hD:∀e∈l,D e)(hm:l.length<=100000)(hp:cS w d l):
 Calls prog 117 #[.slice d l.length i,.func (.func f) b c] w fun r w'=>∃a1 c1 a2 c2,r=.returned (.tuple #[.slice a1 (l.filter p).length c1,.slice a2 (l.filter (fun e=>!p e)).length c2])/\w'.ownsRow w.heap.size 83 2 (.slice a1 (l.filter p).length c1) (l.filter p).length (ev (l.filter p))/\
  w'.ownsRow w.heap.size 83 2 (.slice a2 (l.filter (fun e=>!p e)).length c2) (l.filter (fun e=>!p e)).length (ev (l.filter (fun e=>!p e)))/\Below w.heap.size w w':=by
 have P:=qY (qZ w) D (fun _=>True) f b c (fun _ e=>(p e,())) n (by
  rintro F t w1 e hD _ ⟨g,j2,b7⟩
  refine(hl w1 e hD j2 b7).mono ?_;rintro r v ⟨rfl,j⟩
  exact⟨F,rfl,(qZ w).below ⟨g,j2,b7⟩ j,Fr.of j,fun k h=>ap h⟩) l d i (fun k=>k<w.heap.size) () w hD (fun _ _=>trivial) hm ⟨fun k=>Iff.rfl,ak _,fun _ _=>rfl⟩
  (by
    rintro q x w' ⟨g,j2,b7⟩ _;refine hp.keep j2 (fun hq z e=>?_)
    obtain⟨b0,A,m,s,_⟩:=hp hq;rw[e] at m;cases m;exact b7 _ s)
 rw[vZ (fun _ e=>p e) () l] at P;refine P.mono ?_;rintro r w' ⟨a1,c1,a2,c2,q,rfl,u,hN,⟨g,j2,b7⟩,a,_,_,_⟩
 exact⟨a1,c1,a2,c2,rfl,u,hN,a.os,a.tape,a.output,a.size,b7⟩
theorem v4 (w:World)(a:Option Addr)(n b:Nat)(c:n<=b):
 Calls prog 146 #[.slice a n b] w fun e w'=>e=.returned (.slice a n n)/\w'=w:=by
 go_enter func146,ntmps146;go_wp2_with fail;go_ret;exact⟨rfl,rfl⟩
structure gq (w:World)(ad:Option Addr)(l:List bN)(cap:Nat):Prop where
 lp:cS w ad l
 le:l.length<=cap
 nil:ad=none->l.length=0/\cap=0
theorem cS.cells {w:World}{f:Option Addr}{q:List bN}(h:cS w f q):∀b,f=some b->∀j u,(ev q)[j]?=some u->w.cell? (b.add j)=some u:=by
 intro b e j u a;have hl:=kq q;have l:j<(ev q).length:=(List.getElem?_eq_some_iff.1 a).1;obtain⟨g,o,i,m,hc⟩:=h I;rw[e] at i;cases i;obtain⟨c1,c2⟩:=hc (j/2) I;obtain⟨k1,c⟩:=l5 q (j/2) I;rcases Nat.mod_two_eq_zero_or_one j with hz|hz
 ·have d:j/2*2=j:=I;rw[d] at k1 c1;rw[a] at k1;cases k1;rw[Addr.add_lit];exact c1
 ·have d:j/2*2+1=j:=I;have k:o+j/2*2+1=o+j:=I;rw[d] at c;rw[k] at c2;rw[a] at c;cases c;rw[Addr.add_lit];exact c2
theorem cS.below {w w':World}{a:Option Addr}{l:List (Int×Int)}(h:cS w a l)(c:Below w.heap.size w w'):cS w' a l:=
 h.keep c.size (fun hp z e=>by obtain⟨b,o,d,f,_⟩:=h hp;rw[e] at d;cases d;exact c.block _ f)
theorem q4 (w:World)(c:Option Addr)(q:List bN)(i:Nat)(g z:Int)(h:gq w c q i)(hm:q.length<=100000):
 Calls prog 79 #[.slice c q.length i,.agg #[ae g,ae z]] w fun e w'=>∃b1 fD,e=.returned (.slice (ag b1) (q.length+1) fD)/\w'.ownsRow w.heap.size 83 2 (.slice (ag b1) (q.length+1) fD) (q.length+1) (ev (q++[(g,z)]))/\Below w.heap.size w w':=by
 obtain⟨m,hi,n,o,p⟩:=info_parts m9;have s:Hid (cS w c q):=h.lp;have t:Hid (c=none->q.length=0/\q.length=0):=fun e=>⟨(h.nil e).1,(h.nil e).1⟩
 have x:=h.le;clear h;go_enter func79,ntmps79;go_wp2_with fail
 go_region_held3 (fun w'=>w'.cell? (ah w.heap.size 0)=some (ae g)/\w'.cell? (ah w.heap.size 1)=some (ae z)) (go_keep)
  (first|(go_at_call 146;refine(v4 _ c q.length i x).mono ?_;rintro e w3 ⟨rfl,rfl⟩)|(refine step_append_grows rfl (.tmp 6) (.tmp 8) 126 rfl 83 m (.agg #[ae 0,ae 0]) 2 16 Tryz.underlying126 hi n o p rfl Z c q.length q.length (ev q) (by simp[Act.eval]) t.out (kq q) (s.out.below (by first|exact(((Below.refl _ w).alloc bJ _).alloc V _).drew|exact((Below.refl _ w).alloc bJ _).drew.alloc V _)).cells ⟨w.heap.size+1,0,none⟩ 1 1 [ae g,ae z] (by simp[Act.eval]) rfl ?_ ?_ I (by unfold maxLen;omega) I ?_;(intro j u b;match j,b with|0,b=>(simp at b;subst b;simp[Addr.add])|1,b=>(simp at b;subst b;simp[Addr.add]));(intro u d;simp at d;rcases d with d|d<;>(subst d;rfl));intro C D l f;obtain⟨b4,A,B⟩:=dP l (Nat.succ_pos _);subst B;have y1:=f.cell (a:=⟨w.heap.size,0,none⟩) (v:=ae g) V V;have E:=f.cell (a:=⟨w.heap.size,1,none⟩) (v:=ae z) V V))
 all_goals
  go_wp2_with fail;go_ret;exact⟨b4,A,rfl,by rw[kn];exact d5 l (fun k e=>by have:=(bR l k e).1;simp at this;omega),by first|exact((((Below.refl _ w).alloc bJ _).alloc V _).drew).grown f (by simp;omega) (fun k e=>by cases e)|exact(((Below.refl _ w).alloc bJ _).drew.alloc V _).grown f (by simp;omega) (fun k e=>by cases e)⟩
theorem jM (l:List bN):∀u∈ev l,u.oneCell'=true:=by intro u a;simp only [ev,List.mem_flatMap] at a;obtain⟨e,_,a⟩:=a;simp at a;rcases a with rfl|rfl<;>rfl
theorem v5 (w:World):(w.alloc (.cells #[] 83)).ownsRow w.heap.size 83 2 (.slice (ag w.heap.size) 0 0) 0 []:=
 ⟨rfl,an ⟨w.heap.size,0,#[],rfl,ak _,aw _ _,ak _,aA _,rfl,rfl⟩⟩
theorem oS (w:World)(b:Option Addr)(l:List bN)(d:Nat)(h:gq w b l d)(hm:l.length<=100000):
 Calls prog 166 #[.slice b l.length d] w fun e w'=>∃a1 c1,e=.returned (.slice a1 l.length c1)/\w'.ownsRow w.heap.size 83 2 (.slice a1 l.length c1) l.length (ev l)/\Below w.heap.size w w':=by
 obtain⟨i,hi,j,m,o⟩:=info_parts m9;have q:∀(w:World)(a:Option Addr)(n c:Nat),(binOp .eql 126 (.slice a n c) (.slice none 0 0)).run prog w=.ok (.bool a.isNone) w:=fun w a n c=>Lib.run_eql_slice_nil w _ _ a n c 0 0 Tryz.underlying126;have g:Hid (cS w b l):=h.lp;cases b with
 |none=>
  have hl:l=[]:=List.eq_nil_of_length_eq_zero (h.nil rfl).1;subst hl;clear h g;go_enter func166,ntmps166;go_wp2_with fail;go_ret;exact⟨none,0,rfl,aO _ _ _ _,Below.refl _ _⟩
 |some a=>
  clear h;go_enter func166,ntmps166;go_wp2_with (at_builtin;refine wpList_append_own _ rfl _ _ 126 rfl w.heap.size 83 i (.agg #[ae 0,ae 0]) 2 16 Tryz.underlying126 hi j m o rfl Z _ 0 [] rfl (v5 w) a l.length d (ev l) rfl (kq l) ((g.out.below (bK.alloc bJ _)).cells a rfl) (jM l) ?_ ?_ ?_ ?_;(unfold maxLen;omega);omega;(simp);intro v w1 f p _)
  rw[List.nil_append,Nat.zero_add] at f;obtain⟨a1,c1,rfl⟩:=dG f;go_wp2_with fail;go_ret;exact⟨a1,c1,rfl,f,(bK.alloc bJ _).grown p V (fun k e=>by cases e;exact ak _)⟩
abbrev da:=Int×Option Addr×Nat×List (Int×Int)
def nv (m:List da):List Value:=m.flatMap fun x=>[ae x.1,.slice x.2.1 x.2.2.2.length x.2.2.1]
def gt (m:List da):List (Int×List (Int×Int)):=m.map fun x=>(x.1,x.2.2.2)
theorem q5 (a b:List da):nv (a++b)=nv a++nv b:=by simp[nv]
theorem l7:∀(l:List da)(i:Nat)(x:da),l[i]?=some x->(nv l)[i*2]?=some (ae x.1)/\(nv l)[i*2+1]?=some (.slice x.2.1 x.2.2.2.length x.2.2.1)
 |[],i,x,h=>by simp at h
 |e::r,0,x,h=>by simp at h;subst h;simp[nv]
 |e::r,i+1,x,h=>by
  have a:=l7 r i x (by simpa using h)
  have b:(nv (e::r))=ae e.1::.slice e.2.1 e.2.2.2.length e.2.2.1::nv r:=by simp[nv]
  rw[b,show(i+1)*2=i*2+1+1 by omega];simpa using a
theorem oT:∀(l:List da)(i:Nat)(x:da)(a:Option Addr)(c:Nat)(vs:List (Int×Int)),l[i]?=some x->nv (l.set i (x.1,a,c,vs))=(nv l).set (i*2+1) (.slice a vs.length c)
 |[],_,_,_,_,_,_=>rfl
 |e::l,0,x,a,c,vs,h=>by simp at h;subst h;simp[nv]
 |e::l,i+1,x,a,c,vs,h=>by
  have b:=oT l i x a c vs (by simpa using h)
  have d:(nv (e::l))=ae e.1::.slice e.2.1 e.2.2.2.length e.2.2.1::nv l:=by simp[nv]
  have f:(nv (e::l.set i (x.1,a,c,vs)))=ae e.1::.slice e.2.1 e.2.2.2.length e.2.2.1::nv (l.set i (x.1,a,c,vs)):=by simp[nv]
  rw[List.set_cons_succ,f,d,b,show(i+1)*2+1=i*2+1+1+1 by omega];simp
theorem h7 {w:World}{base size n g b:Nat}{e:TypeId}{xs:List Value}(h:w.ownsRow base e size (.slice (ag g) n b) n xs)(i:Nat)(u:Value):(w.setCell ⟨g,i,none⟩ u).ownsRow base e size (.slice (ag g) n b) n (xs.set i u):=by
 refine⟨by rw[aM];exact h.1,?_⟩
 rcases h.2 with⟨a,_⟩|⟨m,o,c,a,d,hg,f,j,k,l⟩
 ·simp at a
 ·simp at a;obtain⟨rfl,rfl⟩:=a;refine an ⟨g,b,c.setIfInBounds i u,rfl,d,?_,f,j,by rw[Array.size_setIfInBounds];exact k,?_⟩
  ·simp only [World.setCell,Array.getElem?_modify,if_true,hg,Option.map_some];rfl
  ·rw[Array.toList_setIfInBounds,List.take_set,l]
def fE (w:World)(a:Option Addr)(l:List (Int×Int)):Prop:=cS w a l/\(0<l.length->∃b o c,a=some ⟨b,o,none⟩/\w.heap[b]?=some (.cells c 77 (0,0)))
section
variable {B:Nat}{w w' w'':World}
theorem fE.nil {a:Option Addr}:fE w a []:=⟨fun h=>by simp at h,fun h=>by simp at h⟩
theorem fE.of {base c:Nat}{a:Option Addr}{l:List (Int×Int)}(h:w.ownsRow base 77 2 (.slice a l.length c) l.length (ev l)):fE w a l:=by
 refine⟨fR h,fun hp=>?_⟩
 obtain⟨b0,c0,b⟩:=dP h hp;obtain⟨d,hc⟩:=dO h b0 (by rw[b];rfl)
 cases b;exact⟨b0,0,d,rfl,hc⟩
end
def eN (m:List da)(k:Nat):Prop:=∃x∈m,0<x.2.2.2.length/\∃o,x.2.1=some ⟨k,o,none⟩
theorem eO {w:World}{base size n g b:Nat}{e:TypeId}{xs:List Value}(h:w.ownsRow base e size (.slice (ag g) n b) n xs){i:Nat}{u:Value}(hi:xs[i]?=some u):w.cell? (ah g i)=some u/\w.frozen? (ah g i)=false:=by
 rcases h.2 with⟨a,_⟩|⟨j,k,l,a,m,hg,o,p,q,d⟩
 ·simp at a
 ·simp at a;obtain⟨rfl,rfl⟩:=a;rw[<-d] at hi;have f:i<n*size:=by
   rcases Nat.lt_or_ge i (n*size) with c|c
   ·exact c
   ·rw[List.getElem?_take,ao I] at hi;simp at hi
  rw[List.getElem?_take_of_lt f] at hi;constructor
  ·simp[World.cell?,hg];simpa using hi
  ·simp[World.frozen?,hg]
def Ln (w:World)(a:Option Addr)(c:List (Int×List (Int×Int))):Prop:=
 ∃m:List da,gt m=c/\(∀x∈m,cS w x.2.1 x.2.2.2)/\(0<m.length->∃b o,a=some ⟨b,o,none⟩/\b<w.heap.size/\∀i x,m[i]?=some x->w.cell? (ah b (o+i*2))=some (ae x.1)/\w.cell? (ah b (o+i*2+1))=some (.slice x.2.1 x.2.2.2.length x.2.2.1))
theorem Ln.below {w w':World}{d:Option Addr}{f:List (Int×List (Int×Int))}(h:Ln w d f)(a:Below w.heap.size w w'):Ln w' d f:=by
 obtain⟨m,g,j,k⟩:=h;refine⟨m,g,fun x c=>(j x c).below a,fun hp=>?_⟩
 obtain⟨b,o,e,hl,hc⟩:=k hp;exact⟨b,o,e,av hl a.size,fun i x c=>⟨(a.cell (p:=ah b (o+i*2)) hl).trans (hc i x c).1,(a.cell (p:=ah b (o+i*2+1)) hl).trans (hc i x c).2⟩⟩
def v6 (w:World)(base:Nat)(a:Option Addr)(l:List (Int×Int)):Prop:=cS w a l/\(0<l.length->∃b o,a=some ⟨b,o,none⟩/\base<=b)
def oU (w:World)(base:Nat)(a:Option Addr)(c:List (Int×List (Int×Int))):Prop:=
 ∃m:List da,gt m=c/\(∀x∈m,cS w x.2.1 x.2.2.2)/\(∀k,eN m k->base<=k)/\(0<m.length->∃b o,a=some ⟨b,o,none⟩/\base<=b/\b<w.heap.size/\∀i x,m[i]?=some x->w.cell? (ah b (o+i*2))=some (ae x.1)/\w.cell? (ah b (o+i*2+1))=some (.slice x.2.1 x.2.2.2.length x.2.2.1))
theorem oU.ln {w:World}{base:Nat}{a:Option Addr}{d:List (Int×List (Int×Int))}(h:oU w base a d):Ln w a d:=by obtain⟨m,f,g,_,i⟩:=h;exact⟨m,f,g,fun hp=>by obtain⟨b,o,e,_,l,c⟩:=i hp;exact⟨b,o,e,l,c⟩⟩
open Go.RowKit W
def hB (b u a:Int):Bool:=decide (b<=a/\a<b+u)
theorem hR {b u a:Int}(h:hB b u a=true):b<=a/\a<b+u:=by simpa[hB] using h
def cO (N y g:Nat)(a:Int):Bool:=hB 0 y a||hB N g a
def ld (N y g:Nat)(ws:List Int)(a:Int):Int:=if cO N y g a=true then ws.getD a.toNat 0 else 0
theorem gV {N O y g:Nat}{a:Int}(h:cO N y g a=true)(hy:y<=N)(hg:g<=O):0<=a/\a<(N:Int)+O:=by
 unfold cO at h;rcases Bool.or_eq_true _ _▸h with h|h
 ·have:=hR h;omega
 ·have:=hR h;omega
theorem jN (b s u:Int)(w:World)(a:0<=b)(c:b<=100000)(d:0<=u)(f:u<=100000):
 Calls prog 137 #[.agg #[ae b,ae s,ae u]] w fun e w'=>e=.returned (ae (b+u))/\Below w.heap.size w w':=by
 go_enter func137,ntmps137;go_wp2;go_ret;exact⟨rfl,bK.alloc bJ _⟩
theorem l8 (b s u:Int)(w:World)(a:0<=s)(c:s<=100000)(d:0<=u)(f:u<=100000):
 Calls prog 136 #[.agg #[ae b,ae s,ae u]] w fun e w'=>e=.returned (ae (s-u))/\Below w.heap.size w w':=by
 go_enter func136,ntmps136;go_wp2;go_ret;exact⟨rfl,bK.alloc bJ _⟩
theorem q6 (b s u a:Int)(w:World)(c:0<=b)(d:b<=100000)(f:0<=u)(g:u<=100000):
 Calls prog 141 #[.agg #[ae b,ae s,ae u],ae a] w fun e w'=>e=.returned (.bool (hB b u a))/\Below w.heap.size w w':=by
 by_cases h:b<=a
 ·have e:hB b u a=decide (a<b+u):=by simp[hB,h]
  rw[e];clear e;go_enter func141,ntmps141;go_wp2_with fail;refine(jN b s u _ c d f g).mono ?_;rintro e w1 ⟨rfl,i⟩
  go_wp2_with fail;go_ret;exact⟨rfl,(bK.alloc bJ _).trans (i.mono V)⟩
 ·have e:hB b u a=false:=by simp[hB,h]
  rw[e];clear e;go_enter func141,ntmps141;go_wp2_with fail;go_ret;exact⟨rfl,bK.alloc bJ _⟩
theorem ks {p q N O y g:Nat}{ws:List Int}(a:Int)(w:World)(h:At w p q N O y g ws):
 Calls prog 70 #[af p,ae a] w fun e w'=>e=.returned (.bool (hB 0 y a))/\Below w.heap.size w w':=by
 obtain⟨c0,c1,c2,c,d,f,i⟩:=h.cells;have k1:=h.hN';have j:=h.hy;go_enter func70,ntmps70;go_wp2_with fail;refine(q6 0 N y a _ I I I I).mono ?_;rintro e w1 ⟨rfl,b⟩
 go_wp2_with fail;go_ret;exact⟨rfl,b⟩
theorem jO {p q N O y g:Nat}{ws:List Int}(a:Int)(w:World)(h:At w p q N O y g ws):
 Calls prog 71 #[af p,ae a] w fun e w'=>e=.returned (.bool (hB N g a))/\Below w.heap.size w w':=by
 obtain⟨c0,c1,c2,c,d,f,i⟩:=h.cells;have k1:=h.hN';have j:=h.hO;have k:=h.hg;go_enter func71,ntmps71;go_wp2_with fail;refine(q6 N O g a _ I I I I).mono ?_;rintro e w1 ⟨rfl,b⟩
 go_wp2_with fail;go_ret;exact⟨rfl,b⟩
theorem na {p q N O y g:Nat}{ws:List Int}(a:Int)(w:World)(h:At w p q N O y g ws):
 Calls prog 139 #[af p,ae a] w fun e w'=>e=.returned (.bool (cO N y g a))/\Below w.heap.size w w':=by
 cases hy:hB 0 y a
 ·have e:cO N y g a=hB N g a:=by simp[cO,hy]
  rw[e];clear e;have c:Hid (hB 0 y a=false):=hy;clear hy;go_enter func139,ntmps139;go_wp2_with fail;refine(ks a _ h).mono ?_;rintro e w1 ⟨rfl,b⟩
  rw[c.out];go_wp2_with fail;refine(jO a _ (h.below b bJ)).mono ?_;rintro e f ⟨rfl,d⟩
  go_wp2_with fail;go_ret;exact⟨rfl,b.trans (d.mono b.size)⟩
 ·have e:cO N y g a=true:=by simp[cO,hy]
  rw[e];clear e;have c:Hid (hB 0 y a=true):=hy;clear hy;go_enter func139,ntmps139;go_wp2_with fail;refine(ks a _ h).mono ?_;rintro e w1 ⟨rfl,b⟩
  rw[c.out];go_wp2_with fail;go_ret;exact⟨rfl,b⟩
theorem h8 {p q N O y g:Nat}{ws:List Int}(a:Int)(w:World)(h:At w p q N O y g ws):
 Calls prog 73 #[af p,ae a] w fun e w'=>e=.returned (ae (ld N y g ws a))/\Below w.heap.size w w':=by
 cases hi:cO N y g a
 ·have e:ld N y g ws a=0:=by simp[ld,hi]
  rw[e];clear e;have c:Hid (cO N y g a=false):=hi;clear hi;go_enter func73,ntmps73;go_wp2_with fail;refine(na a _ h).mono ?_;rintro e w1 ⟨rfl,b⟩
  rw[c.out];go_wp2_with fail;go_ret;exact⟨rfl,b⟩
 ·have e:ld N y g ws a=ws.getD a.toNat 0:=by simp[ld,hi]
  rw[e];clear e;obtain⟨f,i⟩:=gV hi h.hy h.hg;have c:Hid (cO N y g a=true):=hi;clear hi;go_enter func73,ntmps73;go_wp2_with fail;refine(na a _ h).mono ?_;rintro e w1 ⟨rfl,b⟩
  rw[c.out];have d:=h.below b bJ
  obtain⟨c0,c1,c2,j,k,l,m⟩:=d.cells;have n:=d.word a.toNat I;have o:a<((N+O:Nat):Int):=I;go_wp2_with fail;go_ret;exact⟨rfl,b⟩
theorem jP {p q N O y g:Nat}{ws:List Int}(a x:Int)(w:World)(h:At w p q N O y g ws):
 Calls prog 68 #[af p,ae a,ae x] w fun e w'=>e=.returned (.bool (cO N y g a))/\At w' p q N O y g (if cO N y g a=true then ws.set a.toNat x else ws)/\cY p q w w':=by
 cases hi:cO N y g a
 ·rw[ao V];have d:Hid (cO N y g a=false):=hi;clear hi;go_enter func68,ntmps68;go_wp2_with fail;refine(na a _ h).mono ?_;rintro e w1 ⟨rfl,b⟩
  rw[d.out];go_wp2_with fail;go_ret;exact⟨rfl,h.below b bJ,cY.of b⟩
 ·rw[aq rfl];obtain⟨f,i⟩:=gV hi h.hy h.hg;have d:Hid (cO N y g a=true):=hi;clear hi;go_enter func68,ntmps68;go_wp2_with fail;refine(na a _ h).mono ?_;rintro e w1 ⟨rfl,b⟩
  rw[d.out];have c:=h.below b bJ
  obtain⟨c0,c1,c2,j,k,l,m⟩:=c.cells;have n:=c.word a.toNat I;have o:=c.oQ a.toNat;have s:a<((N+O:Nat):Int):=I;go_wp2_with fail;go_ret;exact⟨rfl,c.set a.toNat x,(cY.of b).trans (cY.oP _ _)⟩
theorem e9 {p q N O y g:Nat}{ws:List Int}(a:Int)(w:World)(h:At w p q N O y g ws):
 Calls prog 77 #[af p,ae a] w fun e w'=>e=.returned (.tuple #[ae (pk (ld N y g ws a)),ae (pf (ld N y g ws a)),ae (pc (ld N y g ws a))])/\Below w.heap.size w w':=by
 go_enter func77,ntmps77;go_wp2_with fail;refine(h8 a _ h).mono ?_;rintro e w1 ⟨rfl,b⟩
 go_wp2_with fail;refine(vW _ _).mono ?_;rintro e c ⟨rfl,rfl⟩
 go_wp2_with fail
 go_ret3
 exact⟨rfl,b⟩
theorem iZ {p q N O y g:Nat}{ws:List Int}(w:World)(h:At w p q N O y g ws):
 Calls prog 15 #[af p] w fun e w'=>e=.returned (.tuple #[ae y,ae g])/\Below w.heap.size w w':=by
 obtain⟨c0,c1,c2,a,b,c,d⟩:=h.cells;go_enter func15,ntmps15;go_wp2_with fail
 go_quiet (fail)
 go_wp2_with fail;go_ret2;exact⟨rfl,below_drewN bK _⟩
theorem jQ {p q N O y g:Nat}{ws:List Int}(w:World)(h:At w p q N O y g ws):
 Calls prog 61 #[af p] w fun e w'=>e=.returned (.tuple #[ae 0,ae N])/\Below w.heap.size w w':=by
 obtain⟨c0,c1,c2,a,b,c,d⟩:=h.cells;go_enter func61,ntmps61;go_wp2_with fail
 go_quiet (fail)
 go_wp2_with fail;go_ret2;exact⟨rfl,below_drewN bK _⟩
end Go.Proofs.YtjpjpjemibgjpaaGreat
