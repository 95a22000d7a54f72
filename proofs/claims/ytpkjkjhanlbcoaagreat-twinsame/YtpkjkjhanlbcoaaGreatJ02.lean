import Derived.Test.YtpkjkjhanlbcoaaGreatJ01
import Derived.Deep.RegionHeld3
import Derived.ArgAppend
import Derived.Deep.RegionLawGrows
import Derived.Deep.RegionWith
namespace Go.Proofs.YtpkjkjhanlbcoaaGreat
theorem af{P:Prop}(h:P:=by go_num):P:=h
set_option maxRecDepth 100000
set_option maxHeartbeats 1000000
open Tryz
open Go.RowKit W Kp cf
theorem vQ {P:Prop}(h:P:=by
 refine⟨by rw[a4];exact h.1,?_⟩
 rcases h.2 with⟨hv,_⟩|⟨g',cap',cur,hv,hb,hg,h1,h2,h3,h4⟩
 ·simp at hv
 ·obtain⟨rfl,rfl⟩:=hv;refine aJ ⟨g,cap,cur.setIfInBounds i u,rfl,hb,?_,h1,h2,by rw[Array.size_setIfInBounds];exact h3,?_⟩
  ·simp only [World.setCell,Array.getElem?_modify,if_true,hg,Option.map_some];rfl
  ·rw[Array.toList_setIfInBounds,List.take_set,h4]):P:=h
theorem vR {P:Prop}(h:P:=by
 obtain⟨h1,h2⟩:=h;rcases h2 with⟨e,_⟩|⟨k',cap,cur,hv,hb,hh,h3,h4,h5,h6⟩
 ·cases e
 ·cases hv;rw[hh];have:cur.toList=(List.replicate n (0:Int)).map (Value.int .i64):=by rw[<-List.take_of_length_le (l:=cur.toList) (i:=n*1) (by simp;omega),h6];show(madeCells #[Value.int .i64 0] (n*1)).toList=_;rw[toList_madeCells_one];simp
  rw[<-this]):P:=h
theorem r8 {P:Prop}(h:P:=by go_wp2_with fail;exact a3 (v:=.tuple #[.pointer none,.agg #[ah 1,ah (-1)]]) (by simp[results,results85,go_sem]) rfl ⟨rfl,bX.alloc bW _⟩):P:=h
theorem oK {P:Prop}(h:P:=by
 rintro e w1 ⟨rfl,hb1⟩
 go_wp2_with fail;go_ret2;exact⟨rfl,hb1⟩):P:=h
theorem r9 {P:Prop}(h:P:=by
 go_wp2
 go_quiet (fail)
 go_wp2;go_ret2;exact⟨rfl,below_drewN bX _⟩):P:=h
theorem vS {P:Prop}(h:P:=by
 obtain⟨b0,c0,e0⟩:=eU h hp;obtain⟨cs,hc⟩:=e5 h b0 (by rw[e0];rfl)
 cases e0;exact⟨b0,0,cs,rfl,hc⟩):P:=h
theorem nO:(prog.info? 103).map (fun i=>(i.zero,i.size,i.bytes))=some (some (.agg #[ah 0,ah 0]),2,16):=ae
abbrev en (e:b7):Value:=.agg #[ah e.1,ah e.2]
structure dr (gZ:Type) where
 J:(Nat->Prop)->gZ->ax->Prop
 lt:∀{F t w},J F t w->∀k,F k->k<w.heap.size
 keep:∀{F t w w'},J F t w->w.heap.size<=w'.heap.size->(∀k,F k->w'.heap[k]?=w.heap[k]?)->J F t w'
theorem dr.fr {b:Type}(o:dr b){F X:Nat->Prop}{t:b}{w w':ax}(h:o.J F t w)(f:Fr X w w')(c:∀k,F k->¬X k):o.J F t w':=o.keep h f.size (fun k hk=>f.block k (o.lt h k hk) (c k hk))
theorem dr.below {b:Type}(o:dr b){F:Nat->Prop}{t:b}{w w':ax}(h:o.J F t w)(f:aw w w'):o.J F t w':=o.keep h f.size (fun k hk=>f.block k (o.lt h k hk))
def dN (f:Nat):Prop:=∀(args:Array Value)(w:ax),(callFunc f args).run prog w=.ok (.enter f args) w
theorem f_ {f:Nat}{b:Func}{c:Code}(d:Tryz.prog.funcs[f]?=some b)(e:(b.name== "runtime.NumGoroutine")=false)(hb:b.body=some c):dN f:=by
 intro args w;have g:b.name≠ "runtime.NumGoroutine" :=by simpa using e
 simp[callFunc,d,g,hb]
theorem pX {b:Type}(o:dr b){F:Nat->Prop}{t:b}{w c:ax}{f:Obj}{d:Option Nat}(h:o.J F t w)(hg:(w.alloc f).grownBy c d)(g:∀k,some k=d->¬F k):o.J F t c:=
 o.keep h (by have:=hg.size;simp at this;omega) (fun k hk=>(hg.block k (by have:=o.lt h k hk;simp;omega) (fun e=>g k e hk)).trans (aS _ _ _ (o.lt h k hk)))
theorem vU {w b:ax}{base n m:Nat}{e:TypeId}{v:Value}{l:List Value}{d:Obj}{c:Option Nat}(h:w.ownsRow base e m v n l)(hg:(w.alloc d).grownBy b c)(f:∀k,some k=v.ownBlock->some k≠c):b.ownsRow base e m v n l:=
 cH h (fun k hk=>(hg.block k (by have:=(cn h k hk).2;simp;omega) (f k hk)).trans (aS _ _ _ (cn h k hk).2))
theorem ga {w:ax}{base n m:Nat}{e:TypeId}{v:Value}{l:List Value}(h:w.ownsRow base e m v n l)(b:Obj):(w.alloc b).ownsRow base e m v n l:=
 cH h (fun k hk=>aS _ _ _ (cn h k hk).2)
def Looks {d:Type}(o:dr d)(D:b7->Prop)(G:d->Prop)(f:Nat)(b c:Array Value)(lk:d->b7->Bool×d):Prop:=
 ∀F t w (e:b7),D e->G t->o.J F t w->Calls prog f (b.push (en e)++c) w fun r w'=>∃g,r=.returned (.bool (lk t e).1)/\o.J g (lk t e).2 w'/\Fr F w w'/\∀k,g k->F k\/w.heap.size<=k
def eh {b:Type}(lk:b->b7->Bool×b)(s:List b7×List b7×b)(e:b7):List b7×List b7×b:=
 if(lk s.2.2 e).1 then(s.1++[e],s.2.1,(lk s.2.2 e).2) else(s.1,s.2.1++[e],(lk s.2.2 e).2)
def pts {b:Type}(lk:b->b7->Bool×b)(t:b)(l:List b7):List b7×List b7×b:=l.foldl (eh lk) ([],[],t)
theorem B5 {b:Type}(lk:b->b7->Bool×b)(t:b)(l:List b7)(e:b7):pts lk t (l++[e])=eh lk (pts lk t l) e:=by simp[pts,List.foldl_append]
theorem oL {b:Type}(lk:b->b7->Bool×b)(t:b)(l:List b7):(pts lk t l).1.length+(pts lk t l).2.1.length=l.length:=by
 have key:∀(l:List b7)(s:List b7×List b7×b),(l.foldl (eh lk) s).1.length+(l.foldl (eh lk) s).2.1.length=s.1.length+s.2.1.length+l.length:=by
  intro l
  induction l with
  |nil=>simp
  |cons e r c=>
   intro s;rw[a8,c];unfold eh;split<;>simp<;>omega
 simpa[pts] using key l ([],[],t)
theorem aZ (n:Nat):0 <= n:=Nat.zero_le ..
theorem bc (w:ax)(base:Nat)(e:Go.TypeId)(size:Nat):w.ownsRow base e size (Value.slice Option.none 0 0) 0 []:=World.ownsRow_nil ..
theorem aE {α:Type _}{l:List α}{i:Nat}{a:α}:l.getD i a = l[i]?.getD a:=List.getD_eq_getElem?_getD ..
theorem aL {α:Type _}{l:List α}{i:Nat}(h:i < l.length):l[i]? = some l[i]:=List.getElem?_eq_getElem ..
theorem a6 {α:Type _}{l:List α}{n:Nat}(h:n < l.length):l[n] ∈ l:=List.getElem_mem ..
theorem aN (w:ax)(o:Obj):(w.alloc o).heap[w.heap.size]? = some o:=heap_alloc_new ..
theorem vV {E:Type}(o:dr E)(D:b7->Prop)(G:E->Prop)(f:Nat)(b c:Array Value)(lk:E->b7->Bool×E)(bb:dN f)(hl:Looks o D G f b c lk)(l:List b7)(ad:Option Addr)(cap:Nat)(F:Nat->Prop)(t:E)(w:ax)
 (bZ:∀e∈l,D e)(bd:∀j,j<l.length->G (pts lk t (l.take j)).2.2)(hm:l.length<=100000)(b0:o.J F t w)(hp:∀q ao w',o.J q ao w'->Fr F w w'->dv w' ad l):
 Calls prog 150 #[.slice ad l.length cap,.func (.func f) b c] w fun r w'=>∃a1 c1 a2 c2 q,r=.returned (.tuple #[.slice a1 (pts lk t l).1.length c1,.slice a2 (pts lk t l).2.1.length c2])/\w'.ownsRow w.heap.size 103 2 (.slice a1 (pts lk t l).1.length c1) (pts lk t l).1.length (ev (pts lk t l).1)/\
  w'.ownsRow w.heap.size 103 2 (.slice a2 (pts lk t l).2.1.length c2) (pts lk t l).2.1.length (ev (pts lk t l).2.1)/\o.J q (pts lk t l).2.2 w'/\Fr F w w'/\(∀k,q k->F k\/w.heap.size<=k)/\(∀k,some k=(Value.slice a1 (pts lk t l).1.length c1).ownBlock->¬q k)/\(∀k,some k=(Value.slice a2 (pts lk t l).2.1.length c2).ownBlock->¬q k):=by
 obtain⟨be,hi,bg,bi,bl⟩:=info_parts nO;have b1:ay (Looks o D G f b c lk):=hl;have b2:ay (∀j,j<l.length->G (pts lk t (l.take j)).2.2):=bd;clear bd;clear hl;have b3:ay (∀q ao w',o.J q ao w'->Fr F w w'->dv w' ad l):=hp;clear hp;have ci:∀(args:Array Value)(w:ax),(callFunc f args).run prog w=.ok (.enter f args) w:=bb;clear bb;go_enter func150,ntmps150;go_wp2_with fail
 go_loopw [6,7,12] (fun b5 b6 iv wr=>∃(j:Nat)(Y N:List b7)(s an:Option Addr)(u n:Nat)(p:Nat->Prop)(i:E),j<=l.length/\iv=ah j/\ay (pts lk t (l.take j)=(Y,N,i))/\b5=.slice s Y.length u/\b6=.slice an N.length n/\
  wr.ownsRow w.heap.size 103 2 (.slice s Y.length u) Y.length (ev Y)/\wr.ownsRow w.heap.size 103 2 (.slice an N.length n) N.length (ev N)/\o.J p i wr/\Fr F w wr/\ay (∀k,p k->F k\/w.heap.size<=k)/\
  ay (∀k,some k=(Value.slice s Y.length u).ownBlock->¬p k/\some k≠(Value.slice an N.length n).ownBlock)/\ay (∀k,some k=(Value.slice an N.length n).ownBlock->¬p k)) (fun _ _ iv _=>l.length-(intOf iv).toNat)
 case atStart=>exact⟨0,[],[],none,none,0,0,F,t,aZ _,rfl,rfl,rfl,rfl,bc _ _ _ _,bc _ _ _ _,b0,Fr.refl _ _,fun k h=>aK h,fun k e=>by simp[Value.ownBlock] at e,fun k e=>by simp[Value.ownBlock] at e⟩
 case round=>
  obtain⟨j,Y,N,s,an,u,n,p,i,d,rfl,I,rfl,rfl,W,hN,J,K,X,L,ab⟩:=hrel;by_cases M:j<l.length
  ·obtain⟨cj,ck,b8,cl,hc⟩:=b3.out p i wr J K V;obtain⟨b9,ca⟩:=hc j M;clear hc;have O:D (l.getD j (0,0)):=bZ _ (by rw[aE,aL M];exact a6 M)
   have cb:G i:=by have:=b2.out j M;rw[I.out] at this;exact this
   have x:=B5 lk t (l.take j) (l.getD j (0,0))
   rw[<-gx l j M (0,0),I.out] at x;have x:ay (pts lk t (l.take (j+1))=eh lk (Y,N,i) ((l.getD j (0,0)).1,(l.getD j (0,0)).2)):=x;have O:D ((l.getD j (0,0)).1,(l.getD j (0,0)).2):=O;generalize (l.getD j (0,0)).1=g at b9 x O;generalize (l.getD j (0,0)).2=z at ca x O;subst b8;have cm:Y.length+N.length<=100000:=by
    have bn:=oL lk t (l.take j)
    rw[I.out] at bn;simp at bn;omega
   have co:=K.size;have bo:=o.lt J;go_wp2_with fail;refine(b1.out p i _ (g,z) O cb (o.below J (bX.alloc bW _))).mono ?_;rintro e P ⟨v,rfl,ag,H,ai⟩
   have cc:=H.size;simp at cc;have bp:¬p wr.heap.size:=fun h=>by have:=bo _ h;omega
   have br:=(H.block _ Z bp).trans (aN _ _)
   have cp:P.cell? (aq wr.heap.size 0)=some (ah g):=by simp[World.cell?,br]
   have cq:P.cell? (aq wr.heap.size 1)=some (ah z):=by simp[World.cell?,br]
   have al:=hQ (ga W (.cells #[.int .i64 g,.int .i64 z] 103)) H (fun k e=>(L.out k e).1)
   have am:=hQ (ga hN (.cells #[.int .i64 g,.int .i64 z] 103)) H (fun k e=>ab.out k e)
   have bs:Fr F w P:=(K.alloc (.cells #[.int .i64 g,.int .i64 z] 103)).trans H X.out;have bt:ay (∀k,v k->F k\/w.heap.size<=k):=fun k hk=>(ai k hk).elim (fun h=>X.out k h) (fun h=>aJ (by simp at h;omega))
   have A:ay (∀k,some k=(Value.slice s Y.length u).ownBlock->¬v k/\some k≠(Value.slice an N.length n).ownBlock):=fun k e=>⟨fun h=>(ai k h).elim (L.out k e).1 (fun h=>by have:=(cn W k e).2;simp at h;omega),(L.out k e).2⟩
   have ap:ay (∀k,some k=(Value.slice an N.length n).ownBlock->¬v k):=fun k e h=>(ai k h).elim (ab.out k e) (fun h=>by have:=(cn hN k e).2;simp at h;omega)
   have bx:=o.lt ag;clear W hN K H X L ab J ai bo bp;have hd:ay (pts lk t (l.take (j+1))=if(lk i (g,z)).1 then(Y++[(g,z)],N,(lk i (g,z)).2) else(Y,N++[(g,z)],(lk i (g,z)).2)):=x.out;clear x;generalize (lk i (g,z)).2=bY at ag hd;cases hb:(lk i (g,z)).1
   ·rw[hb] at hd;have hd:=hide hd;go_wp2_with (at_builtin;refine wpList_append_own_at _ rfl _ _ 151 rfl w.heap.size 103 be (.agg #[ah 0,ah 0]) 2 16 Tryz.underlying151 hi bg bi bl rfl aa (.slice an N.length n) N.length (ev N) rfl (ga am _) ⟨P.heap.size,0,none⟩ 1 1 [ah g,ah z] rfl rfl ?_ ?_ ?_ ?_ ?_ ?_;(intro j ar d;match j,d with|0,d=>(simp at d;subst d;simp[Addr.add])|1,d=>(simp at d;subst d;simp[Addr.add]));(intro ar m;simp at m;rcases m with m|m<;>(subst m;rfl));(unfold maxLen;omega);omega;(simp;omega);intro cd aB Q B _ aF;obtain⟨b4,R,aR⟩:=eU Q (Nat.succ_pos _);subst aR)
    have ce:aB.ownsRow w.heap.size 103 2 (.slice (ak b4) (N++[(g,z)]).length R) (N++[(g,z)]).length (ev (N++[(g,z)])):=by rw[iV];simpa[ev] using Q
    have cf:=pX o ag B (fun k e=>ap.out k e)
    have aV:=vU al B (fun k e=>(A.out k e).2)
    have cg:=(bs.alloc (.cells #[.int .i64 g,.int .i64 z] 103)).grown B (fun k e=>aJ (cn am k e.symm).1)
    have S:=aF.imp id (fun e=>by simpa[Value.ownBlock] using e)
    have a0:ay (∀k,some k=(Value.slice s Y.length u).ownBlock->¬v k/\some k≠some b4):=fun k e=>⟨(A.out k e).1,fun C=>S.elim (fun h=>(A.out k e).2 (C.trans h)) (fun h=>by have:=(cn al k e).2;simp at C;omega)⟩
    have ch:ay (∀k,some k=some b4->¬v k):=fun k e h=>S.elim (fun U=>ap.out k (e.trans U) h) (fun U=>by have:=bx k h;simp at e;omega)
    go_wp2_with fail;go_roundw
    case rel=>exact⟨j+1,Y,N++[(g,z)],s,ak b4,u,R,v,bY,V,af,hd,rfl,Z,aV,ce,cf,cg,bt,a0,ch⟩
    case measure=>simp[intOf];omega
   ·rw[hb] at hd;go_wp2_with (at_builtin;refine wpList_append_own_at _ rfl _ _ 151 rfl w.heap.size 103 be (.agg #[ah 0,ah 0]) 2 16 Tryz.underlying151 hi bg bi bl rfl aa (.slice s Y.length u) Y.length (ev Y) rfl (ga al _) ⟨P.heap.size,0,none⟩ 1 1 [ah g,ah z] rfl rfl ?_ ?_ ?_ ?_ ?_ ?_;(intro j ar d;match j,d with|0,d=>(simp at d;subst d;simp[Addr.add])|1,d=>(simp at d;subst d;simp[Addr.add]));(intro ar m;simp at m;rcases m with m|m<;>(subst m;rfl));(unfold maxLen;omega);omega;(simp;omega);intro cd aB Q B _ aF;obtain⟨b4,R,aR⟩:=eU Q (Nat.succ_pos _);subst aR)
    have aV:aB.ownsRow w.heap.size 103 2 (.slice (ak b4) (Y++[(g,z)]).length R) (Y++[(g,z)]).length (ev (Y++[(g,z)])):=by rw[iV];simpa[ev] using Q
    have S:=aF.imp id (fun e=>by simpa[Value.ownBlock] using e)
    have a0:ay (∀k,some k=some b4->¬v k/\some k≠(Value.slice an N.length n).ownBlock):=fun k e=>⟨fun h=>S.elim (fun U=>(A.out k (e.trans U)).1 h) (fun U=>by have:=bx k h;simp at e;omega),fun C=>S.elim (fun h=>(A.out k (e.trans h)).2 C) (fun h=>by have:=(cn am k C).2;simp at e;omega)⟩
    go_wp2_with fail;go_roundw;exact⟨j+1,Y++[(g,z)],N,ak b4,an,R,n,v,bY,V,af,hd,Z,rfl,aV,(vU am B (fun k e C=>(A.out k C).2 e)),(pX o ag B (fun k e=>(A.out k e).1)),((bs.alloc (.cells #[.int .i64 g,.int .i64 z] 103)).grown B (fun k e=>aJ (cn al k e.symm).1)),bt,a0,ap⟩
    simp[intOf];omega
  ·obtain rfl:j=l.length:=V;rw[bu] at I;go_wp2_with fail;go_ret2;rw[I.out];exact⟨_,_,_,_,p,rfl,W,hN,J,K,X.out,fun k e=>(L.out k e).1,ab.out⟩
theorem dv.apart {d:Type}{o:dr d}{F:Nat->Prop}{w:ax}{ad:Option Addr}{l:List b7}(h:dv w ad l)(f:0<l.length->∀z,ad=some z->¬F z.block):∀g i w',o.J g i w'->Fr F w w'->dv w' ad l:=fun _ _ _ _ b=>
 h.keep b.size (fun hp z e=>by obtain⟨k,m,c,j,_⟩:=h hp;rw[e] at c;cases c;exact b.block _ j (f hp _ e))
def vW (w0:ax):dr Unit where
 J F _ w:=(∀k,F k↔k<w0.heap.size)/\w0.heap.size<=w.heap.size/\∀k,k<w0.heap.size->w.heap[k]?=w0.heap[k]?
 lt:=by rintro F t w ⟨b,d,c⟩ k hk;have:=(b k).1 hk;omega
 keep:=by rintro F t w w' ⟨b,d,c⟩ hs hk;exact⟨b,V,fun k h=>(hk k ((b k).2 h)).trans (c k h)⟩
theorem B6 {b:Type}(p:b->b7->Bool)(s:b)(l:List b7):pts (fun s e=>(p s e,s)) s l=(l.filter (p s),l.filter (fun e=>!p s e),s):=by
 have key:∀(l Y N:List b7),l.foldl (eh (fun s e=>(p s e,s))) (Y,N,s)=(Y++l.filter (p s),N++l.filter (fun e=>!p s e),s):=by
  intro l
  induction l with
  |nil=>simp
  |cons e r c=>
   intro Y N;cases h:p s e
   ·simp[eh,h,c]
   ·simp[eh,h,c]
 simpa[pts] using key l [] []
theorem r_ (D:b7->Prop)(f:Nat)(b c:Array Value)(p:b7->Bool)(m:dN f)(w:ax)
 (hl:∀(w':ax)(e:b7),D e->w.heap.size<=w'.heap.size->(∀k,k<w.heap.size->w'.heap[k]?=w.heap[k]?)->Calls prog f (b.push (en e)++c) w' fun r n=>r=.returned (.bool (p e))/\aw w' n)
 (l:List b7)(ad:Option Addr)(cap:Nat)(g:∀e∈l,D e)(hm:l.length<=100000)(hp:dv w ad l):
 Calls prog 150 #[.slice ad l.length cap,.func (.func f) b c] w fun r w'=>∃a1 c1 a2 c2,r=.returned (.tuple #[.slice a1 (l.filter p).length c1,.slice a2 (l.filter (fun e=>!p e)).length c2])/\w'.ownsRow w.heap.size 103 2 (.slice a1 (l.filter p).length c1) (l.filter p).length (ev (l.filter p))/\
  w'.ownsRow w.heap.size 103 2 (.slice a2 (l.filter (fun e=>!p e)).length c2) (l.filter (fun e=>!p e)).length (ev (l.filter (fun e=>!p e)))/\aw w w':=by
 have P:=vV (vW w) D (fun _=>True) f b c (fun _ e=>(p e,())) m (by
  rintro F t w1 e g _ ⟨i,j2,cA⟩
  refine(hl w1 e g j2 cA).mono ?_;rintro r u ⟨rfl,hb⟩
  exact⟨F,rfl,(vW w).below ⟨i,j2,cA⟩ hb,Fr.of hb,fun k h=>aK h⟩) l ad cap (fun k=>k<w.heap.size) () w g (fun _ _=>trivial) hm ⟨fun k=>Iff.rfl,aD _,fun _ _=>rfl⟩
  (by
    rintro o v w' ⟨i,j2,cA⟩ _;refine hp.keep j2 (fun hq z e=>?_)
    obtain⟨x,A,j,q,_⟩:=hp hq;rw[e] at j;cases j;exact cA _ q)
 rw[B6 (fun _ e=>p e) () l] at P;refine P.mono ?_;rintro r w' ⟨a1,c1,a2,c2,o,rfl,s,hN,⟨i,j2,cA⟩,d,_,_,_⟩
 exact⟨a1,c1,a2,c2,rfl,s,hN,d.os,d.tape,d.output,d.size,cA⟩
theorem B7 (w:ax)(ad:Option Addr)(n cap:Nat)(b:n<=cap):
 Calls prog 179 #[.slice ad n cap] w fun e w'=>e=.returned (.slice ad n n)/\w'=w:=by
 go_wp2;go_ret;exact⟨rfl,rfl⟩
structure ir (w:ax)(ad:Option Addr)(l:List b7)(cap:Nat):Prop where
 lp:dv w ad l
 le:l.length<=cap
 nil:ad=none->l.length=0/\cap=0
theorem dv.cells {w:ax}{ad:Option Addr}{q:List b7}(h:dv w ad q):∀b,ad=some b->∀j c,(ev q)[j]?=some c->w.cell? (b.add j)=some c:=by
 intro b e j c d;have hl:=kB q;have m:=(List.getElem?_eq_some_iff.1 d).1;obtain⟨g,o,k,hb,hc⟩:=h V;rw[e] at k;cases k;obtain⟨c1,c2⟩:=hc (j/2) V;obtain⟨k1,f⟩:=nN q (j/2) V;rcases Nat.mod_two_eq_zero_or_one j with hz|hz
 ·have i:j/2*2=j:=V;rw[i] at k1 c1;rw[d] at k1;cases k1;rw[Addr.add_lit];exact c1
 ·have i:j/2*2+1=j:=V;have l:o+j/2*2+1=o+j:=V;rw[i] at f;rw[l] at c2;rw[d] at f;cases f;rw[Addr.add_lit];exact c2
theorem dv.below {w w':ax}{ad:Option Addr}{l:List _}(h:dv w ad l)(hb:aw w w'):dv w' ad l:=
 h.keep hb.size (fun hp z e=>by obtain⟨b,o,c,d,_⟩:=h hp;rw[e] at c;cases c;exact hb.block _ d)
theorem aH (B:Nat)(w:ax):Below B w w:=Below.refl ..
theorem vX (w:ax)(ad:Option Addr)(q:List b7)(cap:Nat)(g z:Int)(h:ir w ad q cap)(hm:q.length<=100000):
 Calls prog 104 #[.slice ad q.length cap,.agg #[ah g,ah z]] w fun e w'=>∃b1 gb,e=.returned (.slice (ak b1) (q.length+1) gb)/\w'.ownsRow w.heap.size 103 2 (.slice (ak b1) (q.length+1) gb) (q.length+1) (ev (q++[(g,z)]))/\aw w w':=by
 obtain⟨i,hi,l,m,n⟩:=info_parts nO;have o:ay (dv w ad q):=h.lp;have p:ay (ad=none->q.length=0/\q.length=0):=fun e=>⟨(h.nil e).1,(h.nil e).1⟩
 have s:=h.le;clear h;go_enter func104,ntmps104;go_wp2_with fail
 go_region_held3 (fun w'=>w'.cell? (aq w.heap.size 0)=some (ah g)/\w'.cell? (aq w.heap.size 1)=some (ah z)) (go_keep)
  (first|(go_at_call 179;refine(B7 _ ad q.length cap s).mono ?_;rintro e A ⟨rfl,rfl⟩)|(refine step_append_grows rfl (.tmp 6) (.tmp 8) 151 rfl 103 i (.agg #[ah 0,ah 0]) 2 16 Tryz.underlying151 hi l m n rfl aa ad q.length q.length (ev q) (by simp[Act.eval]) p.out (kB q) (o.out.below (by first|exact(((aH _ w).alloc bW _).alloc Z _).drew|exact((aH _ w).alloc bW _).drew.alloc Z _)).cells ⟨w.heap.size+1,0,none⟩ 1 1 [ah g,ah z] (by simp[Act.eval]) rfl ?_ ?_ V (by unfold maxLen;omega) V ?_;(intro j t b;match j,b with|0,b=>(simp at b;subst b;simp[Addr.add])|1,b=>(simp at b;subst b;simp[Addr.add]));(intro t c;simp at c;rcases c with c|c<;>(subst c;rfl));intro B C f d;obtain⟨b4,u,x⟩:=eU f (Nat.succ_pos _);subst x;have y1:=d.cell (a:=⟨w.heap.size,0,none⟩) (v:=ah g) Z Z;have D:=d.cell (a:=⟨w.heap.size,1,none⟩) (v:=ah z) Z Z))
 all_goals
  go_wp2_with fail;go_ret;exact⟨b4,u,rfl,by rw[iV];exact eT f (fun k e=>by have:=(cn f k e).1;simp at this;omega),by first|exact((((aH _ w).alloc bW _).alloc Z _).drew).grown d (by simp;omega) (fun k e=>by cases e)|exact(((aH _ w).alloc bW _).drew.alloc Z _).grown d (by simp;omega) (fun k e=>by cases e)⟩
theorem nP (l:List b7):∀c∈ev l,c.oneCell'=true:=by intro c b;simp only [ev,List.mem_flatMap] at b;obtain⟨e,_,b⟩:=b;simp at b;rcases b with rfl|rfl<;>rfl
theorem B8 (w:ax):(w.alloc (.cells #[] 103)).ownsRow w.heap.size 103 2 (.slice (ak w.heap.size) 0 0) 0 []:=
 ⟨rfl,aJ ⟨w.heap.size,0,#[],rfl,aD _,aN _ _,aD _,aZ _,rfl,rfl⟩⟩
theorem sa (w:ax)(ad:Option Addr)(l:List b7)(cap:Nat)(h:ir w ad l cap)(hm:l.length<=100000):
 Calls prog 212 #[.slice ad l.length cap] w fun e w'=>∃a1 c1,e=.returned (.slice a1 l.length c1)/\w'.ownsRow w.heap.size 103 2 (.slice a1 l.length c1) l.length (ev l)/\aw w w':=by
 obtain⟨f,hi,g,i,j⟩:=info_parts nO;have o:∀(w:ax)(a:Option Addr)(n c:Nat),_=_:=fun w a n c=>Lib.run_eql_slice_nil w _ _ a n c 0 0 Tryz.underlying151;have d:=hide h.lp;cases ad with
 |none=>
  have hl:=List.eq_nil_of_length_eq_zero (h.nil rfl).1;subst hl;clear h d;go_enter func212,ntmps212;go_wp2;go_ret;exact⟨none,0,rfl,bc _ _ _ _,aH _ _⟩
 |some a=>
  clear h;go_enter func212,ntmps212;go_wp2_with (at_builtin;refine wpList_append_own _ rfl _ _ 151 rfl w.heap.size 103 f _ 2 16 Tryz.underlying151 hi g i j rfl aa _ 0 [] rfl (B8 w) a l.length cap (ev l) rfl (kB l) ((d.out.below (bX.alloc bW _)).cells a rfl) (nP l) ?_ ?_ ?_ ?_;(unfold maxLen;omega);omega;(simp);intro v w1 b m _)
  rw[List.nil_append,Nat.zero_add] at b;obtain⟨a1,c1,rfl⟩:=eE b;go_wp2;go_ret;exact⟨a1,c1,rfl,b,(bX.alloc bW _).grown m Z (fun k e=>by cases e;exact aD _)⟩
abbrev dT:=Int×Option Addr×Nat×List (Int×Int)
def nv (m:List dT):List Value:=m.flatMap fun x=>[ah x.1,.slice x.2.1 x.2.2.2.length x.2.2.1]
def hY (m:List dT):List (Int×List (Int×Int)):=m.map fun x=>(x.1,x.2.2.2)
theorem vY (a b:List dT):nv (a++b)=nv a++nv b:=by simp[nv]
theorem oM:∀(l:List dT)(i:Nat)(x:dT),l[i]?=some x->(nv l)[i*2]?=some (ah x.1)/\(nv l)[i*2+1]?=some (.slice x.2.1 x.2.2.2.length x.2.2.1)
 |[],i,x,h=>by simp at h
 |e::r,0,x,h=>by simp at h;subst h;simp[nv]
 |e::r,i+1,x,h=>by
  have b:(nv (e::r))=ah e.1::.slice e.2.1 e.2.2.2.length e.2.2.1::nv r:=by simp[nv]
  rw[b,show(i+1)*2=i*2+1+1 by omega];simpa using(oM r i x (by simpa using h))
theorem sc:∀(l:List dT)(i:Nat)(x:dT)(ad:Option Addr)(c:Nat)(b:List (Int×Int)),l[i]?=some x->nv (l.set i (x.1,ad,c,b))=(nv l).set (i*2+1) (.slice ad b.length c)
 |[],_,_,_,_,_,_=>rfl
 |e::l,0,x,ad,c,b,h=>by simp at h;subst h;simp[nv]
 |e::l,i+1,x,ad,c,b,h=>by
  have d:(nv (e::l))=ah e.1::.slice e.2.1 e.2.2.2.length e.2.2.1::nv l:=by simp[nv]
  have f:(nv (e::l.set i (x.1,ad,c,b)))=ah e.1::.slice e.2.1 e.2.2.2.length e.2.2.1::nv (l.set i (x.1,ad,c,b)):=by simp[nv]
  rw[List.set_cons_succ,f,d,(sc l i x ad c b (by simpa using h)),show(i+1)*2+1=i*2+1+1+1 by omega];simp
theorem nQ {w:ax}{base size n g cap:Nat}{e:TypeId}{b:List Value}(h:w.ownsRow base e size (.slice (ak g) n cap) n b)(i:Nat)(u:Value):(w.setCell ⟨g,i,none⟩ u).ownsRow base e size (.slice (ak g) n cap) n (b.set i u):=by exact vQ
def fj (w:ax)(ad:Option Addr)(l:List (Int×Int)):Prop:=dv w ad l/\(0<l.length->∃b o c,ad=some ⟨b,o,none⟩/\w.heap[b]?=some (.cells c 97 (0,0)))
section
variable {B:Nat}{w w' w'':ax}
theorem fj.nil {ad:Option Addr}:fj w ad []:=⟨fun h=>by simp at h,fun h=>by simp at h⟩
theorem fj.of {base cap:Nat}{ad:Option Addr}{l:List _}(h:w.ownsRow base 97 2 (.slice ad l.length cap) l.length (ev l)):fj w ad l:=by
 refine⟨g7 h,fun hp=>?_⟩
 exact vS
end
def fp (m:List dT)(k:Nat):Prop:=∃x∈m,0<x.2.2.2.length/\∃o,x.2.1=some ⟨k,o,none⟩
theorem kC {w:ax}{base size n g cap:Nat}{e:TypeId}{b:List Value}(h:w.ownsRow base e size (.slice (ak g) n cap) n b){i:Nat}{d:Value}(hi:b[i]?=some d):w.cell? (aq g i)=some d/\w.frozen? (aq g i)=false:=by
 rcases h.2 with⟨hv,_⟩|⟨k,l,m,hv,hb,hg,o,p,q,f⟩
 ·simp at hv
 ·obtain⟨rfl,rfl⟩:=hv;rw[<-f] at hi;have j:i<n*size:=by
   rcases Nat.lt_or_ge i _ with c|c
   ·exact c
   ·rw[List.getElem?_take,aG V] at hi;simp at hi
  rw[List.getElem?_take_of_lt j] at hi;constructor
  ·simp[World.cell?,hg];simpa using hi
  ·simp[World.frozen?,hg]
def Ln (w:ax)(ad:Option Addr)(c:List (Int×List (Int×Int))):Prop:=
 ∃m:List dT,hY m=c/\(∀x∈m,dv w x.2.1 x.2.2.2)/\(0<m.length->∃b o,ad=some ⟨b,o,none⟩/\b<w.heap.size/\∀i x,m[i]?=some x->w.cell? (aq b (o+i*2))=some (ah x.1)/\w.cell? (aq b (o+i*2+1))=some (.slice x.2.1 x.2.2.2.length x.2.2.1))
theorem Ln.below {w w':ax}{ad:Option Addr}{d:List _}(h:Ln w ad d)(hb:aw w w'):Ln w' ad d:=by
 obtain⟨m,f,g,j⟩:=h;refine⟨m,f,fun x c=>(g x c).below hb,fun hp=>?_⟩
 obtain⟨b,o,e,hl,hc⟩:=j hp;exact⟨b,o,e,aM hl hb.size,fun i x c=>⟨(hb.cell hl).trans (hc i x c).1,(hb.cell hl).trans (hc i x c).2⟩⟩
def nR (w:ax)(base:Nat)(ad:Option Addr)(l:List (Int×Int)):Prop:=dv w ad l/\(0<l.length->∃b o,ad=some ⟨b,o,none⟩/\base<=b)
def lO (w:ax)(base:Nat)(ad:Option Addr)(c:List (Int×List (Int×Int))):Prop:=
 ∃m:List dT,hY m=c/\(∀x∈m,dv w x.2.1 x.2.2.2)/\(∀k,fp m k->base<=k)/\(0<m.length->∃b o,ad=some ⟨b,o,none⟩/\base<=b/\b<w.heap.size/\∀i x,m[i]?=some x->w.cell? (aq b (o+i*2))=some (ah x.1)/\w.cell? (aq b (o+i*2+1))=some (.slice x.2.1 x.2.2.2.length x.2.2.1))
theorem lO.ln {w:ax}{base:Nat}{ad:Option Addr}{d:List _}(h:lO w base ad d):Ln w ad d:=by obtain⟨m,f,g,_,i⟩:=h;exact⟨m,f,g,fun hp=>by obtain⟨b,o,e,_,l,c⟩:=i hp;exact⟨b,o,e,l,c⟩⟩
open Go.RowKit W
def hB (b c a:Int):Bool:=decide (b<=a/\a<b+c)
theorem js {b c a:Int}(h:hB b c a=true):b<=a/\a<b+c:=by simpa[hB] using h
def dd (N y g:Nat)(a:Int):Bool:=hB 0 y a||hB N g a
def ld (N y g:Nat)(ws:List Int)(a:Int):Int:=if dd N y g a=true then ws.getD a.toNat 0 else 0
theorem ju {N O y g:Nat}{a:Int}(h:dd N y g a=true)(hy:y<=N)(hg:g<=O):0<=a/\a<(N:Int)+O:=by
 rcases Bool.or_eq_true _ _▸h with h|h
 ·have:=js h;omega
 ·have:=js h;omega
theorem lP (b s c:Int)(w:ax)(hb:0<=b)(d:b<=100000)(f:0<=c)(g:c<=100000):
 Calls prog 170 #[.agg #[ah b,ah s,ah c]] w fun e w'=>e=.returned (ah (b+c))/\aw w w':=by
 exact kZ
theorem oN (b s c:Int)(w:ax)(hb:0<=s)(d:s<=100000)(f:0<=c)(g:c<=100000):
 Calls prog 169 #[.agg #[ah b,ah s,ah c]] w fun e w'=>e=.returned (ah (s-c))/\aw w w':=by
 exact kZ
theorem vZ (b s c a:Int)(w:ax)(hb:0<=b)(d:b<=100000)(f:0<=c)(g:c<=100000):
 Calls prog 174 #[.agg #[ah b,ah s,ah c],ah a] w fun e w'=>e=.returned (.bool (hB b c a))/\aw w w':=by
 by_cases h:b<=a
 ·have e:hB b c a=decide (a<b+c):=by simp[hB,h]
  rw[e];go_enter func174,ntmps174;go_wp2_with fail;refine(lP b s c _ hb d f g).mono ?_;rintro e w1 ⟨rfl,i⟩
  go_wp2;go_ret;exact⟨rfl,(bX.alloc bW _).trans (i.mono Z)⟩
 ·have e:hB b c a=false:=by simp[hB,h]
  rw[e];exact kZ
theorem mK {p q N O y g:Nat}{ws:List Int}(a:Int)(w:ax)(h:At w p q N O y g ws):
 Calls prog 95 #[aj p,ah a] w fun e w'=>e=.returned (.bool (hB 0 y a))/\aw w w':=by
 obtain⟨c0,c1,c2,c3,c4,c5,c⟩:=h.cells;have k1:=h.hN';have d:=h.hy;go_enter func95,ntmps95;go_wp2_with fail;refine(vZ 0 N y a _ V V V V).mono ?_;rintro e w1 ⟨rfl,b⟩
 go_wp2;go_ret;exact⟨rfl,b⟩
theorem mL {p q N O y g:Nat}{ws:List Int}(a:Int)(w:ax)(h:At w p q N O y g ws):
 Calls prog 96 #[aj p,ah a] w fun e w'=>e=.returned (.bool (hB N g a))/\aw w w':=by
 obtain⟨c0,c1,c2,c3,c4,c5,c⟩:=h.cells;have k1:=h.hN';have d:=h.hO;have f:=h.hg;go_enter func96,ntmps96;go_wp2_with fail;refine(vZ N O g a _ V V V V).mono ?_;rintro e w1 ⟨rfl,b⟩
 go_wp2;go_ret;exact⟨rfl,b⟩
theorem pY {p q N O y g:Nat}{ws:List Int}(a:Int)(w:ax)(h:At w p q N O y g ws):
 Calls prog 172 #[aj p,ah a] w fun e w'=>e=.returned (.bool (dd N y g a))/\aw w w':=by
 cases hy:hB 0 y a
 ·have e:dd N y g a=hB N g a:=by simp[dd,hy]
  rw[e];have c:=hide hy;go_enter func172,ntmps172;go_wp2_with fail;refine(mK a _ h).mono ?_;rintro e w1 ⟨rfl,b⟩
  rw[c.out];go_wp2_with fail;refine(mL a _ (h.below b bW)).mono ?_;rintro e f ⟨rfl,d⟩
  go_wp2;go_ret;exact⟨rfl,b.trans (d.mono b.size)⟩
 ·have e:dd N y g a=true:=by simp[dd,hy]
  rw[e];go_enter func172,ntmps172;go_wp2_with fail;refine(mK a _ h).mono ?_;rintro e w1 ⟨rfl,b⟩
  go_wp2;go_ret;exact⟨rfl,b⟩
theorem jJ {p q N O y g:Nat}{ws:List Int}(a:Int)(w:ax)(h:At w p q N O y g ws):
 Calls prog 98 #[aj p,ah a] w fun e w'=>e=.returned (ah (ld N y g ws a))/\aw w w':=by
 cases hi:dd N y g a
 ·have e:ld N y g ws a=0:=by simp[ld,hi]
  rw[e];have c:=hide hi;go_enter func98,ntmps98;go_wp2_with fail;refine(pY a _ h).mono ?_;rintro e w1 ⟨rfl,b⟩
  rw[c.out];go_wp2;go_ret;exact⟨rfl,b⟩
 ·have e:ld N y g ws a=ws.getD a.toNat 0:=by simp[ld,hi]
  rw[e];obtain⟨f,i⟩:=ju hi h.hy h.hg;have c:=hide hi;clear hi;go_enter func98,ntmps98;go_wp2_with fail;refine(pY a _ h).mono ?_;rintro e w1 ⟨rfl,b⟩
  rw[c.out];have d:=h.below b bW
  obtain⟨c0,c1,c2,c3,c4,c5,j⟩:=d.cells;have k:=d.word a.toNat V;go_wp2;go_ret;exact⟨rfl,b⟩
theorem k3 {p q N O y g:Nat}{ws:List Int}(a x:Int)(w:ax)(h:At w p q N O y g ws):
 Calls prog 93 #[aj p,ah a,ah x] w fun e w'=>e=.returned (.bool (dd N y g a))/\At w' p q N O y g (if dd N y g a=true then ws.set a.toNat x else ws)/\c_ p q w w':=by
 cases hi:dd N y g a
 ·rw[aG Z];have d:=hide hi;go_enter func93,ntmps93;go_wp2_with fail;refine(pY a _ h).mono ?_;rintro e w1 ⟨rfl,b⟩
  rw[d.out];go_wp2;go_ret;exact⟨rfl,h.below b bW,c_.of b⟩
 ·rw[aI rfl];obtain⟨f,i⟩:=ju hi h.hy h.hg;go_enter func93,ntmps93;go_wp2_with fail;refine(pY a _ h).mono ?_;rintro e w1 ⟨rfl,b⟩
  have c:=h.below b bW
  obtain⟨c0,c1,c2,c3,c4,c5,j⟩:=c.cells;have k:=c.word a.toNat V;have l:=c.r7 a.toNat;go_wp2;go_ret;exact⟨rfl,c.set a.toNat x,(c_.of b).trans (c_.r6 _ _)⟩
theorem gd {p q N O y g:Nat}{ws:List Int}(a:Int)(w:ax)(h:At w p q N O y g ws):
 Calls prog 102 #[aj p,ah a] w fun e w'=>e=.returned (.tuple #[ah (pk (ld N y g ws a)),ah (pf (ld N y g ws a)),ah (pc (ld N y g ws a))])/\aw w w':=by
 go_enter func102,ntmps102;go_wp2_with fail;refine(jJ a _ h).mono ?_;rintro e w1 ⟨rfl,b⟩
 go_wp2_with fail;refine(B3 _ _).mono ?_;rintro e c ⟨rfl,rfl⟩
 go_wp2
 go_ret3
 exact⟨rfl,b⟩
theorem kD {p q N O y g:Nat}{ws:List Int}(w:ax)(h:At w p q N O y g ws):
 Calls prog 22 #[aj p] w fun e w'=>e=.returned (.tuple #[ah y,ah g])/\aw w w':=by
 obtain⟨c0,c1,c2,c3,c4,c5,b⟩:=h.cells;exact r9
theorem mM {p q N O y g:Nat}{ws:List Int}(w:ax)(h:At w p q N O y g ws):
 Calls prog 86 #[aj p] w fun e w'=>e=.returned (.tuple #[ah 0,ah N])/\aw w w':=by
 obtain⟨c0,c1,c2,c3,c4,c5,b⟩:=h.cells;exact r9
theorem v4 {p q N O y g:Nat}{ws:List Int}(w:ax)(h:At w p q N O y g ws):
 Calls prog 114 #[aj p] w fun e w'=>e=.returned (.tuple #[])/\At w' p q N O 0 g ws/\c_ p q w w':=by
 obtain⟨c0,c1,c2,c3,c4,c5,b⟩:=h.cells;have c:=h.frozen 3;go_enter func114,ntmps114;go_wp2_with fail;go_end0;exact⟨rfl,h.vN 0 (aZ _),c_.oJ _ _⟩
theorem B9 {p q N O y g:Nat}{ws:List Int}(n:Int)(w:ax)(h:At w p q N O y g ws)(h0:0<=n)(b:n<=O):
 Calls prog 163 #[aj p,ah n] w fun e w'=>e=.returned (.tuple #[])/\At w' p q N O y n.toNat ws/\c_ p q w w':=by
 obtain⟨n,rfl⟩:=Int.eq_ofNat_of_zero_le h0;rw[Int.toNat_natCast];obtain⟨c0,c1,c2,c3,c4,c5,c⟩:=h.cells;have d:=h.frozen 6;go_enter func163,ntmps163;go_wp2_with fail;go_end0;exact⟨rfl,h.vO n V,c_.oJ _ _⟩
theorem B_ {p q N O y g:Nat}{ws:List Int}(n:Int)(w:ax)(h:At w p q N O y g ws)(h0:0<=n)(j:n<=(N:Int)-y):
 Calls prog 90 #[.pointer (some ⟨p,1,none⟩),ah n] w fun e w'=>e=.returned (.tuple #[ah y,.bool true])/\At w' p q N O (y+n.toNat) g ws/\c_ p q w w':=by
 obtain⟨n,rfl⟩:=Int.eq_ofNat_of_zero_le h0;rw[Int.toNat_natCast];obtain⟨c0,c1,c2,c3,c4,c5,c⟩:=h.cells;have k1:=h.hN';have k:=h.hy;go_enter func90,ntmps90;go_wp2_with fail;refine(oN 0 N y _ V V V V).mono ?_;rintro e w1 ⟨rfl,d⟩
 have f:=h.below d bW
 obtain⟨c0,c1,c2,c3,c4,c5,c⟩:=f.cells;go_wp2_with fail;refine(lP 0 N y _ V V V V).mono ?_;rintro e l ⟨rfl,i⟩
 have b:=f.below i bW
 obtain⟨c0,c1,c2,c3,c4,c5,c⟩:=b.cells;have m:=b.frozen 3;go_wp2_with fail;go_ret2;exact⟨Z,b.vN (y+n) V,((c_.of d).trans (c_.of i)).trans (c_.oJ _ _)⟩
theorem Ca {p q N O y g:Nat}{ws:List Int}(n:Int)(w:ax)(h:At w p q N O y g ws)(h0:(N:Int)-y<n):
 Calls prog 90 #[.pointer (some ⟨p,1,none⟩),ah n] w fun e w'=>e=.returned (.tuple #[ah 0,.bool false])/\aw w w':=by
 obtain⟨c0,c1,c2,c3,c4,c5,b⟩:=h.cells;have k1:=h.hN';have c:=h.hy;go_enter func90,ntmps90;go_wp2_with fail;refine(oN 0 N y _ V V V V).mono ?_;exact oK
theorem Cb {p q N O y g:Nat}{ws:List Int}(n:Int)(w:ax)(h:At w p q N O y g ws)(h0:0<=n)(j:n<=(O:Int)-g):
 Calls prog 90 #[.pointer (some ⟨p,4,none⟩),ah n] w fun e w'=>e=.returned (.tuple #[ah (N+g:Nat),.bool true])/\At w' p q N O y (g+n.toNat) ws/\c_ p q w w':=by
 obtain⟨n,rfl⟩:=Int.eq_ofNat_of_zero_le h0;rw[Int.toNat_natCast];obtain⟨c0,c1,c2,c3,c4,c5,c⟩:=h.cells;have k1:=h.hN';have k:=h.hg;have l:=h.hO;go_enter func90,ntmps90;go_wp2_with fail;refine(oN N O g _ V V V V).mono ?_;rintro e w1 ⟨rfl,d⟩
 have f:=h.below d bW
 obtain⟨c0,c1,c2,c3,c4,c5,c⟩:=f.cells;go_wp2_with fail;refine(lP N O g _ V V V V).mono ?_;rintro e m ⟨rfl,i⟩
 have b:=f.below i bW
 obtain⟨c0,c1,c2,c3,c4,c5,c⟩:=b.cells;have o:=b.frozen 6;go_wp2_with fail;go_ret2;exact⟨Z,b.vO (g+n) V,((c_.of d).trans (c_.of i)).trans (c_.oJ _ _)⟩
theorem Ce {p q N O y g:Nat}{ws:List Int}(n:Int)(w:ax)(h:At w p q N O y g ws)(h0:(O:Int)-g<n):
 Calls prog 90 #[.pointer (some ⟨p,4,none⟩),ah n] w fun e w'=>e=.returned (.tuple #[ah 0,.bool false])/\aw w w':=by
 obtain⟨c0,c1,c2,c3,c4,c5,b⟩:=h.cells;have k1:=h.hN';have c:=h.hg;have d:=h.hO;go_enter func90,ntmps90;go_wp2_with fail;refine(oN N O g _ V V V V).mono ?_;exact oK
theorem oO {p q N O y g:Nat}{ws:List Int}(w:ax)(h:At w p q N O y g ws):
 Calls prog 105 #[aj p] w fun e w'=>e=.returned (.tuple #[ah ((N:Int)-y),ah ((O:Int)-g)])/\aw w w':=by
 obtain⟨c0,c1,c2,c3,c4,c5,f⟩:=h.cells;have k1:=h.hN';have i:=h.hg;have j:=h.hO;have k:=h.hy;go_enter func105,ntmps105;go_wp2_with fail
 go_region_with (go_at_call 169;refine(oN _ _ _ _ V V V V).mono ?_;rintro e w1 ⟨rfl,b⟩;have d:At w1 p q N O y g ws:=(by first|exact h.drew.below b bW|exact d.below b bW);have c:aw w w1:=(by first|exact(aH _ w).drew.trans b|exact c.trans (b.mono c.size));obtain⟨c0,c1,c2,c3,c4,c5,f⟩:=d.cells)
 all_goals
  go_wp2_with fail;go_ret2;exact⟨rfl,c⟩
theorem v5:(prog.info? 2).map (fun i=>(i.zero,i.size,i.bytes))=some (some (ah 0),1,8):=ae
theorem v6 {w:ax}{b k n:Nat}(h:w.ownsRow b 2 1 (.slice (ak k) n n) n (madeCells (Value.int .i64 0).cells (n*1)).toList):
 w.heap[k]?=some (.cells ((List.replicate n (0:Int)).map (Value.int .i64)).toArray 2 (0,0)):=by
 exact vR
theorem se {w:ax}{k:Nat}(o:Obj)(h:w.heap.size=k):(w.alloc o).heap[k]?=some o:=by subst h;exact aN _ _
theorem Cf {w w1:ax}{a b:Value}{t:TypeId}(hg:(w.alloc (.cells #[a,b] t)).grownBy w1 none):
 w1.cell? (aq w.heap.size 0)=some a/\w1.cell? (aq w.heap.size 1)=some b/\w1.frozen? (aq w.heap.size 0)=false/\w1.frozen? (aq w.heap.size 1)=false/\w.heap.size<w1.heap.size:=by
 have hb:=hg.block w.heap.size Z Z;have hz:=hg.size;have e:(w.alloc (.cells #[a,b] t)).heap[w.heap.size]?=some (.cells #[a,b] t):=aN _ _;rw[e] at hb;refine⟨?_,?_,?_,?_,by simp at hz;omega⟩<;>simp[World.cell?,World.frozen?,hb]
theorem Ch (n o:Int)(w:ax)(h0:16<=n)(k:n<=256)(c:0<=o)(l:o<=1024):
 Calls prog 85 #[ah n,ah o] w fun e w'=>∃p q,e=.returned (.tuple #[aj p,.agg #[ah 0,ah 0]])/\At w' p q n.toNat o.toNat 0 0 (List.replicate (n.toNat+o.toNat) 0)/\w.heap.size<=p/\w.heap.size<=q/\aw w w':=by
 obtain⟨n,rfl⟩:=Int.eq_ofNat_of_zero_le (show 0<=n by omega)
 obtain⟨o,rfl⟩:=Int.eq_ofNat_of_zero_le c;simp only [Int.toNat_natCast];obtain⟨d,hi,f,g,i⟩:=info_parts v5;go_enter func85,ntmps85;go_wp2_with (at_make;refine wpList_make_full _ rfl _ _ 53 rfl w.heap.size 2 d (ah 0) 1 Tryz.underlying53 hi f g .i64 .i64 _ _ (n+o) rfl rfl V V (by rw[i];omega) (by unfold maxLen;omega) Z ?_;intro w1 j b;obtain⟨c0,c1,m,s,hz⟩:=Cf b)
 have hr:=v6 j;simp only [World.size_alloc] at hr;have t:=lt_of_some hr;refine a3 (v:=.tuple #[aj w1.heap.size,.agg #[ah 0,ah 0]]) (by simp[results,results85,go_sem,c0,c1,hz]) rfl ⟨w1.heap.size,w.heap.size+1,rfl,⟨?_,?_,Z,V,V,V,V,V⟩,V,V,?_⟩
 ·exact se _ (by simp[World.setCell])
 ·refine(aS _ _ _ (by simp[World.setCell];omega)).trans ?_;rw[aU _ _ _ _ Z,aU _ _ _ _ Z];exact hr
 ·refine Below.alloc (Below.setCell (Below.setCell ?_ ?_ _) ?_ _) ?_ _
  ·exact(bX.alloc bW _).grown b Z (fun _ h=>by cases h)
  ·exact aD _
  ·exact aD _
  ·simp[World.setCell];omega
theorem Cj (n o:Int)(w:ax)(h:n<16\/256<n\/o<0\/1024<o):
 Calls prog 85 #[ah n,ah o] w fun e w'=>e=.returned (.tuple #[.pointer none,.agg #[ah 1,ah (-1)]])/\aw w w':=by
 by_cases b:n<16
 ·go_enter func85,ntmps85;exact r8
 by_cases c:256<n
 ·go_enter func85,ntmps85;exact r8
 by_cases d:o<0
 ·go_enter func85,ntmps85;exact r8
 have f:1024<o:=V;go_enter func85,ntmps85;go_wp2_with fail;exact a3 (v:=.tuple #[.pointer none,.agg #[ah 1,ah (-1)]]) (by simp[results,results85,go_sem]) rfl ⟨rfl,bX.alloc bW _⟩
end Go.Proofs.YtpkjkjhanlbcoaaGreat
