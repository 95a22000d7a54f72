import Derived.Test.YtjpjpjemibgjpaaGreatJ06
import Derived.Test.YtjpjpjemibgjpaaGreatJ01
import Derived.Test.YtjpjpjemibgjpaaGreatJ00
import Derived.Test.YtjpjpjemibgjpaaGreatJ02
import Derived.Test.YtjpjpjemibgjpaaGreatJ04
import Derived.Test.YtjpjpjemibgjpaaGreatJ03
namespace Go.Proofs.YtjpjpjemibgjpaaGreat
set_option maxRecDepth 100000
set_option maxHeartbeats 2000000
open Tryz
open Go.RowKit W Kp bY
theorem rR:(prog.info? 87).map (fun i=>(i.zero,i.size,i.bytes))=some (some (.agg #[ae 0,.slice none 0 0]),2,32):=ab
section
variable {w0 w w' w'':World}{kb bW pw n:Nat}{T:List Int}{s:ck}{vn:Value}{m:List da}
theorem Wk.turned (h:Wk w0 w kb bW pw T s vn m)(f:Fr (fun k=>k=bW) w w'):Kf w0.heap.size w w'/\w'.heap[kb]?=some (.cells #[af pw,.map (some bW),vn] 110 (0,0))/\w'.ownsRow w0.heap.size 87 2 vn m.length (nv m)/\(∀x∈m,fE w' x.2.1 x.2.2.2)/\Below w0.heap.size w0 w':=by
 obtain⟨D,o1,_⟩:=h.mp;obtain⟨g,i,a,_⟩:=o1;have hk:Kf w0.heap.size w w':=⟨f.os,f.tape,f.output,f.size,fun k hk hl=>f.block k hk (fun e=>by have e:k=bW:=e;have:=h.lo.2;omega),fun k j e l hk _ _=>f.block k (lt_of_some hk) (fun c=>by have c:k=bW:=c;rw[c,a] at hk;simp at hk)⟩
 refine⟨hk,(f.block kb (lt_of_some h.blk) (fun c=>?_)).trans h.blk,ca h.row (fun k e=>f.block k (bR h.row k e).2 (fun c=>?_)),fun x d=>(h.fl x d).kf hk,h.df.trans (hk.below h.df.size)⟩
 ·have c:kb=bW:=c;have:=h.blk;rw[c,a] at this
  simp at this
 ·have c:k=bW:=c;obtain⟨n,b⟩:=dO h.row k e;rw[c,a] at b;simp at b
end
theorem aJ {α:Type _}{«as» bs:List α}:(«as» ++ bs).length = «as».length + bs.length:=List.length_append ..
theorem Wk.grown {w0 w w3 f:World}{a bW pw:Nat}{T:List Int}{ms:List Int}{u:List (Int×List (Int×Int))}{i j:Value}{m:List da}{kd:Int}
 (hk:w.heap[a]?=some (.cells #[af pw,.map (some bW),i] 110 (0,0)))(lo:w0.heap.size<=a/\w0.heap.size<=bW)(hm:Nm w bW T ms)(n:w.ownsRow w0.heap.size 87 2 i m.length (nv m))(v:gt m=u)(C:∀x∈m,fE w x.2.1 x.2.2.2)(A:Below w0.heap.size w0 w)
 (g:Below w.heap.size w w3)(B:f.ownsRow w0.heap.size 87 2 j (m.length+1) (nv m++[ae kd,.slice none 0 0]))(q:w3.grownBy f i.ownBlock):
 Wk w0 (f.setCell ⟨a,2,none⟩ j) a bW pw T (ms,u++[(kd,[])]) j (m++[(kd,none,0,[])])/\ed w0 w m (f.setCell ⟨a,2,none⟩ j) (m++[(kd,none,0,[])])/\f.heap[a]?=some (.cells #[af pw,.map (some bW),i] 110 (0,0)):=by
 have E:=hm;obtain⟨D,o1,_⟩:=hm;obtain⟨J,K,l,_⟩:=o1;have F:Kf w0.heap.size w f:=(Kf.of g).trans (Kf.grown q (fun k e=>⟨(bR n k e.symm).1,fun L ty M hc=>by obtain⟨s,d⟩:=dO n k e.symm;have:=(g.block k (lt_of_some d)).trans d;rw[this] at hc;simp at hc;exact an hc.2.1.symm⟩))
 have p:f.heap[a]?=some (.cells #[af pw,.map (some bW),i] 110 (0,0)):=(q.block a (av (lt_of_some hk) g.size) (fun e=>by obtain⟨s,d⟩:=dO n a e;rw[hk] at d;simp at d)).trans ((g.block a (lt_of_some hk)).trans hk)
 have t:Kf w0.heap.size w (f.setCell ⟨a,2,none⟩ j):=F.trans (Kf.set p (ap rfl) lo.1)
 have G:bW≠a:=fun e=>by rw[e,hk] at l;simp at l
 have H:(nv (m++[(kd,none,0,[])]:List da))=nv m++[ae kd,.slice none 0 0]:=by rw[q5];rfl
 refine⟨⟨?_,lo,?_,?_,?_,fun x b=>?_,A.trans (t.below A.size)⟩,⟨t,fun k hk=>?_⟩,p⟩
 ·simp only [World.setCell,Array.getElem?_modify,if_true,p,Option.map_some];rfl
 ·refine E.same ((Below.heap_setCell _ _ _ _ G).trans ((q.block bW (av (lt_of_some l) g.size) (fun e=>?_)).trans (g.block bW (lt_of_some l))))
  obtain⟨s,d⟩:=dO n bW e;rw[l] at d;simp at d
 ·rw[H,aJ];refine ca B (fun k e=>Below.heap_setCell _ _ _ _ (fun c=>?_))
  have c:k=a:=c;obtain⟨s,d⟩:=dO B k e;rw[c,p] at d;simp at d
 ·simp[gt] at v⊢;exact v
 ·rcases List.mem_append.1 b with b|b
  ·exact(C x b).kf t
  ·simp at b;subst b;exact fE.nil
 ·obtain⟨x,b,hl,o,e⟩:=hk;rcases List.mem_append.1 b with b|b
  ·exact ap ⟨x,b,hl,o,e⟩
  ·simp at b;subst b;simp at hl
theorem Wk.filled {w0 w:World}{d bW pw g l len:Nat}{T:List Int}{s:ck}{m:List da}(h:Wk w0 w d bW pw T s (.slice (ag g) len l) m){i:Nat}{k0:Int}{v0:List (Int×Int)}(hi:s.2[i]?=some (k0,v0)){base c2:Nat}{a2:Option Addr}{vs:List (Int×Int)}
 (n:w.ownsRow base 77 2 (.slice a2 vs.length c2) vs.length (ev vs)):
 Wk w0 (w.setCell ⟨g,i*2+1,none⟩ (.slice a2 vs.length c2)) d bW pw T (s.1,s.2.set i (k0,vs)) (.slice (ag g) len l) (m.set i (k0,a2,c2,vs))/\Kf w0.heap.size w (w.setCell ⟨g,i*2+1,none⟩ (.slice a2 vs.length c2))/\(∀k,eN (m.set i (k0,a2,c2,vs)) k->eN m k\/base<=k):=by
 obtain⟨v,f⟩:=dO h.row g rfl;have hg:=(bR h.row g rfl).1;have a:Kf w0.heap.size w (w.setCell ⟨g,i*2+1,none⟩ (.slice a2 vs.length c2)):=Kf.set f (an rfl) hg;obtain⟨x,j,q⟩:∃x:da,m[i]?=some x/\(x.1,x.2.2.2)=(k0,v0):=by
  have:=hi;rw[<-h.nd,gt,aX] at this
  obtain⟨x,j,e⟩:=Option.map_eq_some_iff.1 this
  exact⟨x,j,e⟩
 have t:x.1=k0:=congrArg Prod.fst q;have u:len=m.length:=by
  rcases h.row.2 with⟨b,_⟩|⟨A,B,C,b,_⟩
  ·simp at b
  ·simp at b;exact b.2.1
 refine⟨⟨(Below.heap_setCell _ _ _ _ (fun c=>?_)).trans h.blk,h.lo,h.mp.same (Below.heap_setCell _ _ _ _ (fun c=>?_)),?_,?_,fun y hy=>?_,h.df.trans (a.below h.df.size)⟩,a,fun k hk=>?_⟩
 ·have c:d=g:=c;have:=h.blk;rw[c,f] at this
  simp at this
 ·have c:bW=g:=c;obtain⟨D,⟨E,F,p,_⟩,_⟩:=h.mp;rw[c,f] at p;simp at p
 ·rw[aM,<-t,oT m i x a2 c2 vs j];have:=h.row;rw[<-u] at this⊢
  exact h7 this _ _
 ·rw[gt,List.map_set];show((gt m).set i (k0,vs))=_;rw[h.nd]
 ·rcases List.mem_or_eq_of_mem_set hy with hy|hy
  ·exact(h.fl y hy).kf a
  ·subst hy;exact(fE.of n).kf a
 ·obtain⟨y,hy,hl,o,e⟩:=hk;rcases List.mem_or_eq_of_mem_set hy with hy|hy
  ·exact ap ⟨y,hy,hl,o,e⟩
  ·subst hy;have e:a2=some ⟨k,o,none⟩:=e;exact an (bR n k (by rw[e];rfl)).1
section
variable {w0:World}{kb bW pw p q N O y g:Nat}{ws:List Int}{sd:Nat}{v0:Value}{a1:Option Addr}{k1:Nat}{Q:List bN}{T:List Int}
theorem a9 {α:Type _}{l₁ l₂:List α}{i:Nat}:l₁.length <= i -> (l₁ ++ l₂)[i]? = l₂[i - l₁.length]?:=List.getElem?_append_right
theorem xc (hq:jT w0 pw p q N O y g ws sd v0 a1 k1 Q)(bd:∀a∈T,0<=a/\a<2000)(cB:T.length<=100000)(n:Nat)(M:ck->Int->ck)(hM:jU w0 kb bW pw T M n)(ai:h6 T (fun a=>pk (ld N y g ws a)) (dj N y g ws Q) n M):
 jU w0 kb bW pw T (fun s a=>((cD M T (s.1++[a],s.2++[(pk (ld N y g ws a),[])]) (dj N y g ws Q a)).2.1,(cD M T (s.1++[a],s.2++[(pk (ld N y g ws a),[])]) (dj N y g ws Q a)).2.2.set s.1.length (pk (ld N y g ws a),(cD M T (s.1++[a],s.2++[(pk (ld N y g ws a),[])]) (dj N y g ws Q a)).1))) (n+1):=by
 intro w s b3 m a h C ha S hl;obtain⟨b5,hi,b6,b7,b8⟩:=info_parts rR;have cC:=C.lt ha S;have b9:=bd a ha;have cb:m.length=s.1.length:=by rw[h.len,C.len]
 have al:=C.more ha S (pk (ld N y g ws a),[])
 have ar:=jh M T (s.1++[a],s.2++[(pk (ld N y g ws a),[])]) (dj N y g ws Q a)
 have G:=km ai al (by simp;omega) (dj N y g ws Q a)
 have cd:=rO N y g ws Q a;have ce:=hq.hm;have be:(cD M T (s.1++[a],s.2++[(pk (ld N y g ws a),[])]) (dj N y g ws Q a)).2.2[s.1.length]?=some (pk (ld N y g ws a),[]):=by rw[G.old s.1.length V,a9 (by rw[C.len];exact ak _),C.len];simp
 have cE:s.1.length<(cD M T (s.1++[a],s.2++[(pk (ld N y g ws a),[])]) (dj N y g ws Q a)).2.1.length:=by
  have:=G.le;simp at this
  omega
 have cf:(cD M T (s.1++[a],s.2++[(pk (ld N y g ws a),[])]) (dj N y g ws Q a)).2.2.length=(cD M T (s.1++[a],s.2++[(pk (ld N y g ws a),[])]) (dj N y g ws Q a)).2.1.length:=G.ok.len;have bg:Hid (∀(i:World)(bi:Value)(ax:List da)(d:Option Addr)(l:Nat),Wk w0 i kb bW pw T (s.1++[a],s.2++[(pk (ld N y g ws a),[])]) bi ax->Lq i d (dj N y g ws Q a)->
  Calls prog 48 #[af kb,.slice d (dj N y g ws Q a).length l] i fun e w'=>∃cg aB a2 c2,e=.returned (.slice a2 (dj N y g ws Q a).length c2)/\w'.ownsRow i.heap.size 77 2 (.slice a2 (dj N y g ws Q a).length c2) (dj N y g ws Q a).length (ev (cD M T (s.1++[a],s.2++[(pk (ld N y g ws a),[])]) (dj N y g ws Q a)).1)/\Wk w0 w' kb bW pw T (cD M T (s.1++[a],s.2++[(pk (ld N y g ws a),[])]) (dj N y g ws Q a)).2 cg aB/\ed w0 i ax w' aB/\(∀k,eN aB k->some k≠(Value.slice a2 (dj N y g ws Q a).length c2).ownBlock)):=
  fun i bi ax d l ch ci=>rQ hM ai ch al (by simp;omega) _ d l ci I
 have bl:Hid (∀w1,Below w0.heap.size w0 w1->Calls prog 77 #[af p,ae a] w1 fun e w'=>e=.returned (.tuple #[ae (pk (ld N y g ws a)),ae (pf (ld N y g ws a)),ae (pc (ld N y g ws a))])/\Below w1.heap.size w1 w'):=fun w1 F=>e9 a w1 (hq.low F).ar;have bn:Hid (∀w1,Below w0.heap.size w0 w1->w1.cell? (ah kb 0)=some (af pw)->Calls prog 189 #[af kb,ae a,ae (pk (ld N y g ws a)),ae (pf (ld N y g ws a))] w1 fun e w'=>∃d l,e=.returned (.slice d (dj N y g ws Q a).length l)/\w'.ownsRow w1.heap.size 2 1 (.slice d (dj N y g ws Q a).length l) (dj N y g ws Q a).length ((dj N y g ws Q a).map (Value.int .i64))/\Below w1.heap.size w1 w'):=
  fun w1 F hc=>w7 (hq.low F) kb hc a b9.1 I
 have cF:=au w0 _ hq.c0;have cj:Hid (∀w1,Below w0.heap.size w0 w1->w1.cell? (ah pw 0)=some (af p)):=fun w1 F=>(hq.low F).c0;have bo:=hF (a:=a) I I;have bp:=kz (s.1.length:Int) (WalkArith.wf_i64 ⟨I,I⟩)
 clear hM ai G al cd ce hq bd;dsimp only;generalize cl:cD M T (s.1++[a],s.2++[(pk (ld N y g ws a),[])]) (dj N y g ws Q a)=R at*;clear cl;generalize dj N y g ws Q a=cG at*;obtain⟨vs,cm⟩:=R;dsimp only at*;generalize pk (ld N y g ws a)=kd at*;generalize pf (ld N y g ws a)=f at*;generalize pc (ld N y g ws a)=cc at*;have H:Hid (Wk w0 w kb bW pw T s b3 m):=h;obtain⟨aF,dx,cn⟩:=dG h.row;subst cn;obtain⟨c0,c1,c2,lk⟩:=h.cells;obtain⟨D,o1,br,bs⟩:=h.mp;have hlo:=h.lo;have bx:Hid (∀(w1:World)(k:Nat),w1.ownsMap prog 3 (plainElem prog 3) bW k (D.put (.int .i64 a) (.lit (.int .i64 (s.1.length:Int))))->Nm w1 bW T (s.1++[a])):=fun w1 k co=>Nm.put o1 br bs ha S co;have bL:Hid (gt m=s.2):=h.nd;clear h br bs C ha S;generalize s.1.length=L at*;subst cb;go_enter func185,ntmps185;go_wp2_with (at_mapUpdate;refine wpList_mapUpdate_own _ rfl _ _ _ 108 rfl 3 3 gz Tryz.underlying108 (plainElem (H:=Unit) prog 3) bW T.length D rfl o1 (by unfold maxLen;omega) _ _ _ rfl rfl bo _ [] bp ?_;intro w1 bM bN;(have bO:Fr (fun k=>k=bW) w w1:=(Fr.refl _ _).grown bN (fun k e=>ap (by cases e;rfl)));(have b:Hid (_/\_/\_/\_/\_):=H.out.turned bO);(have aR:Hid (Nm w1 bW T (s.1++[a])):=bx.out w1 _ bM);(have cp:w1.cell? (ah kb 0)=some (af pw):=by simp[World.cell?,b.out.2.1]);(have y1:=cj.out w1 b.out.2.2.2.2);clear bM bN bO c0 c1 c2 o1 bx)
 refine(bl.out w1 b.out.2.2.2.2).mono ?_;clear bl;rintro e o ⟨rfl,t⟩
 have aT:=(t.block kb (lt_of_some b.out.2.1)).trans b.out.2.1;have bP:o.cell? (ah kb 2)=some (.slice aF m.length dx):=by simp[World.cell?,aT]
 have bQ:Hid (_=_):=aT;have bS:Hid (Nm o bW T (s.1++[a])):=aR.out.same (by obtain⟨cH,cq,_⟩:=aR.out;exact t.block bW cq.lt)
 have aV:=ca b.out.2.2.1 (fun k hk=>t.block k (bR b.out.2.2.1 k hk).2)
 have bT:Hid (_):=aV;have bU:Hid (∀x∈m,fE o x.2.1 x.2.2.2):=fun x cr=>(b.out.2.2.2.1 x cr).kf (Kf.of (B:=0) t)
 have B2:Hid (Below w0.heap.size w0 o):=b.out.2.2.2.2.trans (t.mono b.out.2.2.2.2.size)
 have bV:Hid (ed w0 w m o m):=(show ed w0 w m w1 m from⟨b.out.1,fun k h=>ap h⟩).trans (ed.of t)
 have cI:=B2.out.size;clear b aR aT cp y1 t lk;go_wp2_with (at_builtin;refine wpList_append_own_at _ rfl _ _ 58 rfl w0.heap.size 87 b5 (.agg #[ae 0,.slice none 0 0]) 2 32 Tryz.underlying58 hi b6 b7 b8 rfl Z (.slice aF m.length dx) m.length (nv m) rfl (fC aV _) ⟨o.heap.size,0,none⟩ 1 1 [ae kd,.slice none 0 0] rfl rfl ?_ ?_ ?_ ?_ ?_ ?_;(intro j u v;match j,v with|0,v=>(simp at v;subst v;simp[Addr.add])|1,v=>(simp at v;subst v;simp[Addr.add]));(intro u J;simp at J;rcases J with J|J<;>(subst J;rfl));(unfold maxLen;omega);omega;(simp;omega);intro cJ K a0 bX _ cs;obtain⟨b4,U,ct⟩:=dP a0 (Nat.succ_pos _);subst ct;(have W:Hid (_/\_/\_):=Wk.grown bQ.out hlo bS.out bT.out bL.out bU.out B2.out ((Below.refl o.heap.size o).alloc bJ _) a0 bX);(have u0:K.cell? (ah kb 2)=some (.slice aF m.length dx):=by simp[World.cell?,W.out.2.2]);(have cu:K.frozen? (ah kb 2)=false:=by simp[World.frozen?,W.out.2.2]);clear a0 bX cs bP aV bQ bS bT bL bU B2)
 obtain⟨bY,bZ,_⟩:=W.out;have X:Hid (ed w0 w m (K.setCell ⟨kb,2,none⟩ (.slice (some ⟨b4,0,none⟩) (m.length+1) U)) (m++[(kd,none,0,[])])):=bV.out.trans bZ;have P:Hid (Wk w0 (K.setCell ⟨kb,2,none⟩ (.slice (some ⟨b4,0,none⟩) (m.length+1) U)) kb bW pw T (s.1++[a],s.2++[(kd,[])]) (.slice (ag b4) (m.length+1) U) (m++[(kd,none,0,[])])):=bY;clear W bY bZ u0 cu bV;generalize K.setCell ⟨kb,2,none⟩ (.slice (some ⟨b4,0,none⟩) (m.length+1) U)=i at X P⊢;refine(bn.out i P.out.df P.out.cells.1).mono ?_;clear bn;rintro e cv ⟨d,l,rfl,b0,Y⟩
 go_wp2_with fail;refine(bg.out cv _ _ d l (P.out.below Y) (Lq.of b0)).mono ?_;clear bg;rintro e cw ⟨cK,A,a2,cL,rfl,a3,E,b1,cx⟩
 have cM:A.length=cm.1.length:=E.len.trans cf;obtain⟨cN,cO,cy⟩:=dP E.row I;subst cy;have bP:=E.cells.2.2.1;have cz:m.length<A.length:=I;obtain⟨bb,cP⟩:=eO E.row ((l7 A m.length _ (am cz)).2)
 rw[<-ar] at a3;have ad:Hid (_/\_/\_):=E.filled be a3;have b2:Hid (ed w0 w m cw A):=(X.out.trans (ed.of Y)).trans b1;have cA:=((X.out.trans (ed.of Y)).1).size;generalize (A[m.length]).2.1=q1 at bb;generalize (A[m.length]).2.2.2.length=cQ at bb;generalize (A[m.length]).2.2.1=q3 at bb;rw[ar] at ad;clear b0 Y a3 E b1 cx X P be ar bp bo;go_wp2_with fail;go_ret;exact⟨_,_,rfl,ad.out.1,b2.out.1.trans ad.out.2.1,fun k hk=>(ad.out.2.2 k hk).elim (b2.out.2 k) (fun c=>an (az cA c))⟩
theorem rS (hq:jT w0 pw p q N O y g ws sd v0 a1 k1 Q)(b:∀a∈T,0<=a/\a<2000)(c:T.length<=100000):∀n,jU w0 kb bW pw T (met T (fun a=>pk (ld N y g ws a)) (dj N y g ws Q) n) n
 |0=>fun w s f m a _ d ha e hl=>by have:=d.lt ha e;omega
 |n+1=>xc hq b c n _ (rS hq b c n) (hE n)
end
section
variable {w:World}{pw p q N O y g:Nat}{ws:List Int}{sd:Nat}{v0:Value}{a1:Option Addr}{k1:Nat}{Q:List bN}{l:List Int}{ra:Option Addr}{rc:Nat}
def c_ (N y g:Nat)(ws:List Int)(Q:List bN)(l:List Int):List (Int×Int)×ck:=
 cD (met (dv N y g ws++c8 N y g ws) (fun a=>pk (ld N y g ws a)) (dj N y g ws Q) (dv N y g ws++c8 N y g ws).length) (dv N y g ws++c8 N y g ws) ([],[]) l
theorem rU (N y g:Nat)(ws:List Int)(Q:List bN)(l:List Int):fP (dv N y g ws++c8 N y g ws) (fun a=>pk (ld N y g ws a)) (dj N y g ws Q) ([],[]) (c_ N y g ws Q l).2 (c_ N y g ws Q l).1:=
 km (hE _) (eb.start _) V l
theorem xd (hq:jT w pw p q N O y g ws sd v0 a1 k1 Q)(J:w.cell? (ah pw 3)=some (.slice ra l.length rc))(hl:Lq w ra l)(hm:l.length<=100000):
 Calls prog 18 #[af pw] w fun e w'=>∃W a3 j X u,e=.returned (.agg #[.slice W l.length a3,.slice j X u])/\cS w' W (c_ N y g ws Q l).1/\Ln w' j (c_ N y g ws Q l).2.2/\X=(c_ N y g ws Q l).2.2.length/\Below w.heap.size w w':=by
 have n:=(Below.refl w.heap.size w).alloc bJ (.cells #[.slice none 0 0,.slice none 0 0] 60)
 have Y:=aw w (.cells #[.slice none 0 0,.slice none 0 0] 60)
 have G:=hq.low n;have ad:=hl.kf (Kf.of (B:=0) n)
 have ai:=au w _ J;have al:=(n.cell (p:=ah pw 3) ai).trans J;have bb:pw<(w.alloc (.cells #[.slice none 0 0,.slice none 0 0] 60)).heap.size:=av ai n.size;have bd:w.heap.size<(w.alloc (.cells #[.slice none 0 0,.slice none 0 0] 60)).heap.size:=V;have P:=w8 G.c0 G.ar;have be:=hq.ar.hN';have bg:=hq.ar.hy;have bi:=hq.ar.hO;have bl:=hq.ar.hg;have ar:∀a∈dv N y g ws++c8 N y g ws,0<=a/\a<2000:=fun a ha=>by
  rcases List.mem_append.1 ha with ha|ha
  ·have:=lx a ha;omega
  ·have:=ng a ha;omega
 have ax:(dv N y g ws++c8 N y g ws).length<=100000:=by have o:(dv N y g ws).length<=2000:=gx _ _;have bQ:(c8 N y g ws).length<=2000:=gx _ _;simp;omega
 have aB:Hid (∀(A bW:Nat)(w1:World),Wk (w.alloc (.cells #[.slice none 0 0,.slice none 0 0] 60)) w1 A bW pw (dv N y g ws++c8 N y g ws) ([],[]) (.slice none 0 0) []->Calls prog 48 #[af A,.slice ra l.length rc] w1 fun e w'=>∃bn K a2 c2,e=.returned (.slice a2 l.length c2)/\w'.ownsRow w1.heap.size 77 2 (.slice a2 l.length c2) l.length (ev (c_ N y g ws Q l).1)/\Wk (w.alloc (.cells #[.slice none 0 0,.slice none 0 0] 60)) w' A bW pw (dv N y g ws++c8 N y g ws) (c_ N y g ws Q l).2 bn K/\ed (w.alloc (.cells #[.slice none 0 0,.slice none 0 0] 60)) w1 [] w' K/\(∀k,eN K k->some k≠(Value.slice a2 l.length c2).ownBlock)):=
  fun A bW w1 o=>rQ (rS G ar ax _) (hE _) o (eb.start _) V l ra rc (ad.kf (Kf.of (B:=0) o.df)) hm
 have bo:Hid ((c_ N y g ws Q l).1.length=l.length):=jh _ _ _ _;clear hq G hl ad be bg bi bl ar ax J;generalize c_ N y g ws Q l=R at*;obtain⟨bR,s⟩:=R;generalize dv N y g ws++c8 N y g ws=T at*;dsimp only at*;go_enter func18,ntmps18;go_wp2_with fail;refine P.mono ?_;clear P;rintro e w1 ⟨A,bW,rfl,o⟩
 have bp:=(o.df.cell (p:=ah pw 3) bb).trans al;have aF:Hid (_):=o;clear o;go_wp2_with fail;refine(aB.out A bW w1 aF.out).mono ?_;clear aB;rintro e f ⟨bS,m,a2,c2,rfl,H,d,br,_⟩
 obtain⟨j,u,bs⟩:=dG d.row;subst bs;have bT:=d.cells.2.2.1;have aR:=n.trans (d.df.mono n.size)
 have t:=(d.df.block _ bd).trans Y;have bx:f.cell? (ah w.heap.size 0)=some (.slice none 0 0):=by simp[World.cell?,t]
 have y1:f.cell? (ah w.heap.size 1)=some (.slice none 0 0):=by simp[World.cell?,t]
 have bU:f.frozen? (ah w.heap.size 0)=false:=by simp[World.frozen?,t]
 have bV:f.frozen? (ah w.heap.size 1)=false:=by simp[World.frozen?,t]
 have l2:w.heap.size<f.heap.size:=lt_of_some t;have bL:Hid (_/\_):=⟨d,H⟩
 have bM:Hid (m.length=s.2.length):=d.len;have bN:Hid (_):=aR;have aT:Hid (_=_):=t;clear d H br aR t n Y bp al aF;go_wp2_with fail;obtain⟨C,E⟩:∃C,C=(f.setCell ⟨w.heap.size,0,none⟩ (.slice a2 l.length c2)).setCell ⟨w.heap.size,1,none⟩ (.slice j m.length u):=⟨_,rfl⟩
 rw[<-E];have g0:C.cell? (ah w.heap.size 0)=some (.slice a2 l.length c2):=by rw[E,aC _ _ _ _ V];exact aH _ _ _ bx
 have g1:C.cell? (ah w.heap.size 1)=some (.slice j m.length u):=by rw[E];exact aH _ _ _ ((aC f ⟨w.heap.size,0,none⟩ ⟨w.heap.size,1,none⟩ _ V).trans y1)
 have D:Fr (fun k=>k=w.heap.size) f C:=by rw[E];exact((Fr.refl (fun k=>k=w.heap.size) f).set w.heap.size 0 _ rfl).set w.heap.size 1 _ rfl
 clear E;obtain⟨d,H⟩:=bL.out;have aV:∀{M:Option Addr}{L:List (Int×Int)},fE f M L->cS C M L:=fun {M L} h=>h.1.keep D.size (fun hp b e=>by
  obtain⟨b0,bX,bY,bO,S⟩:=h.2 hp;rw[bO] at e;cases e;refine D.block _ (lt_of_some S) (fun c=>?_)
  have c:b0=w.heap.size:=c;rw[c,aT.out] at S;simp at S)
 refine aW (v:=.agg #[.slice a2 l.length c2,.slice j m.length u]) (by simp[results,results18,go_sem,g0,g1]) rfl ⟨a2,c2,j,m.length,u,rfl,aV (fE.of (by rw[bo.out];exact H)),⟨m,d.nd,fun x U=>aV (d.fl x U),fun hp=>?_⟩,bM.out,bN.out.trans (D.below (Nat.le_of_lt l2) (fun k e=>Nat.le_of_eq (Eq.symm e)))⟩
 obtain⟨b,bZ,e⟩:=dP d.row hp;cases e;obtain⟨b1,F⟩:=dO d.row b rfl;have a0:b≠w.heap.size:=fun c=>by rw[c,aT.out] at F;simp at F
 refine⟨b,0,rfl,av (lt_of_some F) D.size,fun i x U=>?_⟩
 obtain⟨n1,bP⟩:=l7 m i x U;rw[Nat.zero_add];exact⟨(aD (a:=⟨b,i*2,none⟩) (D.block b (lt_of_some F) a0)).trans (eO d.row n1).1,(aD (a:=⟨b,i*2+1,none⟩) (D.block b (lt_of_some F) a0)).trans (eO d.row bP).1⟩
end
abbrev cE:=Int×List (Int×Int)×Bool×Bool
structure b_ where
 T:List cE
 rs:List (Int×Int)
 rg:List bN
 wt:List bN
theorem o9:∀(l:List (Int×Int))(i:Nat)(x:Int×Int),ev (l.set i x)=((ev l).set (i*2) (ae x.1)).set (i*2+1) (ae x.2)
 |[],_,_=>rfl
 |e::l,0,x=>by simp[ev]
 |e::l,i+1,x=>by
  have a:=o9 l i x;have b:ev (e::l)=ae e.1::ae e.2::ev l:=by simp[ev]
  have c:ev ((e::l).set (i+1) x)=ae e.1::ae e.2::ev (l.set i x):=by simp[ev]
  rw[b,c,a,show(i+1)*2=i*2+1+1 by omega];simp
def dl (L:List Bool)(v:Int×Int):Bool:=!(v.1==3)||L.getD v.2.toNat false
def dV (L:List Bool)(v:Int×Int):List Bool:=if dl L v=true then L else L.set v.2.toNat true
def t0:cE:=(0,[],false,false)
def fj (T:List cE)(wt:List bN)(X:Nat->Prop)(i:Nat)(v:Int×Int):Prop:=
 (((T.getD i t0).1=1\/(T.getD i t0).1=2)/\v∈(T.getD i t0).2.1)\/((T.getD i t0).1=3/\v=(T.getD i t0).2.1.getD 1 (0,0))\/
 ((T.getD i t0).1=4/\(((T.getD i t0).2.1.getD 0 (0,0)).1=3->X ((T.getD i t0).2.1.getD 0 (0,0)).2.toNat)/\v=(T.getD i t0).2.1.getD 1 (0,0))\/
 ((T.getD i t0).1=5/\∃e∈wt,e.1=i/\v=(3,e.2))
theorem fj.mono {T:List cE}{wt:List bN}{X Y:Nat->Prop}(a:∀i,X i->Y i){i:Nat}{v:Int×Int}(h:fj T wt X i v):fj T wt Y i v:=by
 rcases h with h|h|⟨b,d,e⟩|h
 ·exact ap h
 ·exact an (ap h)
 ·exact an (an (ap ⟨b,fun c=>a _ (d c),e⟩))
 ·exact an (an (an h))
def eF (T:List cE)(wt:List bN)(X:Nat->Prop):Prop:=∀i,i<T.length->X i->∀v,fj T wt X i v->v.1=3->X v.2.toNat
def b8 (L:List Bool):Nat->Prop:=fun i=>L.getD i false=true
structure iF (T:List cE)(wt:List bN)(is out:List Bool):Prop where
 len:out.length=is.length
 up:∀i,b8 is i->b8 out i
 cl:eF T wt (b8 out)
 lt:∀X,eF T wt X->(∀i,b8 is i->X i)->∀i,b8 out i->X i
theorem xe (L:List Bool)(v:Int×Int):(dV L v).length=L.length:=by
 unfold dV;split
 ·rfl
 ·rw[aM]
theorem l_ {L:List Bool}{v:Int×Int}(h:dl L v=false):v.1=3/\L.getD v.2.toNat false=false:=by unfold dl at h;rw[Bool.or_eq_false_iff] at h;exact⟨by simpa using h.1,h.2⟩
theorem ly {L:List Bool}{v:Int×Int}(h:dl L v=true):v.1=3->b8 L v.2.toNat:=fun a=>by unfold dl at h;rw[a] at h;unfold b8;simpa using h
theorem jp (L:List Bool)(i j:Nat)(h:i<L.length):(L.set i true).getD j false=if i=j then true else L.getD j false:=by
 rw[aj,aj,List.getElem?_set];split
 ·rename_i e;subst e;rfl
 ·rfl
def cnt (L:List Bool):Nat:=(L.filter (fun b=>!b)).length
theorem rV:∀(L:List Bool)(i:Nat),L.getD i true=false->cnt (L.set i true)+1=cnt L
 |[],i,h=>by simp at h
 |b::L,0,h=>by
  have h:b=false:=by simpa using h
  subst h;simp[cnt]
 |b::L,i+1,h=>by
  have h:L.getD i true=false:=by simpa using h
  have a:=rV L i h;unfold cnt at a⊢;rw[List.set_cons_succ];cases b
  ·simp only [Bool.not_false,List.filter_cons_of_pos,List.length_cons];omega
  ·rw[List.filter_cons_of_neg V,List.filter_cons_of_neg V];exact a
theorem me (L:List Bool)(v:Int×Int)(i:Nat)(h:b8 L i):b8 (dV L v) i:=by
 unfold dV;split
 ·exact h
 ·unfold b8 at h⊢;by_cases c:v.2.toNat<L.length
  ·rw[jp _ _ _ c];split
   ·rfl
   ·exact h
  ·rw[List.set_eq_of_length_le I];exact h
theorem nh {L:List Bool}{v:Int×Int}(b:v.1=3->v.2.toNat<L.length):v.1=3->b8 (dV L v) v.2.toNat:=fun a=>by
 cases h:dl L v
 ·unfold dV;rw[ao (by rw[h];simp)];unfold b8;rw[jp _ _ _ (b a),aq rfl]
 ·unfold dV;rw[aq h];exact ly h a
theorem xf {L:List Bool}{v:Int×Int}{X:Nat->Prop}(h:∀i,b8 L i->X i)(a:v.1=3->X v.2.toNat):∀i,b8 (dV L v) i->X i:=fun i hi=>by
 cases hs:dl L v
 ·have b:=(l_ hs).1;unfold dV at hi;rw[ao (by rw[hs];simp)] at hi;unfold b8 at hi;by_cases c:v.2.toNat<L.length
  ·rw[jp _ _ _ c] at hi;split at hi
   ·rename_i e;rw[<-e];exact a b
   ·exact h i hi
  ·rw[List.set_eq_of_length_le I] at hi;exact h i hi
 ·unfold dV at hi;rw[aq hs] at hi;exact h i hi
theorem xg {L:List Bool}{v:Int×Int}(b:v.1=3->v.2.toNat<L.length)(h:dl L v=false):cnt (dV L v)<cnt L:=by
 obtain⟨d,a⟩:=l_ h;unfold dV;rw[ao (by rw[h];simp)];have c:=b d;have e:L.getD v.2.toNat true=false:=by rw[aj,am c] at a⊢;simpa using a
 have:=rV L v.2.toNat e;omega
structure eG (T:List cE)(wt:List bN)(is P0 L:List Bool)(more:Bool)(i:Nat):Prop where
 len:L.length=is.length
 up:∀k,b8 is k->b8 L k
 lt:∀X,eF T wt X->(∀k,b8 is k->X k)->∀k,b8 L k->X k
 no:more=false->L=P0/\∀k,k<i->k<T.length->b8 L k->∀v,fj T wt (b8 L) k v->v.1=3->b8 L v.2.toNat
 yes:more=true->cnt L<cnt P0
theorem eG.add {T:List cE}{wt:List bN}{is b L:List Bool}{more:Bool}{i:Nat}(h:eG T wt is b L more i)(hi:i<T.length)(d:b8 L i){v:Int×Int}(hk:fj T wt (b8 L) i v)(f:v.1=3->v.2.toNat<L.length):eG T wt is b (dV L v) (!dl L v||more) i:=by
 refine⟨(xe L v).trans h.len,fun k hk=>me L v k (h.up k hk),fun X a c k g=>xf (h.lt X a c) (fun j=>a i hi (h.lt X a c i d) v (hk.mono (h.lt X a c)) j) k g,fun hm=>?_,fun hm=>?_⟩
 ·rw[Bool.or_eq_false_iff] at hm;obtain⟨m1,l⟩:=hm;have m1:dl L v=true:=by simpa using m1
  have e:dV L v=L:=by unfold dV;rw[aq m1]
  rw[e];exact h.no l
 ·cases hs:dl L v
  ·have m:=xg f hs;have n:cnt L<=cnt b:=by
    cases more
    ·rw[(h.no rfl).1];exact ak _
    ·exact Nat.le_of_lt (h.yes rfl)
   omega
  ·have e:dV L v=L:=by unfold dV;rw[aq hs]
   rw[e];rw[hs] at hm;exact h.yes (by simpa using hm)
theorem eG.next {T:List cE}{wt:List bN}{is a L:List Bool}{more:Bool}{i:Nat}(h:eG T wt is a L more i)(g:more=false->i<T.length->b8 L i->∀v,fj T wt (b8 L) i v->v.1=3->b8 L v.2.toNat):eG T wt is a L more (i+1):=
 ⟨h.len,h.up,h.lt,fun hm=>⟨(h.no hm).1,fun k hk b d v e f=>by
  by_cases c:k<i
  ·exact(h.no hm).2 k c b d v e f
  ·obtain rfl:k=i:=I;exact g hm b d v e f⟩,h.yes⟩
theorem eG.start {T:List cE}{wt:List bN}{is a:List Bool}(b:a.length=is.length)(c:∀k,b8 is k->b8 a k)(d:∀X,eF T wt X->(∀k,b8 is k->X k)->∀k,b8 a k->X k):eG T wt is a a false 0:=
 ⟨b,c,d,fun _=>⟨rfl,fun k hk=>absurd hk I⟩,fun h=>by cases h⟩
theorem eG.done {T:List cE}{wt:List bN}{is a L:List Bool}(h:eG T wt is a L false T.length):iF T wt is L:=
 ⟨h.len,h.up,fun i hi b v c d=>(h.no rfl).2 i hi hi b v c d,h.lt⟩
def cv (T:List cE)(i:Nat):Prop:=i<T.length/\(T.getD i t0).2.2.2=false
structure gX (T:List cE)(wt:List bN):Prop where
 fl:∀i,cv T i->(T.getD i t0).1=3\/(T.getD i t0).1=4->(T.getD i t0).2.1.length=2
 fv:∀i,cv T i->∀v∈(T.getD i t0).2.1,v.1=3->0<=v.2/\cv T v.2.toNat
 wv:∀e∈wt,0<=e.2/\cv T e.2.toNat
 tl:∀i,(T.getD i t0).2.1.length<=12
theorem getD_in {a:Type}{l:List a}{i:Nat}{x:a}(h:i<l.length):l.getD i x∈l:=by rw[aj,am h];exact aK h
theorem gX.rX {T:List cE}{wt:List bN}(h:gX T wt){X:Nat->Prop}{i:Nat}(hi:cv T i){v:Int×Int}(b:fj T wt X i v)(a:v.1=3):0<=v.2/\cv T v.2.toNat:=by
 rcases b with⟨_,hm⟩|⟨hk,e⟩|⟨hk,_,e⟩|⟨_,c,he,_,e⟩
 ·exact h.fv i hi v hm a
 ·exact h.fv i hi v (by rw[e];exact getD_in (by rw[h.fl i hi (ap hk)];decide)) a
 ·exact h.fv i hi v (by rw[e];exact getD_in (by rw[h.fl i hi (an hk)];decide)) a
 ·rw[e];exact h.wv c he
theorem gX.cls {T:List cE}{wt:List bN}(h:gX T wt):eF T wt (cv T):=fun _ _ a _ b c=>(h.rX a b c).2
theorem eG.rY {T:List cE}{wt:List bN}{is a L:List Bool}{more:Bool}{i:Nat}(h:eG T wt is a L more i)(b:gX T wt)(hi:∀k,b8 is k->cv T k){k:Nat}(hk:b8 L k):cv T k:=h.lt _ b.cls hi k hk
theorem eG.bd {T:List cE}{wt:List bN}{is b L:List Bool}{more:Bool}{i:Nat}(h:eG T wt is b L more i)(a:gX T wt)(hi:∀k,b8 is k->cv T k)(hl:is.length=T.length)(c:b8 L i){X:Nat->Prop}{v:Int×Int}(d:fj T wt X i v):v.1=3->0<=v.2/\v.2<L.length:=fun e=>by obtain⟨f,g⟩:=a.rX (h.rY a hi c) d e;have:=g.1;have:=h.len;exact⟨f,I⟩
def gA (a:Bool)(t:cE):Bool:=t.2.2.1&&!t.2.2.2&&!a
def f1 (L:List Bool)(v:Int×Int):List Bool:=if v.1=3 then L.set v.2.toNat true else L
def iG (T:List cE)(rs:List (Int×Int))(a:Bool):List Bool:=rs.foldl f1 (T.map (gA a))
theorem rZ (L:List Bool)(v:Int×Int):(f1 L v).length=L.length:=by
 unfold f1;split
 ·rw[aM]
 ·rfl
theorem ni (T:List cE)(rs:List (Int×Int))(a:Bool):(iG T rs a).length=T.length:=by
 have key:∀(rs:List (Int×Int))(L:List Bool),(rs.foldl f1 L).length=L.length:=fun rs=>by
  induction rs with
  |nil=>intro L;rfl
  |cons v rs b=>intro L;rw[aI,b,rZ]
 unfold iG;rw[key,aE]
theorem xh {L:List Bool}{v:Int×Int}{i:Nat}:b8 (f1 L v) i↔b8 L i\/(v.1=3/\v.2.toNat=i/\i<L.length):=by
 unfold f1;by_cases a:v.1=3
 ·rw[aq a];unfold b8;by_cases hl:v.2.toNat<L.length
  ·rw[jp _ _ _ hl];constructor
   ·intro h;split at h
    ·rename_i e;exact an ⟨a,e,I⟩
    ·exact ap h
   ·rintro(h|⟨_,e,_⟩)
    ·split
     ·rfl
     ·exact h
    ·rw[aq e]
  ·rw[List.set_eq_of_length_le I];exact⟨ap,fun h=>h.elim id (fun⟨_,e,b⟩=>absurd b I)⟩
 ·rw[ao a];exact⟨ap,fun h=>h.elim id (fun⟨e,_⟩=>absurd e a)⟩
theorem ay {α:Type _}(y:α){a:α}{l:List α}:a ∈ l -> a ∈ y :: l:=by intros;apply List.mem_cons_of_mem<;>assumption
theorem r4:∀(rs:List (Int×Int))(L:List Bool)(i:Nat),b8 (rs.foldl f1 L) i↔b8 L i\/(i<L.length/\∃v∈rs,v.1=3/\v.2.toNat=i)
 |[],L,i=>by simp
 |v::rs,L,i=>by
  rw[aI,r4 rs,xh,rZ];constructor
  ·rintro((h|⟨b,a,c⟩)|⟨b,u,d,a⟩)
   ·exact ap h
   ·exact an ⟨c,v,V,b,a⟩
   ·exact an ⟨b,u,ay _ d,a⟩
  ·rintro(h|⟨b,u,d,a,c⟩)
   ·exact ap (ap h)
   ·rcases List.mem_cons.1 d with e|e
    ·rw[e] at a c;exact ap (an ⟨a,c,b⟩)
    ·exact an ⟨b,u,e,a,c⟩
theorem xi (a:Bool)(T:List cE)(i:Nat):b8 (T.map (gA a)) i↔i<T.length/\(T.getD i t0).2.2.1=true/\(T.getD i t0).2.2.2=false/\a=false:=by
 unfold b8;by_cases h:i<T.length
 ·rw[aj,aX,am h,aj,am h];simp[gA,h,and_assoc]
 ·rw[aj,List.getElem?_eq_none (by rw[aE];omega)];simp[h]
theorem kB (T:List cE)(rs:List (Int×Int))(c:Bool)(i:Nat):b8 (iG T rs c) i↔i<T.length/\(((T.getD i t0).2.2.1=true/\(T.getD i t0).2.2.2=false/\c=false)\/∃v∈rs,v.1=3/\v.2.toNat=i):=by
 unfold iG;rw[r4,xi,aE];constructor
 ·rintro(⟨b,a⟩|⟨b,a⟩)
  ·exact⟨b,ap a⟩
  ·exact⟨b,an a⟩
 ·rintro⟨b,a|a⟩
  ·exact ap ⟨b,a⟩
  ·exact an ⟨b,a⟩
def g8 (p:Int×Int)(t:cE):Int×Int:=if t.2.2.2=true then p else if t.2.2.1=true then(p.1,p.2+(1+t.2.1.length)) else(p.1+(1+t.2.1.length),p.2)
def d8 (l:List cE):Int×Int:=l.foldl g8 (0,0)
theorem r5 (l:List cE)(t:cE):d8 (l++[t])=g8 (d8 l) t:=by simp[d8,List.foldl_append]
theorem mf (l:List cE)(h:∀t∈l,t.2.1.length<=12):0<=(d8 l).1/\(d8 l).1<=13*l.length/\0<=(d8 l).2/\(d8 l).2<=13*l.length:=by
 have key:∀(l:List cE)(p:Int×Int),(∀t∈l,t.2.1.length<=12)->p.1<=(l.foldl g8 p).1/\(l.foldl g8 p).1<=p.1+13*l.length/\p.2<=(l.foldl g8 p).2/\(l.foldl g8 p).2<=p.2+13*l.length:=by
  intro l
  induction l with
  |nil=>intro p _;simp
  |cons t l a=>
   intro p hl;have c:=a (g8 p t) (fun x b=>hl x (ay _ b))
   have d:=hl t V;rw[aI];have e:p.1<=(g8 p t).1/\(g8 p t).1<=p.1+13/\p.2<=(g8 p t).2/\(g8 p t).2<=p.2+13:=by
    unfold g8;split
    ·omega
    ·split
     ·dsimp only;omega
     ·dsimp only;omega
   simp only [List.length_cons];omega
 have:=key l (0,0) h;unfold d8;dsimp only at this
 omega
section
variable {T:List cE}{wt:List bN}
theorem eF.less {C:List bN}{X:Nat->Prop}(h:eF T (wt++C) X):eF T wt X:=fun i hi a v b c=>h i hi a v (by
 rcases b with h|h|h|⟨d,e,he,f⟩
 ·exact ap h
 ·exact an (ap h)
 ·exact an (an (ap h))
 ·exact an (an (an ⟨d,e,aL _ he,f⟩))) c
theorem eF.more {C:List bN}{X:Nat->Prop}(h:eF T wt X)(g:∀e∈C,X e.2.toNat):eF T (wt++C) X:=fun i hi b v j c=>by
 rcases j with a|a|a|⟨a,e,he,k,f⟩
 ·exact h i hi b v (ap a) c
 ·exact h i hi b v (an (ap a)) c
 ·exact h i hi b v (an (an (ap a))) c
 ·rcases List.mem_append.1 he with d|d
  ·exact h i hi b v (an (an (an ⟨a,e,d,k,f⟩))) c
  ·rw[f];exact g e d
theorem iF.less {C:List bN}{is a:List Bool}(h:iF T (wt++C) is a)(b:∀e∈C,b8 is e.2.toNat):iF T wt is a:=
 ⟨h.len,h.up,h.cl.less,fun X c hi=>h.lt X (c.more (fun e he=>hi _ (b e he))) hi⟩
theorem iF.uniq {is a b:List Bool}(h:iF T wt is a)(c:iF T wt is b):a=b:=by
 refine List.ext_getElem (h.len.trans c.len.symm) (fun i d e=>?_)
 have key:b8 a i↔b8 b i:=⟨fun q=>h.lt _ c.cl c.up i q,fun q=>c.lt _ h.cl h.up i q⟩
 unfold b8 at key;rw[aj,am d,aj,am e] at key;have key:a[i]=true↔b[i]=true:=key;cases ha:a[i]<;>cases hb:b[i]<;>simp_all
end
def cn (L:List Bool)(x:Int):Bool:=L.getD x.toNat false
def dp (g:List Bool->List Bool)(L:List Bool)(x:Int):List Bool:=g (L.set x.toNat true)
def f2 (T:List cE)(L:List Bool):Nat->Int
 |0=>0
 |i+1=>if L.getD i false=true then f2 T L i+(1+(T.getD i t0).2.1.length) else f2 T L i
def e3 (L:List Bool)(i:Nat)(t:cE):cE:=
 if L.getD i false=true then
  (t.1,(if t.1=4/\dl L (t.2.1.getD 0 (0,0))=false then[(2,0),(2,0)] else if t.1=3/\dl L (t.2.1.getD 0 (0,0))=false then[(2,0),t.2.1.getD 1 (0,0)] else t.2.1),true,t.2.2.2)
 else(t.1,[],t.2.2.1,true)
def dz (L:List Bool)(T:List cE):Nat->List cE
 |0=>T
 |i+1=>(dz L T i).set i (e3 L i (T.getD i t0))
def b_.c0 (g:List Bool->List Bool)(s:b_)(a:Bool):List Bool:=g (iG s.T s.rs a)
def b_.cR (g:List Bool->List Bool)(s:b_)(a:Bool):List Bool×List bN×List bN:=
 turns cn (dp g) (s.rg.length+1) (s.rg.filter (fun e=>!cn (s.c0 g a) e.2)) (s.c0 g a) []
def b_.cF (g:List Bool->List Bool)(s:b_)(bT:Int)(a:Bool):Bool:=
 (!a&&decide (bT-(d8 s.T).2<(d8 s.T).1))||decide (bT<f2 s.T (s.cR g a).1 s.T.length)
def b_.cut (g:List Bool->List Bool)(s:b_)(bT:Int)(a:Bool):b_:=
 if s.cF g bT a=true then s else
  {T:=dz (s.cR g a).1 s.T s.T.length,rs:=s.rs,rg:=s.rg.filter (fun e=>cn (s.c0 g a) e.2&&cn (s.cR g a).1 e.1),wt:=(s.wt++(s.cR g a).2.1).filter (fun e=>cn (s.cR g a).1 e.1)}
def b_.g9 (g:List Bool->List Bool)(s:b_)(bT:Int)(a:Bool):Int:=if s.cF g bT a=true then 3 else 0
def e_ (T:List cE)(wt:List bN)(g:List Bool->List Bool):Prop:=∀is:List Bool,is.length=T.length->(∀k,b8 is k->cv T k)->iF T wt is (g is)
theorem iH (L:List Bool)(T:List cE):∀i,(dz L T i).length=T.length
 |0=>rfl
 |i+1=>by rw[dz,aM];exact iH L T i
theorem o_ (L:List Bool)(T:List cE):∀(i j:Nat),i<=T.length->j<T.length->(dz L T i).getD j t0=if j<i then e3 L j (T.getD j t0) else T.getD j t0
 |0,j,_,_=>by rw[ao I];rfl
 |i+1,j,hi,a=>by
  have b:=o_ L T i j I a;rw[dz,aj,List.getElem?_set];by_cases e:i=j
  ·subst e;rw[aq rfl,aq (by rw[iH];exact a),aq I];rfl
  ·rw[ao e,<-aj,b];by_cases c:j<i
   ·rw[aq c,aq I]
   ·rw[ao c,ao I]
theorem r6 (T:List cE)(L:List Bool)(h:∀i,(T.getD i t0).2.1.length<=12):∀i,0<=f2 T L i/\f2 T L i<=13*i
 |0=>by simp[f2]
 |i+1=>by
  have a:=r6 T L h i;have:=h i;unfold f2;split
  ·omega
  ·omega
section
variable {T:List cE}{wt:List bN}{g:List Bool->List Bool}
structure fp (T:List cE)(L:List Bool):Prop where
 len:L.length=T.length
 al:∀k,b8 L k->cv T k
theorem e_.ok (hg:e_ T wt g)(b:gX T wt){L:List Bool}(h:fp T L):fp T (g L)/\∀k,b8 L k->b8 (g L) k:=by have a:=hg L h.len h.al;exact⟨⟨a.len.trans h.len,fun k hk=>a.lt _ b.cls h.al k hk⟩,a.up⟩
theorem fp.put {L:List Bool}(h:fp T L){x:Nat}(a:cv T x):fp T (L.set x true)/\b8 (L.set x true) x/\∀k,b8 L k->b8 (L.set x true) k:=by
 have hl:x<L.length:=by rw[h.len];exact a.1
 refine⟨⟨by rw[aM];exact h.len,fun k hk=>?_⟩,?_,fun k hk=>?_⟩
 ·unfold b8 at hk;rw[jp _ _ _ hl] at hk;split at hk
  ·rename_i e;rw[<-e];exact a
  ·exact h.al k hk
 ·unfold b8;rw[jp _ _ _ hl,aq rfl]
 ·unfold b8 at hk⊢;rw[jp _ _ _ hl];split
  ·rfl
  ·exact hk
theorem fp.dp (hg:e_ T wt g)(b:gX T wt){L:List Bool}(h:fp T L){x:Int}(c:cv T x.toNat):fp T (dp g L x)/\b8 (dp g L x) x.toNat/\∀k,b8 L k->b8 (dp g L x) k:=by obtain⟨d,e,f⟩:=h.put c;obtain⟨q1,a⟩:=hg.ok b d;exact⟨q1,a _ e,fun k hk=>a _ (f k hk)⟩
end
structure bM (F:Nat->Prop)(w:World)(F':Nat->Prop)(w':World):Prop where
 fr:Fr F w w'
 sub:∀b,F' b->F b\/w.heap.size<=b
theorem bM.refl (F:Nat->Prop)(w:World):bM F w F w:=⟨Fr.refl _ _,fun _ h=>ap h⟩
theorem bM.trans {F a d:Nat->Prop}{w w' e:World}(h:bM F w a w')(k:bM a w' d e):bM F w d e:=
 ⟨h.fr.trans k.fr h.sub,fun b f=>(k.sub b f).elim (h.sub b) (fun c=>an (az h.fr.size c))⟩
theorem bM.of {F:Nat->Prop}{w w':World}(h:Below w.heap.size w w'):bM F w F w':=⟨Fr.of h,fun _ h=>ap h⟩
theorem bM.below {F a:Nat->Prop}{w w' b:World}(h:bM F w a w')(c:Below w'.heap.size w' b):bM F w a b:=h.trans (bM.of c)
theorem a5 {α:Type _}{i:Nat}{l:List α}:(List.take i l).length = Min.min i l.length:=List.length_take ..
theorem r7 {w:World}{base g n b:Nat}{e:TypeId}{xs:List Value}(h:w.ownsRow base e 1 (.slice (ag g) n b) n xs)(m:Nat)(hm:m<=n):w.ownsRow base e 1 (.slice (ag g) m b) m (xs.take m):=by
 obtain⟨o,c⟩:=h;rcases c with⟨a,_⟩|⟨p,q,d,a,f,i,s,j,k,l⟩
 ·simp at a
 ·simp at a;obtain⟨rfl,rfl⟩:=a;refine⟨by rw[a5];omega,an ⟨g,b,d,rfl,f,i,I,j,k,?_⟩⟩
  rw[<-l,List.take_take]
  congr 1
  omega
theorem r8 {w:World}{base g n b:Nat}{e:TypeId}{xs:List Value}(h:w.ownsRow base e 1 (.slice (ag g) n b) n xs):n<=b/\b<=maxLen:=by
 rcases h.2 with⟨a,_⟩|⟨f,i,j,a,k,l,c,d,m,o⟩
 ·simp at a
 ·simp at a;obtain⟨rfl,rfl⟩:=a;exact⟨c,d⟩
end Go.Proofs.YtjpjpjemibgjpaaGreat
