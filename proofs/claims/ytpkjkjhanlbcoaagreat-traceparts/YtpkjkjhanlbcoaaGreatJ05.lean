import Derived.Test.YtpkjkjhanlbcoaaGreatJ04
namespace Go.Proofs.YtpkjkjhanlbcoaaGreat
set_option maxRecDepth 100000
set_option maxHeartbeats 2000000
open Tryz
open Go.RowKit W Kp ck
theorem lE {P:Prop}(h:P:=by rw[hW0,aY _ _ _ _ ac];exact a_ _ _ _ y0):P:=h
theorem xD {P:Prop}(h:P:=by
 have E2:=hide ((o2 a).trans hbt.symm)
 have E3:aA (bt=true->_=_):=fun e=>o3 a (by rw[hbt] at e;simpa using e)
 clear o2 o3 hbt oc HJ;go_wp2_with (at_lookup;refine wpList_lookup_own_ok_int _ rfl _ _ 127 rfl 3 3 .i64 iY underlying127 underlying3 (l8 _) c.ct k.T.length D rfl o1 _ _ rfl xE ?_;intro z hat hwc;rw[E2.o];have E4:=hide (fun e=>by have:=hat.symm.trans (E3.o e);simpa using this);clear hat hwc)
 go_ret2;exact⟨z,rfl,E4.o,hb1⟩):P:=h
theorem qp {P:Prop}(h:P:=by rw[hW0];exact a_ _ _ _ ((aY w1 ⟨w.heap.size,0,none⟩ ⟨w.heap.size,1,none⟩ _ ac).trans y1)):P:=h
theorem qq {P:Prop}(h:P:=by
 go_wp2_with fail;refine P.mono ?_;rintro e w1 ⟨v,rfl,hv,hb1⟩
 have hv:=hv trivial;subst hv;go_wp2;go_ret;exact⟨rfl,hb1⟩):P:=h
theorem xF {P:Prop}(h:P:=by
 have hk:0<l.length->∀b,ad=some b->w'.heap[b.block]?=w.heap[b.block]?:=fun hp b e=>by obtain⟨b0,o0,cs,e0,hb⟩:=h.2 hp;rw[e0] at e;cases e;exact k.im _ _ _ _ hb ae ae
 refine⟨h.1.keep k.size hk,fun hp=>?_⟩
 obtain⟨b0,o0,cs,e0,hb⟩:=h.2 hp;exact⟨b0,o0,cs,e0,(hk hp _ e0).trans hb⟩):P:=h
theorem xG {P:Prop}(h:P:=by
 go_wp2_with fail;refine P.mono ?_;rintro e w1 ⟨v,rfl,hv,hb1⟩
 have hv:=hv trivial;subst hv;go_wp2_with fail;refine(sr v w1).mono ?_;rintro e w2 ⟨rfl,hb2⟩
 go_wp2;go_ret;exact⟨rfl,hb1.trans (hb2.mono hb1.size)⟩):P:=h
theorem xH {P:Prop}(h:P:=by rw[hW0];exact a_ _ _ _ ((aY w3 ⟨w.heap.size,0,none⟩ ⟨w.heap.size,1,none⟩ _ ac).trans y1)):P:=h
theorem xI {P:Prop}(h:P:=by simp only [World.setCell,Array.getElem?_modify,if_true,((hb1 _ (lt_of_some h.cb) (by grind [cQ.k1])).trans h.cb),Option.map_some];simp):P:=h
theorem xJ {P:Prop}(h:P:=by
 go_wp2_with fail;refine P.mono ?_;rintro e w1 ⟨rfl,hb1⟩
 go_wp2_with fail;go_ret2;exact⟨0,rfl,fun h=>by simp at h,hb1⟩):P:=h
def eu (q:List ce)(g:Int):List Int:=(q.filter (fun e=>e.1==g)).map (·.2)
theorem DL (q:List ce)(g:Int)(j:Nat)(h:j<q.length)(e:(q.getD j (0,0)).1=g):eu (q.take (j+1)) g=eu (q.take j) g++[(q.getD j (0,0)).2]:=by unfold eu;rw[gL q j h (0,0),List.filter_append,List.map_append,List.filter_cons,e];simp
theorem DM (q:List ce)(g:Int)(j:Nat)(h:j<q.length)(e:¬(q.getD j (0,0)).1=g):eu (q.take (j+1)) g=eu (q.take j) g:=by unfold eu;rw[gL q j h (0,0),List.filter_append,List.map_append,List.filter_cons];rw[aI (by simpa using e)];simp
theorem o8 (q:List ce)(g:Int):(eu q g).length<=q.length:=by unfold eu;rw[aZ];exact bA _ _
theorem sV (w:az)(p:Nat)(v0:Value)(a1:Option Addr)(k1:Nat)(q:List ce)(g:Int)(h:w.heap[p]?=some (.cells #[v0,.slice a1 q.length k1] 153 (0,0)))(hp:dz w a1 q)(hm:q.length<=90000):
 Calls prog 252 #[aq p,ak g] w fun e w'=>∃ad cap,e=.returned (.slice ad (eu q g).length cap)/\w'.ownsRow w.heap.size 2 1 (.slice ad (eu q g).length cap) (eu q g).length ((eu q g).map (Value.int .i64))/\Below w.heap.size w w':=by
 obtain⟨S,hi,W,ab,ag⟩:=info_parts wu;have c1:w.cell? (av p 1)=some (.slice a1 q.length k1):=aD h
 have ai:=hide hp;clear h hp;go_enter func252,ntmps252;go_wp2_with fail
 go_loopw [5,13] (fun tv iv wr=>∃(j:Nat)(T:List Int)(b:Option Addr)(c:Nat),j<=q.length/\iv=ak j/\aA (T=eu (q.take j) g)/\tv=.slice b T.length c/\wr.ownsRow w.heap.size 2 1 (.slice b T.length c) T.length (T.map (Value.int .i64))/\Below w.heap.size w wr) (fun _ iv _=>q.length-(intOf iv).toNat)
 exact⟨0,[],none,0,a4 _,rfl,rfl,rfl,bc _ _ _ _,aH _ _⟩
 ·
   obtain⟨j,T,b,c,d,rfl,f,rfl,l,hb⟩:=hrel;have aB:T.length<=90000:=by
    have:=o8 (q.take j) g;rw[f.o];simp at this
    omega
   by_cases o:j<q.length
   ·obtain⟨aF,aR,al,aV,hc⟩:=ai.o.below hb aa;obtain⟨t,v⟩:=hc j o;clear hc;subst al;have hs:=hb.size;by_cases i:(q.getD j (0,0)).1=g
    ·have m:aA (T++[(q.getD j (0,0)).2]=eu (q.take (j+1)) g):=by show _=_;rw[DL q g j o i,f.o]
     rw[i] at t;generalize (q.getD j (0,0)).2=z at v m;clear i;have s:=f9 l (.cells #[.int .i64 g,.int .i64 z] 103)
     have n:=hb.alloc hs (.cells #[.int .i64 g,.int .i64 z] 103)
     go_wp2_with (at_builtin;refine wpList_append_own_at _ rfl _ _ 53 rfl w.heap.size 2 S (ak 0) 1 8 underlying53 hi W ab ag rfl ae (.slice b T.length c) T.length (T.map (Value.int .i64)) rfl (f9 s _) ⟨wr.heap.size+1,0,none⟩ 1 1 [ak z] rfl rfl ?_ ?_ ?_ ?_ ?_ ?_;(intro j u d;match j,d with|0,d=>(simp at d;subst d;simp[Addr.add]));(intro u B;simp at B;subst B;rfl);(unfold maxLen;omega);omega;(simp;omega);intro a0 am F an _ a2;obtain⟨b4,N,ao⟩:=eT F (Nat.succ_pos _);subst ao)
     have ap:am.ownsRow w.heap.size 2 1 (.slice (au b4) (T++[z]).length N) (T++[z]).length ((T++[z]).map (Value.int .i64)):=by simpa using F
     have ar:=(n.alloc n.size _).grown an (by simp;omega) (fun k e=>(cu l k e.symm).1)
     go_wp2_with fail;go_roundw;exact⟨j+1,T++[z],au b4,N,aa,aj,m,ac,ap,ar⟩
     simp[intOf];omega
    ·have m:aA (T=eu (q.take (j+1)) g):=by show _=_;rw[DM q g j o i,f.o]
     generalize (q.getD j (0,0)).1=x at t i;generalize (q.getD j (0,0)).2=z at v;have s:=f9 l (.cells #[.int .i64 x,.int .i64 z] 103)
     have n:=hb.alloc hs (.cells #[.int .i64 x,.int .i64 z] 103)
     go_wp2_with fail;go_roundw;exact⟨j+1,T,b,c,aa,aj,m,rfl,s,n⟩
     simp[intOf];omega
   ·obtain rfl:j=q.length:=aa;rw[bz] at f;go_wp2_with fail;go_ret;rw[<-f.o];exact⟨b,c,rfl,l,hb⟩
structure Kf (B:Nat)(w w':az):Prop where
 os:w'.os=w.os
 tape:w'.tape=w.tape
 output:w'.output=w.output
 size:w.heap.size<=w'.heap.size
 low:∀k:Nat,k<w.heap.size->k<B->w'.heap[k]?=w.heap[k]?
 im:∀(k:Nat) cs e m,w.heap[k]?=some (Obj.cells cs e m)->e≠129->e≠107->w'.heap[k]?=w.heap[k]?
section
variable {B:Nat}{w w' w'':az}
theorem Kf.refl (B:Nat)(w:az):Kf B w w:=⟨rfl,rfl,rfl,aG _,fun _ _ _=>rfl,fun _ _ _ _ _ _ _=>rfl⟩
theorem Kf.trans (h:Kf B w w')(k:Kf B w' w''):Kf B w w'':=
 ⟨k.os.trans h.os,k.tape.trans h.tape,k.output.trans h.output,aU h.size k.size,fun i hi hb=>(k.low i (aO hi h.size) hb).trans (h.low i hi hb),fun i b e m hi c d=>(k.im i b e m ((h.im i b e m hi c d).trans hi) c d).trans (h.im i b e m hi c d)⟩
theorem Kf.of (h:Below w.heap.size w w'):Kf B w w':=⟨h.os,h.tape,h.output,h.size,fun k hk _=>h.block k hk,fun k _ _ _ hi _ _=>h.block k (lt_of_some hi)⟩
theorem Kf.below (h:Kf B w w')(hB:B<=w.heap.size):Below B w w':=⟨h.os,h.tape,h.output,h.size,fun k hk=>h.low k aa hk⟩
theorem Kf.set {pk o:Nat}{b:Array Value}{m:Nat×Nat}{e:TypeId}{v:Value}(hp:w.heap[pk]?=some (.cells b e m))(he:e=129\/e=107)(hB:B<=pk):Kf B w (w.setCell ⟨pk,o,none⟩ v):=
 ⟨rfl,rfl,rfl,by simp[World.setCell],fun k _ hk=>aW _ _ _ _ (fun c=>by have c:k=pk:=c;omega),fun k g i j hk d f=>aW _ _ _ _ (fun c=>by
  rw[c,hp] at hk;simp at hk;rcases he with he|he
  ·exact d (hk.2.1.symm.trans he)
  ·exact f (hk.2.1.symm.trans he))⟩
theorem Kf.grown {row:Option Nat}(g:w.grownBy w' row)(hr:∀k,row=some k->B<=k/\∀b e m,w.heap[k]?=some (.cells b e m)->e=129\/e=107):Kf B w w':=
 ⟨g.os,g.tape,g.output,g.size,fun k hk hb=>g.block k hk (fun e=>by have:=(hr k e.symm).1;omega),fun k b e m hk d f=>g.block k (lt_of_some hk) (fun c=>((hr k c.symm).2 b e m hk).elim d f)⟩
theorem fC.kf {ad:Option Addr}{l:List _}(h:fC w ad l)(k:Kf B w w'):fC w' ad l:=by exact xF
end
structure m8 (w:az)(pw p q N O y g:Nat)(ws:List Int)(sd:Nat)(v0:Value)(a1:Option Addr)(k1:Nat)(Q:List ce):Prop where
 c0:w.cell? (av pw 0)=some (aq p)
 c2:w.cell? (av pw 2)=some (aq sd)
 ar:At w p q N O y g ws
 hs:w.heap[sd]?=some (.cells #[v0,.slice a1 Q.length k1] 153 (0,0))
 hp:dz w a1 Q
 hm:Q.length<=90000
theorem m8.low {w0 w:az}{pw p q N O y g:Nat}{ws:List Int}{sd:Nat}{v0:Value}{a1:Option Addr}{k1:Nat}{Q:List ce}(h:m8 w0 pw p q N O y g ws sd v0 a1 k1 Q)(hb:Below w0.heap.size w0 w):m8 w pw p q N O y g ws sd v0 a1 k1 Q:=
 ⟨(
  hb.cell (aT w0 _ h.c0)).trans h.c0,(hb.cell (aT w0 _ h.c2)).trans h.c2,h.ar.below hb b7,(hb.block sd (lt_of_some h.hs)).trans h.hs,
  h.hp.keep hb.size (fun hp a e=>by obtain⟨d,f,b,c,_⟩:=h.hp hp;rw[b] at e;cases e;exact hb.block _ c),h.hm⟩
def nb (ms:List Int)(a:Int):Int:=if ms.contains a=true then(ms.idxOf a:Int) else-1
theorem DN {ms:List Int}{a:Int}(hn:a∉ms)(b:Int):nb (ms++[a]) b=if b=a then(ms.length:Int) else nb ms b:=by
 unfold nb;by_cases e:b=a
 ·subst e;rw[aK rfl,aK ac,List.idxOf_append,aI hn];simp
 ·rw[aI e];by_cases c:b∈ms
  ·rw[aK (by simp[c]),aK (by simpa using c),List.idxOf_append,aK c]
  ·rw[aI (by simp[c,e]),aI (by simpa using c)]
theorem DO {ms:List Int}{a:Int}(hn:a∉ms):nb ms a=-1:=by unfold nb;rw[aI (by simpa using hn)]
theorem DP {ms:List Int}{a:Int}(h:a∈ms):nb ms a=(ms.idxOf a:Int):=by unfold nb;rw[aK (by simpa using h)]
theorem iY:Maps.Keyed prog 3:=Maps.int_keyed underlying3
theorem l8 (w:az):(zeroValue 3).run prog w=.ok (ak 0) w:=ah
def Nm (w:az)(ct:Nat)(T ms:List Int):Prop:=
 ∃D:DataW Unit,w.ownsMap prog 3 (plainElem prog 3) ct T.length D/\(∀a:Int,Maps.has D (.int .i64 a)=T.contains a)/\∀a∈T,D.atKey (.int .i64 a) (.lit (.int .i64 0))=.lit (.int .i64 (nb ms a))
theorem Nm.same {w w':az}{ct:Nat}{T ms:List Int}(h:Nm w ct T ms)(e:w'.heap[ct]?=w.heap[ct]?):Nm w' ct T ms:=by obtain⟨D,b,c,d⟩:=h;exact⟨D,sJ b e,c,d⟩
structure Wk (w0 w:az)(pk ct pw:Nat)(T:List Int)(s:cW)(vn:Value)(m:List dY):Prop where
 blk:w.heap[pk]?=some (.cells #[aq pw,.map (some ct),vn] 129 (0,0))
 lo:w0.heap.size<=pk/\w0.heap.size<=ct
 mp:Nm w ct T s.1
 row:w.ownsRow w0.heap.size 107 2 vn m.length (nv m)
 nd:ij m=s.2
 fl:∀x∈m,fC w x.2.1 x.2.2.2
 eP:Below w0.heap.size w0 w
section
variable {w0 w w':az}{pk ct pw:Nat}{T:List Int}{s:cW}{vn:Value}{m:List dY}
theorem Wk.below (h:Wk w0 w pk ct pw T s vn m)(hb:Below w.heap.size w w'):Wk w0 w' pk ct pw T s vn m:=by obtain⟨D,o1,c,d⟩:=h.mp;exact⟨(hb.block pk (lt_of_some h.blk)).trans h.blk,h.lo,h.mp.same (hb.block ct o1.lt),cL h.row (fun k hk=>hb.block k (cu h.row k hk).2),h.nd,fun x b=>(h.fl x b).kf (Kf.of (B:=0) hb),h.eP.trans (hb.mono h.eP.size)⟩
theorem Wk.cells (h:Wk w0 w pk ct pw T s vn m):w.cell? (av pk 0)=some (aq pw)/\w.cell? (av pk 1)=some (.map (some ct))/\w.cell? (av pk 2)=some vn/\pk<w.heap.size:=
 ⟨by simp[World.cell?,h.blk],by simp[World.cell?,h.blk],by simp[World.cell?,h.blk],lt_of_some h.blk⟩
theorem Wk.len (h:Wk w0 w pk ct pw T s vn m):m.length=s.2.length:=by rw[<-h.nd];simp[ij]
end
theorem m9 (x:Int)(h:(Lit.int .i64 x).wf=true):plainElem (H:=Unit) prog 3 (.int .i64 x)=some (.lit (.int .i64 x),[]):=plainElem_int underlying3 h
theorem jp {a:Int}(h0:0<=a)(b:a<1152921504606846976):keyOf prog 3 (.int .i64 a)=some (.int .i64 a):=Maps.keyOf_int_mk underlying3 (WalkArith.wf_i64 ⟨aa,aa⟩)
theorem Nm.add {w w':az}{ct n:Nat}{T:List Int}{a:Int}{D:DataW Unit}(c:w.ownsMap prog 3 (plainElem prog 3) ct T.length D)(f:∀a:Int,Maps.has D (.int .i64 a)=T.contains a)(g:∀a∈T,D.atKey (.int .i64 a) (.lit (.int .i64 0))=.lit (.int .i64 (nb [] a)))
 (hn:n=T.length+1)(d:w'.ownsMap prog 3 (plainElem prog 3) ct n (D.put (.int .i64 a) (.lit (.int .i64 (-1))))):Nm w' ct (T++[a]) []:=by
 refine⟨_,by rw[hn] at d;simpa using d,fun b=>?_,fun b hb=>?_⟩
 ·by_cases e:b=a
  ·subst e;rw[Maps.has_put_same (k:=.int .i64 b) c.isMap trivial];simp
  ·rw[Maps.has_put_other (by simpa using e),f];simp[e]
 ·by_cases e:b=a
  ·subst e;rw[Maps.atKey_put_same (k:=.int .i64 b) c.isMap trivial];rfl
  ·rw[Maps.atKey_put_other (by simpa using e)];refine g b ?_;rcases List.mem_append.1 hb with hb|hb
   ·exact hb
   ·simp at hb;exact absurd hb e
theorem Nm.put {w w':az}{ct n:Nat}{T ms:List Int}{a:Int}{D:DataW Unit}(c:w.ownsMap prog 3 (plainElem prog 3) ct T.length D)(d:∀a:Int,Maps.has D (.int .i64 a)=T.contains a)(f:∀a∈T,D.atKey (.int .i64 a) (.lit (.int .i64 0))=.lit (.int .i64 (nb ms a)))
 (ha:a∈T)(hm:a∉ms)(g:w'.ownsMap prog 3 (plainElem prog 3) ct n (D.put (.int .i64 a) (.lit (.int .i64 ms.length)))):Nm w' ct T (ms++[a]):=by
 have hs:Maps.size (D.put (.int .i64 a) (.lit (.int .i64 ms.length)))<=T.length:=by rw[Maps.size_put (c.tidy iY),d,aK (by simpa using ha)];exact c.size_le
 refine⟨_,(sK g rfl).mono hs,fun b=>?_,fun b hb=>?_⟩
 ·by_cases e:b=a
  ·subst e;rw[Maps.has_put_same (k:=.int .i64 b) c.isMap trivial];simp[ha]
  ·rw[Maps.has_put_other (by simpa using e),d]
 ·rw[DN hm];by_cases e:b=a
  ·subst e;rw[Maps.atKey_put_same (k:=.int .i64 b) c.isMap trivial,aK rfl]
  ·rw[Maps.atKey_put_other (by simpa using e),aI e];exact f b hb
section
variable {w:az}{pw p q N O y g:Nat}{ws:List Int}
theorem oe (a:Int)(h:a∈eC N y g ws):0<=a/\a<y:=m0 _ _ _ h
theorem qr (a:Int)(h:a∈dH N y g ws):(N:Int)<=a/\a<(N:Int)+g:=m0 _ _ _ h
theorem bw {α:Type _}(«as» bs cs:List α):«as» ++ bs ++ cs = «as» ++ (bs ++ cs):=List.append_assoc ..
theorem DQ (c0:w.cell? (av pw 0)=some (aq p))(h:At w p q N O y g ws):
 Calls prog 64 #[aq pw] w fun e w'=>∃a3 ct,e=.returned (aq a3)/\Wk w w' a3 ct pw (eC N y g ws++dH N y g ws) ([],[]) (.slice none 0 0) []:=by
 have b9:=@run_makeMap prog;have ba:(eC N y g ws).length<=2000:=iX _ _;have hO:(dH N y g ws).length<=2000:=iX _ _;have hv:=m9 (-1) ae;have k1:=h.hN';have ca:=h.hy;have cb:=h.hO;have cc:=h.hg;have ag:aA (∀a∈eC N y g ws,0<=a/\a<2000):=fun a ha=>by have:=oe a ha;omega
 have ai:aA (∀a∈dH N y g ws,0<=a/\a<2000):=fun a ha=>by have:=qr a ha;omega
 have bb:Nm (w.alloc (.map #[] 0)) w.heap.size [] []:=⟨_,(World.ownsMap_made w prog 3 (plainElem (H:=Unit) prog 3)),fun _=>rfl,fun a ha=>by simp at ha⟩
 have n:=(aw w (.map #[] 0)).alloc ac (.cells #[.pointer (some ⟨pw,0,none⟩),.map (some w.heap.size),.slice none 0 0] 129)
 have al:=aP (w.alloc (.map #[] 0)) (.cells #[.pointer (some ⟨pw,0,none⟩),.map (some w.heap.size),.slice none 0 0] 129)
 have bd:=bb.same (w':=(w.alloc (.map #[] 0)).alloc (.cells #[.pointer (some ⟨pw,0,none⟩),.map (some w.heap.size),.slice none 0 0] 129)) (aS _ _ _ ac)
 have bo:=(n.cell (p:=av pw 0) (aT w _ c0)).trans c0;have P:=qg _ (h.below n b7)
 clear bb h;generalize eC N y g ws=f_ at P ba hO ag ai⊢;generalize dH N y g ws=d at P ba hO ag ai⊢;go_enter func64,ntmps64;go_wp2_with fail;refine P.mono ?_;clear P;rintro e ab ⟨v1,v2,rfl,u,v,ad⟩
 obtain⟨be,bp,rfl⟩:=eN u;obtain⟨bg,br,rfl⟩:=eN v;have bs:=n.trans (ad.mono n.size)
 rw[World.size_alloc] at al;have am:=(ad.block (w.heap.size+1) ac).trans al;have bi:=bd.same (ad.block w.heap.size (by simp;omega))
 have an:=gX u;have ao:=gX v;have bl:∀k,some k=(Value.slice be (f_).length bp).ownBlock->k≠w.heap.size:=fun k e=>by have:=(cu u k e).1;simp at this;omega
 have bn:∀k,some k=(Value.slice bg (d).length br).ownBlock->k≠w.heap.size:=fun k e=>by have:=(cu v k e).1;simp at this;omega
 have bt:aA (∀s,Fr (fun k=>k=w.heap.size) ab s->iU s be (f_)):=fun s f=>an.keep f.size (fun hp a e=>f.block _ (by obtain⟨b,o,l,hb,_⟩:=an hp;rw[e] at l;cases l;exact hb) (fun c=>by obtain⟨b,cap,l⟩:=eT u hp;cases l;cases e;exact bl _ rfl c))
 have bx:aA (∀s,Fr (fun k=>k=w.heap.size) ab s->iU s bg (d)):=fun s f=>ao.keep f.size (fun hp a e=>f.block _ (by obtain⟨b,o,l,hb,_⟩:=ao hp;rw[e] at l;cases l;exact hb) (fun c=>by obtain⟨b,cap,l⟩:=eT v hp;cases l;cases e;exact bn _ rfl c))
 have ap:=lt_of_some am;have ar:=hide am;clear bl bn an ao u v bd al bo n ad am;go_wp2_with fail
 go_loopw [24] (fun iv wr=>∃(j:Nat),j<=f_.length/\iv=ak j/\Nm wr w.heap.size (f_.take j) []/\Fr (fun k=>k=w.heap.size) ab wr) (fun iv _=>f_.length-(intOf iv).toNat)
 exact⟨0,a4 _,rfl,bi,Fr.refl _ _⟩
 ·
   obtain⟨j,b0,rfl,hN,i⟩:=hrel;clear bi;have aB:wr.cell? (av (w.heap.size+1) 1)=some (.map (some w.heap.size)):=by have:=(i.block (w.heap.size+1) ap aa).trans ar.o;simp[World.cell?,this]
   by_cases m:j<f_.length
   ·obtain⟨b1,b2,aF,n,hc⟩:=bt.o wr i aa;have aR:=hc j m;subst aF;clear hc;have B:f_.getD j 0∈f_:=by rw[aJ,aN m];exact a8 m
    have aV:=ag.o _ B;have F:=hide (gL f_ j m 0)
    clear B;generalize f_.getD j 0=z at aR aV F;have b3:=jp (a:=z) aa aa;obtain⟨D,o1,S,W⟩:=hN;have b4:(f_.take j).length<100000:=by simp;omega
    have t:=gM o1 S W;clear S W;generalize f_.take j=a0 at*;go_wp2_with (first
     |(at_mapUpdate;refine wpList_mapUpdate_own _ rfl _ _ _ 127 rfl 3 3 iY underlying127 (plainElem (H:=Unit) prog 3) w.heap.size a0.length D rfl o1 (by unfold maxLen;omega) _ _ _ rfl rfl b3 _ [] hv ?_;intro b5 a1 a2)
     |go_in)
    go_roundw;exact⟨j+1,aa,aj,by rw[F.o];exact Nm.add t.o.1 t.o.2.1 t.o.2.2 rfl a1,i.grown a2 (fun k e=>aM (by cases e;rfl))⟩
    simp[intOf];omega
   ·obtain rfl:j=f_.length:=aa;rw[bz] at hN;clear aB;go_wp2_with fail
    go_loopw [36] (fun iv wr=>∃(j:Nat),j<=d.length/\iv=ak j/\Nm wr w.heap.size (f_++d.take j) []/\Fr (fun k=>k=w.heap.size) ab wr) (fun iv _=>d.length-(intOf iv).toNat)
    exact⟨0,a4 _,rfl,by simpa using hN,i⟩
    ·
      clear hN i;obtain⟨j,b0,rfl,hN,i⟩:=hrel;rename_i cd _ _ _ wr _ _;have aB:wr.cell? (av (w.heap.size+1) 1)=some (.map (some w.heap.size)):=by have:=(i.block (w.heap.size+1) ap aa).trans ar.o;simp[World.cell?,this]
      by_cases m:j<d.length
      ·obtain⟨b1,b2,aF,n,hc⟩:=bx.o wr i aa;have aR:=hc j m;subst aF;clear hc;have B:d.getD j 0∈d:=by rw[aJ,aN m];exact a8 m
       have aV:=ai.o _ B;have F:aA (f_++d.take (j+1)=(f_++d.take j)++[d.getD j 0]):=by show _=_;rw[gL d j m 0,bw]
       clear B;generalize d.getD j 0=z at aR aV F;obtain⟨D,o1,S,W⟩:=hN;have b4:(f_++d.take j).length<100000:=by simp;omega
       have t:=gM o1 S W;clear S W;generalize f_++d.take j=a0 at*;go_wp2_with (first
        |(at_mapUpdate;refine wpList_mapUpdate_own _ rfl _ _ _ 127 rfl 3 3 iY underlying127 (plainElem (H:=Unit) prog 3) w.heap.size a0.length D rfl o1 (by unfold maxLen;omega) _ _ _ rfl rfl (jp (a:=z) aa aa) _ [] hv ?_;intro b5 a1 a2)
        |go_in)
       go_roundw;exact⟨j+1,aa,aj,by rw[F.o];exact Nm.add t.o.1 t.o.2.1 t.o.2.2 rfl a1,i.grown a2 (fun k e=>aM (by cases e;rfl))⟩
       simp[intOf];omega
      ·obtain rfl:j=d.length:=aa;rw[bz] at hN;clear aB;go_wp2_with fail;go_ret;exact⟨w.heap.size+1,w.heap.size,rfl,(i.block (w.heap.size+1) ap aa).trans ar.o,⟨aa,aG _⟩,hN,bc _ _ _ _,rfl,fun x b6=>by simp at b6,bs.trans (i.below aa (fun k e=>by have e:=e;omega))⟩
end
structure cg (F:Nat->Prop)(w:az)(F':Nat->Prop)(w':az):Prop where
 fr:Fr F w w'
 sub:∀b,F' b->F b\/w.heap.size<=b
theorem cg.refl (F:Nat->Prop)(w:az):cg F w F w:=⟨Fr.refl _ _,fun _ h=>aM h⟩
theorem cg.trans {F d e:Nat->Prop}{w w' f:az}(h:cg F w d w')(k:cg d w' e f):cg F w e f:=
 ⟨h.fr.trans k.fr h.sub,fun b hb=>(k.sub b hb).elim (h.sub b) (fun c=>aL (aU h.fr.size c))⟩
theorem cg.of {F:Nat->Prop}{w w':az}(h:Below w.heap.size w w'):cg F w F w':=⟨Fr.of h,fun _ h=>aM h⟩
theorem cg.below {F b:Nat->Prop}{w w' c:az}(h:cg F w b w')(hb:Below w'.heap.size w' c):cg F w b c:=h.trans (cg.of hb)
theorem bq {α:Type _}{i:Nat}{l:List α}:(List.take i l).length = Min.min i l.length:=List.length_take ..
theorem sW {w:az}{base g n cap:Nat}{e:TypeId}{b:List Value}(h:w.ownsRow base e 1 (.slice (au g) n cap) n b)(m:Nat)(hm:m<=n):w.ownsRow base e 1 (.slice (au g) m cap) m (b.take m):=by
 obtain⟨l,c⟩:=h;rcases c with⟨hv,_⟩|⟨o,p,d,hv,hb,f,q,i,j,k⟩
 ·simp at hv
 ·obtain⟨rfl,rfl⟩:=hv;refine⟨by rw[bq];omega,aL ⟨g,cap,d,rfl,hb,f,aa,i,j,?_⟩⟩
  rw[<-k,List.take_take]
  congr 1
  omega
theorem sX {w:az}{base g n cap:Nat}{e:TypeId}{b:List Value}(h:w.ownsRow base e 1 (.slice (au g) n cap) n b):n<=cap/\cap<=maxLen:=by
 rcases h.2 with⟨hv,_⟩|⟨f,i,j,hv,hb,k,c,d,l,m⟩
 ·simp at hv
 ·obtain⟨rfl,rfl⟩:=hv;exact⟨c,d⟩
def Mp (w:az)(ct:Nat)(T:List Int)(f:Int->Int):Prop:=
 ∃D:DataW Unit,w.ownsMap prog 3 (plainElem prog 3) ct T.length D/\(∀a:Int,Maps.has D (.int .i64 a)=T.contains a)/\∀a∈T,D.atKey (.int .i64 a) (.lit (.int .i64 0))=.lit (.int .i64 (f a))
theorem Mp.same {w w':az}{ct:Nat}{T:List Int}{f:Int->Int}(h:Mp w ct T f)(e:w'.heap[ct]?=w.heap[ct]?):Mp w' ct T f:=by obtain⟨D,b,c,d⟩:=h;exact⟨D,sJ b e,c,d⟩
theorem Mp.lt {w:az}{ct:Nat}{T:List Int}{f:Int->Int}(h:Mp w ct T f):ct<w.heap.size:=by obtain⟨D,b,_⟩:=h;exact b.lt
theorem Mp.put {w w':az}{ct n:Nat}{T:List Int}{f:Int->Int}{a v:Int}{D:DataW Unit}(c:w.ownsMap prog 3 (plainElem prog 3) ct T.length D)(d:∀a:Int,Maps.has D (.int .i64 a)=T.contains a)(i:∀a∈T,D.atKey (.int .i64 a) (.lit (.int .i64 0))=.lit (.int .i64 (f a)))
 (ha:a∈T)(g:w'.ownsMap prog 3 (plainElem prog 3) ct n (D.put (.int .i64 a) (.lit (.int .i64 v)))):Mp w' ct T (gO f a v):=by
 have hs:Maps.size (D.put (.int .i64 a) (.lit (.int .i64 v)))<=T.length:=by rw[Maps.size_put (c.tidy iY),d,aK (by grind)];exact c.size_le
 refine⟨_,(sK g rfl).mono hs,fun b=>?_,fun b hb=>?_⟩
 ·by_cases e:b=a
  ·subst e;rw[Maps.has_put_same (k:=.int .i64 b) c.isMap trivial]
   grind
  grind [Maps.has_put_other]
 ·unfold gO;by_cases e:b=a
  ·subst e;rw[Maps.atKey_put_same (k:=.int .i64 b) c.isMap trivial,aK rfl]
  grind [Maps.atKey_put_other]
theorem Mp.add {w w':az}{ct n:Nat}{T:List Int}{a v:Int}{f:Int->Int}{D:DataW Unit}(c:w.ownsMap prog 3 (plainElem prog 3) ct T.length D)(g:∀a:Int,Maps.has D (.int .i64 a)=T.contains a)(i:∀a∈T,D.atKey (.int .i64 a) (.lit (.int .i64 0))=.lit (.int .i64 (f a)))
 (hv:f a=v)(hn:n=T.length+1)(d:w'.ownsMap prog 3 (plainElem prog 3) ct n (D.put (.int .i64 a) (.lit (.int .i64 v)))):Mp w' ct (T++[a]) f:=by
 refine⟨_,by rw[hn] at d;simpa using d,fun b=>?_,fun b hb=>?_⟩
 ·by_cases e:b=a
  ·subst e;rw[Maps.has_put_same (k:=.int .i64 b) c.isMap trivial];simp
  grind [Maps.has_put_other]
 ·by_cases e:b=a
  ·subst e;rw[Maps.atKey_put_same (k:=.int .i64 b) c.isMap trivial,hv]
  grind [Maps.atKey_put_other]
structure gF where
 pk:Nat
 ct:Nat
 pw:Nat
 p:Nat
 q:Nat
 pc:Nat
 cT:Nat
 sd:Nat
 nb:Nat
 c:Int
 M:List Int
structure cQ (c:gF)(k:cj)(own:Nat->Nat)(s:cr)(cK cx:Value)(w:az):Prop where
 ar:At w c.p c.q k.N k.O k.y s.g s.ws
 a1:own c.p=1
 a2:own c.q=1
 cd:Cd w c.pc c.cT k.N c.c c.M
 c1:own c.pc=2
 c2:own c.cT=2
 wd:w.heap[c.pw]?=some (.cells #[aq c.p,aq c.pc,aq c.sd,.slice (au c.nb) 12 12] 55 (0,0))
 w1:own c.pw=3
 rt:w.heap[c.nb]?=some (.cells (s.rs.map (Value.int .i64)).toArray 2 (0,0))
 rl:s.rs.length=12
 r1:own c.nb=4
 cb:w.heap[c.pk]?=some (.cells #[aq c.pw,.map (some c.ct),ak s.nx,cK,cx] 167 (0,0))
 k1:own c.pk=5
 mp:Mp w c.ct k.T s.f
 m1:own c.ct=6
 wr:w.ownsRow 0 3 1 cK s.wk.length (s.wk.map (Value.int .i64))
 dB:∀b,some b=cK.ownBlock->own b=7
 er:w.ownsRow 0 3 1 cx s.ep.length (s.ep.map (Value.int .i64))
 eo:∀b,some b=cx.ownBlock->own b=8
 lt:∀b,own b≠0->b<w.heap.size
section
variable {c:gF}{k:cj}{own:Nat->Nat}{s:cr}{cK cx:Value}{w w':az}
theorem cQ.but (h:cQ c k own s cK cx w)(L:Nat->Prop)(hs:w.heap.size<=w'.heap.size)(hk:∀b,b<w.heap.size->own b≠0->¬L (own b)->w'.heap[b]?=w.heap[b]?)
 (f:L 1->At w' c.p c.q k.N k.O k.y s.g s.ws)(g:L 4->w'.heap[c.nb]?=some (.cells (s.rs.map (Value.int .i64)).toArray 2 (0,0)))(i:L 5->w'.heap[c.pk]?=some (.cells #[aq c.pw,.map (some c.ct),ak s.nx,cK,cx] 167 (0,0)))
 (hM:L 6->Mp w' c.ct k.T s.f)(j:L 7->w'.ownsRow 0 3 1 cK s.wk.length (s.wk.map (Value.int .i64)))(m:L 8->w'.ownsRow 0 3 1 cx s.ep.length (s.ep.map (Value.int .i64)))(d:¬L 2)(n:¬L 3):cQ c k own s cK cx w' where
 ar:=by
  by_cases l:L 1
  ·grind
  ·exact h.ar.same (hk _ h.ar.e5 (by grind [a1]) ((h.a1▸l))) (hk _ h.ar.e7 (by grind [a2]) ((h.a2▸l)))
 a1:=h.a1
 a2:=h.a2
 cd:=h.cd.same (hk _ h.cd.e5 (by grind [c1]) ((h.c1▸d))) (hk _ h.cd.e7 (by grind [c2]) ((h.c2▸d)))
 c1:=h.c1
 c2:=h.c2
 wd:=(by grind [wd,w1])
 w1:=h.w1
 rt:=by grind [rt,r1]
 rl:=h.rl
 r1:=h.r1
 cb:=by grind [cb,k1]
 k1:=h.k1
 mp:=by
  by_cases l:L 6
  ·grind
  ·exact h.mp.same (hk _ h.mp.lt (by grind [m1]) ((h.m1▸l)))
 m1:=h.m1
 wr:=by
  by_cases l:L 7
  ·grind
  ·exact cL h.wr (fun b e=>hk b (cu h.wr b e).2 (by grind [dB]) ((h.dB b e▸l)))
 dB:=h.dB
 er:=by
  by_cases l:L 8
  ·grind
  ·exact cL h.er (fun b e=>hk b (cu h.er b e).2 (by grind [eo]) ((h.eo b e▸l)))
 eo:=h.eo
 lt:=fun b hb=>aO (h.lt b hb) hs
end
def cutV (c:gF)(k:cj)(cK e:Value):dx cr where
 J F s w:=∃own,cQ c k own s cK e w/\∀b,F b↔own b≠0
 lt:=by rintro F s w ⟨own,h,d⟩ b hb;exact h.lt b ((d b).1 hb)
 keep:=by rintro F s w w' ⟨own,h,d⟩ hs hk;exact⟨own,h.but (fun _=>False) hs (fun b _ hb _=>hk b ((d b).2 hb)) False.elim False.elim False.elim False.elim False.elim False.elim id id,d⟩
def eh (c:gF)(k:cj):dx cr where
 J F s w:=∃cK b,(cutV c k cK b).J F s w
 lt:=by
  rintro F s w ⟨cK,b,h⟩
  exact(cutV c k cK b).lt h
 keep:=by rintro F s w w' ⟨cK,b,h⟩ hs hk;exact⟨cK,b,(cutV c k cK b).keep h hs hk⟩
section
variable {c:gF}{k:cj}{cK cx:Value}{F:Nat->Prop}{s:cr}{w w':az}
theorem iZ (h:(cutV c k cK cx).J F s w):At w c.p c.q k.N k.O k.y s.g s.ws/\∀w' g ws,At w' c.p c.q k.N k.O k.y g ws->dh c.p c.q w w'->(cutV c k cK cx).J F {s with g:=g,ws:=ws} w'/\cg F w F w':=by
 obtain⟨own,h,f⟩:=h;refine⟨h.ar,fun w' g ws ha d=>⟨⟨own,?_,f⟩,⟨⟨d.os,d.tape,d.output,d.size,fun b hb hn=>(by grind [dh.block,cQ.a1,cQ.a2])⟩,fun _ h=>aM h⟩⟩⟩
 have hb:∀b,b<w.heap.size->own b≠0->¬own b=1->_=_:=fun b hb _ hn=>d.block b hb (fun e=>hn ((e▸h.a1))) (fun e=>hn ((e▸h.a2)))
 exact {
  ar:=ha,a1:=h.a1,a2:=h.a2,c1:=h.c1,c2:=h.c2,w1:=h.w1,rl:=h.rl,r1:=h.r1,k1:=h.k1,m1:=h.m1,dB:=h.dB,eo:=h.eo,lt:=fun b hb=>aO (h.lt b hb) d.size
  cd:=h.cd.same (hb _ h.cd.e5 (by grind [cQ.c1]) (by grind [cQ.c1])) (hb _ h.cd.e7 (by grind [cQ.c2]) (by grind [cQ.c2]))
  wd:=(by grind [cQ.wd,cQ.w1])
  rt:=(by grind [cQ.rt,cQ.r1])
  cb:=(by grind [cQ.cb,cQ.k1])
  mp:=h.mp.same (hb _ h.mp.lt (by grind [cQ.m1]) (by grind [cQ.m1]))
  wr:=cL h.wr (fun b e=>hb b (cu h.wr b e).2 (by grind [cQ.dB]) (by grind [cQ.dB]))
  er:=cL h.er (fun b e=>hb b (cu h.er b e).2 (by grind [cQ.eo]) (by grind [cQ.eo]))}
theorem xK (h:(cutV c k cK cx).J F s w):Mp w c.ct k.T s.f/\∀w' f,Mp w' c.ct k.T f->Fr (fun b=>b=c.ct) w w'->(cutV c k cK cx).J F {s with f:=f} w'/\cg F w F w':=by
 obtain⟨own,h,d⟩:=h;refine⟨h.mp,fun w' f hm fr=>⟨⟨own,?_,d⟩,⟨(by grind [Fr.mono,cQ.m1]),fun _ h=>aM h⟩⟩⟩
 have hb:∀b,b<w.heap.size->own b≠6->_=_:=fun b hb hn=>fr.block b hb (fun e=>hn ((e▸h.m1)))
 exact {
  mp:=hm,a1:=h.a1,a2:=h.a2,c1:=h.c1,c2:=h.c2,w1:=h.w1,rl:=h.rl,r1:=h.r1,k1:=h.k1,m1:=h.m1,dB:=h.dB,eo:=h.eo,lt:=fun b hb=>aO (h.lt b hb) fr.size
  ar:=h.ar.same (hb _ h.ar.e5 (by grind [cQ.a1])) (hb _ h.ar.e7 (by grind [cQ.a2]))
  cd:=h.cd.same (hb _ h.cd.e5 (by grind [cQ.c1])) (hb _ h.cd.e7 (by grind [cQ.c2]))
  wd:=(by grind [cQ.wd,cQ.w1])
  rt:=(by grind [cQ.rt,cQ.r1])
  cb:=(by grind [cQ.cb,cQ.k1])
  wr:=cL h.wr (fun b e=>hb b (cu h.wr b e).2 (by grind [cQ.dB]))
  er:=cL h.er (fun b e=>hb b (cu h.er b e).2 (by grind [cQ.eo]))}
theorem DR (h:(cutV c k cK cx).J F s w)(i:Nat)(x:Int):(cutV c k cK cx).J F {s with rs:=s.rs.set i x} (w.setCell ⟨c.nb,i,none⟩ (.int .i64 x))/\cg F w F (w.setCell ⟨c.nb,i,none⟩ (.int .i64 x)):=by
 obtain⟨own,h,d⟩:=h;have fr:Fr (fun b=>b=c.nb) w (w.setCell ⟨c.nb,i,none⟩ (.int .i64 x)):=(by grind [Fr.set,Fr.refl])
 refine⟨⟨own,?_,d⟩,⟨(by grind [Fr.mono,cQ.r1]),fun _ h=>aM h⟩⟩
 have hb:∀b,b<w.heap.size->own b≠4->_=_:=fun b hb hn=>fr.block b hb (fun e=>hn ((e▸h.r1)))
 exact {
  mp:=h.mp.same (hb _ h.mp.lt (by grind [cQ.m1])),a1:=h.a1,a2:=h.a2,c1:=h.c1,c2:=h.c2,w1:=h.w1,r1:=h.r1,k1:=h.k1,m1:=h.m1,dB:=h.dB,eo:=h.eo,lt:=fun b hb=>aO (h.lt b hb) fr.size
  rl:=by grind [cQ.rl]
  ar:=h.ar.same (hb _ h.ar.e5 (by grind [cQ.a1])) (hb _ h.ar.e7 (by grind [cQ.a2]))
  cd:=h.cd.same (hb _ h.cd.e5 (by grind [cQ.c1])) (hb _ h.cd.e7 (by grind [cQ.c2]))
  wd:=(by grind [cQ.wd,cQ.w1])
  rt:=by simp only [World.setCell,Array.getElem?_modify,if_true,h.rt,Option.map_some];simp[List.map_set]
  cb:=(by grind [cQ.cb,cQ.k1])
  wr:=cL h.wr (fun b e=>hb b (cu h.wr b e).2 (by grind [cQ.dB]))
  er:=cL h.er (fun b e=>hb b (cu h.er b e).2 (by grind [cQ.eo]))}
theorem ei (h:(cutV c k cK cx).J F s w):w.cell? (av c.pk 0)=some (aq c.pw)/\w.cell? (av c.pk 1)=some (.map (some c.ct))/\w.cell? (av c.pk 2)=some (ak s.nx)/\w.cell? (av c.pk 3)=some cK/\w.cell? (av c.pk 4)=some cx/\
 w.cell? (av c.pw 0)=some (aq c.p)/\w.cell? (av c.pw 1)=some (aq c.pc)/\w.cell? (av c.pw 2)=some (aq c.sd)/\w.cell? (av c.pw 3)=some (.slice (au c.nb) 12 12)/\(∀o,w.frozen? (av c.pk o)=false)/\
 w.ownsRow 0 3 1 cK s.wk.length (s.wk.map (Value.int .i64))/\w.ownsRow 0 3 1 cx s.ep.length (s.ep.map (Value.int .i64))/\Cd w c.pc c.cT k.N c.c c.M/\c.pk<w.heap.size/\c.pw<w.heap.size:=by
 obtain⟨own,h,e⟩:=h;have b:=h.cb;have d:=h.wd;exact⟨by simp[World.cell?,b],by simp[World.cell?,b],by simp[World.cell?,b],by simp[World.cell?,b],by simp[World.cell?,b],by simp[World.cell?,d],by simp[World.cell?,d],by simp[World.cell?,d],by simp[World.cell?,d],fun o=>by simp[World.frozen?,b],h.wr,h.er,h.cd,lt_of_some b,lt_of_some d⟩
theorem xL (h:(cutV c k cK cx).J F s w):s.rs.length=12/\c.nb<w.heap.size/\∀i,i<12->w.cell? (av c.nb i)=some (ak (s.rs.getD i 0))/\w.frozen? (av c.nb i)=false:=by
 obtain⟨own,h,b⟩:=h;have hl:=h.rl;refine⟨hl,lt_of_some h.rt,fun i hi=>⟨?_,?_⟩⟩
 ·simp[World.cell?,h.rt,List.getElem?_map,List.getElem?_eq_getElem (show i<s.rs.length by omega),List.getD_eq_getElem?_getD]
 ·simp[World.frozen?,h.rt]
theorem DS (h:(cutV c k cK cx).J F s w):c.pk≠c.ct/\c.pw≠c.ct:=by
 obtain⟨own,h,b⟩:=h
 grind [cQ.k1,cQ.m1,cQ.w1]
theorem sY (h:(cutV c k cK cx).J F s w){v:Value}(hv:w.cell? (av c.pk 3)=some v\/w.cell? (av c.pk 4)=some v):some c.pk≠v.ownBlock/\some c.pw≠v.ownBlock:=by
 obtain⟨own,h,f⟩:=h;have d:=h.cb;have hl:∀b,some b=v.ownBlock->own b=7\/own b=8:=fun b e=>by
  rcases hv with hv|hv
  ·simp[World.cell?,d] at hv
   grind [cQ.dB]
  ·simp[World.cell?,d] at hv
   grind [cQ.eo]
 grind [cQ.k1,cQ.w1]
theorem DT (h:(cutV c k cK cx).J F s w)(n:Int):(cutV c k cK cx).J F {s with nx:=n} (w.setCell ⟨c.pk,2,none⟩ (.int .i64 n))/\cg F w F (w.setCell ⟨c.pk,2,none⟩ (.int .i64 n)):=by
 obtain⟨own,h,d⟩:=h;have fr:Fr (fun b=>b=c.pk) w (w.setCell ⟨c.pk,2,none⟩ (.int .i64 n)):=(by grind [Fr.set,Fr.refl])
 refine⟨⟨own,?_,d⟩,⟨(by grind [Fr.mono,cQ.k1]),fun _ h=>aM h⟩⟩
 have hb:∀b,b<w.heap.size->own b≠5->_=_:=fun b hb hn=>fr.block b hb (fun e=>hn ((e▸h.k1)))
 exact {
  mp:=h.mp.same (hb _ h.mp.lt (by grind [cQ.m1])),a1:=h.a1,a2:=h.a2,c1:=h.c1,c2:=h.c2,w1:=h.w1,r1:=h.r1,k1:=h.k1,m1:=h.m1,dB:=h.dB,eo:=h.eo,lt:=fun b hb=>aO (h.lt b hb) fr.size
  rl:=h.rl
  ar:=h.ar.same (hb _ h.ar.e5 (by grind [cQ.a1])) (hb _ h.ar.e7 (by grind [cQ.a2]))
  cd:=h.cd.same (hb _ h.cd.e5 (by grind [cQ.c1])) (hb _ h.cd.e7 (by grind [cQ.c2]))
  wd:=(by grind [cQ.wd,cQ.w1])
  rt:=(by grind [cQ.rt,cQ.r1])
  cb:=by simp only [World.setCell,Array.getElem?_modify,if_true,h.cb,Option.map_some];simp
  wr:=cL h.wr (fun b e=>hb b (cu h.wr b e).2 (by grind [cQ.dB]))
  er:=cL h.er (fun b e=>hb b (cu h.er b e).2 (by grind [cQ.eo]))}
theorem DU {v0:Value}(h:(cutV c k v0 cx).J F s w){v1:Value}{l:List Int}{w1:az}(f:Fr (fun b=>some b=v0.ownBlock) w w1)(ho:w1.ownsRow 0 3 1 v1 l.length (l.map (Value.int .i64)))(hn:∀b,some b=v1.ownBlock->some b=v0.ownBlock\/¬F b):
 (cutV c k v1 cx).J (fun b=>F b\/some b=v1.ownBlock) {s with wk:=l} (w1.setCell ⟨c.pk,3,none⟩ v1)/\Fr F w (w1.setCell ⟨c.pk,3,none⟩ v1):=by
 obtain⟨own,h,g⟩:=h;have sz:(w1.setCell ⟨c.pk,3,none⟩ v1).heap.size=w1.heap.size:=by simp_all
 have hb1:∀b,b<w.heap.size->own b≠7->_=_:=fun b hb hn=>f.block b hb (fun e=>hn (h.dB b e))
 have hb:∀b,b<w.heap.size->own b≠7->own b≠5->(w1.setCell ⟨c.pk,3,none⟩ v1).heap[b]?=w.heap[b]?:=fun b hb i n=>(by grind [cQ.k1,aW])
 have m:∀b,some b=v1.ownBlock->_:=fun b e=>(hn b e).elim (fun e=>aM (h.dB b e)) (fun hl=>aL (Classical.byContradiction (fun c=>hl ((g b).2 c))))
 have d:∀b j,own b=j->j≠7->j≠0->(if some b=v1.ownBlock then 7 else own b)=j:=fun b j e i h0=>(aI (fun c=>by rcases m b c with c|c<;>omega)▸e)
 have o:=fun b e=>(cu ho b e).2;refine⟨⟨fun b=>if some b=v1.ownBlock then 7 else own b,?_,fun b=>?_⟩,?_⟩
 ·exact {
   ar:=h.ar.same (hb _ h.ar.e5 (by grind [cQ.a1]) (by grind [cQ.a1])) (hb _ h.ar.e7 (by grind [cQ.a2]) (by grind [cQ.a2]))
   a1:=d _ _ h.a1 ae ae,a2:=d _ _ h.a2 ae ae,c1:=d _ _ h.c1 ae ae,c2:=d _ _ h.c2 ae ae,w1:=d _ _ h.w1 ae ae,r1:=d _ _ h.r1 ae ae,k1:=d _ _ h.k1 ae ae,m1:=d _ _ h.m1 ae ae
   rl:=h.rl
   cd:=h.cd.same (hb _ h.cd.e5 (by grind [cQ.c1]) (by grind [cQ.c1])) (hb _ h.cd.e7 (by grind [cQ.c2]) (by grind [cQ.c2]))
   wd:=(by grind [cQ.wd,cQ.w1])
   rt:=(hb _ (lt_of_some h.rt) (by rw[h.r1];decide) (by rw[h.r1];decide)).trans h.rt
   cb:=by exact xI
   mp:=h.mp.same (hb _ h.mp.lt (by grind [cQ.m1]) (by grind [cQ.m1]))
   wr:=(by grind [cL,cQ.k1,aW])
   dB:=fun b e=>by grind
   er:=cL h.er (fun b e=>hb b (cu h.er b e).2 (by grind [cQ.eo]) (by grind [cQ.eo]))
   eo:=fun b e=>(by grind [cQ.eo])
   lt:=fun b hb=>by grind [cQ.lt,Fr.size,aO]}
 ·grind
 grind [Fr.mono,cQ.dB,Fr.set,cQ.k1]
theorem DV {v0:Value}(h:(cutV c k v0 cx).J F s w){v1:Value}{l:List Int}{w1:az}(f:Fr (fun b=>some b=v0.ownBlock) w w1)(ho:w1.ownsRow 0 3 1 v1 l.length (l.map (Value.int .i64)))(hn:∀b,some b=v1.ownBlock->some b=v0.ownBlock\/w.heap.size<=b):
 ∃d,(cutV c k v1 cx).J d {s with wk:=l} (w1.setCell ⟨c.pk,3,none⟩ v1)/\cg F w d (w1.setCell ⟨c.pk,3,none⟩ v1):=by
 obtain⟨g,i⟩:=DU h f ho (fun b e=>(hn b e).imp id (fun j hb=>by have:=(cutV c k v0 cx).lt h b hb;omega))
 obtain⟨own,hm,m⟩:=h;exact⟨_,g,i,fun b hb=>(by grind [cQ.dB])⟩
theorem xM {v0:Value}(h:(cutV c k cK v0).J F s w){v1:Value}{l:List Int}{w1:az}(f:Fr (fun b=>some b=v0.ownBlock) w w1)(ho:w1.ownsRow 0 3 1 v1 l.length (l.map (Value.int .i64)))(hn:∀b,some b=v1.ownBlock->some b=v0.ownBlock\/¬F b):
 (cutV c k cK v1).J (fun b=>F b\/some b=v1.ownBlock) {s with ep:=l} (w1.setCell ⟨c.pk,4,none⟩ v1)/\Fr F w (w1.setCell ⟨c.pk,4,none⟩ v1):=by
 obtain⟨own,h,g⟩:=h;have sz:(w1.setCell ⟨c.pk,4,none⟩ v1).heap.size=w1.heap.size:=by simp_all
 have hb1:∀b,b<w.heap.size->own b≠8->_=_:=fun b hb hn=>f.block b hb (fun e=>hn (h.eo b e))
 have hb:∀b,b<w.heap.size->own b≠8->own b≠5->(w1.setCell ⟨c.pk,4,none⟩ v1).heap[b]?=w.heap[b]?:=fun b hb i n=>(by grind [cQ.k1,aW])
 have m:∀b,some b=v1.ownBlock->_:=fun b e=>(hn b e).elim (fun e=>aM (h.eo b e)) (fun hl=>aL (Classical.byContradiction (fun c=>hl ((g b).2 c))))
 have d:∀b j,own b=j->j≠8->j≠0->(if some b=v1.ownBlock then 8 else own b)=j:=fun b j e i h0=>(aI (fun c=>by rcases m b c with c|c<;>omega)▸e)
 have o:=fun b e=>(cu ho b e).2;refine⟨⟨fun b=>if some b=v1.ownBlock then 8 else own b,?_,fun b=>?_⟩,?_⟩
 ·exact {
   ar:=h.ar.same (hb _ h.ar.e5 (by grind [cQ.a1]) (by grind [cQ.a1])) (hb _ h.ar.e7 (by grind [cQ.a2]) (by grind [cQ.a2]))
   a1:=d _ _ h.a1 ae ae,a2:=d _ _ h.a2 ae ae,c1:=d _ _ h.c1 ae ae,c2:=d _ _ h.c2 ae ae,w1:=d _ _ h.w1 ae ae,r1:=d _ _ h.r1 ae ae,k1:=d _ _ h.k1 ae ae,m1:=d _ _ h.m1 ae ae
   rl:=h.rl
   cd:=h.cd.same (hb _ h.cd.e5 (by grind [cQ.c1]) (by grind [cQ.c1])) (hb _ h.cd.e7 (by grind [cQ.c2]) (by grind [cQ.c2]))
   wd:=(by grind [cQ.wd,cQ.w1])
   rt:=(hb _ (lt_of_some h.rt) (by rw[h.r1];decide) (by rw[h.r1];decide)).trans h.rt
   cb:=by exact xI
   mp:=h.mp.same (hb _ h.mp.lt (by grind [cQ.m1]) (by grind [cQ.m1]))
   er:=(by grind [cL,cQ.k1,aW])
   eo:=fun b e=>by grind
   wr:=cL h.wr (fun b e=>hb b (cu h.wr b e).2 (by grind [cQ.dB]) (by grind [cQ.dB]))
   dB:=fun b e=>(by grind [cQ.dB])
   lt:=fun b hb=>by grind [cQ.lt,Fr.size,aO]}
 ·grind
 grind [Fr.mono,cQ.eo,Fr.set,cQ.k1]
theorem DW {v0:Value}(h:(cutV c k cK v0).J F s w){v1:Value}{l:List Int}{w1:az}(f:Fr (fun b=>some b=v0.ownBlock) w w1)(ho:w1.ownsRow 0 3 1 v1 l.length (l.map (Value.int .i64)))(hn:∀b,some b=v1.ownBlock->some b=v0.ownBlock\/w.heap.size<=b):
 ∃d,(cutV c k cK v1).J d {s with ep:=l} (w1.setCell ⟨c.pk,4,none⟩ v1)/\cg F w d (w1.setCell ⟨c.pk,4,none⟩ v1):=by
 obtain⟨g,i⟩:=xM h f ho (fun b e=>(hn b e).imp id (fun j hb=>by have:=(cutV c k cK v0).lt h b hb;omega))
 obtain⟨own,hm,m⟩:=h;exact⟨_,g,i,fun b hb=>(by grind [cQ.eo])⟩
end
def e9 (N y g:Nat)(ws:List Int)(Q:List ce)(a:Int):List Int:=
 if pk (ld N y g ws a)=5 then eu Q (ew 3 a) else(List.range (iG N y g a (pf (ld N y g ws a))).toNat).map (fun i:Nat=>ld N y g ws (a+1+(i:Int)))
theorem DX (N y g:Nat)(ws:List Int)(Q:List ce)(a:Int):(e9 N y g ws Q a).length<=Q.length+12:=by
 unfold e9;split
 ·have:=o8 Q (ew 3 a)
  omega
 ·have b:iG N y g a (pf (ld N y g ws a))<=12:=by unfold iG;exact Int.le_trans (Int.min_le_left _ _) (dr _).2
  simp;omega
section
variable {w:az}{pw p q N O y g:Nat}{ws:List Int}{sd:Nat}{v0:Value}{a1:Option Addr}{k1:Nat}{Q:List ce}
theorem DY (h:m8 w pw p q N O y g ws sd v0 a1 k1 Q)(c:Nat)(hk:w.cell? (av c 0)=some (aq pw))(a:Int)(l0:0<=a)(l1:a<=100000):
 Calls prog 244 #[aq c,ak a,ak (pk (ld N y g ws a)),ak (pf (ld N y g ws a))] w fun e w'=>∃ad cap,e=.returned (.slice ad (e9 N y g ws Q a).length cap)/\w'.ownsRow w.heap.size 2 1 (.slice ad (e9 N y g ws Q a).length cap) (e9 N y g ws Q a).length ((e9 N y g ws Q a).map (Value.int .i64))/\Below w.heap.size w w':=by
 obtain⟨aF,hi,aR,aV,a0⟩:=info_parts wu;have H:=hide h;have c0:=h.c0;have c2:=h.c2;have W:=aT w _ c0;have gG:=aT w _ hk;clear h;by_cases d:pk (ld N y g ws a)=5
 ·have l:e9 N y g ws Q a=eu Q (ew 3 a):=by unfold e9;rw[aK d]
  rw[l,d];clear l d;generalize pf (ld N y g ws a)=f;have hd:=(ax w).drew;go_enter func244,ntmps244;go_wp2_with fail
  go_region_held3 (fun w'=>w'.cell? (av c 0)=some (aq pw)/\w'.cell? (av pw 2)=some (aq sd)) (first|exact⟨hk,c2⟩|exact⟨u0,al⟩|exact⟨a2,a3⟩|go_keep)
   (first
     |(have b0:=b;go_at_call 252;refine(sV _ sd v0 a1 k1 Q (ew 3 a) (H.o.low b).hs (H.o.low b).hp (H.o.low b).hm).mono ?_;rintro e b1 ⟨ad,cap,rfl,am,t⟩;have b2:=t.size;have a2:=(t.cell (p:=av c 0) (aO gG v)).trans u0;have a3:=(t.cell (p:=av pw 2) (aO W v)).trans al)
     |(go_at_call 42;refine(sr a _).mono ?_;rintro e b3 ⟨rfl,ba⟩;have b:=hd.trans ba;have v:=b.size;have u0:=(b.cell (p:=av c 0) gG).trans hk;have al:=(b.cell (p:=av pw 2) W).trans c2))
  go_wp2_with fail;go_ret;exact⟨ad,cap,rfl,e8 am (fun k e=>aU v (cu am k e).1),b.trans (t.mono v)⟩
 ·have l:e9 N y g ws Q a=(List.range (iG N y g a (pf (ld N y g ws a))).toNat).map (fun i:Nat=>ld N y g ws (a+1+(i:Int))):=by unfold e9;rw[aI d]
  rw[l];have bb:iG N y g a (pf (ld N y g ws a))<=12:=by unfold iG;exact Int.le_trans (Int.min_le_left _ _) (dr _).2
  have B:=xh a (pf (ld N y g ws a)) w c0 H.o.ar l0 l1;clear l;generalize iG N y g a (pf (ld N y g ws a))=st at B bb⊢;generalize pf (ld N y g ws a)=f at B⊢;generalize pk (ld N y g ws a)=kd at d⊢;have bd:aA (∀w1 x,Below w.heap.size w w1->_):=fun w1 x hb=>jS x w1 (H.o.low hb).ar;clear H;simp only [List.length_map,List.length_range];go_enter func244,ntmps244;go_wp2_with fail;refine B.mono ?_;clear B;rintro e w1 ⟨rfl,an⟩
  go_wp2_with fail
  go_loopw [9,30] (fun tv iv wr=>∃(j:Nat)(m:Option Addr)(n:Nat),j<=st.toNat/\iv=ak j/\tv=.slice m j n/\wr.ownsRow w.heap.size 2 1 (.slice m j n) j (((List.range j).map (fun i:Nat=>ld N y g ws (a+1+(i:Int)))).map (Value.int .i64))/\Below w.heap.size w wr) (fun _ iv _=>st.toNat-(intOf iv).toNat)
  exact⟨0,none,0,a4 _,rfl,rfl,bc _ _ _ _,an⟩
  ·
    obtain⟨j,m,n,o,rfl,rfl,s,hb⟩:=hrel;clear an;by_cases b5:j<st.toNat
    ·have be:=(hb.cell (p:=av c 0) gG).trans hk;have bg:=(hb.cell (p:=av pw 0) W).trans c0;have bi:(j:Int)<st:=aa;have bl:=hb.size;go_wp2_with fail;refine(bd.o wr (a+1+(j:Int)) hb).mono ?_;rintro e bn ⟨rfl,ab⟩
     have F:=cL s (fun k e=>ab.block k (cu s k e).2)
     have ag:=hb.trans (ab.mono bl)
     have bo:=ag.size;have ao:(((List.range (j+1)).map (fun i:Nat=>ld N y g ws (a+1+(i:Int)))).map (Value.int .i64))=(((List.range j).map (fun i:Nat=>ld N y g ws (a+1+(i:Int)))).map (Value.int .i64))++[ak (ld N y g ws (a+1+(j:Int)))]:=by simp[List.range_succ]
     have S:=hide ao;clear ao s hb ab be bg;generalize ld N y g ws (a+1+(j:Int))=z at S⊢;generalize ((List.range j).map (fun i:Nat=>ld N y g ws (a+1+(i:Int)))).map (Value.int .i64)=L at F S;go_wp2_with (at_builtin;refine wpList_append_own_at _ rfl _ _ 53 rfl w.heap.size 2 aF (ak 0) 1 8 underlying53 hi aR aV a0 rfl ae (.slice m j n) j L rfl (f9 F _) ⟨bn.heap.size,0,none⟩ 1 1 [ak z] rfl rfl ?_ ?_ ?_ ?_ ?_ ?_;(intro j u o;match j,o with|0,o=>(simp at o;subst o;simp[Addr.add]));(intro u ap;simp at ap;subst ap;rfl);(unfold maxLen;omega);omega;(simp;omega);intro b6 bp ai ar _ br;obtain⟨b4,aB,bs⟩:=eT ai (Nat.succ_pos _);subst bs)
     have bt:bp.ownsRow w.heap.size 2 1 (.slice (au b4) (j+1) aB) (j+1) (((List.range (j+1)).map (fun i:Nat=>ld N y g ws (a+1+(i:Int)))).map (Value.int .i64)):=by rw[S.o];exact ai
     have bx:=(ag.alloc bo _).grown ar (by simp;omega) (fun k e=>(cu F k e.symm).1)
     clear ai ar br F ag S;go_wp2_with fail;go_roundw;exact⟨j+1,au b4,aB,aa,aj,rfl,bt,bx⟩
     simp[intOf];omega
    ·obtain rfl:j=st.toNat:=aa;have bi:¬((st.toNat:Nat):Int)<st:=aa;go_wp2_with fail;go_ret;exact⟨m,n,rfl,by rw[List.map_map] at s;exact s,hb⟩
end
def fM (w0 w:az)(m:List dY)(w':az)(b:List dY):Prop:=Kf w0.heap.size w w'/\∀k,fD b k->fD m k\/w.heap.size<=k
theorem fM.refl (w0 w:az)(m:List dY):fM w0 w m w m:=⟨Kf.refl _ _,fun _ h=>aM h⟩
theorem fM.trans {w0 w w' b:az}{m d e:List dY}(h:fM w0 w m w' d)(k:fM w0 w' d b e):fM w0 w m b e:=
 ⟨h.1.trans k.1,fun i hi=>(k.2 i hi).elim (h.2 i) (fun c=>aL (aU h.1.size c))⟩
theorem fM.of {w0 w w':az}{m:List dY}(h:Below w.heap.size w w'):fM w0 w m w' m:=⟨Kf.of h,fun _ h=>aM h⟩
theorem fM.new {w0 w w' b:az}{m d:List dY}{X:Nat->Prop}(h:fM w0 w m w' d)(f:Fr X w' b)(g:∀k,X k->w.heap.size<=k):fM w0 w m b d:=
 ⟨⟨f.os.trans h.1.os,f.tape.trans h.1.tape,f.output.trans h.1.output,aU h.1.size f.size,fun k hk hb=>(f.block k (aO hk h.1.size) (fun c=>by have:=g k c;omega)).trans (h.1.low k hk hb),
  fun k i e mm hk j l=>(f.block k (aO (lt_of_some hk) h.1.size) (fun c=>by have:=g k c;have:=lt_of_some hk;omega)).trans (h.1.im k i e mm hk j l)⟩,h.2⟩
section
variable {w0 w w':az}{kb ct pw:Nat}{T:List Int}{s:cW}{vn:Value}{m:List dY}
theorem Wk.fb (h:Wk w0 w kb ct pw T s vn m)(k:Nat)(hk:fD m k):k<w.heap.size:=by obtain⟨x,d,hl,o,e⟩:=hk;obtain⟨b,f,g,c,hb⟩:=(h.fl x d).2 hl;rw[e] at c;cases c;exact lt_of_some hb
theorem Wk.but {X:Nat->Prop}(h:Wk w0 w kb ct pw T s vn m)(f:Fr X w w')(g:∀k,k<w.heap.size->X k->(∃d,w.heap[k]?=some (.cells d 97 (0,0)))/\¬fD m k/\w0.heap.size<=k):Wk w0 w' kb ct pw T s vn m:=by
 obtain⟨D,o1,t,u⟩:=h.mp;have n1:¬X kb:=fun c=>by obtain⟨⟨d,hc⟩,_⟩:=g kb (lt_of_some h.blk) c;rw[h.blk] at hc;simp at hc
 have p:¬X ct:=fun c=>by obtain⟨⟨d,hc⟩,_⟩:=g ct o1.lt c;obtain⟨v,B,hb,_⟩:=o1;rw[hb] at hc;simp at hc
 refine⟨(f.block kb (lt_of_some h.blk) n1).trans h.blk,h.lo,h.mp.same (f.block ct o1.lt p),cL h.row (fun k hk=>f.block k (cu h.row k hk).2 (fun c=>?_)),h.nd,fun x l=>?_,h.eP.trans ⟨f.os,f.tape,f.output,f.size,fun k hk=>f.block k (aO hk h.eP.size) (fun c=>by have:=(g k (aO hk h.eP.size) c).2.2;omega)⟩⟩
 ·obtain⟨⟨d,hc⟩,_⟩:=g k (cu h.row k hk).2 c;obtain⟨F,q⟩:=fp h.row k hk;rw[q] at hc;simp at hc
 ·have hl:=h.fl x l;have hk:0<x.2.2.2.length->∀b,x.2.1=some b->w'.heap[b.block]?=w.heap[b.block]?:=fun hp b e=>by obtain⟨n,j,d,i,hb⟩:=hl.2 hp;have o:=e;rw[i] at o;cases o;exact f.block _ (lt_of_some hb) (fun c=>(g _ (lt_of_some hb) c).2.1 ⟨x,l,hp,j,i⟩)
  refine⟨hl.1.keep f.size hk,fun hp=>?_⟩
  obtain⟨n,j,d,i,hb⟩:=hl.2 hp;exact⟨n,j,d,i,(hk hp _ i).trans hb⟩
end
def og (w0:az)(b ct pw:Nat)(T:List Int)(M:cW->Int->cW)(n:Nat):Prop:=
 ∀(w:az)(s:cW)(d:Value)(m:List dY)(a:Int),Wk w0 w b ct pw T s d m->fi T s->a∈T->a∉s.1->T.length<=s.1.length+n->
  Calls prog 231 #[aq b,ak a] w fun e w'=>∃f c,e=.returned (ak s.1.length)/\Wk w0 w' b ct pw T (M s a) f c/\fM w0 w m w' c
theorem xN:(prog.info? 97).map (fun i=>(i.zero,i.size,i.bytes))=some (some (.agg #[ak 0,ak 0]),2,16):=ah
section
variable {w0 w:az}{kb ct pw n:Nat}{T:List Int}{M:cW->Int->cW}{s:cW}{vn:Value}{m:List dY}
theorem DZ (h:Wk w0 w kb ct pw T s vn m)(a:Int)(a0:0<=a)(a1:a<1152921504606846976)(d:T.contains a=false):
 Calls prog 198 #[aq kb,ak a] w fun e w'=>∃x,e=.returned (.tuple #[ak x,.bool false])/\w'=w:=by
 obtain⟨c0,c1,c2,lk⟩:=h.cells;obtain⟨D,o1,f,g⟩:=h.mp;have b:=f a;rw[d] at b;have b:=hide b;go_enter func198,ntmps198;go_wp2_with (at_lookup;refine wpList_lookup_own_ok_int _ rfl _ _ 127 rfl 3 3 .i64 iY underlying127 underlying3 (l8 _) ct T.length D rfl o1 _ _ rfl (jp a0 a1) ?_;intro c i j;rw[b.o])
 go_ret2;exact⟨c,rfl,rfl⟩
def l9 (s:cW)(a:Int):Int:=if s.1.contains a=true then(s.1.idxOf a:Int) else s.1.length
def l_ (M:cW->Int->cW)(s:cW)(a:Int):cW:=if s.1.contains a=true then s else M s a
theorem D0 (hM:og w0 kb ct pw T M n)(h:Wk w0 w kb ct pw T s vn m)(ho:fi T s)(hn:T.length<=s.1.length+n)(a:Int)(a0:0<=a)(a1:a<1152921504606846976)(i:a∈T):
 Calls prog 198 #[aq kb,ak a] w fun e w'=>∃j d,e=.returned (.tuple #[ak (l9 s a),.bool true])/\Wk w0 w' kb ct pw T (l_ M s a) j d/\fM w0 w m w' d:=by
 have H:=hide h;have u:=hide hM;obtain⟨c0,c1,c2,lk⟩:=h.cells;obtain⟨D,o1,v,x⟩:=h.mp;have p:=jp a0 a1;have q:aA (Maps.has D (.int .i64 a)=true):=(v a).trans (by simpa using i)
 have f:=x a i;by_cases b:a∈s.1
 ·rw[DP b] at f;have g:aA (_=_):=f;have k:l9 s a=(s.1.idxOf a:Int):=by unfold l9;rw[aK (by simpa using b)]
  have l:l_ M s a=s:=by unfold l_;rw[aK (by simpa using b)]
  rw[k,l];generalize s.1.idxOf a=L at g⊢;go_enter func198,ntmps198;go_wp2_with (at_lookup;refine wpList_lookup_own_ok_int _ rfl _ _ 127 rfl 3 3 .i64 iY underlying127 underlying3 (l8 _) ct T.length D rfl o1 _ _ rfl p ?_;intro c o B;rw[q.o];(have hc:c=(L:Int):=by have:=o.symm.trans g.o;simpa using this);subst hc)
  go_ret2;exact⟨vn,m,rfl,H.o,fM.refl _ _ _⟩
 ·rw[DO b] at f;have g:aA (_=_):=f;have k:l9 s a=s.1.length:=by unfold l9;rw[aI (by simpa using b)]
  have l:l_ M s a=M s a:=by unfold l_;rw[aI (by simpa using b)]
  rw[k,l];have P:=u.o w s vn m a H.o ho i b hn;generalize M s a=N at P⊢;generalize s.1.length=L at P⊢;go_enter func198,ntmps198;go_wp2_with (at_lookup;refine wpList_lookup_own_ok_int _ rfl _ _ 127 rfl 3 3 .i64 iY underlying127 underlying3 (l8 _) ct T.length D rfl o1 _ _ rfl p ?_;intro c o B;rw[q.o];(have hc:c=-1:=by have:=o.symm.trans g.o;simpa using this);subst hc)
  refine P.mono ?_;rintro e w1 ⟨j,d,rfl,F,k1⟩
  have t:=c7 F k1;go_wp2_with fail;go_ret2;exact⟨j,d,rfl,t.o.1,t.o.2⟩
theorem xO (x:Int)(h:dk x=3):0<=dm x/\dm x<1152921504606846976:=by
 have h0:dc x=0:=by
  by_cases c:dc x=0
  ·exact c
  ·unfold dk at h;omega
 have b:=(vV x h0).1;rw[h] at b;rw[sj] at b;unfold rc at b;split at b
 ·omega
 ··omega
theorem D1 (hM:og w0 kb ct pw T M n)(h:Wk w0 w kb ct pw T s vn m)(ho:fi T s)(hn:T.length<=s.1.length+n)(x:Int):
 Calls prog 130 #[aq kb,ak x] w fun e w'=>∃ao N,e=.returned (.agg #[ak (eA M T s x).1.1,ak (eA M T s x).1.2])/\Wk w0 w' kb ct pw T (eA M T s x).2 ao N/\fM w0 w m w' N:=by
 have H:aA (Wk w0 w kb ct pw T s vn m):=h;have S:=aw w (.cells #[.int .i64 0,.int .i64 0] 97)
 have W:=aP w (.cells #[.int .i64 0,.int .i64 0] 97)
 have P:=vZ x (w.alloc (.cells #[.int .i64 0,.int .i64 0] 97))
 by_cases o:dk x=3
 ·have B:=xO x o;rw[o] at P;cases hT:T.contains (dm x)
  ·have ev:eA M T s x=((0,0),s):=by unfold eA;rw[aK o,hT,aI ac]
   rw[ev];generalize dm x=a at P B hT;generalize dc x=cc at P;have F:aA (∀w1,Below w.heap.size w w1->Calls prog 198 #[aq kb,ak a] w1 fun e w'=>∃x,e=.returned (.tuple #[ak x,.bool false])/\w'=w1):=fun w1 hb=>DZ (H.o.below hb) a B.1 B.2 hT;go_enter func130,ntmps130;go_wp2_with fail;refine P.mono ?_;rintro e w1 ⟨rfl,d⟩
   have g:=(d.block w.heap.size ac).trans W;have q:=S.trans (d.mono ac)
   have ab:=d.size;simp at ab;have t:=aw w1 (.cells #[.int .i64 3,.int .i64 a] 97)
   have j:=q.trans (t.mono aa)
   have i:=(t.block w.heap.size aa).trans g;clear W g S d;go_wp2_with fail;refine(F.o _ j).mono ?_;rintro e w3 ⟨z,rfl,ap⟩
   rw[<-ap] at i j t;have ar:w.heap.size<w3.heap.size:=by rw[ap];simp;omega
   clear ap;have y0:w3.cell? (av w.heap.size 0)=some (ak 0):=aD i
   have y1:w3.cell? (av w.heap.size 1)=some (ak 0):=aD i
   have aB:w3.frozen? (av w.heap.size 0)=false:=aE i
   have aF:w3.frozen? (av w.heap.size 1)=false:=aE i
   have ad:aA (fM w0 w m w3 m):=fM.of j;have ag:aA (∀ai,Fr (fun k=>k=w.heap.size) w3 ai->_):=fun ai f=>(H.o.below j).but f (fun k _ e=>by have e:=e;rw[e];exact⟨⟨_,i⟩,fun c=>by have:=H.o.fb _ c;omega,H.o.eP.size⟩)
   clear F i t q j H;go_wp2_with fail;obtain⟨b,hW0⟩:∃b,b=(w3.setCell ⟨w.heap.size,0,none⟩ (.int .i64 0)).setCell ⟨w.heap.size,1,none⟩ (.int .i64 0):=⟨_,rfl⟩
   rw[<-hW0];have g0:b.cell? (av w.heap.size 0)=some (ak 0):=by exact lE
   have g1:b.cell? (av w.heap.size 1)=some (ak 0):=by exact xH
   have l:Fr (fun k=>k=w.heap.size) w3 b:=by rw[hW0];exact((Fr.refl (fun k=>k=w.heap.size) w3).set w.heap.size 0 _ rfl).set w.heap.size 1 _ rfl
   exact a5 (v:=.agg #[ak 0,ak 0]) (by simp[results,results130,go_sem,g0,g1]) rfl ⟨vn,m,rfl,ag.o b l,ad.o.new l (fun k e=>Nat.le_of_eq (Eq.symm e))⟩
  ·have aR:dm x∈T:=by simpa using hT
   have ev:eA M T s x=((3,l9 s (dm x)),l_ M s (dm x)):=by unfold eA l9 l_;rw[aK o,aK hT];split<;>rfl
   rw[ev];generalize dm x=a at P B aR⊢;generalize dc x=cc at P;have F:aA (∀w1,Below w.heap.size w w1->_):=fun w1 hb=>D0 hM (H.o.below hb) ho hn a B.1 B.2 aR;generalize l9 s a=z at F⊢;generalize l_ M s a=a2 at F⊢;go_enter func130,ntmps130;go_wp2_with fail;refine P.mono ?_;rintro e w1 ⟨rfl,d⟩
   have g:=(d.block w.heap.size ac).trans W;have q:=S.trans (d.mono ac)
   have ab:=d.size;simp at ab;have t:=aw w1 (.cells #[.int .i64 3,.int .i64 a] 97)
   have j:=q.trans (t.mono aa)
   have i:=(t.block w.heap.size aa).trans g;go_wp2_with fail;refine(F.o _ j).mono ?_;rintro e w3 ⟨ao,N,rfl,aV,am⟩
   have al:=(am.1.im _ _ _ _ i ae ae).trans i;have ar:=am.1.size;simp at ar;have y0:w3.cell? (av w.heap.size 0)=some (ak 0):=aD al
   have y1:w3.cell? (av w.heap.size 1)=some (ak 0):=aD al
   have aB:w3.frozen? (av w.heap.size 0)=false:=aE al
   have aF:w3.frozen? (av w.heap.size 1)=false:=aE al
   have a0:¬fD N w.heap.size:=fun c=>(am.2 _ c).elim (fun c=>by have:=H.o.fb _ c;omega) (fun c=>by simp at c;omega)
   have ad:=hide ((fM.of j).trans am)
   have ag:aA (∀ai,Fr (fun k=>k=w.heap.size) w3 ai->_):=fun ai f=>aV.but f (fun k _ e=>by have e:=e;rw[e];exact⟨⟨_,al⟩,a0,H.o.eP.size⟩)
   go_wp2_with fail;obtain⟨b,hW0⟩:∃b,b=(w3.setCell ⟨w.heap.size,0,none⟩ (.int .i64 3)).setCell ⟨w.heap.size,1,none⟩ (.int .i64 z):=⟨_,rfl⟩
   rw[<-hW0];have g0:b.cell? (av w.heap.size 0)=some (ak 3):=by exact lE
   have g1:b.cell? (av w.heap.size 1)=some (ak z):=by exact xH
   have l:Fr (fun k=>k=w.heap.size) w3 b:=by rw[hW0];exact((Fr.refl (fun k=>k=w.heap.size) w3).set w.heap.size 0 _ rfl).set w.heap.size 1 _ rfl
   exact a5 (v:=.agg #[ak 3,ak z]) (by simp[results,results130,go_sem,g0,g1]) rfl ⟨ao,N,rfl,ag.o b l,ad.o.new l (fun k e=>Nat.le_of_eq (Eq.symm e))⟩
 ·have ev:eA M T s x=((dk x,dm x),s):=by unfold eA;rw[aI o]
  rw[ev];have a1:(dk x !=3)=true:=by simpa using o
  clear ev o hM ho hn;generalize dk x=u at P a1⊢;generalize dm x=v at P⊢;generalize dc x=cc at P;go_enter func130,ntmps130;go_wp2_with fail;refine P.mono ?_;clear P;rintro e w1 ⟨rfl,d⟩
  have g:=(d.block w.heap.size ac).trans W;have q:=S.trans (d.mono ac)
  have ab:=d.size;simp at ab;have y0:w1.cell? (av w.heap.size 0)=some (ak 0):=aD g
  have y1:w1.cell? (av w.heap.size 1)=some (ak 0):=aD g
  have aB:w1.frozen? (av w.heap.size 0)=false:=aE g
  have aF:w1.frozen? (av w.heap.size 1)=false:=aE g
  have l1:w.heap.size<w1.heap.size:=aa;have n1:¬w.heap.size=w1.heap.size:=aa;have a3:¬w1.heap.size=w.heap.size:=aa;have g:=hide g;clear W S d;go_wp2_with fail;obtain⟨b,hW0⟩:∃b,b=(w1.setCell ⟨w.heap.size,0,none⟩ (.int .i64 u)).setCell ⟨w.heap.size,1,none⟩ (.int .i64 v):=⟨_,rfl⟩
  rw[<-hW0];have g0:b.cell? (av w.heap.size 0)=some (ak u):=by exact lE
  have g1:b.cell? (av w.heap.size 1)=some (ak v):=by exact qp
  have l:Fr (fun k=>k=w.heap.size) w1 b:=by rw[hW0];exact((Fr.refl (fun k=>k=w.heap.size) w1).set w.heap.size 0 _ rfl).set w.heap.size 1 _ rfl
  have ba:b.heap.size=w1.heap.size:=by rw[hW0];simp[World.setCell]
  have an:=aw b (.cells #[.int .i64 u,.int .i64 v] 97)
  have ag:=((H.o.below q).but l (fun k _ e=>by have e:=e;rw[e];exact⟨⟨_,g.o⟩,fun c=>by have:=H.o.fb _ c;omega,H.o.eP.size⟩)).below an;have ad:=((fM.of (w0:=w0) (m:=m) q).new l (fun k e=>Nat.le_of_eq (Eq.symm e))).trans (fM.of an)
  have r0:=(an.cell (p:=av w.heap.size 0) (by show w.heap.size<_;omega)).trans g0;have r1:=(an.cell (p:=av w.heap.size 1) (by show w.heap.size<_;omega)).trans g1;generalize b.alloc (.cells #[.int .i64 u,.int .i64 v] 97)=bb at*;exact a5 (v:=.agg #[ak u,ak v]) (by simp[results,results130,go_sem,r0,r1]) rfl ⟨vn,m,rfl,ag,ad⟩
end
theorem sZ {x:Int}(h:dd x=true):0<=cq x/\cq x<1152921504606846976:=by rw[lW x h];unfold dd at h;simp at h;exact xO x h.2
section
variable {c:gF}{k:cj}{cK cx:Value}{F:Nat->Prop}{s:cr}{w:az}
theorem xP (h:(cutV c k cK cx).J F s w)(x:Int):
 Calls prog 227 #[aq c.pk,ak x] w fun e w'=>∃v,e=.returned (.tuple #[ak v,.bool (k.cP x)])/\(k.cP x=true->v=s.f (cq x))/\Below w.heap.size w w':=by
 have HJ:=hide h;have P:=nY x w;cases ha:dd x
 ·rw[ha] at P;have b:k.cP x=false:=by unfold cj.cP;rw[ha];rfl
  rw[b];go_enter func227,ntmps227;exact xJ
 ·have b:k.cP x=k.T.contains (cq x):=by unfold cj.cP;rw[ha];rfl
  have d:=sZ ha;rw[b];rw[ha] at P;generalize cq x=a at P d⊢;have xE:=jp d.1 d.2;obtain⟨bt,hbt⟩:∃bt,bt=k.T.contains a:=⟨_,rfl⟩
  rw[<-hbt];go_enter func227,ntmps227;go_wp2_with fail;refine P.mono ?_;clear P;rintro e w1 ⟨rfl,hb1⟩
  have oc:=(cutV c k cK cx).below HJ.o hb1;obtain⟨c0,c1,_⟩:=ei oc;obtain⟨⟨D,o1,o2,o3⟩,_⟩:=xK oc;exact xD
theorem oh (h:(cutV c k cK cx).J F s w)(x:Int):
 Calls prog 189 #[aq c.pk,ak x] w fun e w'=>e=.returned (.bool (k.ls s x))/\Below w.heap.size w w':=by
 have P:=xP h x;cases hy:k.cP x
 ·have b:k.ls s x=false:=by unfold cj.ls;rw[hy];rfl
  rw[b];rw[hy] at P;go_enter func189,ntmps189;go_wp2_with fail;refine P.mono ?_;rintro e w1 ⟨v,rfl,_,hb1⟩
  go_wp2;go_ret;exact⟨rfl,hb1⟩
 ·have b:k.ls s x=(s.f (cq x)==-1):=by unfold cj.ls;rw[hy];rfl
  rw[b];rw[hy] at P;go_enter func189,ntmps189;exact qq
theorem qs (h:(cutV c k cK cx).J F s w)(x:Int):
 Calls prog 190 #[aq c.pk,ak x] w fun e w'=>e=.returned (ak (k.nw s x))/\Below w.heap.size w w':=by
 have P:=xP h x;cases hy:k.cP x
 ·have b:k.nw s x=x:=by unfold cj.nw;rw[hy];simp
  rw[b];rw[hy] at P;go_enter func190,ntmps190;go_wp2_with fail;refine P.mono ?_;rintro e w1 ⟨v,rfl,_,hb1⟩
  go_wp2_with fail;go_ret;exact⟨rfl,hb1⟩
 ·rw[hy] at P;by_cases d:s.f (cq x)=-1
  ·have b:k.nw s x=x:=by unfold cj.nw;rw[hy,d];simp
   rw[b];rw[d] at P;go_enter func190,ntmps190;exact qq
  ·have b:k.nw s x=ew 3 (s.f (cq x)):=by unfold cj.nw;rw[hy,aK (by simp[d])]
   rw[b];generalize s.f (cq x)=a at P d⊢;go_enter func190,ntmps190;exact xG
theorem qt (h:(cutV c k cK cx).J F s w)(i:CI k s)(x:Int):
 Calls prog 182 #[aq c.pk,ak x] w fun e w'=>e=.returned (ak (k.br s x).1)/\(cutV c k cK cx).J F (k.br s x).2 w'/\cg F w F w':=by
 have p:aA ((cutV c k cK cx).J F s w):=h;have P:=oh h x;clear h;cases hl:k.ls s x
 ·have m:k.br s x=(k.nw s x,s):=by unfold cj.br;rw[hl];rfl
  rw[m];rw[hl] at P;go_enter func182,ntmps182;go_wp2_with fail;refine P.mono ?_;clear P;rintro e w1 ⟨rfl,d⟩
  have S:=(cutV c k cK cx).below p.o d;have W:=qs S x;clear S;go_wp2_with fail;refine W.mono ?_;rintro e n ⟨rfl,j⟩
  have hb:=d.trans (j.mono d.size)
  clear W d j;go_wp2_with fail;go_ret;exact⟨rfl,(cutV c k cK cx).below p.o hb,cg.of hb⟩
 ·have m:k.br s x=(k.nw (k.cp s (cq x)) x,k.cp s (cq x)):=by unfold cj.br;rw[aK hl]
  rw[m];obtain⟨l1,l2,bb⟩:=cj.m7 hl;have ab:=sZ l1;have q:=nY x;rw[hl] at P;rw[l1] at q;have ad:=jp ab.1 ab.2;have E:aA (k.cp s (cq x)={s with g:=jU k.N k.O k.y s.g s.ws (cq x),ws:=jV k.N k.O k.y s.g s.ws (cq x),f:=gO s.f (cq x) (mY k.N k.O k.y s.g s.ws (cq x))}):=rfl;have n1:=i.hN';have bo:=i.hO;have bp:=i.hg;have br:=i.tl;have ag:(Lit.int .i64 (mY k.N k.O k.y s.g s.ws (cq x))).wf=true:=by
   unfold mY;split
   ·exact WalkArith.wf_i64 ⟨aa,aa⟩
   ·decide
  have hv:=m9 _ ag;generalize k.cp s (cq x)=s2 at E⊢;clear i m hl l1 bb ag;generalize cq x=a at*;go_enter func182,ntmps182;go_wp2_with fail;refine P.mono ?_;clear P;rintro e w1 ⟨rfl,d⟩
  go_wp2_with fail;refine(q w1).mono ?_;rintro e n ⟨rfl,j⟩
  have hb:=d.trans (j.mono d.size)
  have u:=(cutV c k cK cx).below p.o hb;obtain⟨c0,c1,_,_,_,c5,_⟩:=ei u;have ai:=(cutV c k cK cx).below u (aH _ n).drew;obtain⟨bd,al⟩:=iZ ai;have v:aA (_/\_):=⟨hb,al⟩
  have C:=w7 a n.drew bd;clear d j hb q al ai u;go_wp2_with fail
  go_region_held3 (fun w'=>w'.cell? (av c.pk 0)=some (aq c.pw)/\w'.cell? (av c.pk 1)=some (.map (some c.ct))/\w'.cell? (av c.pw 0)=some (aq c.p)) (go_keep)
   (first
     |(go_at_call 165;refine C.mono ?_;clear C;rintro e am ⟨rfl,an,ao⟩;obtain⟨o,ap⟩:=v.o.2 am _ _ an ao;obtain⟨ar,aB,_,_,_,aF,_⟩:=ei o;obtain⟨n4,be⟩:=DS o;obtain⟨⟨D,o1,aR,a0⟩,hM⟩:=xK o;obtain⟨B,bg,a1,l⟩:=o1.update (t:=127) (e:=3) iY underlying127 (by unfold maxLen;omega) ad hv;have bi:=l.cell ar (by simpa using n4);have bl:=l.cell aB (by simpa using n4);have bn:=l.cell aF (by simpa using be);obtain⟨a2,a3⟩:=hM B _ (Mp.put o1 aR a0 l2 a1) ((Fr.refl _ am).grown l (fun b e=>aM (by cases e;rfl)));have N:aA ((cutV c k cK cx).J F s2 B/\cg F w F B):=⟨(by rw[E.o];exact a2),(((cg.of v.o.1).below (aH _ n).drew).trans ap).trans a3⟩;clear an ao o ap o1 aR a0 hM a1 l a2 a3))
  clear bi bl bn ar aB aF bg c0 c1 c5 E hv ad v;go_wp2_with fail;refine(qs N.o.1 x).mono ?_;rintro e bs ⟨rfl,ba⟩
  go_wp2_with fail;go_ret;exact⟨rfl,(cutV c k cK cx).below N.o.1 ba,N.o.2.below ba⟩
theorem qu (h:(cutV c k cK cx).J F s w)(m:CI k s)(a:Int):
 Calls prog 226 #[aq c.pk,ak a] w fun e w'=>e=.returned (.tuple #[])/\(cutV c k cK cx).J F (k.kf s a) w'/\cg F w F w':=by
 have d:=(cutV c k cK cx).below h (aH _ w).drew;obtain⟨c0,_,_,_,_,c5,_⟩:=ei h;obtain⟨n,_⟩:=iZ d;have L:=jS a w.drew n;have ag:aA (CI k s):=m;have o:aA ((cutV c k cK cx).J F s w.drew):=d;have E:aA (k.kf s a=k.st (k.br s (k.ld s a)).2 a (k.br s (k.ld s a)).1):=rfl;have p:ld k.N k.y s.g s.ws a=k.ld s a:=rfl;rw[p] at L;generalize k.kf s a=s2 at E⊢;generalize k.ld s a=x at E L;clear h m d n p;go_enter func226,ntmps226
 go_region_held3 (fun w'=>w'.cell? (av c.pk 0)=some (aq c.pw)/\w'.cell? (av c.pw 0)=some (aq c.p)) (go_keep)
  (first
    |(go_at_call 98;refine L.mono ?_;clear L;rintro e q ⟨rfl,t⟩;have f:=(cutV c k cK cx).below o.o t;obtain⟨u,_,_,_,_,v,_⟩:=ei f;have B:aA ((cutV c k cK cx).J F s q/\cg F w F q):=⟨f,(cg.of (aH _ w).drew).below t⟩;clear f o)
    |(go_at_call 182;refine(qt B.o.1 ag.o x).mono ?_;rintro e ai ⟨rfl,g,N⟩;obtain⟨u,_,_,_,_,v,_⟩:=ei g;obtain⟨S,b⟩:=iZ g;have i:aA (_/\_/\_):=⟨B.o.2.trans N,S,b⟩;clear g N S b)
    |(go_at_call 93;refine(lx a (k.br s x).1 ai i.o.2.1).mono ?_;rintro e j ⟨rfl,b,W⟩;obtain⟨l,ab⟩:=i.o.2.2 j _ _ b W;obtain⟨u,_,_,_,_,v,_⟩:=ei l;have ad:aA ((cutV c k cK cx).J F s2 j/\cg F w F j):=⟨(by rw[E.o];exact l),i.o.1.trans ab⟩;clear b W l ab))
 go_wp2_with fail;go_end0;exact⟨rfl,ad.o.1,ad.o.2⟩
end
end Go.Proofs.YtpkjkjhanlbcoaaGreat
