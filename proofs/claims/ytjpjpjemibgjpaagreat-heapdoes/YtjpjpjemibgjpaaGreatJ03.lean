import Derived.Test.YtjpjpjemibgjpaaGreatJ02
import Derived.Deep.Slices
import Derived.Lib.SmallJoins
import Derived.OpenShut
import Derived.Deep.AppendLies
import Derived.Laws.OwnMore
import Derived.Maps.OwnSet
namespace Go.Proofs.YtjpjpjemibgjpaaGreat
set_option maxRecDepth 100000
set_option maxHeartbeats 1000000
open Tryz
open Go.RowKit W
theorem sa {P:Prop}(h:P:=by
 go_wp2_with fail;refine P.mono ?_;clear P;rintro e w1 ⟨rfl,hb1⟩
 have y1:=(hb1.cell (p:=am pw 0) ia).trans c0;go_wp2_with fail;refine(km.o w1 hb1).mono ?_;rintro e w2 ⟨rfl,W2,F2⟩
 clear y1;go_wp2_with fail;refine(nm.o w2).mono ?_;rintro e w3 ⟨rfl,hb3⟩
 have W3:=W2.o.below hb3;have mm:=F2.o.trans (Fr.of (X:=fun k=>k=p\/k=q\/k=pc\/k=cM) hb3) (fun _ c=>aJ c)
 obtain⟨y0,y1,_,_,l3⟩:=W3.cells;clear y0 y1;go_wp2_with fail;go_ret;exact⟨rfl,W3,mm⟩):P:=h
theorem wh {P:Prop}(h:P:=by
 go_enter func138,ntmps138;go_wp2_with fail;refine(kl w HA.o).mono ?_;rintro e w1 ⟨rfl,hb1⟩
 have y1:=(hb1.cell (p:=am pw 0) ia).trans hc;go_wp2_with fail;refine(mh w1 (HA.o.below hb1 bW)).mono ?_;rintro e w2 ⟨rfl,hb2⟩
 have ef:=hb1.trans (hb2.mono hb1.size)
 have y2:=(ef.cell (p:=am pw 0) ia).trans hc;have P:=mf a w2 (HA.o.below ef bW)
 rw[ho] at P;go_wp2_with fail;refine P.mono ?_;rintro e w3 ⟨rfl,hb3⟩
 have js:=ef.trans (hb3.mono ef.size)
 go_wp2_with fail;go_ret;exact⟨rfl,js⟩):P:=h
theorem wi {P:Prop}(h:P:=by
 go_enter func76,ntmps76;go_wp2_with fail;refine P.mono ?_;rintro e w1 ⟨rfl,hb1⟩
 have y1:=(hb1.cell (p:=am pw 0) ia).trans hc;go_wp2_with fail;refine(HK.o w1 hb1).mono ?_;rintro e w2 ⟨d1,f1,d2,f2,rfl,L1,L2,hb2⟩
 have ef:=hb1.trans (hb2.mono hb1.size)
 go_wp2_with fail;refine(L1.o w2 bX).mono ?_;rintro e w3 ⟨rfl,hb3⟩
 have js:=ef.trans (hb3.mono ef.size)
 go_wp2_with fail;refine(L2.o w3 hb3).mono ?_;rintro e w4 ⟨rfl,hb4⟩
 have jR:=js.trans (hb4.mono js.size)
 go_wp2_with fail;go_ret2;exact⟨rfl,jR⟩):P:=h
theorem wj {P:Prop}(h:P:=by
 go_enter func67,ntmps67;go_wp2_with fail;refine P.mono ?_;rintro e w1 ⟨rfl,hb1⟩
 have y1:=(hb1.cell (p:=am pw 0) ia).trans hc;go_wp2_with fail;refine(K.o w1 hb1).mono ?_;rintro e w2 ⟨rfl,hb2⟩
 have ef:=hb1.trans (hb2.mono hb1.size)
 go_wp2_with fail;refine(km.o w2 ef).mono ?_;rintro e w3 ⟨rfl,hb3⟩
 have js:=ef.trans (hb3.mono ef.size)
 go_wp2_with fail
 go_ret3
 exact⟨rfl,js⟩):P:=h
theorem wm {P:Prop}(h:P:=by
 have hk:0<l.length->∀b,ad=some b->w'.heap[b.block]?=w.heap[b.block]?:=fun hp b e=>by obtain⟨b0,o0,cs,e0,hb⟩:=h.2 hp;rw[e0] at e;cases e;exact k.fF _ _ _ _ hb aa aa
 refine⟨h.1.keep k.size hk,fun hp=>?_⟩
 obtain⟨b0,o0,cs,e0,hb⟩:=h.2 hp;exact⟨b0,o0,cs,e0,(hk hp _ e0).trans hb⟩):P:=h
theorem wn {P:Prop}(h:P:=by
 go_enter func67,ntmps67;go_wp2_with fail;refine P.mono ?_;rintro e w1 ⟨rfl,hb1⟩
 have y1:=(hb1.cell (p:=am pw 0) ia).trans hc;go_wp2_with fail;refine(K.o w1 hb1).mono ?_;rintro e w2 ⟨rfl,hb2⟩
 have ef:=hb1.trans (hb2.mono hb1.size)
 go_wp2_with fail
 go_ret3
 exact⟨rfl,ef⟩):P:=h
theorem sc {P:Prop}(h:P:=by
 go_wp2_with fail;refine P.mono ?_;rintro e w1 ⟨rfl,hb1⟩
 go_wp2_with fail;go_ret2;exact⟨rfl,hb1⟩):P:=h
theorem Cg (a:Int)(c base:Nat)(v:Value)(L:List Int)(w:au)(hc:w.heap[c]?=some (.cells #[v] 96 (0,0)))(i:c<base)(hB:base<=w.heap.size)
 (f:w.ownsRow base 3 1 v L.length (L.map (Value.int .i64)))(D:L.length<=100000):
 Calls prog 164 #[ah a,aj c] w fun e w'=>e=.returned (.tuple #[])/\∃g,w'.heap[c]?=some (.cells #[g] 96 (0,0))/\w'.ownsRow base 3 1 g (L++[a]).length ((L++[a]).map (Value.int .i64))/\eL base c w w':=by
 obtain⟨o,hi,p,q,s⟩:=info_parts jQ;have cc:w.cell? (am c 0)=some v:=ay hc
 have t:=hide hc;clear hc;have x:c<w.heap.size:=V;go_enter func164,ntmps164;go_wp2_with (at_builtin;refine wpList_append_own _ rfl _ _ 96 rfl base 3 o (ah 0) 1 8 underlying96 hi p q s rfl aa _ L.length (L.map (Value.int .i64)) rfl (f.alloc _) ⟨w.heap.size,0,none⟩ 1 1 [ah a] rfl rfl ?_ ?_ ?_ ?_ ?_ ?_;(intro j u d;match j,d with|0,d=>(simp at d;subst d;simp[Addr.add]));(intro u l;simp at l;subst l;rfl);(unfold maxLen;omega);omega;(simp;omega);intro g w1 m n _;obtain⟨b1,gj,A⟩:=v7 m (Nat.succ_pos _);subst A;have b:=(n.block c (by simp;omega) (v5 f i)).trans ((a4 _ _ _ x).trans t.o);have E:w1.cell? (am c 0)=some v:=ay b;have F:w1.frozen? (am c 0)=false:=az b;have B:=hide b;clear b)
 go_end0;refine⟨rfl,.slice (ak b1) (L.length+1) gj,?_,?_,?_⟩
 ·have b:=B.o;simp only [World.setCell,Array.getElem?_modify,if_true,b,Option.map_some];simp
 ·have:=ownsRow_setCell_below m (a:=⟨c,0,none⟩) i (.slice (ak b1) (L.length+1) gj)
  simpa using this
 ·refine(eL.of ((aD base w).alloc hB _) bW).trans (eL.trans (eL.of ((aD base _).grown n (by simp;omega) (v6 f)) bW) ?_)
  exact⟨rfl,rfl,rfl,by simp[World.setCell],fun k _ C=>aN _ _ _ _ C⟩
theorem wu {p q N O y g:Nat}{ws:List Int}(b s u:Int)(c:Nat)(w:au)(h:At w p q N O y g ws)(hc:w.heap[c]?=some (.cells #[.slice none 0 0] 96 (0,0)))(j:p≠c)(l:q≠c)
 (m:0<=b)(b1:b<=2000)(u0:0<=u)(M:u<=2000):
 Calls prog 162 #[aj p,.agg #[ah b,ah s,ah u],.func (.func 164) #[] #[aj c]] w fun e w'=>e=.returned (.tuple #[])/\∃v,w'.heap[c]?=some (.cells #[v] 96 (0,0))/\w'.ownsRow w.heap.size 3 1 v (eA N y g ws (b+u) 2000 b).length ((eA N y g ws (b+u) 2000 b).map (Value.int .i64))/\eL w.heap.size c w w':=by
 have lp:=h.eJ;have n:=lt_of_some hc;have o:=hide hc;clear hc;go_enter func162,ntmps162;go_wp2_with fail
 go_loopw [6] (fun i wr=>∃(a:Int)(L:List Int)(k:Nat)(v:Value),i=ah a/\b<=a/\a<=100000/\b+u-a<=k/\(L.length:Int)+b<=a/\L++eA N y g ws (b+u) k a=eA N y g ws (b+u) 2000 b/\wr.heap[c]?=some (.cells #[v] 96 (0,0))/\wr.ownsRow (w.heap.size+1) 3 1 v L.length (L.map (Value.int .i64))/\eL (w.heap.size+1) c (w.alloc (.cells #[.int .i64 b,.int .i64 s,.int .i64 u] 101)) wr) (fun i _=>(b+u-intOf i).toNat)
 exact⟨b,[],2000,_,rfl,V,V,V,Z,rfl,(a4 _ _ _ n).trans o.o,a7 _ _ _ _,eL.refl _ _ _⟩
 ·
   obtain⟨a,L,k,v,rfl,a1,a2,t,Q,x,hc,hown,hS⟩:=hrel;have d:=hS.block w.heap.size V V;rw[aL] at d;have R:wr.cell? (am w.heap.size 0)=some (ah b):=ay d
   have S:wr.cell? (am w.heap.size 1)=some (ah s):=ay d
   have U:wr.cell? (am w.heap.size 2)=some (ah u):=ay d
   have A:=(h.alloc _).same (hS.block p V j) (hS.block q (by have:=h.eK;omega) l)
   have hsz:=hS.size;simp only [World.size_alloc] at hsz;have A5:=hide x;have CC:=hide hc;go_wp2_with fail;refine(lC b s u _ m V u0 V).mono ?_;rintro e w1 ⟨rfl,hb1⟩
   by_cases B:a<b+u
   ·go_wp2_with fail;refine(fY a _ (A.below hb1 bW)).mono ?_;rintro e C ⟨rfl,D⟩
    have ef:=hb1.trans (D.mono hb1.size)
    by_cases hp:pc (ld N y g ws a)=0
    ·obtain⟨W,X⟩:=pZ _ hp;obtain⟨E,rfl,f⟩:=v9 (N:=N) (y:=y) (g:=g) (ws:=ws) k t B hp;have F:=hide hp;have E1:=hide f;rw[F.o];go_wp2_with fail;refine(Cg a c (w.heap.size+1) v L C ((ef.block c (lt_of_some CC.o)).trans CC.o) V (by have:=ef.size;omega) (lA hown ef) V).mono ?_;rintro e w3 ⟨rfl,G,H,I,J⟩
     have K:=hide H;go_wp2_with fail;go_roundw;exact⟨a+(1+pf (ld N y g ws a)),L++[a],E,G,rfl,V,V,V,by simp;omega,by rw[<-A5.o,E1.o];simp,K.o,I,(hS.trans (eL.of ef hsz)).trans J⟩
     simp[intOf];omega
    ·have f:=v8 (N:=N) (y:=y) (g:=g) (ws:=ws) (hi:=b+u) k hp;have E1:=hide f;exact vL
   ·go_wp2_with fail;exact vM
def dS (N y g:Nat)(ws:List Int):List Int:=eA N y g ws y 2000 0
def dw (N y g:Nat)(ws:List Int):List Int:=eA N y g ws ((N:Int)+g) 2000 N
theorem p3 {p q N O y g:Nat}{ws:List Int}(w:au)(h:At w p q N O y g ws):
 Calls prog 104 #[aj p] w fun e w'=>∃v1 v2,e=.returned (.tuple #[v1,v2])/\w'.ownsRow w.heap.size 3 1 v1 (dS N y g ws).length ((dS N y g ws).map (Value.int .i64))/\w'.ownsRow w.heap.size 3 1 v2 (dw N y g ws).length ((dw N y g ws).map (Value.int .i64))/\Below w.heap.size w w':=by
 obtain⟨c0,c1,c2,c3,c4,c5,f⟩:=h.cells;have lp:=h.eJ;have u:=h.eK;have k1:=h.hN';have v:=h.hy;have x:=h.hO;have A:=h.hg;go_enter func104,ntmps104;go_wp2_with fail;refine(v_ 0 N y w.heap.size _ ((h.alloc _).alloc _) ((a4 _ _ _ Z).trans (aL _ _)) V V V V V V).mono ?_;rintro e w1 ⟨rfl,v1,i,j,b⟩
 have k:=((h.alloc _).alloc _).same (b.block p (by simp;omega) V) (b.block q (by simp;omega) V)
 have c:=(b.block (w.heap.size+1) Z V).trans (r7 _ Z)
 have m:=hide i;have n:=hide c;have o:=b.size;simp only [World.size_alloc] at o;clear i c c0 c1 c2 c3 c4 c5 f;obtain⟨c0,c1,c2,c3,c4,c5,f⟩:=k.cells;go_wp2_with fail;refine(wu N O g (w.heap.size+1) _ k n.o V V V V V V).mono ?_;rintro e l ⟨rfl,v2,c,s,d⟩
 have B:l.cell? (am w.heap.size 0)=some v1:=by have:=(d.block w.heap.size V V).trans m.o;simp[World.cell?,this]
 have C:l.cell? (am (w.heap.size+1) 0)=some v2:=ay c
 have D:=d.size;clear c;go_wp2
 go_quiet (fail)
 go_wp2;go_ret2;simp only [World.size_alloc] at j b;have t:dS N y g ws=eA N y g ws (0+(y:Int)) 2000 0:=by rw[Int.zero_add];rfl
 refine⟨v1,v2,rfl,?_,?_,?_⟩
 ·rw[t];exact lA (ni (base:=w.heap.size+1+1) (v4 j d bW V) V) (below_drewN bX _)
 ·exact lA (ni s V) (below_drewN bX _)
 ·exact below_drewN (((bX.alloc bW _).alloc Z _).trans ((b.below V bW).trans (d.below V V))) _
def B1:List Int:=ff (List.replicate 24 0) 0 33 2
def B2:List Int:=ff B1 3 194 12
theorem e16:f8 16 16 0 0=16:=by decide+kernel
theorem Ch (ws:List Int)(y:Nat)(hd:Int)(k:Nat):(ff ws y hd k).length=ws.length:=by
 induction k with
 |zero=>simp[ff]
 |succ k b=>simp[ff,b]
theorem jS (l:List Int)(i j:Nat)(x:Int)(h:i<l.length):(l.set i x).getD j 0=if i=j then x else l.getD j 0:=by
 rw[aC,aC,List.getElem?_set];split
 ·rename_i e;subst e;simp
 ·rfl
theorem kS (ws:List Int)(y:Nat)(hd:Int)(k i:Nat)(h:y+k<ws.length):(ff ws y hd k).getD i 0=if i=y then hd else if y+1<=i/\i<y+1+k then 2 else ws.getD i 0:=by
 induction k with
 |zero=>
  rw[ff,jS _ _ _ _ V];by_cases e:y=i
  ·rw[aH e,aH e.symm]
  ·rw[aE e,aE (fun c=>e c.symm),aE V]
 |succ k f=>
  rw[ff,jS _ _ _ _ (by rw[Ch];omega),f V];by_cases e:y+1+k=i
  ·rw[aH e,aE V,aH V]
  ·rw[aE e];by_cases b:i=y
   ·rw[aH b,aH b]
   ·rw[aE b,aE b];by_cases d:y+1<=i/\i<y+1+k
    ·rw[aH d,aH V]
    ·rw[aE d,aE V]
theorem Cj (y f:Nat):hB 0 ((y+1+f:Nat):Int) y=true:=by simp[hB];omega
theorem ww {N y g:Nat}{ws:List Int}(hd:Int)(f:Nat)(h:y+f<ws.length):ld N (y+1+f) g (ff ws y hd f) y=hd:=by
 have hi:da N (y+1+f) g y=true:=by unfold da;rw[Cj];rfl
 unfold ld;rw[aH hi,Int.toNat_natCast,kS _ _ _ _ _ h,aH rfl]
def gY (N y:Nat)(k f:Int):Bool:=decide (hc k f=0/\f+1<=(N:Int)-y)
def ib (N O y g:Nat)(ws:List Int)(a:Int):Bool:=decide (pc (ld N y g ws a)=0/\1+pf (ld N y g ws a)<=f8 N y g a-a/\1+pf (ld N y g ws a)<=(O:Int)-g)
theorem ow {N y:Nat}{k f:Int}(h:gY N y k f=true):hc k f=0/\f+1<=(N:Int)-y:=by simpa[gY] using h
theorem Cm {N y:Nat}{k f:Int}(h:gY N y k f=false):hc k f≠0\/(N:Int)-y<f+1:=by
 have:¬(hc k f=0/\f+1<=(N:Int)-y):=by simpa[gY] using h
 by_cases c:hc k f=0
 ·exact aI V
 ·exact aJ c
theorem nn {N O y g:Nat}{ws:List Int}{a:Int}(h:ib N O y g ws a=true):pc (ld N y g ws a)=0/\1+pf (ld N y g ws a)<=f8 N y g a-a/\1+pf (ld N y g ws a)<=(O:Int)-g:=by simpa[ib] using h
theorem Cn {N O y g:Nat}{ws:List Int}{a:Int}(h:ib N O y g ws a=false):pc (ld N y g ws a)≠0\/f8 N y g a-a<1+pf (ld N y g ws a)\/(O:Int)-g<1+pf (ld N y g ws a):=by
 have:¬(pc (ld N y g ws a)=0/\1+pf (ld N y g ws a)<=f8 N y g a-a/\1+pf (ld N y g ws a)<=(O:Int)-g):=by simpa[ib] using h
 by_cases c:pc (ld N y g ws a)=0
 ·exact aI V
 ·exact aJ c
def ns (N y:Nat)(k f:Int):Int:=if gY N y k f=true then(y:Int) else-1
def ix (N y:Nat)(k f:Int):Nat:=if gY N y k f=true then y+1+f.toNat else y
def eM (N y:Nat)(k f:Int)(ws:List Int):List Int:=if gY N y k f=true then ff ws y (hw k f) f.toNat else ws
def mn (N O y g:Nat)(ws:List Int)(a:Int):Int:=if ib N O y g ws a=true then((N+g:Nat):Int) else-1
def ju (N O y g:Nat)(ws:List Int)(a:Int):Nat:=if ib N O y g ws a=true then g+(1+(pf (ld N y g ws a)).toNat) else g
def jv (N O y g:Nat)(ws:List Int)(a:Int):List Int:=if ib N O y g ws a=true then splice ws (N+g) ((ws.drop a.toNat).take (1+(pf (ld N y g ws a)).toNat)) else ws
theorem wx {p q N O y g:Nat}{ws:List Int}(k f:Int)(w:au)(h:At w p q N O y g ws):
 Calls prog 24 #[aj p,ah k,ah f] w fun e w'=>e=.returned (ah (ns N y k f))/\At w' p q N O (ix N y k f) g (eM N y k f ws)/\c7 p q w w':=by
 unfold ns ix eM;cases hb:gY N y k f
 ·rw[aE Z,aE Z,aE Z];exact(B6 k f w h (Cm hb)).mono fun e w' b=>⟨b.1,h.below b.2 bW,c7.of b.2⟩
 ·exact B5 k f w h (ow hb).1 (ow hb).2
theorem wy {p q N O y g:Nat}{ws:List Int}(a:Int)(w:au)(h:At w p q N O y g ws):
 Calls prog 132 #[aj p,ah a] w fun e w'=>e=.returned (ah (mn N O y g ws a))/\At w' p q N O y (ju N O y g ws a) (jv N O y g ws a)/\c7 p q w w':=by
 unfold mn ju jv;cases hb:ib N O y g ws a
 ·rw[aE Z,aE Z,aE Z];exact(Ce a w h (Cn hb)).mono fun e w' b=>⟨b.1,h.below b.2 bW,c7.of b.2⟩
 ·exact Cb a w h (nn hb).1 (nn hb).2.1 (nn hb).2.2
open Go.ChangeShapes Go.WideShapes Go.ChangeAt Go.RowKit Go.Joins Go.Deep W cg
open Go.RowKit W Kp cg
section
variable {P:Program}(w:au)
theorem Co (base:Nat)(t ty e:TypeId)(i:TypeInfo)(z:Value)(size bytes:Nat)(ht:P.underlying t=some (.slice e))(hi:P.info? e=some i)(hz:i.zero=some z)
 (p:i.size=size)(q:i.bytes=bytes)(s:z.cells.size=size)(x:0<size)
 (v:Value)(n:Nat)(xs:List Value)(g:w.ownsRow base e size v n xs)
 (k:Option Addr)(m c:Nat)(f:List Value)(hl:f.length=m*size)(A:k=none->m=0/\c=0)(B:∀a,k=some a->∀j u,f[j]?=some u->w.cell? (a.add j)=some u)(C:∀u∈f,u.oneCell'=true)
 (D:n+m<=maxLen)(E:(n+m)*bytes<=140737488355328)(F:base<=w.heap.size):
 ∃b d w',(Builtin.append_ #[t,t] ty #[v,.slice k m c]).run P w=.ok (.slice b (n+m) d) w'/\w'.ownsRow base e size (.slice b (n+m) d) (n+m) (xs++f)/\w.grownBy w' v.ownBlock/\((Value.slice b (n+m) d).ownBlock=v.ownBlock\/(Value.slice b (n+m) d).ownBlock=some w.heap.size):=by
 cases k with
 |some a=>
  obtain⟨J,w',l,o,G,_,H⟩:=run_append_own_at (P:=P) w base t ty e i z size bytes ht hi hz p q s x v n xs g a m c f hl (B a rfl) C D E F;obtain⟨b,d,rfl⟩:=dQ o;exact⟨b,d,w',l,o,G,H⟩
 |none=>
  obtain⟨rfl,rfl⟩:=A rfl;have I:=List.eq_nil_of_length_eq_zero (by simpa using hl)
  subst I;have l:=run_append_owned_none (P:=P) w base t ty e i size ht hi v n xs g;obtain⟨b,d,rfl⟩:=dQ g;exact⟨b,d,w,l,by simpa using g,⟨rfl,rfl,rfl,aA _,fun _ _ _=>rfl⟩,aJ rfl⟩
theorem wz {o:Oper}{a:Act}{K:Act->au->Prop}{Q:Exit->Act->au->Prop}(s x:Operand)(t:TypeId)
 (k:o.op=.call {callee:=.builtin .append,args:=#[s,x],argTypes:=#[t,t]})
 (base:Nat)(e:TypeId)(i:TypeInfo)(z:Value)(size bytes:Nat)(ht:P.underlying t=some (.slice e))(hi:P.info? e=some i)(hz:i.zero=some z)
 (l:i.size=size)(p:i.bytes=bytes)(q:z.cells.size=size)(A:0<size)
 (v:Value)(n:Nat)(xs:List Value)(hs:a.eval s=v)(B:w.ownsRow base e size v n xs)
 (g:Option Addr)(m c:Nat)(f:List Value)(C:a.eval x=.slice g m c)(hl:f.length=m*size)(D:g=none->m=0/\c=0)(E:∀a,g=some a->∀j u,f[j]?=some u->w.cell? (a.add j)=some u)(F:∀u∈f,u.oneCell'=true)
 (G:n+m<=maxLen)(H:(n+m)*bytes<=140737488355328)(I:base<=w.heap.size)
 (h:∀b d w',w'.ownsRow base e size (.slice b (n+m) d) (n+m) (xs++f)->w.grownBy w' v.ownBlock->((Value.slice b (n+m) d).ownBlock=v.ownBlock\/(Value.slice b (n+m) d).ownBlock=some w.heap.size)->K (a.put o.dst (.slice b (n+m) d)) w'):o.wp P a w K Q:=by
 obtain⟨b,d,w',J,L,M,N⟩:=Co (P:=P) w base t o.type e i z size bytes ht hi hz l p q A v n xs B g m c f hl D E F G H I;unfold Oper.wp execOp;simp only [k,resolve,invoke,builtin,Sem.run_bind,Sem.run_pure,Result.andThen_ok,List.map_toArray,List.map_cons,List.map_nil,hs,C,J];exact h b d w' L M N
theorem je {ops:Array Oper}{rest:List Oper}{o:Oper}{a:Act}{Q:Exit->Act->au->Prop}(k:o.guard=none)(s x:Operand)(t:TypeId)
 (l:o.op=.call {callee:=.builtin .append,args:=#[s,x],argTypes:=#[t,t]})
 (base:Nat)(e:TypeId)(i:TypeInfo)(z:Value)(size bytes:Nat)(ht:P.underlying t=some (.slice e))(hi:P.info? e=some i)(hz:i.zero=some z)
 (p:i.size=size)(q:i.bytes=bytes)(A:z.cells.size=size)(B:0<size)
 (v:Value)(n:Nat)(xs:List Value)(hs:a.eval s=v)(C:w.ownsRow base e size v n xs)
 (g:Option Addr)(m c:Nat)(f:List Value)(D:a.eval x=.slice g m c)(hl:f.length=m*size)(E:g=none->m=0/\c=0)(F:∀a,g=some a->∀j u,f[j]?=some u->w.cell? (a.add j)=some u)(G:∀u∈f,u.oneCell'=true)
 (H:n+m<=maxLen)(I:(n+m)*bytes<=140737488355328)(J:base<=w.heap.size)
 (h:∀b d w',w'.ownsRow base e size (.slice b (n+m) d) (n+m) (xs++f)->w.grownBy w' v.ownBlock->((Value.slice b (n+m) d).ownBlock=v.ownBlock\/(Value.slice b (n+m) d).ownBlock=some w.heap.size)->wpList P ops Q rest (a.put o.dst (.slice b (n+m) d)) w'):wpList P ops Q (o::rest) a w:=
 wpList_plain k fun _ K=>wz w s x t l base e i z size bytes ht hi hz p q A B v n xs hs C g m c f D hl E F G H I J fun b d w' L M N=>K _ _ (h b d w' L M N)
theorem p4 {ops:Array Oper}{o:Oper}{a:Act}{K:Act->au->Prop}{Q:Exit->Act->au->Prop}{E:Prop}(k:o.guard=none)(s x:Operand)(t:TypeId)
 (l:o.op=.call {callee:=.builtin .append,args:=#[s,x],argTypes:=#[t,t]})
 (base:Nat)(e:TypeId)(i:TypeInfo)(z:Value)(size bytes:Nat)(ht:P.underlying t=some (.slice e))(hi:P.info? e=some i)(hz:i.zero=some z)
 (p:i.size=size)(q:i.bytes=bytes)(A:z.cells.size=size)(B:0<size)
 (v:Value)(n:Nat)(xs:List Value)(hs:a.eval s=v)(C:w.ownsRow base e size v n xs)
 (d:Option Addr)(m c:Nat)(b:List Value)(D:a.eval x=.slice d m c)(hl:b.length=m*size)(F:d=none->m=0/\c=0)(G:∀a,d=some a->∀j u,b[j]?=some u->w.cell? (a.add j)=some u)(H:∀u∈b,u.oneCell'=true)
 (I:n+m<=maxLen)(J:(n+m)*bytes<=140737488355328)(L:base<=w.heap.size)
 (h:∀f g w',w'.ownsRow base e size (.slice f (n+m) g) (n+m) (xs++b)->w.grownBy w' v.ownBlock->((Value.slice f (n+m) g).ownBlock=v.ownBlock\/(Value.slice f (n+m) g).ownBlock=some w.heap.size)->K (a.put o.dst (.slice f (n+m) g)) w'):
 if Region.wanted o (yielded ops a.tmps)=true then Oper.wp P o a w K Q else E:=by
 have hw:Region.wanted o (yielded ops a.tmps)=true:=by simp[Region.wanted,k]
 rw[aH hw];exact wz w s x t l base e i z size bytes ht hi hz p q A B v n xs hs C d m c b D hl F G H I J L h
end
theorem iF.below {w w':au}{c:Option Addr}{l:List Int}(h:iF w c l)(d:Below w.heap.size w w'):iF w' c l:=
 h.keep d.size (fun hp z e=>by obtain⟨b,o,f,g,_⟩:=h hp;rw[e] at f;cases f;exact d.block _ g)
theorem Cr (w:au)(g:Option Addr)(l:List Int)(o:Nat)(v:Int)(h:iF w g l)(hm:l.length<=100000):
 Calls prog 179 #[.slice g l.length o,ah v] w fun e w'=>∃a:Int,e=.returned (ah a)/\decide (0<=a)=l.contains v/\Below w.heap.size w w':=by
 go_enter func179,ntmps179;go_wp2_with fail
 go_loopw [8] (fun iv wr=>∃j:Nat,j<=l.length/\iv=ah j/\av (∀i,i<j->¬l.getD i 0=v)/\Below w.heap.size w wr) (fun iv _=>l.length-(intOf iv).toNat)
 exact⟨0,aS _,rfl,fun i h=>V,aD _ _⟩
 ·
   obtain⟨j,s,rfl,k,b⟩:=hrel;by_cases m:j<l.length
   ·obtain⟨t,x,p,A,hc⟩:=(hide h).o.below b V;have n:=hc j m;subst p;by_cases d:l.getD j 0=v
    ·have f:l.contains v=true:=by rw[List.contains_iff_mem,<-d,aC,aG m];exact a6 _
     rw[d] at n;clear hc;go_wp2;go_ret;exact⟨j,rfl,by rw[f];simp,b⟩
    ·have q:av (∀i,i<j+1->¬l.getD i 0=v):=fun i hi=>by
      by_cases c:i=j
      ·rw[c];exact d
      ·exact k.o i V
     generalize l.getD j 0=u at n d;clear hc;go_wp2;go_roundw;exact⟨j+1,V,af,q,b⟩
     simp[intOf];omega
   ·obtain rfl:j=l.length:=V;have f:l.contains v=false:=by rw[Bool.eq_false_iff];intro hc;rw[List.contains_iff_mem] at hc;obtain⟨i,hi,e⟩:=List.mem_iff_getElem.1 hc;exact k.o i hi (by simp[List.getElem?_eq_getElem hi,e])
    go_wp2;go_ret;exact⟨-1,rfl,by rw[f];rfl,b⟩
theorem wA (w:au)(b:Option Addr)(l:List Int)(c:Nat)(v:Int)(h:iF w b l)(hm:l.length<=100000):
 Calls prog 144 #[.slice b l.length c,ah v] w fun e w'=>e=.returned (.bool (l.contains v))/\Below w.heap.size w w':=by
 go_enter func144,ntmps144;go_wp2_with fail;refine(Cr w b l c v h hm).mono ?_;rintro e w1 ⟨a,rfl,ha,d⟩
 have f:=hide ha;clear ha;go_wp2;go_ret;exact⟨by rw[<-f.o];rfl,d⟩
def tB (N y g:Nat)(ws:List Int)(x:Int):Bool:=cX x&&((dS N y g ws).contains (cf x)||(dw N y g ws).contains (cf x))
def jx (N y g:Nat)(ws:List Int)(x:Int):Int:=if tB N y g ws x=true then cf x else 0
theorem aK (w:au)(a:Addr){u:Value}(h:w.cell? a = some u):a.block < w.heap.size:=by intros;apply World.block_lt_of_cell?<;>assumption
theorem Ct {pw p q N O y g:Nat}{ws:List Int}(x:Int)(w:au)(hc:w.cell? (am pw 0)=some (aj p))(h:At w p q N O y g ws)(l:(dS N y g ws).length<=100000)(hO:(dw N y g ws).length<=100000):
 Calls prog 76 #[aj pw,ah x] w fun e w'=>e=.returned (.tuple #[ah (jx N y g ws x),.bool (tB N y g ws x)])/\Below w.heap.size w w':=by
 have m:=hide h;have ia:=aK w _ hc;have P:=na x w;cases ha:cX x
 ·have c:tB N y g ws x=false:=by simp[tB,ha]
  have d:jx N y g ws x=0:=by simp[jx,c]
  rw[c,d];rw[ha] at P;go_enter func76,ntmps76;exact sc
 ·rw[ha] at P;have c:tB N y g ws x=((dS N y g ws).contains (cf x)||(dw N y g ws).contains (cf x)):=by simp[tB,ha]
  have d:jx N y g ws x=if((dS N y g ws).contains (cf x)||(dw N y g ws).contains (cf x))=true then cf x else 0:=by unfold jx;rw[c]
  rw[c,d];generalize cf x=v at P;obtain⟨c1,f⟩:∃b,(dS N y g ws).contains v=b:=⟨_,rfl⟩
  obtain⟨c2,i⟩:∃b,(dw N y g ws).contains v=b:=⟨_,rfl⟩
  rw[f,i];have n:=hide f;have o:=hide i;have K:∀w1,Below w.heap.size w w1->Calls prog 104 #[aj p] w1 fun e w'=>∃d1 f1 d2 f2,e=.returned (.tuple #[.slice d1 (dS N y g ws).length f1,.slice d2 (dw N y g ws).length f2])/\av (∀w3,Below w'.heap.size w' w3->Calls prog 144 #[.slice d1 (dS N y g ws).length f1,ah v] w3 fun e w4=>e=.returned (.bool c1)/\Below w3.heap.size w3 w4)/\av (∀w3,Below w'.heap.size w' w3->Calls prog 144 #[.slice d2 (dw N y g ws).length f2,ah v] w3 fun e w4=>e=.returned (.bool c2)/\Below w3.heap.size w3 w4)/\Below w1.heap.size w1 w':=fun w1 hb1=>by
   refine(p3 w1 (m.o.below hb1 bW)).mono ?_;rintro e w2 ⟨v1,v2,rfl,j,k,hb2⟩
   obtain⟨d1,f1,rfl⟩:=dQ j;obtain⟨d2,f2,rfl⟩:=dQ k;refine⟨d1,f1,d2,f2,rfl,fun w3 hb3=>?_,fun w3 hb3=>?_,hb2⟩
   ·rw[<-n.o];exact wA w3 d1 (dS N y g ws) f1 v ((gO j).below hb3) l
   ·rw[<-o.o];exact wA w3 d2 (dw N y g ws) f2 v ((gO k).below hb3) hO
  have HK:=hide K;cases c1
  ·cases c2
   ·simp only [Bool.or_self,Bool.false_eq_true,if_false];exact wi
   ·simp only [Bool.false_or,if_true];exact wi
  ·simp only [Bool.true_or,if_true];go_enter func76,ntmps76;go_wp2_with fail;refine P.mono ?_;rintro e w1 ⟨rfl,hb1⟩
   have y1:=(hb1.cell (p:=am pw 0) ia).trans hc;go_wp2_with fail;refine(HK.o w1 hb1).mono ?_;rintro e w2 ⟨d1,f1,d2,f2,rfl,L1,L2,hb2⟩
   have ef:=hb1.trans (hb2.mono hb1.size)
   go_wp2_with fail;refine(L1.o w2 bX).mono ?_;rintro e w3 ⟨rfl,hb3⟩
   have js:=ef.trans (hb3.mono ef.size)
   go_wp2_with fail;go_ret2;exact⟨rfl,js⟩
theorem bC {α:Type _}{a:α}{«as»:List α}:(a :: «as»).length = «as».length + 1:=List.length_cons ..
theorem iz {N y g:Nat}{ws:List Int}{hi:Int}:∀(k:Nat)(a:Int),(eA N y g ws hi k a).length<=k
 |0,_=>by simp[eA]
 |k+1,a=>by
  have b:=iz (N:=N) (y:=y) (g:=g) (ws:=ws) (hi:=hi) k (a+(1+pf (ld N y g ws a)))
  unfold eA;split
  ·split
   ·rw[bC];omega
   ·simp
  ·simp
section
variable {pw p q N O y g:Nat}{ws:List Int}
theorem wB (x:Int)(w:au)(hc:w.cell? (am pw 0)=some (aj p))(h:At w p q N O y g ws):
 Calls prog 76 #[aj pw,ah x] w fun e w'=>e=.returned (.tuple #[ah (jx N y g ws x),.bool (tB N y g ws x)])/\Below w.heap.size w w':=
 Ct x w hc h (aP (iz _ _) aa) (aP (iz _ _) aa)
theorem Cu (x:Int)(w:au)(hc:w.cell? (am pw 0)=some (aj p))(h:At w p q N O y g ws):
 Calls prog 31 #[aj pw,ah x] w fun e w'=>e=.returned (.tuple #[ah (if tB N y g ws x=true then pk (ld N y g ws (cf x)) else 0),ah (if tB N y g ws x=true then pf (ld N y g ws (cf x)) else 0),ah (if tB N y g ws x=true then pc (ld N y g ws (cf x)) else 2)])/\Below w.heap.size w w':=by
 have c:=hide h;have d:=aK w _ hc;have P:=wB x w hc h;cases ht:tB N y g ws x
 ·rw[ht] at P;simp only [Bool.false_eq_true,if_false];generalize jx N y g ws x=v at P;go_enter func31,ntmps31;go_wp2_with fail;refine P.mono ?_;rintro e w1 ⟨rfl,b⟩
  go_wp2_with fail
  go_ret3
  exact⟨rfl,b⟩
 ·rw[ht] at P;have ev:jx N y g ws x=cf x:=by simp[jx,ht]
  rw[ev] at P;simp only [if_true];generalize cf x=v at P;go_enter func31,ntmps31;go_wp2_with fail;refine P.mono ?_;rintro e w1 ⟨rfl,b⟩
  have y1:=(b.cell (p:=am pw 0) d).trans hc;go_wp2_with fail;refine(fY v w1 (c.o.below b bW)).mono ?_;rintro e j ⟨rfl,f⟩
  have i:=b.trans (f.mono b.size)
  go_wp2_with fail
  go_ret3
  exact⟨rfl,i⟩
def ic (N y g:Nat)(a f:Int):Int:=min f ((if hB N g a=true then(N:Int)+g else(y:Int))-a-1)
theorem wC (a f:Int)(w:au)(hc:w.cell? (am pw 0)=some (aj p))(h:At w p q N O y g ws)(a0:0<=a)(a1:a<=100000):
 Calls prog 138 #[aj pw,ah a,ah f] w fun e w'=>e=.returned (ah (ic N y g a f))/\Below w.heap.size w w':=by
 have HA:av (At w p q N O y g ws):=h;have ia:=aK w _ hc;have k1:=h.hN';have c:=h.hy;have d:=h.hO;have i:=h.hg;clear h;unfold ic;cases ho:hB N g a
 ·simp only [Bool.false_eq_true,if_false];by_cases hm:f<=(y:Int)-a-1
  ·rw[Int.min_eq_left hm];have b:¬((y:Int)-a-1<f):=V;go_enter func138,ntmps138;go_wp2_with fail;refine(kl w HA.o).mono ?_;rintro e w1 ⟨rfl,hb1⟩
   have y1:=(hb1.cell (p:=am pw 0) ia).trans hc;go_wp2_with fail;refine(mh w1 (HA.o.below hb1 bW)).mono ?_;rintro e w2 ⟨rfl,hb2⟩
   have ef:=hb1.trans (hb2.mono hb1.size)
   have y2:=(ef.cell (p:=am pw 0) ia).trans hc;clear y1;have P:=mf a w2 (HA.o.below ef bW)
   rw[ho] at P;go_wp2_with fail;refine P.mono ?_;clear P;rintro e w3 ⟨rfl,hb3⟩
   have js:=ef.trans (hb3.mono ef.size)
   clear y2 hb1 hb2 ef hb3;go_wp2_with fail;go_ret;exact⟨rfl,js⟩
  ·rw[Int.min_eq_right V];have b:(y:Int)-a-1<f:=V;go_enter func138,ntmps138;go_wp2_with fail;refine(kl w HA.o).mono ?_;rintro e w1 ⟨rfl,hb1⟩
   have y1:=(hb1.cell (p:=am pw 0) ia).trans hc;go_wp2_with fail;refine(mh w1 (HA.o.below hb1 bW)).mono ?_;rintro e w2 ⟨rfl,hb2⟩
   have ef:=hb1.trans (hb2.mono hb1.size)
   have y2:=(ef.cell (p:=am pw 0) ia).trans hc;clear y1;have P:=mf a w2 (HA.o.below ef bW)
   rw[ho] at P;go_wp2_with fail;refine P.mono ?_;rintro e w3 ⟨rfl,hb3⟩
   have js:=ef.trans (hb3.mono ef.size)
   go_wp2_with fail;go_ret;exact⟨rfl,js⟩
 ·simp only [if_true];by_cases hm:f<=(N:Int)+g-a-1
  ·rw[Int.min_eq_left hm];have b:¬((N:Int)+g-a-1<f):=V;exact wh
  ·rw[Int.min_eq_right V];exact wh
end
theorem di (h:Int):0<=pf h/\pf h<=12:=by
 unfold pf;split
 ·have:=iE _ _ (by assumption)
  omega
 ·omega
theorem mo {N y g:Nat}{ws:List Int}{hi:Int}:∀(k:Nat)(a x:Int),x∈eA N y g ws hi k a->a<=x/\x<hi
 |0,_,_,h=>by simp[eA] at h
 |k+1,a,x,h=>by
  unfold eA at h;split at h
  ·split at h
   ·rcases List.mem_cons.1 h with h|h
    ·rw[h];exact⟨Int.le_refl _,by assumption⟩
    ·have b:=mo k _ x h;have c:=di (ld N y g ws a)
     omega
   ·simp at h
  ·simp at h
theorem wD {N O y g:Nat}{ws:List Int}{x:Int}(h:tB N y g ws x=true)(hN:N<=256)(hy:y<=N)(hO:O<=1024)(hg:g<=O):0<=cf x/\cf x<=1280:=by
 unfold tB at h;simp only [Bool.and_eq_true,Bool.or_eq_true,List.contains_iff_mem] at h;rcases h.2 with h|h
 ·have:=mo _ _ _ h;omega
 ·have:=mo _ _ _ h;omega
def dT (N y g:Nat)(ws:List Int)(x i:Int):Int:=
 if tB N y g ws x=true then(if pk (ld N y g ws (cf x))=5 then 2 else if i<0\/ic N y g (cf x) (pf (ld N y g ws (cf x)))<=i then 1 else 0) else 2
section
variable {pw p q N O y g:Nat}{ws:List Int}
theorem wE (x i:Int)(w:au)(hc:w.cell? (am pw 0)=some (aj p))(h:At w p q N O y g ws):
 Calls prog 67 #[aj pw,ah x,ah i] w fun e w'=>e=.returned (.tuple #[ah (if dT N y g ws x i=0 then cf x else 0),ah (if dT N y g ws x i=0 then cf x+1+i else 0),ah (dT N y g ws x i)])/\Below w.heap.size w w':=by
 have d:av (At w p q N O y g ws):=h;have ia:=aK w _ hc;have P:=wB x w hc h;have k1:=h.hN';have m:=h.hy;have n:=h.hO;have o:=h.hg;cases ht:tB N y g ws x
 ·rw[ht] at P;have c:dT N y g ws x i=2:=by unfold dT;rw[ht,aE Z]
  rw[c,aE aa,aE aa];generalize jx N y g ws x=v at P;go_enter func67,ntmps67;go_wp2_with fail;refine P.mono ?_;rintro e w1 ⟨rfl,hb1⟩
  go_wp2_with fail
  go_ret3
  exact⟨rfl,hb1⟩
 ·obtain⟨j,b1⟩:=wD (O:=O) ht k1 m n o;have k:=di (ld N y g ws (cf x))
  rw[ht] at P;have ev:jx N y g ws x=cf x:=by simp[jx,ht]
  rw[ev] at P;have c:dT N y g ws x i=if pk (ld N y g ws (cf x))=5 then 2 else if i<0\/ic N y g (cf x) (pf (ld N y g ws (cf x)))<=i then 1 else 0:=by unfold dT;rw[aH ht]
  rw[c];generalize cf x=v at P k j b1;have K:av (∀w1,Below w.heap.size w w1->_):=fun w1 b=>fY v w1 (d.o.below b bW)
  have km:av (∀w1,Below w.heap.size w w1->Calls prog 138 #[aj pw,ah v,ah (pf (ld N y g ws v))] w1 fun e w'=>e=.returned (ah (ic N y g v (pf (ld N y g ws v))))/\Below w1.heap.size w1 w'):=fun w1 b=>wC v _ w1 ((b.cell (p:=am pw 0) ia).trans hc) (d.o.below b bW) j V;have t:ic N y g v (pf (ld N y g ws v))<=12:=by unfold ic;exact Int.le_trans (Int.min_le_left _ _) k.2
  generalize ic N y g v (pf (ld N y g ws v))=s at km t⊢;generalize pk (ld N y g ws v)=kd at K⊢;generalize pf (ld N y g ws v)=f at K km;generalize pc (ld N y g ws v)=cc at K;by_cases l:kd=5
  ·subst l;rw[aH rfl,aE aa,aE aa];exact wn
  ·rw[aE l];by_cases hi:i<0
   ·rw[aH (aJ hi),aE aa,aE aa];exact wn
   ·by_cases hs:s<=i
    ·rw[aH (aI hs),aE aa,aE aa];exact wj
    ·have u:¬(i<0\/s<=i):=V;rw[aE u,aH rfl,aH rfl];exact wj
theorem wF (x i:Int)(w:au)(hc:w.cell? (am pw 0)=some (aj p))(h:At w p q N O y g ws):
 Calls prog 28 #[aj pw,ah x,ah i] w fun e w'=>e=.returned (.tuple #[ah (if dT N y g ws x i=0 then ld N y g ws (cf x+1+i) else 0),ah (dT N y g ws x i)])/\Below w.heap.size w w':=by
 have c:=hide h;have d:=aK w _ hc;have P:=wE x i w hc h;generalize dT N y g ws x i=cd at P⊢;by_cases h0:cd=0
 ·subst h0;rw[aH rfl,aH rfl] at P;rw[aH rfl];generalize cf x+1+i=fl at P⊢;generalize cf x=v at P;go_enter func28,ntmps28;go_wp2_with fail;refine P.mono ?_;rintro e w1 ⟨rfl,b⟩
  have y1:=(b.cell (p:=am pw 0) d).trans hc;go_wp2_with fail;refine(jr fl w1 (c.o.below b bW)).mono ?_;rintro e k ⟨rfl,f⟩
  have j:=b.trans (f.mono b.size)
  go_wp2;go_ret2;exact⟨rfl,j⟩
 ·rw[aE h0,aE h0] at P;rw[aE h0];go_enter func28,ntmps28;go_wp2_with fail;refine P.mono ?_;rintro e w1 ⟨rfl,b⟩
  go_wp2;go_ret2;exact⟨rfl,b⟩
end
def kT (M:List Int)(k:Int):List Int:=if M.contains k then M else M++[k]
theorem se (M:List Int)(k j:Int):(kT M k).contains j=(M.contains j||j==k):=by
 unfold kT;by_cases c:M.contains k=true
 ·rw[aH c];by_cases e:j=k
  ·subst e;rw[c];rfl
  ·simp[e]
 ·rw[aE c];by_cases e:j=k<;>simp[e]
theorem Cv (M:List Int)(k:Int):(kT M k).length<=M.length+1:=by unfold kT;split<;>simp
theorem sf:Maps.Keyed prog 150:=Maps.int_keyed underlying150
theorem Cw (w:au):(zeroValue 182).run prog w=.ok (.agg #[]) w:=ae
structure Cd (w:au)(p q:Nat)(B c:Int)(M:List Int):Prop where
 hp:w.heap[p]?=some (.cells #[ah B,.int .u64 c,.map (some q)] 153 (0,0))
 hq:∃D:DataW Unit,w.ownsMap prog 150 unitElem q M.length D/\(∀k:Int,Maps.has D (.int .u64 k)=M.contains k)/\Maps.size D=M.length
theorem sg {H:Type}{P:Program}{k:TypeId}{R:Value->Option _}{w w':au}{b n:Nat}{D:DataW H}(h:w.ownsMap P k R b n D)(e:w'.heap[b]?=w.heap[b]?):w'.ownsMap P k R b n D:=by obtain⟨c,d,f,r⟩:=h;exact⟨c,d,e.trans f,r⟩
theorem si {H:Type}{P:Program}{k:TypeId}{R:Value->Option _}{w:au}{b n m:Nat}{D:DataW H}(h:w.ownsMap P k R b n D)(e:Maps.size D=m):w.ownsMap P k R b m D:=by obtain⟨c,d,f,F,hs,rfl⟩:=h;exact⟨c,d,f,F,by rw[<-e];simp[Maps.size,length_sorted],rfl⟩
theorem Cd.eJ {w:au}{p q:Nat}{B c:Int}{M:List Int}(h:Cd w p q B c M):p<w.heap.size:=lt_of_some h.hp
theorem Cd.eK {w:au}{p q:Nat}{B c:Int}{M:List Int}(h:Cd w p q B c M):q<w.heap.size:=by obtain⟨D,b,_⟩:=h.hq;exact b.lt
theorem Cd.ne {w:au}{p q:Nat}{B c:Int}{M:List Int}(h:Cd w p q B c M):p≠q:=by intro e;obtain⟨D,⟨f,g,d,_⟩,_⟩:=h.hq;have b:=h.hp;rw[e,d] at b;simp at b
theorem Cd.same {w w':au}{p q:Nat}{B c:Int}{M:List Int}(h:Cd w p q B c M)(ep:w'.heap[p]?=w.heap[p]?)(eq:w'.heap[q]?=w.heap[q]?):Cd w' p q B c M:=by obtain⟨D,b,d⟩:=h.hq;exact⟨ep.trans h.hp,D,sg b eq,d⟩
theorem Cd.below {w w':au}{p q X:Nat}{B c:Int}{M:List Int}(h:Cd w p q B c M)(b:Below X w w')(d:w.heap.size<=X):Cd w' p q B c M:=
 h.same (b.block p (aM h.eJ d)) (b.block q (aM h.eK d))
theorem Cd.cells {w:au}{p q:Nat}{B c:Int}{M:List Int}(h:Cd w p q B c M):
 w.cell? (am p 0)=some (ah B)/\w.cell? (am p 1)=some (.int .u64 c)/\w.cell? (am p 2)=some (.map (some q)):=by
 have hp:=h.hp;refine⟨?_,?_,?_⟩<;>simp[World.cell?,hp]
theorem Cd.put {w w':au}{p q:Nat}{B c k:Int}{M:List Int}{D:DataW Unit}{n:Nat}(h:w.heap[p]?=some (.cells #[.int .i64 B,.int .u64 c,.map (some q)] 153 (0,0)))
 (h0:w.ownsMap prog 150 unitElem q M.length D)(d:∀k:Int,Maps.has D (.int .u64 k)=M.contains k)(f:Maps.size D=M.length)(g:p≠q)
 (l:w'.ownsMap prog 150 unitElem q n (D.put (.int .u64 k) (.agg [])))(b:w.grownBy w' (some q)):Cd w' p q B c (kT M k)/\c7 p q w w':=by
 have hs:Maps.size (D.put (.int .u64 k) (.agg []))=(kT M k).length:=by rw[Maps.size_put (h0.tidy sf),d,f];unfold kT;split<;>simp
 refine⟨⟨(b.block p (lt_of_some h) (fun e=>g (by cases e;rfl))).trans h,_,si l hs,fun j=>?_,hs⟩,⟨b.os,b.tape,b.output,b.size,fun i hi _ e=>b.block i hi (fun m=>e (by cases m;rfl))⟩⟩
 rw[se];by_cases e:j=k
 ·subst e;rw[Maps.has_put_same (k:=.int .u64 j) h0.isMap trivial];simp
 ·rw[Maps.has_put_other (by simpa using e),d];simp[e]
theorem Cd.none {w:au}{p q:Nat}{B c:Int}(h:w.heap[p]?=some (.cells #[.int .i64 B,.int .u64 c,.map (some q)] 153 (0,0)))(b:w.ownsMap prog 150 unitElem q 0 (.map []:DataW Unit)):Cd w p q B c []:=
 ⟨h,_,b,fun _=>rfl,rfl⟩
def dU (x:Int):Int:=if x<0 then 0 else(x+8-1)/8
def cN (B a:Int):Int:=if a<B then 0 else(a-B)/8
def fQ (B c a:Int):Bool:=decide (B<=a)&&decide ((a-B)/8<c)
theorem Cx (x:Int)(w:au)(h:x<=100000):Calls prog 133 #[ah x] w fun e w'=>e=.returned (.int .u64 (dU x))/\w'=w:=by
 by_cases c:x<0
 ·have e:dU x=0:=by unfold dU;rw[aH c]
  rw[e];go_enter func133,ntmps133;go_wp2;go_ret;exact⟨rfl,rfl⟩
 ·have e:dU x=(x+8-1)/8:=by unfold dU;rw[aE c]
  go_wp2;go_ret;exact⟨rfl,rfl⟩
theorem bz {p:Prop} [Decidable p]:¬p -> Decidable.decide p = Bool.false:=decide_eq_false
theorem bm {p:Prop} [inst:Decidable p]:p -> Decidable.decide p = Bool.true:=decide_eq_true
theorem wG {p q:Nat}{B c:Int}{M:List Int}(a:Int)(w:au)(h:Cd w p q B c M)(hB:0<=B)(d:B<=100000)(ha:a<=9223372036854775807):
 Calls prog 142 #[aj p,ah a] w fun e w'=>e=.returned (.tuple #[.int .u64 (cN B a),.bool (fQ B c a)])/\Below w.heap.size w w':=by
 obtain⟨c0,c1,c2⟩:=h.cells;by_cases hc:a<B
 ·have e:fQ B c a=false:=by unfold fQ;rw[bz V];rfl
  have b:cN B a=0:=by unfold cN;rw[aH hc]
  rw[e,b];go_enter func142,ntmps142;go_wp2;go_ret2;exact⟨rfl,aD _ _⟩
 ·have e:fQ B c a=decide ((a-B)/8<c):=by unfold fQ;rw[bm V];rfl
  have b:cN B a=(a-B)/8:=by unfold cN;rw[aE hc]
  rw[e,b];go_enter func142,ntmps142;exact r6
def kU (B c a:Int)(M:List Int):List Int:=if fQ B c a then kT M (cN B a) else M
theorem wH {B c a:Int}{M:List Int}(h:fQ B c a=true):kU B c a M=kT M (cN B a):=by unfold kU;rw[aH h]
theorem Cy {B c a:Int}{M:List Int}(h:fQ B c a=false):kU B c a M=M:=by unfold kU;rw[aE (by rw[h];simp)]
theorem wJ {B a:Int}(hB:0<=B)(ha:a<=9223372036854775807):(Lit.int .u64 (cN B a)).wf=true:=by
 unfold cN;split
 ·decide
 ·have b:0<=(a-B)/8:=V;exact WalkArith.wf_u64 ⟨b,V⟩
theorem Cz {p q:Nat}{B c:Int}{M:List Int}(a:Int)(w:au)(h:Cd w p q B c M)(hB:0<=B)(f:B<=100000)(ha:a<=9223372036854775807)(hM:M.length<=100000):
 Calls prog 72 #[aj p,ah a] w fun e w'=>e=.returned (.bool (fQ B c a))/\Cd w' p q B c (kU B c a M)/\c7 p q w w':=by
 go_enter func72,ntmps72;go_wp2_with fail;refine(wG a _ h hB f ha).mono ?_;rintro e w1 ⟨rfl,d⟩
 have b:=h.below d bW
 obtain⟨c0,c1,c2⟩:=b.cells;obtain⟨D,o1,g,i⟩:=b.hq;cases hc:fQ B c a
 ·go_wp2;go_ret;exact⟨by rw[hc];rfl,by rw[Cy hc];exact b,c7.of d⟩
 ·go_wp2_with (first
   |(at_mapUpdate;refine wpList_mapUpdate_own _ rfl _ _ _ 151 rfl 150 182 sf underlying151 _ q M.length D rfl o1 (by unfold maxLen;omega) _ _ _ rfl rfl (Maps.keyOf_int_mk (P:=prog) underlying150 (wJ (B:=B) (a:=a) hB ha)) _ [] unitElem_mk ?_;intro m j k)
   |go_in)
  go_ret;obtain⟨l,s2⟩:=Cd.put b.hp o1 g i b.ne j k;exact⟨by rw[hc];rfl,by rw[wH hc];exact l,(c7.of d).trans s2⟩
theorem CA {p q:Nat}{B c:Int}{M:List Int}(a:Int)(w:au)(h:Cd w p q B c M)(hB:0<=B)(f:B<=100000)(ha:a<=9223372036854775807):
 Calls prog 151 #[aj p,ah a] w fun e w'=>e=.returned (.bool (fQ B c a&&M.contains (cN B a)))/\Below w.heap.size w w':=by
 go_enter func151,ntmps151;go_wp2_with fail;refine(wG a _ h hB f ha).mono ?_;rintro e w1 ⟨rfl,b⟩
 have d:=h.below b bW
 obtain⟨c0,c1,c2⟩:=d.cells;obtain⟨D,o1,g,i⟩:=d.hq;cases hc:fQ B c a
 ·go_wp2;go_ret;exact⟨by rw[hc];rfl,b⟩
 ·go_wp2_with (first
   |(at_lookup;refine wpList_lookup_own_unit _ rfl _ _ 151 rfl 150 182 sf underlying151 (Cw _) q M.length D rfl o1 _ _ rfl (Maps.keyOf_int_mk underlying150 (wJ (a:=a) hB ha)) ?_)
   |go_in)
  go_ret;exact⟨by rw[hc];simp,b.alloc b.size _⟩
theorem sj {p:Nat}{B c:Int}{v:Value}(w:au)(h:w.heap[p]?=some (.cells #[ah B,.int .u64 c,v] 153 (0,0))):
 Calls prog 90 #[aj p] w fun e w'=>e=.returned (.tuple #[])/\Cd w' p w.heap.size B c []/\c7 p p w w':=by
 have b:=@run_makeMap prog;have hp:=lt_of_some h;have d:(w.alloc (.map #[] 0)).frozen? (am p 2)=false:=by simp[World.frozen?,Below.heap_alloc _ _ _ hp,h]
 have hc:(w.alloc (.map #[] 0)).cell? (am p 2)=some v:=by simp[World.cell?,Below.heap_alloc _ _ _ hp,h]
 go_enter func90,ntmps90;go_wp2_with fail;go_end0;have hm:=World.ownsMap_made (w.setCell ⟨p,2,none⟩ (.map (some w.heap.size))) prog 150 (unitElem (H:=Unit))
 have hz:(w.setCell ⟨p,2,none⟩ (.map (some w.heap.size))).heap.size=w.heap.size:=by simp[World.setCell]
 rw[hz] at hm;refine⟨rfl,Cd.none ((a4 _ _ _ V).trans ?_) hm,(c7.oj _ _).trans (c7.of (bX.alloc bW _))⟩
 simp only [World.setCell,Array.getElem?_modify,if_true,h,Option.map_some];simp
theorem CD (B x:Int)(w:au)(h:x<=100000):
 Calls prog 62 #[ah B,ah x] w fun e w'=>∃p q,e=.returned (aj p)/\Cd w' p q B (dU x) []/\w.heap.size<=p/\w.heap.size<=q/\Below w.heap.size w w':=by
 go_enter func62,ntmps62;go_wp2_with fail;refine(Cx x _ h).mono ?_;rintro e w1 ⟨rfl,b⟩
 have b:=b.symm;subst b;go_wp2_with fail;refine(sj (v:=.map none) _ (aL _ _)).mono ?_;rintro e d ⟨rfl,c,s2⟩
 go_wp2_with fail;go_ret;exact⟨_,_,rfl,c,aA _,Z,(bX.alloc bW _).trans (s2.below Z bW bW)⟩
structure gZ (w:au)(pw p q pc cM N O y g:Nat)(ws:List Int)(c:Int)(M:List Int)(vs vr:Value):Prop where
 blk:w.heap[pw]?=some (.cells #[aj p,aj pc,vs,vr] 55 (0,0))
 ar:At w p q N O y g ws
 cd:Cd w pc cM N c M
section
variable {w w':au}{pw p q pc cM N O y g:Nat}{ws:List Int}{c:Int}{M:List Int}{vs vr:Value}
theorem gZ.cells (h:gZ w pw p q pc cM N O y g ws c M vs vr):w.cell? (am pw 0)=some (aj p)/\w.cell? (am pw 1)=some (aj pc)/\w.cell? (am pw 2)=some vs/\w.cell? (am pw 3)=some vr/\pw<w.heap.size:=
 ⟨by simp[World.cell?,h.blk],by simp[World.cell?,h.blk],by simp[World.cell?,h.blk],by simp[World.cell?,h.blk],lt_of_some h.blk⟩
theorem gZ.apart (h:gZ w pw p q pc cM N O y g ws c M vs vr):pw≠p/\pw≠q/\pw≠pc/\pw≠cM/\p≠pc/\p≠cM/\q≠pc/\q≠cM:=by
 obtain⟨D,⟨k,l,i,_⟩,_⟩:=h.cd.hq;have b:=h.blk;have d:=h.ar.hp;have f:=h.ar.hq;have j:=h.cd.hp;refine⟨fun e=>?_,fun e=>?_,fun e=>?_,fun e=>?_,fun e=>?_,fun e=>?_,fun e=>?_,fun e=>?_⟩
 ·rw[e,d] at b;simp at b
 ·rw[e,f] at b;simp at b
 ·rw[e,j] at b;simp at b
 ·rw[e,i] at b;simp at b
 ·rw[e,j] at d;simp at d
 ·rw[e,i] at d;simp at d
 ·rw[e,j] at f;simp at f
 ·rw[e,i] at f;simp at f
theorem gZ.below (h:gZ w pw p q pc cM N O y g ws c M vs vr)(b:Below w.heap.size w w'):gZ w' pw p q pc cM N O y g ws c M vs vr:=
 ⟨(b.block pw (lt_of_some h.blk)).trans h.blk,h.ar.below b bW,h.cd.below b bW⟩
theorem gZ.arena (h:gZ w pw p q pc cM N O y g ws c M vs vr){b d:Nat}{e:List Int}(ha:At w' p q N O b d e)(s:c7 p q w w'):gZ w' pw p q pc cM N O b d e c M vs vr:=by obtain⟨a1,a2,l,m,f,i,j,k⟩:=h.apart;exact⟨(s.block pw (lt_of_some h.blk) a1 a2).trans h.blk,ha,h.cd.same (s.block pc h.cd.eJ (Ne.symm f) (Ne.symm j)) (s.block cM h.cd.eK (Ne.symm i) (Ne.symm k))⟩
theorem gZ.cards (h:gZ w pw p q pc cM N O y g ws c M vs vr){b:List Int}(hc:Cd w' pc cM N c b)(s:c7 pc cM w w'):gZ w' pw p q pc cM N O y g ws c b vs vr:=by obtain⟨a1,a2,d,e,f,i,j,k⟩:=h.apart;exact⟨(s.block pw (lt_of_some h.blk) d e).trans h.blk,h.ar.same (s.block p h.ar.eJ f i) (s.block q h.ar.eK j k),hc⟩
def fZ (N y g:Nat)(ws:List Int)(x i z:Int):List Int:=if dT N y g ws x i=0 then(if da N y g (cf x+1+i)=true then ws.set (cf x+1+i).toNat z else ws) else ws
def mx (N y g:Nat)(ws:List Int)(x i z:Int):Bool:=decide (dT N y g ws x i=0)&&(cX z&&hB 0 y (cf z)&&hB N g (cf x))
def stM (N y g:Nat)(ws:List Int)(x i z c:Int)(M:List Int):List Int:=if mx N y g ws x i z=true then kU N c (cf x) M else M
theorem CE (x i z:Int)(h:gZ w pw p q pc cM N O y g ws c M vs vr)(hM:M.length<=100000):
 Calls prog 27 #[aj pw,ah x,ah i,ah z] w fun e w'=>e=.returned (ah (dT N y g ws x i))/\gZ w' pw p q pc cM N O y g (fZ N y g ws x i z) c (stM N y g ws x i z c M) vs vr/\Fr (fun k=>k=p\/k=q\/k=pc\/k=cM) w w':=by
 have H:av (_):=h;obtain⟨c0,c1,_,_,ia⟩:=h.cells;have P:=wE x i w c0 h.ar;have k1:=h.ar.hN';have S:=h.ar.hy;have U:=h.ar.hO;have W:=h.ar.hg;have Y:∀{a b:au},c7 p q a b->Fr (fun k=>k=p\/k=q\/k=pc\/k=cM) a b:=fun s=>⟨s.os,s.tape,s.output,s.size,fun k hk n=>s.block k hk (fun e=>n (aJ e)) (fun e=>n (aI (aJ e)))⟩
 have ab:∀{a b:au},c7 pc cM a b->Fr (fun k=>k=p\/k=q\/k=pc\/k=cM) a b:=fun s=>⟨s.os,s.tape,s.output,s.size,fun k hk n=>s.block k hk (fun e=>n (aI (aI (aJ e)))) (fun e=>n (aI (aI (aI e))))⟩
 clear h;by_cases h0:dT N y g ws x i=0
 ·have ht:tB N y g ws x=true:=by
   cases e:tB N y g ws x
   ·unfold dT at h0;rw[e,aE Z] at h0;omega
   ·rfl
  obtain⟨ad,b1⟩:=wD (O:=O) ht k1 S U W;have B:fZ N y g ws x i z=if da N y g (cf x+1+i)=true then ws.set (cf x+1+i).toNat z else ws:=by unfold fZ;rw[aH h0]
  have C:stM N y g ws x i z c M=if(cX z&&hB 0 y (cf z)&&hB N g (cf x))=true then kU N c (cf x) M else M:=by unfold stM mx;rw[bm h0,Bool.true_and]
  rw[h0,aH rfl,aH rfl] at P;rw[h0,B,C];clear B C h0 ht;generalize cf x+1+i=fl at P⊢;generalize cf x=v at P ad b1⊢;have km:av (∀w1,Below w.heap.size w w1->Calls prog 68 #[aj p,ah fl,ah z] w1 fun e w'=>e=.returned (.bool (da N y g fl))/\av (gZ w' pw p q pc cM N O y g (if da N y g fl=true then ws.set fl.toNat z else ws) c M vs vr)/\av (Fr (fun k=>k=p\/k=q\/k=pc\/k=cM) w w')):=fun w1 K=>by
   have D:=H.o.below K;refine(kk fl z w1 D.ar).mono ?_;rintro e w2 ⟨rfl,ag,s2⟩
   exact⟨rfl,D.arena ag s2,(Fr.of (X:=fun k=>k=p\/k=q\/k=pc\/k=cM) K).trans (Y s2) (fun _ c=>aJ c)⟩
  have nm:av (∀w2,_):=fun w2=>na z w2;generalize (if da N y g fl=true then ws.set fl.toNat z else ws)=ax at km⊢;generalize da N y g fl=aF at km;obtain⟨F,L⟩:∃b,cX z=b:=⟨_,rfl⟩
  rw[L] at nm⊢;clear L;generalize cf z=u at nm⊢;cases hb2:hB 0 y u
  ·rw[Bool.and_false,Bool.false_and,aE Z];cases F
   ·go_enter func27,ntmps27;exact sa
   ·go_enter func27,ntmps27;go_wp2_with fail;refine P.mono ?_;clear P;rintro e w1 ⟨rfl,hb1⟩
    have y1:=(hb1.cell (p:=am pw 0) ia).trans c0;go_wp2_with fail;refine(km.o w1 hb1).mono ?_;rintro e w2 ⟨rfl,W2,F2⟩
    clear y1;go_wp2_with fail;refine(nm.o w2).mono ?_;rintro e w3 ⟨rfl,hb3⟩
    have W3:=W2.o.below hb3;have mm:=F2.o.trans (Fr.of (X:=fun k=>k=p\/k=q\/k=pc\/k=cM) hb3) (fun _ c=>aJ c)
    obtain⟨y0,y1,_,_,l3⟩:=W3.cells;have d:=me u w3 W3.ar;rw[hb2] at d;go_wp2_with fail;refine d.mono ?_;clear d;rintro e E ⟨rfl,j⟩
    have f:=W3.below j;have o:=mm.trans (Fr.of (X:=fun k=>k=p\/k=q\/k=pc\/k=cM) j) (fun _ c=>aJ c)
    obtain⟨z0,t,_,_,Q⟩:=f.cells;clear y0 y1;clear z0 t;go_wp2_with fail;go_ret;exact⟨rfl,f,o⟩
  ·rw[Bool.and_true];cases wK:hB N g v
   ·rw[Bool.and_false,aE Z];cases F
    ·go_enter func27,ntmps27;exact sa
    ·go_enter func27,ntmps27;go_wp2_with fail;refine P.mono ?_;clear P;rintro e w1 ⟨rfl,hb1⟩
     have y1:=(hb1.cell (p:=am pw 0) ia).trans c0;go_wp2_with fail;refine(km.o w1 hb1).mono ?_;rintro e w2 ⟨rfl,W2,F2⟩
     clear y1;go_wp2_with fail;refine(nm.o w2).mono ?_;rintro e w3 ⟨rfl,hb3⟩
     have W3:=W2.o.below hb3;have mm:=F2.o.trans (Fr.of (X:=fun k=>k=p\/k=q\/k=pc\/k=cM) hb3) (fun _ c=>aJ c)
     obtain⟨y0,y1,_,_,l3⟩:=W3.cells;have d:=me u w3 W3.ar;rw[hb2] at d;go_wp2_with fail;refine d.mono ?_;clear d;rintro e E ⟨rfl,j⟩
     have f:=W3.below j;have o:=mm.trans (Fr.of (X:=fun k=>k=p\/k=q\/k=pc\/k=cM) j) (fun _ c=>aJ c)
     obtain⟨z0,t,_,_,Q⟩:=f.cells;clear y0 y1;have l:=mf v E f.ar;rw[wK] at l;go_wp2_with fail;refine l.mono ?_;clear l;rintro e R ⟨rfl,A⟩
     have m:=f.below A;have G:=o.trans (Fr.of (X:=fun k=>k=p\/k=q\/k=pc\/k=cM) A) (fun _ c=>aJ c)
     obtain⟨I,J,_,_,ai⟩:=m.cells;clear z0 t;clear I J;go_wp2_with fail;go_ret;exact⟨rfl,m,G⟩
   ·rw[Bool.and_true];cases F
    ·rw[aE Z];go_enter func27,ntmps27;exact sa
    ·rw[aH rfl];go_enter func27,ntmps27;go_wp2_with fail;refine P.mono ?_;clear P;rintro e w1 ⟨rfl,hb1⟩
     have y1:=(hb1.cell (p:=am pw 0) ia).trans c0;go_wp2_with fail;refine(km.o w1 hb1).mono ?_;rintro e w2 ⟨rfl,W2,F2⟩
     clear y1;go_wp2_with fail;refine(nm.o w2).mono ?_;rintro e w3 ⟨rfl,hb3⟩
     have W3:=W2.o.below hb3;have mm:=F2.o.trans (Fr.of (X:=fun k=>k=p\/k=q\/k=pc\/k=cM) hb3) (fun _ c=>aJ c)
     obtain⟨y0,y1,_,_,l3⟩:=W3.cells;have d:=me u w3 W3.ar;rw[hb2] at d;go_wp2_with fail;refine d.mono ?_;clear d;rintro e E ⟨rfl,j⟩
     have f:=W3.below j;have o:=mm.trans (Fr.of (X:=fun k=>k=p\/k=q\/k=pc\/k=cM) j) (fun _ c=>aJ c)
     obtain⟨z0,t,_,_,Q⟩:=f.cells;clear y0 y1;have l:=mf v E f.ar;rw[wK] at l;go_wp2_with fail;refine l.mono ?_;clear l;rintro e R ⟨rfl,A⟩
     have m:=f.below A;have G:=o.trans (Fr.of (X:=fun k=>k=p\/k=q\/k=pc\/k=cM) A) (fun _ c=>aJ c)
     obtain⟨I,J,_,_,ai⟩:=m.cells;clear z0 t;go_wp2_with fail;refine(Cz v R m.cd V V V hM).mono ?_;rintro e aR ⟨rfl,al,s6⟩
     have ap:=m.cards al s6;have ar:=G.trans (ab s6) (fun _ c=>aJ c)
     clear I J;go_wp2_with fail;go_ret;exact⟨rfl,ap,ar⟩
 ·have B:fZ N y g ws x i z=ws:=by unfold fZ;rw[aE h0]
  have C:stM N y g ws x i z c M=M:=by unfold stM mx;rw[bz h0];rfl
  rw[aE h0,aE h0] at P;rw[B,C];generalize dT N y g ws x i=cd at P h0⊢;go_enter func27,ntmps27;go_wp2_with fail;refine P.mono ?_;clear P;rintro e w1 ⟨rfl,hb1⟩
  have D:=H.o.below hb1;clear c0 c1;go_wp2_with fail;go_ret;exact⟨rfl,D,Fr.of hb1⟩
end
def g7 (q:List bZ)(g:Int):List Int:=(q.filter (fun e=>e.1==g)).map (·.2)
theorem bA {α:Type _}{β:Type _}{f:α -> β}{l₁ l₂:List α}:List.map f (l₁ ++ l₂) = List.map f l₁ ++ List.map f l₂:=List.map_append ..
theorem CF (q:List bZ)(g:Int)(j:Nat)(h:j<q.length)(e:(q.getD j (0,0)).1=g):g7 (q.take (j+1)) g=g7 (q.take j) g++[(q.getD j (0,0)).2]:=by unfold g7;rw[fz q j h (0,0),List.filter_append,bA,List.filter_cons,e];simp
theorem CG (q:List bZ)(g:Int)(j:Nat)(h:j<q.length)(e:¬(q.getD j (0,0)).1=g):g7 (q.take (j+1)) g=g7 (q.take j) g:=by unfold g7;rw[fz q j h (0,0),List.filter_append,bA,List.filter_cons];rw[aE (by simpa using e)];simp
theorem bk {α:Type _}(p:α -> Bool)(l:List α):(List.filter p l).length <= l.length:=List.length_filter_le ..
theorem wL (q:List bZ)(g:Int):(g7 q g).length<=q.length:=by unfold g7;rw[aQ];exact bk _ _
theorem CH (w:au)(p:Nat)(v0:Value)(a1:Option Addr)(k1:Nat)(q:List bZ)(g:Int)(h:w.heap[p]?=some (.cells #[v0,.slice a1 q.length k1] 128 (0,0)))(hp:cY w a1 q)(hm:q.length<=90000):
 Calls prog 190 #[aj p,ah g] w fun e w'=>∃v A,e=.returned (.slice v (g7 q g).length A)/\w'.ownsRow w.heap.size 2 1 (.slice v (g7 q g).length A) (g7 q g).length ((g7 q g).map (Value.int .i64))/\Below w.heap.size w w':=by
 obtain⟨G,hi,H,I,J⟩:=info_parts vF;have c1:w.cell? (am p 1)=some (.slice a1 q.length k1):=ay h
 have K:=hide hp;clear h hp;go_enter func190,ntmps190;go_wp2_with fail
 go_loopw [5,13] (fun tv iv wr=>∃(j:Nat)(T:List Int)(b:Option Addr)(c:Nat),j<=q.length/\iv=ah j/\av (T=g7 (q.take j) g)/\tv=.slice b T.length c/\wr.ownsRow w.heap.size 2 1 (.slice b T.length c) T.length (T.map (Value.int .i64))/\Below w.heap.size w wr) (fun _ iv _=>q.length-(intOf iv).toNat)
 exact⟨0,[],none,0,aS _,rfl,rfl,rfl,a7 _ _ _ _,aD _ _⟩
 ·
   obtain⟨j,T,b,c,d,rfl,f,rfl,m,i⟩:=hrel;have R:T.length<=90000:=by
    have:=wL (q.take j) g;rw[f.o];simp at this
    omega
   by_cases s:j<q.length
   ·obtain⟨S,U,L,W,hc⟩:=K.o.below i V;obtain⟨B,C⟩:=hc j s;clear hc;subst L;have hs:=i.size;by_cases l:(q.getD j (0,0)).1=g
    ·have n:av (T++[(q.getD j (0,0)).2]=g7 (q.take (j+1)) g):=by show _=_;rw[CF q g j s l,f.o]
     rw[l] at B;generalize (q.getD j (0,0)).2=z at C n;clear l;have t:=f6 m (.cells #[.int .i64 g,.int .i64 z] 83)
     have o:=i.alloc hs (.cells #[.int .i64 g,.int .i64 z] 83)
     go_wp2_with (at_builtin;refine wpList_append_own_at _ rfl _ _ 53 rfl w.heap.size 2 G (ah 0) 1 8 underlying53 hi H I J rfl aa (.slice b T.length c) T.length (T.map (Value.int .i64)) rfl (f6 t _) ⟨wr.heap.size+1,0,none⟩ 1 1 [ah z] rfl rfl ?_ ?_ ?_ ?_ ?_ ?_;(intro j u d;match j,d with|0,d=>(simp at d;subst d;simp[Addr.add]));(intro u D;simp at D;subst D;rfl);(unfold maxLen;omega);omega;(simp;omega);intro X M E N _ Y;obtain⟨b4,F,O⟩:=dW E (Nat.succ_pos _);subst O)
     have P:M.ownsRow w.heap.size 2 1 (.slice (ak b4) (T++[z]).length F) (T++[z]).length ((T++[z]).map (Value.int .i64)):=by simpa using E
     have Q:=(o.alloc o.size _).grown N (by simp;omega) (fun k e=>(ce m k e.symm).1)
     go_wp2_with fail;go_roundw;exact⟨j+1,T++[z],ak b4,F,V,af,n,Z,P,Q⟩
     simp[intOf];omega
    ·have n:av (T=g7 (q.take (j+1)) g):=by show _=_;rw[CG q g j s l,f.o]
     generalize (q.getD j (0,0)).1=x at B l;generalize (q.getD j (0,0)).2=z at C;have t:=f6 m (.cells #[.int .i64 x,.int .i64 z] 83)
     have o:=i.alloc hs (.cells #[.int .i64 x,.int .i64 z] 83)
     go_wp2_with fail;go_roundw;exact⟨j+1,T,b,c,V,af,n,rfl,t,o⟩
     simp[intOf];omega
   ·obtain rfl:j=q.length:=V;rw[a_] at f;go_wp2_with fail;go_ret;rw[<-f.o];exact⟨b,c,rfl,m,i⟩
structure Kf (B:Nat)(w w':au):Prop where
 os:w'.os=w.os
 tape:w'.tape=w.tape
 output:w'.output=w.output
 size:w.heap.size<=w'.heap.size
 low:∀k:Nat,k<w.heap.size->k<B->w'.heap[k]?=w.heap[k]?
 fF:∀(k:Nat) cs e m,w.heap[k]?=some (Obj.cells cs e m)->e≠110->e≠87->w'.heap[k]?=w.heap[k]?
section
variable {B:Nat}{w w' w'':au}
theorem Kf.refl (B:Nat)(w:au):Kf B w w:=⟨rfl,rfl,rfl,aA _,fun _ _ _=>rfl,fun _ _ _ _ _ _ _=>rfl⟩
theorem Kf.trans (h:Kf B w w')(k:Kf B w' w''):Kf B w w'':=
 ⟨k.os.trans h.os,k.tape.trans h.tape,k.output.trans h.output,aP h.size k.size,fun i hi f=>(k.low i (aM hi h.size) f).trans (h.low i hi f),fun i b e m hi c d=>(k.fF i b e m ((h.fF i b e m hi c d).trans hi) c d).trans (h.fF i b e m hi c d)⟩
theorem Kf.of (h:Below w.heap.size w w'):Kf B w w':=⟨h.os,h.tape,h.output,h.size,fun k hk _=>h.block k hk,fun k _ _ _ hi _ _=>h.block k (lt_of_some hi)⟩
theorem Kf.below (h:Kf B w w')(hB:B<=w.heap.size):Below B w w':=⟨h.os,h.tape,h.output,h.size,fun k hk=>h.low k V hk⟩
theorem Kf.set {pk o:Nat}{b:Array Value}{m:Nat×Nat}{e:TypeId}{v:Value}(hp:w.heap[pk]?=some (.cells b e m))(he:e=110\/e=87)(hB:B<=pk):Kf B w (w.setCell ⟨pk,o,none⟩ v):=
 ⟨rfl,rfl,rfl,by simp[World.setCell],fun k _ hk=>aN _ _ _ _ (fun c=>by have c:k=pk:=c;omega),fun k g i j hk d f=>aN _ _ _ _ (fun c=>by
  rw[c,hp] at hk;simp at hk;rcases he with he|he
  ·exact d (hk.2.1.symm.trans he)
  ·exact f (hk.2.1.symm.trans he))⟩
theorem Kf.grown {row:Option Nat}(g:w.grownBy w' row)(d:∀k,row=some k->B<=k/\∀b e m,w.heap[k]?=some (.cells b e m)->e=110\/e=87):Kf B w w':=
 ⟨g.os,g.tape,g.output,g.size,fun k hk j=>g.block k hk (fun e=>by have:=(d k e.symm).1;omega),fun k b e m hk f i=>g.block k (lt_of_some hk) (fun c=>((d k c.symm).2 b e m hk).elim f i)⟩
theorem f7.kf {ad:Option Addr}{l:List _}(h:f7 w ad l)(k:Kf B w w'):f7 w' ad l:=by exact wm
end
structure lD (w:au)(pw p q N O y g:Nat)(ws:List Int)(sd:Nat)(v0:Value)(a1:Option Addr)(k1:Nat)(Q:List bZ):Prop where
 c0:w.cell? (am pw 0)=some (aj p)
 c2:w.cell? (am pw 2)=some (aj sd)
 ar:At w p q N O y g ws
 hs:w.heap[sd]?=some (.cells #[v0,.slice a1 Q.length k1] 128 (0,0))
 hp:cY w a1 Q
 hm:Q.length<=90000
theorem lD.low {w0 w:au}{pw p q N O y g:Nat}{ws:List Int}{sd:Nat}{v0:Value}{a1:Option Addr}{k1:Nat}{Q:List bZ}(h:lD w0 pw p q N O y g ws sd v0 a1 k1 Q)(b:Below w0.heap.size w0 w):lD w pw p q N O y g ws sd v0 a1 k1 Q:=
 ⟨(
  b.cell (aK w0 _ h.c0)).trans h.c0,(b.cell (aK w0 _ h.c2)).trans h.c2,h.ar.below b bW,(b.block sd (lt_of_some h.hs)).trans h.hs,
  h.hp.keep b.size (fun hp a e=>by obtain⟨f,i,c,d,_⟩:=h.hp hp;rw[c] at e;cases e;exact b.block _ d),h.hm⟩
def nb (ms:List Int)(a:Int):Int:=if ms.contains a=true then(ms.idxOf a:Int) else-1
theorem CJ {ms:List Int}{a:Int}(d:a∉ms)(b:Int):nb (ms++[a]) b=if b=a then(ms.length:Int) else nb ms b:=by
 unfold nb;by_cases e:b=a
 ·subst e;rw[aH rfl,aH Z,List.idxOf_append,aE d];simp
 ·rw[aE e];by_cases c:b∈ms
  ·rw[aH (by simp[c]),aH (by simpa using c),List.idxOf_append,aH c]
  ·rw[aE (by simp[c,e]),aE (by simpa using c)]
theorem CK {ms:List Int}{a:Int}(b:a∉ms):nb ms a=-1:=by unfold nb;rw[aE (by simpa using b)]
theorem CL {ms:List Int}{a:Int}(h:a∈ms):nb ms a=(ms.idxOf a:Int):=by unfold nb;rw[aH (by simpa using h)]
theorem iA:Maps.Keyed prog 3:=Maps.int_keyed underlying3
theorem lE (w:au):(zeroValue 3).run prog w=.ok (ah 0) w:=ae
def Nm (w:au)(co:Nat)(T ms:List Int):Prop:=
 ∃D:DataW Unit,w.ownsMap prog 3 (plainElem prog 3) co T.length D/\(∀a:Int,Maps.has D (.int .i64 a)=T.contains a)/\∀a∈T,D.atKey (.int .i64 a) (.lit (.int .i64 0))=.lit (.int .i64 (nb ms a))
theorem Nm.same {w w':au}{co:Nat}{T ms:List Int}(h:Nm w co T ms)(e:w'.heap[co]?=w.heap[co]?):Nm w' co T ms:=by obtain⟨D,b,c,d⟩:=h;exact⟨D,sg b e,c,d⟩
structure Wk (w0 w:au)(pk co pw:Nat)(T:List Int)(s:cL)(vn:Value)(m:List dm):Prop where
 blk:w.heap[pk]?=some (.cells #[aj pw,.map (some co),vn] 110 (0,0))
 lo:w0.heap.size<=pk/\w0.heap.size<=co
 mp:Nm w co T s.1
 row:w.ownsRow w0.heap.size 87 2 vn m.length (nv m)
 nd:iu m=s.2
 fl:∀x∈m,f7 w x.2.1 x.2.2.2
 dt:Below w0.heap.size w0 w
section
variable {w0 w w':au}{pk co pw:Nat}{T:List Int}{s:cL}{vn:Value}{m:List dm}
theorem Wk.below (h:Wk w0 w pk co pw T s vn m)(b:Below w.heap.size w w'):Wk w0 w' pk co pw T s vn m:=by obtain⟨D,o1,d,e⟩:=h.mp;exact⟨(b.block pk (lt_of_some h.blk)).trans h.blk,h.lo,h.mp.same (b.block co o1.lt),cv h.row (fun k hk=>b.block k (ce h.row k hk).2),h.nd,fun x c=>(h.fl x c).kf (Kf.of (B:=0) b),h.dt.trans (b.mono h.dt.size)⟩
theorem Wk.cells (h:Wk w0 w pk co pw T s vn m):w.cell? (am pk 0)=some (aj pw)/\w.cell? (am pk 1)=some (.map (some co))/\w.cell? (am pk 2)=some vn/\pk<w.heap.size:=
 ⟨by simp[World.cell?,h.blk],by simp[World.cell?,h.blk],by simp[World.cell?,h.blk],lt_of_some h.blk⟩
theorem Wk.len (h:Wk w0 w pk co pw T s vn m):m.length=s.2.length:=by rw[<-h.nd];simp[iu]
end
end Go.Proofs.YtjpjpjemibgjpaaGreat
