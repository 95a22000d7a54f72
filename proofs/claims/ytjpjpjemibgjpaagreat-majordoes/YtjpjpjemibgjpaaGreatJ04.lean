import Derived.Test.YtjpjpjemibgjpaaGreatJ03
import Derived.Test.YtjpjpjemibgjpaaGreatJ02
import Derived.Deep.Slices
import Derived.Lib.SmallJoins
import Derived.OpenShut
import Derived.Deep.RegionLawGrows
import Derived.Deep.AppendLies
import Derived.Laws.OwnMore
import Derived.Test.YtjpjpjemibgjpaaGreatJ00
import Derived.Test.YtjpjpjemibgjpaaGreatJ01
namespace Go.Proofs.YtjpjpjemibgjpaaGreat
set_option maxRecDepth 100000
set_option maxHeartbeats 1000000
open Tryz
open Go.RowKit W
theorem wC (a:Int)(c base:Nat)(v:Value)(L:List Int)(w:World)(hc:w.heap[c]?=some (.cells #[v] 96 (0,0)))(i:c<base)(hB:base<=w.heap.size)
 (f:w.ownsRow base 3 1 v L.length (L.map (Value.int .i64)))(D:L.length<=100000):
 Calls prog 164 #[ae a,af c] w fun e w'=>e=.returned (.tuple #[])/\∃g,w'.heap[c]?=some (.cells #[g] 96 (0,0))/\w'.ownsRow base 3 1 g (L++[a]).length ((L++[a]).map (Value.int .i64))/\dC base c w w':=by
 obtain⟨o,hi,p,q,s⟩:=info_parts iE;have cc:w.cell? (ah c 0)=some v:=by simp[World.cell?,hc]
 have t:Hid (w.heap[c]?=some (.cells #[v] 96 (0,0))):=hc;clear hc;have x:c<w.heap.size:=I;go_enter func164,ntmps164;go_wp2_with (at_builtin;refine wpList_append_own _ rfl _ _ 96 rfl base 3 o (ae 0) 1 8 Tryz.underlying96 hi p q s rfl Z _ L.length (L.map (Value.int .i64)) rfl (f.alloc _) ⟨w.heap.size,0,none⟩ 1 1 [ae a] rfl rfl ?_ ?_ ?_ ?_ ?_ ?_;(intro j u d;match j,d with|0,d=>(simp at d;subst d;simp[Addr.add]));(intro u l;simp at l;subst l;rfl);(unfold maxLen;omega);omega;(simp;omega);intro g w1 m n _;obtain⟨b1,fD,A⟩:=ru m (Nat.succ_pos _);subst A;have b:w1.heap[c]?=some (.cells #[v] 96 (0,0)):=(n.block c (by simp;omega) (rk f i)).trans ((Below.heap_alloc _ _ _ x).trans t.out);have E:w1.cell? (ah c 0)=some v:=(by simp[World.cell?,b]);have F:w1.frozen? (ah c 0)=false:=(by simp[World.frozen?,b]);have B:Hid (w1.heap[c]?=some (.cells #[v] 96 (0,0))):=b;clear b)
 go_end0;refine⟨rfl,.slice (ag b1) (L.length+1) fD,?_,?_,?_⟩
 ·have b:=B.out;simp only [World.setCell,Array.getElem?_modify,if_true,b,Option.map_some];simp
 ·have:=ownsRow_setCell_below m (a:=⟨c,0,none⟩) i (.slice (ag b1) (L.length+1) fD)
  simpa using this
 ·refine(dC.of ((Below.refl base w).alloc hB _) bJ).trans (dC.trans (dC.of ((Below.refl base _).grown n (by simp;omega) (rn f)) bJ) ?_)
  exact⟨rfl,rfl,rfl,by simp[World.setCell],fun k _ C=>Below.heap_setCell _ _ _ _ C⟩
theorem rB {p q N O y g:Nat}{ws:List Int}(b s u:Int)(c:Nat)(w:World)(h:At w p q N O y g ws)(hc:w.heap[c]?=some (.cells #[.slice none 0 0] 96 (0,0)))(K:p≠c)(M:q≠c)
 (b0:0<=b)(b1:b<=2000)(u0:0<=u)(aB:u<=2000):
 Calls prog 162 #[af p,.agg #[ae b,ae s,ae u],.func (.func 164) #[] #[af c]] w fun e w'=>e=.returned (.tuple #[])/\∃v,w'.heap[c]?=some (.cells #[v] 96 (0,0))/\w'.ownsRow w.heap.size 3 1 v (du N y g ws (b+u) 2000 b).length ((du N y g ws (b+u) 2000 b).map (Value.int .i64))/\dC w.heap.size c w w':=by
 have lp:=h.ee;have P:=lt_of_some hc;have Q:Hid (w.heap[c]?=some (.cells #[.slice none 0 0] 96 (0,0))):=hc;clear hc;go_enter func162,ntmps162;go_wp2_with fail
 go_loopw [6] (fun i wr=>∃(a:Int)(L:List Int)(k:Nat)(v:Value),i=ae a/\b<=a/\a<=100000/\b+u-a<=k/\(L.length:Int)+b<=a/\L++du N y g ws (b+u) k a=du N y g ws (b+u) 2000 b/\wr.heap[c]?=some (.cells #[v] 96 (0,0))/\wr.ownsRow (w.heap.size+1) 3 1 v L.length (L.map (Value.int .i64))/\dC (w.heap.size+1) c (w.alloc (.cells #[.int .i64 b,.int .i64 s,.int .i64 u] 101)) wr) (fun i _=>(b+u-intOf i).toNat)
 case atStart=>exact⟨b,[],2000,_,rfl,I,I,I,V,rfl,(Below.heap_alloc _ _ _ P).trans Q.out,aO _ _ _ _,dC.refl _ _ _⟩
 case round=>
  obtain⟨a,L,k,v,rfl,a1,a2,R,aF,F,hc,A,d⟩:=hrel;have m:=d.block w.heap.size I I;rw[aw] at m;have S:wr.cell? (ah w.heap.size 0)=some (ae b):=by simp[World.cell?,m]
  have U:wr.cell? (ah w.heap.size 1)=some (ae s):=by simp[World.cell?,m]
  have W:wr.cell? (ah w.heap.size 2)=some (ae u):=by simp[World.cell?,m]
  have X:At wr p q N O y g ws:=(h.alloc _).same (d.block p I K) (d.block q (by have:=h.ef;omega) M)
  have f:=d.size;simp only [World.size_alloc] at f;have B:Hid (L++du N y g ws (b+u) k a=du N y g ws (b+u) 2000 b):=F;have n:Hid (wr.heap[c]?=some (.cells #[v] 96 (0,0))):=hc;have aR:Hid (wr.heap[w.heap.size]?=some (.cells #[ae b,ae s,ae u] 101)):=m;clear F hc m;go_wp2_with fail;refine(jN b s u _ b0 I u0 I).mono ?_;rintro e w1 ⟨rfl,l⟩
  clear S U W;by_cases Y:a<b+u
  ·go_wp2_with fail;refine(e9 a _ (X.below l bJ)).mono ?_;rintro e G ⟨rfl,ad⟩
   have j:Below wr.heap.size wr G:=l.trans (ad.mono l.size)
   by_cases hp:pc (ld N y g ws a)=0
   ·obtain⟨aT,aV⟩:=nc _ hp;obtain⟨C,rfl,o⟩:=rz (N:=N) (y:=y) (g:=g) (ws:=ws) k R Y hp;have ai:Hid (pc (ld N y g ws a)=0):=hp;have D:Hid (du N y g ws (b+u) (C+1) a=a::du N y g ws (b+u) C (a+(1+pf (ld N y g ws a)))):=o;clear hp o;rw[ai.out];go_wp2_with fail;refine(wC a c (w.heap.size+1) v L G ((j.block c (lt_of_some n.out)).trans n.out) I (by have:=j.size;omega) (i0 A j) I).mono ?_;rintro e w3 ⟨rfl,H,J,al,ar⟩
    have ax:Hid (w3.heap[c]?=some (.cells #[H] 96 (0,0))):=J;clear J;go_wp2_with fail;go_roundw
    case rel=>exact⟨a+(1+pf (ld N y g ws a)),L++[a],C,H,rfl,I,I,I,by simp;omega,by rw[<-B.out,D.out];simp,ax.out,al,(d.trans (dC.of j f)).trans ar⟩
    case measure=>simp[intOf];omega
   ·have t:(pc (ld N y g ws a)!=0)=true:=by simpa using hp
    have o:=rx (N:=N) (y:=y) (g:=g) (ws:=ws) (hi:=b+u) k hp;have D:Hid (du N y g ws (b+u) k a=[]):=o;clear hp o;go_wp2_with fail;refine aW (results_none rfl _ _ _) rfl ?_;have x:=B.out;rw[D.out,List.append_nil] at x;rw[<-x];exact⟨rfl,v,(j.block c (lt_of_some n.out)).trans n.out,jR (i0 A j) I,⟨(d.trans (dC.of j f)).os,(d.trans (dC.of j f)).tape,(d.trans (dC.of j f)).output,by have:=(d.trans (dC.of j f)).size;simp at this;omega,fun k hk E=>((d.trans (dC.of j f)).block k I E).trans (Below.heap_alloc _ _ _ hk)⟩⟩
  ·go_wp2_with fail;refine bodyPost_end (results_none rfl _ _ _) rfl ?_;have x:=B.out;rw[o2 k I,List.append_nil] at x;rw[<-x];exact⟨rfl,v,(l.block c (lt_of_some n.out)).trans n.out,jR (i0 A l) I,⟨(d.trans (dC.of l f)).os,(d.trans (dC.of l f)).tape,(d.trans (dC.of l f)).output,by have:=(d.trans (dC.of l f)).size;simp at this;omega,fun k hk E=>((d.trans (dC.of l f)).block k I E).trans (Below.heap_alloc _ _ _ hk)⟩⟩
def dv (N y g:Nat)(ws:List Int):List Int:=du N y g ws y 2000 0
def c8 (N y g:Nat)(ws:List Int):List Int:=du N y g ws ((N:Int)+g) 2000 N
theorem nf {p q N O y g:Nat}{ws:List Int}(w:World)(h:At w p q N O y g ws):
 Calls prog 104 #[af p] w fun e w'=>∃v1 v2,e=.returned (.tuple #[v1,v2])/\w'.ownsRow w.heap.size 3 1 v1 (dv N y g ws).length ((dv N y g ws).map (Value.int .i64))/\w'.ownsRow w.heap.size 3 1 v2 (c8 N y g ws).length ((c8 N y g ws).map (Value.int .i64))/\Below w.heap.size w w':=by
 obtain⟨c0,c1,c2,d,f,i,j⟩:=h.cells;have lp:=h.ee;have x:=h.ef;have k1:=h.hN';have A:=h.hy;have B:=h.hO;have C:=h.hg;go_enter func104,ntmps104;go_wp2_with fail;refine(rA 0 N y w.heap.size _ ((h.alloc _).alloc _) ((Below.heap_alloc _ _ _ V).trans (aw _ _)) I I I I I I).mono ?_;rintro e w1 ⟨rfl,v1,k,l,a⟩
 have m:At w1 p q N O y g ws:=((h.alloc _).alloc _).same (a.block p (by simp;omega) I) (a.block q (by simp;omega) I)
 have b:w1.heap[w.heap.size+1]?=some (.cells #[.slice none 0 0] 96 (0,0)):=(a.block (w.heap.size+1) V I).trans (oW _ V)
 have o:Hid (w1.heap[w.heap.size]?=some (.cells #[v1] 96 (0,0))):=k;have s:Hid (w1.heap[w.heap.size+1]?=some (.cells #[.slice none 0 0] 96 (0,0))):=b;have t:=a.size;simp only [World.size_alloc] at t;clear k b c0 c1 c2 d f i j;obtain⟨c0,c1,c2,d,f,i,j⟩:=m.cells;go_wp2_with fail;refine(rB N O g (w.heap.size+1) _ m s.out I I I I I I).mono ?_;rintro e n ⟨rfl,v2,b,u,c⟩
 have D:n.cell? (ah w.heap.size 0)=some v1:=by have:=(c.block w.heap.size I I).trans o.out;simp[World.cell?,this]
 have E:n.cell? (ah (w.heap.size+1) 0)=some v2:=by simp[World.cell?,b]
 have F:=c.size;clear b;go_wp2_with fail
 go_quiet (fail)
 go_wp2_with fail;go_ret2;simp only [World.size_alloc] at l a;have v:dv N y g ws=du N y g ws (0+(y:Int)) 2000 0:=by rw[Int.zero_add];rfl
 refine⟨v1,v2,rfl,?_,?_,?_⟩
 ·rw[v];exact i0 (jR (base:=w.heap.size+1+1) (rj l c bJ I) I) (below_drewN bK _)
 ·exact i0 (jR u I) (below_drewN bK _)
 ·exact below_drewN (((bK.alloc bJ _).alloc V _).trans ((a.below I bJ).trans (c.below I I))) _
def B1:List Int:=eA (List.replicate 24 0) 0 33 2
def B2:List Int:=eA B1 3 194 12
theorem wD (ws:List Int)(y:Nat)(hd:Int)(k:Nat):(eA ws y hd k).length=ws.length:=by
 induction k with
 |zero=>simp[eA]
 |succ k a=>simp[eA,a]
theorem i1 (l:List Int)(i j:Nat)(x:Int)(h:i<l.length):(l.set i x).getD j 0=if i=j then x else l.getD j 0:=by
 rw[aj,aj,List.getElem?_set];split
 ·rename_i e;subst e;simp
 ·rfl
theorem gW (ws:List Int)(y:Nat)(hd:Int)(k i:Nat)(h:y+k<ws.length):(eA ws y hd k).getD i 0=if i=y then hd else if y+1<=i/\i<y+1+k then 2 else ws.getD i 0:=by
 induction k with
 |zero=>
  rw[eA,i1 _ _ _ _ I];by_cases e:y=i
  ·rw[aq e,aq e.symm]
  ·rw[ao e,ao (fun c=>e c.symm),ao I]
 |succ k d=>
  rw[eA,i1 _ _ _ _ (by rw[wD];omega),d I];by_cases e:y+1+k=i
  ·rw[aq e,ao I,aq I]
  ·rw[ao e];by_cases a:i=y
   ·rw[aq a,aq a]
   ·rw[ao a,ao a];by_cases b:y+1<=i/\i<y+1+k
    ·rw[aq b,aq I]
    ·rw[ao b,ao I]
theorem wE (y f:Nat):hB 0 ((y+1+f:Nat):Int) y=true:=by simp[hB];omega
theorem o3 {N y g:Nat}{ws:List Int}(hd:Int)(f:Nat)(h:y+f<ws.length):ld N (y+1+f) g (eA ws y hd f) y=hd:=by
 have hi:cO N (y+1+f) g y=true:=by unfold cO;rw[wE];rfl
 unfold ld;rw[aq hi,Int.toNat_natCast,gW _ _ _ _ _ h,aq rfl]
def gu (N y:Nat)(k f:Int):Bool:=decide (hc k f=0/\f+1<=(N:Int)-y)
def gw (N O y g:Nat)(ws:List Int)(a:Int):Bool:=decide (pc (ld N y g ws a)=0/\1+pf (ld N y g ws a)<=e2 N y g a-a/\1+pf (ld N y g ws a)<=(O:Int)-g)
theorem jS {N y:Nat}{k f:Int}(h:gu N y k f=true):hc k f=0/\f+1<=(N:Int)-y:=by simpa[gu] using h
theorem wF {N y:Nat}{k f:Int}(h:gu N y k f=false):hc k f≠0\/(N:Int)-y<f+1:=by
 have:¬(hc k f=0/\f+1<=(N:Int)-y):=by simpa[gu] using h
 by_cases c:hc k f=0
 ·exact an I
 ·exact ap c
theorem lv {N O y g:Nat}{ws:List Int}{a:Int}(h:gw N O y g ws a=true):pc (ld N y g ws a)=0/\1+pf (ld N y g ws a)<=e2 N y g a-a/\1+pf (ld N y g ws a)<=(O:Int)-g:=by simpa[gw] using h
theorem wG {N O y g:Nat}{ws:List Int}{a:Int}(h:gw N O y g ws a=false):pc (ld N y g ws a)≠0\/e2 N y g a-a<1+pf (ld N y g ws a)\/(O:Int)-g<1+pf (ld N y g ws a):=by
 have:¬(pc (ld N y g ws a)=0/\1+pf (ld N y g ws a)<=e2 N y g a-a/\1+pf (ld N y g ws a)<=(O:Int)-g):=by simpa[gw] using h
 by_cases c:pc (ld N y g ws a)=0
 ·exact an I
 ·exact ap c
def eh (N y:Nat)(k f:Int):Int:=if gu N y k f=true then(y:Int) else-1
def dU (N y:Nat)(k f:Int):Nat:=if gu N y k f=true then y+1+f.toNat else y
def dR (N y:Nat)(k f:Int)(ws:List Int):List Int:=if gu N y k f=true then eA ws y (hw k f) f.toNat else ws
def kt (N O y g:Nat)(ws:List Int)(a:Int):Int:=if gw N O y g ws a=true then((N+g:Nat):Int) else-1
def h9 (N O y g:Nat)(ws:List Int)(a:Int):Nat:=if gw N O y g ws a=true then g+(1+(pf (ld N y g ws a)).toNat) else g
def h_ (N O y g:Nat)(ws:List Int)(a:Int):List Int:=if gw N O y g ws a=true then splice ws (N+g) ((ws.drop a.toNat).take (1+(pf (ld N y g ws a)).toNat)) else ws
theorem wH {p q N O y g:Nat}{ws:List Int}(k f:Int)(w:World)(h:At w p q N O y g ws):
 Calls prog 24 #[af p,ae k,ae f] w fun e w'=>e=.returned (ae (eh N y k f))/\At w' p q N O (dU N y k f) g (dR N y k f ws)/\cY p q w w':=by
 unfold eh dU dR;cases hb:gu N y k f
 ·rw[ao V,ao V,ao V];exact(wn k f w h (wF hb)).mono fun e w' a=>⟨a.1,h.below a.2 bJ,cY.of a.2⟩
 ·rw[aq rfl,aq rfl,aq rfl];exact wm k f w h (jS hb).1 (jS hb).2
theorem rC {p q N O y g:Nat}{ws:List Int}(a:Int)(w:World)(h:At w p q N O y g ws):
 Calls prog 132 #[af p,ae a] w fun e w'=>e=.returned (ae (kt N O y g ws a))/\At w' p q N O y (h9 N O y g ws a) (h_ N O y g ws a)/\cY p q w w':=by
 unfold kt h9 h_;cases hb:gw N O y g ws a
 ·rw[ao V,ao V,ao V];exact(wA a w h (wG hb)).mono fun e w' b=>⟨b.1,h.below b.2 bJ,cY.of b.2⟩
 ·rw[aq rfl,aq rfl,aq rfl];exact wz a w h (lv hb).1 (lv hb).2.1 (lv hb).2.2
open Go.ChangeShapes Go.WideShapes Go.ChangeAt Go.RowKit Go.Joins Go.Deep W bY
open Go.RowKit W Kp bY
section
variable {P:Program}(w:World)
theorem wJ (base:Nat)(t ty e:TypeId)(i:TypeInfo)(z:Value)(size bytes:Nat)(ht:P.underlying t=some (.slice e))(hi:P.info? e=some i)(hz:i.zero=some z)
 (p:i.size=size)(q:i.bytes=bytes)(s:z.cells.size=size)(x:0<size)
 (v:Value)(n:Nat)(xs:List Value)(g:w.ownsRow base e size v n xs)
 (k:Option Addr)(m c:Nat)(f:List Value)(hl:f.length=m*size)(A:k=none->m=0/\c=0)(B:∀a,k=some a->∀j u,f[j]?=some u->w.cell? (a.add j)=some u)(C:∀u∈f,u.oneCell'=true)
 (D:n+m<=maxLen)(E:(n+m)*bytes<=140737488355328)(F:base<=w.heap.size):
 ∃b d w',(Builtin.append_ #[t,t] ty #[v,.slice k m c]).run P w=.ok (.slice b (n+m) d) w'/\w'.ownsRow base e size (.slice b (n+m) d) (n+m) (xs++f)/\w.grownBy w' v.ownBlock/\((Value.slice b (n+m) d).ownBlock=v.ownBlock\/(Value.slice b (n+m) d).ownBlock=some w.heap.size):=by
 cases k with
 |some a=>
  obtain⟨K,w',l,o,G,_,H⟩:=run_append_own_at (P:=P) w base t ty e i z size bytes ht hi hz p q s x v n xs g a m c f hl (B a rfl) C D E F;obtain⟨b,d,rfl⟩:=dG o;exact⟨b,d,w',l,o,G,H⟩
 |none=>
  obtain⟨rfl,rfl⟩:=A rfl;have J:f=[]:=List.eq_nil_of_length_eq_zero (by simpa using hl)
  subst J;have l:=run_append_owned_none (P:=P) w base t ty e i size ht hi v n xs g;obtain⟨b,d,rfl⟩:=dG g;exact⟨b,d,w,l,by simpa using g,⟨rfl,rfl,rfl,ak _,fun _ _ _=>rfl⟩,ap rfl⟩
theorem wK {o:Oper}{a:Act}{K:Act->World->Prop}{Q:Exit->Act->World->Prop}(s x:Operand)(t:TypeId)
 (k:o.op=.call {callee:=.builtin .append,args:=#[s,x],argTypes:=#[t,t]})
 (base:Nat)(e:TypeId)(i:TypeInfo)(z:Value)(size bytes:Nat)(ht:P.underlying t=some (.slice e))(hi:P.info? e=some i)(hz:i.zero=some z)
 (l:i.size=size)(p:i.bytes=bytes)(q:z.cells.size=size)(A:0<size)
 (v:Value)(n:Nat)(xs:List Value)(hs:a.eval s=v)(B:w.ownsRow base e size v n xs)
 (g:Option Addr)(m c:Nat)(f:List Value)(C:a.eval x=.slice g m c)(hl:f.length=m*size)(D:g=none->m=0/\c=0)(E:∀a,g=some a->∀j u,f[j]?=some u->w.cell? (a.add j)=some u)(F:∀u∈f,u.oneCell'=true)
 (G:n+m<=maxLen)(H:(n+m)*bytes<=140737488355328)(J:base<=w.heap.size)
 (h:∀b d w',w'.ownsRow base e size (.slice b (n+m) d) (n+m) (xs++f)->w.grownBy w' v.ownBlock->((Value.slice b (n+m) d).ownBlock=v.ownBlock\/(Value.slice b (n+m) d).ownBlock=some w.heap.size)->K (a.put o.dst (.slice b (n+m) d)) w'):o.wp P a w K Q:=by
 obtain⟨b,d,w',L,M,N,O⟩:=wJ (P:=P) w base t o.type e i z size bytes ht hi hz l p q A v n xs B g m c f hl D E F G H J;unfold Oper.wp execOp;simp only [k,resolve,invoke,builtin,Sem.run_bind,Sem.run_pure,Result.andThen_ok,List.map_toArray,List.map_cons,List.map_nil,hs,C,L];exact h b d w' M N O
theorem hS {ops:Array Oper}{rest:List Oper}{o:Oper}{a:Act}{Q:Exit->Act->World->Prop}(k:o.guard=none)(s x:Operand)(t:TypeId)
 (l:o.op=.call {callee:=.builtin .append,args:=#[s,x],argTypes:=#[t,t]})
 (base:Nat)(e:TypeId)(i:TypeInfo)(z:Value)(size bytes:Nat)(ht:P.underlying t=some (.slice e))(hi:P.info? e=some i)(hz:i.zero=some z)
 (p:i.size=size)(q:i.bytes=bytes)(A:z.cells.size=size)(B:0<size)
 (v:Value)(n:Nat)(xs:List Value)(hs:a.eval s=v)(C:w.ownsRow base e size v n xs)
 (g:Option Addr)(m c:Nat)(f:List Value)(D:a.eval x=.slice g m c)(hl:f.length=m*size)(E:g=none->m=0/\c=0)(F:∀a,g=some a->∀j u,f[j]?=some u->w.cell? (a.add j)=some u)(G:∀u∈f,u.oneCell'=true)
 (H:n+m<=maxLen)(J:(n+m)*bytes<=140737488355328)(K:base<=w.heap.size)
 (h:∀b d w',w'.ownsRow base e size (.slice b (n+m) d) (n+m) (xs++f)->w.grownBy w' v.ownBlock->((Value.slice b (n+m) d).ownBlock=v.ownBlock\/(Value.slice b (n+m) d).ownBlock=some w.heap.size)->wpList P ops Q rest (a.put o.dst (.slice b (n+m) d)) w'):wpList P ops Q (o::rest) a w:=
 wpList_plain k fun _ L=>wK w s x t l base e i z size bytes ht hi hz p q A B v n xs hs C g m c f D hl E F G H J K fun b d w' M N O=>L _ _ (h b d w' M N O)
end
theorem fZ.below {w w':World}{a:Option Addr}{l:List Int}(h:fZ w a l)(c:Below w.heap.size w w'):fZ w' a l:=
 h.keep c.size (fun hp z e=>by obtain⟨b,o,d,f,_⟩:=h hp;rw[e] at d;cases d;exact c.block _ f)
theorem wL (w:World)(f:Option Addr)(l:List Int)(o:Nat)(v:Int)(h:fZ w f l)(hm:l.length<=100000):
 Calls prog 179 #[.slice f l.length o,ae v] w fun e w'=>∃a:Int,e=.returned (ae a)/\decide (0<=a)=l.contains v/\Below w.heap.size w w':=by
 have H:Hid (fZ w f l):=h;clear h;go_enter func179,ntmps179;go_wp2_with fail
 go_loopw [8] (fun iv wr=>∃j:Nat,j<=l.length/\iv=ae j/\Hid (∀i,i<j->¬l.getD i 0=v)/\Below w.heap.size w wr) (fun iv _=>l.length-(intOf iv).toNat)
 case atStart=>exact⟨0,aA _,rfl,fun i h=>I,Below.refl _ _⟩
 case round=>
  obtain⟨j,s,rfl,k,d⟩:=hrel;by_cases m:j<l.length
  ·obtain⟨b0,t,p,x,hc⟩:=H.out.below d I;have n:=hc j m;subst p;have j0:(0:Int)<=(j:Int):=I;have A:(j:Int)<(l.length:Int):=I;by_cases b:l.getD j 0=v
   ·have g:l.contains v=true:=by rw[List.contains_iff_mem,<-b,aj,am m];exact aK _
    rw[b] at n;clear hc;go_wp2_with fail;go_ret;exact⟨j,rfl,by rw[g];simp,d⟩
   ·have q:Hid (∀i,i<j+1->¬l.getD i 0=v):=fun i hi=>by
     by_cases c:i=j
     ·rw[c];exact b
     ·exact k.out i I
    generalize l.getD j 0=u at n b;have B:¬v=u:=fun e=>b e.symm;clear hc;go_wp2_with fail;go_roundw
    case rel=>exact⟨j+1,I,ac,q,d⟩
    case measure=>simp[intOf];omega
  ·obtain rfl:j=l.length:=I;have g:l.contains v=false:=by rw[Bool.eq_false_iff];intro hc;rw[List.contains_iff_mem] at hc;obtain⟨i,hi,e⟩:=List.mem_iff_getElem.1 hc;exact k.out i hi (by simp[List.getElem?_eq_getElem hi,e])
   go_wp2_with fail;go_ret;exact⟨-1,rfl,by rw[g];rfl,d⟩
theorem rD (w:World)(b:Option Addr)(l:List Int)(c:Nat)(v:Int)(h:fZ w b l)(hm:l.length<=100000):
 Calls prog 144 #[.slice b l.length c,ae v] w fun e w'=>e=.returned (.bool (l.contains v))/\Below w.heap.size w w':=by
 have P:=wL w b l c v h hm;clear h;go_enter func144,ntmps144;go_wp2_with fail;refine P.mono ?_;clear P;rintro e w1 ⟨a,rfl,ha,d⟩
 have f:Hid (decide (0<=a)=l.contains v):=ha;clear ha;go_wp2_with fail;go_ret;exact⟨by rw[<-f.out];rfl,d⟩
def tB (N y g:Nat)(ws:List Int)(x:Int):Bool:=cI x&&((dv N y g ws).contains (bQ x)||(c8 N y g ws).contains (bQ x))
def ia (N y g:Nat)(ws:List Int)(x:Int):Int:=if tB N y g ws x=true then bQ x else 0
theorem au (w:World)(a:Addr){u:Value}(h:w.cell? a = some u):a.block < w.heap.size:=by intros;apply World.block_lt_of_cell?<;>assumption
theorem wM {pw p q N O y g:Nat}{ws:List Int}(x:Int)(w:World)(hc:w.cell? (ah pw 0)=some (af p))(h:At w p q N O y g ws)(Q:(dv N y g ws).length<=100000)(hO:(c8 N y g ws).length<=100000):
 Calls prog 76 #[af pw,ae x] w fun e w'=>e=.returned (.tuple #[ae (ia N y g ws x),.bool (tB N y g ws x)])/\Below w.heap.size w w':=by
 have R:Hid (At w p q N O y g ws):=h;have D:=au w _ hc;clear h;have P:=lu x w;cases ha:cI x
 ·have s:tB N y g ws x=false:=by simp[tB,ha]
  have C:ia N y g ws x=0:=by simp[ia,s]
  rw[s,C];rw[ha] at P;go_enter func76,ntmps76;go_wp2_with fail;refine P.mono ?_;clear P;rintro e w1 ⟨rfl,a⟩
  go_wp2_with fail;go_ret2;exact⟨rfl,a⟩
 ·rw[ha] at P;have s:tB N y g ws x=((dv N y g ws).contains (bQ x)||(c8 N y g ws).contains (bQ x)):=by simp[tB,ha]
  have C:ia N y g ws x=if((dv N y g ws).contains (bQ x)||(c8 N y g ws).contains (bQ x))=true then bQ x else 0:=by unfold ia;rw[s]
  rw[s,C];clear s C;generalize bQ x=v at P;obtain⟨c1,E⟩:∃b,(dv N y g ws).contains v=b:=⟨_,rfl⟩
  obtain⟨c2,F⟩:∃b,(c8 N y g ws).contains v=b:=⟨_,rfl⟩
  rw[E,F];have H:Hid ((dv N y g ws).contains v=c1):=E;have J:Hid ((c8 N y g ws).contains v=c2):=F;clear E F;have K:∀w1,Below w.heap.size w w1->Calls prog 104 #[af p] w1 fun e w'=>∃j k l m,e=.returned (.tuple #[.slice j (dv N y g ws).length k,.slice l (c8 N y g ws).length m])/\Hid (∀w3,Below w'.heap.size w' w3->Calls prog 144 #[.slice j (dv N y g ws).length k,ae v] w3 fun e A=>e=.returned (.bool c1)/\Below w3.heap.size w3 A)/\Hid (∀w3,Below w'.heap.size w' w3->Calls prog 144 #[.slice l (c8 N y g ws).length m,ae v] w3 fun e A=>e=.returned (.bool c2)/\Below w3.heap.size w3 A)/\Below w1.heap.size w1 w':=fun w1 a=>by
   refine(nf w1 (R.out.below a bJ)).mono ?_;rintro e t ⟨v1,v2,rfl,L,M,f⟩
   obtain⟨j,k,rfl⟩:=dG L;obtain⟨l,m,rfl⟩:=dG M;refine⟨j,k,l,m,rfl,fun w3 c=>?_,fun w3 c=>?_,f⟩
   ·rw[<-H.out];exact rD w3 j (dv N y g ws) k v ((ga L).below c) Q
   ·rw[<-J.out];exact rD w3 l (c8 N y g ws) m v ((ga M).below c) hO
  have u:Hid (∀w1,Below w.heap.size w w1->_):=K;clear K H J;cases c1
  ·cases c2
   ·simp only [Bool.or_self,Bool.false_eq_true,if_false];go_enter func76,ntmps76;go_wp2_with fail;refine P.mono ?_;clear P;rintro e w1 ⟨rfl,a⟩
    have y1:=(a.cell (p:=ah pw 0) D).trans hc;go_wp2_with fail;refine(u.out w1 a).mono ?_;rintro e t ⟨j,k,l,m,rfl,n,o,f⟩
    have d:=a.trans (f.mono a.size)
    clear y1 a f u;go_wp2_with fail;refine(n.out t bK).mono ?_;rintro e w3 ⟨rfl,c⟩
    have i:=d.trans (c.mono d.size)
    go_wp2_with fail;refine(o.out w3 c).mono ?_;rintro e A ⟨rfl,B⟩
    have G:=i.trans (B.mono i.size)
    clear n o d c i B;go_wp2_with fail;go_ret2;exact⟨rfl,G⟩
   ·simp only [Bool.false_or,if_true];go_enter func76,ntmps76;go_wp2_with fail;refine P.mono ?_;clear P;rintro e w1 ⟨rfl,a⟩
    have y1:=(a.cell (p:=ah pw 0) D).trans hc;go_wp2_with fail;refine(u.out w1 a).mono ?_;rintro e t ⟨j,k,l,m,rfl,n,o,f⟩
    have d:=a.trans (f.mono a.size)
    clear y1 a f u;go_wp2_with fail;refine(n.out t bK).mono ?_;rintro e w3 ⟨rfl,c⟩
    have i:=d.trans (c.mono d.size)
    go_wp2_with fail;refine(o.out w3 c).mono ?_;rintro e A ⟨rfl,B⟩
    have G:=i.trans (B.mono i.size)
    clear n o d c i B;go_wp2_with fail;go_ret2;exact⟨rfl,G⟩
  ·simp only [Bool.true_or,if_true];go_enter func76,ntmps76;go_wp2_with fail;refine P.mono ?_;clear P;rintro e w1 ⟨rfl,a⟩
   have y1:=(a.cell (p:=ah pw 0) D).trans hc;go_wp2_with fail;refine(u.out w1 a).mono ?_;rintro e t ⟨j,k,l,m,rfl,n,o,f⟩
   have d:=a.trans (f.mono a.size)
   clear y1 a f u;go_wp2_with fail;refine(n.out t bK).mono ?_;rintro e w3 ⟨rfl,c⟩
   have i:=d.trans (c.mono d.size)
   clear n o d c;go_wp2_with fail;go_ret2;exact⟨rfl,i⟩
theorem a4 {α:Type _}{a:α}{«as»:List α}:(a :: «as»).length = «as».length + 1:=List.length_cons ..
theorem gx {N y g:Nat}{ws:List Int}{hi:Int}:∀(k:Nat)(a:Int),(du N y g ws hi k a).length<=k
 |0,_=>by simp[du]
 |k+1,a=>by
  have b:=gx (N:=N) (y:=y) (g:=g) (ws:=ws) (hi:=hi) k (a+(1+pf (ld N y g ws a)))
  unfold du;split
  ·split
   ·rw[a4];omega
   ·simp
  ·simp
section
variable {pw p q N O y g:Nat}{ws:List Int}
theorem rE (x:Int)(w:World)(hc:w.cell? (ah pw 0)=some (af p))(h:At w p q N O y g ws):
 Calls prog 76 #[af pw,ae x] w fun e w'=>e=.returned (.tuple #[ae (ia N y g ws x),.bool (tB N y g ws x)])/\Below w.heap.size w w':=
 wM x w hc h (az (gx _ _) Z) (az (gx _ _) Z)
theorem wN (x:Int)(w:World)(hc:w.cell? (ah pw 0)=some (af p))(h:At w p q N O y g ws):
 Calls prog 31 #[af pw,ae x] w fun e w'=>e=.returned (.tuple #[ae (if tB N y g ws x=true then pk (ld N y g ws (bQ x)) else 0),ae (if tB N y g ws x=true then pf (ld N y g ws (bQ x)) else 0),ae (if tB N y g ws x=true then pc (ld N y g ws (bQ x)) else 2)])/\Below w.heap.size w w':=by
 have c:Hid (At w p q N O y g ws):=h;have d:=au w _ hc;have P:=rE x w hc h;clear h;cases ht:tB N y g ws x
 ·rw[ht] at P;simp only [Bool.false_eq_true,if_false];generalize ia N y g ws x=v at P;go_enter func31,ntmps31;go_wp2_with fail;refine P.mono ?_;clear P;rintro e w1 ⟨rfl,a⟩
  go_wp2_with fail
  go_ret3
  exact⟨rfl,a⟩
 ·rw[ht] at P;have ev:ia N y g ws x=bQ x:=by simp[ia,ht]
  rw[ev] at P;simp only [if_true];generalize bQ x=v at P;go_enter func31,ntmps31;go_wp2_with fail;refine P.mono ?_;clear P;rintro e w1 ⟨rfl,a⟩
  have y1:=(a.cell (p:=ah pw 0) d).trans hc;go_wp2_with fail;refine(e9 v w1 (c.out.below a bJ)).mono ?_;rintro e i ⟨rfl,b⟩
  have f:=a.trans (b.mono a.size)
  clear y1 a b;go_wp2_with fail
  go_ret3
  exact⟨rfl,f⟩
def ge (N y g:Nat)(a f:Int):Int:=min f ((if hB N g a=true then(N:Int)+g else(y:Int))-a-1)
theorem rF (a f:Int)(w:World)(hc:w.cell? (ah pw 0)=some (af p))(h:At w p q N O y g ws)(s:0<=a)(a1:a<=100000):
 Calls prog 138 #[af pw,ae a,ae f] w fun e w'=>e=.returned (ae (ge N y g a f))/\Below w.heap.size w w':=by
 have d:Hid (At w p q N O y g ws):=h;have k:=au w _ hc;have k1:=h.hN';have t:=h.hy;have u:=h.hO;have v:=h.hg;clear h;unfold ge;cases ho:hB N g a
 ·simp only [Bool.false_eq_true,if_false];by_cases hm:f<=(y:Int)-a-1
  ·rw[Int.min_eq_left hm];have o:¬((y:Int)-a-1<f):=I;go_enter func138,ntmps138;go_wp2_with fail;refine(iZ w d.out).mono ?_;rintro e w1 ⟨rfl,b⟩
   have y1:=(b.cell (p:=ah pw 0) k).trans hc;go_wp2_with fail;refine(jQ w1 (d.out.below b bJ)).mono ?_;rintro e l ⟨rfl,i⟩
   have c:=b.trans (i.mono b.size)
   have m:=(c.cell (p:=ah pw 0) k).trans hc;clear y1;have P:=jO a l (d.out.below c bJ)
   rw[ho] at P;go_wp2_with fail;refine P.mono ?_;clear P;rintro e w3 ⟨rfl,j⟩
   have n:=c.trans (j.mono c.size)
   clear m b i c j;go_wp2_with fail;go_ret;exact⟨rfl,n⟩
  ·rw[Int.min_eq_right I];have o:(y:Int)-a-1<f:=I;go_enter func138,ntmps138;go_wp2_with fail;refine(iZ w d.out).mono ?_;rintro e w1 ⟨rfl,b⟩
   have y1:=(b.cell (p:=ah pw 0) k).trans hc;go_wp2_with fail;refine(jQ w1 (d.out.below b bJ)).mono ?_;rintro e l ⟨rfl,i⟩
   have c:=b.trans (i.mono b.size)
   have m:=(c.cell (p:=ah pw 0) k).trans hc;clear y1;have P:=jO a l (d.out.below c bJ)
   rw[ho] at P;go_wp2_with fail;refine P.mono ?_;clear P;rintro e w3 ⟨rfl,j⟩
   have n:=c.trans (j.mono c.size)
   clear m b i c j;go_wp2_with fail;go_ret;exact⟨rfl,n⟩
 ·simp only [if_true];by_cases hm:f<=(N:Int)+g-a-1
  ·rw[Int.min_eq_left hm];have o:¬((N:Int)+g-a-1<f):=I;go_enter func138,ntmps138;go_wp2_with fail;refine(iZ w d.out).mono ?_;rintro e w1 ⟨rfl,b⟩
   have y1:=(b.cell (p:=ah pw 0) k).trans hc;go_wp2_with fail;refine(jQ w1 (d.out.below b bJ)).mono ?_;rintro e l ⟨rfl,i⟩
   have c:=b.trans (i.mono b.size)
   have m:=(c.cell (p:=ah pw 0) k).trans hc;clear y1;have P:=jO a l (d.out.below c bJ)
   rw[ho] at P;go_wp2_with fail;refine P.mono ?_;clear P;rintro e w3 ⟨rfl,j⟩
   have n:=c.trans (j.mono c.size)
   clear m b i c j;go_wp2_with fail;go_ret;exact⟨rfl,n⟩
  ·rw[Int.min_eq_right I];have o:(N:Int)+g-a-1<f:=I;go_enter func138,ntmps138;go_wp2_with fail;refine(iZ w d.out).mono ?_;rintro e w1 ⟨rfl,b⟩
   have y1:=(b.cell (p:=ah pw 0) k).trans hc;go_wp2_with fail;refine(jQ w1 (d.out.below b bJ)).mono ?_;rintro e l ⟨rfl,i⟩
   have c:=b.trans (i.mono b.size)
   have m:=(c.cell (p:=ah pw 0) k).trans hc;clear y1;have P:=jO a l (d.out.below c bJ)
   rw[ho] at P;go_wp2_with fail;refine P.mono ?_;clear P;rintro e w3 ⟨rfl,j⟩
   have n:=c.trans (j.mono c.size)
   clear m b i c j;go_wp2_with fail;go_ret;exact⟨rfl,n⟩
end
theorem cU (h:Int):0<=pf h/\pf h<=12:=by
 unfold pf;split
 ·have:=gK _ _ (by assumption)
  omega
 ·omega
theorem ku {N y g:Nat}{ws:List Int}{hi:Int}:∀(k:Nat)(a x:Int),x∈du N y g ws hi k a->a<=x/\x<hi
 |0,_,_,h=>by simp[du] at h
 |k+1,a,x,h=>by
  unfold du at h;split at h
  ·split at h
   ·rcases List.mem_cons.1 h with h|h
    ·rw[h];exact⟨Int.le_refl _,by assumption⟩
    ·have b:=ku k _ x h;have c:=cU (ld N y g ws a)
     omega
   ·simp at h
  ·simp at h
theorem rG {N O y g:Nat}{ws:List Int}{x:Int}(h:tB N y g ws x=true)(hN:N<=256)(hy:y<=N)(hO:O<=1024)(hg:g<=O):0<=bQ x/\bQ x<=1280:=by
 unfold tB at h;simp only [Bool.and_eq_true,Bool.or_eq_true,List.contains_iff_mem] at h;rcases h.2 with h|h
 ·have:=ku _ _ _ h;omega
 ·have:=ku _ _ _ h;omega
def dH (N y g:Nat)(ws:List Int)(x i:Int):Int:=
 if tB N y g ws x=true then(if pk (ld N y g ws (bQ x))=5 then 2 else if i<0\/ge N y g (bQ x) (pf (ld N y g ws (bQ x)))<=i then 1 else 0) else 2
section
variable {pw p q N O y g:Nat}{ws:List Int}
theorem rH (x i:Int)(w:World)(hc:w.cell? (ah pw 0)=some (af p))(h:At w p q N O y g ws):
 Calls prog 67 #[af pw,ae x,ae i] w fun e w'=>e=.returned (.tuple #[ae (if dH N y g ws x i=0 then bQ x else 0),ae (if dH N y g ws x i=0 then bQ x+1+i else 0),ae (dH N y g ws x i)])/\Below w.heap.size w w':=by
 have o:Hid (At w p q N O y g ws):=h;have j:=au w _ hc;have P:=rE x w hc h;have k1:=h.hN';have B:=h.hy;have C:=h.hO;have D:=h.hg;clear h;cases ht:tB N y g ws x
 ·rw[ht] at P;have m:dH N y g ws x i=2:=by unfold dH;rw[ht,ao V]
  rw[m,ao Z,ao Z];generalize ia N y g ws x=v at P;go_enter func67,ntmps67;go_wp2_with fail;refine P.mono ?_;clear P;rintro e w1 ⟨rfl,a⟩
  go_wp2_with fail
  go_ret3
  exact⟨rfl,a⟩
 ·obtain⟨b0,b1⟩:=rG (O:=O) ht k1 B C D;have t:=cU (ld N y g ws (bQ x))
  rw[ht] at P;have ev:ia N y g ws x=bQ x:=by simp[ia,ht]
  rw[ev] at P;have m:dH N y g ws x i=if pk (ld N y g ws (bQ x))=5 then 2 else if i<0\/ge N y g (bQ x) (pf (ld N y g ws (bQ x)))<=i then 1 else 0:=by unfold dH;rw[aq ht]
  rw[m];clear m ht ev;generalize bQ x=v at P t b0 b1;have K:Hid (∀w1,Below w.heap.size w w1->Calls prog 77 #[af p,ae v] w1 fun e w'=>e=.returned (.tuple #[ae (pk (ld N y g ws v)),ae (pf (ld N y g ws v)),ae (pc (ld N y g ws v))])/\Below w1.heap.size w1 w'):=fun w1 n=>e9 v w1 (o.out.below n bJ)
  have d:Hid (∀w1,Below w.heap.size w w1->Calls prog 138 #[af pw,ae v,ae (pf (ld N y g ws v))] w1 fun e w'=>e=.returned (ae (ge N y g v (pf (ld N y g ws v))))/\Below w1.heap.size w1 w'):=fun w1 n=>rF v _ w1 ((n.cell (p:=ah pw 0) j).trans hc) (o.out.below n bJ) b0 I;have E:ge N y g v (pf (ld N y g ws v))<=12:=by unfold ge;exact Int.le_trans (Int.min_le_left _ _) t.2
  clear o t;generalize ge N y g v (pf (ld N y g ws v))=s at d E⊢;generalize pk (ld N y g ws v)=kd at K⊢;generalize pf (ld N y g ws v)=f at K d;generalize pc (ld N y g ws v)=cc at K;by_cases A:kd=5
  ·subst A;rw[aq rfl,ao Z,ao Z];go_enter func67,ntmps67;go_wp2_with fail;refine P.mono ?_;clear P;rintro e w1 ⟨rfl,a⟩
   have y1:=(a.cell (p:=ah pw 0) j).trans hc;go_wp2_with fail;refine(K.out w1 a).mono ?_;rintro e k ⟨rfl,c⟩
   have b:=a.trans (c.mono a.size)
   clear y1 a c K d;go_wp2_with fail
   go_ret3
   exact⟨rfl,b⟩
  ·rw[ao A];by_cases hi:i<0
   ·rw[aq (ap hi),ao Z,ao Z];go_enter func67,ntmps67;go_wp2_with fail;refine P.mono ?_;clear P;rintro e w1 ⟨rfl,a⟩
    have y1:=(a.cell (p:=ah pw 0) j).trans hc;go_wp2_with fail;refine(K.out w1 a).mono ?_;rintro e k ⟨rfl,c⟩
    have b:=a.trans (c.mono a.size)
    clear y1 a c K d;go_wp2_with fail
    go_ret3
    exact⟨rfl,b⟩
   ·by_cases hs:s<=i
    ·rw[aq (an hs),ao Z,ao Z];go_enter func67,ntmps67;go_wp2_with fail;refine P.mono ?_;clear P;rintro e w1 ⟨rfl,a⟩
     have y1:=(a.cell (p:=ah pw 0) j).trans hc;go_wp2_with fail;refine(K.out w1 a).mono ?_;rintro e k ⟨rfl,c⟩
     have b:=a.trans (c.mono a.size)
     clear y1 a c K;go_wp2_with fail;refine(d.out k b).mono ?_;rintro e w3 ⟨rfl,l⟩
     have u:=b.trans (l.mono b.size)
     clear b l d;go_wp2_with fail
     go_ret3
     exact⟨rfl,u⟩
    ·have F:¬(i<0\/s<=i):=I;rw[ao F,aq rfl,aq rfl];go_enter func67,ntmps67;go_wp2_with fail;refine P.mono ?_;clear P;rintro e w1 ⟨rfl,a⟩
     have y1:=(a.cell (p:=ah pw 0) j).trans hc;go_wp2_with fail;refine(K.out w1 a).mono ?_;rintro e k ⟨rfl,c⟩
     have b:=a.trans (c.mono a.size)
     clear y1 a c K;go_wp2_with fail;refine(d.out k b).mono ?_;rintro e w3 ⟨rfl,l⟩
     have u:=b.trans (l.mono b.size)
     clear b l d;go_wp2_with fail
     go_ret3
     exact⟨rfl,u⟩
theorem wO (x i:Int)(w:World)(hc:w.cell? (ah pw 0)=some (af p))(h:At w p q N O y g ws):
 Calls prog 28 #[af pw,ae x,ae i] w fun e w'=>e=.returned (.tuple #[ae (if dH N y g ws x i=0 then ld N y g ws (bQ x+1+i) else 0),ae (dH N y g ws x i)])/\Below w.heap.size w w':=by
 have c:Hid (At w p q N O y g ws):=h;have d:=au w _ hc;have P:=rH x i w hc h;clear h;generalize dH N y g ws x i=cd at P⊢;by_cases h0:cd=0
 ·subst h0;rw[aq rfl,aq rfl] at P;rw[aq rfl];generalize bQ x+1+i=fl at P⊢;generalize bQ x=v at P;go_enter func28,ntmps28;go_wp2_with fail;refine P.mono ?_;clear P;rintro e w1 ⟨rfl,a⟩
  have y1:=(a.cell (p:=ah pw 0) d).trans hc;go_wp2_with fail;refine(h8 fl w1 (c.out.below a bJ)).mono ?_;rintro e j ⟨rfl,b⟩
  have f:=a.trans (b.mono a.size)
  clear y1 a b;go_wp2_with fail;go_ret2;exact⟨rfl,f⟩
 ·rw[ao h0,ao h0] at P;rw[ao h0];go_enter func28,ntmps28;go_wp2_with fail;refine P.mono ?_;clear P;rintro e w1 ⟨rfl,a⟩
  go_wp2_with fail;go_ret2;exact⟨rfl,a⟩
end
end Go.Proofs.YtjpjpjemibgjpaaGreat
