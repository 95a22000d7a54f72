import Derived.Test.YtjpjpjemibgjpaaGreatJ02
import Derived.Deep.RegionWith
import Derived.Deep.RegionLaw
import Derived.Test.YtjpjpjemibgjpaaGreatJ01
import Derived.Test.YtjpjpjemibgjpaaGreatJ00
namespace Go.Proofs.YtjpjpjemibgjpaaGreat
set_option maxRecDepth 100000
set_option maxHeartbeats 1000000
open Tryz
open Go.RowKit W
theorem q7 {p q N O y g:Nat}{ws:List Int}(w:World)(h:At w p q N O y g ws):
 Calls prog 89 #[af p] w fun e w'=>e=.returned (.tuple #[])/\At w' p q N O 0 g ws/\cY p q w w':=by
 obtain⟨c0,c1,c2,a,b,c,d⟩:=h.cells;have f:=h.frozen 3;go_enter func89,ntmps89;go_wp2_with fail;go_end0;exact⟨rfl,h.qU 0 (aA _),cY.l4 _ _⟩
theorem v7 {p q N O y g:Nat}{ws:List Int}(n:Int)(w:World)(h:At w p q N O y g ws)(h0:0<=n)(a:n<=O):
 Calls prog 130 #[af p,ae n] w fun e w'=>e=.returned (.tuple #[])/\At w' p q N O y n.toNat ws/\cY p q w w':=by
 obtain⟨n,rfl⟩:=Int.eq_ofNat_of_zero_le h0;rw[Int.toNat_natCast];obtain⟨c0,c1,c2,b,c,d,f⟩:=h.cells;have i:=h.frozen 6;go_enter func130,ntmps130;go_wp2_with fail;go_end0;exact⟨rfl,h.qV n I,cY.l4 _ _⟩
theorem v8 {p q N O y g:Nat}{ws:List Int}(n:Int)(w:World)(h:At w p q N O y g ws)(h0:0<=n)(l:n<=(N:Int)-y):
 Calls prog 65 #[.pointer (some ⟨p,1,none⟩),ae n] w fun e w'=>e=.returned (.tuple #[ae y,.bool true])/\At w' p q N O (y+n.toNat) g ws/\cY p q w w':=by
 obtain⟨n,rfl⟩:=Int.eq_ofNat_of_zero_le h0;rw[Int.toNat_natCast];obtain⟨c0,c1,c2,b,c,d,f⟩:=h.cells;have k1:=h.hN';have m:=h.hy;go_enter func65,ntmps65;go_wp2_with fail;refine(l8 0 N y _ I I I I).mono ?_;rintro e w1 ⟨rfl,i⟩
 have j:=h.below i bJ
 obtain⟨c0,c1,c2,b,c,d,f⟩:=j.cells;go_wp2_with fail;refine(jN 0 N y _ I I I I).mono ?_;rintro e o ⟨rfl,k⟩
 have a:=j.below k bJ
 obtain⟨c0,c1,c2,b,c,d,f⟩:=a.cells;have s:=a.frozen 3;go_wp2_with fail;go_ret2;exact⟨V,a.qU (y+n) I,((cY.of i).trans (cY.of k)).trans (cY.l4 _ _)⟩
theorem v9 {p q N O y g:Nat}{ws:List Int}(n:Int)(w:World)(h:At w p q N O y g ws)(h0:(N:Int)-y<n):
 Calls prog 65 #[.pointer (some ⟨p,1,none⟩),ae n] w fun e w'=>e=.returned (.tuple #[ae 0,.bool false])/\Below w.heap.size w w':=by
 obtain⟨c0,c1,c2,b,c,d,f⟩:=h.cells;have k1:=h.hN';have i:=h.hy;go_enter func65,ntmps65;go_wp2_with fail;refine(l8 0 N y _ I I I I).mono ?_;rintro e w1 ⟨rfl,a⟩
 go_wp2_with fail;go_ret2;exact⟨rfl,a⟩
theorem v_ {p q N O y g:Nat}{ws:List Int}(n:Int)(w:World)(h:At w p q N O y g ws)(h0:0<=n)(l:n<=(O:Int)-g):
 Calls prog 65 #[.pointer (some ⟨p,4,none⟩),ae n] w fun e w'=>e=.returned (.tuple #[ae (N+g:Nat),.bool true])/\At w' p q N O y (g+n.toNat) ws/\cY p q w w':=by
 obtain⟨n,rfl⟩:=Int.eq_ofNat_of_zero_le h0;rw[Int.toNat_natCast];obtain⟨c0,c1,c2,b,c,d,f⟩:=h.cells;have k1:=h.hN';have m:=h.hg;have o:=h.hO;go_enter func65,ntmps65;go_wp2_with fail;refine(l8 N O g _ I I I I).mono ?_;rintro e w1 ⟨rfl,i⟩
 have j:=h.below i bJ
 obtain⟨c0,c1,c2,b,c,d,f⟩:=j.cells;go_wp2_with fail;refine(jN N O g _ I I I I).mono ?_;rintro e s ⟨rfl,k⟩
 have a:=j.below k bJ
 obtain⟨c0,c1,c2,b,c,d,f⟩:=a.cells;have t:=a.frozen 6;go_wp2_with fail;go_ret2;exact⟨V,a.qV (g+n) I,((cY.of i).trans (cY.of k)).trans (cY.l4 _ _)⟩
theorem wc {p q N O y g:Nat}{ws:List Int}(n:Int)(w:World)(h:At w p q N O y g ws)(h0:(O:Int)-g<n):
 Calls prog 65 #[.pointer (some ⟨p,4,none⟩),ae n] w fun e w'=>e=.returned (.tuple #[ae 0,.bool false])/\Below w.heap.size w w':=by
 obtain⟨c0,c1,c2,b,c,d,f⟩:=h.cells;have k1:=h.hN';have i:=h.hg;have j:=h.hO;go_enter func65,ntmps65;go_wp2_with fail;refine(l8 N O g _ I I I I).mono ?_;rintro e w1 ⟨rfl,a⟩
 go_wp2_with fail;go_ret2;exact⟨rfl,a⟩
theorem oV {p q N O y g:Nat}{ws:List Int}(w:World)(h:At w p q N O y g ws):
 Calls prog 80 #[af p] w fun e w'=>e=.returned (.tuple #[ae ((N:Int)-y),ae ((O:Int)-g)])/\Below w.heap.size w w':=by
 obtain⟨c0,c1,c2,d,f,i,j⟩:=h.cells;have k1:=h.hN';have k:=h.hg;have l:=h.hO;have m:=h.hy;go_enter func80,ntmps80;go_wp2_with fail
 go_region_with (go_at_call 136;refine(l8 _ _ _ _ I I I I).mono ?_;rintro e w1 ⟨rfl,a⟩;have c:At w1 p q N O y g ws:=(by first|exact h.drew.below a bJ|exact c.below a bJ);have b:Below w.heap.size w w1:=(by first|exact(Below.refl _ w).drew.trans a|exact b.trans (a.mono b.size));obtain⟨c0,c1,c2,d,f,i,j⟩:=c.cells)
 all_goals
  go_wp2_with fail;go_ret2;exact⟨rfl,b⟩
theorem q8:(prog.info? 2).map (fun i=>(i.zero,i.size,i.bytes))=some (some (ae 0),1,8):=ab
theorem q9 {w:World}{b k n:Nat}(h:w.ownsRow b 2 1 (.slice (ag k) n n) n (madeCells (Value.int .i64 0).cells (n*1)).toList):
 w.heap[k]?=some (.cells ((List.replicate n (0:Int)).map (Value.int .i64)).toArray 2 (0,0)):=by
 obtain⟨j,c⟩:=h;rcases c with⟨e,_⟩|⟨m,o,a,d,p,f,q,s,t,g⟩
 ·cases e
 ·cases d;rw[f];have:a.toList=(List.replicate n (0:Int)).map (Value.int .i64):=by rw[<-List.take_of_length_le (l:=a.toList) (i:=n*1) (by simp;omega),g];show(madeCells #[Value.int .i64 0] (n*1)).toList=_;rw[toList_madeCells_one];simp
  rw[<-this]
theorem oW {w:World}{k:Nat}(o:Obj)(h:w.heap.size=k):(w.alloc o).heap[k]?=some o:=by subst h;exact aw _ _
theorem wh {w w1:World}{a b:Value}{t:TypeId}(hg:(w.alloc (.cells #[a,b] t)).grownBy w1 none):
 w1.cell? (ah w.heap.size 0)=some a/\w1.cell? (ah w.heap.size 1)=some b/\w1.frozen? (ah w.heap.size 0)=false/\w1.frozen? (ah w.heap.size 1)=false/\w.heap.size<w1.heap.size:=by
 have c:=hg.block w.heap.size V V;have hz:=hg.size;have e:(w.alloc (.cells #[a,b] t)).heap[w.heap.size]?=some (.cells #[a,b] t):=aw _ _;rw[e] at c;refine⟨?_,?_,?_,?_,by simp at hz;omega⟩<;>simp[World.cell?,World.frozen?,c]
theorem wi (n o:Int)(w:World)(h0:16<=n)(k:n<=256)(c:0<=o)(l:o<=1024):
 Calls prog 60 #[ae n,ae o] w fun e w'=>∃p q,e=.returned (.tuple #[af p,.agg #[ae 0,ae 0]])/\At w' p q n.toNat o.toNat 0 0 (List.replicate (n.toNat+o.toNat) 0)/\w.heap.size<=p/\w.heap.size<=q/\Below w.heap.size w w':=by
 obtain⟨n,rfl⟩:=Int.eq_ofNat_of_zero_le (show 0<=n by omega)
 obtain⟨o,rfl⟩:=Int.eq_ofNat_of_zero_le c;simp only [Int.toNat_natCast];obtain⟨d,hi,f,g,i⟩:=info_parts q8;go_enter func60,ntmps60;go_wp2_with (at_make;refine wpList_make_full _ rfl _ _ 53 rfl w.heap.size 2 d (ae 0) 1 Tryz.underlying53 hi f g .i64 .i64 _ _ (n+o) rfl rfl I I (by rw[i];omega) (by unfold maxLen;omega) V ?_;intro w1 j b;obtain⟨c0,c1,m,s,hz⟩:=wh b)
 have a:=q9 j;simp only [World.size_alloc] at a;have t:=lt_of_some a;refine aW (v:=.tuple #[af w1.heap.size,.agg #[ae 0,ae 0]]) (by simp[results,results60,go_sem,c0,c1,hz]) rfl ⟨w1.heap.size,w.heap.size+1,rfl,⟨?_,?_,V,I,I,I,I,I⟩,I,I,?_⟩
 ·exact oW _ (by simp[World.setCell])
 ·refine(Below.heap_alloc _ _ _ (by simp[World.setCell];omega)).trans ?_;rw[Below.heap_setCell _ _ _ _ V,Below.heap_setCell _ _ _ _ V];exact a
 ·refine Below.alloc (Below.setCell (Below.setCell ?_ ?_ _) ?_ _) ?_ _
  ·exact(bK.alloc bJ _).grown b V (fun _ h=>by cases h)
  ·exact ak _
  ·exact ak _
  ·simp[World.setCell];omega
theorem wj (n o:Int)(w:World)(h:n<16\/256<n\/o<0\/1024<o):
 Calls prog 60 #[ae n,ae o] w fun e w'=>e=.returned (.tuple #[.pointer none,.agg #[ae 1,ae (-1)]])/\Below w.heap.size w w':=by
 by_cases a:n<16
 ·go_enter func60,ntmps60;go_wp2_with fail;exact aW (v:=.tuple #[.pointer none,.agg #[ae 1,ae (-1)]]) (by simp[results,results60,go_sem]) rfl ⟨rfl,bK.alloc bJ _⟩
 by_cases b:256<n
 ·go_enter func60,ntmps60;go_wp2_with fail;exact aW (v:=.tuple #[.pointer none,.agg #[ae 1,ae (-1)]]) (by simp[results,results60,go_sem]) rfl ⟨rfl,bK.alloc bJ _⟩
 by_cases c:o<0
 ·go_enter func60,ntmps60;go_wp2_with fail;exact aW (v:=.tuple #[.pointer none,.agg #[ae 1,ae (-1)]]) (by simp[results,results60,go_sem]) rfl ⟨rfl,bK.alloc bJ _⟩
 have d:1024<o:=I;go_enter func60,ntmps60;go_wp2_with fail;exact aW (v:=.tuple #[.pointer none,.agg #[ae 1,ae (-1)]]) (by simp[results,results60,go_sem]) rfl ⟨rfl,bK.alloc bJ _⟩
def eA (ws:List Int)(y:Nat)(hd:Int):Nat->List Int
 |0=>ws.set y hd
 |k+1=>(eA ws y hd k).set (y+1+k) 2
theorem a_ (n:Int):Go.IntKind.i64.wrap n = (n + 9223372036854775808) % 18446744073709551616 - 9223372036854775808:=IntKind.wrap_i64 ..
theorem wm {p q N O y g:Nat}{ws:List Int}(k f:Int)(w:World)(h:At w p q N O y g ws)(hk:hc k f=0)(u:f+1<=(N:Int)-y):
 Calls prog 24 #[af p,ae k,ae f] w fun e w'=>e=.returned (ae y)/\At w' p q N O (y+1+f.toNat) g (eA ws y (hw k f) f.toNat)/\cY p q w w':=by
 obtain⟨_,_,t,v⟩:=gK k f hk;obtain⟨f,rfl⟩:=Int.eq_ofNat_of_zero_le t;simp only [Int.toNat_natCast];have H:Hid (hc k f=0):=hk;clear hk;have k1:=h.hN';have x:=h.hy;have A:=h.hO;have B:=h.hg;go_enter func24,ntmps24;go_wp2_with fail;refine(l3 k f _).mono ?_;rintro e w1 ⟨rfl,rfl⟩
 rw[H.out];obtain⟨c0,c1,c2,c,d,l,m⟩:=h.cells;go_wp2_with fail;refine(v8 (1+f) _ h I I).mono ?_;rintro e C ⟨rfl,a,s2⟩
 rw[show(1+(f:Int)).toNat=1+f by omega] at a;obtain⟨c0,c1,c2,c,d,l,m⟩:=a.cells;have n:=a.word y I;have o:=a.oQ y;have b1:(y:Int)<((N+O:Nat):Int):=I;go_wp2_with fail
 go_loopw [39] (fun i wr=>∃j:Nat,j<=f/\i=ae j/\At wr p q N O (y+(1+f)) g (eA ws y (hw k f) j)/\cY p q w1 wr) (fun i _=>f-(intOf i).toNat)
 case atStart=>exact⟨0,aA _,rfl,a.set y _,s2.trans (cY.oP _ _)⟩
 case round=>
  obtain⟨j,D,rfl,b,s⟩:=hrel;clear c0 c1 c2 c d l m n o;obtain⟨c0,c1,c2,c,d,l,m⟩:=b.cells;by_cases E:j<f
  ·have n:=b.word (y+1+j) I;have o:=b.oQ (y+1+j)
   have b2:(y:Int)+1+j<((N+O:Nat):Int):=I;go_wp2_with fail;have b3:(0:Int)<=(y:Int)+1+j:=I;have b4:((y:Int)+1+j).toNat=y+1+j:=I;have b5:(y:Int)+1+j<(N:Int)+O:=I;have b6:IntKind.i64.wrap ((y:Int)+1)=(y:Int)+1:=by rw[a_];omega
   have F:IntKind.i64.wrap ((y:Int)+1+j)=(y:Int)+1+j:=by rw[a_];omega
   go_region_with (go_at_call 30;refine(oO _).mono ?_;rintro e w3 ⟨rfl,rfl⟩)
   all_goals
    go_wp2_with fail;go_roundw
    case rel=>exact⟨j+1,I,ac,b.drew.set _ _,s.drew.trans (cY.oP _ _)⟩
    case measure=>simp[intOf];omega
  ·go_wp2_with fail;go_ret;have e:j=f:=I;subst e;exact⟨rfl,by rw[Nat.add_assoc];exact b,s⟩
theorem wn {p q N O y g:Nat}{ws:List Int}(k f:Int)(w:World)(h:At w p q N O y g ws)(hk:hc k f≠0\/(N:Int)-y<f+1):
 Calls prog 24 #[af p,ae k,ae f] w fun e w'=>e=.returned (ae (-1))/\Below w.heap.size w w':=by
 by_cases c:hc k f=0
 ·obtain⟨_,_,b,d⟩:=gK k f c;have i:(N:Int)-y<f+1:=by
   rcases hk with e|e
   ·exact absurd c e
   ·exact e
  have H:Hid (hc k f=0):=c;clear c hk;have k1:=h.hN';have j:=h.hy;go_enter func24,ntmps24;go_wp2_with fail;refine(l3 k f _).mono ?_;rintro e w1 ⟨rfl,rfl⟩
  rw[H.out];obtain⟨c0,c1,c2,l,m,n,o⟩:=h.cells;go_wp2_with fail;refine(v9 (1+f) _ h I).mono ?_;rintro e s ⟨rfl,a⟩
  go_wp2_with fail;go_ret;exact⟨rfl,a⟩
 ·have t:(hc k f !=0)=true:=by simpa using c
  clear c hk;go_enter func24,ntmps24;go_wp2_with fail;refine(l3 k f _).mono ?_;rintro e w1 ⟨rfl,rfl⟩
  go_wp2_with fail;go_ret;exact⟨rfl,Below.refl _ _⟩
theorem wu {p q N O y g:Nat}{ws:List Int}(a n:Int)(w:World)(h:At w p q N O y g ws)(h0:0<=a)(b:0<=n)(c:a+n<=(N:Int)+O):
 Calls prog 174 #[af p,ae a,ae n] w fun e w'=>e=.returned (.bool true)/\w'=w:=by
 obtain⟨c0,c1,c2,d,f,i,j⟩:=h.cells;have k1:=h.hN';have k:=h.hO;have b1:n<=((N+O:Nat):Int)-a:=I;go_enter func174,ntmps174;go_wp2_with fail;go_ret;exact⟨by simp;omega,rfl⟩
def l9 (w w':World)(g:Nat)(b:List Value)(c:Nat)(a:List Value):Prop:=
 (a=[]/\w'=w)\/w'=w.setRow g (splice b c a).toArray
theorem oX {P:Program}{ops:Array Oper}{o:Oper}{a:Act}{w:World}{K:Act->World->Prop}{Q:Exit->Act->World->Prop}{E:Prop}(D:o.guard=none)(u s:Operand)(c sT d:TypeId)
 (x:o.op=.call {callee:=.builtin .copy,args:=#[u,s],argTypes:=#[c,sT]})(A:P.underlying c=some (.slice d))(B:(P.info? d).map (·.size)=some 1)
 (m sp:Option Addr)(e n f p:Nat)(hd:a.eval u=.slice m e n)(hs:a.eval s=.slice sp f p)
 (g i:Nat)(k:List Value)(t:TypeId)(hg:w.heap[g]?=some (.cells k.toArray t (0,0)))(b:List Value)(C:b.length=Nat.min f e)
 (F:0<b.length->m=some ⟨g,i,none⟩/\∃l,sp=some l/\∀j v,b[j]?=some v->w.cell? (l.add j)=some v)
 (G:i+b.length<=k.length)(H:∀v∈b,v.oneCell'=true)
 (h:∀w',l9 w w' g k i b->K (a.put o.dst (goInt b.length)) w'):
 if Region.wanted o (yielded ops a.tmps)=true then Oper.wp P o a w K Q else E:=by
 rw[aq (show Region.wanted o (yielded ops a.tmps)=true by simp[Region.wanted,D])];rcases Nat.eq_zero_or_pos b.length with h0|h0
 ·have J:b=[]:=List.eq_nil_of_length_eq_zero h0;subst J;have q:=run_copy_none (P:=P) w c sT o.type d m sp e n f p A B (by simpa using C.symm)
  unfold Oper.wp;simp[execOp,x,resolve,invoke,builtin,hd,hs,q,Result.andThen];exact h w (ap ⟨rfl,rfl⟩)
 ·obtain⟨L,l,M,N⟩:=F h0;subst L M;have q:=run_copy_row (P:=P) w c sT o.type d g i e n l f p k.toArray t b A B hg C N (by simpa using G) H;unfold Oper.wp;simp[execOp,x,resolve,invoke,builtin,hd,hs,q,Result.andThen];exact h _ (an (by simp[splice]))
theorem oY:(prog.info? 2).map (·.size)=some 1:=ab
theorem oZ (l:List Int):∀v∈l.map (Value.int .i64),v.oneCell'=true:=by intro v a;obtain⟨x,_,rfl⟩:=List.mem_map.1 a;rfl
theorem q_ (ws a:List Int)(t:Nat):splice (ws.map (Value.int .i64)) t (a.map (Value.int .i64))=(splice ws t a).map (Value.int .i64):=by simp[splice,List.map_take,List.map_drop]
theorem At.moved {w w':World}{p q N O y g:Nat}{ws a:List Int}{t:Nat}(h:At w p q N O y g ws)(hm:l9 w w' q (ws.map (Value.int .i64)) t (a.map (Value.int .i64)))(b:t+a.length<=N+O):
 At w' p q N O y g (splice ws t a)/\cY p q w w':=by
 rcases hm with⟨e,rfl⟩|rfl
 ·have c:a=[]:=by simpa using e
  subst c;have d:splice ws t []=ws:=by simp[splice]
  rw[d];exact⟨h,cY.refl _ _ _⟩
 ·rw[q_];exact⟨h.row (by rw[length_splice _ _ _ (by rw[h.hl];exact b)];exact h.hl),cY.vX _⟩
theorem aX {α:Type _}{β:Type _}{f:α -> β}{l:List α}{i:Nat}:(List.map f l)[i]? = Option.map f l[i]?:=List.getElem?_map ..
theorem At.src {w:World}{p q N O y g:Nat}{ws:List Int}(h:At w p q N O y g ws)(f n:Nat)(e:f+n<=N+O)(j:Nat)(v:Value)(b:(((ws.drop f).take n).map (Value.int .i64))[j]?=some v):
 w.cell? ((⟨q,f,none⟩:Addr).add j)=some v:=by
 have hl:=h.hl;rw[aX] at b;obtain⟨x,a,rfl⟩:=Option.map_eq_some_iff.1 b;have c:j<((ws.drop f).take n).length:=(List.getElem?_eq_some_iff.1 a).1;have d:j<n:=by simp at c;omega
 have:=h.word (f+j) I;rw[show((⟨q,f,none⟩:Addr).add j)=⟨q,f+j,none⟩ by simp[Addr.add],this];rw[List.getElem?_take_of_lt d,List.getElem?_drop] at a;simp[List.getD_eq_getElem?_getD,a]
theorem aE {α:Type _}{β:Type _}{«as»:List α}(f:α -> β):(List.map f «as»).length = «as».length:=List.length_map ..
theorem re {p q N O y g:Nat}{ws:List Int}(t f n:Nat)(w:World)(a:At w p q N O y g ws)(A:t+n<=N+O)(k:f+n<=N+O):
 Calls prog 129 #[af p,ae t,ae f,ae n] w fun e w'=>e=.returned (.tuple #[])/\At w' p q N O y g (splice ws t ((ws.drop f).take n))/\cY p q w w':=by
 obtain⟨c0,c1,c2,B,C,D,E⟩:=a.cells;have k1:=a.hN';have F:=a.hO;have hl:=a.hl;have b1:IntKind.i64.wrap ((t:Int)+n)=(t:Int)+n:=by rw[a_];omega
 have b2:IntKind.i64.wrap ((f:Int)+n)=(f:Int)+n:=by rw[a_];omega
 have b3:(t:Int)+n<=(N:Int)+O:=I;have b4:(f:Int)+n<=(N:Int)+O:=I;have b5:((t:Int)+n).toNat=t+n:=I;have b6:((f:Int)+n).toNat=f+n:=I;have G:(0:Int)<=(t:Int)+n:=I;have H:(0:Int)<=(f:Int)+n:=I;have b:((ws.drop f).take n).length=n:=by simp;omega
 have l:Hid ((((ws.drop f).take n).map (Value.int .i64)).length=Nat.min n n):=by show _=_;rw[aE,b];simp
 have m:Hid (0<(((ws.drop f).take n).map (Value.int .i64)).length->(if N+O=t then some (⟨q,0,none⟩:Addr) else some ⟨q,t,none⟩)=some ⟨q,t,none⟩/\∃c,(if N+O=f then some (⟨q,0,none⟩:Addr) else some ⟨q,f,none⟩)=some c/\∀j v,(((ws.drop f).take n).map (Value.int .i64))[j]?=some v->w.drew.cell? (c.add j)=some v):=by intro o;rw[aE,b] at o;rw[ao I,ao I];exact⟨rfl,_,rfl,fun j v s=>a.drew.src f n k j v s⟩
 have u:Hid (t+(((ws.drop f).take n).map (Value.int .i64)).length<=(ws.map (Value.int .i64)).length):=by show _<=_;rw[aE,aE,b];omega
 clear b hl;go_enter func129,ntmps129;go_wp2_with (go_at_call 174;refine(wu _ _ _ a ?_ ?_ ?_).mono ?_;omega;omega;omega;rintro e w1 ⟨rfl,hw⟩;have hw:=hw.symm;subst hw)
 go_region_law (refine oX rfl (.tmp 26) (.tmp 35) 53 53 2 rfl Tryz.underlying53 oY (if N+O=t then ag q else some ⟨q,t,none⟩) (if N+O=f then ag q else some ⟨q,f,none⟩) n (N+O-t) n (N+O-f) ?_ ?_ q t (ws.map (Value.int .i64)) 2 a.drew.hq (((ws.drop f).take n).map (Value.int .i64)) l.out m.out u.out (oZ _) ?_;(first|rfl|simp[Act.eval,Act.put]);(first|rfl|simp[Act.eval,Act.put]);intro J d;obtain⟨i,x⟩:=a.drew.moved d (by simp;omega);clear d)
 all_goals go_wp2_with fail
 all_goals
  go_end0;refine⟨rfl,?_,(cY.refl _ _ _).drew.trans x⟩
  first
   |exact i
   |(
    have e:t=f:=I;subst e;exact i)
theorem nc (x:Int)(h:pc x=0):0<=pf x/\pf x<=12:=by have:=gK _ _ (vL x h).1;omega
theorem ww:pc 0=7:=by decide+kernel
theorem rf {N y g:Nat}{ws:List Int}{a:Int}(h:pc (ld N y g ws a)=0):cO N y g a=true:=by
 cases hi:cO N y g a
 ·have e:ld N y g ws a=0:=by simp[ld,hi]
  rw[e,ww] at h;omega
 ·rfl
def e2 (N y g:Nat)(a:Int):Int:=if hB 0 y a=true then(y:Int) else(N:Int)+g
theorem cells3 {w w1:World}{a b c:Value}{t:TypeId}(e:Below (w.alloc (.cells #[a,b,c] t)).heap.size (w.alloc (.cells #[a,b,c] t)) w1):
 w1.cell? (ah w.heap.size 0)=some a/\w1.cell? (ah w.heap.size 1)=some b/\w1.cell? (ah w.heap.size 2)=some c/\w1.frozen? (ah w.heap.size 0)=false/\w1.frozen? (ah w.heap.size 1)=false/\w1.frozen? (ah w.heap.size 2)=false/\w.heap.size<w1.heap.size:=by
 obtain⟨hc,d⟩:=jL e;have hz:=e.size;refine⟨?_,?_,?_,?_,?_,?_,by simp at hz;omega⟩
 ·rw[hc _ _ V];simp[go_sem]
 ·rw[hc _ _ V];simp[go_sem]
 ·rw[hc _ _ V];simp[go_sem]
 ·rw[d _ _ V];simp[go_sem]
 ·rw[d _ _ V];simp[go_sem]
 ·rw[d _ _ V];simp[go_sem]
theorem wx {p q N O y g:Nat}{ws:List Int}(a:Int)(w:World)(h:At w p q N O y g ws)(hy:hB 0 y a=true):
 Calls prog 175 #[af p,ae a] w fun e w'=>e=.returned (.agg #[ae 0,ae N,ae y])/\Below w.heap.size w w':=by
 have c:Hid (hB 0 y a=true):=hy;clear hy;go_enter func175,ntmps175;go_wp2_with fail;refine(ks a _ (h.alloc _)).mono ?_;rintro e w1 ⟨rfl,b⟩
 rw[c.out];obtain⟨d,f,i,k,l,m,hz⟩:=cells3 b;have j:=(h.alloc _).below b bJ
 obtain⟨c0,c1,c2,n,o,s,t⟩:=j.cells;go_wp2_with fail;exact aW (v:=.agg #[ae 0,ae N,ae y]) (by simp[results,results175,go_sem,d,f,i]) rfl ⟨rfl,((((bK.alloc bJ _).trans (b.mono V)).setCell bJ _).setCell bJ _).setCell bJ _⟩
theorem wy {p q N O y g:Nat}{ws:List Int}(a:Int)(w:World)(h:At w p q N O y g ws)(hy:hB 0 y a=false):
 Calls prog 175 #[af p,ae a] w fun e w'=>e=.returned (.agg #[ae N,ae O,ae g])/\Below w.heap.size w w':=by
 have c:Hid (hB 0 y a=false):=hy;clear hy;go_enter func175,ntmps175;go_wp2_with fail;refine(ks a _ (h.alloc _)).mono ?_;rintro e w1 ⟨rfl,b⟩
 rw[c.out];obtain⟨d,f,i,k,l,m,hz⟩:=cells3 b;have j:=(h.alloc _).below b bJ
 obtain⟨c0,c1,c2,n,o,s,t⟩:=j.cells;go_wp2_with fail;exact aW (v:=.agg #[ae N,ae O,ae g]) (by simp[results,results175,go_sem,d,f,i]) rfl ⟨rfl,((((bK.alloc bJ _).trans (b.mono V)).setCell bJ _).setCell bJ _).setCell bJ _⟩
theorem o0 {p q N O y g:Nat}{ws:List Int}(a:Int)(w:World)(h:At w p q N O y g ws):∃b s u:Int,0<=b/\b<=100000/\0<=u/\u<=100000/\b+u=e2 N y g a/\
 Calls prog 175 #[af p,ae a] w fun e w'=>e=.returned (.agg #[ae b,ae s,ae u])/\Below w.heap.size w w':=by
 have k1:=h.hN';have c:=h.hy;have d:=h.hO;have f:=h.hg;cases hy:hB 0 y a
 ·exact⟨N,O,g,I,I,I,I,by simp[e2,hy],wy a w h hy⟩
 ·exact⟨0,N,y,I,I,I,I,by simp[e2,hy],wx a w h hy⟩
theorem rh {N O y g:Nat}{a:Int}(hN:N<=256)(hO:O<=1024)(hy:y<=N)(hg:g<=O):0<=e2 N y g a/\e2 N y g a<=1280:=by unfold e2;split<;>omega
theorem wz {p q N O y g:Nat}{ws:List Int}(a:Int)(w:World)(h:At w p q N O y g ws)(hp:pc (ld N y g ws a)=0)(t:1+pf (ld N y g ws a)<=e2 N y g a-a)(hg:1+pf (ld N y g ws a)<=(O:Int)-g):
 Calls prog 132 #[af p,ae a] w fun e w'=>e=.returned (ae (N+g:Nat))/\At w' p q N O y (g+(1+(pf (ld N y g ws a)).toNat)) (splice ws (N+g) ((ws.drop a.toNat).take (1+(pf (ld N y g ws a)).toNat)))/\cY p q w w':=by
 obtain⟨d,v⟩:=nc _ hp;have hi:=rf hp;obtain⟨x,P⟩:=gV hi h.hy h.hg;clear hi;have k1:=h.hN';have A:=h.hy;have B:=h.hO;have C:=h.hg;have k5:=@rh N O y g a k1 B A C;have k6:e2 N y g a<=(N:Int)+O:=by unfold e2;split<;>omega
 have D:Hid (pc (ld N y g ws a)=0):=hp;clear hp;obtain⟨a,rfl⟩:=Int.eq_ofNat_of_zero_le x;rw[Int.toNat_natCast];obtain⟨n,c⟩:=Int.eq_ofNat_of_zero_le d;have E:Hid (pf (ld N y g ws a)=n):=c;rw[c] at t hg v d⊢;clear c;rw[Int.toNat_natCast];go_enter func132,ntmps132;go_wp2_with fail;refine(e9 a _ h).mono ?_;rintro e w1 ⟨rfl,f⟩
 rw[D.out,E.out];have i:=h.below f bJ
 go_wp2_with fail;obtain⟨b,s,u,F,G,H,J,j,hc⟩:=o0 a w1 i;refine hc.mono ?_;rintro e Q ⟨rfl,k⟩
 clear hc;have K:=i.below k bJ
 go_wp2_with fail;refine(jN b s u _ F G H J).mono ?_;rintro e w3 ⟨rfl,l⟩
 have L:Hid (b+u=e2 N y g a):=j;clear j;rw[L.out];have m:=K.below l bJ
 obtain⟨c0,c1,c2,R,S,U,W⟩:=m.cells;go_wp2_with fail;refine(v_ (1+n) _ m I I).mono ?_;rintro e X ⟨rfl,o,s4⟩
 rw[show(1+(n:Int)).toNat=1+n by omega] at o;go_wp2_with fail;rw[show(1+(n:Int))=((1+n:Nat):Int) by omega];refine(re (N+g) a (1+n) _ o I I).mono ?_;rintro e Y ⟨rfl,M,s5⟩
 go_wp2_with fail;go_ret;exact⟨rfl,M,(((cY.of f).trans (cY.of k)).trans (cY.of l)).trans (s4.trans s5)⟩
theorem wA {p q N O y g:Nat}{ws:List Int}(a:Int)(w:World)(h:At w p q N O y g ws)(k:pc (ld N y g ws a)≠0\/e2 N y g a-a<1+pf (ld N y g ws a)\/(O:Int)-g<1+pf (ld N y g ws a)):
 Calls prog 132 #[af p,ae a] w fun e w'=>e=.returned (ae (-1))/\Below w.heap.size w w':=by
 by_cases hp:pc (ld N y g ws a)=0
 ·obtain⟨J,K⟩:=nc _ hp;have hi:=rf hp;obtain⟨L,M⟩:=gV hi h.hy h.hg;clear hi;have k1:=h.hN';have C:=h.hy;have D:=h.hO;have E:=h.hg;have k5:=@rh N O y g a k1 D C E;have x:e2 N y g a-a<1+pf (ld N y g ws a)\/(O:Int)-g<1+pf (ld N y g ws a):=by
   rcases k with e|e
   ·exact absurd hp e
   ·exact e
  have A:Hid (pc (ld N y g ws a)=0):=hp;clear hp k;by_cases P:e2 N y g a-a<1+pf (ld N y g ws a)
  ·clear x;go_enter func132,ntmps132;go_wp2_with fail;refine(e9 a _ h).mono ?_;rintro e w1 ⟨rfl,c⟩
   rw[A.out];have j:=h.below c bJ
   go_wp2_with fail;obtain⟨b,s,u,l,m,n,o,f,hc⟩:=o0 a w1 j;refine hc.mono ?_;rintro e F ⟨rfl,d⟩
   clear hc;go_wp2_with fail;refine(jN b s u _ l m n o).mono ?_;rintro e w3 ⟨rfl,i⟩
   have v:Hid (b+u=e2 N y g a):=f;clear f;rw[v.out];go_wp2_with fail;go_ret;exact⟨rfl,(c.trans (d.mono c.size)).trans (i.mono (az c.size d.size))⟩
  ·have hg:(O:Int)-g<1+pf (ld N y g ws a):=I;clear x;go_enter func132,ntmps132;go_wp2_with fail;refine(e9 a _ h).mono ?_;rintro e w1 ⟨rfl,c⟩
   rw[A.out];have j:=h.below c bJ
   go_wp2_with fail;obtain⟨b,s,u,l,m,n,o,f,hc⟩:=o0 a w1 j;refine hc.mono ?_;rintro e F ⟨rfl,d⟩
   clear hc;have G:=j.below d bJ
   go_wp2_with fail;refine(jN b s u _ l m n o).mono ?_;rintro e w3 ⟨rfl,i⟩
   have v:Hid (b+u=e2 N y g a):=f;clear f;rw[v.out];have B:=G.below i bJ
   obtain⟨c0,c1,c2,Q,R,S,U⟩:=B.cells;go_wp2_with fail;refine(wc _ _ B I).mono ?_;rintro e W ⟨rfl,H⟩
   go_wp2_with fail;go_ret;exact⟨rfl,((c.trans (d.mono c.size)).trans (i.mono (az c.size d.size))).trans (H.mono (az c.size (az d.size i.size)))⟩
 ·have t:(pc (ld N y g ws a)!=0)=true:=by simpa using hp
  clear hp k;go_enter func132,ntmps132;go_wp2_with fail;refine(e9 a _ h).mono ?_;rintro e w1 ⟨rfl,c⟩
  go_wp2_with fail;go_ret;exact⟨rfl,c⟩
structure dC (B c:Nat)(w w':World):Prop where
 os:w'.os=w.os
 tape:w'.tape=w.tape
 output:w'.output=w.output
 size:w.heap.size<=w'.heap.size
 block:∀k,k<B->k≠c->w'.heap[k]?=w.heap[k]?
theorem dC.refl (B c:Nat)(w:World):dC B c w w:=⟨rfl,rfl,rfl,ak _,fun _ _ _=>rfl⟩
theorem dC.trans {B c:Nat}{a b d:World}(h:dC B c a b)(k:dC B c b d):dC B c a d:=
 ⟨k.os.trans h.os,k.tape.trans h.tape,k.output.trans h.output,az h.size k.size,fun i hi e=>(k.block i hi e).trans (h.block i hi e)⟩
theorem dC.of {B D c:Nat}{w w':World}(h:Below D w w')(hD:B<=D):dC B c w w':=⟨h.os,h.tape,h.output,h.size,fun k hk _=>h.block k I⟩
theorem dC.below {B D c:Nat}{w w':World}(h:dC B c w w')(hD:D<=B)(hc:D<=c):Below D w w':=⟨h.os,h.tape,h.output,h.size,fun k hk=>h.block k I I⟩
theorem i0 {w w':World}{base n:Nat}{e:TypeId}{v:Value}{l:List Value}(h:w.ownsRow base e 1 v n l)(d:Below w.heap.size w w'):w'.ownsRow base e 1 v n l:=by
 obtain⟨f,a⟩:=h;refine⟨f,?_⟩
 rcases a with a|⟨b,g,i,j,k,c,r⟩
 ·exact ap a
 ·exact an ⟨b,g,i,j,k,(d.block b (lt_of_some c)).trans c,r⟩
theorem jR {w:World}{base base' n:Nat}{e:TypeId}{v:Value}{l:List Value}(h:w.ownsRow base e 1 v n l)(i:base'<=base):w.ownsRow base' e 1 v n l:=by
 obtain⟨c,a⟩:=h;refine⟨c,?_⟩
 rcases a with a|⟨b,d,f,g,j,r⟩
 ·exact ap a
 ·exact an ⟨b,d,f,g,I,r⟩
theorem rj {w w':World}{base B c n:Nat}{e:TypeId}{v:Value}{l:List Value}(h:w.ownsRow base e 1 v n l)(hs:dC B c w w')(hB:w.heap.size<=B)(hc:c<base):w'.ownsRow base e 1 v n l:=by
 obtain⟨f,a⟩:=h;refine⟨f,?_⟩
 rcases a with a|⟨b,g,i,j,k,d,r⟩
 ·exact ap a
 ·exact an ⟨b,g,i,j,k,(hs.block b (by have:=lt_of_some d;omega) I).trans d,r⟩
theorem iE:(prog.info? 3).map (fun i=>(i.zero,i.size,i.bytes))=some (some (ae 0),1,8):=ab
theorem rk {w:World}{base n c:Nat}{e:TypeId}{v:Value}{l:List Value}(h:w.ownsRow base e 1 v n l)(hc:c<base):some c≠v.ownBlock:=by
 obtain⟨_,a⟩:=h;rcases a with⟨rfl,_⟩|⟨b,d,f,rfl,g,_⟩
 ·simp[Value.ownBlock]
 ·simp[Value.ownBlock];omega
theorem rn {w:World}{base n:Nat}{e:TypeId}{v:Value}{l:List Value}(h:w.ownsRow base e 1 v n l):∀k,v.ownBlock=some k->base<=k:=by
 obtain⟨_,a⟩:=h;intro k hk;rcases a with⟨rfl,_⟩|⟨b,c,d,rfl,f,_⟩
 ·simp[Value.ownBlock] at hk
 ·simp[Value.ownBlock] at hk;omega
theorem ru {w:World}{base n:Nat}{e:TypeId}{v:Value}{l:List Value}(h:w.ownsRow base e 1 v n l)(f:0<n):∃b a,v=.slice (ag b) n a:=by
 obtain⟨_,c⟩:=h;rcases c with⟨_,c⟩|⟨b,a,g,d,_⟩
 ·omega
 ·exact⟨b,a,d⟩
def du (N y g:Nat)(ws:List Int)(hi:Int):Nat->Int->List Int
 |0,_=>[]
 |k+1,a=>if a<hi then(if pc (ld N y g ws a)=0 then a::du N y g ws hi k (a+(1+pf (ld N y g ws a))) else[]) else[]
theorem o2 {N y g:Nat}{ws:List Int}{hi a:Int}(k:Nat)(h:hi<=a):du N y g ws hi k a=[]:=by
 cases k with
 |zero=>rfl
 |succ k=>unfold du;rw[ao I]
theorem rx {N y g:Nat}{ws:List Int}{hi a:Int}(k:Nat)(h:pc (ld N y g ws a)≠0):du N y g ws hi k a=[]:=by
 cases k with
 |zero=>rfl
 |succ k=>unfold du;rw[ao h];split<;>rfl
theorem rz {N y g:Nat}{ws:List Int}{hi a:Int}(k:Nat)(hk:hi-a<=k)(h:a<hi)(c:pc (ld N y g ws a)=0):
 ∃b,k=b+1/\du N y g ws hi k a=a::du N y g ws hi b (a+(1+pf (ld N y g ws a))):=by
 cases k with
 |zero=>simp at hk;omega
 |succ k=>exact⟨k,rfl,by rw[du,aq h,aq c]⟩
theorem wB (a:Int)(c base:Nat)(v:Value)(L:List Int)(w:World)(hc:w.heap[c]?=some (.cells #[v] 96 (0,0)))(i:c<base)(hB:base<=w.heap.size)
 (f:w.ownsRow base 3 1 v L.length (L.map (Value.int .i64)))(D:L.length<=100000):
 Calls prog 163 #[ae a,af c] w fun e w'=>e=.returned (.tuple #[])/\∃g,w'.heap[c]?=some (.cells #[g] 96 (0,0))/\w'.ownsRow base 3 1 g (L++[a]).length ((L++[a]).map (Value.int .i64))/\dC base c w w':=by
 obtain⟨o,hi,p,q,s⟩:=info_parts iE;have cc:w.cell? (ah c 0)=some v:=by simp[World.cell?,hc]
 have t:Hid (w.heap[c]?=some (.cells #[v] 96 (0,0))):=hc;clear hc;have x:c<w.heap.size:=I;go_enter func163,ntmps163;go_wp2_with (at_builtin;refine wpList_append_own _ rfl _ _ 96 rfl base 3 o (ae 0) 1 8 Tryz.underlying96 hi p q s rfl Z _ L.length (L.map (Value.int .i64)) rfl (f.alloc _) ⟨w.heap.size,0,none⟩ 1 1 [ae a] rfl rfl ?_ ?_ ?_ ?_ ?_ ?_;(intro j u d;match j,d with|0,d=>(simp at d;subst d;simp[Addr.add]));(intro u l;simp at l;subst l;rfl);(unfold maxLen;omega);omega;(simp;omega);intro g w1 m n _;obtain⟨b1,fD,A⟩:=ru m (Nat.succ_pos _);subst A;have b:w1.heap[c]?=some (.cells #[v] 96 (0,0)):=(n.block c (by simp;omega) (rk f i)).trans ((Below.heap_alloc _ _ _ x).trans t.out);have E:w1.cell? (ah c 0)=some v:=(by simp[World.cell?,b]);have F:w1.frozen? (ah c 0)=false:=(by simp[World.frozen?,b]);have B:Hid (w1.heap[c]?=some (.cells #[v] 96 (0,0))):=b;clear b)
 go_end0;refine⟨rfl,.slice (ag b1) (L.length+1) fD,?_,?_,?_⟩
 ·have b:=B.out;simp only [World.setCell,Array.getElem?_modify,if_true,b,Option.map_some];simp
 ·have:=ownsRow_setCell_below m (a:=⟨c,0,none⟩) i (.slice (ag b1) (L.length+1) fD)
  simpa using this
 ·refine(dC.of ((Below.refl base w).alloc hB _) bJ).trans (dC.trans (dC.of ((Below.refl base _).grown n (by simp;omega) (rn f)) bJ) ?_)
  exact⟨rfl,rfl,rfl,by simp[World.setCell],fun k _ C=>Below.heap_setCell _ _ _ _ C⟩
theorem rA {p q N O y g:Nat}{ws:List Int}(b s u:Int)(c:Nat)(w:World)(h:At w p q N O y g ws)(hc:w.heap[c]?=some (.cells #[.slice none 0 0] 96 (0,0)))(K:p≠c)(M:q≠c)
 (b0:0<=b)(b1:b<=2000)(u0:0<=u)(aB:u<=2000):
 Calls prog 162 #[af p,.agg #[ae b,ae s,ae u],.func (.func 163) #[] #[af c]] w fun e w'=>e=.returned (.tuple #[])/\∃v,w'.heap[c]?=some (.cells #[v] 96 (0,0))/\w'.ownsRow w.heap.size 3 1 v (du N y g ws (b+u) 2000 b).length ((du N y g ws (b+u) 2000 b).map (Value.int .i64))/\dC w.heap.size c w w':=by
 have lp:=h.ee;have P:=lt_of_some hc;have Q:Hid (w.heap[c]?=some (.cells #[.slice none 0 0] 96 (0,0))):=hc;clear hc;go_enter func162,ntmps162;go_wp2_with fail
 go_loopw [6] (fun i wr=>∃(a:Int)(L:List Int)(k:Nat)(v:Value),i=ae a/\b<=a/\a<=100000/\b+u-a<=k/\(L.length:Int)+b<=a/\L++du N y g ws (b+u) k a=du N y g ws (b+u) 2000 b/\wr.heap[c]?=some (.cells #[v] 96 (0,0))/\wr.ownsRow (w.heap.size+1) 3 1 v L.length (L.map (Value.int .i64))/\dC (w.heap.size+1) c (w.alloc (.cells #[.int .i64 b,.int .i64 s,.int .i64 u] 101)) wr) (fun i _=>(b+u-intOf i).toNat)
 case atStart=>exact⟨b,[],2000,_,rfl,I,I,I,V,rfl,(Below.heap_alloc _ _ _ P).trans Q.out,aO _ _ _ _,dC.refl _ _ _⟩
 case round=>
  obtain⟨a,L,k,v,rfl,a1,a2,R,aF,F,hc,A,d⟩:=hrel;have m:=d.block w.heap.size I I;rw[aw] at m;have S:wr.cell? (ah w.heap.size 0)=some (ae b):=by simp[World.cell?,m]
  have U:wr.cell? (ah w.heap.size 1)=some (ae s):=by simp[World.cell?,m]
  have W:wr.cell? (ah w.heap.size 2)=some (ae u):=by simp[World.cell?,m]
  have X:At wr p q N O y g ws:=(h.alloc _).same (d.block p I K) (d.block q (by have:=h.ef;omega) M)
  have f:=d.size;simp only [World.size_alloc] at f;have B:Hid (L++du N y g ws (b+u) k a=du N y g ws (b+u) 2000 b):=F;have n:Hid (wr.heap[c]?=some (.cells #[v] 96 (0,0))):=hc;have aR:Hid (wr.heap[w.heap.size]?=some (.cells #[ae b,ae s,ae u] 101)):=m;clear F hc m;go_wp2_with fail;refine(jN b s u _ b0 I u0 I).mono ?_;rintro e w1 ⟨rfl,l⟩
  clear S U W;by_cases Y:a<b+u
  ·go_wp2_with fail;refine(e9 a _ (X.below l bJ)).mono ?_;rintro e G ⟨rfl,ad⟩
   have j:Below wr.heap.size wr G:=l.trans (ad.mono l.size)
   by_cases hp:pc (ld N y g ws a)=0
   ·obtain⟨aT,aV⟩:=nc _ hp;obtain⟨C,rfl,o⟩:=rz (N:=N) (y:=y) (g:=g) (ws:=ws) k R Y hp;have ai:Hid (pc (ld N y g ws a)=0):=hp;have D:Hid (du N y g ws (b+u) (C+1) a=a::du N y g ws (b+u) C (a+(1+pf (ld N y g ws a)))):=o;clear hp o;rw[ai.out];go_wp2_with fail;refine(wB a c (w.heap.size+1) v L G ((j.block c (lt_of_some n.out)).trans n.out) I (by have:=j.size;omega) (i0 A j) I).mono ?_;rintro e w3 ⟨rfl,H,J,al,ar⟩
    have ax:Hid (w3.heap[c]?=some (.cells #[H] 96 (0,0))):=J;clear J;go_wp2_with fail;go_roundw
    case rel=>exact⟨a+(1+pf (ld N y g ws a)),L++[a],C,H,rfl,I,I,I,by simp;omega,by rw[<-B.out,D.out];simp,ax.out,al,(d.trans (dC.of j f)).trans ar⟩
    case measure=>simp[intOf];omega
   ·have t:(pc (ld N y g ws a)!=0)=true:=by simpa using hp
    have o:=rx (N:=N) (y:=y) (g:=g) (ws:=ws) (hi:=b+u) k hp;have D:Hid (du N y g ws (b+u) k a=[]):=o;clear hp o;go_wp2_with fail;refine aW (results_none rfl _ _ _) rfl ?_;have x:=B.out;rw[D.out,List.append_nil] at x;rw[<-x];exact⟨rfl,v,(j.block c (lt_of_some n.out)).trans n.out,jR (i0 A j) I,⟨(d.trans (dC.of j f)).os,(d.trans (dC.of j f)).tape,(d.trans (dC.of j f)).output,by have:=(d.trans (dC.of j f)).size;simp at this;omega,fun k hk E=>((d.trans (dC.of j f)).block k I E).trans (Below.heap_alloc _ _ _ hk)⟩⟩
  ·go_wp2_with fail;refine bodyPost_end (results_none rfl _ _ _) rfl ?_;have x:=B.out;rw[o2 k I,List.append_nil] at x;rw[<-x];exact⟨rfl,v,(l.block c (lt_of_some n.out)).trans n.out,jR (i0 A l) I,⟨(d.trans (dC.of l f)).os,(d.trans (dC.of l f)).tape,(d.trans (dC.of l f)).output,by have:=(d.trans (dC.of l f)).size;simp at this;omega,fun k hk E=>((d.trans (dC.of l f)).block k I E).trans (Below.heap_alloc _ _ _ hk)⟩⟩
end Go.Proofs.YtjpjpjemibgjpaaGreat
