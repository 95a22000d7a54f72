import Derived.Test.YtpkjkjhanlbcoaaGreatJ20
namespace Go.Proofs.YtpkjkjhanlbcoaaGreat
set_option maxRecDepth 100000
set_option maxHeartbeats 4000000
open Tryz
open Go.RowKit W Kp cf
theorem AL {P:Prop}(h:P:=by rw[World.cell?_setCell_far _ _ _ _ (fun e=>hn e.symm),World.cell?_setCell_far _ _ _ _ (fun e=>hn e.symm)];exact h):P:=h
theorem Jb {P:Program}(w:ax)(c g ty b:TypeId)(d a:Option Addr)(e j f k:Nat)(l:P.underlying c=some (.slice b))(hs:(P.info? b).map (·.size)=some 2)(hn:Nat.min f e=0):
 (Builtin.copy_ #[c,g] ty #[.slice d e j,.slice a f k]).run P w=.ok (goInt 0) w:=by
 cases hq:P.info? b with
 |none=>simp[hq] at hs
 |some i=>
  have hl:∀(x:Addr),(loadCells x 0).run P w=.ok #[] w:=fun x=>by simpa using run_loadCells_list (P:=P) w x [] Z
  cases d<;>cases a<;>simp[Builtin.copy_,run_underlying l,Builtin.lenOf,Builtin.firstCells,sizeOf,typeInfo,hq,hn,storeCells,hl]
theorem Jd {P:Program}(w:ax)(e l ty d:TypeId)(g o f m:Nat)(a:Addr)(k p:Nat)(c:Array Value)(t:TypeId)(b:List Value)(n:Nat)
 (q:P.underlying e=some (.slice d))(hs:(P.info? d).map (·.size)=some 2)
 (hg:w.heap[g]?=some (.cells c t (0,0)))(hm:n=Nat.min k f)(hn:b.length=n*2)
 (s:∀j v,b[j]?=some v->w.cell? (a.add j)=some v)(u:o+b.length<=c.size)(x:∀v∈b,v.oneCell'=true):
 (Builtin.copy_ #[e,l] ty #[.slice (some ⟨g,o,none⟩) f m,.slice (some a) k p]).run P w=
   .ok (goInt n) (w.setRow g (c.toList.take o++b++c.toList.drop (o+b.length)).toArray):=by
 have hl:=run_loadCells_list (P:=P) w a b s;have A:=run_storeCells_at P g o t b 0 c w hg (by simpa using u) x;rw[hn] at hl;cases hq:P.info? d with
 |none=>simp[hq] at hs
 |some i=>
  have hi:i.size=2:=by simpa[hq] using hs
  simp[Builtin.copy_,run_underlying q,Builtin.lenOf,Builtin.firstCells,sizeOf,typeInfo,hq,hi,<-hm,hl,A]
theorem AM {P:Program}{ops:Array Oper}{o:Oper}{a:Act}{w:ax}{K:Act->ax->Prop}{Q:Exit->Act->ax->Prop}{E:Prop}(C:o.guard=none)(x s:Operand)(c l d:TypeId)
 (ho:o.op=.call {callee:=.builtin .copy,args:=#[x,s],argTypes:=#[c,l]})(A:P.underlying c=some (.slice d))(B:(P.info? d).map (·.size)=some 2)
 (m sp:Option Addr)(e p f q:Nat)(hd:a.eval x=.slice m e p)(hs:a.eval s=.slice sp f q)
 (g i:Nat)(k:List Value)(t:TypeId)(hg:w.heap[g]?=some (.cells k.toArray t (0,0)))(b:List Value)(n:Nat)(hm:n=Nat.min f e)(hn:b.length=n*2)
 (D:0<n->m=some ⟨g,i,none⟩/\∃ad,sp=some ad/\∀j v,b[j]?=some v->w.cell? (ad.add j)=some v)
 (F:i+b.length<=k.length)(G:∀v∈b,v.oneCell'=true)
 (h:∀w',k8 w w' g k i b->K (a.put o.dst (goInt n)) w'):
 if Region.wanted o (yielded ops a.tmps)=true then Oper.wp P o a w K Q else E:=by
 rw[aI (show Region.wanted o (yielded ops a.tmps)=true by simp[Region.wanted,C])];rcases Nat.eq_zero_or_pos n with h0|h0
 ·subst h0;have H:b=[]:=List.eq_nil_of_length_eq_zero V;subst H;have u:=Jb (P:=P) w c l o.type d m sp e p f q A B hm.symm;unfold Oper.wp;simp[execOp,ho,resolve,invoke,builtin,hd,hs,u,Result.andThen];exact h w (aK ⟨rfl,rfl⟩)
 ·obtain⟨I,ad,J,L⟩:=D h0;subst I J;have u:=Jd (P:=P) w c l o.type d g i e p ad f q k.toArray t b n A B hg hm hn L (by simpa using F) G;unfold Oper.wp;simp[execOp,ho,resolve,invoke,builtin,hd,hs,u,Result.andThen];exact h _ (aJ (by simp[splice]))
theorem Je {P:Program}{ops:Array Oper}{q:List Oper}{o:Oper}{a:Act}{w:ax}{Q:Exit->Act->ax->Prop}(e:o.guard=none)(f s:Operand)(i u k:TypeId)
 (ho:o.op=.call {callee:=.builtin .copy,args:=#[f,s],argTypes:=#[i,u]})(B:P.underlying i=some (.slice k))(C:(P.info? k).map (·.size)=some 2)
 (l sp:Option Addr)(m x p A:Nat)(hd:a.eval f=.slice l m x)(hs:a.eval s=.slice sp p A)
 (g c:Nat)(d:List Value)(t:TypeId)(hg:w.heap[g]?=some (.cells d.toArray t (0,0)))(b:List Value)(n:Nat)(hm:n=Nat.min p m)(hn:b.length=n*2)
 (D:0<n->l=some ⟨g,c,none⟩/\∃ad,sp=some ad/\∀j v,b[j]?=some v->w.cell? (ad.add j)=some v)
 (F:c+b.length<=d.length)(G:∀v∈b,v.oneCell'=true)
 (h:∀w',k8 w w' g d c b->wpList P ops Q q (a.put o.dst (goInt n)) w'):wpList P ops Q (o::q) a w:=
 wpList_plain e fun K H=>by
  have:=AM (P:=P) (ops:=#[]) (o:=o) (a:=a) (w:=w) (K:=K) (Q:=Q) (E:=False) e f s i u k ho B C l sp m x p A hd hs g c d t hg b n hm hn D F G (fun w' hw=>H _ _ (h w' hw))
  rwa [aI (show Region.wanted o (yielded #[] a.tmps)=true by simp[Region.wanted,e])] at this
theorem Jf (c:Nat)(hc:c<=12)(w:ax):Calls prog 223 #[.int .u64 1,.int .u64 c] w fun e w'=>e=.returned (.tuple #[.int .u64 0,.int .u64 c])/\w'=w:=by exact zQ
theorem Jg (c:Nat)(hc:c<=12)(w:ax):Calls prog 167 #[.int .u64 1,.int .u64 c] w fun e w'=>e=.returned (.tuple #[.int .u64 0,.int .u64 c])/\w'=w:=by have P:=Jf c hc w;exact zR
def gx (c:Nat)(v:Int×Int)(n:Nat):List (Int×Int):=List.replicate n v++List.replicate (c-n) (0,0)
theorem AN (c:Nat)(v:Int×Int)(n:Nat)(h:n<=c):(gx c v n).length=c:=by simp[gx];omega
theorem kT (n:Nat)(v:Int×Int):(ev (List.replicate n v)).length=n*2:=by rw[kC,List.length_replicate]
theorem Jh (c:Nat)(v:Int×Int)(n m:Nat)(h:n+m<=c):splice (ev (gx c v n)) (n*2) (ev (List.replicate m v))=ev (gx c v (n+m)):=by
 unfold splice gx;have b:(List.replicate (c-n) ((0:Int),(0:Int)))=List.replicate m (0,0)++List.replicate (c-(n+m)) (0,0):=by
  rw[List.replicate_append_replicate]
  congr 1
  omega
 have d:List.drop (n*2+m*2) (ev (List.replicate n v)++(ev (List.replicate m ((0:Int),(0:Int)))++ev (List.replicate (c-(n+m)) (0,0))))=ev (List.replicate (c-(n+m)) (0,0)):=by rw[<-ba];exact List.drop_left' (by rw[aZ,kT,kT])
 rw[iT,List.take_left' (kT n v),kT,b,iT,d,<-List.replicate_append_replicate,iT,iT,ba]
theorem Ji (c:Nat)(v:Int×Int)(n m:Nat)(hm:m<=n):∃r,ev (gx c v n)=ev (List.replicate m v)++r:=by
 refine⟨ev (List.replicate (n-m) v)++ev (List.replicate (c-n) (0,0)),?_⟩
 unfold gx;rw[<-ba,<-iT,List.replicate_append_replicate,<-iT]
 congr 3
 omega
theorem Jj {c:Nat}{w:ax}{nb n:Nat}{v:Int×Int}(hr:w.heap[nb]?=some (.cells (ev (gx c v n)).toArray 97 (0,0)))(m:Nat)(hm:m<=n):∀j b,(ev (List.replicate m v))[j]?=some b->w.cell? ((⟨nb,0,none⟩:Addr).add j)=some b:=by
 intro j b d;obtain⟨r,e⟩:=Ji c v n m hm;have f:=(List.getElem?_eq_some_iff.1 d).1;rw[Addr.add_lit];have:(ev (gx c v n))[j]?=some b:=by rw[e,List.getElem?_append_left f];exact d
 rw[Nat.zero_add];simp[World.cell?,hr,this]
theorem AO {c:Nat}{w w':ax}{nb n m B:Nat}{v:Int×Int}(b:k8 w w' nb (ev (gx c v n)) (n*2) (ev (List.replicate m v)))(hr:w.heap[nb]?=some (.cells (ev (gx c v n)).toArray 97 (0,0)))(h:n+m<=c)(hB:B<=nb):w'.heap[nb]?=some (.cells (ev (gx c v (n+m))).toArray 97 (0,0))/\Below B w w':=by
 rcases b with⟨h0,rfl⟩|rfl
 ·have:=congrArg List.length h0;rw[kT] at this
  simp only [List.length_nil] at this
  obtain rfl:m=0:=V;exact⟨hr,aH _ _⟩
 ·rw[Jh c v n m h];exact⟨setRow_heap w nb _ _ _ _ hr,⟨rfl,rfl,rfl,by simp[World.setRow],fun k hk=>setRow_other w nb k _ V⟩⟩
theorem AP:(prog.info? 97).map (·.size)=some 2:=ae
theorem Jm {w:ax}{b k n:Nat}(hn:n<=12)(h:w.ownsRow b 97 2 (.slice (ak k) n n) n (madeCells (Value.agg #[ah 0,ah 0]).cells (n*2)).toList):
 w.heap[k]?=some (.cells (ev (List.replicate n (0,0))).toArray 97 (0,0)):=by
 obtain⟨j,d⟩:=h;rcases d with⟨e,_⟩|⟨m,cap,c,hv,hb,f,o,p,q,g⟩
 ·cases e
 ·cases hv;rw[f];have:c.toList=ev (List.replicate n (0,0)):=by rw[<-List.take_of_length_le (l:=c.toList) (i:=n*2) (by simp;omega),g];rcases(show n=0\/n=1\/n=2\/n=3\/n=4\/n=5\/n=6\/n=7\/n=8\/n=9\/n=10\/n=11\/n=12 by omega) with rfl|rfl|rfl|rfl|rfl|rfl|rfl|rfl|rfl|rfl|rfl|rfl|rfl<;>kernel_rfl
  rw[<-this]
theorem Jn {w:ax}{b:Nat}{v:Int×Int}{m:Nat}(hm:m<=1)(h0:w.cell? (aq b 0)=some (ah v.1))(e:w.cell? (aq b 1)=some (ah v.2)):∀j d,(ev (List.replicate m v))[j]?=some d->w.cell? ((⟨b,0,none⟩:Addr).add j)=some d:=by
 intro j d c;have f:=(List.getElem?_eq_some_iff.1 c).1;rw[kT] at f;obtain rfl:m=1:=V
 match j,c with
 |0,c=>simp[ev] at c;rw[<-c];simpa[Addr.add] using h0
 |1,c=>simp[ev] at c;rw[<-c];simpa[Addr.add] using e
 |j+2,_=>omega
theorem AQ (w:ax)(b c:Nat)(v:Int×Int)(A:c<=12)(C:w.cell? (aq b 0)=some (ah v.1))(Q:w.cell? (aq b 1)=some (ah v.2)):
 Calls prog 131 #[.slice (ak b) 1 1,ah c] w fun e w'=>∃nb,e=.returned (.slice (ak nb) c c)/\w.heap.size<=nb/\w'.heap[nb]?=some (.cells (ev (List.replicate c v)).toArray 97 (0,0))/\Below w.heap.size w w':=by
 obtain⟨D,hi,R,S,U⟩:=info_parts rG;have lb:=aQ w _ C;dsimp only at lb;have E:=Jg c A w;have W:ay (gx c v c=List.replicate c v):=by show _=_;simp[gx]
 have c1:(c:Int)<=12:=V;go_enter func131,ntmps131;go_wp2_with fail;refine E.mono ?_;clear E;rintro e w0 ⟨rfl,hw⟩
 have hw:=hw.symm;subst hw
 go_upto_region 7 with(at_make;refine wpList_make_full _ rfl _ _ 57 rfl w.heap.size 97 D (.agg #[ah 0,ah 0]) 2 underlying57 hi R S .i64 .i64 _ _ c rfl rfl V V (by rw[U];omega) (by unfold maxLen;omega) bW ?_;intro w1 F G)
 have hr:w1.heap[w.heap.size]?=some (.cells (ev (gx c v 0)).toArray 97 (0,0)):=by have X:=Jm A F;simpa[gx] using X
 have k:Below w.heap.size w w1:=(aH _ w).grown G bW (fun _ h=>by cases h)
 have H:=(k.cell (p:=aq b 0) lb).trans C;have I:=(k.cell (p:=aq b 1) lb).trans Q;clear F G;have q:Nat.min 1 c<=1:=Nat.min_le_left _ _;have d:Nat.min 1 c<=c:=Nat.min_le_right _ _;have l:0<c->1<=Nat.min 1 c:=fun h=>by simp only [Nat.min_def];split<;>omega
 have f:ay (∀j g,(ev (List.replicate (Nat.min 1 c) v))[j]?=some g->w1.cell? ((⟨b,0,none⟩:Addr).add j)=some g):=Jn q H I;have s:ay (w1.heap[w.heap.size]?=some (.cells (ev (gx c v 0)).toArray 97 (0,0))):=hr;have i:ay (0*2+(ev (List.replicate (Nat.min 1 c) v)).length<=(ev (gx c v 0)).length):=by show _<=_;rw[kT,kC,AN c v 0 V];omega
 clear H I hr;go_wp2_with (refine Je rfl _ _ 57 57 97 rfl underlying57 AP (ak w.heap.size) (ak b) c c 1 1 rfl rfl w.heap.size (0*2) (ev (gx c v 0)) 97 s.o (ev (List.replicate (Nat.min 1 c) v)) (Nat.min 1 c) rfl (kT _ _) (fun _=>⟨rfl,_,rfl,f.o⟩) i.o (nP _) ?_;intro al J)
 obtain⟨t,K⟩:=AO (B:=w.heap.size) J s.o V bW
 rw[Nat.zero_add] at t;have L:=k.trans K;have u:ay (Nat.min 1 c<=c/\(0<c->1<=Nat.min 1 c)):=⟨d,l⟩
 clear J f s i k K q d l;generalize Nat.min 1 c=Y at*
 go_loopw [8] (fun nv wr=>∃n:Nat,(0<c->1<=n)/\n<=c/\nv=ah n/\ay (wr.heap[w.heap.size]?=some (.cells (ev (gx c v n)).toArray 97 (0,0)))/\Below w.heap.size w wr) (fun nv _=>c-(intOf nv).toNat)
 case atStart=>exact⟨Y,u.o.2,u.o.1,rfl,t,L⟩
 case round=>
  clear t L u;obtain⟨n,n1,ab,rfl,x,hb⟩:=hrel;by_cases am:n<c
  ·have n1:=n1 V;obtain⟨m,hm,q,d,l⟩:∃m,m=Nat.min n (c-n)/\0<m/\n+m<=c/\m<=n:=⟨_,rfl,by simp only [Nat.min_def];split<;>omega,by simp only [Nat.min_def];split<;>omega,by simp only [Nat.min_def];split<;>omega⟩
   have o:ay (wr.drew.heap[w.heap.size]?=some (.cells (ev (gx c v n)).toArray 97 (0,0))):=x.o;have f:ay (∀j g,(ev (List.replicate m v))[j]?=some g->wr.drew.cell? ((⟨w.heap.size,0,none⟩:Addr).add j)=some g):=Jj o.o m l;have i:ay (n*2+(ev (List.replicate m v)).length<=(ev (gx c v n)).length):=by show _<=_;rw[kT,kC,AN c v n ab];omega
   have an:¬c=n:=V;have D:(0:Int)<=(n:Int):=V;have ao:(n:Int)<=(c:Int):=V;have ap:(n:Int)<(c:Int):=V;clear x;go_wp2_with fail
   go_region_law (refine AM rfl (.tmp 41) (.tmp 44) 57 57 97 rfl underlying57 AP (some ⟨w.heap.size,n*2,none⟩) (ak w.heap.size) (c-n) (c-n) n c ?_ ?_ w.heap.size (n*2) (ev (gx c v n)) 97 o.o (ev (List.replicate m v)) m hm (kT _ _) (fun _=>⟨rfl,_,rfl,f.o⟩) i.o (nP _) ?_;(simp[Act.eval,Act.put]);(simp[Act.eval,Act.put]);intro ad M)
   obtain⟨N,O⟩:=AO (B:=w.heap.size) M o.o d bW
   have ag:ay (ad.heap[w.heap.size]?=some (.cells (ev (gx c v (n+m))).toArray 97 (0,0))):=N;have ai:=hb.drew.trans O;have hw:IntKind.i64.wrap ((n:Int)+(m:Int))=((n+m:Nat):Int):=by rw[bk];omega
   clear N O M o f i hb;simp[Act.put,go_sem,Exit.inBlock];rw[<-hm,hw];refine⟨⟨_,_,_,_,_,_,_,_,_,_,_,_,_,_,?rel,rfl⟩,?measure⟩
   case rel=>exact⟨n+m,fun _=>V,d,rfl,ag,ai⟩
   case measure=>simp[intOf];omega
  ·obtain rfl:n=c:=V;have P:=x.o;rw[W.o] at P;go_wp2_with fail;go_ret;exact⟨w.heap.size,rfl,aD _,P,hb⟩
section
variable {bY rb:Nat}{b_ bZ:Int}{F:Nat->Prop}{s:ck}{w:ax}{g:gP}
theorem Jp (g:List Bool->List Bool)(s:ck)(bZ:Int)(mj:Bool):(s.cut g bZ mj).rs=s.rs:=by unfold ck.cut;split<;>rfl
theorem AR (g:gP)(b_ bZ:Int)(s:ck)(m:Int):(s.room g b_ bZ m).2.rs=s.rs:=by
 unfold ck.room;split
 ·rfl
 ·exact Jp _ _ _ _
theorem uQ (g:gP)(b_ bZ:Int)(s:ck)(kd:Int)(fl:List _):(s.bZ g b_ bZ kd fl).2.2.rs=s.rs:=by
 unfold ck.bZ;split
 ·exact AR _ _ _ _ _
 ·exact AR _ _ _ _ _
theorem Jq (s:ck)(v:Int×Int):(s.pop v).2.2.rs=s.rs:=by
 unfold ck.pop;split
 ·split<;>rfl
 ·rfl
theorem jZ (h:(cx bY b_ bZ rb).J F s w):w.cell? (aq bY 6)=some (.slice (ak rb) 12 12)/\(∀i,i<12->w.cell? (aq rb (i*2))=some (ah (s.rs.getD i (0,0)).1)/\w.cell? (aq rb (i*2+1))=some (ah (s.rs.getD i (0,0)).2))/\F bY/\F rb:=by obtain⟨l,h,rfl,b⟩:=h;have c:=h.g4.cells.2.2;exact⟨h.cells.2.2.2.2.2.2.1,fun i hi=>⟨(c i hi).1,(c i hi).2.1⟩,(b _).2 (by rw[h.bo];decide),(b _).2 (by rw[h.g4.ro];decide)⟩
theorem ff {w:ax}{b c o:Nat}{x v0 v1:Value}(hn:b≠c)(h:w.cell? (aq b o)=some x):((w.setCell ⟨c,0,none⟩ v0).setCell ⟨c,1,none⟩ v1).cell? (aq b o)=some x:=by exact AL
theorem uR (h:(cx bY b_ bZ rb).J F s w)(hv:fI s)(C:dR s.T s.wt (g s.T s.wt))(g0:-1000000<=bZ)(g1:bZ<=1000000)(S:-1000000<=b_)(m1:b_<=1000000)(R I n:Int){k kd:Int}(hk:k=4/\kd=1\/k=6/\kd=3\/k=7/\kd=4)(A B:Nat)(o:A<12)(hB:B<12):
 Calls prog 136 #[aj bY,dK k R A B I n] w fun e w'=>∃d,e=.returned (.tuple #[.agg #[ah (s.bZ g b_ bZ kd [s.rs.getD A (0,0),s.rs.getD B (0,0)]).1.1,ah (s.bZ g b_ bZ kd [s.rs.getD A (0,0),s.rs.getD B (0,0)]).1.2],ah (s.bZ g b_ bZ kd [s.rs.getD A (0,0),s.rs.getD B (0,0)]).2.1])/\(cx bY b_ bZ rb).J d (s.bZ g b_ bZ kd [s.rs.getD A (0,0),s.rs.getD B (0,0)]).2.2 w'/\b8 F w d w':=by
 have fT:∀b,F b->b<w.heap.size:=fun b hb=>(cx bY b_ bZ rb).lt h b hb;have p:Below w.heap.size w ((w.alloc (cz k R A B I n)).alloc (.cells #[.int .i64 0,.int .i64 0] 97)):=(bX.alloc bW _).alloc Z _;have q:((w.alloc (cz k R A B I n)).alloc (.cells #[.int .i64 0,.int .i64 0] 97)).heap[w.heap.size]?=some (cz k R A B I n):=(aS _ _ _ Z).trans (aO w _)
 have D:=iP w (cz k R A B I n) (.cells #[.int .i64 0,.int .i64 0] 97)
 obtain⟨U,rt,E,G⟩:=jZ ((cx bY b_ bZ rb).below h p)
 obtain⟨W,X⟩:=rt A o;obtain⟨Y,ab⟩:=rt B hB;obtain⟨q0,q1,ag,q3,ai,al⟩:=eu q;have a2:=fT _ E;have bb:=fT _ G;have H:((w.alloc (cz k R A B I n)).alloc (.cells #[.int .i64 0,.int .i64 0] 97)).heap.size=w.heap.size+1+1:=Z;have t:Calls prog 206 #[aj bY,ah kd,.slice (ak (w.heap.size+1+1)) 2 2] (((w.alloc (cz k R A B I n)).alloc (.cells #[.int .i64 0,.int .i64 0] 97)).drew.alloc (.cells #[.int .i64 (s.rs.getD A (0,0)).1,.int .i64 (s.rs.getD A (0,0)).2,.int .i64 (s.rs.getD B (0,0)).1,.int .i64 (s.rs.getD B (0,0)).2] 97)) fun e c=>∃d,e=.returned (.tuple #[.agg #[ah (s.bZ g b_ bZ kd [s.rs.getD A (0,0),s.rs.getD B (0,0)]).1.1,ah (s.bZ g b_ bZ kd [s.rs.getD A (0,0),s.rs.getD B (0,0)]).1.2],ah (s.bZ g b_ bZ kd [s.rs.getD A (0,0),s.rs.getD B (0,0)]).2.1])/\
  (c.cell? (aq bY 6)=some (.slice (ak rb) 12 12)/\c.cell? (aq rb (A*2))=some (ah (s.rs.getD A (0,0)).1)/\c.cell? (aq rb (A*2+1))=some (ah (s.rs.getD A (0,0)).2)/\c.cell? (aq rb (B*2))=some (ah (s.rs.getD B (0,0)).1)/\c.cell? (aq rb (B*2+1))=some (ah (s.rs.getD B (0,0)).2)/\c.cell? (aq w.heap.size 2)=some (ah A)/\c.cell? (aq w.heap.size 3)=some (ah B))/\
  c.heap[w.heap.size+1]?=some (.cells #[ah 0,ah 0] 97 (0,0))/\ay ((cx bY b_ bZ rb).J d (s.bZ g b_ bZ kd [s.rs.getD A (0,0),s.rs.getD B (0,0)]).2.2 c/\b8 F w d c/\¬d (w.heap.size+1)):=by
  have b1:Below w.heap.size w (((w.alloc (cz k R A B I n)).alloc (.cells #[.int .i64 0,.int .i64 0] 97)).drew.alloc (.cells #[.int .i64 (s.rs.getD A (0,0)).1,.int .i64 (s.rs.getD A (0,0)).2,.int .i64 (s.rs.getD B (0,0)).1,.int .i64 (s.rs.getD B (0,0)).2] 97)):=p.drew.alloc (by simp;omega) _;have u:(((w.alloc (cz k R A B I n)).alloc (.cells #[.int .i64 0,.int .i64 0] 97)).drew.alloc (.cells #[.int .i64 (s.rs.getD A (0,0)).1,.int .i64 (s.rs.getD A (0,0)).2,.int .i64 (s.rs.getD B (0,0)).1,.int .i64 (s.rs.getD B (0,0)).2] 97)).heap.size=w.heap.size+1+1+1:=Z;have hn:=aO ((w.alloc (cz k R A B I n)).alloc (.cells #[.int .i64 0,.int .i64 0] 97)).drew (.cells #[.int .i64 (s.rs.getD A (0,0)).1,.int .i64 (s.rs.getD A (0,0)).2,.int .i64 (s.rs.getD B (0,0)).1,.int .i64 (s.rs.getD B (0,0)).2] 97)
  have J:((w.alloc (cz k R A B I n)).alloc (.cells #[.int .i64 0,.int .i64 0] 97)).drew.heap.size=w.heap.size+1+1:=H;rw[J] at hn;refine(uP (g:=g) (kd:=kd) (fl:=[s.rs.getD A (0,0),s.rs.getD B (0,0)]) (ad:=ak (w.heap.size+1+1)) (cap:=2) ((cx bY b_ bZ rb).below h b1) hv C g0 g1 S m1 Z ⟨fun _=>⟨w.heap.size+1+1,0,rfl,by rw[u];omega,fun i hi=>?_⟩,Z,fun e=>by cases e⟩).mono ?_
  ·have hi:i<2:=hi;rcases(show i=0\/i=1 by omega) with rfl|rfl<;>simp only [World.cell?,hn]<;>exact⟨rfl,rfl⟩
  ·rintro e c ⟨d,rfl,K,tn⟩
   obtain⟨l,j,_,_⟩:=jZ K;rw[uQ] at j;have kp:∀b,w.heap.size<=b->b<w.heap.size+1+1->c.heap[b]?=((w.alloc (cz k R A B I n)).alloc (.cells #[.int .i64 0,.int .i64 0] 97)).heap[b]?:=fun b bd be=>(tn.fr.block b (by rw[u];omega) (fun f=>by have:=fT b f;omega)).trans (aS ((w.alloc (cz k R A B I n)).alloc (.cells #[.int .i64 0,.int .i64 0] 97)).drew _ b (by rw[J];omega))
   have am:=(kp _ bW V).trans q;obtain⟨_,_,an,ao,_,_⟩:=eu am;refine⟨d,rfl,⟨l,(j A o).1,(j A o).2,(j B hB).1,(j B hB).2,an,ao⟩,(kp _ V V).trans D,K,(b8.of b1).trans tn,fun f=>?_⟩
   rcases tn.sub _ f with f|f
   ·have:=fT _ f;omega
   ·rw[u] at f;omega
 generalize s.bZ g b_ bZ kd [s.rs.getD A (0,0),s.rs.getD B (0,0)]=gr at*;obtain⟨⟨v0,v1⟩,cd,bg⟩:=gr;dsimp only at t⊢;generalize (s.rs.getD A (0,0)).1=a0 at*;generalize (s.rs.getD A (0,0)).2=a1 at*;generalize (s.rs.getD B (0,0)).1=ap at*;generalize (s.rs.getD B (0,0)).2=ar at*;have bi:(0:Int)<=(A:Int):=V;have bl:(A:Int)<12:=V;have bn:(0:Int)<=(B:Int):=V;have bo:(B:Int)<12:=V;have aB:bY≠w.heap.size+1:=V;have m:rb≠w.heap.size+1:=V;have nx:w.heap.size≠w.heap.size+1:=V;clear h hv C p q D rt fT E G q0 q1 ai al H;rcases hk with⟨rfl,rfl⟩|⟨rfl,rfl⟩|⟨rfl,rfl⟩
 all_goals
  go_enter func136,ntmps136;go_wp2_with fail
  go_region_held3 (fun w'=>w'.cell? (aq bY 6)=some (.slice (ak rb) 12 12)/\w'.cell? (aq rb (A*2))=some (ah a0)/\w'.cell? (aq rb (A*2+1))=some (ah a1)/\w'.cell? (aq rb (B*2))=some (ah ap)/\w'.cell? (aq rb (B*2+1))=some (ah ar)/\w'.cell? (aq w.heap.size 2)=some (ah A)/\w'.cell? (aq w.heap.size 3)=some (ah B)) (first|exact⟨ff aB L,ff m M,ff m N,ff m O,ff m P,ff nx l,ff nx Q⟩|(go_keep;done))
   (first|(go_at_call 206;refine t.mono ?_;clear t;rintro e c ⟨d,rfl,⟨L,M,N,O,P,l,Q⟩,y1,x⟩;obtain⟨r0,r1,bp,lw⟩:=di y1;have aF:ay (_=_):=y1;clear y1 U W X Y ab ag q3))
  all_goals
   clear L M N O P l Q ‹_/\_›;go_wp2_with fail;obtain⟨aR,aV,_,_⟩:=di (gz (v1:=ah v0) (v2:=ah v1) aF.o)
   exact a4 (v:=.tuple #[.agg #[ah v0,ah v1],ah cd]) (by simp[results,results136,go_sem,aR,aV]) rfl ⟨d,rfl,dr.set2 _ x.o.1 x.o.2.2 _ _,x.o.2.1.set2 (Nat.le_succ _) _ _⟩
end
section
variable {bY rb:Nat}{b_ bZ:Int}{F F':Nat->Prop}{s S2:ck}{w W1 w2:ax}{k R A B I n:Int}
abbrev f_ (w:ax)(k R A B I n:Int):ax:=(w.alloc (cz k R A B I n)).alloc (.cells #[.int .i64 0,.int .i64 0] 97)
theorem lM (h:(cx bY b_ bZ rb).J F s w)(k R A B I n:Int):Below w.heap.size w (f_ w k R A B I n)/\(f_ w k R A B I n).heap[w.heap.size]?=some (cz k R A B I n)/\(f_ w k R A B I n).heap[w.heap.size+1]?=some (.cells #[ah 0,ah 0] 97 (0,0))/\(f_ w k R A B I n).cell? (aq bY 6)=some (.slice (ak rb) 12 12)/\
 (∀i,i<12->(f_ w k R A B I n).cell? (aq rb (i*2))=some (ah (s.rs.getD i (0,0)).1)/\(f_ w k R A B I n).cell? (aq rb (i*2+1))=some (ah (s.rs.getD i (0,0)).2))/\bY≠w.heap.size+1/\rb≠w.heap.size+1:=by
 have b:Below w.heap.size w (f_ w k R A B I n):=(bX.alloc bW _).alloc Z _;obtain⟨c,rt,d,e⟩:=jZ ((cx bY b_ bZ rb).below h b)
 have l1:=(cx bY b_ bZ rb).lt h _ d;have l2:=(cx bY b_ bZ rb).lt h _ e;exact⟨b,(aS _ _ _ Z).trans (aO w _),iP w _ _,c,rt,V,V⟩
theorem oA (h:(cx bY b_ bZ rb).J F s w)(b1:Below w.heap.size w W1)(e:W1.heap[w.heap.size]?=some (cz k R A B I n))(d:W1.heap[w.heap.size+1]?=some (.cells #[ah 0,ah 0] 97 (0,0)))(f:(cx bY b_ bZ rb).J F' S2 w2)(tn:b8 F W1 F' w2)(g:S2.rs=s.rs):
 (w2.cell? (aq bY 6)=some (.slice (ak rb) 12 12)/\(∀i,i<12->w2.cell? (aq rb (i*2))=some (ah (s.rs.getD i (0,0)).1)/\w2.cell? (aq rb (i*2+1))=some (ah (s.rs.getD i (0,0)).2))/\w2.heap[w.heap.size]?=some (cz k R A B I n))/\
 w2.heap[w.heap.size+1]?=some (.cells #[ah 0,ah 0] 97 (0,0))/\ay ((cx bY b_ bZ rb).J F' S2 w2/\b8 F w F' w2/\¬F' (w.heap.size+1)):=by
 have fT:∀b,F b->b<w.heap.size:=fun b hb=>(cx bY b_ bZ rb).lt h b hb;obtain⟨j,rt,_,_⟩:=jZ f;rw[g] at rt;have kp:∀b,w.heap.size<=b->b<W1.heap.size->w2.heap[b]?=W1.heap[b]?:=fun b m l=>tn.fr.block b l (fun c=>by have:=fT b c;omega)
 refine⟨⟨j,rt,(kp _ bW (lt_of_some e)).trans e⟩,(kp _ (Nat.le_succ _) (lt_of_some d)).trans d,f,(b8.of b1).trans tn,fun c=>?_⟩
 have l1:=lt_of_some d;rcases tn.sub _ c with c|c
 ·have:=fT _ c;omega
 ·omega
theorem uS (hv:fI s)(hl:s.rs.length=12){A:Nat}(b:A<12):(s.rs.getD A (0,0)).1=3->0<=(s.rs.getD A (0,0)).2/\cv s.T (s.rs.getD A (0,0)).2.toNat:=hv.rv _ (getD_in V)
theorem uT (h:(cx bY b_ bZ rb).J F s w):s.rs.length=12:=by obtain⟨l,h,_⟩:=h;exact h.g4.rl
def ck.gt (s:ck)(v:Int×Int)(I:Int):(Int×Int)×Int×ck:=((if s.fc v I=0 then(s.T.getD v.2.toNat t0).2.1.getD I.toNat (0,0) else(0,0)),s.fc v I,s)
def ck.ln (s:ck)(v:Int×Int):(Int×Int)×Int×ck:=if jE s.T v=true then((1,((s.T.getD v.2.toNat t0).2.1.length:Int)),0,s) else((0,0),2,s)
theorem Jr (s:ck)(v:Int×Int)(I:Int):(s.gt v I).2.2=s:=rfl
theorem Jt (s:ck)(v:Int×Int):(s.ln v).2.2=s:=by unfold ck.ln;split<;>rfl
theorem Ju (h:(cx bY b_ bZ rb).J F s w)(v:Int×Int)(i:Int)(hv:v.1=3->0<=v.2/\cv s.T v.2.toNat)(g:s.T.length<=10000):
 Calls prog 201 #[aj bY,.agg #[ah v.1,ah v.2],ah i] w fun e w'=>∃F',e=.returned (.tuple #[.agg #[ah (s.gt v i).1.1,ah (s.gt v i).1.2],ah (s.gt v i).2.1])/\(cx bY b_ bZ rb).J F' (s.gt v i).2.2 w'/\b8 F w F' w':=by
 have p:=h;obtain⟨l,h,_,_⟩:=h;have j:∀(a b c:Int),(s.gt v i).1=(a,b)->(s.gt v i).2.1=c->∀(e:Ending)(w':ax),(e=.returned (.tuple #[.agg #[ah a,ah b],ah c])/\Below w.heap.size w w')->∃F',e=.returned (.tuple #[.agg #[ah (s.gt v i).1.1,ah (s.gt v i).1.2],ah (s.gt v i).2.1])/\(cx bY b_ bZ rb).J F' (s.gt v i).2.2 w'/\b8 F w F' w':=by
  rintro a b c q t e w' ⟨rfl,hb⟩
  rw[q,t,Jr];exact⟨F,rfl,(cx bY b_ bZ rb).below p hb,b8.of hb⟩
 by_cases k:v.1=3/\(s.T.getD v.2.toNat t0).1≠5
 ·obtain⟨f,n⟩:=k;have hd:jE s.T v=true:=jF.2 ⟨f,n⟩
  have o:=hv f;by_cases hi:i<0\/((s.T.getD v.2.toNat t0).2.1.length:Int)<=i
  ·have d:s.fc v i=1:=by unfold ck.fc;rw[aI hd,aI hi]
   rw[f];exact(Ai h v.2 i o g n hi).mono (j 0 0 1 (by unfold ck.gt;rw[d];rfl) d)
  ·have d:s.fc v i=0:=by unfold ck.fc;rw[aI hd,aG hi]
   obtain⟨m,rfl⟩:=Int.eq_ofNat_of_zero_le (a:=i) V;rw[f];exact(Aj h v.2 m o g n V).mono (j _ _ 0 (by unfold ck.gt;rw[d];rfl) d)
 ·have d:s.fc v i=2:=by unfold ck.fc;rw[aG (fun c=>k (jF.1 c))]
  exact(Ah h v i hv g (fun f=>Classical.byContradiction (fun c=>k ⟨f,c⟩))).mono (j 0 0 2 (by unfold ck.gt;rw[d];rfl) d)
theorem Jv (h:(cx bY b_ bZ rb).J F s w)(v:Int×Int)(hv:v.1=3->0<=v.2/\cv s.T v.2.toNat)(f:s.T.length<=10000):
 Calls prog 208 #[aj bY,.agg #[ah v.1,ah v.2]] w fun e w'=>∃F',e=.returned (.tuple #[.agg #[ah (s.ln v).1.1,ah (s.ln v).1.2],ah (s.ln v).2.1])/\(cx bY b_ bZ rb).J F' (s.ln v).2.2 w'/\b8 F w F' w':=by
 have g:=h;obtain⟨l,h,_,_⟩:=h;by_cases d:v.1=3/\(s.T.getD v.2.toNat t0).1≠5
 ·obtain⟨b,i⟩:=d;have e:s.ln v=((1,((s.T.getD v.2.toNat t0).2.1.length:Int)),0,s):=aI (jF.2 ⟨b,i⟩)
  rw[e,b];refine(H7 h v.2 (hv b) f i).mono ?_;rintro e w' ⟨rfl,hb⟩
  exact⟨F,rfl,(cx bY b_ bZ rb).below g hb,b8.of hb⟩
 ·have e:s.ln v=((0,0),2,s):=aG (fun c=>d (jF.1 c))
  rw[e];refine(H6 h v hv f (fun b=>Classical.byContradiction (fun c=>d ⟨b,c⟩))).mono ?_;rintro e w' ⟨rfl,hb⟩
  exact⟨F,rfl,(cx bY b_ bZ rb).below g hb,b8.of hb⟩
end
section
variable {bY rb:Nat}{b_ bZ:Int}{F:Nat->Prop}{s:ck}{w:ax}
theorem Jw (h:(cx bY b_ bZ rb).J F s w)(hv:fI s)(R B I n:Int)(A:Nat)(f:A<12):
 Calls prog 136 #[aj bY,dK 10 R A B I n] w fun e w'=>∃b,e=.returned (.tuple #[.agg #[ah (s.pop (s.rs.getD A (0,0))).1.1,ah (s.pop (s.rs.getD A (0,0))).1.2],ah (s.pop (s.rs.getD A (0,0))).2.1])/\(cx bY b_ bZ rb).J b (s.pop (s.rs.getD A (0,0))).2.2 w'/\b8 F w b w':=by
 obtain⟨j,g,k,x,rt,C,l⟩:=lM h 10 R A B I n;have m:=uS hv (uT h) f;have hd:Below w.heap.size w (f_ w 10 R A B I n).drew:=j.drew;have P:=IB ((cx bY b_ bZ rb).below h hd) (s.rs.getD A (0,0)) m hv.tl (aT hv.wl aa)
 have i:Calls prog 207 #[aj bY,.agg #[ah (s.rs.getD A (0,0)).1,ah (s.rs.getD A (0,0)).2]] (f_ w 10 R A B I n).drew fun e c=>∃b,e=.returned (.tuple #[.agg #[ah (s.pop (s.rs.getD A (0,0))).1.1,ah (s.pop (s.rs.getD A (0,0))).1.2],ah (s.pop (s.rs.getD A (0,0))).2.1])/\
  (c.cell? (aq bY 6)=some (.slice (ak rb) 12 12)/\c.cell? (aq rb (A*2))=some (ah (s.rs.getD A (0,0)).1)/\c.cell? (aq rb (A*2+1))=some (ah (s.rs.getD A (0,0)).2)/\c.cell? (aq w.heap.size 2)=some (ah A))/\
  c.heap[w.heap.size+1]?=some (.cells #[ah 0,ah 0] 97 (0,0))/\ay ((cx bY b_ bZ rb).J b (s.pop (s.rs.getD A (0,0))).2.2 c/\b8 F w b c/\¬b (w.heap.size+1)):=by
  refine P.mono ?_;rintro e c ⟨b,rfl,D,tn⟩
  obtain⟨⟨E,o,G⟩,y1,d⟩:=oA h hd g k D tn (Jq _ _)
  obtain⟨_,_,H,_,U,_⟩:=eu G;exact⟨b,rfl,⟨E,(o A f).1,(o A f).2,H⟩,y1,d⟩
 clear P;obtain⟨J,K⟩:=rt A f;obtain⟨q0,q1,L,q3,M,N⟩:=eu g;generalize s.pop (s.rs.getD A (0,0))=gr at*;obtain⟨⟨v0,v1⟩,cd,W⟩:=gr;dsimp only at i⊢;generalize (s.rs.getD A (0,0)).1=a0 at*;generalize (s.rs.getD A (0,0)).2=a1 at*;have X:(0:Int)<=(A:Int):=V;have Y:(A:Int)<12:=V;have nx:w.heap.size≠w.heap.size+1:=V;clear h hv j hd g k rt m q0 q1 q3 M N;go_enter func136,ntmps136;go_wp2_with fail
 go_region_held3 (fun w'=>w'.cell? (aq bY 6)=some (.slice (ak rb) 12 12)/\w'.cell? (aq rb (A*2))=some (ah a0)/\w'.cell? (aq rb (A*2+1))=some (ah a1)/\w'.cell? (aq w.heap.size 2)=some (ah A)) (first|exact⟨ff C p,ff l q,ff l t,ff nx u⟩|(go_keep;done))
  (first|(go_at_call 207;refine i.mono ?_;clear i;rintro e c ⟨b,rfl,⟨p,q,t,u⟩,y1,d⟩;obtain⟨r0,r1,ab,lw⟩:=di y1;have O:ay (_=_):=y1;clear y1 x J K L))
 all_goals
  clear p q t u ‹_/\_›;go_wp2_with fail;obtain⟨Q,S,_,_⟩:=di (gz (v1:=ah v0) (v2:=ah v1) O.o)
  exact a4 (v:=.tuple #[.agg #[ah v0,ah v1],ah cd]) (by simp[results,results136,go_sem,Q,S]) rfl ⟨b,rfl,dr.set2 _ d.o.1 d.o.2.2 _ _,d.o.2.1.set2 (Nat.le_succ _) _ _⟩
theorem Jx (h:(cx bY b_ bZ rb).J F s w)(hv:fI s)(R B I n:Int)(A:Nat)(f:A<12):
 Calls prog 136 #[aj bY,dK 11 R A B I n] w fun e w'=>∃b,e=.returned (.tuple #[.agg #[ah (s.gt (s.rs.getD A (0,0)) I).1.1,ah (s.gt (s.rs.getD A (0,0)) I).1.2],ah (s.gt (s.rs.getD A (0,0)) I).2.1])/\(cx bY b_ bZ rb).J b (s.gt (s.rs.getD A (0,0)) I).2.2 w'/\b8 F w b w':=by
 obtain⟨j,g,k,C,rt,D,l⟩:=lM h 11 R A B I n;have m:=uS hv (uT h) f;have hd:Below w.heap.size w (f_ w 11 R A B I n).drew:=j.drew;have P:=Ju ((cx bY b_ bZ rb).below h hd) (s.rs.getD A (0,0)) I m hv.tl;have i:Calls prog 201 #[aj bY,.agg #[ah (s.rs.getD A (0,0)).1,ah (s.rs.getD A (0,0)).2],ah I] (f_ w 11 R A B I n).drew fun e c=>∃b,e=.returned (.tuple #[.agg #[ah (s.gt (s.rs.getD A (0,0)) I).1.1,ah (s.gt (s.rs.getD A (0,0)) I).1.2],ah (s.gt (s.rs.getD A (0,0)) I).2.1])/\
  (c.cell? (aq bY 6)=some (.slice (ak rb) 12 12)/\c.cell? (aq rb (A*2))=some (ah (s.rs.getD A (0,0)).1)/\c.cell? (aq rb (A*2+1))=some (ah (s.rs.getD A (0,0)).2)/\c.cell? (aq w.heap.size 2)=some (ah A)/\c.cell? (aq w.heap.size 4)=some (ah I))/\
  c.heap[w.heap.size+1]?=some (.cells #[ah 0,ah 0] 97 (0,0))/\ay ((cx bY b_ bZ rb).J b (s.gt (s.rs.getD A (0,0)) I).2.2 c/\b8 F w b c/\¬b (w.heap.size+1)):=by
  refine P.mono ?_;rintro e c ⟨b,rfl,E,tn⟩
  obtain⟨⟨G,o,H⟩,y1,d⟩:=oA h hd g k E tn rfl;obtain⟨_,_,J,_,K,_⟩:=eu H;exact⟨b,rfl,⟨G,(o A f).1,(o A f).2,J,K⟩,y1,d⟩
 clear P;obtain⟨L,M⟩:=rt A f;obtain⟨q0,q1,N,q3,O,Q⟩:=eu g;generalize s.gt (s.rs.getD A (0,0)) I=gr at*;obtain⟨⟨v0,v1⟩,cd,X⟩:=gr;dsimp only at i⊢;generalize (s.rs.getD A (0,0)).1=a0 at*;generalize (s.rs.getD A (0,0)).2=a1 at*;have Y:(0:Int)<=(A:Int):=V;have ab:(A:Int)<12:=V;have nx:w.heap.size≠w.heap.size+1:=V;clear h hv j hd g k rt m q0 q1 q3 Q;go_enter func136,ntmps136;go_wp2_with fail
 go_region_held3 (fun w'=>w'.cell? (aq bY 6)=some (.slice (ak rb) 12 12)/\w'.cell? (aq rb (A*2))=some (ah a0)/\w'.cell? (aq rb (A*2+1))=some (ah a1)/\w'.cell? (aq w.heap.size 2)=some (ah A)/\w'.cell? (aq w.heap.size 4)=some (ah I)) (first|exact⟨ff D p,ff l q,ff l t,ff nx u,ff nx x⟩|(go_keep;done))
  (first|(go_at_call 201;refine i.mono ?_;clear i;rintro e c ⟨b,rfl,⟨p,q,t,u,x⟩,y1,d⟩;obtain⟨r0,r1,ad,lw⟩:=di y1;have S:ay (_=_):=y1;clear y1 C L M N O))
 all_goals
  clear p q t u x ‹_/\_›;go_wp2_with fail;obtain⟨U,W,_,_⟩:=di (gz (v1:=ah v0) (v2:=ah v1) S.o)
  exact a4 (v:=.tuple #[.agg #[ah v0,ah v1],ah cd]) (by simp[results,results136,go_sem,U,W]) rfl ⟨b,rfl,dr.set2 _ d.o.1 d.o.2.2 _ _,d.o.2.1.set2 (Nat.le_succ _) _ _⟩
theorem Jy (h:(cx bY b_ bZ rb).J F s w)(hv:fI s)(R B I n:Int)(A:Nat)(f:A<12):
 Calls prog 136 #[aj bY,dK 13 R A B I n] w fun e w'=>∃b,e=.returned (.tuple #[.agg #[ah (s.ln (s.rs.getD A (0,0))).1.1,ah (s.ln (s.rs.getD A (0,0))).1.2],ah (s.ln (s.rs.getD A (0,0))).2.1])/\(cx bY b_ bZ rb).J b (s.ln (s.rs.getD A (0,0))).2.2 w'/\b8 F w b w':=by
 obtain⟨j,g,k,x,rt,C,l⟩:=lM h 13 R A B I n;have m:=uS hv (uT h) f;have hd:Below w.heap.size w (f_ w 13 R A B I n).drew:=j.drew;have P:=Jv ((cx bY b_ bZ rb).below h hd) (s.rs.getD A (0,0)) m hv.tl;have i:Calls prog 208 #[aj bY,.agg #[ah (s.rs.getD A (0,0)).1,ah (s.rs.getD A (0,0)).2]] (f_ w 13 R A B I n).drew fun e c=>∃b,e=.returned (.tuple #[.agg #[ah (s.ln (s.rs.getD A (0,0))).1.1,ah (s.ln (s.rs.getD A (0,0))).1.2],ah (s.ln (s.rs.getD A (0,0))).2.1])/\
  (c.cell? (aq bY 6)=some (.slice (ak rb) 12 12)/\c.cell? (aq rb (A*2))=some (ah (s.rs.getD A (0,0)).1)/\c.cell? (aq rb (A*2+1))=some (ah (s.rs.getD A (0,0)).2)/\c.cell? (aq w.heap.size 2)=some (ah A))/\
  c.heap[w.heap.size+1]?=some (.cells #[ah 0,ah 0] 97 (0,0))/\ay ((cx bY b_ bZ rb).J b (s.ln (s.rs.getD A (0,0))).2.2 c/\b8 F w b c/\¬b (w.heap.size+1)):=by
  refine P.mono ?_;rintro e c ⟨b,rfl,D,tn⟩
  obtain⟨⟨E,o,G⟩,y1,d⟩:=oA h hd g k D tn (by rw[Jt])
  obtain⟨_,_,H,_,U,_⟩:=eu G;exact⟨b,rfl,⟨E,(o A f).1,(o A f).2,H⟩,y1,d⟩
 clear P;obtain⟨J,K⟩:=rt A f;obtain⟨q0,q1,L,q3,M,N⟩:=eu g;generalize s.ln (s.rs.getD A (0,0))=gr at*;obtain⟨⟨v0,v1⟩,cd,W⟩:=gr;dsimp only at i⊢;generalize (s.rs.getD A (0,0)).1=a0 at*;generalize (s.rs.getD A (0,0)).2=a1 at*;have X:(0:Int)<=(A:Int):=V;have Y:(A:Int)<12:=V;have nx:w.heap.size≠w.heap.size+1:=V;clear h hv j hd g k rt m q0 q1 q3 M N;go_enter func136,ntmps136;go_wp2_with fail
 go_region_held3 (fun w'=>w'.cell? (aq bY 6)=some (.slice (ak rb) 12 12)/\w'.cell? (aq rb (A*2))=some (ah a0)/\w'.cell? (aq rb (A*2+1))=some (ah a1)/\w'.cell? (aq w.heap.size 2)=some (ah A)) (first|exact⟨ff C p,ff l q,ff l t,ff nx u⟩|(go_keep;done))
  (first|(go_at_call 208;refine i.mono ?_;clear i;rintro e c ⟨b,rfl,⟨p,q,t,u⟩,y1,d⟩;obtain⟨r0,r1,ab,lw⟩:=di y1;have O:ay (_=_):=y1;clear y1 x J K L))
 all_goals
  clear p q t u ‹_/\_›;go_wp2_with fail;obtain⟨Q,S,_,_⟩:=di (gz (v1:=ah v0) (v2:=ah v1) O.o)
  exact a4 (v:=.tuple #[.agg #[ah v0,ah v1],ah cd]) (by simp[results,results136,go_sem,Q,S]) rfl ⟨b,rfl,dr.set2 _ d.o.1 d.o.2.2 _ _,d.o.2.1.set2 (Nat.le_succ _) _ _⟩
end
section
variable {bY rb:Nat}{b_ bZ:Int}{F:Nat->Prop}{s:ck}{w:ax}{g:gP}
theorem Jz (h:(cx bY b_ bZ rb).J F s w)(R A B I n:Int):
 Calls prog 136 #[aj bY,dK 1 R A B I n] w fun e w'=>e=.returned (.tuple #[.agg #[ah 1,ah n],ah 0])/\Below w.heap.size w w':=by
 obtain⟨c,g,d,_⟩:=lM h 1 R A B I n;have P:=rh n (f_ w 1 R A B I n)
 obtain⟨q0,q1,j,q3,k,o⟩:=eu g;have i:ay (∀b,Below (f_ w 1 R A B I n).heap.size (f_ w 1 R A B I n) b->b.heap[w.heap.size+1]?=some (.cells #[ah 0,ah 0] 97 (0,0))/\Below w.heap.size w b):=fun b hb=>⟨(hb.block _ (lt_of_some d)).trans d,c.trans (hb.mono c.size)⟩
 clear h c g d q1 j q3 k;go_enter func136,ntmps136;go_wp2_with fail;refine P.mono ?_;clear P;rintro e b ⟨rfl,hb⟩
 have f:ay (_/\_):=i.o b hb;obtain⟨r0,r1,p,lw⟩:=di f.o.1;clear hb i;go_wp2_with fail;obtain⟨l,m,_,_⟩:=di (gz (v1:=ah 1) (v2:=ah n) f.o.1)
 exact a4 (v:=.tuple #[.agg #[ah 1,ah n],ah 0]) (by simp[results,results136,go_sem,l,m]) rfl ⟨rfl,(f.o.2.setCell Z _).setCell Z _⟩
theorem JA (h:(cx bY b_ bZ rb).J F s w)(R A B I n:Int):
 Calls prog 136 #[aj bY,dK 2 R A B I n] w fun e w'=>e=.returned (.tuple #[.agg #[ah 0,ah 0],ah 0])/\Below w.heap.size w w':=by
 obtain⟨b,c,d,_⟩:=lM h 2 R A B I n;obtain⟨q0,q1,f,q3,g,i⟩:=eu c;have j:ay (Below w.heap.size w (f_ w 2 R A B I n)):=b;obtain⟨r0,r1,k,lw⟩:=di d;clear h b c d q1 f q3 g i;go_enter func136,ntmps136;go_wp2_with fail;exact a4 (v:=.tuple #[.agg #[ah 0,ah 0],ah 0]) (by simp[results,results136,go_sem]) rfl ⟨rfl,j.o⟩
theorem JB (h:(cx bY b_ bZ rb).J F s w)(hv:fI s)(k:dR s.T s.wt (g s.T s.wt))(g0:-1000000<=bZ)(g1:bZ<=1000000)(m:-1000000<=b_)(m1:b_<=1000000)(R A B I n:Int):
 Calls prog 136 #[aj bY,dK 8 R A B I n] w fun e w'=>∃b,e=.returned (.tuple #[.agg #[ah (s.bZ g b_ bZ 5 []).1.1,ah (s.bZ g b_ bZ 5 []).1.2],ah (s.bZ g b_ bZ 5 []).2.1])/\(cx bY b_ bZ rb).J b (s.bZ g b_ bZ 5 []).2.2 w'/\b8 F w b w':=by
 obtain⟨f,i,l,_⟩:=lM h 8 R A B I n;obtain⟨q0,q1,o,q3,p,q⟩:=eu i;have j:Calls prog 206 #[aj bY,ah 5,.slice none 0 0] (f_ w 8 R A B I n) fun e c=>∃b,e=.returned (.tuple #[.agg #[ah (s.bZ g b_ bZ 5 []).1.1,ah (s.bZ g b_ bZ 5 []).1.2],ah (s.bZ g b_ bZ 5 []).2.1])/\
  c.heap[w.heap.size+1]?=some (.cells #[ah 0,ah 0] 97 (0,0))/\ay ((cx bY b_ bZ rb).J b (s.bZ g b_ bZ 5 []).2.2 c/\b8 F w b c/\¬b (w.heap.size+1)):=by
  refine(uP (g:=g) (kd:=5) (fl:=[]) (ad:=none) (cap:=0) ((cx bY b_ bZ rb).below h f) hv k g0 g1 m m1 Z ⟨fun h=>absurd h Z,aD _,fun _=>⟨rfl,rfl⟩⟩).mono ?_;rintro e c ⟨b,rfl,t,tn⟩
  obtain⟨_,y1,d⟩:=oA h f i l t tn (uQ _ _ _ _ _ _)
  exact⟨b,rfl,y1,d⟩
 generalize s.bZ g b_ bZ 5 []=gr at*;obtain⟨⟨v0,v1⟩,cd,D⟩:=gr;dsimp only at j⊢;clear h hv k f i l q1 o q3 p q;go_enter func136,ntmps136;go_wp2_with fail;refine j.mono ?_;clear j;rintro e c ⟨b,rfl,y1,d⟩
 obtain⟨r0,r1,E,lw⟩:=di y1;have u:ay (_=_):=y1;clear y1;go_wp2_with fail;obtain⟨x,C,_,_⟩:=di (gz (v1:=ah v0) (v2:=ah v1) u.o)
 exact a4 (v:=.tuple #[.agg #[ah v0,ah v1],ah cd]) (by simp[results,results136,go_sem,x,C]) rfl ⟨b,rfl,dr.set2 _ d.o.1 d.o.2.2 _ _,d.o.2.1.set2 (Nat.le_succ _) _ _⟩
theorem JC (h:(cx bY b_ bZ rb).J F s w)(R B I n:Int)(A:Nat)(b:A<12):
 Calls prog 136 #[aj bY,dK 3 R A B I n] w fun e w'=>e=.returned (.tuple #[.agg #[ah (s.rs.getD A (0,0)).1,ah (s.rs.getD A (0,0)).2],ah 0])/\Below w.heap.size w w':=by
 obtain⟨q,d,f,t,rt,K,L⟩:=lM h 3 R A B I n;obtain⟨u,x⟩:=rt A b;obtain⟨q0,q1,C,q3,D,E⟩:=eu d;obtain⟨g,c,i,j⟩:=jZ h;have G:=(cx bY b_ bZ rb).lt h _ i;have k:=(cx bY b_ bZ rb).lt h _ j;have b2:Below w.heap.size w ((w.alloc (cz 3 R A B I n)).alloc (.cells #[.int .i64 (s.rs.getD A (0,0)).1,.int .i64 (s.rs.getD A (0,0)).2] 97)):=(bX.alloc bW _).alloc Z _;have m1:=(b2.cell (p:=aq bY 6) G).trans g;have l:=(b2.cell (p:=aq rb (A*2)) k).trans (c A b).1;have m:=(b2.cell (p:=aq rb (A*2+1)) k).trans (c A b).2;have o:((w.alloc (cz 3 R A B I n)).alloc (.cells #[.int .i64 (s.rs.getD A (0,0)).1,.int .i64 (s.rs.getD A (0,0)).2] 97)).cell? (aq w.heap.size 2)=some (ah A):=(eu ((aS _ _ _ Z).trans (aO w _))).2.2.1;have H:ay (Below w.heap.size w ((w.alloc (cz 3 R A B I n)).alloc (.cells #[.int .i64 (s.rs.getD A (0,0)).1,.int .i64 (s.rs.getD A (0,0)).2] 97)).drew):=b2.drew;have J:ay ((((w.alloc (cz 3 R A B I n)).alloc (.cells #[.int .i64 (s.rs.getD A (0,0)).1,.int .i64 (s.rs.getD A (0,0)).2] 97)).cell? (aq bY 6)=some (.slice (ak rb) 12 12))/\((w.alloc (cz 3 R A B I n)).alloc (.cells #[.int .i64 (s.rs.getD A (0,0)).1,.int .i64 (s.rs.getD A (0,0)).2] 97)).cell? (aq rb (A*2))=some (ah (s.rs.getD A (0,0)).1)/\((w.alloc (cz 3 R A B I n)).alloc (.cells #[.int .i64 (s.rs.getD A (0,0)).1,.int .i64 (s.rs.getD A (0,0)).2] 97)).cell? (aq rb (A*2+1))=some (ah (s.rs.getD A (0,0)).2)/\((w.alloc (cz 3 R A B I n)).alloc (.cells #[.int .i64 (s.rs.getD A (0,0)).1,.int .i64 (s.rs.getD A (0,0)).2] 97)).cell? (aq w.heap.size 2)=some (ah A)):=⟨m1,l,m,o⟩
 clear m1 l m o b2 g c;obtain⟨r0,r1,M,lw⟩:=di f;generalize (s.rs.getD A (0,0)).1=a0 at*;generalize (s.rs.getD A (0,0)).2=a1 at*;have N:(0:Int)<=(A:Int):=V;have O:(A:Int)<12:=V;clear h q d f rt q1 q3 D E i j;go_enter func136,ntmps136;go_wp2_with fail
 go_region_held3 (fun w'=>w'.cell? (aq bY 6)=some (.slice (ak rb) 12 12)/\w'.cell? (aq rb (A*2))=some (ah a0)/\w'.cell? (aq rb (A*2+1))=some (ah a1)/\w'.cell? (aq w.heap.size 2)=some (ah A)) (first|exact J.o|(go_keep;done)) (fail)
 all_goals
  clear t u x C ‹_/\_›;go_wp2_with fail;exact a4 (v:=.tuple #[.agg #[ah a0,ah a1],ah 0]) (by simp[results,results136,go_sem]) rfl ⟨rfl,H.o⟩
theorem JD (h:(cx bY b_ bZ rb).J F s w)(R I n:Int)(A B:Nat)(i:A<12)(hB:B<12):
 Calls prog 136 #[aj bY,dK 14 R A B I n] w fun e w'=>e=.returned (.tuple #[.agg #[ah 1,ah (if s.rs.getD A (0,0)=s.rs.getD B (0,0) then 1 else 0)],ah 0])/\Below w.heap.size w w':=by
 obtain⟨c,j,l,C,rt,D,d⟩:=lM h 14 R A B I n;have m:Calls prog 209 #[.agg #[ah (s.rs.getD A (0,0)).1,ah (s.rs.getD A (0,0)).2],.agg #[ah (s.rs.getD B (0,0)).1,ah (s.rs.getD B (0,0)).2]] (f_ w 14 R A B I n).drew fun e b=>e=.returned (.agg #[ah 1,ah (if s.rs.getD A (0,0)=s.rs.getD B (0,0) then 1 else 0)])/\
  (b.cell? (aq bY 6)=some (.slice (ak rb) 12 12)/\b.cell? (aq rb (A*2))=some (ah (s.rs.getD A (0,0)).1)/\b.cell? (aq rb (A*2+1))=some (ah (s.rs.getD A (0,0)).2)/\b.cell? (aq rb (B*2))=some (ah (s.rs.getD B (0,0)).1)/\b.cell? (aq rb (B*2+1))=some (ah (s.rs.getD B (0,0)).2)/\b.cell? (aq w.heap.size 2)=some (ah A)/\b.cell? (aq w.heap.size 3)=some (ah B))/\
  ay (b.heap[w.heap.size+1]?=some (.cells #[ah 0,ah 0] 97 (0,0))/\Below w.heap.size w b):=by
  refine(H8 _ _ _).mono ?_;rintro e b ⟨rfl,hb⟩
  obtain⟨⟨f,g,E⟩,y1,X⟩:=oA h c.drew j l ((cx bY b_ bZ rb).below ((cx bY b_ bZ rb).below h c.drew) hb) (b8.of hb) rfl;obtain⟨_,_,G,H,_,_⟩:=eu E;exact⟨rfl,⟨f,(g A i).1,(g A i).2,(g B hB).1,(g B hB).2,G,H⟩,y1,c.drew.trans (hb.mono c.drew.size)⟩
 obtain⟨J,K⟩:=rt A i;obtain⟨L,M⟩:=rt B hB;obtain⟨q0,q1,N,q3,O,P⟩:=eu j;generalize (if s.rs.getD A (0,0)=s.rs.getD B (0,0) then(1:Int) else 0)=v1 at*;generalize (s.rs.getD A (0,0)).1=a0 at*;generalize (s.rs.getD A (0,0)).2=a1 at*;generalize (s.rs.getD B (0,0)).1=Q at*;generalize (s.rs.getD B (0,0)).2=S at*;have Y:(0:Int)<=(A:Int):=V;have ab:(A:Int)<12:=V;have ad:(0:Int)<=(B:Int):=V;have ag:(B:Int)<12:=V;have nx:w.heap.size≠w.heap.size+1:=V;clear h c j l rt q1 O P;go_enter func136,ntmps136;go_wp2_with fail
 go_region_held3 (fun w'=>w'.cell? (aq bY 6)=some (.slice (ak rb) 12 12)/\w'.cell? (aq rb (A*2))=some (ah a0)/\w'.cell? (aq rb (A*2+1))=some (ah a1)/\w'.cell? (aq rb (B*2))=some (ah Q)/\w'.cell? (aq rb (B*2+1))=some (ah S)/\w'.cell? (aq w.heap.size 2)=some (ah A)/\w'.cell? (aq w.heap.size 3)=some (ah B)) (first|exact⟨ff D o,ff d p,ff d q,ff d t,ff d u,ff nx f,ff nx x⟩|(go_keep;done))
  (first|(go_at_call 209;refine m.mono ?_;clear m;rintro e b ⟨rfl,⟨o,p,q,t,u,f,x⟩,k⟩;obtain⟨r0,r1,ai,lw⟩:=di k.o.1;clear C J K L M N q3))
 all_goals
  clear o p q t u f x ‹_/\_›;go_wp2_with fail;obtain⟨U,W,_,_⟩:=di (gz (v1:=ah 1) (v2:=ah v1) k.o.1)
  exact a4 (v:=.tuple #[.agg #[ah 1,ah v1],ah 0]) (by simp[results,results136,go_sem,U,W]) rfl ⟨rfl,(k.o.2.setCell Z _).setCell Z _⟩
end
section
variable {bY rb:Nat}{b_ bZ:Int}{F:Nat->Prop}{s:ck}{w:ax}{g:gP}
theorem JE (h:(cx bY b_ bZ rb).J F s w)(hv:fI s)(x:dR s.T s.wt (g s.T s.wt))(g0:-1000000<=bZ)(g1:bZ<=1000000)(X:-1000000<=b_)(m1:b_<=1000000)(R B I:Int)(A n:Nat)(j:A<12)(hn:n<=12):
 Calls prog 136 #[aj bY,dK 5 R A B I n] w fun e w'=>∃c,e=.returned (.tuple #[.agg #[ah (s.bZ g b_ bZ 2 (List.replicate n (s.rs.getD A (0,0)))).1.1,ah (s.bZ g b_ bZ 2 (List.replicate n (s.rs.getD A (0,0)))).1.2],ah (s.bZ g b_ bZ 2 (List.replicate n (s.rs.getD A (0,0)))).2.1])/\(cx bY b_ bZ rb).J c (s.bZ g b_ bZ 2 (List.replicate n (s.rs.getD A (0,0)))).2.2 w'/\b8 F w c w':=by
 obtain⟨C,m,o,Y,rt,ab,D⟩:=lM h 5 R A B I n;have l:(f_ w 5 R A B I n).drew.heap.size=w.heap.size+1+1:=by simp[World.drew]
 have p:Calls prog 131 #[.slice (ak (w.heap.size+1+1)) 1 1,ah n] ((f_ w 5 R A B I n).drew.alloc (.cells #[.int .i64 (s.rs.getD A (0,0)).1,.int .i64 (s.rs.getD A (0,0)).2] 97)) fun e d=>∃nb,e=.returned (.slice (ak nb) n n)/\
  (d.cell? (aq bY 6)=some (.slice (ak rb) 12 12)/\d.cell? (aq rb (A*2))=some (ah (s.rs.getD A (0,0)).1)/\d.cell? (aq rb (A*2+1))=some (ah (s.rs.getD A (0,0)).2)/\d.cell? (aq w.heap.size 2)=some (ah A)/\d.cell? (aq w.heap.size 5)=some (ah n))/\
  Calls prog 206 #[aj bY,ah 2,.slice (ak nb) n n] d fun e f=>∃c,e=.returned (.tuple #[.agg #[ah (s.bZ g b_ bZ 2 (List.replicate n (s.rs.getD A (0,0)))).1.1,ah (s.bZ g b_ bZ 2 (List.replicate n (s.rs.getD A (0,0)))).1.2],ah (s.bZ g b_ bZ 2 (List.replicate n (s.rs.getD A (0,0)))).2.1])/\
  (f.cell? (aq bY 6)=some (.slice (ak rb) 12 12)/\f.cell? (aq rb (A*2))=some (ah (s.rs.getD A (0,0)).1)/\f.cell? (aq rb (A*2+1))=some (ah (s.rs.getD A (0,0)).2)/\f.cell? (aq w.heap.size 2)=some (ah A)/\f.cell? (aq w.heap.size 5)=some (ah n))/\
  f.heap[w.heap.size+1]?=some (.cells #[ah 0,ah 0] 97 (0,0))/\ay ((cx bY b_ bZ rb).J c (s.bZ g b_ bZ 2 (List.replicate n (s.rs.getD A (0,0)))).2.2 f/\b8 F w c f/\¬c (w.heap.size+1)):=by
  have b1:Below w.heap.size w ((f_ w 5 R A B I n).drew.alloc (.cells #[.int .i64 (s.rs.getD A (0,0)).1,.int .i64 (s.rs.getD A (0,0)).2] 97)):=C.drew.alloc (by rw[l];omega) _;have E:=aO (f_ w 5 R A B I n).drew (.cells #[.int .i64 (s.rs.getD A (0,0)).1,.int .i64 (s.rs.getD A (0,0)).2] 97)
  rw[l] at E;obtain⟨z0,ag,_,_⟩:=di E;refine(AQ _ (w.heap.size+1+1) n (s.rs.getD A (0,0)) hn z0 ag).mono ?_;rintro e d ⟨nb,rfl,bo,q,G⟩
  have b2:Below w.heap.size w d:=b1.trans (G.mono b1.size)
  have l0:w.heap.size+1<(f_ w 5 R A B I n).heap.size:=lt_of_some o;have H:∀b,b<w.heap.size+1+1->d.heap[b]?=(f_ w 5 R A B I n).heap[b]?:=fun b hb=>(G.block b (by simp;omega)).trans (aS (f_ w 5 R A B I n).drew _ b (by rw[l];exact hb))
  have J:=(H _ V).trans m;have y1:=(H (w.heap.size+1) V).trans o;have K:=(cx bY b_ bZ rb).below h b2;obtain⟨ai,L,_,_⟩:=jZ K;obtain⟨_,_,al,_,_,am⟩:=eu J;refine⟨nb,rfl,⟨ai,(L A j).1,(L A j).2,al,am⟩,?_⟩
  have t:(List.replicate n (s.rs.getD A (0,0))).length=n:=List.length_replicate;have P:=uP (g:=g) (kd:=2) (fl:=List.replicate n (s.rs.getD A (0,0))) (ad:=ak nb) (cap:=n) K hv x g0 g1 X m1 (by rw[t];exact hn) ⟨fun _=>⟨nb,0,rfl,lt_of_some q,fun i hi=>by
   obtain⟨k1,u⟩:=nN _ i hi;constructor
   ·simp only [World.cell?,q,Nat.zero_add];simpa using k1
   ·simp only [World.cell?,q,Nat.zero_add];simpa using u⟩,by rw[t];exact aD _,fun e=>by cases e⟩
  rw[t] at P;refine P.mono ?_;rintro e f ⟨c,rfl,an,tn⟩
  obtain⟨⟨ao,M,ap⟩,ar,k⟩:=oA h b2 J y1 an tn (uQ _ _ _ _ _ _)
  obtain⟨_,_,aB,_,_,aF⟩:=eu ap;exact⟨c,rfl,⟨ao,(M A j).1,(M A j).2,aB,aF⟩,ar,k⟩
 obtain⟨aR,aV⟩:=rt A j;obtain⟨q0,q1,a2,q3,bb,bd⟩:=eu m;generalize s.bZ g b_ bZ 2 (List.replicate n (s.rs.getD A (0,0)))=gr at*;obtain⟨⟨v0,v1⟩,cd,bp⟩:=gr;dsimp only at p⊢;generalize (s.rs.getD A (0,0)).1=a0 at*;generalize (s.rs.getD A (0,0)).2=a1 at*;have br:(0:Int)<=(A:Int):=V;have bs:(A:Int)<12:=V;have bt:(n:Int)<=12:=V;have nx:w.heap.size≠w.heap.size+1:=V;clear h hv x C m o rt q1 q3 bb l;go_enter func136,ntmps136;go_wp2_with fail
 go_region_held3 (fun w'=>w'.cell? (aq bY 6)=some (.slice (ak rb) 12 12)/\w'.cell? (aq rb (A*2))=some (ah a0)/\w'.cell? (aq rb (A*2+1))=some (ah a1)/\w'.cell? (aq w.heap.size 2)=some (ah A)/\w'.cell? (aq w.heap.size 5)=some (ah n)) (first|exact⟨ff ab N,ff D O,ff D Q,ff nx S,ff nx U⟩|(go_keep;done))
  (first|(go_at_call 131;refine p.mono ?_;clear p;rintro e d ⟨nb,rfl,⟨k1,u,be,bg,k5⟩,W⟩;clear Y aR aV a2 bd)|(go_at_call 206;refine W.mono ?_;clear W;rintro e f ⟨c,rfl,⟨N,O,Q,S,U⟩,y1,k⟩;obtain⟨r0,r1,bx,lw⟩:=di y1;have bi:ay (_=_):=y1;clear y1 k1 u be bg k5))
 all_goals
  clear N O Q S U ‹_/\_›;go_wp2_with fail;obtain⟨bl,bn,_,_⟩:=di (gz (v1:=ah v0) (v2:=ah v1) bi.o)
  exact a4 (v:=.tuple #[.agg #[ah v0,ah v1],ah cd]) (by simp[results,results136,go_sem,bl,bn]) rfl ⟨c,rfl,dr.set2 _ k.o.1 k.o.2.2 _ _,k.o.2.1.set2 (Nat.le_succ _) _ _⟩
end
theorem JF {R A B n:Int}(h:dJ 5 R A B n=0):0<=n/\n<=12:=by
 have b:gS 5 n=0:=by
  unfold dJ at h;rw[aG aa] at h;split at h
  ·omega
  ·exact h
 unfold gS at b;rw[aG aa,aI rfl] at b;unfold hc at b
 ·split at b<;>omega
section
variable {bY rb:Nat}{b_ bZ:Int}{F:Nat->Prop}{s:ck}{w:ax}{g:gP}
theorem JG (h:(cx bY b_ bZ rb).J F s w)(hv:fI s)(c:dR s.T s.wt (g s.T s.wt))(g0:-1000000<=bZ)(g1:bZ<=1000000)(d:-1000000<=b_)(m1:b_<=1000000)(k R A B I n:Int)(hk:dJ k R A B n=0)(l:k≠9)(o:k≠12)(p:k≠15)(e16:k≠16):
 Calls prog 136 #[aj bY,dK k R A B I n] w fun e w'=>∃f,e=.returned (.tuple #[.agg #[ah (s.rt g b_ bZ k A.toNat B.toNat I n).1.1,ah (s.rt g b_ bZ k A.toNat B.toNat I n).1.2],ah (s.rt g b_ bZ k A.toNat B.toNat I n).2.1])/\(cx bY b_ bZ rb).J f (s.rt g b_ bZ k A.toNat B.toNat I n).2.2 w'/\b8 F w f w':=by
 have two:∀k,c8 k=7->dJ k R A B n=0->∃a b:Nat,A=a/\B=b/\a<12/\b<12:=fun k i hc=>by
  have q:=ly hc (aJ (aJ i))
  have v:=l5 hc (aJ i)
  exact⟨A.toNat,B.toNat,V,V,V,V⟩
 have one:∀k,c8 k=3->dJ k R A B n=0->∃a:Nat,A=a/\a<12:=fun k i hc=>by
  have q:=ly hc (aK i)
  exact⟨A.toNat,V,V⟩
 have low:∀(t:(Int×Int)×Int×ck),t.2.2=s->∀(e:Ending)(w':ax),(e=.returned (.tuple #[.agg #[ah t.1.1,ah t.1.2],ah t.2.1])/\Below w.heap.size w w')->∃f,e=.returned (.tuple #[.agg #[ah t.1.1,ah t.1.2],ah t.2.1])/\(cx bY b_ bZ rb).J f t.2.2 w'/\b8 F w f w':=by
  rintro t u e w' ⟨rfl,hb⟩
  rw[u];exact⟨F,rfl,(cx bY b_ bZ rb).below h hb,b8.of hb⟩
 have no:(k<1\/16<k)->False:=fun j=>by unfold dJ at hk;rw[aI (o7 j)] at hk;omega
 rcases o6 k with rfl|rfl|rfl|rfl|rfl|rfl|rfl|rfl|rfl|rfl|rfl|rfl|rfl|rfl|rfl|rfl|j
 ·have e:s.rt g b_ bZ 1 A.toNat B.toNat I n=((1,n),0,s):=by simp[ck.rt]
  rw[e];exact(Jz h R A B I n).mono (low ((1,n),0,s) rfl)
 ·have e:s.rt g b_ bZ 2 A.toNat B.toNat I n=((0,0),0,s):=by simp[ck.rt]
  rw[e];exact(JA h R A B I n).mono (low ((0,0),0,s) rfl)
 ·obtain⟨a,rfl,ha⟩:=one 3 aa hk;have e:s.rt g b_ bZ 3 (a:Int).toNat B.toNat I n=(s.rs.getD a (0,0),0,s):=by simp[ck.rt]
  rw[e];exact(JC h R B I n a ha).mono (low (s.rs.getD a (0,0),0,s) rfl)
 ·obtain⟨a,b,rfl,rfl,ha,hb⟩:=two 4 aa hk;have e:s.rt g b_ bZ 4 (a:Int).toNat (b:Int).toNat I n=s.bZ g b_ bZ 1 [s.rs.getD a (0,0),s.rs.getD b (0,0)]:=by simp[ck.rt]
  rw[e];exact uR h hv c g0 g1 d m1 R I n (aK ⟨rfl,rfl⟩) a b ha hb
 ·obtain⟨a,rfl,ha⟩:=one 5 aa hk;have hn:=JF hk;obtain⟨m,rfl⟩:=Int.eq_ofNat_of_zero_le hn.1;have e:s.rt g b_ bZ 5 (a:Int).toNat B.toNat I m=s.bZ g b_ bZ 2 (List.replicate m (s.rs.getD a (0,0))):=by simp[ck.rt]
  rw[e];exact JE h hv c g0 g1 d m1 R B I a m ha V
 ·obtain⟨a,b,rfl,rfl,ha,hb⟩:=two 6 aa hk;have e:s.rt g b_ bZ 6 (a:Int).toNat (b:Int).toNat I n=s.bZ g b_ bZ 3 [s.rs.getD a (0,0),s.rs.getD b (0,0)]:=by simp[ck.rt]
  rw[e];exact uR h hv c g0 g1 d m1 R I n (aJ (aK ⟨rfl,rfl⟩)) a b ha hb
 ·obtain⟨a,b,rfl,rfl,ha,hb⟩:=two 7 aa hk;have e:s.rt g b_ bZ 7 (a:Int).toNat (b:Int).toNat I n=s.bZ g b_ bZ 4 [s.rs.getD a (0,0),s.rs.getD b (0,0)]:=by simp[ck.rt]
  rw[e];exact uR h hv c g0 g1 d m1 R I n (aJ (aJ ⟨rfl,rfl⟩)) a b ha hb
 ·have e:s.rt g b_ bZ 8 A.toNat B.toNat I n=s.bZ g b_ bZ 5 []:=by simp[ck.rt]
  rw[e];exact JB h hv c g0 g1 d m1 R A B I n
 ·exact absurd rfl l
 ·obtain⟨a,rfl,ha⟩:=one 10 aa hk;have e:s.rt g b_ bZ 10 (a:Int).toNat B.toNat I n=s.pop (s.rs.getD a (0,0)):=by simp[ck.rt]
  rw[e];exact Jw h hv R B I n a ha
 ·obtain⟨a,rfl,ha⟩:=one 11 aa hk;have e:s.rt g b_ bZ 11 (a:Int).toNat B.toNat I n=s.gt (s.rs.getD a (0,0)) I:=by simp[ck.rt,ck.gt]
  rw[e];exact Jx h hv R B I n a ha
 ·exact absurd rfl o
 ·obtain⟨a,rfl,ha⟩:=one 13 aa hk;have e:s.rt g b_ bZ 13 (a:Int).toNat B.toNat I n=s.ln (s.rs.getD a (0,0)):=by simp[ck.rt,ck.ln]
  rw[e];exact Jy h hv R B I n a ha
 ·obtain⟨a,b,rfl,rfl,ha,hb⟩:=two 14 aa hk;have e:s.rt g b_ bZ 14 (a:Int).toNat (b:Int).toNat I n=((1,if s.rs.getD a (0,0)=s.rs.getD b (0,0) then 1 else 0),0,s):=by simp[ck.rt]
  rw[e];exact(JD h R I n a b ha hb).mono (low ((1,if s.rs.getD a (0,0)=s.rs.getD b (0,0) then 1 else 0),0,s) rfl)
 ·exact absurd rfl p
 ·exact absurd rfl e16
 ·exact(no j).elim
end
section
variable {bY rb:Nat}{b_ bZ:Int}{F:Nat->Prop}{w:ax}
theorem JH (k R A B I n:Int)(hc:dJ k R A B n≠0):
 Calls prog 68 #[aj bY,dK k R A B I n] w fun e w'=>e=.returned (ah (dJ k R A B n))/\Below w.heap.size w w':=by
 have c:=jx k R A B I n (w.alloc (cz k R A B I n))
 have b:=hide (au w (cz k R A B I n))
 go_enter func68,ntmps68;go_wp2_with fail;refine c.mono ?_;rintro e w1 ⟨rfl,d⟩
 have f:=b.o.trans (d.mono b.o.size)
 go_wp2_with fail;go_ret;exact⟨rfl,f⟩
theorem AS (k R A B I n:Int)(hk:k=15\/k=16)(hc:dJ k R A B n=0)(cd:Int)(d:ck)
 (v:k=15->∀w',Below w.heap.size w w'->Calls prog 134 #[aj bY] w' fun e b=>∃F2,e=.returned (ah cd)/\(cx bY b_ bZ rb).J F2 d b/\b8 F w' F2 b)(x:k=16->∀w',Below w.heap.size w w'->Calls prog 135 #[aj bY] w' fun e b=>∃F2,e=.returned (ah cd)/\(cx bY b_ bZ rb).J F2 d b/\b8 F w' F2 b):
 Calls prog 68 #[aj bY,dK k R A B I n] w fun e w'=>∃p,e=.returned (ah cd)/\(cx bY b_ bZ rb).J p d w'/\b8 F w p w':=by
 have q:=au w (cz k R A B I n)
 have s:=aO w (.cells #[.int .i64 k,.int .i64 R,.int .i64 A,.int .i64 B,.int .i64 I,.int .i64 n] 44)
 have f:=jx k R A B I n (w.alloc (cz k R A B I n))
 rw[hc] at f;have t:ay (∀w1,Below (w.alloc (cz k R A B I n)).heap.size (w.alloc (cz k R A B I n)) w1->_/\w1.heap[w.heap.size]?=some (cz k R A B I n)):=fun w1 hb=>⟨q.trans (hb.mono q.size),(hb.block _ (lt_of_some s)).trans s⟩
 rcases hk with rfl|rfl
 ·have g:ay (_):=v rfl;go_enter func68,ntmps68;go_wp2_with fail;refine f.mono ?_;rintro e w1 ⟨rfl,i⟩
  obtain⟨c,j⟩:=t.o w1 i;obtain⟨q0,q1,C,q3,D,E⟩:=eu j;have P:=g.o w1 c;have l:ay (b8 F w F w1):=b8.of c;go_wp2_with fail;refine P.mono ?_;rintro e u ⟨F2,rfl,m,o⟩
  have HF:ay (_/\b8 F w F2 u):=⟨m,l.o.trans o⟩
  exact ni
 ·have g:ay (_):=x rfl;go_enter func68,ntmps68;go_wp2_with fail;refine f.mono ?_;rintro e w1 ⟨rfl,i⟩
  obtain⟨c,j⟩:=t.o w1 i;obtain⟨q0,q1,C,q3,D,E⟩:=eu j;have P:=g.o w1 c;have l:ay (b8 F w F w1):=b8.of c;go_wp2_with fail;refine P.mono ?_;rintro e u ⟨F2,rfl,m,o⟩
  have HF:=dq m (l.o.trans o)
  exact ni
end
section
variable {bY rb:Nat}{b_ bZ:Int}{F:Nat->Prop}{s:ck}{w:ax}
theorem JJ (h:(cx bY b_ bZ rb).J F s w)(R I n:Int)(A B:Nat)(i:A<12)(hB:B<12)(hc:dJ 9 R A B n=0)(cd:Int)(j:ck)(q:j.rs=s.rs)
 (t:∀w',Below w.heap.size w w'->Calls prog 132 #[aj bY,.agg #[ah (s.rs.getD A (0,0)).1,ah (s.rs.getD A (0,0)).2],.agg #[ah (s.rs.getD B (0,0)).1,ah (s.rs.getD B (0,0)).2]] w' fun e u=>∃d,e=.returned (ah cd)/\(cx bY b_ bZ rb).J d j u/\b8 F w' d u):
 Calls prog 68 #[aj bY,dK 9 R A B I n] w fun e w'=>∃v,e=.returned (ah cd)/\(cx bY b_ bZ rb).J v j w'/\b8 F w v w':=by
 have l:=au w (cz 9 R A B I n)
 have m:=aO w (.cells #[.int .i64 9,.int .i64 R,.int .i64 (A:Int),.int .i64 (B:Int),.int .i64 I,.int .i64 n] 44)
 have o:=jx 9 R A B I n (w.alloc (cz 9 R A B I n))
 rw[hc] at o;have fT:∀b,F b->b<w.heap.size:=fun b hb=>(cx bY b_ bZ rb).lt h b hb;have x:ay (∀w1,Below (w.alloc (cz 9 R A B I n)).heap.size (w.alloc (cz 9 R A B I n)) w1->(w1.cell? (aq bY 6)=some (.slice (ak rb) 12 12)/\w1.cell? (aq rb (A*2))=some (ah (s.rs.getD A (0,0)).1)/\w1.cell? (aq rb (A*2+1))=some (ah (s.rs.getD A (0,0)).2)/\w1.cell? (aq rb (B*2))=some (ah (s.rs.getD B (0,0)).1)/\w1.cell? (aq rb (B*2+1))=some (ah (s.rs.getD B (0,0)).2)/\w1.heap[w.heap.size]?=some (cz 9 R A B I n))/\
  Calls prog 132 #[aj bY,.agg #[ah (s.rs.getD A (0,0)).1,ah (s.rs.getD A (0,0)).2],.agg #[ah (s.rs.getD B (0,0)).1,ah (s.rs.getD B (0,0)).2]] w1.drew fun e c=>∃d,e=.returned (ah cd)/\(c.cell? (aq bY 6)=some (.slice (ak rb) 12 12)/\c.cell? (aq rb (A*2))=some (ah (s.rs.getD A (0,0)).1)/\c.cell? (aq rb (A*2+1))=some (ah (s.rs.getD A (0,0)).2)/\c.cell? (aq rb (B*2))=some (ah (s.rs.getD B (0,0)).1)/\c.cell? (aq rb (B*2+1))=some (ah (s.rs.getD B (0,0)).2)/\c.cell? (aq w.heap.size 2)=some (ah A)/\c.cell? (aq w.heap.size 3)=some (ah B))/\ay ((cx bY b_ bZ rb).J d j c/\b8 F w d c)):=fun w1 hb=>by
  have p:Below w.heap.size w w1:=l.trans (hb.mono l.size)
  have f:=(hb.block _ (lt_of_some m)).trans m;obtain⟨O,rt,_,_⟩:=jZ ((cx bY b_ bZ rb).below h p)
  refine⟨⟨O,(rt A i).1,(rt A i).2,(rt B hB).1,(rt B hB).2,f⟩,(t w1.drew p.drew).mono ?_⟩
  rintro e c ⟨d,rfl,C,tn⟩
  obtain⟨k,g,_,_⟩:=jZ C;rw[q] at g;have P:=(tn.fr.block w.heap.size (lt_of_some f) (fun Q=>by have:=fT _ Q;omega)).trans f;obtain⟨_,_,S,U,am,_⟩:=eu P;exact⟨d,rfl,⟨k,(g A i).1,(g A i).2,(g B hB).1,(g B hB).2,S,U⟩,C,(b8.of p.drew).trans tn⟩
 generalize (s.rs.getD A (0,0)).1=a0 at*;generalize (s.rs.getD A (0,0)).2=a1 at*;generalize (s.rs.getD B (0,0)).1=W at*;generalize (s.rs.getD B (0,0)).2=X at*;have an:(0:Int)<=(A:Int):=V;have ao:(A:Int)<12:=V;have ap:(0:Int)<=(B:Int):=V;have ar:(B:Int)<12:=V;clear h l m hc fT t q;go_enter func68,ntmps68;go_wp2_with fail;refine o.mono ?_;clear o;rintro e w1 ⟨rfl,D⟩
 obtain⟨⟨k1,Y,ab,ad,k5,f⟩,E⟩:=x.o w1 D;obtain⟨q0,q1,ag,q3,ai,al⟩:=eu f;clear D f x q1 al ai;go_wp2_with fail
 go_region_held3 (fun w'=>w'.cell? (aq bY 6)=some (.slice (ak rb) 12 12)/\w'.cell? (aq rb (A*2))=some (ah a0)/\w'.cell? (aq rb (A*2+1))=some (ah a1)/\w'.cell? (aq rb (B*2))=some (ah W)/\w'.cell? (aq rb (B*2+1))=some (ah X)/\w'.cell? (aq w.heap.size 2)=some (ah A)/\w'.cell? (aq w.heap.size 3)=some (ah B)) (first|exact⟨G,H,J,K,L,k,M⟩|(go_keep;done))
  (first|(go_at_call 132;refine E.mono ?_;clear E;rintro e c ⟨d,rfl,⟨G,H,J,K,L,k,M⟩,N⟩;clear k1 Y ab ad k5 ag q3))
 all_goals
  clear G H J K L k M ‹_/\_›;go_wp2_with fail;go_ret;exact⟨d,rfl,N.o.1,N.o.2⟩
theorem JK (h:(cx bY b_ bZ rb).J F s w)(R I n:Int)(A B:Nat)(i:A<12)(hB:B<12)(hc:dJ 12 R A B n=0)(cd:Int)(j:ck)(q:j.rs=s.rs)
 (t:∀w',Below w.heap.size w w'->Calls prog 133 #[aj bY,.agg #[ah (s.rs.getD A (0,0)).1,ah (s.rs.getD A (0,0)).2],ah I,.agg #[ah (s.rs.getD B (0,0)).1,ah (s.rs.getD B (0,0)).2]] w' fun e u=>∃d,e=.returned (ah cd)/\(cx bY b_ bZ rb).J d j u/\b8 F w' d u):
 Calls prog 68 #[aj bY,dK 12 R A B I n] w fun e w'=>∃v,e=.returned (ah cd)/\(cx bY b_ bZ rb).J v j w'/\b8 F w v w':=by
 have l:=au w (cz 12 R A B I n)
 have m:=aO w (.cells #[.int .i64 12,.int .i64 R,.int .i64 (A:Int),.int .i64 (B:Int),.int .i64 I,.int .i64 n] 44)
 have o:=jx 12 R A B I n (w.alloc (cz 12 R A B I n))
 rw[hc] at o;have fT:∀b,F b->b<w.heap.size:=fun b hb=>(cx bY b_ bZ rb).lt h b hb;have x:ay (∀w1,Below (w.alloc (cz 12 R A B I n)).heap.size (w.alloc (cz 12 R A B I n)) w1->(w1.cell? (aq bY 6)=some (.slice (ak rb) 12 12)/\w1.cell? (aq rb (A*2))=some (ah (s.rs.getD A (0,0)).1)/\w1.cell? (aq rb (A*2+1))=some (ah (s.rs.getD A (0,0)).2)/\w1.cell? (aq rb (B*2))=some (ah (s.rs.getD B (0,0)).1)/\w1.cell? (aq rb (B*2+1))=some (ah (s.rs.getD B (0,0)).2)/\w1.heap[w.heap.size]?=some (cz 12 R A B I n))/\
  Calls prog 133 #[aj bY,.agg #[ah (s.rs.getD A (0,0)).1,ah (s.rs.getD A (0,0)).2],ah I,.agg #[ah (s.rs.getD B (0,0)).1,ah (s.rs.getD B (0,0)).2]] w1.drew fun e c=>∃d,e=.returned (ah cd)/\(c.cell? (aq bY 6)=some (.slice (ak rb) 12 12)/\c.cell? (aq rb (A*2))=some (ah (s.rs.getD A (0,0)).1)/\c.cell? (aq rb (A*2+1))=some (ah (s.rs.getD A (0,0)).2)/\c.cell? (aq rb (B*2))=some (ah (s.rs.getD B (0,0)).1)/\c.cell? (aq rb (B*2+1))=some (ah (s.rs.getD B (0,0)).2)/\c.cell? (aq w.heap.size 2)=some (ah A)/\c.cell? (aq w.heap.size 3)=some (ah B)/\c.cell? (aq w.heap.size 4)=some (ah I))/\ay ((cx bY b_ bZ rb).J d j c/\b8 F w d c)):=fun w1 hb=>by
  have p:Below w.heap.size w w1:=l.trans (hb.mono l.size)
  have f:=(hb.block _ (lt_of_some m)).trans m;obtain⟨P,rt,_,_⟩:=jZ ((cx bY b_ bZ rb).below h p)
  refine⟨⟨P,(rt A i).1,(rt A i).2,(rt B hB).1,(rt B hB).2,f⟩,(t w1.drew p.drew).mono ?_⟩
  rintro e c ⟨d,rfl,C,tn⟩
  obtain⟨k,g,_,_⟩:=jZ C;rw[q] at g;have Q:=(tn.fr.block w.heap.size (lt_of_some f) (fun S=>by have:=fT _ S;omega)).trans f;obtain⟨_,_,U,W,X,_⟩:=eu Q;exact⟨d,rfl,⟨k,(g A i).1,(g A i).2,(g B hB).1,(g B hB).2,U,W,X⟩,C,(b8.of p.drew).trans tn⟩
 generalize (s.rs.getD A (0,0)).1=a0 at*;generalize (s.rs.getD A (0,0)).2=a1 at*;generalize (s.rs.getD B (0,0)).1=Y at*;generalize (s.rs.getD B (0,0)).2=ab at*;have ao:(0:Int)<=(A:Int):=V;have ap:(A:Int)<12:=V;have ar:(0:Int)<=(B:Int):=V;have aB:(B:Int)<12:=V;clear h l m hc fT t q;go_enter func68,ntmps68;go_wp2_with fail;refine o.mono ?_;clear o;rintro e w1 ⟨rfl,D⟩
 obtain⟨⟨k1,ad,ag,ai,k5,f⟩,E⟩:=x.o w1 D;obtain⟨q0,q1,al,q3,am,an⟩:=eu f;clear D f x q1 an;go_wp2_with fail
 go_region_held3 (fun w'=>w'.cell? (aq bY 6)=some (.slice (ak rb) 12 12)/\w'.cell? (aq rb (A*2))=some (ah a0)/\w'.cell? (aq rb (A*2+1))=some (ah a1)/\w'.cell? (aq rb (B*2))=some (ah Y)/\w'.cell? (aq rb (B*2+1))=some (ah ab)/\w'.cell? (aq w.heap.size 2)=some (ah A)/\w'.cell? (aq w.heap.size 3)=some (ah B)/\w'.cell? (aq w.heap.size 4)=some (ah I)) (first|exact⟨G,H,J,K,L,k,M,N⟩|(go_keep;done))
  (first|(go_at_call 133;refine E.mono ?_;clear E;rintro e c ⟨d,rfl,⟨G,H,J,K,L,k,M,N⟩,O⟩;clear k1 ad ag ai k5 al q3 am))
 all_goals
  clear G H J K L k M N ‹_/\_›;go_wp2_with fail;go_ret;exact⟨d,rfl,O.o.1,O.o.2⟩
end
section
variable {bY rb:Nat}{b_ bZ:Int}{F:Nat->Prop}{w:ax}
theorem JL (k R A B I n:Int)(hc:dJ k R A B n=0)(k1:k≠9)(C:k≠12)(D:k≠15)(E:k≠16)(v:Int×Int)(cd:Int)(G:cd≠0)(d:ck)
 (q:∀w',Below w.heap.size w w'->Calls prog 136 #[aj bY,dK k R A B I n] w' fun e f=>∃b,e=.returned (.tuple #[.agg #[ah v.1,ah v.2],ah cd])/\(cx bY b_ bZ rb).J b d f/\b8 F w' b f):
 Calls prog 68 #[aj bY,dK k R A B I n] w fun e w'=>∃g,e=.returned (ah cd)/\(cx bY b_ bZ rb).J g d w'/\b8 F w g w':=by
 obtain⟨v0,v1⟩:=v;have i:=au w (cz k R A B I n)
 have j:=aO w (.cells #[.int .i64 k,.int .i64 R,.int .i64 A,.int .i64 B,.int .i64 I,.int .i64 n] 44)
 have l:=jx k R A B I n (w.alloc (cz k R A B I n))
 rw[hc] at l;have s:ay (∀w1,Below (w.alloc (cz k R A B I n)).heap.size (w.alloc (cz k R A B I n)) w1->w1.heap[w.heap.size]?=some (cz k R A B I n)/\Calls prog 136 #[aj bY,dK k R A B I n] w1 fun e c=>∃b,e=.returned (.tuple #[.agg #[ah v0,ah v1],ah cd])/\ay ((cx bY b_ bZ rb).J b d c/\b8 F w b c)):=fun w1 hb=>by
  have m:Below w.heap.size w w1:=i.trans (hb.mono i.size)
  refine⟨(hb.block _ (lt_of_some j)).trans j,(q w1 m).mono ?_⟩
  rintro e c ⟨b,rfl,t,tn⟩
  exact⟨b,rfl,t,(b8.of m).trans tn⟩
 go_enter func68,ntmps68;go_wp2_with fail;refine l.mono ?_;rintro e w1 ⟨rfl,u⟩
 obtain⟨x,P⟩:=s.o w1 u;obtain⟨q0,q1,H,q3,J,K⟩:=eu x;go_wp2_with fail;refine P.mono ?_;rintro e c ⟨b,rfl,o⟩
 have p:ay ((cx bY b_ bZ rb).J b d (c.alloc (.cells #[.int .i64 v0,.int .i64 v1] 97))/\b8 F w b (c.alloc (.cells #[.int .i64 v0,.int .i64 v1] 97))):=⟨(cx bY b_ bZ rb).below o.o.1 (bX.alloc bW _),o.o.2.below (bX.alloc bW _)⟩
 go_wp2_with fail;go_ret;exact⟨b,rfl,p.o.1,p.o.2⟩
end
section
variable {bY rb:Nat}{b_ bZ:Int}{F:Nat->Prop}{s:ck}{w:ax}
theorem JM (h:(cx bY b_ bZ rb).J F s w){R:Nat}(v:Int×Int):
 (cx bY b_ bZ rb).J F {s with rs:=s.rs.set R v} ((w.setCell ⟨rb,R*2,none⟩ (.int .i64 v.1)).setCell ⟨rb,R*2+1,none⟩ (.int .i64 v.2))/\b8 F w F ((w.setCell ⟨rb,R*2,none⟩ (.int .i64 v.1)).setCell ⟨rb,R*2+1,none⟩ (.int .i64 v.2)):=by
 obtain⟨l,h,rfl,c⟩:=h;have fr:Fr (fun k=>k=l.rb) w ((w.setCell ⟨l.rb,R*2,none⟩ (.int .i64 v.1)).setCell ⟨l.rb,R*2+1,none⟩ (.int .i64 v.2)):=((Fr.refl (fun k=>k=l.rb) w).set l.rb _ _ rfl).set l.rb _ _ rfl;have hk:∀b,l.own b≠0->l.own b≠4->_=_:=fun b h0 d=>fr.block b (h.lt b h0) (fun e=>d (by rw[e];exact h.g4.ro))
 refine⟨⟨l,?_,rfl,c⟩,fr.mono (fun b e=>by rw[e];exact(c _).2 (by rw[h.g4.ro];decide)),fun b hb=>aK hb⟩
 refine {blk:=(hk bY (by rw[h.bo];decide) (by rw[h.bo];decide)).trans h.blk,bo:=h.bo,g2:=h.g2.keep (fun b hb=>hk b V V),g3:=h.g3.keep (fun b hb=>hk b V V),g4:=⟨?_,?_,h.g4.ro⟩,lt:=fun b hb=>aM (h.lt b hb) fr.size}
 ·show _=some _;rw[sX];simp only [World.setCell,Array.getElem?_modify,if_true,h.g4.rt,Option.map_some];simp
 ·rw[a3];exact h.g4.rl
end
end Go.Proofs.YtpkjkjhanlbcoaaGreat
