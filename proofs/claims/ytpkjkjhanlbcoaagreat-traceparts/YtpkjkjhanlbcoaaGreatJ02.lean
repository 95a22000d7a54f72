import Derived.Test.YtpkjkjhanlbcoaaGreatJ01
import Derived.Deep.RegionLaw
import Derived.Deep.AppendLies
import Derived.Lib.AppendZeros
import Derived.Deep.DeepCutAuto
import Derived.Deep.Slices
import Derived.Lib.SmallJoins
import Derived.OpenShut
import Derived.Laws.OwnMore
namespace Go.Proofs.YtpkjkjhanlbcoaaGreat
set_option maxRecDepth 100000
set_option maxHeartbeats 2000000
open Tryz
open Go.RowKit W
theorem wF {P:Prop}(h:P:=by go_wp2_with fail;refine a5 (results_none rfl _ _ _) rfl ?_;have e2:=A5.o;rw[E1.o,List.append_nil] at e2;rw[<-e2];exact⟨rfl,v,(et.block c (lt_of_some CC.o)).trans CC.o,n6 (lY hown et) aa,⟨(hS.trans (eU.of et hsz)).os,(hS.trans (eU.of et hsz)).tape,(hS.trans (eU.of et hsz)).output,by have:=(hS.trans (eU.of et hsz)).size;simp at this;omega,fun k hk h1=>((hS.trans (eU.of et hsz)).block k aa h1).trans (aS _ _ _ hk)⟩⟩):P:=h
theorem wG {P:Prop}(h:P:=by refine bodyPost_end (results_none rfl _ _ _) rfl ?_;have e2:=A5.o;rw[wH k aa,List.append_nil] at e2;rw[<-e2];exact⟨rfl,v,(hb1.block c (lt_of_some CC.o)).trans CC.o,n6 (lY hown hb1) aa,⟨(hS.trans (eU.of hb1 hsz)).os,(hS.trans (eU.of hb1 hsz)).tape,(hS.trans (eU.of hb1 hsz)).output,by have:=(hS.trans (eU.of hb1 hsz)).size;simp at this;omega,fun k hk h1=>((hS.trans (eU.of hb1 hsz)).block k aa h1).trans (aS _ _ _ hk)⟩⟩):P:=h
theorem wJ {P:Prop}(h:P:=by
 obtain⟨x1,x2⟩:=hc j hlt;subst e0;obtain⟨b2,o2,e2,hb2,hc2⟩:=(HB.o.below hb) aa;obtain⟨x3,x4⟩:=hc2 j hlt;subst e2;clear hc hc2;generalize (l.getD j (0,0)).1=u at x1 x3;generalize (l.getD j (0,0)).2=v at x2 x4;go_wp2
 go_quiet (fail)
 go_wp2;go_roundw;exact⟨j+1,aa,aj,by first|exact below_drewN hb _|exact hb.drew|exact hb⟩
 simp[intOf];omega):P:=h
theorem wK {P:Prop}(h:P:=by obtain⟨d0,d1,d2,f0,f1,f2,hz⟩:=cells3 hb1;obtain⟨c0,c1,c2,c3,c4,c5,c6⟩:=((h.alloc _).below hb1 b7).cells;go_wp2_with fail;exact a5 (by simp[results,results221,go_sem,d0,d1,d2]) rfl ⟨rfl,((((b8.alloc b7 _).trans (hb1.mono ac)).setCell b7 _).setCell b7 _).setCell b7 _⟩):P:=h
theorem wL {P:Prop}(h:P:=by
 go_wp2_with (at_builtin;refine Lib.wpList_append_run _ rfl _ _ _ _ rfl _ _ rfl rfl _ _ hr ?_)
 go_wp2;go_ret;exact⟨_,_,rfl,hown,hb⟩):P:=h
def fK (ws:List Int)(y:Nat)(hd:Int):Nat->List Int
 |0=>ws.set y hd
 |k+1=>(fK ws y hd k).set (y+1+k) 2
theorem bu (n:Int):Go.IntKind.i64.wrap n = (n + 9223372036854775808) % 18446744073709551616 - 9223372036854775808:=IntKind.wrap_i64 ..
theorem CO {p q N O y g:Nat}{ws:List Int}(k f:Int)(w:az)(h:At w p q N O y g ws)(hk:hc k f=0)(hr:f+1<=(N:Int)-y):
 Calls prog 41 #[aq p,ak k,ak f] w fun e w'=>e=.returned (ak y)/\At w' p q N O (y+1+f.toNat) g (fK ws y (hw k f) f.toNat)/\dh p q w w':=by
 obtain⟨_,_,o,s⟩:=i3 k f hk;obtain⟨f,rfl⟩:=Int.eq_ofNat_of_zero_le o;simp only [Int.toNat_natCast];have H:aA (hc k f=0):=hk;clear hk;have k1:=h.hN';have t:=h.hy;have u:=h.hO;have v:=h.hg;go_enter func41,ntmps41;go_wp2_with fail;refine(oT k f _).mono ?_;rintro e w1 ⟨rfl,rfl⟩
 rw[H.o];obtain⟨c0,c1,c2,c3,c4,c5,d⟩:=h.cells;go_wp2_with fail;refine(CG (1+f) _ h aa aa).mono ?_;rintro e x ⟨rfl,b,s2⟩
 rw[show(1+(f:Int)).toNat=1+f by omega] at b;obtain⟨c0,c1,c2,c3,c4,c5,d⟩:=b.cells;have l:=b.word y aa;have m:=b.su y;have b1:(y:Int)<((N+O:Nat):Int):=aa;go_wp2_with fail
 go_loopw [39] (fun i wr=>∃j:Nat,j<=f/\i=ak j/\At wr p q N O (y+(1+f)) g (fK ws y (hw k f) j)/\dh p q w1 wr) (fun i _=>f-(intOf i).toNat)
 case atStart=>exact⟨0,a4 _,rfl,b.set y _,s2.trans (dh.ss _ _)⟩
 case round=>
  obtain⟨j,B,rfl,c,n⟩:=hrel;clear c0 c1 c2 c3 c4 c5 d l m;obtain⟨c0,c1,c2,c3,c4,c5,d⟩:=c.cells;by_cases F:j<f
  ·have l:=c.word (y+1+j) aa;have m:=c.su (y+1+j)
   have b2:(y:Int)+1+j<((N+O:Nat):Int):=aa;go_wp2_with fail;have b3:(0:Int)<=(y:Int)+1+j:=aa;have b4:((y:Int)+1+j).toNat=y+1+j:=aa;have b5:(y:Int)+1+j<(N:Int)+O:=aa;have b6:IntKind.i64.wrap ((y:Int)+1)=(y:Int)+1:=by rw[bu];omega
   have S:IntKind.i64.wrap ((y:Int)+1+j)=(y:Int)+1+j:=by rw[bu];omega
   go_region_with (go_at_call 47;refine(sq _).mono ?_;rintro e W ⟨rfl,rfl⟩)
   all_goals
    go_wp2_with fail;go_roundw
    case rel=>exact⟨j+1,aa,aj,c.drew.set _ _,n.drew.trans (dh.ss _ _)⟩
    case measure=>simp[intOf];omega
  ·go_wp2_with fail;go_ret;have e:j=f:=aa;subst e;exact⟨rfl,by rw[Nat.add_assoc];exact c,n⟩
theorem CP {p q N O y g:Nat}{ws:List Int}(k f:Int)(w:az)(h:At w p q N O y g ws)(hk:hc k f≠0\/(N:Int)-y<f+1):
 Calls prog 41 #[aq p,ak k,ak f] w fun e w'=>e=.returned (ak (-1))/\Below w.heap.size w w':=by
 by_cases c:hc k f=0
 ·obtain⟨_,_,b,d⟩:=i3 k f c;go_enter func41,ntmps41;go_wp2_with fail;refine(oT k f _).mono ?_;rintro e w1 ⟨rfl,rfl⟩
  rw[(hide c).o];obtain⟨c0,c1,c2,c3,c4,c5,i⟩:=h.cells;go_wp2_with fail;refine(CH (1+f) _ h aa).mono ?_;rintro e j ⟨rfl,hb⟩
  go_wp2;go_ret;exact⟨rfl,hb⟩
 ·go_enter func41,ntmps41;go_wp2_with fail;refine(oT k f _).mono ?_;rintro e w1 ⟨rfl,rfl⟩
  go_wp2;go_ret;exact⟨rfl,aH _ _⟩
theorem CQ {p q N O y g:Nat}{ws:List Int}(a n:Int)(w:az)(h:At w p q N O y g ws)(h0:0<=a)(b:0<=n)(c:a+n<=(N:Int)+O):
 Calls prog 220 #[aq p,ak a,ak n] w fun e w'=>e=.returned (.bool true)/\w'=w:=by
 obtain⟨c0,c1,c2,c3,c4,c5,d⟩:=h.cells;have k1:=h.hN';have f:=h.hO;go_wp2;go_ret;exact⟨by simp;omega,rfl⟩
def ly (w w':az)(g:Nat)(c:List Value)(d:Nat)(b:List Value):Prop:=
 (b=[]/\w'=w)\/w'=w.setRow g (splice c d b).toArray
theorem qe {P:Program}{ops:Array Oper}{o:Oper}{a:Act}{w:az}{K:Act->az->Prop}{Q:Exit->Act->az->Prop}{E:Prop}(B:o.guard=none)(q s:Operand)(c l d:TypeId)
 (ho:o.op=.call {callee:=.builtin .copy,args:=#[q,s],argTypes:=#[c,l]})(u:P.underlying c=some (.slice d))(x:(P.info? d).map (·.size)=some 1)
 (m sp:Option Addr)(e n f p:Nat)(hd:a.eval q=.slice m e n)(hs:a.eval s=.slice sp f p)
 (g i:Nat)(k:List Value)(t:TypeId)(hg:w.heap[g]?=some (.cells k.toArray t (0,0)))(b:List Value)(hn:b.length=Nat.min f e)
 (F:0<b.length->m=some ⟨g,i,none⟩/\∃ad,sp=some ad/\∀j v,b[j]?=some v->w.cell? (ad.add j)=some v)
 (N:i+b.length<=k.length)(S:∀v∈b,v.oneCell'=true)
 (h:∀w',ly w w' g k i b->K (a.put o.dst (goInt b.length)) w'):
 if Region.wanted o (yielded ops a.tmps)=true then Oper.wp P o a w K Q else E:=by
 rw[aK (show Region.wanted o (yielded ops a.tmps)=true by simp[Region.wanted,B])];rcases Nat.eq_zero_or_pos b.length with h0|h0
 ·have W:=List.eq_nil_of_length_eq_zero h0;subst W;unfold Oper.wp;simp[execOp,ho,resolve,invoke,builtin,hd,hs,(run_copy_none (P:=P) w c l o.type d m sp e n f p u x aa),Result.andThen];exact h w (aM ⟨rfl,rfl⟩)
 ·obtain⟨ab,ad,ag,ai⟩:=F h0;subst ab ag;unfold Oper.wp;simp[execOp,ho,resolve,invoke,builtin,hd,hs,(run_copy_row (P:=P) w c l o.type d g i e n ad f p k.toArray t b u x hg hn ai (by simpa using N) S),Result.andThen];exact h _ (aL (by simp[splice]))
theorem sB:(prog.info? 2).map (·.size)=some 1:=ah
theorem oZ (l:List Int):∀v∈l.map (Value.int .i64),v.oneCell'=true:=by intro v hv;obtain⟨x,_,rfl⟩:=List.mem_map.1 hv;rfl
theorem sC (ws b:List Int)(t:Nat):splice (ws.map (Value.int .i64)) t (b.map (Value.int .i64))=(splice ws t b).map (Value.int .i64):=by simp[splice,List.map_take,List.map_drop]
theorem At.moved {w w':az}{p q N O y g:Nat}{ws b:List Int}{t:Nat}(h:At w p q N O y g ws)(hm:ly w w' q (ws.map (Value.int .i64)) t (b.map (Value.int .i64)))(c:t+b.length<=N+O):
 At w' p q N O y g (splice ws t b)/\dh p q w w':=by
 rcases hm with⟨e,rfl⟩|rfl
 ·have d:b=[]:=by simpa using e
  subst d;have f:splice ws t []=ws:=by simp[splice]
  rw[f];exact⟨h,dh.refl _ _ _⟩
 ·rw[sC];exact⟨h.row (by rw[length_splice _ _ _ ((h.hl▸c))];exact h.hl),dh.Cy _⟩
theorem At.src {w:az}{p q N O y g:Nat}{ws:List Int}(h:At w p q N O y g ws)(f n:Nat)(e:f+n<=N+O)(j:Nat)(v:Value)(hv:(((ws.drop f).take n).map (Value.int .i64))[j]?=some v):
 w.cell? ((⟨q,f,none⟩:Addr).add j)=some v:=by
 rw[List.getElem?_map] at hv;obtain⟨x,b,rfl⟩:=Option.map_eq_some_iff.1 hv;have c:=(List.getElem?_eq_some_iff.1 b).1;have d:j<n:=by simp at c;omega
 have:=h.word (f+j) aa;rw[show((⟨q,f,none⟩:Addr).add j)=⟨q,f+j,none⟩ by simp[Addr.add],this];rw[List.getElem?_take_of_lt d,List.getElem?_drop] at b;simp[List.getD_eq_getElem?_getD,b]
theorem aZ {α:Type _}{β:Type _}{«as»:List α}(f:α -> β):(List.map f «as»).length = «as».length:=List.length_map ..
theorem wM {p q N O y g:Nat}{ws:List Int}(t f n:Nat)(w:az)(b:At w p q N O y g ws)(x:t+n<=N+O)(k:f+n<=N+O):
 Calls prog 162 #[aq p,ak t,ak f,ak n] w fun e w'=>e=.returned (.tuple #[])/\At w' p q N O y g (splice ws t ((ws.drop f).take n))/\dh p q w w':=by
 obtain⟨c0,c1,c2,c3,c4,c5,B⟩:=b.cells;have k1:=b.hN';have F:=b.hO;have hl:=b.hl;have b1:IntKind.i64.wrap ((t:Int)+n)=(t:Int)+n:=by rw[bu];omega
 have b2:IntKind.i64.wrap ((f:Int)+n)=(f:Int)+n:=by rw[bu];omega
 have b3:(t:Int)+n<=(N:Int)+O:=aa;have b4:(f:Int)+n<=(N:Int)+O:=aa;have b5:((t:Int)+n).toNat=t+n:=aa;have b6:((f:Int)+n).toNat=f+n:=aa;have S:(0:Int)<=(t:Int)+n:=aa;have W:(0:Int)<=(f:Int)+n:=aa;have c:((ws.drop f).take n).length=n:=by simp;omega
 have l:aA ((((ws.drop f).take n).map (Value.int .i64)).length=Nat.min n n):=by show _=_;rw[aZ,c];simp
 have m:aA (0<(((ws.drop f).take n).map (Value.int .i64)).length->(if N+O=t then some (⟨q,0,none⟩:Addr) else some ⟨q,t,none⟩)=some ⟨q,t,none⟩/\∃ad,(if N+O=f then some (⟨q,0,none⟩:Addr) else some ⟨q,f,none⟩)=some ad/\∀j v,(((ws.drop f).take n).map (Value.int .i64))[j]?=some v->w.drew.cell? (ad.add j)=some v):=by intro o;rw[aZ,c] at o;rw[aI aa,aI aa];exact⟨rfl,_,rfl,fun j v hv=>b.drew.src f n k j v hv⟩
 have s:aA (t+(((ws.drop f).take n).map (Value.int .i64)).length<=(ws.map (Value.int .i64)).length):=by show _<=_;rw[aZ,aZ,c];omega
 clear c hl;go_enter func162,ntmps162;go_wp2_with (go_at_call 220;refine(CQ _ _ _ b ?_ ?_ ?_).mono ?_;omega;omega;omega;rintro e w1 ⟨rfl,hw⟩;have hw:=hw.symm;subst hw)
 go_region_law (refine qe rfl (.tmp 26) (.tmp 35) 53 53 2 rfl underlying53 sB (if N+O=t then au q else some ⟨q,t,none⟩) (if N+O=f then au q else some ⟨q,f,none⟩) n (N+O-t) n (N+O-f) ?_ ?_ q t (ws.map (Value.int .i64)) 2 b.drew.hq (((ws.drop f).take n).map (Value.int .i64)) l.o m.o s.o (oZ _) ?_;(first|rfl|simp[Act.eval,Act.put]);(first|rfl|simp[Act.eval,Act.put]);intro ab d;obtain⟨i,u⟩:=b.drew.moved d (by simp;omega);clear d)
 all_goals go_wp2_with fail
 all_goals
  go_end0;refine⟨rfl,?_,(dh.refl _ _ _).drew.trans u⟩
  first
   |exact i
   |(
    have e:t=f:=aa;subst e;exact i)
theorem qf (x:Int)(h:pc x=0):0<=pf x/\pf x<=12:=by have:=i3 _ _ (B9 x h).1;omega
theorem CR:pc 0=7:=by decide+kernel
theorem wN {N y g:Nat}{ws:List Int}{a:Int}(h:pc (ld N y g ws a)=0):dt N y g a=true:=by
 cases hi:dt N y g a
 ·have e:ld N y g ws a=0:=by simp[ld,hi]
  rw[e,CR] at h;omega
 ·rfl
def gE (N y g:Nat)(a:Int):Int:=if hB 0 y a=true then(y:Int) else(N:Int)+g
theorem cells3 {w w1:az}{a b c:Value}{t:TypeId}(hb:Below (w.alloc (.cells #[a,b,c] t)).heap.size (w.alloc (.cells #[a,b,c] t)) w1):
 w1.cell? (av w.heap.size 0)=some a/\w1.cell? (av w.heap.size 1)=some b/\w1.cell? (av w.heap.size 2)=some c/\w1.frozen? (av w.heap.size 0)=false/\w1.frozen? (av w.heap.size 1)=false/\w1.frozen? (av w.heap.size 2)=false/\w.heap.size<w1.heap.size:=by
 obtain⟨hc,d⟩:=sk hb;have hz:=hb.size;refine⟨?_,?_,?_,?_,?_,?_,by simp at hz;omega⟩
 ·rw[hc _ _ ac];simp[go_sem]
 ·rw[hc _ _ ac];simp[go_sem]
 ·rw[hc _ _ ac];simp[go_sem]
 ·rw[d _ _ ac];simp[go_sem]
 ·rw[d _ _ ac];simp[go_sem]
 ·rw[d _ _ ac];simp[go_sem]
theorem CS {p q N O y g:Nat}{ws:List Int}(a:Int)(w:az)(h:At w p q N O y g ws)(hy:hB 0 y a=true):
 Calls prog 221 #[aq p,ak a] w fun e w'=>e=.returned (.agg #[ak 0,ak N,ak y])/\Below w.heap.size w w':=by
 go_enter func221,ntmps221;go_wp2_with fail;refine(mV a _ (h.alloc _)).mono ?_;rintro e w1 ⟨rfl,hb1⟩
 rw[(hide hy).o];exact wK
theorem CT {p q N O y g:Nat}{ws:List Int}(a:Int)(w:az)(h:At w p q N O y g ws)(hy:hB 0 y a=false):
 Calls prog 221 #[aq p,ak a] w fun e w'=>e=.returned (.agg #[ak N,ak O,ak g])/\Below w.heap.size w w':=by
 have b:=hide hy;clear hy;go_enter func221,ntmps221;go_wp2_with fail;refine(mV a _ (h.alloc _)).mono ?_;rintro e w1 ⟨rfl,hb1⟩
 rw[b.o];exact wK
theorem sD {p q N O y g:Nat}{ws:List Int}(a:Int)(w:az)(h:At w p q N O y g ws):∃b s u:Int,0<=b/\b<=100000/\0<=u/\u<=100000/\b+u=gE N y g a/\
 Calls prog 221 #[aq p,ak a] w fun e w'=>e=.returned (.agg #[ak b,ak s,ak u])/\Below w.heap.size w w':=by
 have k1:=h.hN';have c:=h.hy;have d:=h.hO;have f:=h.hg;cases hy:hB 0 y a
 ·exact⟨N,O,g,aa,aa,aa,aa,by simp[gE,hy],CT a w h hy⟩
 ·exact⟨0,N,y,aa,aa,aa,aa,by simp[gE,hy],CS a w h hy⟩
theorem CU {N O y g:Nat}{a:Int}(hN:N<=256)(hO:O<=1024)(hy:y<=N)(hg:g<=O):0<=gE N y g a/\gE N y g a<=1280:=by unfold gE;split<;>omega
theorem CV {p q N O y g:Nat}{ws:List Int}(a:Int)(w:az)(h:At w p q N O y g ws)(hp:pc (ld N y g ws a)=0)(hr:1+pf (ld N y g ws a)<=gE N y g a-a)(hg:1+pf (ld N y g ws a)<=(O:Int)-g):
 Calls prog 165 #[aq p,ak a] w fun e w'=>e=.returned (ak (N+g:Nat))/\At w' p q N O y (g+(1+(pf (ld N y g ws a)).toNat)) (splice ws (N+g) ((ws.drop a.toNat).take (1+(pf (ld N y g ws a)).toNat)))/\dh p q w w':=by
 obtain⟨c,o⟩:=qf _ hp;obtain⟨t,am⟩:=jD (wN hp) h.hy h.hg;have v:=h.hy;have x:=h.hO;have B:=h.hg;have k5:=@CU N O y g a h.hN' x v B;have k6:gE N y g a<=(N:Int)+O:=by unfold gE;split<;>omega
 have F:=hide hp;clear hp;obtain⟨a,rfl⟩:=Int.eq_ofNat_of_zero_le t;rw[Int.toNat_natCast];obtain⟨n,hn⟩:=Int.eq_ofNat_of_zero_le c;have S:=hide hn;rw[hn] at hr hg o c⊢;clear hn;rw[Int.toNat_natCast];go_enter func165,ntmps165;go_wp2_with fail;refine(gy a _ h).mono ?_;rintro e w1 ⟨rfl,d⟩
 rw[F.o,S.o];have f:=h.below d b7
 go_wp2_with fail;obtain⟨b,s,u,W,ab,ad,ag,i,hc⟩:=sD a w1 f;refine hc.mono ?_;rintro e an ⟨rfl,j⟩
 clear hc;go_wp2_with fail;refine(lX b s u _ W ab ad ag).mono ?_;rintro e ao ⟨rfl,k⟩
 have ai:=hide i;clear i;rw[ai.o];have l:=(f.below j b7).below k b7
 obtain⟨c0,c1,c2,c3,c4,c5,ap⟩:=l.cells;go_wp2_with fail;refine(CJ (1+n) _ l aa aa).mono ?_;rintro e ar ⟨rfl,m,s4⟩
 rw[show(1+(n:Int)).toNat=1+n by omega] at m;go_wp2_with fail;rw[show(1+(n:Int))=((1+n:Nat):Int) by omega];refine(wM (N+g) a (1+n) _ m aa aa).mono ?_;rintro e aB ⟨rfl,al,s5⟩
 go_wp2_with fail;go_ret;exact⟨rfl,al,(((dh.of d).trans (dh.of j)).trans (dh.of k)).trans (s4.trans s5)⟩
theorem CW {p q N O y g:Nat}{ws:List Int}(a:Int)(w:az)(h:At w p q N O y g ws)(x:pc (ld N y g ws a)≠0\/gE N y g a-a<1+pf (ld N y g ws a)\/(O:Int)-g<1+pf (ld N y g ws a)):
 Calls prog 165 #[aq p,ak a] w fun e w'=>e=.returned (ak (-1))/\Below w.heap.size w w':=by
 by_cases hp:pc (ld N y g ws a)=0
 ·obtain⟨ab,ad⟩:=qf _ hp;have hi:=wN hp;obtain⟨ag,ai⟩:=jD hi h.hy h.hg;have k1:=h.hN';have al:=h.hy;have am:=h.hO;have an:=h.hg;have ao:gE N y g a-a<1+pf (ld N y g ws a)\/(O:Int)-g<1+pf (ld N y g ws a):=by
   rcases x with e|e
   ·exact absurd hp e
   ·exact e
  have t:=hide hp;by_cases hr:gE N y g a-a<1+pf (ld N y g ws a)
  ·go_enter func165,ntmps165;go_wp2_with fail;refine(gy a _ h).mono ?_;rintro e w1 ⟨rfl,c⟩
   rw[t.o];have i:=h.below c b7
   go_wp2_with fail;obtain⟨b,s,u,j,k,l,m,n,hc⟩:=sD a w1 i;refine hc.mono ?_;rintro e B ⟨rfl,d⟩
   go_wp2_with fail;refine(lX b s u _ j k l m).mono ?_;rintro e F ⟨rfl,f⟩
   have o:=hide n;rw[o.o];go_wp2_with fail;go_ret;exact⟨rfl,(c.trans (d.mono c.size)).trans (f.mono (aU c.size d.size))⟩
  ·go_enter func165,ntmps165;go_wp2_with fail;refine(gy a _ h).mono ?_;rintro e w1 ⟨rfl,c⟩
   rw[t.o];have i:=h.below c b7
   go_wp2_with fail;obtain⟨b,s,u,j,k,l,m,n,hc⟩:=sD a w1 i;refine hc.mono ?_;rintro e B ⟨rfl,d⟩
   have S:=i.below d b7
   go_wp2_with fail;refine(lX b s u _ j k l m).mono ?_;rintro e F ⟨rfl,f⟩
   have o:=hide n;rw[o.o];have v:=S.below f b7
   obtain⟨c0,c1,c2,c3,c4,c5,ap⟩:=v.cells;go_wp2_with fail;refine(CK _ _ v aa).mono ?_;rintro e ar ⟨rfl,W⟩
   go_wp2_with fail;go_ret;exact⟨rfl,((c.trans (d.mono c.size)).trans (f.mono (aU c.size d.size))).trans (W.mono (aU c.size (aU d.size f.size)))⟩
 ·go_enter func165,ntmps165;go_wp2_with fail;refine(gy a _ h).mono ?_;rintro e w1 ⟨rfl,c⟩
  go_wp2_with fail;go_ret;exact⟨rfl,c⟩
structure eU (B c:Nat)(w w':az):Prop where
 os:w'.os=w.os
 tape:w'.tape=w.tape
 output:w'.output=w.output
 size:w.heap.size<=w'.heap.size
 block:∀k,k<B->k≠c->w'.heap[k]?=w.heap[k]?
theorem eU.refl (B c:Nat)(w:az):eU B c w w:=⟨rfl,rfl,rfl,aG _,fun _ _ _=>rfl⟩
theorem eU.trans {B c:Nat}{a b d:az}(h:eU B c a b)(k:eU B c b d):eU B c a d:=
 ⟨k.os.trans h.os,k.tape.trans h.tape,k.output.trans h.output,aU h.size k.size,fun i hi e=>(k.block i hi e).trans (h.block i hi e)⟩
theorem eU.of {B D c:Nat}{w w':az}(h:Below D w w')(b:B<=D):eU B c w w':=⟨h.os,h.tape,h.output,h.size,fun k hk _=>h.block k aa⟩
theorem eU.below {B D c:Nat}{w w':az}(h:eU B c w w')(b:D<=B)(hc:D<=c):Below D w w':=⟨h.os,h.tape,h.output,h.size,fun k hk=>h.block k aa aa⟩
theorem lY {w w':az}{base n:Nat}{e:TypeId}{v:Value}{l:List Value}(h:w.ownsRow base e 1 v n l)(hb:Below w.heap.size w w'):w'.ownsRow base e 1 v n l:=by
 obtain⟨f,c⟩:=h;refine⟨f,?_⟩
 rcases c with c|⟨b,cap,g,hv,i,d,r⟩
 ·exact aM c
 ·exact aL ⟨b,cap,g,hv,i,(hb.block b (lt_of_some d)).trans d,r⟩
theorem n6 {w:az}{base base' n:Nat}{e:TypeId}{v:Value}{l:List Value}(h:w.ownsRow base e 1 v n l)(hb:base'<=base):w.ownsRow base' e 1 v n l:=by
 obtain⟨d,c⟩:=h;refine⟨d,?_⟩
 rcases c with c|⟨b,cap,f,hv,g,r⟩
 ·exact aM c
 ·exact aL ⟨b,cap,f,hv,aa,r⟩
theorem wO {w w':az}{base B c n:Nat}{e:TypeId}{v:Value}{l:List Value}(h:w.ownsRow base e 1 v n l)(hs:eU B c w w')(hB:w.heap.size<=B)(hc:c<base):w'.ownsRow base e 1 v n l:=by
 obtain⟨g,d⟩:=h;refine⟨g,?_⟩
 rcases d with d|⟨b,cap,i,hv,j,f,r⟩
 ·exact aM d
 ·exact aL ⟨b,cap,i,hv,j,(hs.block b (by have:=lt_of_some f;omega) aa).trans f,r⟩
theorem kn:(prog.info? 3).map (fun i=>(i.zero,i.size,i.bytes))=some (some (ak 0),1,8):=ah
theorem wP {w:az}{base n c:Nat}{e:TypeId}{v:Value}{l:List Value}(h:w.ownsRow base e 1 v n l)(hc:c<base):some c≠v.ownBlock:=by
 obtain⟨_,d⟩:=h;rcases d with⟨rfl,_⟩|⟨b,cap,f,rfl,g,_⟩
 ·simp[Value.ownBlock]
 ·simp[Value.ownBlock];omega
theorem wQ {w:az}{base n:Nat}{e:TypeId}{v:Value}{l:List Value}(h:w.ownsRow base e 1 v n l):∀k,v.ownBlock=some k->base<=k:=by
 obtain⟨_,c⟩:=h;intro k hk;rcases c with⟨rfl,_⟩|⟨b,cap,d,rfl,f,_⟩
 ·simp[Value.ownBlock] at hk
 ·simp[Value.ownBlock] at hk;omega
theorem wR {w:az}{base n:Nat}{e:TypeId}{v:Value}{l:List Value}(h:w.ownsRow base e 1 v n l)(hn:0<n):∃b cap,v=.slice (au b) n cap:=by
 obtain⟨_,c⟩:=h;rcases c with⟨_,c⟩|⟨b,cap,d,hv,_⟩
 ·omega
 ·exact⟨b,cap,hv⟩
def eJ (N y g:Nat)(ws:List Int)(hi:Int):Nat->Int->List Int
 |0,_=>[]
 |k+1,a=>if a<hi then(if pc (ld N y g ws a)=0 then a::eJ N y g ws hi k (a+(1+pf (ld N y g ws a))) else[]) else[]
theorem wH {N y g:Nat}{ws:List Int}{hi a:Int}(k:Nat)(h:hi<=a):eJ N y g ws hi k a=[]:=by
 cases k with
 |zero=>rfl
 |succ k=>unfold eJ;rw[aI aa]
theorem wS {N y g:Nat}{ws:List Int}{hi a:Int}(k:Nat)(h:pc (ld N y g ws a)≠0):eJ N y g ws hi k a=[]:=by
 cases k with
 |zero=>rfl
 |succ k=>unfold eJ;split<;>rfl
theorem wT {N y g:Nat}{ws:List Int}{hi a:Int}(k:Nat)(hk:hi-a<=k)(h:a<hi)(c:pc (ld N y g ws a)=0):
 ∃b,k=b+1/\eJ N y g ws hi k a=a::eJ N y g ws hi b (a+(1+pf (ld N y g ws a))):=by
 cases k with
 |zero=>omega
 |succ k=>exact⟨k,rfl,by rw[eJ,aK h,aK c]⟩
theorem aE{w:World}{b o:Nat}{c:Array Value}{T:TypeId}(h:w.heap[b]?=some (.cells c T (0,0))):w.frozen? ⟨b,o,none⟩=false:=by simp[World.frozen?,h]
theorem CX (a:Int)(c base:Nat)(v:Value)(L:List Int)(w:az)(hc:w.heap[c]?=some (.cells #[v] 74 (0,0)))(i:c<base)(hB:base<=w.heap.size)
 (f:w.ownsRow base 3 1 v L.length (L.map (Value.int .i64)))(S:L.length<=100000):
 Calls prog 196 #[ak a,aq c] w fun e w'=>e=.returned (.tuple #[])/\∃g,w'.heap[c]?=some (.cells #[g] 74 (0,0))/\w'.ownsRow base 3 1 g (L++[a]).length ((L++[a]).map (Value.int .i64))/\eU base c w w':=by
 obtain⟨o,hi,p,q,s⟩:=info_parts kn;have cc:w.cell? (av c 0)=some v:=aD hc
 have t:=hide hc;clear hc;have x:c<w.heap.size:=aa;go_enter func196,ntmps196;go_wp2_with (at_builtin;refine wpList_append_own _ rfl _ _ 74 rfl base 3 o _ 1 8 underlying74 hi p q s rfl ae _ L.length _ rfl (f.alloc _) ⟨w.heap.size,0,none⟩ 1 1 [ak a] rfl rfl ?_ ?_ ?_ ?_ ?_ ?_;(intro j u d;match j,d with|0,d=>(simp at d;subst d;simp[Addr.add]));(intro u l;simp at l;subst l;rfl);(unfold maxLen;omega);omega;(simp;omega);intro g w1 m n _;obtain⟨b1,gx,B⟩:=wR m (Nat.succ_pos _);subst B;have b:=(n.block c (by simp;omega) (wP f i)).trans ((aS _ _ _ x).trans t.o);have W:w1.cell? (av c 0)=some v:=aD b;have ab:w1.frozen? (av c 0)=false:=aE b;have F:=hide b;clear b)
 go_end0;refine⟨rfl,.slice (au b1) (L.length+1) gx,?_,?_,?_⟩
 ·have b:=F.o;simp only [World.setCell,Array.getElem?_modify,if_true,b,Option.map_some];simp
 ·have:=ownsRow_setCell_below m (a:=⟨c,0,none⟩) i (.slice (au b1) (L.length+1) gx)
  simpa using this
 ·refine(eU.of ((aH base w).alloc hB _) b7).trans (eU.trans (eU.of ((aH base _).grown n (by simp;omega) (wQ f)) b7) ?_)
  exact⟨rfl,rfl,rfl,by simp[World.setCell],fun k _ N=>aW _ _ _ _ N⟩
theorem wU {p q N O y g:Nat}{ws:List Int}(b s u:Int)(c:Nat)(w:az)(h:At w p q N O y g ws)(hc:w.heap[c]?=some (.cells #[.slice none 0 0] 74 (0,0)))(m:p≠c)(n:q≠c)
 (o:0<=b)(b1:b<=2000)(u0:0<=u)(aF:u<=2000):
 Calls prog 195 #[aq p,.agg #[ak b,ak s,ak u],.func (.func 196) #[] #[aq c]] w fun e w'=>e=.returned (.tuple #[])/\∃v,w'.heap[c]?=some (.cells #[v] 74 (0,0))/\w'.ownsRow w.heap.size 3 1 v (eJ N y g ws (b+u) 2000 b).length ((eJ N y g ws (b+u) 2000 b).map (Value.int .i64))/\eU w.heap.size c w w':=by
 have lp:=h.e5;have x:=lt_of_some hc;have B:aA (_=_):=hc;clear hc;go_enter func195,ntmps195;go_wp2_with fail
 go_loopw [6] (fun i wr=>∃(a:Int)(L:List Int)(k:Nat)(v:Value),i=ak a/\b<=a/\a<=100000/\b+u-a<=k/\(L.length:Int)+b<=a/\L++eJ N y g ws (b+u) k a=eJ N y g ws (b+u) 2000 b/\wr.heap[c]?=some (.cells #[v] 74 (0,0))/\wr.ownsRow (w.heap.size+1) 3 1 v L.length (L.map (Value.int .i64))/\eU (w.heap.size+1) c (w.alloc (.cells #[.int .i64 b,.int .i64 s,.int .i64 u] 120)) wr) (fun i _=>(b+u-intOf i).toNat)
 case atStart=>exact⟨b,[],2000,_,rfl,aa,aa,aa,ac,rfl,(aS _ _ _ x).trans B.o,bc _ _ _ _,eU.refl _ _ _⟩
 case round=>
  obtain⟨a,L,k,v,rfl,a1,a2,F,aR,j,hc,hown,hS⟩:=hrel;have d:=hS.block w.heap.size aa aa;rw[aP] at d;have S:wr.cell? (av w.heap.size 0)=some (ak b):=aD d
  have W:wr.cell? (av w.heap.size 1)=some (ak s):=aD d
  have ab:wr.cell? (av w.heap.size 2)=some (ak u):=aD d
  have ad:_:=(h.alloc _).same (hS.block p aa m) (hS.block q (by have:=h.e7;omega) n)
  have hsz:=hS.size;simp only [World.size_alloc] at hsz;have A5:aA (_=_):=j;have CC:aA (_=_):=hc;have aV:aA (_=_):=d;clear j hc d;go_wp2_with fail;refine(lX b s u _ o aa u0 aa).mono ?_;rintro e w1 ⟨rfl,hb1⟩
  clear S W ab;by_cases ag:a<b+u
  ·go_wp2_with fail;refine(gy a _ (ad.below hb1 b7)).mono ?_;rintro e ai ⟨rfl,al⟩
   have et:_:=hb1.trans (al.mono hb1.size)
   by_cases hp:pc (ld N y g ws a)=0
   ·obtain⟨a0,a3⟩:=qf _ hp;obtain⟨am,rfl,f⟩:=wT (N:=N) (y:=y) (g:=g) (ws:=ws) k F ag hp;have an:aA (_=_):=hp;have E1:aA (_=_):=f;clear hp f;rw[an.o];go_wp2_with fail;refine(CX a c (w.heap.size+1) v L ai ((et.block c (lt_of_some CC.o)).trans CC.o) aa (by have:=et.size;omega) (lY hown et) aa).mono ?_;rintro e ba ⟨rfl,ao,l,ap,ar⟩
    have aB:aA (_=_):=l;clear l;go_wp2_with fail;go_roundw
    case rel=>exact⟨a+(1+pf (ld N y g ws a)),L++[a],am,ao,rfl,aa,aa,aa,by simp;omega,by rw[<-A5.o,E1.o];simp,aB.o,ap,(hS.trans (eU.of et hsz)).trans ar⟩
    case measure=>simp[intOf];omega
   ·have t:(pc (ld N y g ws a)!=0)=true:=by simpa using hp
    have f:=wS (N:=N) (y:=y) (g:=g) (ws:=ws) (hi:=b+u) k hp;have E1:aA (_=_):=f;clear hp f;exact wF
  ·go_wp2_with fail;exact wG
theorem CY (a:Int)(c base:Nat)(v:Value)(L:List Int)(w:az)(hc:w.heap[c]?=some (.cells #[v] 74 (0,0)))(i:c<base)(hB:base<=w.heap.size)
 (f:w.ownsRow base 3 1 v L.length (L.map (Value.int .i64)))(S:L.length<=100000):
 Calls prog 197 #[ak a,aq c] w fun e w'=>e=.returned (.tuple #[])/\∃g,w'.heap[c]?=some (.cells #[g] 74 (0,0))/\w'.ownsRow base 3 1 g (L++[a]).length ((L++[a]).map (Value.int .i64))/\eU base c w w':=by
 obtain⟨o,hi,p,q,s⟩:=info_parts kn;have cc:w.cell? (av c 0)=some v:=aD hc
 have t:=hide hc;clear hc;have x:c<w.heap.size:=aa;go_enter func197,ntmps197;go_wp2_with (at_builtin;refine wpList_append_own _ rfl _ _ 74 rfl base 3 o (ak 0) 1 8 underlying74 hi p q s rfl ae _ L.length (L.map (Value.int .i64)) rfl (f.alloc _) ⟨w.heap.size,0,none⟩ 1 1 [ak a] rfl rfl ?_ ?_ ?_ ?_ ?_ ?_;(intro j u d;match j,d with|0,d=>(simp at d;subst d;simp[Addr.add]));(intro u l;simp at l;subst l;rfl);(unfold maxLen;omega);omega;(simp;omega);intro g w1 m n _;obtain⟨b1,gx,B⟩:=wR m (Nat.succ_pos _);subst B;have b:=(n.block c (by simp;omega) (wP f i)).trans ((aS _ _ _ x).trans t.o);have W:w1.cell? (av c 0)=some v:=aD b;have ab:w1.frozen? (av c 0)=false:=aE b;have F:=hide b;clear b)
 go_end0;refine⟨rfl,.slice (au b1) (L.length+1) gx,?_,?_,?_⟩
 ·have b:=F.o;simp only [World.setCell,Array.getElem?_modify,if_true,b,Option.map_some];simp
 ·have:=ownsRow_setCell_below m (a:=⟨c,0,none⟩) i (.slice (au b1) (L.length+1) gx)
  simpa using this
 ·refine(eU.of ((aH base w).alloc hB _) b7).trans (eU.trans (eU.of ((aH base _).grown n (by simp;omega) (wQ f)) b7) ?_)
  exact⟨rfl,rfl,rfl,by simp[World.setCell],fun k _ N=>aW _ _ _ _ N⟩
theorem wV {p q N O y g:Nat}{ws:List Int}(b s u:Int)(c:Nat)(w:az)(h:At w p q N O y g ws)(hc:w.heap[c]?=some (.cells #[.slice none 0 0] 74 (0,0)))(j:p≠c)(l:q≠c)
 (m:0<=b)(b1:b<=2000)(u0:0<=u)(ao:u<=2000):
 Calls prog 195 #[aq p,.agg #[ak b,ak s,ak u],.func (.func 197) #[] #[aq c]] w fun e w'=>e=.returned (.tuple #[])/\∃v,w'.heap[c]?=some (.cells #[v] 74 (0,0))/\w'.ownsRow w.heap.size 3 1 v (eJ N y g ws (b+u) 2000 b).length ((eJ N y g ws (b+u) 2000 b).map (Value.int .i64))/\eU w.heap.size c w w':=by
 have lp:=h.e5;have n:=lt_of_some hc;have o:=hide hc;clear hc;go_enter func195,ntmps195;go_wp2_with fail
 go_loopw [6] (fun i wr=>∃(a:Int)(L:List Int)(k:Nat)(v:Value),i=ak a/\b<=a/\a<=100000/\b+u-a<=k/\(L.length:Int)+b<=a/\L++eJ N y g ws (b+u) k a=eJ N y g ws (b+u) 2000 b/\wr.heap[c]?=some (.cells #[v] 74 (0,0))/\wr.ownsRow (w.heap.size+1) 3 1 v L.length (L.map (Value.int .i64))/\eU (w.heap.size+1) c (w.alloc (.cells #[.int .i64 b,.int .i64 s,.int .i64 u] 120)) wr) (fun i _=>(b+u-intOf i).toNat)
 exact⟨b,[],2000,_,rfl,aa,aa,aa,ac,rfl,(aS _ _ _ n).trans o.o,bc _ _ _ _,eU.refl _ _ _⟩
 ·
   obtain⟨a,L,k,v,rfl,a1,a2,t,ap,x,hc,hown,hS⟩:=hrel;have d:=hS.block w.heap.size aa aa;rw[aP] at d;have ar:wr.cell? (av w.heap.size 0)=some (ak b):=aD d
   have aB:wr.cell? (av w.heap.size 1)=some (ak s):=aD d
   have aF:wr.cell? (av w.heap.size 2)=some (ak u):=aD d
   have B:=(h.alloc _).same (hS.block p aa j) (hS.block q (by have:=h.e7;omega) l)
   have hsz:=hS.size;simp only [World.size_alloc] at hsz;have A5:=hide x;have CC:=hide hc;go_wp2_with fail;refine(lX b s u _ m aa u0 aa).mono ?_;rintro e w1 ⟨rfl,hb1⟩
   by_cases F:a<b+u
   ·go_wp2_with fail;refine(gy a _ (B.below hb1 b7)).mono ?_;rintro e S ⟨rfl,W⟩
    have et:=hb1.trans (W.mono hb1.size)
    by_cases hp:pc (ld N y g ws a)=0
    ·obtain⟨aR,aV⟩:=qf _ hp;obtain⟨ab,rfl,f⟩:=wT (N:=N) (y:=y) (g:=g) (ws:=ws) k t F hp;have ad:=hide hp;have E1:=hide f;rw[ad.o];go_wp2_with fail;refine(CY a c (w.heap.size+1) v L S ((et.block c (lt_of_some CC.o)).trans CC.o) aa (by have:=et.size;omega) (lY hown et) aa).mono ?_;rintro e a0 ⟨rfl,ag,ai,al,am⟩
     have an:=hide ai;go_wp2_with fail;go_roundw;exact⟨a+(1+pf (ld N y g ws a)),L++[a],ab,ag,rfl,aa,aa,aa,by simp;omega,by rw[<-A5.o,E1.o];simp,an.o,al,(hS.trans (eU.of et hsz)).trans am⟩
     simp[intOf];omega
    ·have f:=wS (N:=N) (y:=y) (g:=g) (ws:=ws) (hi:=b+u) k hp;have E1:=hide f;exact wF
   ·go_wp2_with fail;exact wG
def eC (N y g:Nat)(ws:List Int):List Int:=eJ N y g ws y 2000 0
def dH (N y g:Nat)(ws:List Int):List Int:=eJ N y g ws ((N:Int)+g) 2000 N
theorem qg {p q N O y g:Nat}{ws:List Int}(w:az)(h:At w p q N O y g ws):
 Calls prog 129 #[aq p] w fun e w'=>∃v1 v2,e=.returned (.tuple #[v1,v2])/\w'.ownsRow w.heap.size 3 1 v1 (eC N y g ws).length ((eC N y g ws).map (Value.int .i64))/\w'.ownsRow w.heap.size 3 1 v2 (dH N y g ws).length ((dH N y g ws).map (Value.int .i64))/\Below w.heap.size w w':=by
 obtain⟨c0,c1,c2,c3,c4,c5,f⟩:=h.cells;have lp:=h.e5;have u:=h.e7;have k1:=h.hN';have v:=h.hy;have x:=h.hO;have B:=h.hg;go_enter func129,ntmps129;go_wp2_with fail;refine(wU 0 N y w.heap.size _ ((h.alloc _).alloc _) ((aS _ _ _ ac).trans (aP _ _)) aa aa aa aa aa aa).mono ?_;rintro e w1 ⟨rfl,v1,i,j,b⟩
 have k:=((h.alloc _).alloc _).same (b.block p (by simp;omega) aa) (b.block q (by simp;omega) aa)
 have c:=(b.block (w.heap.size+1) ac aa).trans (sA _ ac)
 have m:=hide i;have n:=hide c;have o:=b.size;simp only [World.size_alloc] at o;clear i c c0 c1 c2 c3 c4 c5 f;obtain⟨c0,c1,c2,c3,c4,c5,f⟩:=k.cells;go_wp2_with fail;refine(wV N O g (w.heap.size+1) _ k n.o aa aa aa aa aa aa).mono ?_;rintro e l ⟨rfl,v2,c,s,d⟩
 have F:l.cell? (av w.heap.size 0)=some v1:=by have:=(d.block w.heap.size aa aa).trans m.o;simp[World.cell?,this]
 have S:l.cell? (av (w.heap.size+1) 0)=some v2:=aD c
 have W:=d.size;clear c;go_wp2
 go_quiet (fail)
 go_wp2;go_ret2;simp only [World.size_alloc] at j b;have t:eC N y g ws=eJ N y g ws (0+(y:Int)) 2000 0:=by rw[Int.zero_add];rfl
 refine⟨v1,v2,rfl,?_,?_,?_⟩
 ·rw[t];exact lY (n6 (base:=w.heap.size+1+1) (wO j d b7 aa) aa) (below_drewN b8 _)
 ·exact lY (n6 s aa) (below_drewN b8 _)
 ·exact below_drewN (((b8.alloc b7 _).alloc ac _).trans ((b.below aa b7).trans (d.below aa aa))) _
open Go.RowKit W Kp ck
theorem wW (a b:Option Addr)(ca cb:Nat)(l:List (Int×Int))(w:az)(hm:l.length<=100000)(ha:dz w a l)(hb:dz w b l):
 Calls prog 63 #[.slice a l.length ca,.slice b l.length cb] w fun e w'=>e=.returned (.bool true)/\Below w.heap.size w w':=by
 have c:=hide ha;have HB:=hide hb;clear ha hb;go_enter func63,ntmps63;go_wp2
 go_loopw [5] (fun iv wr=>∃j:Nat,j<=l.length/\iv=ak j/\Below w.heap.size w wr) (fun iv _=>l.length-(intOf iv).toNat)
 exact⟨0,a4 _,rfl,aH _ _⟩
 ·
   obtain⟨j,d,rfl,hb⟩:=hrel;by_cases hlt:j<l.length
   ·obtain⟨f,g,e0,i,hc⟩:=(c.o.below hb) aa;exact wJ
   ·obtain rfl:j=l.length:=aa;go_wp2;go_ret;exact⟨rfl,hb⟩
theorem Ln.at {w:az}{ad:Option Addr}{c:List _}(h:Ln w ad c){i:Nat}(hi:i<c.length):∃b o f fc,ad=some ⟨b,o,none⟩/\b<w.heap.size/\w.cell? (av b (o+i*2))=some (ak (c.getD i (0,[])).1)/\w.cell? (av b (o+i*2+1))=some (.slice f (c.getD i (0,[])).2.length fc)/\dz w f (c.getD i (0,[])).2:=by
 obtain⟨m,g,j,k⟩:=h;have hl:m.length=c.length:=by rw[<-g];simp[ij]
 obtain⟨b,o,e,hb,hc⟩:=k aa;obtain⟨x,d⟩:∃x,m[i]?=some x:=⟨_,aN aa⟩
 have en:c.getD i (0,[])=(x.1,x.2.2.2):=by subst g;rw[aJ,ij,List.getElem?_map,d];rfl
 rw[en];exact⟨b,o,_,_,e,hb,(hc i _ d).1,(hc i _ d).2,j _ (List.mem_of_getElem? d)⟩
theorem aw(w:az)(o:Obj):Below w.heap.size w (w.alloc o):=(Below.refl _ w).alloc (Nat.le_refl _) o
theorem ax(w:World):Below w.heap.size w w:=Below.refl _ w
theorem CZ (r1 g n1 d:Option Addr)(c1 c2 i k:Nat)(c:List (Int×Int))(b:List (Int×List (Int×Int)))(w:az)(hm:c.length<=100000)(hl:b.length<=100000)(S:∀nd∈b,nd.2.length<=100000)(W:dz w r1 c)(ab:dz w g c)(ad:Ln w n1 b)(ag:Ln w d b):
 Calls prog 24 #[.agg #[.slice r1 c.length c1,.slice n1 b.length i],.agg #[.slice g c.length c2,.slice d b.length k]] w fun e w'=>e=.returned (.bool true)/\Below w.heap.size w w':=by
 have n:=(aw w (.cells #[.slice r1 c.length c1,.slice n1 b.length i] 60)).alloc ac (.cells #[.slice g c.length c2,.slice d b.length k] 60)
 have k0:((w.alloc (.cells #[.slice r1 c.length c1,.slice n1 b.length i] 60)).alloc (.cells #[.slice g c.length c2,.slice d b.length k] 60)).cell? (av w.heap.size 1)=some (.slice n1 b.length i):=by simp[go_sem]
 have k1:((w.alloc (.cells #[.slice r1 c.length c1,.slice n1 b.length i] 60)).alloc (.cells #[.slice g c.length c2,.slice d b.length k] 60)).cell? (av (w.heap.size+1) 1)=some (.slice d b.length k):=by simp[go_sem]
 have ai:((w.alloc (.cells #[.slice r1 c.length c1,.slice n1 b.length i] 60)).alloc (.cells #[.slice g c.length c2,.slice d b.length k] 60)).heap.size=w.heap.size+2:=ac;have P:=wW r1 g c1 c2 c _ hm (W.below n) (ab.below n)
 have ba:aA (∀w',Below w.heap.size w w'->Ln w' n1 b):=fun w' hb=>ad.below hb;have bb:aA (∀w',Below w.heap.size w w'->Ln w' d b):=fun w' hb=>ag.below hb;have bd:aA (∀nd∈b,nd.2.length<=100000):=S;clear W ab ad ag S;go_enter func24,ntmps24;go_wp2_with fail;refine P.mono ?_;clear P;rintro e w1 ⟨rfl,l⟩
 have be:=n.trans (l.mono aa)
 have bg:=l.size;rw[ai] at bg;have al:=(l.cell (p:=av w.heap.size 1) (by show w.heap.size<_;omega)).trans k0;have am:=(l.cell (p:=av (w.heap.size+1) 1) (by show w.heap.size+1<_;omega)).trans k1;clear n k0 k1 ai l;go_wp2_with fail
 go_loopw [5] (fun iv wr=>∃j:Nat,j<=b.length/\iv=ak j/\Below w1.heap.size w1 wr) (fun iv _=>b.length-(intOf iv).toNat)
 case atStart=>exact⟨0,a4 _,rfl,aH _ _⟩
 case round=>
  obtain⟨j,bs,rfl,hb⟩:=hrel;have bi:=hb.size;have v:=be.trans (hb.mono aa)
  have x:=(hb.cell (p:=av w.heap.size 1) (by show w.heap.size<_;omega)).trans al;have y1:=(hb.cell (p:=av (w.heap.size+1) 1) (by show w.heap.size+1<_;omega)).trans am;have bl:w.heap.size<wr.heap.size:=aa;have bn:w.heap.size+1<wr.heap.size:=aa;by_cases o:j<b.length
  ·obtain⟨b1,o1,an,ao,bo,l1,q,s,B⟩:=(ba.o wr v).at o;obtain⟨b2,m,ap,ar,bp,l2,t,u,F⟩:=(bb.o wr v).at o;subst bo bp;have aB:(b.getD j (0,[])).2.length<=100000:=bd.o _ (by rw[aJ,aN o];exact a8 o)
   generalize (b.getD j (0,[])).1=kd at q t;generalize (b.getD j (0,[])).2=N at s B u F aB;have j0:(0:Int)<=(j:Int):=aa;have bt:(j:Int)<(b.length:Int):=aa;have hd:=(ax wr).drew;have P:=wW an ap ao ar N wr.drew aB (B.below hd) (F.below hd)
   clear B F al am;go_wp2_with fail
   go_region_held3 (fun w'=>w'.cell? (av w.heap.size 1)=some (.slice (some ⟨b1,o1,none⟩) b.length i)/\w'.cell? (av (w.heap.size+1) 1)=some (.slice (some ⟨b2,m,none⟩) b.length k)/\w'.cell? (av b1 (o1+j*2))=some (ak kd)/\w'.cell? (av b1 (o1+j*2+1))=some (.slice an N.length ao)/\w'.cell? (av b2 (m+j*2))=some (ak kd)/\w'.cell? (av b2 (m+j*2+1))=some (.slice ap N.length ar)) (first|exact⟨x,y1,q,s,t,u⟩|exact⟨u0,aF,aR,aV,a0,a1⟩|go_keep)
    (first|(go_at_call 63;refine P.mono ?_;rintro e a2 ⟨rfl,a3⟩;have f:Below wr.heap.size wr a2:=hd.trans a3;have u0:=(f.cell (p:=av w.heap.size 1) bl).trans x;have aF:=(f.cell (p:=av (w.heap.size+1) 1) bn).trans y1;have aR:=(f.cell (p:=av b1 (o1+j*2)) l1).trans q;have aV:=(f.cell (p:=av b1 (o1+j*2+1)) l1).trans s;have a0:=(f.cell (p:=av b2 (m+j*2)) l2).trans t;have a1:=(f.cell (p:=av b2 (m+j*2+1)) l2).trans u))
   have br:Below w1.heap.size w1 a2:=hb.trans (f.mono bi)
   clear P u0 aF aR aV a0 a1 x y1 q s t u f a3 hd;go_wp2_with fail;go_roundw
   case rel=>exact⟨j+1,aa,aj,br⟩
   case measure=>simp[intOf];omega
  ·obtain rfl:j=b.length:=aa;go_wp2_with fail;go_ret;exact⟨rfl,v⟩
def lz {d:Type}(o:dx d)(D:Int->Prop)(f:Nat)(b c:Array Value)(nw:d->Int->Int):Prop:=
 ∀F t w (x:Int),D x->o.J F t w->Calls prog f (b.push (ak x)++c) w fun r w'=>r=.returned (ak (nw t x))/\Below w.heap.size w w'
def kq {d:Type}(o:dx d)(D:Int->Prop)(f:Nat)(b c:Array Value)(is:d->Int->Bool):Prop:=
 ∀F t w (x:Int),D x->o.J F t w->Calls prog f (b.push (ak x)++c) w fun r w'=>r=.returned (.bool (is t x))/\Below w.heap.size w w'
def n7 {d:Type}(o:dx d)(D:Int->Prop)(f:Nat)(b c:Array Value)(kp:d->Int->Int×d):Prop:=
 ∀F t w (x:Int),D x->o.J F t w->Calls prog f (b.push (ak x)++c) w fun r w'=>∃e,r=.returned (ak (kp t x).1)/\o.J e (kp t x).2 w'/\Fr F w w'/\∀k,e k->F k\/w.heap.size<=k
theorem wX {W:Type}(o:dx W)(D:Int->Prop)(f:Nat)(b c:Array Value)(nw:W->Int->Int)(ap:dS f)(ht:lz o D f b c nw)(l:List ce)(ad:Option Addr)(cap:Nat)(F:Nat->Prop)(t:W)(w:az)
 (bn:∀e∈l,D e.1/\D e.2)(hm:l.length<=100000)(ar:o.J F t w)(hp:dz w ad l):
 Calls prog 152 #[.slice ad l.length cap,.func (.func f) b c] w fun r w'=>∃a1 c1,r=.returned (.slice a1 l.length c1)/\w'.ownsRow w.heap.size 103 2 (.slice a1 l.length c1) l.length (ev (l.map fun e=>(nw t e.1,nw t e.2)))/\Below w.heap.size w w':=by
 obtain⟨bo,hi,bp,br,bs⟩:=info_parts n3;have aB:aA (lz o D f b c nw):=ht;have bt:aA (dz w ad l):=hp;have aF:aA (o.J F t w):=ar;clear hp ht ar;have cc:∀(args:Array Value)(w:az),(callFunc f args).run prog w=.ok (.enter f args) w:=ap;clear ap;go_enter func152,ntmps152;go_wp2_with fail
 go_loopw [5,10] (fun vt iv wr=>∃(j:Nat)(T:List ce)(n:Option Addr)(p:Nat),j<=l.length/\iv=ak j/\aA (T=(l.take j).map fun e=>(nw t e.1,nw t e.2))/\vt=.slice n T.length p/\
  wr.ownsRow w.heap.size 103 2 (.slice n T.length p) T.length (ev T)/\Below w.heap.size w wr) (fun _ iv _=>l.length-(intOf iv).toNat)
 case atStart=>exact⟨0,[],none,0,a4 _,rfl,rfl,rfl,bc _ _ _ _,aH _ _⟩
 case round=>
  obtain⟨j,T,n,p,m,rfl,v,rfl,d,hb⟩:=hrel;have bx:T.length<=100000:=by rw[v.o];simp;omega
  by_cases B:j<l.length
  ·obtain⟨cd,cf,b0,cg,hc⟩:=bt.o.below hb aa;obtain⟨aR,aV⟩:=hc j B;clear hc;obtain⟨a0,a2⟩:=bn (l.getD j (0,0)) (by rw[aJ,aN B];exact a8 B)
   have ab:aA (T++[(nw t (l.getD j (0,0)).1,nw t (l.getD j (0,0)).2)]=(l.take (j+1)).map fun e=>(nw t e.1,nw t e.2)):=by show _=_;rw[gL l j B (0,0),List.map_append,v.o];rfl
   generalize (l.getD j (0,0)).1=g at aR ab a0;generalize (l.getD j (0,0)).2=z at aV ab a2;subst b0;have b1:=hb.size;have ag:Below w.heap.size w (wr.alloc (.cells #[.int .i64 g,.int .i64 z] 103)):=hb.alloc b1 _;have ai:=f9 d (.cells #[.int .i64 g,.int .i64 z] 103)
   go_wp2_with fail
   go_region_held3 (fun w'=>w'.cell? (av wr.heap.size 0)=some (ak g)/\w'.cell? (av wr.heap.size 1)=some (ak z)) (go_keep)
    (first
      |(refine(aB.o F t _ g a0 (o.below aF.o ag.drew)).mono ?_;rintro e N ⟨rfl,q⟩;have al:Below w.heap.size w N:=ag.drew.trans (q.mono (by simp;omega));have am:=cL ai (fun k e=>q.block k (cu ai k e).2);have b2:=q.size;simp at b2;have y1:N.cell? (av wr.heap.size 0)=some (ak g):=(q.cell ac).trans ac;have a3:N.cell? (av wr.heap.size 1)=some (ak z):=(q.cell ac).trans ac;have ba:wr.heap.size<N.heap.size:=aa)
      |(refine(aB.o F t _ z a2 (o.below aF.o al)).mono ?_;rintro e i ⟨rfl,s⟩;have an:Below w.heap.size w i:=al.trans (s.mono aa);have bb:=cL am (fun k e=>s.block k (cu am k e).2);have ch:=s.size;have bd:i.cell? (av wr.heap.size 0)=some (ak g):=(s.cell ba).trans y1;have be:i.cell? (av wr.heap.size 1)=some (ak z):=(s.cell ba).trans a3;have bg:wr.heap.size<i.heap.size:=aa)
      |(refine step_append_lies _ rfl (.tmp 14) (.tmp 24) 151 rfl w.heap.size 103 bo (.agg #[ak 0,ak 0]) 2 16 underlying151 hi bp br bs rfl ae (.slice n T.length p) T.length (ev T) (by simp[Act.eval]) (f9 bb _) ⟨i.heap.size,0,none⟩ 1 1 [ak (nw t g),ak (nw t z)] (by simp[Act.eval]) rfl ?_ ?_ ae (by unfold maxLen;omega) aa (by simp;omega) _ rfl ?_;(intro j u m;match j,m with|0,m=>(simp at m;subst m;simp[Addr.add])|1,m=>(simp at m;subst m;simp[Addr.add]));(intro u x;simp at x;rcases x with x|x<;>(subst x;rfl));intro b6 bi ao bl S b3 b4;have b5:ao.cell? (av wr.heap.size 0)=some (ak g):=S.cell (((aw i _).cell bg).trans bd) (fun e=>absurd (cu d _ e).2 (Nat.lt_irrefl _));have b9:ao.cell? (av wr.heap.size 1)=some (ak z):=S.cell (((aw i _).cell bg).trans be) (fun e=>absurd (cu d _ e).2 (Nat.lt_irrefl _))))
   have ca:ao.ownsRow w.heap.size 103 2 (.slice (au b6) (T++[(nw t g,nw t z)]).length bi) (T++[(nw t g,nw t z)]).length (ev (T++[(nw t g,nw t z)])):=by rw[i4];simpa[ev] using bl
   have cb:=(an.alloc an.size _).grown S (by simp;omega) (fun k e=>(cu d k e.symm).1)
   clear bl S b3 b4 ai am bb ag al an d hb q s y1 a3 bd be b5 b9 aR aV;go_wp2_with fail;go_roundw
   case rel=>exact⟨j+1,T++[(nw t g,nw t z)],au b6,bi,aa,aj,ab,ac,ca,cb⟩
   case measure=>simp[intOf];omega
  ·obtain rfl:j=l.length:=aa;rw[bz] at v;have hl:T.length=l.length:=by rw[v.o,aZ]
   rw[hl] at d;have d:wr.ownsRow w.heap.size 103 2 (.slice n l.length p) l.length (ev (l.map fun e=>(nw t e.1,nw t e.2))):=by rw[<-v.o];exact d
   clear bx;go_wp2_with fail;go_ret;exact⟨n,p,by rw[hl];rfl,d,hb⟩
theorem wY (z:Value)(n:Nat)(hz:z.cells.size=2):(Builtin.zeroCells z.cells n).size=n*2:=by rw[size_zeroCells,hz]
theorem C1 (w:az)(n:Nat)(hn:n<=100000):
 Calls prog 243 #[.slice none 0 0,ak n] w fun e w'=>∃a1 c1,e=.returned (.slice a1 0 c1)/\w'.ownsRow w.heap.size 103 2 (.slice a1 0 c1) 0 []/\Below w.heap.size w w':=by
 obtain⟨c,hi,d,f,i⟩:=info_parts n3;rcases Nat.eq_zero_or_pos n with h0|h0
 ·subst h0;go_enter func243,ntmps243;go_wp2;go_ret;exact⟨none,0,rfl,bc _ _ _ _,aH _ _⟩
 ·have hr:=Lib.run_append_nil_zeros (P:=prog) w 151 3 151 103 c _ .i64 .i64 underlying151 underlying3 hi d n h0 (by rw[f];decide) aa (by rw[i];omega)
  have j:=grownCap_ge w n 0 103;have b:=grownCap_le_maxLen w n 0 103 (by unfold maxLen;omega)
  generalize grownCap w n 0 103=g at hr j b;have hown:(w.drew.alloc (.cells (Builtin.zeroCells (Value.agg #[.int .i64 0,.int .i64 0]).cells n++Builtin.zeroCells (Value.agg #[.int .i64 0,.int .i64 0]).cells (g-n)) 103)).ownsRow w.heap.size 103 2 (.slice (some ⟨w.heap.size,0,none⟩) 0 g) 0 []:=
   World.ownsRow_made w.drew _ g b7 b (by rw[Array.size_append,wY _ _ rfl,wY _ _ rfl];omega)
  have hb:Below w.heap.size w (w.drew.alloc (.cells (Builtin.zeroCells (Value.agg #[.int .i64 0,.int .i64 0]).cells n++Builtin.zeroCells (Value.agg #[.int .i64 0,.int .i64 0]).cells (g-n)) 103)):=(aH _ w).drew.alloc b7 _;go_enter func243,ntmps243;exact wL
theorem C2 (D:ce->Prop)(f:Nat)(b c:Array Value)(p:ce->Bool)(o:dS f)(w:az)
 (hl:∀(w':az)(e:ce),D e->w.heap.size<=w'.heap.size->(∀k,k<w.heap.size->w'.heap[k]?=w.heap[k]?)->Calls prog f (b.push (en e)++c) w' fun r u=>r=.returned (.bool (p e))/\Below w'.heap.size w' u)
 (l:List ce)(ad:Option Addr)(cap:Nat)(q:∀e∈l,D e)(hm:l.length<=100000)(hp:dz w ad l):
 Calls prog 228 #[.slice ad l.length cap,.func (.func f) b c] w fun r w'=>Below w.heap.size w w'/\((r=.returned (ak (-1))/\∀e∈l,p e=false)\/∃i:Nat,r=.returned (ak i)/\i<l.length/\p (l.getD i (0,0))=true/\∀e∈l.take i,p e=false):=by
 have v:=hide hl;have x:=hide hp;have B:=hide q;have ag:∀(args:Array Value)(w:az),(callFunc f args).run prog w=.ok (.enter f args) w:=o;clear hl hp o q;go_enter func228,ntmps228;go_wp2_with fail
 go_loopw [8] (fun iv wr=>∃j:Nat,j<=l.length/\iv=ak j/\aA (∀e∈l.take j,p e=false)/\Below w.heap.size w wr) (fun iv _=>l.length-(intOf iv).toNat)
 case atStart=>exact⟨0,a4 _,rfl,by simp[aA,Hid],aH _ _⟩
 case round=>
  obtain⟨j,ai,rfl,m,hb⟩:=hrel;by_cases d:j<l.length
  ·obtain⟨al,am,F,an,hc⟩:=x.o.below hb aa;obtain⟨N,S⟩:=hc j d;have n:aA (l.getD j (0,0)=((l.getD j (0,0)).1,(l.getD j (0,0)).2)):=rfl;have hd:D (l.getD j (0,0)):=B.o _ (by rw[aJ,aN d];exact a8 d)
   have hd:D ((l.getD j (0,0)).1,(l.getD j (0,0)).2):=hd;obtain⟨g,hg⟩:∃g,g=(l.getD j (0,0)).1:=⟨_,rfl⟩
   obtain⟨z,hz⟩:∃z,z=(l.getD j (0,0)).2:=⟨_,rfl⟩
   rw[<-hg] at N hd n;rw[<-hz] at S hd n;clear hc hg hz;subst F;go_wp2_with fail;refine(v.o wr (g,z) hd hb.size hb.block).mono ?_;rintro r w1 ⟨rfl,s⟩
   have t:=hb.trans (s.mono hb.size)
   clear hb s;cases hp:p (g,z)
   ·have W:aA (∀e∈l.take (j+1),p e=false):=fun e he=>by
     rw[gL l j d (0,0),List.mem_append,List.mem_singleton] at he;rcases he with he|he
     ·exact m.o e he
     ·rw[he,n.o];exact hp
    clear hp;go_wp2_with fail;go_roundw;exact⟨j+1,aa,aj,W,t⟩
    simp[intOf];omega
   ·have ab:aA (p (l.getD j (0,0))=true):=by show _=_;rw[n.o];exact hp
    clear hp;go_wp2_with fail;go_ret;exact⟨t,aL ⟨j,rfl,d,ab.o,m.o⟩⟩
  ·obtain rfl:j=l.length:=aa;rw[bz] at m;go_wp2_with fail;go_ret;exact⟨hb,aM ⟨rfl,m.o⟩⟩
theorem wZ (a b:Option Addr)(ca cb:Nat)(l:List (Int×Int))(w:az)(hm:l.length<=100000)(ha:dz w a l)(hb:dz w b l):
 Calls prog 70 #[.slice a l.length ca,.slice b l.length cb] w fun e w'=>e=.returned (.bool true)/\Below w.heap.size w w':=by
 have c:=hide ha;have HB:=hide hb;clear ha hb;go_enter func70,ntmps70;go_wp2
 go_loopw [13] (fun iv wr=>∃j:Nat,j<=l.length/\iv=ak j/\Below w.heap.size w wr) (fun iv _=>l.length-(intOf iv).toNat)
 exact⟨0,a4 _,rfl,aH _ _⟩
 ·
   obtain⟨j,d,rfl,hb⟩:=hrel;by_cases hlt:j<l.length
   ·obtain⟨f,g,e0,i,hc⟩:=(c.o.below hb) aa;exact wJ
   ·obtain rfl:j=l.length:=aa;go_wp2;go_ret;exact⟨rfl,hb⟩
theorem C3 (k:Int)(a b:Option Addr)(ca cb:Nat)(l:List (Int×Int))(w:az)(hm:l.length<=100000)(ha:dz w a l)(hb:dz w b l):
 Calls prog 72 #[.agg #[ak k,.slice a l.length ca],.agg #[ak k,.slice b l.length cb]] w fun e w'=>e=.returned (.bool true)/\Below w.heap.size w w':=by
 have c:=(aw w (.cells #[.int .i64 k,.slice a l.length ca] 107)).alloc ac (.cells #[.int .i64 k,.slice b l.length cb] 107)
 have P:=wZ a b ca cb l _ hm (ha.below c) (hb.below c)
 have f:((w.alloc (.cells #[.int .i64 k,.slice a l.length ca] 107)).alloc (.cells #[.int .i64 k,.slice b l.length cb] 107)).heap.size=w.heap.size+2:=ac;clear ha hb;go_enter func72,ntmps72;go_wp2_with fail;refine P.mono ?_;clear P;rintro e w1 ⟨rfl,d⟩
 go_wp2_with fail;go_ret;exact⟨rfl,(c.trans (d.mono aa))⟩
theorem C4 (n1 m:Option Addr)(x B:Nat)(b:List (Int×List (Int×Int)))(w:az)(hl:b.length<=100000)(F:∀nd∈b,nd.2.length<=100000)(N:Ln w n1 b)(S:Ln w m b):
 Calls prog 71 #[.slice n1 b.length x,.slice m b.length B,.func (.func 72) #[] #[]] w fun e w'=>e=.returned (.bool true)/\Below w.heap.size w w':=by
 have W:aA (∀w',Below w.heap.size w w'->Ln w' n1 b):=fun w' hb=>N.below hb;have ab:aA (∀w',Below w.heap.size w w'->Ln w' m b):=fun w' hb=>S.below hb;have ad:=hide F;go_enter func71,ntmps71;go_wp2_with fail
 go_loopw [17] (fun iv wr=>∃j:Nat,j<=b.length/\iv=ak j/\aA (Below w.heap.size w wr)) (fun iv _=>b.length-(intOf iv).toNat)
 exact⟨0,a4 _,rfl,aH _ _⟩
 ·
   obtain⟨j,aF,rfl,hb⟩:=hrel;by_cases d:j<b.length
   ·obtain⟨b1,o1,f,g,ag,l1,ai,al,o⟩:=(W.o wr hb.o).at d;obtain⟨b2,q,i,k,am,l2,s,t,u⟩:=(ab.o wr hb.o).at d;subst ag am;have v:(b.getD j (0,[])).2.length<=100000:=ad.o _ (by rw[aJ,aN d];exact a8 d)
    generalize (b.getD j (0,[])).1=kd at ai s;generalize (b.getD j (0,[])).2=c at al o t u v;have n:=aw wr (.cells #[.int .i64 kd,.slice f c.length g] 107)
    have aR:=(n.cell (p:=av b2 (q+j*2)) l2).trans s;have aV:=(n.cell (p:=av b2 (q+j*2+1)) l2).trans t;have l:=n.alloc ac (.cells #[.int .i64 kd,.slice i c.length k] 107)
    have an:aA (Calls prog 72 #[.agg #[ak kd,.slice f c.length g],.agg #[ak kd,.slice i c.length k]] ((wr.alloc (.cells #[.int .i64 kd,.slice f c.length g] 107)).alloc (.cells #[.int .i64 kd,.slice i c.length k] 107)) fun e w'=>e=.returned (.bool true)/\Below w.heap.size w w'):=by
     refine(C3 kd f i g k c _ v (o.below l) (u.below l)).mono ?_;rintro e w' ⟨rfl,ao⟩
     exact⟨rfl,hb.o.trans ((l.trans (ao.mono l.size)).mono hb.o.size)⟩
    have ap:=an.o;go_wp2_with fail;refine ap.mono ?_;rintro e a0 ⟨rfl,ar⟩
    have aB:=hide ar;go_wp2_with fail;go_roundw;exact⟨j+1,aa,aj,aB⟩
    simp[intOf];omega
   ·obtain rfl:j=b.length:=aa;go_wp2_with fail;go_ret;exact⟨rfl,hb.o⟩
theorem C5 (r1 f n1 d:Option Addr)(c1 c2 g i:Nat)(c:List (Int×Int))(b:List (Int×List (Int×Int)))(w:az)(hm:c.length<=100000)(hl:b.length<=100000)(n:∀nd∈b,nd.2.length<=100000)(o:dz w r1 c)(q:dz w f c)(s:Ln w n1 b)(t:Ln w d b):
 Calls prog 30 #[.agg #[.slice r1 c.length c1,.slice n1 b.length g],.agg #[.slice f c.length c2,.slice d b.length i]] w fun e w'=>e=.returned (.bool true)/\Below w.heap.size w w':=by
 have j:=(aw w (.cells #[.slice r1 c.length c1,.slice n1 b.length g] 60)).alloc ac (.cells #[.slice f c.length c2,.slice d b.length i] 60)
 have k0:((w.alloc (.cells #[.slice r1 c.length c1,.slice n1 b.length g] 60)).alloc (.cells #[.slice f c.length c2,.slice d b.length i] 60)).cell? (av w.heap.size 1)=some (.slice n1 b.length g):=by simp[go_sem]
 have k1:((w.alloc (.cells #[.slice r1 c.length c1,.slice n1 b.length g] 60)).alloc (.cells #[.slice f c.length c2,.slice d b.length i] 60)).cell? (av (w.heap.size+1) 1)=some (.slice d b.length i):=by simp[go_sem]
 have u:((w.alloc (.cells #[.slice r1 c.length c1,.slice n1 b.length g] 60)).alloc (.cells #[.slice f c.length c2,.slice d b.length i] 60)).heap.size=w.heap.size+2:=ac;have P:=wZ r1 f c1 c2 c _ hm (o.below j) (q.below j)
 have m:aA (∀w',Below w.heap.size w w'->_):=fun w' hb=>C4 n1 d g i b w' hl n (s.below hb) (t.below hb)
 go_enter func30,ntmps30;go_wp2_with fail;refine P.mono ?_;rintro e w1 ⟨rfl,k⟩
 have l:=j.trans (k.mono aa)
 have B:=(k.cell (p:=av w.heap.size 1) (by show w.heap.size<_;omega)).trans k0;have F:=(k.cell (p:=av (w.heap.size+1) 1) (by show w.heap.size+1<_;omega)).trans k1;have v:=m.o w1 l;clear j k0 k1 u k m;go_wp2_with fail;refine v.mono ?_;rintro e N ⟨rfl,x⟩
 go_wp2_with fail;go_ret;exact⟨rfl,(l.trans (x.mono l.size))⟩
def B1:List Int:=fK (List.replicate 24 0) 0 33 2
def B2:List Int:=fK B1 3 194 12
theorem e16:gE 16 16 0 0=16:=by decide+kernel
theorem C7 (ws:List Int)(y:Nat)(hd:Int)(k:Nat):(fK ws y hd k).length=ws.length:=by
 induction k with
 |zero=>simp[fK]
 |succ k b=>simp[fK,b]
theorem lZ (l:List Int)(i j:Nat)(x:Int)(h:i<l.length):(l.set i x).getD j 0=if i=j then x else l.getD j 0:=by
 rw[aJ,aJ,List.getElem?_set];split
 ·rename_i e;subst e;simp
 ·rfl
theorem jT (ws:List Int)(y:Nat)(hd:Int)(k i:Nat)(h:y+k<ws.length):(fK ws y hd k).getD i 0=if i=y then hd else if y+1<=i/\i<y+1+k then 2 else ws.getD i 0:=by
 induction k with
 |zero=>
  rw[fK,lZ _ _ _ _ aa];by_cases e:y=i
  ·rw[aK e,aK e.symm]
  ·rw[aI e,aI (fun c=>e c.symm),aI aa]
 |succ k f=>
  rw[fK,lZ _ _ _ _ (by rw[C7];omega),f aa];by_cases e:y+1+k=i
  ·rw[aK e,aI aa,aK aa]
  ·rw[aI e];by_cases b:i=y
   ·rw[aK b,aK b]
   ·rw[aI b,aI b];by_cases d:y+1<=i/\i<y+1+k
    ·rw[aK d,aK aa]
    ·rw[aI d,aI aa]
theorem C8 (y f:Nat):hB 0 ((y+1+f:Nat):Int) y=true:=by simp[hB];omega
theorem w6 {N y g:Nat}{ws:List Int}(hd:Int)(f:Nat)(h:y+f<ws.length):ld N (y+1+f) g (fK ws y hd f) y=hd:=by
 have hi:dt N (y+1+f) g y=true:=by unfold dt;rw[C8];rfl
 unfold ld;rw[aK hi,Int.toNat_natCast,jT _ _ _ _ _ h,aK rfl]
def iV (N y:Nat)(k f:Int):Bool:=decide (hc k f=0/\f+1<=(N:Int)-y)
def iE (N O y g:Nat)(ws:List Int)(a:Int):Bool:=decide (pc (ld N y g ws a)=0/\1+pf (ld N y g ws a)<=gE N y g a-a/\1+pf (ld N y g ws a)<=(O:Int)-g)
theorem o4 {N y:Nat}{k f:Int}(h:iV N y k f=true):hc k f=0/\f+1<=(N:Int)-y:=by simpa[iV] using h
theorem C9 {N y:Nat}{k f:Int}(h:iV N y k f=false):hc k f≠0\/(N:Int)-y<f+1:=by
 have:¬(hc k f=0/\f+1<=(N:Int)-y):=by simpa[iV] using h
 by_cases c:hc k f=0
 ·exact aL aa
 ·exact aM c
theorem o5 {N O y g:Nat}{ws:List Int}{a:Int}(h:iE N O y g ws a=true):pc (ld N y g ws a)=0/\1+pf (ld N y g ws a)<=gE N y g a-a/\1+pf (ld N y g ws a)<=(O:Int)-g:=by simpa[iE] using h
theorem C_ {N O y g:Nat}{ws:List Int}{a:Int}(h:iE N O y g ws a=false):pc (ld N y g ws a)≠0\/gE N y g a-a<1+pf (ld N y g ws a)\/(O:Int)-g<1+pf (ld N y g ws a):=by
 have:¬(pc (ld N y g ws a)=0/\1+pf (ld N y g ws a)<=gE N y g a-a/\1+pf (ld N y g ws a)<=(O:Int)-g):=by simpa[iE] using h
 by_cases c:pc (ld N y g ws a)=0
 ·exact aL aa
 ·exact aM c
def qh (N y:Nat)(k f:Int):Int:=if iV N y k f=true then(y:Int) else-1
def i_ (N y:Nat)(k f:Int):Nat:=if iV N y k f=true then y+1+f.toNat else y
def fS (N y:Nat)(k f:Int)(ws:List Int):List Int:=if iV N y k f=true then fK ws y (hw k f) f.toNat else ws
def mY (N O y g:Nat)(ws:List Int)(a:Int):Int:=if iE N O y g ws a=true then((N+g:Nat):Int) else-1
def jU (N O y g:Nat)(ws:List Int)(a:Int):Nat:=if iE N O y g ws a=true then g+(1+(pf (ld N y g ws a)).toNat) else g
def jV (N O y g:Nat)(ws:List Int)(a:Int):List Int:=if iE N O y g ws a=true then splice ws (N+g) ((ws.drop a.toNat).take (1+(pf (ld N y g ws a)).toNat)) else ws
theorem Da {p q N O y g:Nat}{ws:List Int}(k f:Int)(w:az)(h:At w p q N O y g ws):
 Calls prog 41 #[aq p,ak k,ak f] w fun e w'=>e=.returned (ak (qh N y k f))/\At w' p q N O (i_ N y k f) g (fS N y k f ws)/\dh p q w w':=by
 unfold qh i_ fS;cases hb:iV N y k f
 ·rw[aI ac,aI ac,aI ac];exact(CP k f w h (C9 hb)).mono fun e w' b=>⟨b.1,h.below b.2 b7,dh.of b.2⟩
 ·exact CO k f w h (o4 hb).1 (o4 hb).2
theorem w7 {p q N O y g:Nat}{ws:List Int}(a:Int)(w:az)(h:At w p q N O y g ws):
 Calls prog 165 #[aq p,ak a] w fun e w'=>e=.returned (ak (mY N O y g ws a))/\At w' p q N O y (jU N O y g ws a) (jV N O y g ws a)/\dh p q w w':=by
 unfold mY jU jV;cases hb:iE N O y g ws a
 ·rw[aI ac,aI ac,aI ac];exact(CW a w h (C_ hb)).mono fun e w' b=>⟨b.1,h.below b.2 b7,dh.of b.2⟩
 ·exact CV a w h (o5 hb).1 (o5 hb).2.1 (o5 hb).2.2
open Go.ChangeShapes Go.WideShapes Go.ChangeAt Go.RowKit Go.Joins Go.Deep W ck
section
variable {P:Program}(w:az)
theorem Db (base:Nat)(t ty e:TypeId)(i:TypeInfo)(z:Value)(size bytes:Nat)(ht:P.underlying t=some (.slice e))(hi:P.info? e=some i)(hz:i.zero=some z)
 (l:i.size=size)(o:i.bytes=bytes)(p:z.cells.size=size)(q:0<size)
 (v:Value)(n:Nat)(g:List Value)(k:w.ownsRow base e size v n g)
 (ad:Option Addr)(m c:Nat)(f:List Value)(hl:f.length=m*size)(s:ad=none->m=0/\c=0)(S:∀a,ad=some a->∀j u,f[j]?=some u->w.cell? (a.add j)=some u)(x:∀u∈f,u.oneCell'=true)
 (B:n+m<=maxLen)(F:(n+m)*bytes<=140737488355328)(N:base<=w.heap.size):
 ∃b d w',(Builtin.append_ #[t,t] ty #[v,.slice ad m c]).run P w=.ok (.slice b (n+m) d) w'/\w'.ownsRow base e size (.slice b (n+m) d) (n+m) (g++f)/\w.grownBy w' v.ownBlock/\((Value.slice b (n+m) d).ownBlock=v.ownBlock\/(Value.slice b (n+m) d).ownBlock=some w.heap.size):=by
 cases ad with
 |some a=>
  obtain⟨W,w',hr,ab,ag,_,ai⟩:=run_append_own_at (P:=P) w base t ty e i z size bytes ht hi hz l o p q v n g k a m c f hl (by grind) x B F N
  grind [eN]
 |none=>
  obtain⟨rfl,rfl⟩:=s rfl;have hn:=List.eq_nil_of_length_eq_zero (by simpa using hl)
  subst hn;have hr:=run_append_owned_none (P:=P) w base t ty e i size ht hi v n g k;obtain⟨b,d,rfl⟩:=eN k;exact⟨b,d,w,hr,by grind,⟨rfl,rfl,rfl,aG _,fun _ _ _=>rfl⟩,aM rfl⟩
theorem Dc {o:Oper}{a:Act}{K:Act->az->Prop}{Q:Exit->Act->az->Prop}(s x:Operand)(t:TypeId)
 (ho:o.op=.call {callee:=.builtin .append,args:=#[s,x],argTypes:=#[t,t]})
 (base:Nat)(e:TypeId)(i:TypeInfo)(z:Value)(size bytes:Nat)(ht:P.underlying t=some (.slice e))(hi:P.info? e=some i)(hz:i.zero=some z)
 (k:i.size=size)(l:i.bytes=bytes)(p:z.cells.size=size)(q:0<size)
 (v:Value)(n:Nat)(g:List Value)(hs:a.eval s=v)(B:w.ownsRow base e size v n g)
 (ad:Option Addr)(m c:Nat)(f:List Value)(F:a.eval x=.slice ad m c)(hl:f.length=m*size)(N:ad=none->m=0/\c=0)(S:∀a,ad=some a->∀j u,f[j]?=some u->w.cell? (a.add j)=some u)(W:∀u∈f,u.oneCell'=true)
 (ab:n+m<=maxLen)(ag:(n+m)*bytes<=140737488355328)(ai:base<=w.heap.size)
 (h:∀b d w',w'.ownsRow base e size (.slice b (n+m) d) (n+m) (g++f)->w.grownBy w' v.ownBlock->((Value.slice b (n+m) d).ownBlock=v.ownBlock\/(Value.slice b (n+m) d).ownBlock=some w.heap.size)->K (a.put o.dst (.slice b (n+m) d)) w'):o.wp P a w K Q:=by
 obtain⟨b,d,w',hr,al,am,an⟩:=Db (P:=P) w base t o.type e i z size bytes ht hi hz k l p q v n g B ad m c f hl N S W ab ag ai;unfold Oper.wp execOp;simp only [ho,resolve,invoke,builtin,Sem.run_bind,Sem.run_pure,Result.andThen_ok,List.map_toArray,List.map_cons,List.map_nil,hs,F,hr];exact h b d w' al am an
theorem w8 {ops:Array Oper}{k:List Oper}{o:Oper}{a:Act}{Q:Exit->Act->az->Prop}(l:o.guard=none)(s x:Operand)(t:TypeId)
 (ho:o.op=.call {callee:=.builtin .append,args:=#[s,x],argTypes:=#[t,t]})
 (base:Nat)(e:TypeId)(i:TypeInfo)(z:Value)(size bytes:Nat)(ht:P.underlying t=some (.slice e))(hi:P.info? e=some i)(hz:i.zero=some z)
 (p:i.size=size)(q:i.bytes=bytes)(B:z.cells.size=size)(F:0<size)
 (v:Value)(n:Nat)(g:List Value)(hs:a.eval s=v)(N:w.ownsRow base e size v n g)
 (ad:Option Addr)(m c:Nat)(b:List Value)(S:a.eval x=.slice ad m c)(hl:b.length=m*size)(W:ad=none->m=0/\c=0)(ab:∀a,ad=some a->∀j u,b[j]?=some u->w.cell? (a.add j)=some u)(ag:∀u∈b,u.oneCell'=true)
 (ai:n+m<=maxLen)(al:(n+m)*bytes<=140737488355328)(am:base<=w.heap.size)
 (h:∀d f w',w'.ownsRow base e size (.slice d (n+m) f) (n+m) (g++b)->w.grownBy w' v.ownBlock->((Value.slice d (n+m) f).ownBlock=v.ownBlock\/(Value.slice d (n+m) f).ownBlock=some w.heap.size)->wpList P ops Q k (a.put o.dst (.slice d (n+m) f)) w'):wpList P ops Q (o::k) a w:=
 wpList_plain l fun _ an=>Dc w s x t ho base e i z size bytes ht hi hz p q B F v n g hs N ad m c b S hl W ab ag ai al am fun d f w' ao ap ar=>(by grind)
end
theorem iU.below {w w':az}{ad:Option Addr}{l:List Int}(h:iU w ad l)(hb:Below w.heap.size w w'):iU w' ad l:=
 h.keep hb.size (fun hp z e=>by
  obtain⟨b,o,c,d,_⟩:=h hp
  grind [Below.block])
end Go.Proofs.YtpkjkjhanlbcoaaGreat
