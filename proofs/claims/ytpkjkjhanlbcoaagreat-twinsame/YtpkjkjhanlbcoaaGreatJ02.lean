import Derived.Test.YtpkjkjhanlbcoaaGreatJ01
import Derived.Deep.RegionLaw
import Derived.Deep.AppendLies
import Derived.Lib.AppendZeros
import Derived.Deep.DeepCutAuto
import Derived.Deep.Slices
import Derived.Lib.SmallJoins
import Derived.OpenShut
import Derived.Laws.OwnMore
namespace Go.Proofs.YtpkjkjhanlbcoaaGreat
set_option maxRecDepth 100000
set_option maxHeartbeats 2000000
open Tryz
open Go.RowKit W
theorem wi {P:Prop}(h:P:=by
 go_enter func101,ntmps101;go_wp2_with fail;refine P.mono ?_;rintro e w1 ⟨rfl,hb1⟩
 have y1:=(hb1.cell (p:=aq pw 0) ir).trans hc;go_wp2_with fail;refine(HK.o w1 hb1).mono ?_;rintro e w2 ⟨d1,f1,d2,f2,rfl,L1,L2,hb2⟩
 have ed:=hb1.trans (hb2.mono hb1.size)
 go_wp2_with fail;refine(L1.o w2 bX).mono ?_;rintro e w3 ⟨rfl,hb3⟩
 have jI:=ed.trans (hb3.mono ed.size)
 go_wp2_with fail;refine(L2.o w3 hb3).mono ?_;rintro e w4 ⟨rfl,hb4⟩
 have Cv:=jI.trans (hb4.mono jI.size)
 go_wp2_with fail;go_ret2;exact⟨rfl,Cv⟩):P:=h
theorem wj {P:Prop}(h:P:=by go_wp2_with fail;refine a3 (results_none rfl _ _ _) rfl ?_;have e2:=A5.o;rw[E1.o,List.append_nil] at e2;rw[<-e2];exact⟨rfl,v,(ed.block c (lt_of_some CC.o)).trans CC.o,nR (lP hown ed) V,⟨(hS.trans (eN.of ed hsz)).os,(hS.trans (eN.of ed hsz)).tape,(hS.trans (eN.of ed hsz)).output,by have:=(hS.trans (eN.of ed hsz)).size;simp at this;omega,fun k hk h1=>((hS.trans (eN.of ed hsz)).block k V h1).trans (aS _ _ _ hk)⟩⟩):P:=h
theorem wm {P:Prop}(h:P:=by refine bodyPost_end (results_none rfl _ _ _) rfl ?_;have e2:=A5.o;rw[wn k V,List.append_nil] at e2;rw[<-e2];exact⟨rfl,v,(hb1.block c (lt_of_some CC.o)).trans CC.o,nR (lP hown hb1) V,⟨(hS.trans (eN.of hb1 hsz)).os,(hS.trans (eN.of hb1 hsz)).tape,(hS.trans (eN.of hb1 hsz)).output,by have:=(hS.trans (eN.of hb1 hsz)).size;simp at this;omega,fun k hk h1=>((hS.trans (eN.of hb1 hsz)).block k V h1).trans (aS _ _ _ hk)⟩⟩):P:=h
theorem wu {P:Prop}(h:P:=by obtain⟨d0,d1,d2,f0,f1,f2,hz⟩:=cells3 hb1;obtain⟨c0,c1,c2,c3,c4,c5,c6⟩:=((h.alloc _).below hb1 bW).cells;go_wp2_with fail;exact a3 (by simp[results,results221,go_sem,d0,d1,d2]) rfl ⟨rfl,((((bX.alloc bW _).trans (hb1.mono Z)).setCell bW _).setCell bW _).setCell bW _⟩):P:=h
theorem ww {P:Prop}(h:P:=by
 go_wp2_with (at_builtin;refine Lib.wpList_append_run _ rfl _ _ _ _ rfl _ _ rfl rfl _ _ hr ?_)
 go_wp2;go_ret;exact⟨_,_,rfl,hown,hb⟩):P:=h
def fC (ws:List Int)(y:Nat)(hd:Int):Nat->List Int
 |0=>ws.set y hd
 |k+1=>(fC ws y hd k).set (y+1+k) 2
theorem bk (n:Int):Go.IntKind.i64.wrap n = (n + 9223372036854775808) % 18446744073709551616 - 9223372036854775808:=IntKind.wrap_i64 ..
theorem Cw {p q N O y g:Nat}{ws:List Int}(k f:Int)(w:ax)(h:At w p q N O y g ws)(hk:hc k f=0)(hr:f+1<=(N:Int)-y):
 Calls prog 41 #[aj p,ah k,ah f] w fun e w'=>e=.returned (ah y)/\At w' p q N O (y+1+f.toNat) g (fC ws y (hw k f) f.toNat)/\c_ p q w w':=by
 obtain⟨_,_,o,s⟩:=iS k f hk;obtain⟨f,rfl⟩:=Int.eq_ofNat_of_zero_le o;simp only [Int.toNat_natCast];have H:ay (hc k f=0):=hk;clear hk;have k1:=h.hN';have t:=h.hy;have u:=h.hO;have v:=h.hg;go_enter func41,ntmps41;go_wp2_with fail;refine(oJ k f _).mono ?_;rintro e w1 ⟨rfl,rfl⟩
 rw[H.o];obtain⟨c0,c1,c2,c3,c4,c5,d⟩:=h.cells;go_wp2_with fail;refine(Ch (1+f) _ h V V).mono ?_;rintro e x ⟨rfl,b,s2⟩
 rw[show(1+(f:Int)).toNat=1+f by omega] at b;obtain⟨c0,c1,c2,c3,c4,c5,d⟩:=b.cells;have l:=b.word y V;have m:=b.sg y;have b1:(y:Int)<((N+O:Nat):Int):=V;go_wp2_with fail
 go_loopw [39] (fun i wr=>∃j:Nat,j<=f/\i=ah j/\At wr p q N O (y+(1+f)) g (fC ws y (hw k f) j)/\c_ p q w1 wr) (fun i _=>f-(intOf i).toNat)
 case atStart=>exact⟨0,aY _,rfl,b.set y _,s2.trans (c_.sf _ _)⟩
 case round=>
  obtain⟨j,A,rfl,c,n⟩:=hrel;clear c0 c1 c2 c3 c4 c5 d l m;obtain⟨c0,c1,c2,c3,c4,c5,d⟩:=c.cells;by_cases B:j<f
  ·have l:=c.word (y+1+j) V;have m:=c.sg (y+1+j)
   have b2:(y:Int)+1+j<((N+O:Nat):Int):=V;go_wp2_with fail;have b3:(0:Int)<=(y:Int)+1+j:=V;have b4:((y:Int)+1+j).toNat=y+1+j:=V;have b5:(y:Int)+1+j<(N:Int)+O:=V;have b6:IntKind.i64.wrap ((y:Int)+1)=(y:Int)+1:=by rw[bk];omega
   have C:IntKind.i64.wrap ((y:Int)+1+j)=(y:Int)+1+j:=by rw[bk];omega
   go_region_with (go_at_call 47;refine(sc _).mono ?_;rintro e D ⟨rfl,rfl⟩)
   all_goals
    go_wp2_with fail;go_roundw
    case rel=>exact⟨j+1,V,af,c.drew.set _ _,n.drew.trans (c_.sf _ _)⟩
    case measure=>simp[intOf];omega
  ·go_wp2_with fail;go_ret;have e:j=f:=V;subst e;exact⟨rfl,by rw[Nat.add_assoc];exact c,n⟩
theorem Cx {p q N O y g:Nat}{ws:List Int}(k f:Int)(w:ax)(h:At w p q N O y g ws)(hk:hc k f≠0\/(N:Int)-y<f+1):
 Calls prog 41 #[aj p,ah k,ah f] w fun e w'=>e=.returned (ah (-1))/\Below w.heap.size w w':=by
 by_cases c:hc k f=0
 ·obtain⟨_,_,b,d⟩:=iS k f c;go_enter func41,ntmps41;go_wp2_with fail;refine(oJ k f _).mono ?_;rintro e w1 ⟨rfl,rfl⟩
  rw[(hide c).o];obtain⟨c0,c1,c2,c3,c4,c5,i⟩:=h.cells;go_wp2_with fail;refine(Cj (1+f) _ h V).mono ?_;rintro e j ⟨rfl,hb⟩
  go_wp2;go_ret;exact⟨rfl,hb⟩
 ·go_enter func41,ntmps41;go_wp2_with fail;refine(oJ k f _).mono ?_;rintro e w1 ⟨rfl,rfl⟩
  go_wp2;go_ret;exact⟨rfl,aH _ _⟩
theorem Cy {p q N O y g:Nat}{ws:List Int}(a n:Int)(w:ax)(h:At w p q N O y g ws)(h0:0<=a)(b:0<=n)(c:a+n<=(N:Int)+O):
 Calls prog 220 #[aj p,ah a,ah n] w fun e w'=>e=.returned (.bool true)/\w'=w:=by
 obtain⟨c0,c1,c2,c3,c4,c5,d⟩:=h.cells;have k1:=h.hN';have f:=h.hO;go_wp2;go_ret;exact⟨by simp;omega,rfl⟩
def k3 (w w':ax)(g:Nat)(c:List Value)(d:Nat)(b:List Value):Prop:=
 (b=[]/\w'=w)\/w'=w.setRow g (splice c d b).toArray
theorem p4 {P:Program}{ops:Array Oper}{o:Oper}{a:Act}{w:ax}{K:Act->ax->Prop}{Q:Exit->Act->ax->Prop}{E:Prop}(A:o.guard=none)(q s:Operand)(c l d:TypeId)
 (ho:o.op=.call {callee:=.builtin .copy,args:=#[q,s],argTypes:=#[c,l]})(u:P.underlying c=some (.slice d))(x:(P.info? d).map (·.size)=some 1)
 (m sp:Option Addr)(e n f p:Nat)(hd:a.eval q=.slice m e n)(hs:a.eval s=.slice sp f p)
 (g i:Nat)(k:List Value)(t:TypeId)(hg:w.heap[g]?=some (.cells k.toArray t (0,0)))(b:List Value)(hn:b.length=Nat.min f e)
 (B:0<b.length->m=some ⟨g,i,none⟩/\∃ad,sp=some ad/\∀j v,b[j]?=some v->w.cell? (ad.add j)=some v)
 (C:i+b.length<=k.length)(D:∀v∈b,v.oneCell'=true)
 (h:∀w',k3 w w' g k i b->K (a.put o.dst (goInt b.length)) w'):
 if Region.wanted o (yielded ops a.tmps)=true then Oper.wp P o a w K Q else E:=by
 rw[aI (show Region.wanted o (yielded ops a.tmps)=true by simp[Region.wanted,A])];rcases Nat.eq_zero_or_pos b.length with h0|h0
 ·have F:=List.eq_nil_of_length_eq_zero h0;subst F;unfold Oper.wp;simp[execOp,ho,resolve,invoke,builtin,hd,hs,(run_copy_none (P:=P) w c l o.type d m sp e n f p u x (by simpa using hn.symm)),Result.andThen];exact h w (aK ⟨rfl,rfl⟩)
 ·obtain⟨G,ad,H,I⟩:=B h0;subst G H;unfold Oper.wp;simp[execOp,ho,resolve,invoke,builtin,hd,hs,(run_copy_row (P:=P) w c l o.type d g i e n ad f p k.toArray t b u x hg hn I (by simpa using C) D),Result.andThen];exact h _ (aJ (by simp[splice]))
theorem sr:(prog.info? 2).map (·.size)=some 1:=ae
theorem oP (l:List Int):∀v∈l.map (Value.int .i64),v.oneCell'=true:=by intro v hv;obtain⟨x,_,rfl⟩:=List.mem_map.1 hv;rfl
theorem ss (ws b:List Int)(t:Nat):splice (ws.map (Value.int .i64)) t (b.map (Value.int .i64))=(splice ws t b).map (Value.int .i64):=by simp[splice,List.map_take,List.map_drop]
theorem At.moved {w w':ax}{p q N O y g:Nat}{ws b:List Int}{t:Nat}(h:At w p q N O y g ws)(hm:k3 w w' q (ws.map (Value.int .i64)) t (b.map (Value.int .i64)))(c:t+b.length<=N+O):
 At w' p q N O y g (splice ws t b)/\c_ p q w w':=by
 rcases hm with⟨e,rfl⟩|rfl
 ·have d:b=[]:=by simpa using e
  subst d;have f:splice ws t []=ws:=by simp[splice]
  rw[f];exact⟨h,c_.refl _ _ _⟩
 ·rw[ss];exact⟨h.row (by rw[length_splice _ _ _ (by rw[h.hl];exact c)];exact h.hl),c_.B9 _⟩
theorem At.src {w:ax}{p q N O y g:Nat}{ws:List Int}(h:At w p q N O y g ws)(f n:Nat)(e:f+n<=N+O)(j:Nat)(v:Value)(hv:(((ws.drop f).take n).map (Value.int .i64))[j]?=some v):
 w.cell? ((⟨q,f,none⟩:Addr).add j)=some v:=by
 rw[List.getElem?_map] at hv;obtain⟨x,b,rfl⟩:=Option.map_eq_some_iff.1 hv;have c:=(List.getElem?_eq_some_iff.1 b).1;have d:j<n:=by simp at c;omega
 have:=h.word (f+j) V;rw[show((⟨q,f,none⟩:Addr).add j)=⟨q,f+j,none⟩ by simp[Addr.add],this];rw[List.getElem?_take_of_lt d,List.getElem?_drop] at b;simp[List.getD_eq_getElem?_getD,b]
theorem aW {α:Type _}{β:Type _}{«as»:List α}(f:α -> β):(List.map f «as»).length = «as».length:=List.length_map ..
theorem wx {p q N O y g:Nat}{ws:List Int}(t f n:Nat)(w:ax)(b:At w p q N O y g ws)(x:t+n<=N+O)(k:f+n<=N+O):
 Calls prog 162 #[aj p,ah t,ah f,ah n] w fun e w'=>e=.returned (.tuple #[])/\At w' p q N O y g (splice ws t ((ws.drop f).take n))/\c_ p q w w':=by
 obtain⟨c0,c1,c2,c3,c4,c5,A⟩:=b.cells;have k1:=b.hN';have B:=b.hO;have hl:=b.hl;have b1:IntKind.i64.wrap ((t:Int)+n)=(t:Int)+n:=by rw[bk];omega
 have b2:IntKind.i64.wrap ((f:Int)+n)=(f:Int)+n:=by rw[bk];omega
 have b3:(t:Int)+n<=(N:Int)+O:=V;have b4:(f:Int)+n<=(N:Int)+O:=V;have b5:((t:Int)+n).toNat=t+n:=V;have b6:((f:Int)+n).toNat=f+n:=V;have C:(0:Int)<=(t:Int)+n:=V;have D:(0:Int)<=(f:Int)+n:=V;have c:((ws.drop f).take n).length=n:=by simp;omega
 have l:ay ((((ws.drop f).take n).map (Value.int .i64)).length=Nat.min n n):=by show _=_;rw[aW,c];simp
 have m:ay (0<(((ws.drop f).take n).map (Value.int .i64)).length->(if N+O=t then some (⟨q,0,none⟩:Addr) else some ⟨q,t,none⟩)=some ⟨q,t,none⟩/\∃ad,(if N+O=f then some (⟨q,0,none⟩:Addr) else some ⟨q,f,none⟩)=some ad/\∀j v,(((ws.drop f).take n).map (Value.int .i64))[j]?=some v->w.drew.cell? (ad.add j)=some v):=by intro o;rw[aW,c] at o;rw[aG V,aG V];exact⟨rfl,_,rfl,fun j v hv=>b.drew.src f n k j v hv⟩
 have s:ay (t+(((ws.drop f).take n).map (Value.int .i64)).length<=(ws.map (Value.int .i64)).length):=by show _<=_;rw[aW,aW,c];omega
 clear c hl;go_enter func162,ntmps162;go_wp2_with (go_at_call 220;refine(Cy _ _ _ b ?_ ?_ ?_).mono ?_;omega;omega;omega;rintro e w1 ⟨rfl,hw⟩;have hw:=hw.symm;subst hw)
 go_region_law (refine p4 rfl (.tmp 26) (.tmp 35) 53 53 2 rfl underlying53 sr (if N+O=t then ak q else some ⟨q,t,none⟩) (if N+O=f then ak q else some ⟨q,f,none⟩) n (N+O-t) n (N+O-f) ?_ ?_ q t (ws.map (Value.int .i64)) 2 b.drew.hq (((ws.drop f).take n).map (Value.int .i64)) l.o m.o s.o (oP _) ?_;(first|rfl|simp[Act.eval,Act.put]);(first|rfl|simp[Act.eval,Act.put]);intro E d;obtain⟨i,u⟩:=b.drew.moved d (by simp;omega);clear d)
 all_goals go_wp2_with fail
 all_goals
  go_end0;refine⟨rfl,?_,(c_.refl _ _ _).drew.trans u⟩
  first
   |exact i
   |(
    have e:t=f:=V;subst e;exact i)
theorem p5 (x:Int)(h:pc x=0):0<=pf x/\pf x<=12:=by have:=iS _ _ (BQ x h).1;omega
theorem Cz:pc 0=7:=by decide+kernel
theorem wy {N y g:Nat}{ws:List Int}{a:Int}(h:pc (ld N y g ws a)=0):dd N y g a=true:=by
 cases hi:dd N y g a
 ·have e:ld N y g ws a=0:=by simp[ld,hi]
  rw[e,Cz] at h;omega
 ·rfl
def gg (N y g:Nat)(a:Int):Int:=if hB 0 y a=true then(y:Int) else(N:Int)+g
theorem cells3 {w w1:ax}{a b c:Value}{t:TypeId}(hb:Below (w.alloc (.cells #[a,b,c] t)).heap.size (w.alloc (.cells #[a,b,c] t)) w1):
 w1.cell? (aq w.heap.size 0)=some a/\w1.cell? (aq w.heap.size 1)=some b/\w1.cell? (aq w.heap.size 2)=some c/\w1.frozen? (aq w.heap.size 0)=false/\w1.frozen? (aq w.heap.size 1)=false/\w1.frozen? (aq w.heap.size 2)=false/\w.heap.size<w1.heap.size:=by
 obtain⟨hc,d⟩:=nJ hb;have hz:=hb.size;refine⟨?_,?_,?_,?_,?_,?_,by simp at hz;omega⟩
 ·rw[hc _ _ Z];simp[go_sem]
 ·rw[hc _ _ Z];simp[go_sem]
 ·rw[hc _ _ Z];simp[go_sem]
 ·rw[d _ _ Z];simp[go_sem]
 ·rw[d _ _ Z];simp[go_sem]
 ·rw[d _ _ Z];simp[go_sem]
theorem CA {p q N O y g:Nat}{ws:List Int}(a:Int)(w:ax)(h:At w p q N O y g ws)(hy:hB 0 y a=true):
 Calls prog 221 #[aj p,ah a] w fun e w'=>e=.returned (.agg #[ah 0,ah N,ah y])/\Below w.heap.size w w':=by
 go_enter func221,ntmps221;go_wp2_with fail;refine(mJ a _ (h.alloc _)).mono ?_;rintro e w1 ⟨rfl,hb1⟩
 rw[(hide hy).o];exact wu
theorem CD {p q N O y g:Nat}{ws:List Int}(a:Int)(w:ax)(h:At w p q N O y g ws)(hy:hB 0 y a=false):
 Calls prog 221 #[aj p,ah a] w fun e w'=>e=.returned (.agg #[ah N,ah O,ah g])/\Below w.heap.size w w':=by
 have b:=hide hy;clear hy;go_enter func221,ntmps221;go_wp2_with fail;refine(mJ a _ (h.alloc _)).mono ?_;rintro e w1 ⟨rfl,hb1⟩
 rw[b.o];exact wu
theorem su {p q N O y g:Nat}{ws:List Int}(a:Int)(w:ax)(h:At w p q N O y g ws):∃b s c:Int,0<=b/\b<=100000/\0<=c/\c<=100000/\b+c=gg N y g a/\
 Calls prog 221 #[aj p,ah a] w fun e w'=>e=.returned (.agg #[ah b,ah s,ah c])/\Below w.heap.size w w':=by
 have k1:=h.hN';have d:=h.hy;have f:=h.hO;have i:=h.hg;cases hy:hB 0 y a
 ·exact⟨N,O,g,V,V,V,V,by simp[gg,hy],CD a w h hy⟩
 ·exact⟨0,N,y,V,V,V,V,by simp[gg,hy],CA a w h hy⟩
theorem CE {N O y g:Nat}{a:Int}(hN:N<=256)(hO:O<=1024)(hy:y<=N)(hg:g<=O):0<=gg N y g a/\gg N y g a<=1280:=by unfold gg;split<;>omega
theorem CF {p q N O y g:Nat}{ws:List Int}(a:Int)(w:ax)(h:At w p q N O y g ws)(hp:pc (ld N y g ws a)=0)(hr:1+pf (ld N y g ws a)<=gg N y g a-a)(hg:1+pf (ld N y g ws a)<=(O:Int)-g):
 Calls prog 165 #[aj p,ah a] w fun e w'=>e=.returned (ah (N+g:Nat))/\At w' p q N O y (g+(1+(pf (ld N y g ws a)).toNat)) (splice ws (N+g) ((ws.drop a.toNat).take (1+(pf (ld N y g ws a)).toNat)))/\c_ p q w w':=by
 obtain⟨c,o⟩:=p5 _ hp;obtain⟨t,J⟩:=jr (wy hp) h.hy h.hg;have u:=h.hy;have v:=h.hO;have x:=h.hg;have k5:=@CE N O y g a h.hN' v u x;have k6:gg N y g a<=(N:Int)+O:=by unfold gg;split<;>omega
 have A:=hide hp;clear hp;obtain⟨a,rfl⟩:=Int.eq_ofNat_of_zero_le t;rw[Int.toNat_natCast];obtain⟨n,hn⟩:=Int.eq_ofNat_of_zero_le c;have B:=hide hn;rw[hn] at hr hg o c⊢;clear hn;rw[Int.toNat_natCast];go_enter func165,ntmps165;go_wp2_with fail;refine(gd a _ h).mono ?_;rintro e w1 ⟨rfl,d⟩
 rw[A.o,B.o];have f:=h.below d bW
 go_wp2_with fail;obtain⟨b,s,C,D,E,F,G,i,hc⟩:=su a w1 f;refine hc.mono ?_;rintro e K ⟨rfl,j⟩
 clear hc;go_wp2_with fail;refine(lO b s C _ D E F G).mono ?_;rintro e L ⟨rfl,k⟩
 have H:=hide i;clear i;rw[H.o];have l:=(f.below j bW).below k bW
 obtain⟨c0,c1,c2,c3,c4,c5,M⟩:=l.cells;go_wp2_with fail;refine(Cn (1+n) _ l V V).mono ?_;rintro e P ⟨rfl,m,s4⟩
 rw[show(1+(n:Int)).toNat=1+n by omega] at m;go_wp2_with fail;rw[show(1+(n:Int))=((1+n:Nat):Int) by omega];refine(wx (N+g) a (1+n) _ m V V).mono ?_;rintro e Q ⟨rfl,I,s5⟩
 go_wp2_with fail;go_ret;exact⟨rfl,I,(((c_.of d).trans (c_.of j)).trans (c_.of k)).trans (s4.trans s5)⟩
theorem CG {p q N O y g:Nat}{ws:List Int}(a:Int)(w:ax)(h:At w p q N O y g ws)(x:pc (ld N y g ws a)≠0\/gg N y g a-a<1+pf (ld N y g ws a)\/(O:Int)-g<1+pf (ld N y g ws a)):
 Calls prog 165 #[aj p,ah a] w fun e w'=>e=.returned (ah (-1))/\Below w.heap.size w w':=by
 by_cases hp:pc (ld N y g ws a)=0
 ·obtain⟨E,F⟩:=p5 _ hp;have hi:=wy hp;obtain⟨G,H⟩:=jr hi h.hy h.hg;have k1:=h.hN';have I:=h.hy;have J:=h.hO;have K:=h.hg;have L:gg N y g a-a<1+pf (ld N y g ws a)\/(O:Int)-g<1+pf (ld N y g ws a):=by
   rcases x with e|e
   ·exact absurd hp e
   ·exact e
  have u:=hide hp;by_cases hr:gg N y g a-a<1+pf (ld N y g ws a)
  ·go_enter func165,ntmps165;go_wp2_with fail;refine(gd a _ h).mono ?_;rintro e w1 ⟨rfl,c⟩
   rw[u.o];have i:=h.below c bW
   go_wp2_with fail;obtain⟨b,s,j,k,l,m,n,o,hc⟩:=su a w1 i;refine hc.mono ?_;rintro e A ⟨rfl,d⟩
   go_wp2_with fail;refine(lO b s j _ k l m n).mono ?_;rintro e B ⟨rfl,f⟩
   have t:=hide o;rw[t.o];go_wp2_with fail;go_ret;exact⟨rfl,(c.trans (d.mono c.size)).trans (f.mono (aT c.size d.size))⟩
  ·go_enter func165,ntmps165;go_wp2_with fail;refine(gd a _ h).mono ?_;rintro e w1 ⟨rfl,c⟩
   rw[u.o];have i:=h.below c bW
   go_wp2_with fail;obtain⟨b,s,j,k,l,m,n,o,hc⟩:=su a w1 i;refine hc.mono ?_;rintro e A ⟨rfl,d⟩
   have C:=i.below d bW
   go_wp2_with fail;refine(lO b s j _ k l m n).mono ?_;rintro e B ⟨rfl,f⟩
   have t:=hide o;rw[t.o];have v:=C.below f bW
   obtain⟨c0,c1,c2,c3,c4,c5,M⟩:=v.cells;go_wp2_with fail;refine(Co _ _ v V).mono ?_;rintro e P ⟨rfl,D⟩
   go_wp2_with fail;go_ret;exact⟨rfl,((c.trans (d.mono c.size)).trans (f.mono (aT c.size d.size))).trans (D.mono (aT c.size (aT d.size f.size)))⟩
 ·go_enter func165,ntmps165;go_wp2_with fail;refine(gd a _ h).mono ?_;rintro e w1 ⟨rfl,c⟩
  go_wp2_with fail;go_ret;exact⟨rfl,c⟩
structure eN (B c:Nat)(w w':ax):Prop where
 os:w'.os=w.os
 tape:w'.tape=w.tape
 output:w'.output=w.output
 size:w.heap.size<=w'.heap.size
 block:∀k,k<B->k≠c->w'.heap[k]?=w.heap[k]?
theorem eN.refl (B c:Nat)(w:ax):eN B c w w:=⟨rfl,rfl,rfl,aD _,fun _ _ _=>rfl⟩
theorem eN.trans {B c:Nat}{a b d:ax}(h:eN B c a b)(k:eN B c b d):eN B c a d:=
 ⟨k.os.trans h.os,k.tape.trans h.tape,k.output.trans h.output,aT h.size k.size,fun i hi e=>(k.block i hi e).trans (h.block i hi e)⟩
theorem eN.of {B D c:Nat}{w w':ax}(h:Below D w w')(b:B<=D):eN B c w w':=⟨h.os,h.tape,h.output,h.size,fun k hk _=>h.block k V⟩
theorem eN.below {B D c:Nat}{w w':ax}(h:eN B c w w')(b:D<=B)(hc:D<=c):Below D w w':=⟨h.os,h.tape,h.output,h.size,fun k hk=>h.block k V V⟩
theorem lP {w w':ax}{base n:Nat}{e:TypeId}{v:Value}{l:List Value}(h:w.ownsRow base e 1 v n l)(hb:Below w.heap.size w w'):w'.ownsRow base e 1 v n l:=by
 obtain⟨f,c⟩:=h;refine⟨f,?_⟩
 rcases c with c|⟨b,cap,g,hv,i,d,r⟩
 ·exact aK c
 ·exact aJ ⟨b,cap,g,hv,i,(hb.block b (lt_of_some d)).trans d,r⟩
theorem nR {w:ax}{base base' n:Nat}{e:TypeId}{v:Value}{l:List Value}(h:w.ownsRow base e 1 v n l)(hb:base'<=base):w.ownsRow base' e 1 v n l:=by
 obtain⟨d,c⟩:=h;refine⟨d,?_⟩
 rcases c with c|⟨b,cap,f,hv,g,r⟩
 ·exact aK c
 ·exact aJ ⟨b,cap,f,hv,V,r⟩
theorem wz {w w':ax}{base B c n:Nat}{e:TypeId}{v:Value}{l:List Value}(h:w.ownsRow base e 1 v n l)(hs:eN B c w w')(hB:w.heap.size<=B)(hc:c<base):w'.ownsRow base e 1 v n l:=by
 obtain⟨g,d⟩:=h;refine⟨g,?_⟩
 rcases d with d|⟨b,cap,i,hv,j,f,r⟩
 ·exact aK d
 ·exact aJ ⟨b,cap,i,hv,j,(hs.block b (by have:=lt_of_some f;omega) V).trans f,r⟩
theorem kD:(prog.info? 3).map (fun i=>(i.zero,i.size,i.bytes))=some (some (ah 0),1,8):=ae
theorem wA {w:ax}{base n c:Nat}{e:TypeId}{v:Value}{l:List Value}(h:w.ownsRow base e 1 v n l)(hc:c<base):some c≠v.ownBlock:=by
 obtain⟨_,d⟩:=h;rcases d with⟨rfl,_⟩|⟨b,cap,f,rfl,g,_⟩
 ·simp[Value.ownBlock]
 ·simp[Value.ownBlock];omega
theorem wB {w:ax}{base n:Nat}{e:TypeId}{v:Value}{l:List Value}(h:w.ownsRow base e 1 v n l):∀k,v.ownBlock=some k->base<=k:=by
 obtain⟨_,c⟩:=h;intro k hk;rcases c with⟨rfl,_⟩|⟨b,cap,d,rfl,f,_⟩
 ·simp[Value.ownBlock] at hk
 ·simp[Value.ownBlock] at hk;omega
theorem wC {w:ax}{base n:Nat}{e:TypeId}{v:Value}{l:List Value}(h:w.ownsRow base e 1 v n l)(hn:0<n):∃b cap,v=.slice (ak b) n cap:=by
 obtain⟨_,c⟩:=h;rcases c with⟨_,c⟩|⟨b,cap,d,hv,_⟩
 ·omega
 ·exact⟨b,cap,hv⟩
def eA (N y g:Nat)(ws:List Int)(hi:Int):Nat->Int->List Int
 |0,_=>[]
 |k+1,a=>if a<hi then(if pc (ld N y g ws a)=0 then a::eA N y g ws hi k (a+(1+pf (ld N y g ws a))) else[]) else[]
theorem wn {N y g:Nat}{ws:List Int}{hi a:Int}(k:Nat)(h:hi<=a):eA N y g ws hi k a=[]:=by
 cases k with
 |zero=>rfl
 |succ k=>unfold eA;rw[aG V]
theorem wD {N y g:Nat}{ws:List Int}{hi a:Int}(k:Nat)(h:pc (ld N y g ws a)≠0):eA N y g ws hi k a=[]:=by
 cases k with
 |zero=>rfl
 |succ k=>unfold eA;split<;>rfl
theorem wE {N y g:Nat}{ws:List Int}{hi a:Int}(k:Nat)(hk:hi-a<=k)(h:a<hi)(c:pc (ld N y g ws a)=0):
 ∃b,k=b+1/\eA N y g ws hi k a=a::eA N y g ws hi b (a+(1+pf (ld N y g ws a))):=by
 cases k with
 |zero=>omega
 |succ k=>exact⟨k,rfl,by rw[eA,aI h,aI c]⟩
theorem aC{w:World}{b o:Nat}{c:Array Value}{T:TypeId}(h:w.heap[b]?=some (.cells c T (0,0))):w.frozen? ⟨b,o,none⟩=false:=by simp[World.frozen?,h]
theorem CH (a:Int)(c base:Nat)(v:Value)(L:List Int)(w:ax)(hc:w.heap[c]?=some (.cells #[v] 74 (0,0)))(i:c<base)(hB:base<=w.heap.size)
 (f:w.ownsRow base 3 1 v L.length (L.map (Value.int .i64)))(D:L.length<=100000):
 Calls prog 196 #[ah a,aj c] w fun e w'=>e=.returned (.tuple #[])/\∃g,w'.heap[c]?=some (.cells #[g] 74 (0,0))/\w'.ownsRow base 3 1 g (L++[a]).length ((L++[a]).map (Value.int .i64))/\eN base c w w':=by
 obtain⟨o,hi,p,q,s⟩:=info_parts kD;have cc:w.cell? (aq c 0)=some v:=aA hc
 have t:=hide hc;clear hc;have u:c<w.heap.size:=V;go_enter func196,ntmps196;go_wp2_with (at_builtin;refine wpList_append_own _ rfl _ _ 74 rfl base 3 o _ 1 8 underlying74 hi p q s rfl aa _ L.length _ rfl (f.alloc _) ⟨w.heap.size,0,none⟩ 1 1 [ah a] rfl rfl ?_ ?_ ?_ ?_ ?_ ?_;(intro j x d;match j,d with|0,d=>(simp at d;subst d;simp[Addr.add]));(intro x l;simp at l;subst l;rfl);(unfold maxLen;omega);omega;(simp;omega);intro g w1 m n _;obtain⟨b1,gb,A⟩:=wC m (Nat.succ_pos _);subst A;have b:=(n.block c (by simp;omega) (wA f i)).trans ((aS _ _ _ u).trans t.o);have E:w1.cell? (aq c 0)=some v:=aA b;have F:w1.frozen? (aq c 0)=false:=aC b;have B:=hide b;clear b)
 go_end0;refine⟨rfl,.slice (ak b1) (L.length+1) gb,?_,?_,?_⟩
 ·have b:=B.o;simp only [World.setCell,Array.getElem?_modify,if_true,b,Option.map_some];simp
 ·have:=ownsRow_setCell_below m (a:=⟨c,0,none⟩) i (.slice (ak b1) (L.length+1) gb)
  simpa using this
 ·refine(eN.of ((aH base w).alloc hB _) bW).trans (eN.trans (eN.of ((aH base _).grown n (by simp;omega) (wB f)) bW) ?_)
  exact⟨rfl,rfl,rfl,by simp[World.setCell],fun k _ C=>aU _ _ _ _ C⟩
theorem wF {p q N O y g:Nat}{ws:List Int}(b s d:Int)(c:Nat)(w:ax)(h:At w p q N O y g ws)(hc:w.heap[c]?=some (.cells #[.slice none 0 0] 74 (0,0)))(n:p≠c)(o:q≠c)
 (u:0<=b)(b1:b<=2000)(u0:0<=d)(U:d<=2000):
 Calls prog 195 #[aj p,.agg #[ah b,ah s,ah d],.func (.func 196) #[] #[aj c]] w fun e w'=>e=.returned (.tuple #[])/\∃v,w'.heap[c]?=some (.cells #[v] 74 (0,0))/\w'.ownsRow w.heap.size 3 1 v (eA N y g ws (b+d) 2000 b).length ((eA N y g ws (b+d) 2000 b).map (Value.int .i64))/\eN w.heap.size c w w':=by
 have lp:=h.eL;have x:=lt_of_some hc;have A:ay (_=_):=hc;clear hc;go_enter func195,ntmps195;go_wp2_with fail
 go_loopw [6] (fun i wr=>∃(a:Int)(L:List Int)(k:Nat)(v:Value),i=ah a/\b<=a/\a<=100000/\b+d-a<=k/\(L.length:Int)+b<=a/\L++eA N y g ws (b+d) k a=eA N y g ws (b+d) 2000 b/\wr.heap[c]?=some (.cells #[v] 74 (0,0))/\wr.ownsRow (w.heap.size+1) 3 1 v L.length (L.map (Value.int .i64))/\eN (w.heap.size+1) c (w.alloc (.cells #[.int .i64 b,.int .i64 s,.int .i64 d] 120)) wr) (fun i _=>(b+d-intOf i).toNat)
 case atStart=>exact⟨b,[],2000,_,rfl,V,V,V,Z,rfl,(aS _ _ _ x).trans A.o,bc _ _ _ _,eN.refl _ _ _⟩
 case round=>
  obtain⟨a,L,k,v,rfl,a1,a2,B,W,l,hc,hown,hS⟩:=hrel;have f:=hS.block w.heap.size V V;rw[aN] at f;have C:wr.cell? (aq w.heap.size 0)=some (ah b):=aA f
  have D:wr.cell? (aq w.heap.size 1)=some (ah s):=aA f
  have E:wr.cell? (aq w.heap.size 2)=some (ah d):=aA f
  have F:_:=(h.alloc _).same (hS.block p V n) (hS.block q (by have:=h.eM;omega) o)
  have hsz:=hS.size;simp only [World.size_alloc] at hsz;have A5:ay (_=_):=l;have CC:ay (_=_):=hc;have X:ay (_=_):=f;clear l hc f;go_wp2_with fail;refine(lO b s d _ u V u0 V).mono ?_;rintro e w1 ⟨rfl,hb1⟩
  clear C D E;by_cases G:a<b+d
  ·go_wp2_with fail;refine(gd a _ (F.below hb1 bW)).mono ?_;rintro e H ⟨rfl,I⟩
   have ed:_:=hb1.trans (I.mono hb1.size)
   by_cases hp:pc (ld N y g ws a)=0
   ·obtain⟨Y,ab⟩:=p5 _ hp;obtain⟨J,rfl,j⟩:=wE (N:=N) (y:=y) (g:=g) (ws:=ws) k B G hp;have K:ay (_=_):=hp;have E1:ay (_=_):=j;clear hp j;rw[K.o];go_wp2_with fail;refine(CH a c (w.heap.size+1) v L H ((ed.block c (lt_of_some CC.o)).trans CC.o) V (by have:=ed.size;omega) (lP hown ed) V).mono ?_;rintro e ad ⟨rfl,M,m,Q,R⟩
    have S:ay (_=_):=m;clear m;go_wp2_with fail;go_roundw
    case rel=>exact⟨a+(1+pf (ld N y g ws a)),L++[a],J,M,rfl,V,V,V,by simp;omega,by rw[<-A5.o,E1.o];simp,S.o,Q,(hS.trans (eN.of ed hsz)).trans R⟩
    case measure=>simp[intOf];omega
   ·have t:(pc (ld N y g ws a)!=0)=true:=by simpa using hp
    have j:=wD (N:=N) (y:=y) (g:=g) (ws:=ws) (hi:=b+d) k hp;have E1:ay (_=_):=j;clear hp j;exact wj
  ·go_wp2_with fail;exact wm
theorem CJ (a:Int)(c base:Nat)(v:Value)(L:List Int)(w:ax)(hc:w.heap[c]?=some (.cells #[v] 74 (0,0)))(i:c<base)(hB:base<=w.heap.size)
 (f:w.ownsRow base 3 1 v L.length (L.map (Value.int .i64)))(D:L.length<=100000):
 Calls prog 197 #[ah a,aj c] w fun e w'=>e=.returned (.tuple #[])/\∃g,w'.heap[c]?=some (.cells #[g] 74 (0,0))/\w'.ownsRow base 3 1 g (L++[a]).length ((L++[a]).map (Value.int .i64))/\eN base c w w':=by
 obtain⟨o,hi,p,q,s⟩:=info_parts kD;have cc:w.cell? (aq c 0)=some v:=aA hc
 have t:=hide hc;clear hc;have u:c<w.heap.size:=V;go_enter func197,ntmps197;go_wp2_with (at_builtin;refine wpList_append_own _ rfl _ _ 74 rfl base 3 o (ah 0) 1 8 underlying74 hi p q s rfl aa _ L.length (L.map (Value.int .i64)) rfl (f.alloc _) ⟨w.heap.size,0,none⟩ 1 1 [ah a] rfl rfl ?_ ?_ ?_ ?_ ?_ ?_;(intro j x d;match j,d with|0,d=>(simp at d;subst d;simp[Addr.add]));(intro x l;simp at l;subst l;rfl);(unfold maxLen;omega);omega;(simp;omega);intro g w1 m n _;obtain⟨b1,gb,A⟩:=wC m (Nat.succ_pos _);subst A;have b:=(n.block c (by simp;omega) (wA f i)).trans ((aS _ _ _ u).trans t.o);have E:w1.cell? (aq c 0)=some v:=aA b;have F:w1.frozen? (aq c 0)=false:=aC b;have B:=hide b;clear b)
 go_end0;refine⟨rfl,.slice (ak b1) (L.length+1) gb,?_,?_,?_⟩
 ·have b:=B.o;simp only [World.setCell,Array.getElem?_modify,if_true,b,Option.map_some];simp
 ·have:=ownsRow_setCell_below m (a:=⟨c,0,none⟩) i (.slice (ak b1) (L.length+1) gb)
  simpa using this
 ·refine(eN.of ((aH base w).alloc hB _) bW).trans (eN.trans (eN.of ((aH base _).grown n (by simp;omega) (wB f)) bW) ?_)
  exact⟨rfl,rfl,rfl,by simp[World.setCell],fun k _ C=>aU _ _ _ _ C⟩
theorem wG {p q N O y g:Nat}{ws:List Int}(b s d:Int)(c:Nat)(w:ax)(h:At w p q N O y g ws)(hc:w.heap[c]?=some (.cells #[.slice none 0 0] 74 (0,0)))(l:p≠c)(m:q≠c)
 (n:0<=b)(b1:b<=2000)(u0:0<=d)(M:d<=2000):
 Calls prog 195 #[aj p,.agg #[ah b,ah s,ah d],.func (.func 197) #[] #[aj c]] w fun e w'=>e=.returned (.tuple #[])/\∃v,w'.heap[c]?=some (.cells #[v] 74 (0,0))/\w'.ownsRow w.heap.size 3 1 v (eA N y g ws (b+d) 2000 b).length ((eA N y g ws (b+d) 2000 b).map (Value.int .i64))/\eN w.heap.size c w w':=by
 have lp:=h.eL;have o:=lt_of_some hc;have t:=hide hc;clear hc;go_enter func195,ntmps195;go_wp2_with fail
 go_loopw [6] (fun i wr=>∃(a:Int)(L:List Int)(k:Nat)(v:Value),i=ah a/\b<=a/\a<=100000/\b+d-a<=k/\(L.length:Int)+b<=a/\L++eA N y g ws (b+d) k a=eA N y g ws (b+d) 2000 b/\wr.heap[c]?=some (.cells #[v] 74 (0,0))/\wr.ownsRow (w.heap.size+1) 3 1 v L.length (L.map (Value.int .i64))/\eN (w.heap.size+1) c (w.alloc (.cells #[.int .i64 b,.int .i64 s,.int .i64 d] 120)) wr) (fun i _=>(b+d-intOf i).toNat)
 exact⟨b,[],2000,_,rfl,V,V,V,Z,rfl,(aS _ _ _ o).trans t.o,bc _ _ _ _,eN.refl _ _ _⟩
 ·
   obtain⟨a,L,k,v,rfl,a1,a2,u,Q,x,hc,hown,hS⟩:=hrel;have f:=hS.block w.heap.size V V;rw[aN] at f;have R:wr.cell? (aq w.heap.size 0)=some (ah b):=aA f
   have S:wr.cell? (aq w.heap.size 1)=some (ah s):=aA f
   have U:wr.cell? (aq w.heap.size 2)=some (ah d):=aA f
   have A:=(h.alloc _).same (hS.block p V l) (hS.block q (by have:=h.eM;omega) m)
   have hsz:=hS.size;simp only [World.size_alloc] at hsz;have A5:=hide x;have CC:=hide hc;go_wp2_with fail;refine(lO b s d _ n V u0 V).mono ?_;rintro e w1 ⟨rfl,hb1⟩
   by_cases B:a<b+d
   ·go_wp2_with fail;refine(gd a _ (A.below hb1 bW)).mono ?_;rintro e C ⟨rfl,D⟩
    have ed:=hb1.trans (D.mono hb1.size)
    by_cases hp:pc (ld N y g ws a)=0
    ·obtain⟨W,X⟩:=p5 _ hp;obtain⟨E,rfl,j⟩:=wE (N:=N) (y:=y) (g:=g) (ws:=ws) k u B hp;have F:=hide hp;have E1:=hide j;rw[F.o];go_wp2_with fail;refine(CJ a c (w.heap.size+1) v L C ((ed.block c (lt_of_some CC.o)).trans CC.o) V (by have:=ed.size;omega) (lP hown ed) V).mono ?_;rintro e Y ⟨rfl,G,H,I,J⟩
     have K:=hide H;go_wp2_with fail;go_roundw;exact⟨a+(1+pf (ld N y g ws a)),L++[a],E,G,rfl,V,V,V,by simp;omega,by rw[<-A5.o,E1.o];simp,K.o,I,(hS.trans (eN.of ed hsz)).trans J⟩
     simp[intOf];omega
    ·have j:=wD (N:=N) (y:=y) (g:=g) (ws:=ws) (hi:=b+d) k hp;have E1:=hide j;exact wj
   ·go_wp2_with fail;exact wm
def ei (N y g:Nat)(ws:List Int):List Int:=eA N y g ws y 2000 0
def dD (N y g:Nat)(ws:List Int):List Int:=eA N y g ws ((N:Int)+g) 2000 N
theorem p6 {p q N O y g:Nat}{ws:List Int}(w:ax)(h:At w p q N O y g ws):
 Calls prog 129 #[aj p] w fun e w'=>∃v1 v2,e=.returned (.tuple #[v1,v2])/\w'.ownsRow w.heap.size 3 1 v1 (ei N y g ws).length ((ei N y g ws).map (Value.int .i64))/\w'.ownsRow w.heap.size 3 1 v2 (dD N y g ws).length ((dD N y g ws).map (Value.int .i64))/\Below w.heap.size w w':=by
 obtain⟨c0,c1,c2,c3,c4,c5,f⟩:=h.cells;have lp:=h.eL;have u:=h.eM;have k1:=h.hN';have v:=h.hy;have x:=h.hO;have A:=h.hg;go_enter func129,ntmps129;go_wp2_with fail;refine(wF 0 N y w.heap.size _ ((h.alloc _).alloc _) ((aS _ _ _ Z).trans (aN _ _)) V V V V V V).mono ?_;rintro e w1 ⟨rfl,v1,i,j,b⟩
 have k:=((h.alloc _).alloc _).same (b.block p (by simp;omega) V) (b.block q (by simp;omega) V)
 have c:=(b.block (w.heap.size+1) Z V).trans (sq _ Z)
 have m:=hide i;have n:=hide c;have o:=b.size;simp only [World.size_alloc] at o;clear i c c0 c1 c2 c3 c4 c5 f;obtain⟨c0,c1,c2,c3,c4,c5,f⟩:=k.cells;go_wp2_with fail;refine(wG N O g (w.heap.size+1) _ k n.o V V V V V V).mono ?_;rintro e l ⟨rfl,v2,c,s,d⟩
 have B:l.cell? (aq w.heap.size 0)=some v1:=by have:=(d.block w.heap.size V V).trans m.o;simp[World.cell?,this]
 have C:l.cell? (aq (w.heap.size+1) 0)=some v2:=aA c
 have D:=d.size;clear c;go_wp2
 go_quiet (fail)
 go_wp2;go_ret2;simp only [World.size_alloc] at j b;have t:ei N y g ws=eA N y g ws (0+(y:Int)) 2000 0:=by rw[Int.zero_add];rfl
 refine⟨v1,v2,rfl,?_,?_,?_⟩
 ·rw[t];exact lP (nR (base:=w.heap.size+1+1) (wz j d bW V) V) (below_drewN bX _)
 ·exact lP (nR s V) (below_drewN bX _)
 ·exact below_drewN (((bX.alloc bW _).alloc Z _).trans ((b.below V bW).trans (d.below V V))) _
open Go.RowKit W Kp cf
theorem Ln.at {w:ax}{ad:Option Addr}{c:List _}(h:Ln w ad c){i:Nat}(hi:i<c.length):∃b o f fc,ad=some ⟨b,o,none⟩/\b<w.heap.size/\w.cell? (aq b (o+i*2))=some (ah (c.getD i (0,[])).1)/\w.cell? (aq b (o+i*2+1))=some (.slice f (c.getD i (0,[])).2.length fc)/\dv w f (c.getD i (0,[])).2:=by
 obtain⟨m,g,j,k⟩:=h;have hl:m.length=c.length:=by rw[<-g];simp[hQ]
 obtain⟨b,o,e,hb,hc⟩:=k V;obtain⟨x,d⟩:∃x,m[i]?=some x:=⟨_,aL V⟩
 have en:c.getD i (0,[])=(x.1,x.2.2.2):=by subst g;rw[aE,hQ,List.getElem?_map,d];rfl
 rw[en];exact⟨b,o,_,_,e,hb,(hc i _ d).1,(hc i _ d).2,j _ (List.mem_of_getElem? d)⟩
def k4 {d:Type}(o:dr d)(D:Int->Prop)(f:Nat)(b c:Array Value)(nw:d->Int->Int):Prop:=
 ∀F t w (x:Int),D x->o.J F t w->Calls prog f (b.push (ah x)++c) w fun r w'=>r=.returned (ah (nw t x))/\Below w.heap.size w w'
def j8 {d:Type}(o:dr d)(D:Int->Prop)(f:Nat)(b c:Array Value)(is:d->Int->Bool):Prop:=
 ∀F t w (x:Int),D x->o.J F t w->Calls prog f (b.push (ah x)++c) w fun r w'=>r=.returned (.bool (is t x))/\Below w.heap.size w w'
def nT {d:Type}(o:dr d)(D:Int->Prop)(f:Nat)(b c:Array Value)(kp:d->Int->Int×d):Prop:=
 ∀F t w (x:Int),D x->o.J F t w->Calls prog f (b.push (ah x)++c) w fun r w'=>∃e,r=.returned (ah (kp t x).1)/\o.J e (kp t x).2 w'/\Fr F w w'/\∀k,e k->F k\/w.heap.size<=k
theorem au(w:ax)(o:Obj):Below w.heap.size w (w.alloc o):=(Below.refl _ w).alloc (Nat.le_refl _) o
theorem wH {C:Type}(o:dr C)(D:Int->Prop)(f:Nat)(b c:Array Value)(nw:C->Int->Int)(M:dN f)(ht:k4 o D f b c nw)(l:List b7)(ad:Option Addr)(cap:Nat)(F:Nat->Prop)(t:C)(w:ax)
 (an:∀e∈l,D e.1/\D e.2)(hm:l.length<=100000)(N:o.J F t w)(hp:dv w ad l):
 Calls prog 152 #[.slice ad l.length cap,.func (.func f) b c] w fun r w'=>∃a1 c1,r=.returned (.slice a1 l.length c1)/\w'.ownsRow w.heap.size 103 2 (.slice a1 l.length c1) l.length (ev (l.map fun e=>(nw t e.1,nw t e.2)))/\Below w.heap.size w w':=by
 obtain⟨ao,hi,ap,ar,aB⟩:=info_parts nN;have O:ay (k4 o D f b c nw):=ht;have aF:ay (dv w ad l):=hp;have P:ay (o.J F t w):=N;clear hp ht N;have bo:∀(args:Array Value)(w:ax),(callFunc f args).run prog w=.ok (.enter f args) w:=M;clear M;go_enter func152,ntmps152;go_wp2_with fail
 go_loopw [5,10] (fun vt iv wr=>∃(j:Nat)(T:List b7)(n:Option Addr)(p:Nat),j<=l.length/\iv=ah j/\ay (T=(l.take j).map fun e=>(nw t e.1,nw t e.2))/\vt=.slice n T.length p/\
  wr.ownsRow w.heap.size 103 2 (.slice n T.length p) T.length (ev T)/\Below w.heap.size w wr) (fun _ iv _=>l.length-(intOf iv).toNat)
 case atStart=>exact⟨0,[],none,0,aY _,rfl,rfl,rfl,bc _ _ _ _,aH _ _⟩
 case round=>
  obtain⟨j,T,n,p,m,rfl,u,rfl,d,hb⟩:=hrel;have aR:T.length<=100000:=by rw[u.o];simp;omega
  by_cases x:j<l.length
  ·obtain⟨bp,br,aV,bs,hc⟩:=aF.o.below hb V;obtain⟨Q,R⟩:=hc j x;clear hc;obtain⟨S,U⟩:=an (l.getD j (0,0)) (by rw[aE,aL x];exact a6 x)
   have E:ay (T++[(nw t (l.getD j (0,0)).1,nw t (l.getD j (0,0)).2)]=(l.take (j+1)).map fun e=>(nw t e.1,nw t e.2)):=by show _=_;rw[gx l j x (0,0),List.map_append,u.o];rfl
   generalize (l.getD j (0,0)).1=g at Q E S;generalize (l.getD j (0,0)).2=z at R E U;subst aV;have a0:=hb.size;have G:Below w.heap.size w (wr.alloc (.cells #[.int .i64 g,.int .i64 z] 103)):=hb.alloc a0 _;have H:=ga d (.cells #[.int .i64 g,.int .i64 z] 103)
   go_wp2_with fail
   go_region_held3 (fun w'=>w'.cell? (aq wr.heap.size 0)=some (ah g)/\w'.cell? (aq wr.heap.size 1)=some (ah z)) (go_keep)
    (first
      |(refine(O.o F t _ g S (o.below P.o G.drew)).mono ?_;rintro e A ⟨rfl,q⟩;have I:Below w.heap.size w A:=G.drew.trans (q.mono (by simp;omega));have J:=cH H (fun k e=>q.block k (cn H k e).2);have a2:=q.size;simp at a2;have y1:A.cell? (aq wr.heap.size 0)=some (ah g):=(q.cell Z).trans Z;have W:A.cell? (aq wr.heap.size 1)=some (ah z):=(q.cell Z).trans Z;have X:wr.heap.size<A.heap.size:=V)
      |(refine(O.o F t _ z U (o.below P.o I)).mono ?_;rintro e i ⟨rfl,s⟩;have K:Below w.heap.size w i:=I.trans (s.mono V);have Y:=cH J (fun k e=>s.block k (cn J k e).2);have bt:=s.size;have ab:i.cell? (aq wr.heap.size 0)=some (ah g):=(s.cell X).trans y1;have ag:i.cell? (aq wr.heap.size 1)=some (ah z):=(s.cell X).trans W;have ai:wr.heap.size<i.heap.size:=V)
      |(refine step_append_lies _ rfl (.tmp 14) (.tmp 24) 151 rfl w.heap.size 103 ao (.agg #[ah 0,ah 0]) 2 16 underlying151 hi ap ar aB rfl aa (.slice n T.length p) T.length (ev T) (by simp[Act.eval]) (ga Y _) ⟨i.heap.size,0,none⟩ 1 1 [ah (nw t g),ah (nw t z)] (by simp[Act.eval]) rfl ?_ ?_ aa (by unfold maxLen;omega) V (by simp;omega) _ rfl ?_;(intro j bb m;match j,m with|0,m=>(simp at m;subst m;simp[Addr.add])|1,m=>(simp at m;subst m;simp[Addr.add]));(intro bb v;simp at v;rcases v with v|v<;>(subst v;rfl));intro b6 al L am B bd be;have bg:L.cell? (aq wr.heap.size 0)=some (ah g):=B.cell (((au i _).cell ai).trans ab) (fun e=>absurd (cn d _ e).2 (Nat.lt_irrefl _));have bi:L.cell? (aq wr.heap.size 1)=some (ah z):=B.cell (((au i _).cell ai).trans ag) (fun e=>absurd (cn d _ e).2 (Nat.lt_irrefl _))))
   have bl:L.ownsRow w.heap.size 103 2 (.slice (ak b6) (T++[(nw t g,nw t z)]).length al) (T++[(nw t g,nw t z)]).length (ev (T++[(nw t g,nw t z)])):=by rw[iT];simpa[ev] using am
   have bn:=(K.alloc K.size _).grown B (by simp;omega) (fun k e=>(cn d k e.symm).1)
   clear am B bd be H J Y G I K d hb q s y1 W ab ag bg bi Q R;go_wp2_with fail;go_roundw
   case rel=>exact⟨j+1,T++[(nw t g,nw t z)],ak b6,al,V,af,E,Z,bl,bn⟩
   case measure=>simp[intOf];omega
  ·obtain rfl:j=l.length:=V;rw[bu] at u;have hl:T.length=l.length:=by rw[u.o,aW]
   rw[hl] at d;have d:wr.ownsRow w.heap.size 103 2 (.slice n l.length p) l.length (ev (l.map fun e=>(nw t e.1,nw t e.2))):=by rw[<-u.o];exact d
   clear aR;go_wp2_with fail;go_ret;exact⟨n,p,by rw[hl];rfl,d,hb⟩
theorem wJ (z:Value)(n:Nat)(hz:z.cells.size=2):(Builtin.zeroCells z.cells n).size=n*2:=by rw[size_zeroCells,hz]
theorem CK (w:ax)(n:Nat)(hn:n<=100000):
 Calls prog 243 #[.slice none 0 0,ah n] w fun e w'=>∃a1 c1,e=.returned (.slice a1 0 c1)/\w'.ownsRow w.heap.size 103 2 (.slice a1 0 c1) 0 []/\Below w.heap.size w w':=by
 obtain⟨c,hi,d,f,i⟩:=info_parts nN;rcases Nat.eq_zero_or_pos n with h0|h0
 ·subst h0;go_enter func243,ntmps243;go_wp2;go_ret;exact⟨none,0,rfl,bc _ _ _ _,aH _ _⟩
 ·have hr:=Lib.run_append_nil_zeros (P:=prog) w 151 3 151 103 c _ .i64 .i64 underlying151 underlying3 hi d n h0 (by rw[f];decide) V (by rw[i];omega)
  have j:=grownCap_ge w n 0 103;have b:=grownCap_le_maxLen w n 0 103 (by unfold maxLen;omega)
  generalize grownCap w n 0 103=g at hr j b;have hown:(w.drew.alloc (.cells (Builtin.zeroCells (Value.agg #[.int .i64 0,.int .i64 0]).cells n++Builtin.zeroCells (Value.agg #[.int .i64 0,.int .i64 0]).cells (g-n)) 103)).ownsRow w.heap.size 103 2 (.slice (some ⟨w.heap.size,0,none⟩) 0 g) 0 []:=
   World.ownsRow_made w.drew _ g bW b (by rw[Array.size_append,wJ _ _ rfl,wJ _ _ rfl];omega)
  have hb:Below w.heap.size w (w.drew.alloc (.cells (Builtin.zeroCells (Value.agg #[.int .i64 0,.int .i64 0]).cells n++Builtin.zeroCells (Value.agg #[.int .i64 0,.int .i64 0]).cells (g-n)) 103)):=(aH _ w).drew.alloc bW _;go_enter func243,ntmps243;exact ww
theorem bv {α:Type _}{a b:α}:a ∈ [b] ↔ a = b:=List.mem_singleton ..
theorem CL (D:b7->Prop)(f:Nat)(b c:Array Value)(p:b7->Bool)(o:dN f)(w:ax)
 (hl:∀(w':ax)(e:b7),D e->w.heap.size<=w'.heap.size->(∀k,k<w.heap.size->w'.heap[k]?=w.heap[k]?)->Calls prog f (b.push (en e)++c) w' fun r u=>r=.returned (.bool (p e))/\Below w'.heap.size w' u)
 (l:List b7)(ad:Option Addr)(cap:Nat)(q:∀e∈l,D e)(hm:l.length<=100000)(hp:dv w ad l):
 Calls prog 228 #[.slice ad l.length cap,.func (.func f) b c] w fun r w'=>Below w.heap.size w w'/\((r=.returned (ah (-1))/\∀e∈l,p e=false)\/∃i:Nat,r=.returned (ah i)/\i<l.length/\p (l.getD i (0,0))=true/\∀e∈l.take i,p e=false):=by
 have v:=hide hl;have x:=hide hp;have A:=hide q;have H:∀(args:Array Value)(w:ax),(callFunc f args).run prog w=.ok (.enter f args) w:=o;clear hl hp o q;go_enter func228,ntmps228;go_wp2_with fail
 go_loopw [8] (fun iv wr=>∃j:Nat,j<=l.length/\iv=ah j/\ay (∀e∈l.take j,p e=false)/\Below w.heap.size w wr) (fun iv _=>l.length-(intOf iv).toNat)
 case atStart=>exact⟨0,aY _,rfl,by simp[ay,Hid],aH _ _⟩
 case round=>
  obtain⟨j,I,rfl,m,hb⟩:=hrel;by_cases d:j<l.length
  ·obtain⟨J,K,B,L,hc⟩:=x.o.below hb V;obtain⟨C,E⟩:=hc j d;have n:ay (l.getD j (0,0)=((l.getD j (0,0)).1,(l.getD j (0,0)).2)):=rfl;have hd:D (l.getD j (0,0)):=A.o _ (by rw[aE,aL d];exact a6 d)
   have hd:D ((l.getD j (0,0)).1,(l.getD j (0,0)).2):=hd;obtain⟨g,hg⟩:∃g,g=(l.getD j (0,0)).1:=⟨_,rfl⟩
   obtain⟨z,hz⟩:∃z,z=(l.getD j (0,0)).2:=⟨_,rfl⟩
   rw[<-hg] at C hd n;rw[<-hz] at E hd n;clear hc hg hz;subst B;go_wp2_with fail;refine(v.o wr (g,z) hd hb.size hb.block).mono ?_;rintro r w1 ⟨rfl,s⟩
   have t:=hb.trans (s.mono hb.size)
   clear hb s;cases hp:p (g,z)
   ·have F:ay (∀e∈l.take (j+1),p e=false):=fun e he=>by
     rw[gx l j d (0,0),List.mem_append,bv] at he;rcases he with he|he
     ·exact m.o e he
     ·rw[he,n.o];exact hp
    clear hp;go_wp2_with fail;go_roundw;exact⟨j+1,V,af,F,t⟩
    simp[intOf];omega
   ·have G:ay (p (l.getD j (0,0))=true):=by show _=_;rw[n.o];exact hp
    clear hp;go_wp2_with fail;go_ret;exact⟨t,aJ ⟨j,rfl,d,G.o,m.o⟩⟩
  ·obtain rfl:j=l.length:=V;rw[bu] at m;go_wp2_with fail;go_ret;exact⟨hb,aK ⟨rfl,m.o⟩⟩
theorem wK (a b:Option Addr)(ca cb:Nat)(l:List (Int×Int))(w:ax)(hm:l.length<=100000)(ha:dv w a l)(hb:dv w b l):
 Calls prog 70 #[.slice a l.length ca,.slice b l.length cb] w fun e w'=>e=.returned (.bool true)/\Below w.heap.size w w':=by
 have f:=hide ha;have g:=hide hb;clear ha hb;go_enter func70,ntmps70;go_wp2
 go_loopw [13] (fun iv wr=>∃j:Nat,j<=l.length/\iv=ah j/\Below w.heap.size w wr) (fun iv _=>l.length-(intOf iv).toNat)
 exact⟨0,aY _,rfl,aH _ _⟩
 ·
   obtain⟨j,q,rfl,hb⟩:=hrel;by_cases c:j<l.length
   ·obtain⟨s,t,i,u,hc⟩:=(f.o.below hb) V;obtain⟨k,m⟩:=hc j c;subst i;obtain⟨b2,x,n,A,d⟩:=(g.o.below hb) V;obtain⟨o,p⟩:=d j c;subst n;clear hc d;generalize (l.getD j (0,0)).1=B at k o;generalize (l.getD j (0,0)).2=v at m p;go_wp2
    go_quiet (fail)
    go_wp2;go_roundw;exact⟨j+1,V,af,by first|exact below_drewN hb _|exact hb.drew|exact hb⟩
    simp[intOf];omega
   ·obtain rfl:j=l.length:=V;go_wp2;go_ret;exact⟨rfl,hb⟩
theorem CM (a b:Option Addr)(m n ca cb:Nat)(w:ax)(h:m≠n):
 Calls prog 70 #[.slice a m ca,.slice b n cb] w fun e w'=>e=.returned (.bool false)/\Below w.heap.size w w':=by
 go_wp2;go_ret;exact⟨rfl,aH _ _⟩
theorem CN (k:Int)(a b:Option Addr)(ca cb:Nat)(l:List (Int×Int))(w:ax)(hm:l.length<=100000)(ha:dv w a l)(hb:dv w b l):
 Calls prog 72 #[.agg #[ah k,.slice a l.length ca],.agg #[ah k,.slice b l.length cb]] w fun e w'=>e=.returned (.bool true)/\Below w.heap.size w w':=by
 have c:=(au w (.cells #[.int .i64 k,.slice a l.length ca] 107)).alloc Z (.cells #[.int .i64 k,.slice b l.length cb] 107)
 have P:=wK a b ca cb l _ hm (ha.below c) (hb.below c)
 have f:((w.alloc (.cells #[.int .i64 k,.slice a l.length ca] 107)).alloc (.cells #[.int .i64 k,.slice b l.length cb] 107)).heap.size=w.heap.size+2:=Z;clear ha hb;go_enter func72,ntmps72;go_wp2_with fail;refine P.mono ?_;clear P;rintro e w1 ⟨rfl,d⟩
 go_wp2_with fail;go_ret;exact⟨rfl,(c.trans (d.mono V))⟩
theorem CO (n1 m:Option Addr)(x A:Nat)(b:List (Int×List (Int×Int)))(w:ax)(hl:b.length<=100000)(B:∀nd∈b,nd.2.length<=100000)(C:Ln w n1 b)(D:Ln w m b):
 Calls prog 71 #[.slice n1 b.length x,.slice m b.length A,.func (.func 72) #[] #[]] w fun e w'=>e=.returned (.bool true)/\Below w.heap.size w w':=by
 have E:ay (∀w',Below w.heap.size w w'->Ln w' n1 b):=fun w' hb=>C.below hb;have F:ay (∀w',Below w.heap.size w w'->Ln w' m b):=fun w' hb=>D.below hb;have G:=hide B;go_enter func71,ntmps71;go_wp2_with fail
 go_loopw [17] (fun iv wr=>∃j:Nat,j<=b.length/\iv=ah j/\ay (Below w.heap.size w wr)) (fun iv _=>b.length-(intOf iv).toNat)
 exact⟨0,aY _,rfl,aH _ _⟩
 ·
   obtain⟨j,Q,rfl,hb⟩:=hrel;by_cases d:j<b.length
   ·obtain⟨b1,o1,f,g,H,l1,I,J,o⟩:=(E.o wr hb.o).at d;obtain⟨b2,q,i,k,K,l2,s,t,u⟩:=(F.o wr hb.o).at d;subst H K;have v:(b.getD j (0,[])).2.length<=100000:=G.o _ (by rw[aE,aL d];exact a6 d)
    generalize (b.getD j (0,[])).1=kd at I s;generalize (b.getD j (0,[])).2=c at J o t u v;have n:=au wr (.cells #[.int .i64 kd,.slice f c.length g] 107)
    have R:=(n.cell (p:=aq b2 (q+j*2)) l2).trans s;have S:=(n.cell (p:=aq b2 (q+j*2+1)) l2).trans t;have l:=n.alloc Z (.cells #[.int .i64 kd,.slice i c.length k] 107)
    have L:ay (Calls prog 72 #[.agg #[ah kd,.slice f c.length g],.agg #[ah kd,.slice i c.length k]] ((wr.alloc (.cells #[.int .i64 kd,.slice f c.length g] 107)).alloc (.cells #[.int .i64 kd,.slice i c.length k] 107)) fun e w'=>e=.returned (.bool true)/\Below w.heap.size w w'):=by
     refine(CN kd f i g k c _ v (o.below l) (u.below l)).mono ?_;rintro e w' ⟨rfl,M⟩
     exact⟨rfl,hb.o.trans ((l.trans (M.mono l.size)).mono hb.o.size)⟩
    have N:=L.o;go_wp2_with fail;refine N.mono ?_;rintro e U ⟨rfl,O⟩
    have P:=hide O;go_wp2_with fail;go_roundw;exact⟨j+1,V,af,P⟩
    simp[intOf];omega
   ·obtain rfl:j=b.length:=V;go_wp2_with fail;go_ret;exact⟨rfl,hb.o⟩
theorem wL (r1 f n1 d:Option Addr)(c1 c2 g i:Nat)(c:List (Int×Int))(b:List (Int×List (Int×Int)))(w:ax)(hm:c.length<=100000)(hl:b.length<=100000)(n:∀nd∈b,nd.2.length<=100000)(o:dv w r1 c)(q:dv w f c)(s:Ln w n1 b)(t:Ln w d b):
 Calls prog 30 #[.agg #[.slice r1 c.length c1,.slice n1 b.length g],.agg #[.slice f c.length c2,.slice d b.length i]] w fun e w'=>e=.returned (.bool true)/\Below w.heap.size w w':=by
 have j:=(au w (.cells #[.slice r1 c.length c1,.slice n1 b.length g] 60)).alloc Z (.cells #[.slice f c.length c2,.slice d b.length i] 60)
 have k0:((w.alloc (.cells #[.slice r1 c.length c1,.slice n1 b.length g] 60)).alloc (.cells #[.slice f c.length c2,.slice d b.length i] 60)).cell? (aq w.heap.size 1)=some (.slice n1 b.length g):=by simp[go_sem]
 have k1:((w.alloc (.cells #[.slice r1 c.length c1,.slice n1 b.length g] 60)).alloc (.cells #[.slice f c.length c2,.slice d b.length i] 60)).cell? (aq (w.heap.size+1) 1)=some (.slice d b.length i):=by simp[go_sem]
 have u:((w.alloc (.cells #[.slice r1 c.length c1,.slice n1 b.length g] 60)).alloc (.cells #[.slice f c.length c2,.slice d b.length i] 60)).heap.size=w.heap.size+2:=Z;have P:=wK r1 f c1 c2 c _ hm (o.below j) (q.below j)
 have m:ay (∀w',Below w.heap.size w w'->_):=fun w' hb=>CO n1 d g i b w' hl n (s.below hb) (t.below hb)
 go_enter func30,ntmps30;go_wp2_with fail;refine P.mono ?_;rintro e w1 ⟨rfl,k⟩
 have l:=j.trans (k.mono V)
 have A:=(k.cell (p:=aq w.heap.size 1) (by show w.heap.size<_;omega)).trans k0;have B:=(k.cell (p:=aq (w.heap.size+1) 1) (by show w.heap.size+1<_;omega)).trans k1;have v:=m.o w1 l;clear j k0 k1 u k m;go_wp2_with fail;refine v.mono ?_;rintro e C ⟨rfl,x⟩
 go_wp2_with fail;go_ret;exact⟨rfl,(l.trans (x.mono l.size))⟩
theorem CP (r1 b n1 c:Option Addr)(m n p q c1 c2 d f:Nat)(w:ax)(h:m≠n):
 Calls prog 30 #[.agg #[.slice r1 m c1,.slice n1 p d],.agg #[.slice b n c2,.slice c q f]] w fun e w'=>e=.returned (.bool false)/\Below w.heap.size w w':=by
 have i:((w.alloc (.cells #[.slice r1 m c1,.slice n1 p d] 60)).alloc (.cells #[.slice b n c2,.slice c q f] 60)).heap.size=w.heap.size+2:=Z;go_enter func30,ntmps30;go_wp2_with fail;refine(CM r1 b m n c1 c2 _ h).mono ?_;rintro e w1 ⟨rfl,g⟩
 go_wp2;go_ret;exact⟨rfl,(((au w _).alloc Z _).trans (g.mono V))⟩
def B1:List Int:=fC (List.replicate 24 0) 0 33 2
def B2:List Int:=fC B1 3 194 12
theorem e16:gg 16 16 0 0=16:=by decide+kernel
theorem CQ (ws:List Int)(y:Nat)(hd:Int)(k:Nat):(fC ws y hd k).length=ws.length:=by
 induction k with
 |zero=>simp[fC]
 |succ k b=>simp[fC,b]
theorem j9 (l:List Int)(i j:Nat)(x:Int)(h:i<l.length):(l.set i x).getD j 0=if i=j then x else l.getD j 0:=by
 rw[aE,aE,List.getElem?_set];split
 ·rename_i e;subst e;simp
 ·rfl
theorem k7 (ws:List Int)(y:Nat)(hd:Int)(k i:Nat)(h:y+k<ws.length):(fC ws y hd k).getD i 0=if i=y then hd else if y+1<=i/\i<y+1+k then 2 else ws.getD i 0:=by
 induction k with
 |zero=>
  rw[fC,j9 _ _ _ _ V];by_cases e:y=i
  ·rw[aI e,aI e.symm]
  ·rw[aG e,aG (fun c=>e c.symm),aG V]
 |succ k f=>
  rw[fC,j9 _ _ _ _ (by rw[CQ];omega),f V];by_cases e:y+1+k=i
  ·rw[aI e,aG V,aI V]
  ·rw[aG e];by_cases b:i=y
   ·rw[aI b,aI b]
   ·rw[aG b,aG b];by_cases d:y+1<=i/\i<y+1+k
    ·rw[aI d,aI V]
    ·rw[aG d,aG V]
theorem CR (y f:Nat):hB 0 ((y+1+f:Nat):Int) y=true:=by simp[hB];omega
theorem wM {N y g:Nat}{ws:List Int}(hd:Int)(f:Nat)(h:y+f<ws.length):ld N (y+1+f) g (fC ws y hd f) y=hd:=by
 have hi:dd N (y+1+f) g y=true:=by unfold dd;rw[CR];rfl
 unfold ld;rw[aI hi,Int.toNat_natCast,k7 _ _ _ _ _ h,aI rfl]
def iJ (N y:Nat)(k f:Int):Bool:=decide (hc k f=0/\f+1<=(N:Int)-y)
def it (N O y g:Nat)(ws:List Int)(a:Int):Bool:=decide (pc (ld N y g ws a)=0/\1+pf (ld N y g ws a)<=gg N y g a-a/\1+pf (ld N y g ws a)<=(O:Int)-g)
theorem oQ {N y:Nat}{k f:Int}(h:iJ N y k f=true):hc k f=0/\f+1<=(N:Int)-y:=by simpa[iJ] using h
theorem CS {N y:Nat}{k f:Int}(h:iJ N y k f=false):hc k f≠0\/(N:Int)-y<f+1:=by
 have:¬(hc k f=0/\f+1<=(N:Int)-y):=by simpa[iJ] using h
 by_cases c:hc k f=0
 ·exact aJ V
 ·exact aK c
theorem nU {N O y g:Nat}{ws:List Int}{a:Int}(h:it N O y g ws a=true):pc (ld N y g ws a)=0/\1+pf (ld N y g ws a)<=gg N y g a-a/\1+pf (ld N y g ws a)<=(O:Int)-g:=by simpa[it] using h
theorem CT {N O y g:Nat}{ws:List Int}{a:Int}(h:it N O y g ws a=false):pc (ld N y g ws a)≠0\/gg N y g a-a<1+pf (ld N y g ws a)\/(O:Int)-g<1+pf (ld N y g ws a):=by
 have:¬(pc (ld N y g ws a)=0/\1+pf (ld N y g ws a)<=gg N y g a-a/\1+pf (ld N y g ws a)<=(O:Int)-g):=by simpa[it] using h
 by_cases c:pc (ld N y g ws a)=0
 ·exact aJ V
 ·exact aK c
def oR (N y:Nat)(k f:Int):Int:=if iJ N y k f=true then(y:Int) else-1
def iU (N y:Nat)(k f:Int):Nat:=if iJ N y k f=true then y+1+f.toNat else y
def fq (N y:Nat)(k f:Int)(ws:List Int):List Int:=if iJ N y k f=true then fC ws y (hw k f) f.toNat else ws
def mM (N O y g:Nat)(ws:List Int)(a:Int):Int:=if it N O y g ws a=true then((N+g:Nat):Int) else-1
def jJ (N O y g:Nat)(ws:List Int)(a:Int):Nat:=if it N O y g ws a=true then g+(1+(pf (ld N y g ws a)).toNat) else g
def jK (N O y g:Nat)(ws:List Int)(a:Int):List Int:=if it N O y g ws a=true then splice ws (N+g) ((ws.drop a.toNat).take (1+(pf (ld N y g ws a)).toNat)) else ws
theorem CU {p q N O y g:Nat}{ws:List Int}(k f:Int)(w:ax)(h:At w p q N O y g ws):
 Calls prog 41 #[aj p,ah k,ah f] w fun e w'=>e=.returned (ah (oR N y k f))/\At w' p q N O (iU N y k f) g (fq N y k f ws)/\c_ p q w w':=by
 unfold oR iU fq;cases hb:iJ N y k f
 ·rw[aG Z,aG Z,aG Z];exact(Cx k f w h (CS hb)).mono fun e w' b=>⟨b.1,h.below b.2 bW,c_.of b.2⟩
 ·exact Cw k f w h (oQ hb).1 (oQ hb).2
theorem wN {p q N O y g:Nat}{ws:List Int}(a:Int)(w:ax)(h:At w p q N O y g ws):
 Calls prog 165 #[aj p,ah a] w fun e w'=>e=.returned (ah (mM N O y g ws a))/\At w' p q N O y (jJ N O y g ws a) (jK N O y g ws a)/\c_ p q w w':=by
 unfold mM jJ jK;cases hb:it N O y g ws a
 ·rw[aG Z,aG Z,aG Z];exact(CG a w h (CT hb)).mono fun e w' b=>⟨b.1,h.below b.2 bW,c_.of b.2⟩
 ·exact CF a w h (nU hb).1 (nU hb).2.1 (nU hb).2.2
open Go.ChangeShapes Go.WideShapes Go.ChangeAt Go.RowKit Go.Joins Go.Deep W cf
section
variable {P:Program}(w:ax)
theorem CV (base:Nat)(t ty e:TypeId)(i:TypeInfo)(z:Value)(size bytes:Nat)(ht:P.underlying t=some (.slice e))(hi:P.info? e=some i)(hz:i.zero=some z)
 (p:i.size=size)(q:i.bytes=bytes)(s:z.cells.size=size)(u:0<size)
 (v:Value)(n:Nat)(g:List Value)(k:w.ownsRow base e size v n g)
 (ad:Option Addr)(m c:Nat)(f:List Value)(hl:f.length=m*size)(x:ad=none->m=0/\c=0)(A:∀a,ad=some a->∀j l,f[j]?=some l->w.cell? (a.add j)=some l)(B:∀l∈f,l.oneCell'=true)
 (C:n+m<=maxLen)(D:(n+m)*bytes<=140737488355328)(E:base<=w.heap.size):
 ∃b d w',(Builtin.append_ #[t,t] ty #[v,.slice ad m c]).run P w=.ok (.slice b (n+m) d) w'/\w'.ownsRow base e size (.slice b (n+m) d) (n+m) (g++f)/\w.grownBy w' v.ownBlock/\((Value.slice b (n+m) d).ownBlock=v.ownBlock\/(Value.slice b (n+m) d).ownBlock=some w.heap.size):=by
 cases ad with
 |some a=>
  obtain⟨H,w',hr,o,F,_,G⟩:=run_append_own_at (P:=P) w base t ty e i z size bytes ht hi hz p q s u v n g k a m c f hl (A a rfl) B C D E;obtain⟨b,d,rfl⟩:=eE o;exact⟨b,d,w',hr,o,F,G⟩
 |none=>
  obtain⟨rfl,rfl⟩:=x rfl;have hn:=List.eq_nil_of_length_eq_zero (by simpa using hl)
  subst hn;have hr:=run_append_owned_none (P:=P) w base t ty e i size ht hi v n g k;obtain⟨b,d,rfl⟩:=eE k;exact⟨b,d,w,hr,by simpa using k,⟨rfl,rfl,rfl,aD _,fun _ _ _=>rfl⟩,aK rfl⟩
theorem CW {o:Oper}{a:Act}{K:Act->ax->Prop}{Q:Exit->Act->ax->Prop}(s x:Operand)(t:TypeId)
 (ho:o.op=.call {callee:=.builtin .append,args:=#[s,x],argTypes:=#[t,t]})
 (base:Nat)(e:TypeId)(i:TypeInfo)(z:Value)(size bytes:Nat)(ht:P.underlying t=some (.slice e))(hi:P.info? e=some i)(hz:i.zero=some z)
 (l:i.size=size)(p:i.bytes=bytes)(q:z.cells.size=size)(u:0<size)
 (v:Value)(n:Nat)(k:List Value)(hs:a.eval s=v)(A:w.ownsRow base e size v n k)
 (ad:Option Addr)(m c:Nat)(f:List Value)(B:a.eval x=.slice ad m c)(hl:f.length=m*size)(C:ad=none->m=0/\c=0)(D:∀a,ad=some a->∀j g,f[j]?=some g->w.cell? (a.add j)=some g)(E:∀g∈f,g.oneCell'=true)
 (F:n+m<=maxLen)(G:(n+m)*bytes<=140737488355328)(H:base<=w.heap.size)
 (h:∀b d w',w'.ownsRow base e size (.slice b (n+m) d) (n+m) (k++f)->w.grownBy w' v.ownBlock->((Value.slice b (n+m) d).ownBlock=v.ownBlock\/(Value.slice b (n+m) d).ownBlock=some w.heap.size)->K (a.put o.dst (.slice b (n+m) d)) w'):o.wp P a w K Q:=by
 obtain⟨b,d,w',hr,I,J,L⟩:=CV (P:=P) w base t o.type e i z size bytes ht hi hz l p q u v n k A ad m c f hl C D E F G H;unfold Oper.wp execOp;simp only [ho,resolve,invoke,builtin,Sem.run_bind,Sem.run_pure,Result.andThen_ok,List.map_toArray,List.map_cons,List.map_nil,hs,B,hr];exact h b d w' I J L
theorem wO {ops:Array Oper}{l:List Oper}{o:Oper}{a:Act}{Q:Exit->Act->ax->Prop}(p:o.guard=none)(s x:Operand)(t:TypeId)
 (ho:o.op=.call {callee:=.builtin .append,args:=#[s,x],argTypes:=#[t,t]})
 (base:Nat)(e:TypeId)(i:TypeInfo)(z:Value)(size bytes:Nat)(ht:P.underlying t=some (.slice e))(hi:P.info? e=some i)(hz:i.zero=some z)
 (q:i.size=size)(u:i.bytes=bytes)(A:z.cells.size=size)(B:0<size)
 (v:Value)(n:Nat)(k:List Value)(hs:a.eval s=v)(C:w.ownsRow base e size v n k)
 (ad:Option Addr)(m c:Nat)(f:List Value)(D:a.eval x=.slice ad m c)(hl:f.length=m*size)(E:ad=none->m=0/\c=0)(F:∀a,ad=some a->∀j g,f[j]?=some g->w.cell? (a.add j)=some g)(G:∀g∈f,g.oneCell'=true)
 (H:n+m<=maxLen)(I:(n+m)*bytes<=140737488355328)(J:base<=w.heap.size)
 (h:∀b d w',w'.ownsRow base e size (.slice b (n+m) d) (n+m) (k++f)->w.grownBy w' v.ownBlock->((Value.slice b (n+m) d).ownBlock=v.ownBlock\/(Value.slice b (n+m) d).ownBlock=some w.heap.size)->wpList P ops Q l (a.put o.dst (.slice b (n+m) d)) w'):wpList P ops Q (o::l) a w:=
 wpList_plain p fun _ K=>CW w s x t ho base e i z size bytes ht hi hz q u A B v n k hs C ad m c f D hl E F G H I J fun b d w' L M N=>K _ _ (h b d w' L M N)
end
theorem iI.below {w w':ax}{ad:Option Addr}{l:List Int}(h:iI w ad l)(hb:Below w.heap.size w w'):iI w' ad l:=
 h.keep hb.size (fun hp z e=>by obtain⟨b,o,c,d,_⟩:=h hp;rw[e] at c;cases c;exact hb.block _ d)
theorem CX (w:ax)(ad:Option Addr)(l:List Int)(cap:Nat)(v:Int)(h:iI w ad l)(hm:l.length<=100000):
 Calls prog 225 #[.slice ad l.length cap,ah v] w fun e w'=>∃a:Int,e=.returned (ah a)/\decide (0<=a)=l.contains v/\Below w.heap.size w w':=by
 go_enter func225,ntmps225;go_wp2_with fail
 go_loopw [8] (fun iv wr=>∃j:Nat,j<=l.length/\iv=ah j/\ay (∀i,i<j->¬l.getD i 0=v)/\Below w.heap.size w wr) (fun iv _=>l.length-(intOf iv).toNat)
 exact⟨0,aY _,rfl,fun i h=>V,aH _ _⟩
 ·
   obtain⟨j,n,rfl,d,hb⟩:=hrel;by_cases f:j<l.length
   ·obtain⟨o,p,k,q,hc⟩:=(hide h).o.below hb V;have g:=hc j f;subst k;by_cases hv:l.getD j 0=v
    ·have b:l.contains v=true:=by rw[List.contains_iff_mem,<-hv,aE,aL f];exact a6 _
     rw[hv] at g;clear hc;go_wp2;go_ret;exact⟨j,rfl,by rw[b];simp,hb⟩
    ·have m:ay (∀i,i<j+1->¬l.getD i 0=v):=fun i hi=>by
      by_cases c:i=j
      ·rw[c];exact hv
      ·exact d.o i V
     generalize l.getD j 0=s at g hv;clear hc;go_wp2;go_roundw;exact⟨j+1,V,af,m,hb⟩
     simp[intOf];omega
   ·obtain rfl:j=l.length:=V;have b:l.contains v=false:=by rw[Bool.eq_false_iff];intro hc;rw[List.contains_iff_mem] at hc;obtain⟨i,hi,e⟩:=List.mem_iff_getElem.1 hc;exact d.o i hi (by simp[List.getElem?_eq_getElem hi,e])
    go_wp2;go_ret;exact⟨-1,rfl,by rw[b];rfl,hb⟩
theorem wP (w:ax)(ad:Option Addr)(l:List Int)(cap:Nat)(v:Int)(h:iI w ad l)(hm:l.length<=100000):
 Calls prog 177 #[.slice ad l.length cap,ah v] w fun e w'=>e=.returned (.bool (l.contains v))/\Below w.heap.size w w':=by
 go_enter func177,ntmps177;go_wp2_with fail;refine(CX w ad l cap v h hm).mono ?_;rintro e w1 ⟨a,rfl,ha,b⟩
 have c:=hide ha;clear ha;go_wp2;go_ret;exact⟨by rw[<-c.o];rfl,b⟩
def tB (N y g:Nat)(ws:List Int)(x:Int):Bool:=cY x&&((ei N y g ws).contains (cg x)||(dD N y g ws).contains (cg x))
def jL (N y g:Nat)(ws:List Int)(x:Int):Int:=if tB N y g ws x=true then cg x else 0
theorem aQ (w:ax)(a:Addr){u:Value}(h:w.cell? a = some u):a.block < w.heap.size:=by intros;apply World.block_lt_of_cell?<;>assumption
theorem CY {pw p q N O y g:Nat}{ws:List Int}(x:Int)(w:ax)(hc:w.cell? (aq pw 0)=some (aj p))(h:At w p q N O y g ws)(l:(ei N y g ws).length<=100000)(hO:(dD N y g ws).length<=100000):
 Calls prog 101 #[aj pw,ah x] w fun e w'=>e=.returned (.tuple #[ah (jL N y g ws x),.bool (tB N y g ws x)])/\Below w.heap.size w w':=by
 have m:=hide h;have ir:=aQ w _ hc;have P:=nL x w;cases ha:cY x
 ·have c:tB N y g ws x=false:=by simp[tB,ha]
  have d:jL N y g ws x=0:=by simp[jL,c]
  rw[c,d];rw[ha] at P;go_enter func101,ntmps101;go_wp2_with fail;refine P.mono ?_;exact oI
 ·rw[ha] at P;have c:tB N y g ws x=((ei N y g ws).contains (cg x)||(dD N y g ws).contains (cg x)):=by simp[tB,ha]
  have d:jL N y g ws x=if((ei N y g ws).contains (cg x)||(dD N y g ws).contains (cg x))=true then cg x else 0:=by unfold jL;rw[c]
  rw[c,d];generalize cg x=v at P;obtain⟨c1,f⟩:∃b,(ei N y g ws).contains v=b:=⟨_,rfl⟩
  obtain⟨c2,i⟩:∃b,(dD N y g ws).contains v=b:=⟨_,rfl⟩
  rw[f,i];have n:=hide f;have o:=hide i;have K:∀w1,Below w.heap.size w w1->Calls prog 129 #[aj p] w1 fun e w'=>∃d1 f1 d2 f2,e=.returned (.tuple #[.slice d1 (ei N y g ws).length f1,.slice d2 (dD N y g ws).length f2])/\ay (∀w3,Below w'.heap.size w' w3->Calls prog 177 #[.slice d1 (ei N y g ws).length f1,ah v] w3 fun e w4=>e=.returned (.bool c1)/\Below w3.heap.size w3 w4)/\ay (∀w3,Below w'.heap.size w' w3->Calls prog 177 #[.slice d2 (dD N y g ws).length f2,ah v] w3 fun e w4=>e=.returned (.bool c2)/\Below w3.heap.size w3 w4)/\Below w1.heap.size w1 w':=fun w1 hb1=>by
   refine(p6 w1 (m.o.below hb1 bW)).mono ?_;rintro e w2 ⟨v1,v2,rfl,j,k,hb2⟩
   obtain⟨d1,f1,rfl⟩:=eE j;obtain⟨d2,f2,rfl⟩:=eE k;refine⟨d1,f1,d2,f2,rfl,fun w3 hb3=>?_,fun w3 hb3=>?_,hb2⟩
   ·rw[<-n.o];exact wP w3 d1 (ei N y g ws) f1 v ((gH j).below hb3) l
   ·rw[<-o.o];exact wP w3 d2 (dD N y g ws) f2 v ((gH k).below hb3) hO
  have HK:=hide K;cases c1
  ·cases c2
   ·simp only [Bool.or_self,Bool.false_eq_true,if_false];exact wi
   ·simp only [Bool.false_or,if_true];exact wi
  ·simp only [Bool.true_or,if_true];go_enter func101,ntmps101;go_wp2_with fail;refine P.mono ?_;rintro e w1 ⟨rfl,hb1⟩
   have y1:=(hb1.cell (p:=aq pw 0) ir).trans hc;go_wp2_with fail;refine(HK.o w1 hb1).mono ?_;rintro e w2 ⟨d1,f1,d2,f2,rfl,L1,L2,hb2⟩
   have ed:=hb1.trans (hb2.mono hb1.size)
   go_wp2_with fail;refine(L1.o w2 bX).mono ?_;rintro e w3 ⟨rfl,hb3⟩
   have jI:=ed.trans (hb3.mono ed.size)
   go_wp2_with fail;go_ret2;exact⟨rfl,jI⟩
end Go.Proofs.YtpkjkjhanlbcoaaGreat
