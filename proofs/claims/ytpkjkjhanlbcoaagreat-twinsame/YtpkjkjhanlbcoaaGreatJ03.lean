import Derived.Test.YtpkjkjhanlbcoaaGreatJ02
import Derived.Deep.RegionLaw
namespace Go.Proofs.YtpkjkjhanlbcoaaGreat
set_option maxRecDepth 100000
set_option maxHeartbeats 1000000
open Tryz
open Go.RowKit W
theorem v7 {P:Prop}(h:P:=by go_wp2_with fail;refine a3 (results_none rfl _ _ _) rfl ?_;have e2:=A5.out;rw[E1.out,List.append_nil] at e2;rw[<-e2];exact⟨rfl,v,(ed.block c (lt_of_some CC.out)).trans CC.out,nT (lQ hown ed) V,⟨(hS.trans (eN.of ed hsz)).os,(hS.trans (eN.of ed hsz)).tape,(hS.trans (eN.of ed hsz)).output,by have:=(hS.trans (eN.of ed hsz)).size;simp at this;omega,fun k hk h1=>((hS.trans (eN.of ed hsz)).block k V h1).trans (aS _ _ _ hk)⟩⟩):P:=h
theorem v8 {P:Prop}(h:P:=by refine bodyPost_end (results_none rfl _ _ _) rfl ?_;have e2:=A5.out;rw[v9 k V,List.append_nil] at e2;rw[<-e2];exact⟨rfl,v,(hb1.block c (lt_of_some CC.out)).trans CC.out,nT (lQ hown hb1) V,⟨(hS.trans (eN.of hb1 hsz)).os,(hS.trans (eN.of hb1 hsz)).tape,(hS.trans (eN.of hb1 hsz)).output,by have:=(hS.trans (eN.of hb1 hsz)).size;simp at this;omega,fun k hk h1=>((hS.trans (eN.of hb1 hsz)).block k V h1).trans (aS _ _ _ hk)⟩⟩):P:=h
theorem v_ {P:Prop}(h:P:=by obtain⟨d0,d1,d2,f0,f1,f2,hz⟩:=cells3 hb1;obtain⟨c0,c1,c2,c3,c4,c5,c6⟩:=((h.alloc _).below hb1 bW).cells;go_wp2_with fail;exact a3 (by simp[results,results221,go_sem,d0,d1,d2]) rfl ⟨rfl,((((bX.alloc bW _).trans (hb1.mono Z)).setCell bW _).setCell bW _).setCell bW _⟩):P:=h
def fC (ws:List Int)(y:Nat)(hd:Int):Nat->List Int
 |0=>ws.set y hd
 |k+1=>(fC ws y hd k).set (y+1+k) 2
theorem bk (n:Int):Go.IntKind.i64.wrap n = (n + 9223372036854775808) % 18446744073709551616 - 9223372036854775808:=IntKind.wrap_i64 ..
theorem Cn {p q N O y g:Nat}{ws:List Int}(k f:Int)(w:ax)(h:At w p q N O y g ws)(hk:hc k f=0)(hr:f+1<=(N:Int)-y):
 Calls prog 41 #[aj p,ah k,ah f] w fun e w'=>e=.returned (ah y)/\At w' p q N O (y+1+f.toNat) g (fC ws y (hw k f) f.toNat)/\c_ p q w w':=by
 obtain⟨_,_,o,s⟩:=iU k f hk;obtain⟨f,rfl⟩:=Int.eq_ofNat_of_zero_le o;simp only [Int.toNat_natCast];have H:ay (hc k f=0):=hk;clear hk;have k1:=h.hN';have t:=h.hy;have u:=h.hO;have v:=h.hg;go_enter func41,ntmps41;go_wp2_with fail;refine(oI k f _).mono ?_;rintro e w1 ⟨rfl,rfl⟩
 rw[H.out];obtain⟨c0,c1,c2,c3,c4,c5,d⟩:=h.cells;go_wp2_with fail;refine(B_ (1+f) _ h V V).mono ?_;rintro e x ⟨rfl,b,s2⟩
 rw[show(1+(f:Int)).toNat=1+f by omega] at b;obtain⟨c0,c1,c2,c3,c4,c5,d⟩:=b.cells;have l:=b.word y V;have m:=b.r7 y;have b1:(y:Int)<((N+O:Nat):Int):=V;go_wp2_with fail
 go_loopw [39] (fun i wr=>∃j:Nat,j<=f/\i=ah j/\At wr p q N O (y+(1+f)) g (fC ws y (hw k f) j)/\c_ p q w1 wr) (fun i _=>f-(intOf i).toNat)
 case atStart=>exact⟨0,aZ _,rfl,b.set y _,s2.trans (c_.r6 _ _)⟩
 case round=>
  obtain⟨j,A,rfl,c,n⟩:=hrel;clear c0 c1 c2 c3 c4 c5 d l m;obtain⟨c0,c1,c2,c3,c4,c5,d⟩:=c.cells;by_cases B:j<f
  ·have l:=c.word (y+1+j) V;have m:=c.r7 (y+1+j)
   have b2:(y:Int)+1+j<((N+O:Nat):Int):=V;go_wp2_with fail;have b3:(0:Int)<=(y:Int)+1+j:=V;have b4:((y:Int)+1+j).toNat=y+1+j:=V;have b5:(y:Int)+1+j<(N:Int)+O:=V;have b6:IntKind.i64.wrap ((y:Int)+1)=(y:Int)+1:=by rw[bk];omega
   have C:IntKind.i64.wrap ((y:Int)+1+j)=(y:Int)+1+j:=by rw[bk];omega
   go_region_with (go_at_call 47;refine(r4 _).mono ?_;rintro e D ⟨rfl,rfl⟩)
   all_goals
    go_wp2_with fail;go_roundw
    case rel=>exact⟨j+1,V,af,c.drew.set _ _,n.drew.trans (c_.r6 _ _)⟩
    case measure=>simp[intOf];omega
  ·go_wp2_with fail;go_ret;have e:j=f:=V;subst e;exact⟨rfl,by rw[Nat.add_assoc];exact c,n⟩
theorem Co {p q N O y g:Nat}{ws:List Int}(k f:Int)(w:ax)(h:At w p q N O y g ws)(hk:hc k f≠0\/(N:Int)-y<f+1):
 Calls prog 41 #[aj p,ah k,ah f] w fun e w'=>e=.returned (ah (-1))/\aw w w':=by
 by_cases c:hc k f=0
 ·obtain⟨_,_,b,d⟩:=iU k f c;go_enter func41,ntmps41;go_wp2_with fail;refine(oI k f _).mono ?_;rintro e w1 ⟨rfl,rfl⟩
  rw[(hide c).out];obtain⟨c0,c1,c2,c3,c4,c5,i⟩:=h.cells;go_wp2_with fail;refine(Ca (1+f) _ h V).mono ?_;rintro e j ⟨rfl,hb⟩
  go_wp2;go_ret;exact⟨rfl,hb⟩
 ·go_enter func41,ntmps41;go_wp2_with fail;refine(oI k f _).mono ?_;rintro e w1 ⟨rfl,rfl⟩
  go_wp2;go_ret;exact⟨rfl,aH _ _⟩
theorem Cr {p q N O y g:Nat}{ws:List Int}(a n:Int)(w:ax)(h:At w p q N O y g ws)(h0:0<=a)(b:0<=n)(c:a+n<=(N:Int)+O):
 Calls prog 220 #[aj p,ah a,ah n] w fun e w'=>e=.returned (.bool true)/\w'=w:=by
 obtain⟨c0,c1,c2,c3,c4,c5,d⟩:=h.cells;have k1:=h.hN';have f:=h.hO;go_wp2;go_ret;exact⟨by simp;omega,rfl⟩
def k4 (w w':ax)(g:Nat)(c:List Value)(d:Nat)(b:List Value):Prop:=
 (b=[]/\w'=w)\/w'=w.setRow g (splice c d b).toArray
theorem pZ {P:Program}{ops:Array Oper}{o:Oper}{a:Act}{w:ax}{K:Act->ax->Prop}{Q:Exit->Act->ax->Prop}{E:Prop}(A:o.guard=none)(q s:Operand)(c l d:TypeId)
 (ho:o.op=.call {callee:=.builtin .copy,args:=#[q,s],argTypes:=#[c,l]})(u:P.underlying c=some (.slice d))(x:(P.info? d).map (·.size)=some 1)
 (m sp:Option Addr)(e n f p:Nat)(hd:a.eval q=.slice m e n)(hs:a.eval s=.slice sp f p)
 (g i:Nat)(k:List Value)(t:TypeId)(hg:w.heap[g]?=some (.cells k.toArray t (0,0)))(b:List Value)(hn:b.length=Nat.min f e)
 (B:0<b.length->m=some ⟨g,i,none⟩/\∃ad,sp=some ad/\∀j v,b[j]?=some v->w.cell? (ad.add j)=some v)
 (C:i+b.length<=k.length)(D:∀v∈b,v.oneCell'=true)
 (h:∀w',k4 w w' g k i b->K (a.put o.dst (goInt b.length)) w'):
 if Region.wanted o (yielded ops a.tmps)=true then Oper.wp P o a w K Q else E:=by
 rw[aI (show Region.wanted o (yielded ops a.tmps)=true by simp[Region.wanted,A])];rcases Nat.eq_zero_or_pos b.length with h0|h0
 ·have F:=List.eq_nil_of_length_eq_zero h0;subst F;unfold Oper.wp;simp[execOp,ho,resolve,invoke,builtin,hd,hs,(run_copy_none (P:=P) w c l o.type d m sp e n f p u x (by simpa using hn.symm)),Result.andThen];exact h w (aK ⟨rfl,rfl⟩)
 ·obtain⟨G,ad,H,I⟩:=B h0;subst G H;unfold Oper.wp;simp[execOp,ho,resolve,invoke,builtin,hd,hs,(run_copy_row (P:=P) w c l o.type d g i e n ad f p k.toArray t b u x hg hn I (by simpa using C) D),Result.andThen];exact h _ (aJ (by simp[splice]))
theorem sf:(prog.info? 2).map (·.size)=some 1:=ae
theorem oP (l:List Int):∀v∈l.map (Value.int .i64),v.oneCell'=true:=by intro v hv;obtain⟨x,_,rfl⟩:=List.mem_map.1 hv;rfl
theorem sg (ws b:List Int)(t:Nat):splice (ws.map (Value.int .i64)) t (b.map (Value.int .i64))=(splice ws t b).map (Value.int .i64):=by simp[splice,List.map_take,List.map_drop]
theorem At.moved {w w':ax}{p q N O y g:Nat}{ws b:List Int}{t:Nat}(h:At w p q N O y g ws)(hm:k4 w w' q (ws.map (Value.int .i64)) t (b.map (Value.int .i64)))(c:t+b.length<=N+O):
 At w' p q N O y g (splice ws t b)/\c_ p q w w':=by
 rcases hm with⟨e,rfl⟩|rfl
 ·have d:b=[]:=by simpa using e
  subst d;have f:splice ws t []=ws:=by simp[splice]
  rw[f];exact⟨h,c_.refl _ _ _⟩
 ·rw[sg];exact⟨h.row (by rw[length_splice _ _ _ (by rw[h.hl];exact c)];exact h.hl),c_.B4 _⟩
theorem At.src {w:ax}{p q N O y g:Nat}{ws:List Int}(h:At w p q N O y g ws)(f n:Nat)(e:f+n<=N+O)(j:Nat)(v:Value)(hv:(((ws.drop f).take n).map (Value.int .i64))[j]?=some v):
 w.cell? ((⟨q,f,none⟩:Addr).add j)=some v:=by
 rw[List.getElem?_map] at hv;obtain⟨x,b,rfl⟩:=Option.map_eq_some_iff.1 hv;have c:=(List.getElem?_eq_some_iff.1 b).1;have d:j<n:=by simp at c;omega
 have:=h.word (f+j) V;rw[show((⟨q,f,none⟩:Addr).add j)=⟨q,f+j,none⟩ by simp[Addr.add],this];rw[List.getElem?_take_of_lt d,List.getElem?_drop] at b;simp[List.getD_eq_getElem?_getD,b]
theorem aW {α:Type _}{β:Type _}{«as»:List α}(f:α -> β):(List.map f «as»).length = «as».length:=List.length_map ..
theorem wc {p q N O y g:Nat}{ws:List Int}(t f n:Nat)(w:ax)(b:At w p q N O y g ws)(x:t+n<=N+O)(k:f+n<=N+O):
 Calls prog 162 #[aj p,ah t,ah f,ah n] w fun e w'=>e=.returned (.tuple #[])/\At w' p q N O y g (splice ws t ((ws.drop f).take n))/\c_ p q w w':=by
 obtain⟨c0,c1,c2,c3,c4,c5,A⟩:=b.cells;have k1:=b.hN';have B:=b.hO;have hl:=b.hl;have b1:IntKind.i64.wrap ((t:Int)+n)=(t:Int)+n:=by rw[bk];omega
 have b2:IntKind.i64.wrap ((f:Int)+n)=(f:Int)+n:=by rw[bk];omega
 have b3:(t:Int)+n<=(N:Int)+O:=V;have b4:(f:Int)+n<=(N:Int)+O:=V;have b5:((t:Int)+n).toNat=t+n:=V;have b6:((f:Int)+n).toNat=f+n:=V;have C:(0:Int)<=(t:Int)+n:=V;have D:(0:Int)<=(f:Int)+n:=V;have c:((ws.drop f).take n).length=n:=by simp;omega
 have l:ay ((((ws.drop f).take n).map (Value.int .i64)).length=Nat.min n n):=by show _=_;rw[aW,c];simp
 have m:ay (0<(((ws.drop f).take n).map (Value.int .i64)).length->(if N+O=t then some (⟨q,0,none⟩:Addr) else some ⟨q,t,none⟩)=some ⟨q,t,none⟩/\∃ad,(if N+O=f then some (⟨q,0,none⟩:Addr) else some ⟨q,f,none⟩)=some ad/\∀j v,(((ws.drop f).take n).map (Value.int .i64))[j]?=some v->w.drew.cell? (ad.add j)=some v):=by intro o;rw[aW,c] at o;rw[aG V,aG V];exact⟨rfl,_,rfl,fun j v hv=>b.drew.src f n k j v hv⟩
 have s:ay (t+(((ws.drop f).take n).map (Value.int .i64)).length<=(ws.map (Value.int .i64)).length):=by show _<=_;rw[aW,aW,c];omega
 clear c hl;go_enter func162,ntmps162;go_wp2_with (go_at_call 220;refine(Cr _ _ _ b ?_ ?_ ?_).mono ?_;omega;omega;omega;rintro e w1 ⟨rfl,hw⟩;have hw:=hw.symm;subst hw)
 go_region_law (refine pZ rfl (.tmp 26) (.tmp 35) 53 53 2 rfl Tryz.underlying53 sf (if N+O=t then ak q else some ⟨q,t,none⟩) (if N+O=f then ak q else some ⟨q,f,none⟩) n (N+O-t) n (N+O-f) ?_ ?_ q t (ws.map (Value.int .i64)) 2 b.drew.hq (((ws.drop f).take n).map (Value.int .i64)) l.out m.out s.out (oP _) ?_;(first|rfl|simp[Act.eval,Act.put]);(first|rfl|simp[Act.eval,Act.put]);intro E d;obtain⟨i,u⟩:=b.drew.moved d (by simp;omega);clear d)
 all_goals go_wp2_with fail
 all_goals
  go_end0;refine⟨rfl,?_,(c_.refl _ _ _).drew.trans u⟩
  first
   |exact i
   |(
    have e:t=f:=V;subst e;exact i)
theorem p3 (x:Int)(h:pc x=0):0<=pf x/\pf x<=12:=by have:=iU _ _ (BL x h).1;omega
theorem Ct:pc 0=7:=by decide+kernel
theorem wh {N y g:Nat}{ws:List Int}{a:Int}(h:pc (ld N y g ws a)=0):dd N y g a=true:=by
 cases hi:dd N y g a
 ·have e:ld N y g ws a=0:=by simp[ld,hi]
  rw[e,Ct] at h;omega
 ·rfl
def gg (N y g:Nat)(a:Int):Int:=if hB 0 y a=true then(y:Int) else(N:Int)+g
theorem cells3 {w w1:ax}{a b c:Value}{t:TypeId}(hb:Below (w.alloc (.cells #[a,b,c] t)).heap.size (w.alloc (.cells #[a,b,c] t)) w1):
 w1.cell? (aq w.heap.size 0)=some a/\w1.cell? (aq w.heap.size 1)=some b/\w1.cell? (aq w.heap.size 2)=some c/\w1.frozen? (aq w.heap.size 0)=false/\w1.frozen? (aq w.heap.size 1)=false/\w1.frozen? (aq w.heap.size 2)=false/\w.heap.size<w1.heap.size:=by
 obtain⟨hc,d⟩:=nJ hb;have hz:=hb.size;refine⟨?_,?_,?_,?_,?_,?_,by simp at hz;omega⟩
 ·rw[hc _ _ Z];simp[go_sem]
 ·rw[hc _ _ Z];simp[go_sem]
 ·rw[hc _ _ Z];simp[go_sem]
 ·rw[d _ _ Z];simp[go_sem]
 ·rw[d _ _ Z];simp[go_sem]
 ·rw[d _ _ Z];simp[go_sem]
theorem Cu {p q N O y g:Nat}{ws:List Int}(a:Int)(w:ax)(h:At w p q N O y g ws)(hy:hB 0 y a=true):
 Calls prog 221 #[aj p,ah a] w fun e w'=>e=.returned (.agg #[ah 0,ah N,ah y])/\aw w w':=by
 go_enter func221,ntmps221;go_wp2_with fail;refine(mK a _ (h.alloc _)).mono ?_;rintro e w1 ⟨rfl,hb1⟩
 rw[(hide hy).out];exact v_
theorem Cv {p q N O y g:Nat}{ws:List Int}(a:Int)(w:ax)(h:At w p q N O y g ws)(hy:hB 0 y a=false):
 Calls prog 221 #[aj p,ah a] w fun e w'=>e=.returned (.agg #[ah N,ah O,ah g])/\aw w w':=by
 have b:=hide hy;clear hy;go_enter func221,ntmps221;go_wp2_with fail;refine(mK a _ (h.alloc _)).mono ?_;rintro e w1 ⟨rfl,hb1⟩
 rw[b.out];exact v_
theorem si {p q N O y g:Nat}{ws:List Int}(a:Int)(w:ax)(h:At w p q N O y g ws):∃b s c:Int,0<=b/\b<=100000/\0<=c/\c<=100000/\b+c=gg N y g a/\
 Calls prog 221 #[aj p,ah a] w fun e w'=>e=.returned (.agg #[ah b,ah s,ah c])/\aw w w':=by
 have k1:=h.hN';have d:=h.hy;have f:=h.hO;have i:=h.hg;cases hy:hB 0 y a
 ·exact⟨N,O,g,V,V,V,V,by simp[gg,hy],Cv a w h hy⟩
 ·exact⟨0,N,y,V,V,V,V,by simp[gg,hy],Cu a w h hy⟩
theorem Cw {N O y g:Nat}{a:Int}(hN:N<=256)(hO:O<=1024)(hy:y<=N)(hg:g<=O):0<=gg N y g a/\gg N y g a<=1280:=by unfold gg;split<;>omega
theorem Cx {p q N O y g:Nat}{ws:List Int}(a:Int)(w:ax)(h:At w p q N O y g ws)(hp:pc (ld N y g ws a)=0)(hr:1+pf (ld N y g ws a)<=gg N y g a-a)(hg:1+pf (ld N y g ws a)<=(O:Int)-g):
 Calls prog 165 #[aj p,ah a] w fun e w'=>e=.returned (ah (N+g:Nat))/\At w' p q N O y (g+(1+(pf (ld N y g ws a)).toNat)) (splice ws (N+g) ((ws.drop a.toNat).take (1+(pf (ld N y g ws a)).toNat)))/\c_ p q w w':=by
 obtain⟨c,o⟩:=p3 _ hp;obtain⟨t,J⟩:=ju (wh hp) h.hy h.hg;have u:=h.hy;have v:=h.hO;have x:=h.hg;have k5:=@Cw N O y g a h.hN' v u x;have k6:gg N y g a<=(N:Int)+O:=by unfold gg;split<;>omega
 have A:=hide hp;clear hp;obtain⟨a,rfl⟩:=Int.eq_ofNat_of_zero_le t;rw[Int.toNat_natCast];obtain⟨n,hn⟩:=Int.eq_ofNat_of_zero_le c;have B:=hide hn;rw[hn] at hr hg o c⊢;clear hn;rw[Int.toNat_natCast];go_enter func165,ntmps165;go_wp2_with fail;refine(gd a _ h).mono ?_;rintro e w1 ⟨rfl,d⟩
 rw[A.out,B.out];have f:=h.below d bW
 go_wp2_with fail;obtain⟨b,s,C,D,E,F,G,i,hc⟩:=si a w1 f;refine hc.mono ?_;rintro e K ⟨rfl,j⟩
 clear hc;go_wp2_with fail;refine(lP b s C _ D E F G).mono ?_;rintro e L ⟨rfl,k⟩
 have H:=hide i;clear i;rw[H.out];have l:=(f.below j bW).below k bW
 obtain⟨c0,c1,c2,c3,c4,c5,M⟩:=l.cells;go_wp2_with fail;refine(Cb (1+n) _ l V V).mono ?_;rintro e P ⟨rfl,m,s4⟩
 rw[show(1+(n:Int)).toNat=1+n by omega] at m;go_wp2_with fail;rw[show(1+(n:Int))=((1+n:Nat):Int) by omega];refine(wc (N+g) a (1+n) _ m V V).mono ?_;rintro e Q ⟨rfl,I,s5⟩
 go_wp2_with fail;go_ret;exact⟨rfl,I,(((c_.of d).trans (c_.of j)).trans (c_.of k)).trans (s4.trans s5)⟩
theorem Cy {p q N O y g:Nat}{ws:List Int}(a:Int)(w:ax)(h:At w p q N O y g ws)(x:pc (ld N y g ws a)≠0\/gg N y g a-a<1+pf (ld N y g ws a)\/(O:Int)-g<1+pf (ld N y g ws a)):
 Calls prog 165 #[aj p,ah a] w fun e w'=>e=.returned (ah (-1))/\aw w w':=by
 by_cases hp:pc (ld N y g ws a)=0
 ·obtain⟨E,F⟩:=p3 _ hp;have hi:=wh hp;obtain⟨G,H⟩:=ju hi h.hy h.hg;have k1:=h.hN';have I:=h.hy;have J:=h.hO;have K:=h.hg;have L:gg N y g a-a<1+pf (ld N y g ws a)\/(O:Int)-g<1+pf (ld N y g ws a):=by
   rcases x with e|e
   ·exact absurd hp e
   ·exact e
  have u:=hide hp;by_cases hr:gg N y g a-a<1+pf (ld N y g ws a)
  ·go_enter func165,ntmps165;go_wp2_with fail;refine(gd a _ h).mono ?_;rintro e w1 ⟨rfl,c⟩
   rw[u.out];have i:=h.below c bW
   go_wp2_with fail;obtain⟨b,s,j,k,l,m,n,o,hc⟩:=si a w1 i;refine hc.mono ?_;rintro e A ⟨rfl,d⟩
   go_wp2_with fail;refine(lP b s j _ k l m n).mono ?_;rintro e B ⟨rfl,f⟩
   have t:=hide o;rw[t.out];go_wp2_with fail;go_ret;exact⟨rfl,(c.trans (d.mono c.size)).trans (f.mono (aT c.size d.size))⟩
  ·go_enter func165,ntmps165;go_wp2_with fail;refine(gd a _ h).mono ?_;rintro e w1 ⟨rfl,c⟩
   rw[u.out];have i:=h.below c bW
   go_wp2_with fail;obtain⟨b,s,j,k,l,m,n,o,hc⟩:=si a w1 i;refine hc.mono ?_;rintro e A ⟨rfl,d⟩
   have C:=i.below d bW
   go_wp2_with fail;refine(lP b s j _ k l m n).mono ?_;rintro e B ⟨rfl,f⟩
   have t:=hide o;rw[t.out];have v:=C.below f bW
   obtain⟨c0,c1,c2,c3,c4,c5,M⟩:=v.cells;go_wp2_with fail;refine(Ce _ _ v V).mono ?_;rintro e P ⟨rfl,D⟩
   go_wp2_with fail;go_ret;exact⟨rfl,((c.trans (d.mono c.size)).trans (f.mono (aT c.size d.size))).trans (D.mono (aT c.size (aT d.size f.size)))⟩
 ·go_enter func165,ntmps165;go_wp2_with fail;refine(gd a _ h).mono ?_;rintro e w1 ⟨rfl,c⟩
  go_wp2_with fail;go_ret;exact⟨rfl,c⟩
structure eN (B c:Nat)(w w':ax):Prop where
 os:w'.os=w.os
 tape:w'.tape=w.tape
 output:w'.output=w.output
 size:w.heap.size<=w'.heap.size
 block:∀k,k<B->k≠c->w'.heap[k]?=w.heap[k]?
theorem eN.refl (B c:Nat)(w:ax):eN B c w w:=⟨rfl,rfl,rfl,aD _,fun _ _ _=>rfl⟩
theorem eN.trans {B c:Nat}{a b d:ax}(h:eN B c a b)(k:eN B c b d):eN B c a d:=
 ⟨k.os.trans h.os,k.tape.trans h.tape,k.output.trans h.output,aT h.size k.size,fun i hi e=>(k.block i hi e).trans (h.block i hi e)⟩
theorem eN.of {B D c:Nat}{w w':ax}(h:Below D w w')(b:B<=D):eN B c w w':=⟨h.os,h.tape,h.output,h.size,fun k hk _=>h.block k V⟩
theorem eN.below {B D c:Nat}{w w':ax}(h:eN B c w w')(b:D<=B)(hc:D<=c):Below D w w':=⟨h.os,h.tape,h.output,h.size,fun k hk=>h.block k V V⟩
theorem lQ {w w':ax}{base n:Nat}{e:TypeId}{v:Value}{l:List Value}(h:w.ownsRow base e 1 v n l)(hb:aw w w'):w'.ownsRow base e 1 v n l:=by
 obtain⟨f,c⟩:=h;refine⟨f,?_⟩
 rcases c with c|⟨b,cap,g,hv,i,d,r⟩
 ·exact aK c
 ·exact aJ ⟨b,cap,g,hv,i,(hb.block b (lt_of_some d)).trans d,r⟩
theorem nT {w:ax}{base base' n:Nat}{e:TypeId}{v:Value}{l:List Value}(h:w.ownsRow base e 1 v n l)(hb:base'<=base):w.ownsRow base' e 1 v n l:=by
 obtain⟨d,c⟩:=h;refine⟨d,?_⟩
 rcases c with c|⟨b,cap,f,hv,g,r⟩
 ·exact aK c
 ·exact aJ ⟨b,cap,f,hv,V,r⟩
theorem wi {w w':ax}{base B c n:Nat}{e:TypeId}{v:Value}{l:List Value}(h:w.ownsRow base e 1 v n l)(hs:eN B c w w')(hB:w.heap.size<=B)(hc:c<base):w'.ownsRow base e 1 v n l:=by
 obtain⟨g,d⟩:=h;refine⟨g,?_⟩
 rcases d with d|⟨b,cap,i,hv,j,f,r⟩
 ·exact aK d
 ·exact aJ ⟨b,cap,i,hv,j,(hs.block b (by have:=lt_of_some f;omega) V).trans f,r⟩
theorem kE:(prog.info? 3).map (fun i=>(i.zero,i.size,i.bytes))=some (some (ah 0),1,8):=ae
theorem wj {w:ax}{base n c:Nat}{e:TypeId}{v:Value}{l:List Value}(h:w.ownsRow base e 1 v n l)(hc:c<base):some c≠v.ownBlock:=by
 obtain⟨_,d⟩:=h;rcases d with⟨rfl,_⟩|⟨b,cap,f,rfl,g,_⟩
 ·simp[Value.ownBlock]
 ·simp[Value.ownBlock];omega
theorem wm {w:ax}{base n:Nat}{e:TypeId}{v:Value}{l:List Value}(h:w.ownsRow base e 1 v n l):∀k,v.ownBlock=some k->base<=k:=by
 obtain⟨_,c⟩:=h;intro k hk;rcases c with⟨rfl,_⟩|⟨b,cap,d,rfl,f,_⟩
 ·simp[Value.ownBlock] at hk
 ·simp[Value.ownBlock] at hk;omega
theorem wn {w:ax}{base n:Nat}{e:TypeId}{v:Value}{l:List Value}(h:w.ownsRow base e 1 v n l)(hn:0<n):∃b cap,v=.slice (ak b) n cap:=by
 obtain⟨_,c⟩:=h;rcases c with⟨_,c⟩|⟨b,cap,d,hv,_⟩
 ·omega
 ·exact⟨b,cap,hv⟩
def eA (N y g:Nat)(ws:List Int)(hi:Int):Nat->Int->List Int
 |0,_=>[]
 |k+1,a=>if a<hi then(if pc (ld N y g ws a)=0 then a::eA N y g ws hi k (a+(1+pf (ld N y g ws a))) else[]) else[]
theorem v9 {N y g:Nat}{ws:List Int}{hi a:Int}(k:Nat)(h:hi<=a):eA N y g ws hi k a=[]:=by
 cases k with
 |zero=>rfl
 |succ k=>unfold eA;rw[aG V]
theorem wu {N y g:Nat}{ws:List Int}{hi a:Int}(k:Nat)(h:pc (ld N y g ws a)≠0):eA N y g ws hi k a=[]:=by
 cases k with
 |zero=>rfl
 |succ k=>unfold eA;split<;>rfl
theorem ww {N y g:Nat}{ws:List Int}{hi a:Int}(k:Nat)(hk:hi-a<=k)(h:a<hi)(c:pc (ld N y g ws a)=0):
 ∃b,k=b+1/\eA N y g ws hi k a=a::eA N y g ws hi b (a+(1+pf (ld N y g ws a))):=by
 cases k with
 |zero=>omega
 |succ k=>exact⟨k,rfl,by rw[eA,aI h,aI c]⟩
theorem Cz (a:Int)(c base:Nat)(v:Value)(L:List Int)(w:ax)(hc:w.heap[c]?=some (.cells #[v] 74 (0,0)))(i:c<base)(hB:base<=w.heap.size)
 (f:w.ownsRow base 3 1 v L.length (L.map (Value.int .i64)))(D:L.length<=100000):
 Calls prog 196 #[ah a,aj c] w fun e w'=>e=.returned (.tuple #[])/\∃g,w'.heap[c]?=some (.cells #[g] 74 (0,0))/\w'.ownsRow base 3 1 g (L++[a]).length ((L++[a]).map (Value.int .i64))/\eN base c w w':=by
 obtain⟨o,hi,p,q,s⟩:=info_parts kE;have cc:w.cell? (aq c 0)=some v:=by simp[World.cell?,hc]
 have t:=hide hc;clear hc;have u:c<w.heap.size:=V;go_enter func196,ntmps196;go_wp2_with (at_builtin;refine wpList_append_own _ rfl _ _ 74 rfl base 3 o _ 1 8 Tryz.underlying74 hi p q s rfl aa _ L.length _ rfl (f.alloc _) ⟨w.heap.size,0,none⟩ 1 1 [ah a] rfl rfl ?_ ?_ ?_ ?_ ?_ ?_;(intro j x d;match j,d with|0,d=>(simp at d;subst d;simp[Addr.add]));(intro x l;simp at l;subst l;rfl);(unfold maxLen;omega);omega;(simp;omega);intro g w1 m n _;obtain⟨b1,gb,A⟩:=wn m (Nat.succ_pos _);subst A;have b:=(n.block c (by simp;omega) (wj f i)).trans ((aS _ _ _ u).trans t.out);have E:w1.cell? (aq c 0)=some v:=(by simp[World.cell?,b]);have F:w1.frozen? (aq c 0)=false:=(by simp[World.frozen?,b]);have B:=hide b;clear b)
 go_end0;refine⟨rfl,.slice (ak b1) (L.length+1) gb,?_,?_,?_⟩
 ·have b:=B.out;simp only [World.setCell,Array.getElem?_modify,if_true,b,Option.map_some];simp
 ·have:=ownsRow_setCell_below m (a:=⟨c,0,none⟩) i (.slice (ak b1) (L.length+1) gb)
  simpa using this
 ·refine(eN.of ((aH base w).alloc hB _) bW).trans (eN.trans (eN.of ((aH base _).grown n (by simp;omega) (wm f)) bW) ?_)
  exact⟨rfl,rfl,rfl,by simp[World.setCell],fun k _ C=>aU _ _ _ _ C⟩
theorem wx {p q N O y g:Nat}{ws:List Int}(b s d:Int)(c:Nat)(w:ax)(h:At w p q N O y g ws)(hc:w.heap[c]?=some (.cells #[.slice none 0 0] 74 (0,0)))(n:p≠c)(o:q≠c)
 (u:0<=b)(b1:b<=2000)(u0:0<=d)(U:d<=2000):
 Calls prog 195 #[aj p,.agg #[ah b,ah s,ah d],.func (.func 196) #[] #[aj c]] w fun e w'=>e=.returned (.tuple #[])/\∃v,w'.heap[c]?=some (.cells #[v] 74 (0,0))/\w'.ownsRow w.heap.size 3 1 v (eA N y g ws (b+d) 2000 b).length ((eA N y g ws (b+d) 2000 b).map (Value.int .i64))/\eN w.heap.size c w w':=by
 have lp:=h.eL;have x:=lt_of_some hc;have A:ay (_=_):=hc;clear hc;go_enter func195,ntmps195;go_wp2_with fail
 go_loopw [6] (fun i wr=>∃(a:Int)(L:List Int)(k:Nat)(v:Value),i=ah a/\b<=a/\a<=100000/\b+d-a<=k/\(L.length:Int)+b<=a/\L++eA N y g ws (b+d) k a=eA N y g ws (b+d) 2000 b/\wr.heap[c]?=some (.cells #[v] 74 (0,0))/\wr.ownsRow (w.heap.size+1) 3 1 v L.length (L.map (Value.int .i64))/\eN (w.heap.size+1) c (w.alloc (.cells #[.int .i64 b,.int .i64 s,.int .i64 d] 120)) wr) (fun i _=>(b+d-intOf i).toNat)
 case atStart=>exact⟨b,[],2000,_,rfl,V,V,V,Z,rfl,(aS _ _ _ x).trans A.out,bc _ _ _ _,eN.refl _ _ _⟩
 case round=>
  obtain⟨a,L,k,v,rfl,a1,a2,B,W,l,hc,hown,hS⟩:=hrel;have f:=hS.block w.heap.size V V;rw[aN] at f;have C:wr.cell? (aq w.heap.size 0)=some (ah b):=by simp[World.cell?,f]
  have D:wr.cell? (aq w.heap.size 1)=some (ah s):=by simp[World.cell?,f]
  have E:wr.cell? (aq w.heap.size 2)=some (ah d):=by simp[World.cell?,f]
  have F:_:=(h.alloc _).same (hS.block p V n) (hS.block q (by have:=h.eM;omega) o)
  have hsz:=hS.size;simp only [World.size_alloc] at hsz;have A5:ay (_=_):=l;have CC:ay (_=_):=hc;have X:ay (_=_):=f;clear l hc f;go_wp2_with fail;refine(lP b s d _ u V u0 V).mono ?_;rintro e w1 ⟨rfl,hb1⟩
  clear C D E;by_cases G:a<b+d
  ·go_wp2_with fail;refine(gd a _ (F.below hb1 bW)).mono ?_;rintro e H ⟨rfl,I⟩
   have ed:_:=hb1.trans (I.mono hb1.size)
   by_cases hp:pc (ld N y g ws a)=0
   ·obtain⟨Y,ab⟩:=p3 _ hp;obtain⟨J,rfl,j⟩:=ww (N:=N) (y:=y) (g:=g) (ws:=ws) k B G hp;have K:ay (_=_):=hp;have E1:ay (_=_):=j;clear hp j;rw[K.out];go_wp2_with fail;refine(Cz a c (w.heap.size+1) v L H ((ed.block c (lt_of_some CC.out)).trans CC.out) V (by have:=ed.size;omega) (lQ hown ed) V).mono ?_;rintro e ad ⟨rfl,M,m,Q,R⟩
    have S:ay (_=_):=m;clear m;go_wp2_with fail;go_roundw
    case rel=>exact⟨a+(1+pf (ld N y g ws a)),L++[a],J,M,rfl,V,V,V,by simp;omega,by rw[<-A5.out,E1.out];simp,S.out,Q,(hS.trans (eN.of ed hsz)).trans R⟩
    case measure=>simp[intOf];omega
   ·have t:(pc (ld N y g ws a)!=0)=true:=by simpa using hp
    have j:=wu (N:=N) (y:=y) (g:=g) (ws:=ws) (hi:=b+d) k hp;have E1:ay (_=_):=j;clear hp j;exact v7
  ·go_wp2_with fail;exact v8
theorem CA (a:Int)(c base:Nat)(v:Value)(L:List Int)(w:ax)(hc:w.heap[c]?=some (.cells #[v] 74 (0,0)))(i:c<base)(hB:base<=w.heap.size)
 (f:w.ownsRow base 3 1 v L.length (L.map (Value.int .i64)))(D:L.length<=100000):
 Calls prog 197 #[ah a,aj c] w fun e w'=>e=.returned (.tuple #[])/\∃g,w'.heap[c]?=some (.cells #[g] 74 (0,0))/\w'.ownsRow base 3 1 g (L++[a]).length ((L++[a]).map (Value.int .i64))/\eN base c w w':=by
 obtain⟨o,hi,p,q,s⟩:=info_parts kE;have cc:w.cell? (aq c 0)=some v:=by simp[World.cell?,hc]
 have t:=hide hc;clear hc;have u:c<w.heap.size:=V;go_enter func197,ntmps197;go_wp2_with (at_builtin;refine wpList_append_own _ rfl _ _ 74 rfl base 3 o (ah 0) 1 8 Tryz.underlying74 hi p q s rfl aa _ L.length (L.map (Value.int .i64)) rfl (f.alloc _) ⟨w.heap.size,0,none⟩ 1 1 [ah a] rfl rfl ?_ ?_ ?_ ?_ ?_ ?_;(intro j x d;match j,d with|0,d=>(simp at d;subst d;simp[Addr.add]));(intro x l;simp at l;subst l;rfl);(unfold maxLen;omega);omega;(simp;omega);intro g w1 m n _;obtain⟨b1,gb,A⟩:=wn m (Nat.succ_pos _);subst A;have b:=(n.block c (by simp;omega) (wj f i)).trans ((aS _ _ _ u).trans t.out);have E:w1.cell? (aq c 0)=some v:=(by simp[World.cell?,b]);have F:w1.frozen? (aq c 0)=false:=(by simp[World.frozen?,b]);have B:=hide b;clear b)
 go_end0;refine⟨rfl,.slice (ak b1) (L.length+1) gb,?_,?_,?_⟩
 ·have b:=B.out;simp only [World.setCell,Array.getElem?_modify,if_true,b,Option.map_some];simp
 ·have:=ownsRow_setCell_below m (a:=⟨c,0,none⟩) i (.slice (ak b1) (L.length+1) gb)
  simpa using this
 ·refine(eN.of ((aH base w).alloc hB _) bW).trans (eN.trans (eN.of ((aH base _).grown n (by simp;omega) (wm f)) bW) ?_)
  exact⟨rfl,rfl,rfl,by simp[World.setCell],fun k _ C=>aU _ _ _ _ C⟩
theorem wy {p q N O y g:Nat}{ws:List Int}(b s d:Int)(c:Nat)(w:ax)(h:At w p q N O y g ws)(hc:w.heap[c]?=some (.cells #[.slice none 0 0] 74 (0,0)))(l:p≠c)(m:q≠c)
 (n:0<=b)(b1:b<=2000)(u0:0<=d)(M:d<=2000):
 Calls prog 195 #[aj p,.agg #[ah b,ah s,ah d],.func (.func 197) #[] #[aj c]] w fun e w'=>e=.returned (.tuple #[])/\∃v,w'.heap[c]?=some (.cells #[v] 74 (0,0))/\w'.ownsRow w.heap.size 3 1 v (eA N y g ws (b+d) 2000 b).length ((eA N y g ws (b+d) 2000 b).map (Value.int .i64))/\eN w.heap.size c w w':=by
 have lp:=h.eL;have o:=lt_of_some hc;have t:=hide hc;clear hc;go_enter func195,ntmps195;go_wp2_with fail
 go_loopw [6] (fun i wr=>∃(a:Int)(L:List Int)(k:Nat)(v:Value),i=ah a/\b<=a/\a<=100000/\b+d-a<=k/\(L.length:Int)+b<=a/\L++eA N y g ws (b+d) k a=eA N y g ws (b+d) 2000 b/\wr.heap[c]?=some (.cells #[v] 74 (0,0))/\wr.ownsRow (w.heap.size+1) 3 1 v L.length (L.map (Value.int .i64))/\eN (w.heap.size+1) c (w.alloc (.cells #[.int .i64 b,.int .i64 s,.int .i64 d] 120)) wr) (fun i _=>(b+d-intOf i).toNat)
 exact⟨b,[],2000,_,rfl,V,V,V,Z,rfl,(aS _ _ _ o).trans t.out,bc _ _ _ _,eN.refl _ _ _⟩
 ·
   obtain⟨a,L,k,v,rfl,a1,a2,u,Q,x,hc,hown,hS⟩:=hrel;have f:=hS.block w.heap.size V V;rw[aN] at f;have R:wr.cell? (aq w.heap.size 0)=some (ah b):=by simp[World.cell?,f]
   have S:wr.cell? (aq w.heap.size 1)=some (ah s):=by simp[World.cell?,f]
   have U:wr.cell? (aq w.heap.size 2)=some (ah d):=by simp[World.cell?,f]
   have A:=(h.alloc _).same (hS.block p V l) (hS.block q (by have:=h.eM;omega) m)
   have hsz:=hS.size;simp only [World.size_alloc] at hsz;have A5:=hide x;have CC:=hide hc;go_wp2_with fail;refine(lP b s d _ n V u0 V).mono ?_;rintro e w1 ⟨rfl,hb1⟩
   by_cases B:a<b+d
   ·go_wp2_with fail;refine(gd a _ (A.below hb1 bW)).mono ?_;rintro e C ⟨rfl,D⟩
    have ed:=hb1.trans (D.mono hb1.size)
    by_cases hp:pc (ld N y g ws a)=0
    ·obtain⟨W,X⟩:=p3 _ hp;obtain⟨E,rfl,j⟩:=ww (N:=N) (y:=y) (g:=g) (ws:=ws) k u B hp;have F:=hide hp;have E1:=hide j;rw[F.out];go_wp2_with fail;refine(CA a c (w.heap.size+1) v L C ((ed.block c (lt_of_some CC.out)).trans CC.out) V (by have:=ed.size;omega) (lQ hown ed) V).mono ?_;rintro e Y ⟨rfl,G,H,I,J⟩
     have K:=hide H;go_wp2_with fail;go_roundw;exact⟨a+(1+pf (ld N y g ws a)),L++[a],E,G,rfl,V,V,V,by simp;omega,by rw[<-A5.out,E1.out];simp,K.out,I,(hS.trans (eN.of ed hsz)).trans J⟩
     simp[intOf];omega
    ·have j:=wu (N:=N) (y:=y) (g:=g) (ws:=ws) (hi:=b+d) k hp;have E1:=hide j;exact v7
   ·go_wp2_with fail;exact v8
def ei (N y g:Nat)(ws:List Int):List Int:=eA N y g ws y 2000 0
def dD (N y g:Nat)(ws:List Int):List Int:=eA N y g ws ((N:Int)+g) 2000 N
theorem p4 {p q N O y g:Nat}{ws:List Int}(w:ax)(h:At w p q N O y g ws):
 Calls prog 129 #[aj p] w fun e w'=>∃v1 v2,e=.returned (.tuple #[v1,v2])/\w'.ownsRow w.heap.size 3 1 v1 (ei N y g ws).length ((ei N y g ws).map (Value.int .i64))/\w'.ownsRow w.heap.size 3 1 v2 (dD N y g ws).length ((dD N y g ws).map (Value.int .i64))/\aw w w':=by
 obtain⟨c0,c1,c2,c3,c4,c5,f⟩:=h.cells;have lp:=h.eL;have u:=h.eM;have k1:=h.hN';have v:=h.hy;have x:=h.hO;have A:=h.hg;go_enter func129,ntmps129;go_wp2_with fail;refine(wx 0 N y w.heap.size _ ((h.alloc _).alloc _) ((aS _ _ _ Z).trans (aN _ _)) V V V V V V).mono ?_;rintro e w1 ⟨rfl,v1,i,j,b⟩
 have k:=((h.alloc _).alloc _).same (b.block p (by simp;omega) V) (b.block q (by simp;omega) V)
 have c:=(b.block (w.heap.size+1) Z V).trans (se _ Z)
 have m:=hide i;have n:=hide c;have o:=b.size;simp only [World.size_alloc] at o;clear i c c0 c1 c2 c3 c4 c5 f;obtain⟨c0,c1,c2,c3,c4,c5,f⟩:=k.cells;go_wp2_with fail;refine(wy N O g (w.heap.size+1) _ k n.out V V V V V V).mono ?_;rintro e l ⟨rfl,v2,c,s,d⟩
 have B:l.cell? (aq w.heap.size 0)=some v1:=by have:=(d.block w.heap.size V V).trans m.out;simp[World.cell?,this]
 have C:l.cell? (aq (w.heap.size+1) 0)=some v2:=by simp[World.cell?,c]
 have D:=d.size;clear c;go_wp2
 go_quiet (fail)
 go_wp2;go_ret2;simp only [World.size_alloc] at j b;have t:ei N y g ws=eA N y g ws (0+(y:Int)) 2000 0:=by rw[Int.zero_add];rfl
 refine⟨v1,v2,rfl,?_,?_,?_⟩
 ·rw[t];exact lQ (nT (base:=w.heap.size+1+1) (wi j d bW V) V) (below_drewN bX _)
 ·exact lQ (nT s V) (below_drewN bX _)
 ·exact below_drewN (((bX.alloc bW _).alloc Z _).trans ((b.below V bW).trans (d.below V V))) _
open Go.RowKit W Kp cf
theorem Ln.at {w:ax}{ad:Option Addr}{c:List _}(h:Ln w ad c){i:Nat}(hi:i<c.length):∃b o f fc,ad=some ⟨b,o,none⟩/\b<w.heap.size/\w.cell? (aq b (o+i*2))=some (ah (c.getD i (0,[])).1)/\w.cell? (aq b (o+i*2+1))=some (.slice f (c.getD i (0,[])).2.length fc)/\dv w f (c.getD i (0,[])).2:=by
 obtain⟨m,g,j,k⟩:=h;have hl:m.length=c.length:=by rw[<-g];simp[hY]
 obtain⟨b,o,e,hb,hc⟩:=k V;obtain⟨x,d⟩:∃x,m[i]?=some x:=⟨_,aL V⟩
 have en:c.getD i (0,[])=(x.1,x.2.2.2):=by subst g;rw[aE,hY,List.getElem?_map,d];rfl
 rw[en];exact⟨b,o,_,_,e,hb,(hc i _ d).1,(hc i _ d).2,j _ (List.mem_of_getElem? d)⟩
end Go.Proofs.YtpkjkjhanlbcoaaGreat
