import Derived.Test.YtpkjkjhanlbcoaaGreatJ24
namespace Go.Proofs.YtpkjkjhanlbcoaaGreat
set_option maxRecDepth 100000
set_option maxHeartbeats 4000000
open Tryz
open Go.RowKit W
theorem AR {P:Prop}(h:P:=by
 generalize hxb:w.heap.size=xb at*;refine PC.mono ?_;rintro e w1 ⟨rfl,hb1⟩
 have hbt:Below w.heap.size w w1:=by rw[hxb];exact HJ.o.2.1.trans (hb1.mono (by have:=lt_of_some HJ.o.2.2;omega))
 obtain⟨q0,q1,q2,q3,q4,q5⟩:=fX ((hb1.block xb (lt_of_some HJ.o.2.2)).trans HJ.o.2.2)
 have J1:=(cv a hp).below HJ.o.1 hbt;obtain⟨h0,_⟩:=eI J1;have P:=AS.o F w1 J1;have HT:ay (ce F w F w1):=ce.of hbt;go_wp2_with fail;refine P.mono ?_;rintro e w2 ⟨F2,rfl,uB,T2⟩
 have HF:=dq uB (HT.o.trans T2)
 go_wp2_with fail;go_ret;exact⟨F2,rfl,HF.o.1,HF.o.2⟩):P:=h
theorem AT {P:Prop}(h:P:=by
 have hr:=hM.rt;refine⟨fun _=>⟨a.nb,0,rfl,lt_of_some hr,fun i hi=>?_⟩,fun _=>⟨a.nb,0,_,rfl,hr⟩⟩
 rw[Nat.zero_add];exact(AU i (by rw[<-rl];exact hi)).1):P:=h
theorem IE (c:Nat)(hc:c<=12)(w:aw):Calls prog 223 #[.int .u64 1,.int .u64 c] w fun e w'=>e=.returned (.tuple #[.int .u64 0,.int .u64 c])/\w'=w:=by
 rcases(show c=0\/c=1\/c=2\/c=3\/c=4\/c=5\/c=6\/c=7\/c=8\/c=9\/c=10\/c=11\/c=12 by omega) with rfl|rfl|rfl|rfl|rfl|rfl|rfl|rfl|rfl|rfl|rfl|rfl|rfl<;>
 (go_enter func223,ntmps223
  go_wp2_with fail;go_ret2;exact⟨rfl,rfl⟩)
theorem AV (c:Nat)(hc:c<=12)(w:aw):Calls prog 167 #[.int .u64 1,.int .u64 c] w fun e w'=>e=.returned (.tuple #[.int .u64 0,.int .u64 c])/\w'=w:=by
 have P:=IE c hc w;go_enter func167,ntmps167;go_wp2_with fail;refine P.mono ?_;rintro e w1 ⟨rfl,hw⟩
 have hw:=hw.symm;subst hw;go_wp2_with fail;go_ret2;exact⟨rfl,rfl⟩
def fP (c:Nat)(v:Int)(n:Nat):List Int:=List.replicate n v++List.replicate (c-n) 0
theorem uF (c:Nat)(v:Int)(n:Nat)(h:n<=c):(fP c v n).length=c:=by simp[fP];omega
theorem IF (c:Nat)(v:Int)(n m:Nat)(h:n+m<=c):splice (fP c v n) n (List.replicate m v)=fP c v (n+m):=by unfold splice fP;rw[List.take_left' ac,bB,List.drop_append,bB];simp only [List.drop_replicate];rw[show n-(n+m)=0 by omega,show c-n-(n+m-n)=c-(n+m) by omega];simp;rw[<-bj,List.replicate_append_replicate]
theorem IG (c:Nat)(v:Int)(n i:Nat)(h:i<n):(fP c v n).getD i 0=v:=by unfold fP;rw[aG,List.getElem?_append_left (by simpa using h)];simp[h]
theorem IH {c:Nat}{w:aw}{nb n:Nat}{v:Int}(b:w.heap[nb]?=some (.cells ((fP c v n).map (Value.int .i64)).toArray 3 (0,0)))(d:n<=c)(m:Nat)(hm:m<=n):∀j u,((List.replicate m v).map (Value.int .i64))[j]?=some u->w.cell? ((⟨nb,0,none⟩:Addr).add j)=some u:=by
 intro j u hj;have e:j<m:=by exact oJ
 have f:u=ak v:=by simp[e] at hj;exact hj.symm
 have hl:=uF c v n d;have hg:=IG c v n j aa;rw[aG,aI (by omega:j<(fP c v n).length)] at hg;simp at hg;have ea:(⟨nb,0,none⟩:Addr).add j=⟨nb,j,none⟩:=by simp[Addr.add];intro h;exact h.symm
 rw[ea,f];have g:j<(fP c v n).length:=aa;simp[World.cell?,b,List.getElem?_eq_getElem g];exact hg
theorem AW {c:Nat}{w w':aw}{nb n m B:Nat}{v:Int}(b:ni w w' nb ((fP c v n).map (Value.int .i64)) n ((List.replicate m v).map (Value.int .i64)))(d:w.heap[nb]?=some (.cells ((fP c v n).map (Value.int .i64)).toArray 3 (0,0)))(hm:0<m)(h:n+m<=c)(hB:B<=nb):w'.heap[nb]?=some (.cells ((fP c v (n+m)).map (Value.int .i64)).toArray 3 (0,0))/\Below B w w':=by
 rcases b with⟨h0,_⟩|rfl
 ·have:=congrArg List.length h0;simp at this
  omega
 ·rw[rY,IF c v n m h];exact⟨setRow_heap w nb _ _ _ _ d,⟨rfl,rfl,rfl,by simp[World.setRow],fun k hk=>setRow_other w nb k _ aa⟩⟩
theorem AX:(prog.info? 3).map (fun i=>(i.zero,i.size,i.bytes))=some (some (ak 0),1,8):=ah
theorem uG:(prog.info? 3).map (·.size)=some 1:=ah
theorem AY {w:aw}{b k n:Nat}(h:w.ownsRow b 3 1 (.slice (an k) n n) n (madeCells (Value.int .i64 0).cells (n*1)).toList):
 w.heap[k]?=some (.cells ((List.replicate n (0:Int)).map (Value.int .i64)).toArray 3 (0,0)):=by
 exact vH
theorem II (w:aw)(b c:Nat)(v:Int)(h0:0<c)(aB:c<=12)(hc:w.cell? (ao b 0)=some (ak v)):
 Calls prog 124 #[.slice (an b) 1 1,ak c] w fun e w'=>∃nb,e=.returned (.slice (an nb) c c)/\w.heap.size<=nb/\w'.heap[nb]?=some (.cells ((List.replicate c v).map (Value.int .i64)).toArray 3 (0,0))/\Below w.heap.size w w':=by
 obtain⟨s,hi,aF,aR,aT⟩:=info_parts AX;have lb:=aM w _ hc;dsimp only at lb;have t:=AV c aB w;have aV:ay (fP c v c=List.replicate c v):=by show _=_;simp[fP]
 have c0:(0:Int)<(c:Int):=aa;have c1:(c:Int)<=12:=aa;go_enter func124,ntmps124;go_wp2_with fail;refine t.mono ?_;clear t;rintro e w0 ⟨rfl,hw⟩
 have hw:=hw.symm;subst hw
 go_upto_region 7 with(at_make;refine wpList_make_full _ rfl _ _ 74 rfl w.heap.size 3 s (ak 0) 1 underlying74 hi aF aR .i64 .i64 _ _ c rfl rfl aa aa (by rw[aT];omega) (by unfold maxLen;omega) bY ?_;intro w1 x F)
 have N:w1.heap[w.heap.size]?=some (.cells ((fP c v 0).map (Value.int .i64)).toArray 3 (0,0)):=by have a0:=AY x;simpa[fP] using a0
 have k:Below w.heap.size w w1:=(aE _ w).grown F bY (fun _ h=>by cases h)
 have S:=(k.cell (p:=ao b 0) lb).trans hc;clear x F;have d:ay (∀j u,((List.replicate 1 v).map (Value.int .i64))[j]?=some u->w1.cell? ((⟨b,0,none⟩:Addr).add j)=some u):=one_cell S;have l:ay (w1.heap[w.heap.size]?=some (.cells ((fP c v 0).map (Value.int .i64)).toArray 3 (0,0))):=N;have f:ay (((List.replicate 1 v).map (Value.int .i64)).length=Nat.min 1 c):=by show _=_;simp only [List.length_map,List.length_replicate,Nat.min_def];split<;>omega
 have g:ay (0+((List.replicate 1 v).map (Value.int .i64)).length<=((fP c v 0).map (Value.int .i64)).length):=by show _<=_;rw[aU,aU,uF c v 0 aa];simp;omega
 clear S N;go_wp2_with (refine tZ rfl _ _ 74 74 3 rfl underlying74 uG (an w.heap.size) (an b) c c 1 1 rfl rfl w.heap.size 0 ((fP c v 0).map (Value.int .i64)) 3 l.o ((List.replicate 1 v).map (Value.int .i64)) f.o (fun _=>⟨rfl,_,rfl,d.o⟩) g.o (oo _) ?_;intro bd W)
 obtain⟨ab,ad⟩:=AW (B:=w.heap.size) W l.o aa aa bY
 have ag:=k.trans ad;clear W d l f g k ad
 go_loopw [8] (fun nv wr=>∃n:Nat,1<=n/\n<=c/\nv=ak n/\ay (wr.heap[w.heap.size]?=some (.cells ((fP c v n).map (Value.int .i64)).toArray 3 (0,0)))/\Below w.heap.size w wr) (fun nv _=>c-(intOf nv).toNat)
 case atStart=>exact⟨1,aD _,aa,rfl,ab,ag⟩
 case round=>
  clear ab ag;obtain⟨n,n1,ai,rfl,o,hb⟩:=hrel;by_cases be:n<c
  ·obtain⟨m,hm,a1,q,a2⟩:∃m,m=Nat.min n (c-n)/\0<m/\n+m<=c/\m<=n:=⟨_,rfl,by simp only [Nat.min_def];split<;>omega,by simp only [Nat.min_def];split<;>omega,by simp only [Nat.min_def];split<;>omega⟩
   have i:ay (wr.drew.heap[w.heap.size]?=some (.cells ((fP c v n).map (Value.int .i64)).toArray 3 (0,0))):=o.o;have d:ay (∀j u,((List.replicate m v).map (Value.int .i64))[j]?=some u->wr.drew.cell? ((⟨w.heap.size,0,none⟩:Addr).add j)=some u):=IH i.o ai m a2;have f:ay (((List.replicate m v).map (Value.int .i64)).length=Nat.min n (c-n)):=by show _=_;rw[<-hm];simp
   have g:ay (n+((List.replicate m v).map (Value.int .i64)).length<=((fP c v n).map (Value.int .i64)).length):=by show _<=_;rw[aU,aU,uF c v n ai];simpa using q
   have bg:¬c=n:=aa;have s:(0:Int)<=(n:Int):=aa;have bi:(n:Int)<=(c:Int):=aa;have bl:(n:Int)<(c:Int):=aa;clear o;go_wp2_with fail
   go_region_law (refine pV rfl (.tmp 41) (.tmp 44) 74 74 3 rfl underlying74 uG (some ⟨w.heap.size,n,none⟩) (an w.heap.size) (c-n) (c-n) n c ?_ ?_ w.heap.size n ((fP c v n).map (Value.int .i64)) 3 i.o ((List.replicate m v).map (Value.int .i64)) f.o (fun _=>⟨rfl,_,rfl,d.o⟩) g.o (oo _) ?_;(simp[Act.eval,Act.put]);(simp[Act.eval,Act.put]);intro w3 al)
   obtain⟨ap,ar⟩:=AW (B:=w.heap.size) al i.o a1 q bY
   have a3:ay (w3.heap[w.heap.size]?=some (.cells ((fP c v (n+m)).map (Value.int .i64)).toArray 3 (0,0))):=ap;have bb:=hb.drew.trans ar;have hw:IntKind.i64.wrap ((n:Int)+(m:Int))=((n+m:Nat):Int):=by rw[bw];omega
   clear ap ar al i d f g hb;simp[Act.put,go_sem,Exit.inBlock];rw[<-hm,hw];refine⟨⟨_,_,_,_,_,_,_,_,_,_,_,_,_,_,?rel,rfl⟩,?measure⟩
   case rel=>exact⟨n+m,aa,q,rfl,a3,bb⟩
   case measure=>simp[intOf];omega
  ·obtain rfl:n=c:=aa;have ax:=o.o;rw[aV.o] at ax;go_wp2_with fail;go_ret;exact⟨w.heap.size,rfl,aD _,ax,hb⟩
theorem IJ (w:aw)(b:Nat)(v:Int):
 Calls prog 124 #[.slice (an b) 1 1,ak 0] w fun e w'=>∃nb,e=.returned (.slice (an nb) 0 0)/\Below w.heap.size w w':=by
 obtain⟨m,hi,n,o,p⟩:=info_parts AX;have d:=AV 0 aa w;go_enter func124,ntmps124;go_wp2_with fail;refine d.mono ?_;clear d;rintro e w0 ⟨rfl,hw⟩
 have hw:=hw.symm;subst hw
 go_upto_region 7 with(at_make;refine wpList_make_full _ rfl _ _ 74 rfl w.heap.size 3 m (ak 0) 1 underlying74 hi n o .i64 .i64 _ _ 0 rfl rfl aa aa (by rw[p];omega) (by unfold maxLen;omega) bY ?_;intro w1 f g)
 have c:Below w.heap.size w w1:=(aE _ w).grown g bY (fun _ h=>by cases h)
 have i:ay (w1.heap[w.heap.size]?=some (.cells ((fP 0 v 0).map (Value.int .i64)).toArray 3 (0,0))):=by have q:=AY f;show _=_;simpa[fP] using q
 clear f g;go_wp2_with (refine tZ rfl _ _ 74 74 3 rfl underlying74 uG (an w.heap.size) (an b) 0 0 1 1 rfl rfl w.heap.size 0 ((fP 0 v 0).map (Value.int .i64)) 3 i.o [] rfl (fun h=>absurd h ae) ac (fun _ h=>by cases h) ?_;intro s j)
 have l:Below w.heap.size w s:=by
  rcases j with⟨_,e⟩|e
  ·rw[e];exact c
  ·rw[e];exact c.trans ⟨rfl,rfl,rfl,by simp[World.setRow],fun k hk=>setRow_other w1 w.heap.size k _ aa⟩
 clear j i c
 go_loopw [8] (fun nv wr=>nv=ak 0/\Below w.heap.size w wr) (fun _ _=>0)
 case atStart=>exact⟨rfl,l⟩
 case round=>
  clear l;obtain⟨rfl,hb⟩:=hrel;go_wp2_with fail;go_ret;exact⟨w.heap.size,rfl,hb⟩
open Go.RowKit W Kp ch
theorem IK (a:Wc)(S:co)(x:Int):(S.pop a x).2.2.s.rs=S.s.rs:=by
 unfold co.pop;split
 ·split<;>rfl
 ·rfl
theorem IL (a:Wc)(S:co)(t g:Int):(S.reg a t g).2.s.rs=S.s.rs:=by
 unfold co.reg;split
 ·split
  ·split<;>rfl
  ·rfl
 ·rfl
section
variable {a:Wc}{hp:Nat}{F:Nat->Prop}{S:co}{w:aw}
theorem IM (h:(cv a hp).J F S w)(R I n:Int)(A B:Nat)(f:A<12)(hB:B<12)(hq:S.q.length+S.r.length<=90000)(j:S.fI a=false->∃G,ir (S.k5 a) (S.dI a) G/\G 0 (S.k5 a,0))(room:(S.room a 3).1=0->(S.room a 3).2.s.y+3<=a.N):
 Calls prog 57 #[am hp,fz 4 R A B I n] w fun e w'=>∃c,e=.returned (.tuple #[ak (S.b8 a 1 [A,B]).1,ak (S.b8 a 1 [A,B]).2.1])/\(cv a hp).J c (S.b8 a 1 [A,B]).2.2 w'/\ce F w c w':=by
 have d:=(aq w (cO 4 R A B I n)).alloc ac (.cells #[.int .i64 (A:Int),.int .i64 (B:Int)] 3)
 have b:=aN (w.alloc (cO 4 R A B I n)) (.cells #[.int .i64 (A:Int),.int .i64 (B:Int)] 3)
 have k:(w.alloc (cO 4 R A B I n)).heap.size=w.heap.size+1:=ac;rw[k] at b;have P:=pF ((cv a hp).below h d) 1 [A,B] (an (w.heap.size+1)) 2 hq j rfl (fun _=>⟨w.heap.size+1,rfl,fun l=>by have:=(cv a hp).lt h _ l;omega,lt_of_some b,fun i hi=>by
  have hi:i<2:=hi;rcases(show i=0\/i=1 by omega) with rfl|rfl<;>simp only [World.cell?,b]<;>rfl⟩) (fun i hi=>by
  have hi:i<2:=hi;rcases(show i=0\/i=1 by omega) with rfl|rfl
  ·exact f
  ·exact hB) room
 have HB:=hide d;generalize S.b8 a 1 [A,B]=g at*;obtain⟨v,cd,m⟩:=g;exact pD
theorem IN (h:(cv a hp).J F S w)(R I n:Int)(A B:Nat)(f:A<12)(hB:B<12)(hq:S.q.length+S.r.length<=90000)(j:S.fI a=false->∃G,ir (S.k5 a) (S.dI a) G/\G 0 (S.k5 a,0))(room:(S.room a 3).1=0->(S.room a 3).2.s.y+3<=a.N):
 Calls prog 57 #[am hp,fz 6 R A B I n] w fun e w'=>∃c,e=.returned (.tuple #[ak (S.b8 a 3 [A,B]).1,ak (S.b8 a 3 [A,B]).2.1])/\(cv a hp).J c (S.b8 a 3 [A,B]).2.2 w'/\ce F w c w':=by
 have d:=(aq w (cO 6 R A B I n)).alloc ac (.cells #[.int .i64 (A:Int),.int .i64 (B:Int)] 3)
 have b:=aN (w.alloc (cO 6 R A B I n)) (.cells #[.int .i64 (A:Int),.int .i64 (B:Int)] 3)
 have k:(w.alloc (cO 6 R A B I n)).heap.size=w.heap.size+1:=ac;rw[k] at b;have P:=pF ((cv a hp).below h d) 3 [A,B] (an (w.heap.size+1)) 2 hq j rfl (fun _=>⟨w.heap.size+1,rfl,fun l=>by have:=(cv a hp).lt h _ l;omega,lt_of_some b,fun i hi=>by
  have hi:i<2:=hi;rcases(show i=0\/i=1 by omega) with rfl|rfl<;>simp only [World.cell?,b]<;>rfl⟩) (fun i hi=>by
  have hi:i<2:=hi;rcases(show i=0\/i=1 by omega) with rfl|rfl
  ·exact f
  ·exact hB) room
 have HB:=hide d;generalize S.b8 a 3 [A,B]=g at*;obtain⟨v,cd,m⟩:=g;exact pD
theorem IP (h:(cv a hp).J F S w)(R I n:Int)(A B:Nat)(f:A<12)(hB:B<12)(hq:S.q.length+S.r.length<=90000)(j:S.fI a=false->∃G,ir (S.k5 a) (S.dI a) G/\G 0 (S.k5 a,0))(room:(S.room a 3).1=0->(S.room a 3).2.s.y+3<=a.N):
 Calls prog 57 #[am hp,fz 7 R A B I n] w fun e w'=>∃c,e=.returned (.tuple #[ak (S.b8 a 4 [A,B]).1,ak (S.b8 a 4 [A,B]).2.1])/\(cv a hp).J c (S.b8 a 4 [A,B]).2.2 w'/\ce F w c w':=by
 have d:=(aq w (cO 7 R A B I n)).alloc ac (.cells #[.int .i64 (A:Int),.int .i64 (B:Int)] 3)
 have b:=aN (w.alloc (cO 7 R A B I n)) (.cells #[.int .i64 (A:Int),.int .i64 (B:Int)] 3)
 have k:(w.alloc (cO 7 R A B I n)).heap.size=w.heap.size+1:=ac;rw[k] at b;have P:=pF ((cv a hp).below h d) 4 [A,B] (an (w.heap.size+1)) 2 hq j rfl (fun _=>⟨w.heap.size+1,rfl,fun l=>by have:=(cv a hp).lt h _ l;omega,lt_of_some b,fun i hi=>by
  have hi:i<2:=hi;rcases(show i=0\/i=1 by omega) with rfl|rfl<;>simp only [World.cell?,b]<;>rfl⟩) (fun i hi=>by
  have hi:i<2:=hi;rcases(show i=0\/i=1 by omega) with rfl|rfl
  ·exact f
  ·exact hB) room
 have HB:=hide d;generalize S.b8 a 4 [A,B]=g at*;obtain⟨v,cd,m⟩:=g;exact pD
theorem IQ (h:(cv a hp).J F S w)(R A B I n:Int)(hq:S.q.length+S.r.length<=90000)(d:S.fI a=false->∃G,ir (S.k5 a) (S.dI a) G/\G 0 (S.k5 a,0))(room:(S.room a 1).1=0->(S.room a 1).2.s.y+1<=a.N):
 Calls prog 57 #[am hp,fz 8 R A B I n] w fun e w'=>∃b,e=.returned (.tuple #[ak (S.b8 a 5 []).1,ak (S.b8 a 5 []).2.1])/\(cv a hp).J b (S.b8 a 5 []).2.2 w'/\ce F w b w':=by
 have c:=aq w (cO 8 R A B I n)
 have P:=pF ((cv a hp).below h c) 5 [] none 0 hq d rfl (fun f=>absurd f ac) (fun i hi=>absurd hi ac) room;have HB:=hide c;exact pD
theorem IR (h:(cv a hp).J F S w)(R B I:Int)(A n:Nat)(o:A<12)(p:n<=12)(hq:S.q.length+S.r.length<=90000)(q:S.fI a=false->∃G,ir (S.k5 a) (S.dI a) G/\G 0 (S.k5 a,0))(room:(S.room a (1+n)).1=0->(S.room a (1+n)).2.s.y+1+n<=a.N):
 Calls prog 57 #[am hp,fz 5 R A B I n] w fun e w'=>∃b,e=.returned (.tuple #[ak (S.b8 a 2 (List.replicate n A)).1,ak (S.b8 a 2 (List.replicate n A)).2.1])/\(cv a hp).J b (S.b8 a 2 (List.replicate n A)).2.2 w'/\ce F w b w':=by
 have f:=(aq w (cO 5 R A B I n)).alloc ac (.cells #[.int .i64 (A:Int)] 3)
 have l:=aN (w.alloc (cO 5 R A B I n)) (.cells #[.int .i64 (A:Int)] 3)
 have s:(w.alloc (cO 5 R A B I n)).heap.size=w.heap.size+1:=ac;rw[s] at l;have hl:(List.replicate n A).length=n:=bB;have hk:hc 2 (List.replicate n A).length=0:=by rw[hl];rcases(show n=0\/n=1\/n=2\/n=3\/n=4\/n=5\/n=6\/n=7\/n=8\/n=9\/n=10\/n=11\/n=12 by omega) with e|e|e|e|e|e|e|e|e|e|e|e|e<;>(rw[e];rfl)
 have ai:=(cv a hp).below h f;have u:((w.alloc (cO 5 R A B I n)).alloc (.cells #[.int .i64 (A:Int)] 3)).cell? (ao (w.heap.size+1) 0)=some (ak (A:Int)):=by simp only [World.cell?,l];rfl
 have x:Calls prog 124 #[.slice (an (w.heap.size+1)) 1 1,ak n] ((w.alloc (cO 5 R A B I n)).alloc (.cells #[.int .i64 (A:Int)] 3)) fun e w'=>∃nb,e=.returned (.slice (an nb) n n)/\(0<n->w.heap.size+2<=nb/\w'.heap[nb]?=some (.cells ((List.replicate n (A:Int)).map (Value.int .i64)).toArray 3 (0,0)))/\Below w.heap.size w w':=by
  by_cases h0:0<n
  ·refine(II _ (w.heap.size+1) n A h0 p u).mono ?_;rintro e w' ⟨nb,rfl,g1,g2,g3⟩
   simp at g1;exact⟨nb,rfl,fun _=>⟨aa,g2⟩,f.trans (g3.mono (by simp;omega))⟩
  ·obtain rfl:n=0:=aa;refine(IJ _ (w.heap.size+1) A).mono ?_;rintro e w' ⟨nb,rfl,g3⟩
   exact⟨nb,rfl,fun c=>absurd c aa,f.trans (g3.mono (by simp;omega))⟩
 have N:∀d nb,Below w.heap.size w d->(0<n->w.heap.size+2<=nb/\d.heap[nb]?=some (.cells ((List.replicate n (A:Int)).map (Value.int .i64)).toArray 3 (0,0)))->Calls prog 123 #[am hp,ak 2,.slice (an nb) n n] d fun e w'=>∃b,e=.returned (.tuple #[ak (S.b8 a 2 (List.replicate n A)).1,ak (S.b8 a 2 (List.replicate n A)).2.1])/\(cv a hp).J b (S.b8 a 2 (List.replicate n A)).2.2 w'/\ce F w b w':=fun d nb hb k=>by
  have P:=pF ((cv a hp).below h hb) 2 (List.replicate n A) (an nb) n hq q hk (fun c=>by
   rw[hl] at c;obtain⟨g1,g2⟩:=k c;refine⟨nb,rfl,fun c=>by have:=(cv a hp).lt h _ c;omega,lt_of_some g2,fun i hi=>?_⟩
   rw[hl] at hi;have e:(List.replicate n A).getD i 0=A:=by rw[aG,List.getElem?_replicate_of_lt hi];rfl
   rw[e];simp[World.cell?,g2,hi]) (fun i hi=>by
   rw[hl] at hi;rw[aG,List.getElem?_replicate_of_lt hi];exact o) (by rw[hl];exact room)
  rw[hl] at P;refine P.mono ?_;rintro e w' ⟨b,rfl,j,t⟩
  exact⟨b,rfl,j,(ce.of hb).trans t⟩
 have W:=hide N;generalize S.b8 a 2 (List.replicate n A)=g at*;obtain⟨v,cd,al⟩:=g;go_enter func57,ntmps57;go_wp2_with fail;refine x.mono ?_;rintro e d ⟨nb,rfl,k,hb⟩
 have P:=W.o d nb hb k;go_wp2_with fail;refine P.mono ?_;rintro e w3 ⟨ab,rfl,ad,ag⟩
 have m:=dq ad ag;go_wp2_with fail;go_ret2;exact⟨ab,rfl,m.o.1,m.o.2⟩
theorem IS (h:(cv a hp).J F S w)(R B I n:Int)(A:Nat)(f:A<12):
 Calls prog 57 #[am hp,fz 3 R A B I n] w fun e w'=>e=.returned (.tuple #[ak (S.s.rs.getD A 0),ak 0])/\Below w.heap.size w w':=by
 have b:=aq w (cO 3 R A B I n)
 have c:=aN w (.cells #[.int .i64 3,.int .i64 R,.int .i64 (A:Int),.int .i64 B,.int .i64 I,.int .i64 n] 44)
 have d:=(cv a hp).below h b;obtain⟨h0,c0,c3,rt,_⟩:=eI d;obtain⟨r1,_⟩:=rt A f;skip;obtain⟨q0,q1,j,q3,k,l⟩:=fX c;have fx:¬F w.heap.size:=fun g=>by have:=(cv a hp).lt h _ g;omega
 have i:=hide b;clear h d rt b c fx;generalize S.s.rs.getD A 0=x at*;go_enter func57,ntmps57
 go_upto_region 6 with fail
 go_quiet (fail)
 go_wp2_with fail;go_ret2;exact⟨rfl,below_drewN i.o _⟩
theorem IT (h:(cv a hp).J F S w)(R B I n:Int)(A:Nat)(q:A<12)(hq:S.q.length<=90000):
 Calls prog 57 #[am hp,fz 10 R A B I n] w fun e w'=>∃b,e=.returned (.tuple #[ak (S.pop a (S.s.rs.getD A 0)).1,ak (S.pop a (S.s.rs.getD A 0)).2.1])/\(cv a hp).J b (S.pop a (S.s.rs.getD A 0)).2.2 w'/\ce F w b w':=by
 have c:=aq w (cO 10 R A B I n)
 have d:=aN w (.cells #[.int .i64 10,.int .i64 R,.int .i64 (A:Int),.int .i64 B,.int .i64 I,.int .i64 n] 44)
 have k:=(cv a hp).below h c;obtain⟨h0,c0,c3,rt,_⟩:=eI k;obtain⟨r1,_⟩:=rt A q;have l:=(cv a hp).below k (aE _ (w.alloc (cO 10 R A B I n))).drew;have s:=Iu l (S.s.rs.getD A 0) hq;obtain⟨q0,q1,ad,q3,aF,aR⟩:=fX d;have u:Below w.heap.size w (w.alloc (cO 10 R A B I n)).drew:=c.trans ((aE _ (w.alloc (cO 10 R A B I n))).drew.mono c.size)
 have aT:(0:Int)<=(A:Int):=aa;have aV:(A:Int)<12:=aa;have ag:w.heap.size<(w.alloc (cO 10 R A B I n)).heap.size:=lt_of_some d;have fx:¬F w.heap.size:=fun ai=>by have:=(cv a hp).lt h _ ai;omega
 have N:ay ((cv a hp).J F S (w.alloc (cO 10 R A B I n)).drew/\Below w.heap.size w (w.alloc (cO 10 R A B I n)).drew/\(w.alloc (cO 10 R A B I n)).drew.heap[w.heap.size]?=some (cO 10 R A B I n)/\¬F w.heap.size):=⟨l,u,d,fx⟩
 have a0:ay (Below w.heap.size w (w.alloc (cO 10 R A B I n))):=c;clear h k l rt c u d fx;have a1:ay (S.s.rs.getD A 0=S.s.rs.getD A 0):=rfl;have al:ay ((S.pop a (S.s.rs.getD A 0)).2.2.s.rs=S.s.rs):=IK a S (S.s.rs.getD A 0)
 generalize S.pop a (S.s.rs.getD A 0)=g at*;obtain⟨v,cd,ap⟩:=g;dsimp only at*;go_enter func57,ntmps57
 go_upto_region 18 with fail
 generalize w.alloc (cO 10 R A B I n)=w0 at*;generalize ar:w.heap.size=f at*;have ax:ay (∀b w' m,(cv a hp).J b m w'->ce F w0.drew b w'->m.s.rs=S.s.rs->(w'.cell? ⟨hp,0,none⟩=some (.pointer (some ⟨a.pw,0,none⟩))/\w'.cell? ⟨a.pw,3,none⟩=some (.slice (some ⟨a.nb,0,none⟩) 12 12)/\w'.cell? ⟨a.nb,A,none⟩=some (.int .i64 (S.s.rs.getD A 0)))/\w'.cell? ⟨f,2,none⟩=some (.int .i64 (A:Int))):=fun b w' m j t aB=>by obtain⟨g0,_,g3,W,_⟩:=eI j;rw[aB] at W;exact⟨⟨g0,g3,(W A q).1⟩,(aW (a:=⟨f,2,none⟩) (t.fr.block f ag N.o.2.2.2)).trans ad⟩
 generalize S.s.rs.getD A 0=x at*
 go_region_held3 (fun w'=>w'.cell? (ao hp 0)=some (am a.pw)/\w'.cell? (ao a.pw 3)=some (.slice (an a.nb) 12 12)/\w'.cell? (ao a.nb A)=some (ak x)/\w'.cell? (ao f 2)=some (ak (A:Int))) (go_keep)
  (first
    |(go_at_call 125;refine s.mono ?_;clear s;rintro e o ⟨i,rfl,j2,p⟩;obtain⟨⟨g0,g3,gr⟩,a2⟩:=ax.o i o _ j2 p al.o;have ab:ay ((cv a hp).J i ap o/\ce F w i o):=⟨j2,(ce.of (by rw[ar];exact N.o.2.1)).trans p⟩;clear j2 p))
 go_wp2_with fail;go_ret2;exact⟨i,rfl,ab.o.1,ab.o.2⟩
theorem IU (h:(cv a hp).J F S w)(R B I n:Int)(A:Nat)(k:A<12):
 Calls prog 57 #[am hp,fz 13 R A B I n] w fun e w'=>e=.returned (.tuple #[ak (S.len a (S.s.rs.getD A 0)).1,ak (S.len a (S.s.rs.getD A 0)).2.1])/\Below w.heap.size w w':=by
 have c:=aq w (cO 13 R A B I n)
 have d:=aN w (.cells #[.int .i64 13,.int .i64 R,.int .i64 (A:Int),.int .i64 B,.int .i64 I,.int .i64 n] 44)
 have g:=(cv a hp).below h c;obtain⟨h0,c0,c3,rt,_⟩:=eI g;obtain⟨r1,_⟩:=rt A k;have i:=(cv a hp).below g (aE _ (w.alloc (cO 13 R A B I n))).drew;have l:=It i (S.s.rs.getD A 0)
 obtain⟨q0,q1,o,q3,ab,ad⟩:=fX d;have b:Below w.heap.size w (w.alloc (cO 13 R A B I n)).drew:=c.trans ((aE _ (w.alloc (cO 13 R A B I n))).drew.mono c.size)
 have ag:(0:Int)<=(A:Int):=aa;have ai:(A:Int)<12:=aa;have q:w.heap.size<(w.alloc (cO 13 R A B I n)).heap.size:=lt_of_some d;have fx:¬F w.heap.size:=fun s=>by have:=(cv a hp).lt h _ s;omega
 have j:ay ((cv a hp).J F S (w.alloc (cO 13 R A B I n)).drew/\Below w.heap.size w (w.alloc (cO 13 R A B I n)).drew/\(w.alloc (cO 13 R A B I n)).drew.heap[w.heap.size]?=some (cO 13 R A B I n)/\¬F w.heap.size):=⟨i,b,d,fx⟩
 have al:ay (Below w.heap.size w (w.alloc (cO 13 R A B I n))):=c;clear h g i rt c b d fx;have ap:ay (S.s.rs.getD A 0=S.s.rs.getD A 0):=rfl;generalize (S.len a (S.s.rs.getD A 0)).1=v at*;generalize (S.len a (S.s.rs.getD A 0)).2.1=cd at*;go_enter func57,ntmps57
 go_upto_region 22 with fail
 generalize w.alloc (cO 13 R A B I n)=w0 at*;generalize t:w.heap.size=f at*;have u:ay (∀w',Below w0.drew.heap.size w0.drew w'->(w'.cell? ⟨hp,0,none⟩=some (.pointer (some ⟨a.pw,0,none⟩))/\w'.cell? ⟨a.pw,3,none⟩=some (.slice (some ⟨a.nb,0,none⟩) 12 12)/\w'.cell? ⟨a.nb,A,none⟩=some (.int .i64 (S.s.rs.getD A 0)))/\w'.cell? ⟨f,2,none⟩=some (.int .i64 (A:Int))):=fun w' hb=>by
  obtain⟨g0,_,g3,N,_⟩:=eI ((cv a hp).below j.o.1 hb)
  exact⟨⟨g0,g3,(N A k).1⟩,(hb.cell (p:=ao f 2) q).trans o⟩
 generalize S.s.rs.getD A 0=x at*
 go_region_held3 (fun w'=>w'.cell? (ao hp 0)=some (am a.pw)/\w'.cell? (ao a.pw 3)=some (.slice (an a.nb) 12 12)/\w'.cell? (ao a.nb A)=some (ak x)/\w'.cell? (ao f 2)=some (ak (A:Int))) (go_keep)
  (first
    |(go_at_call 126;refine l.mono ?_;clear l;rintro e m ⟨rfl,b⟩;obtain⟨⟨g0,g3,gr⟩,ar⟩:=u.o m b;have W:ay (Below f w m):=j.o.2.1.trans (b.mono (by have:=j.o.2.1.size;omega));clear b))
 go_wp2_with fail;go_ret2;exact⟨rfl,by rw[t];exact W.o⟩
theorem IV (h:(cv a hp).J F S w)(R B I n:Int)(A:Nat)(hA:A<12):
 Calls prog 57 #[am hp,fz 11 R A B I n] w fun e w'=>e=.returned (.tuple #[ak (if dX a.N S.s.y S.s.g S.s.ws (S.s.rs.getD A 0) I=0 then ld a.N S.s.y S.s.g S.s.ws (cj (S.s.rs.getD A 0)+1+I) else 0),ak (dX a.N S.s.y S.s.g S.s.ws (S.s.rs.getD A 0) I)])/\Below w.heap.size w w':=by
 have c:=aq w (cO 11 R A B I n)
 have d:=aN w (.cells #[.int .i64 11,.int .i64 R,.int .i64 (A:Int),.int .i64 B,.int .i64 I,.int .i64 n] 44)
 have g:=(cv a hp).below h c;obtain⟨h0,c0,c3,rt,_⟩:=eI g;obtain⟨r1,_⟩:=rt A hA;have f:=(cv a hp).below g (aE _ (w.alloc (cO 11 R A B I n))).drew;have i:=ww (S.s.rs.getD A 0) I (w.alloc (cO 11 R A B I n)).drew (eI f).c0 (jo f).1;obtain⟨q0,q1,q2,q3,q4,q⟩:=fX d;have b:Below w.heap.size w (w.alloc (cO 11 R A B I n)).drew:=c.trans ((aE _ (w.alloc (cO 11 R A B I n))).drew.mono c.size)
 have s:(0:Int)<=(A:Int):=aa;have t:(A:Int)<12:=aa;have lx:w.heap.size<(w.alloc (cO 11 R A B I n)).heap.size:=lt_of_some d;have fx:¬F w.heap.size:=fun k=>by have:=(cv a hp).lt h _ k;omega
 have HJ:ay ((cv a hp).J F S (w.alloc (cO 11 R A B I n)).drew/\Below w.heap.size w (w.alloc (cO 11 R A B I n)).drew/\(w.alloc (cO 11 R A B I n)).drew.heap[w.heap.size]?=some (cO 11 R A B I n)/\¬F w.heap.size):=⟨f,b,d,fx⟩
 have u:ay (Below w.heap.size w (w.alloc (cO 11 R A B I n))):=c;clear h g f rt c b d fx;have N:ay (S.s.rs.getD A 0=S.s.rs.getD A 0):=rfl;generalize (if dX a.N S.s.y S.s.g S.s.ws (S.s.rs.getD A 0) I=0 then ld a.N S.s.y S.s.g S.s.ws (cj (S.s.rs.getD A 0)+1+I) else 0)=v at*;generalize dX a.N S.s.y S.s.g S.s.ws (S.s.rs.getD A 0) I=cd at*;go_enter func57,ntmps57
 go_upto_region 20 with fail
 generalize w.alloc (cO 11 R A B I n)=w0 at*;generalize l:w.heap.size=xb at*;have m:ay (∀w',Below w0.drew.heap.size w0.drew w'->(w'.cell? ⟨hp,0,none⟩=some (.pointer (some ⟨a.pw,0,none⟩))/\w'.cell? ⟨a.pw,3,none⟩=some (.slice (some ⟨a.nb,0,none⟩) 12 12)/\w'.cell? ⟨a.nb,A,none⟩=some (.int .i64 (S.s.rs.getD A 0)))/\w'.cell? ⟨xb,2,none⟩=some (.int .i64 (A:Int))/\w'.cell? ⟨xb,4,none⟩=some (.int .i64 I)):=fun w' hb=>by exact AC
 generalize S.s.rs.getD A 0=x at*
 go_region_held3 (fun w'=>w'.cell? (ao hp 0)=some (am a.pw)/\w'.cell? (ao a.pw 3)=some (.slice (an a.nb) 12 12)/\w'.cell? (ao a.nb A)=some (ak x)/\w'.cell? (ao xb 2)=some (ak (A:Int))/\w'.cell? (ao xb 4)=some (ak I)) (go_keep)
  (first
    |(go_at_call 45;refine i.mono ?_;clear i;rintro e j ⟨rfl,b⟩;obtain⟨⟨g0,g3,gr⟩,W,ab⟩:=m.o j b;have o:ay (Below xb w j):=HJ.o.2.1.trans (b.mono (by have:=HJ.o.2.1.size;omega));clear b))
 go_wp2_with fail;go_ret2;exact⟨rfl,by rw[l];exact o.o⟩
theorem IW (h:(cv a hp).J F S w)(R I n:Int)(A B:Nat)(j:A<12)(hB:B<12):
 Calls prog 57 #[am hp,fz 14 R A B I n] w fun e w'=>e=.returned (.tuple #[ak (if S.s.rs.getD A 0=S.s.rs.getD B 0 then ew 1 1 else ew 1 0),ak 0])/\Below w.heap.size w w':=by
 have d:=aq w (cO 14 R A B I n)
 have f:=aN w (.cells #[.int .i64 14,.int .i64 R,.int .i64 (A:Int),.int .i64 (B:Int),.int .i64 I,.int .i64 n] 44)
 have g:=(cv a hp).below h d;obtain⟨h0,c0,c3,rt,_⟩:=eI g;obtain⟨r1,_⟩:=rt A j;obtain⟨N,_⟩:=rt B hB;obtain⟨q0,q1,q,q3,W,ab⟩:=fX f;have c:Below w.heap.size w (w.alloc (cO 14 R A B I n)).drew:=d.trans ((aE _ (w.alloc (cO 14 R A B I n))).drew.mono d.size)
 have ad:(0:Int)<=(A:Int):=aa;have ag:(A:Int)<12:=aa;have ai:(0:Int)<=(B:Int):=aa;have al:(B:Int)<12:=aa;have k:=Is (S.s.rs.getD A 0) (S.s.rs.getD B 0) (w.alloc (cO 14 R A B I n)).drew;have l:w.heap.size<(w.alloc (cO 14 R A B I n)).heap.size:=lt_of_some f;have i:ay ((cv a hp).J F S (w.alloc (cO 14 R A B I n)).drew/\Below w.heap.size w (w.alloc (cO 14 R A B I n)).drew/\(w.alloc (cO 14 R A B I n)).drew.heap[w.heap.size]?=some (cO 14 R A B I n)):=⟨(cv a hp).below g (aE _ (w.alloc (cO 14 R A B I n))).drew,c,f⟩
 clear h g rt d c f;have ap:ay (S.s.rs.getD A 0=S.s.rs.getD A 0):=rfl;generalize (if S.s.rs.getD A 0=S.s.rs.getD B 0 then ew 1 1 else ew 1 0)=v at*;go_enter func57,ntmps57
 go_upto_region 24 with fail
 generalize w.alloc (cO 14 R A B I n)=w0 at*;generalize s:w.heap.size=b at*;have t:ay (∀w',Below w0.drew.heap.size w0.drew w'->(w'.cell? ⟨hp,0,none⟩=some (.pointer (some ⟨a.pw,0,none⟩))/\w'.cell? ⟨a.pw,3,none⟩=some (.slice (some ⟨a.nb,0,none⟩) 12 12)/\w'.cell? ⟨a.nb,A,none⟩=some (.int .i64 (S.s.rs.getD A 0))/\w'.cell? ⟨a.nb,B,none⟩=some (.int .i64 (S.s.rs.getD B 0)))/\w'.cell? ⟨b,2,none⟩=some (.int .i64 (A:Int))/\w'.cell? ⟨b,3,none⟩=some (.int .i64 (B:Int))):=fun w' hb=>by
  obtain⟨g0,_,g3,m,_⟩:=eI ((cv a hp).below i.o.1 hb)
  exact⟨⟨g0,g3,(m A j).1,(m B hB).1⟩,(hb.cell (p:=ao b 2) l).trans q,(hb.cell (p:=ao b 3) l).trans q3⟩
 generalize S.s.rs.getD A 0=x at*;generalize S.s.rs.getD B 0=y at*
 go_region_held3 (fun w'=>w'.cell? (ao hp 0)=some (am a.pw)/\w'.cell? (ao a.pw 3)=some (.slice (an a.nb) 12 12)/\w'.cell? (ao a.nb A)=some (ak x)/\w'.cell? (ao a.nb B)=some (ak y)/\w'.cell? (ao b 2)=some (ak (A:Int))/\w'.cell? (ao b 3)=some (ak (B:Int))) (go_keep)
  (first
    |(go_at_call 127;refine k.mono ?_;clear k;rintro e o ⟨rfl,c⟩;obtain⟨⟨g0,g3,gr,ar⟩,ax,aB⟩:=t.o o c;have u:ay (Below b w o):=i.o.2.1.trans (c.mono (by have:=i.o.2.1.size;omega));clear c))
 go_wp2_with fail;go_ret2;exact⟨rfl,by rw[s];exact u.o⟩
theorem IX (R A B I n:Int)(w:aw)(hp:Nat):
 Calls prog 57 #[am hp,fz 2 R A B I n] w fun e w'=>e=.returned (.tuple #[ak 2,ak 0])/\Below w.heap.size w w':=by
 have b:=aq w (cO 2 R A B I n)
 go_enter func57,ntmps57;go_wp2_with fail;refine(rL _).mono ?_;rintro e w1 ⟨rfl,hw⟩
 have hw:=hw.symm;subst hw;go_wp2_with fail;go_ret2;exact⟨rfl,b⟩
theorem IY (h:(cv a hp).J F S w){j:Nat}(ok:d3 a S j)(hb:cJ a S.s)(k R A B I n:Int)(hk:dP k R A B n=0)(ai:k≠9)(al:k≠12)(ap:k≠15)(ar:k≠16):
 Calls prog 57 #[am hp,fz k R A B I n] w fun e w'=>∃i,e=.returned (.tuple #[ak (S.rt a k A.toNat B.toNat I n).1,ak (S.rt a k A.toNat B.toNat I n).2.1])/\(cv a hp).J i (S.rt a k A.toNat B.toNat I n).2.2 w'/\ce F w i w':=by
 have hq:S.q.length+S.r.length<=90000:=by have:=ok.eF;omega
 have l:=ok.qP hb;have low:∀{Q:Int×Int×co},(Calls prog 57 #[am hp,fz k R A B I n] w fun e w'=>e=.returned (.tuple #[ak Q.1,ak Q.2.1])/\Below w.heap.size w w')->Q.2.2=S->Calls prog 57 #[am hp,fz k R A B I n] w fun e w'=>∃i,e=.returned (.tuple #[ak Q.1,ak Q.2.1])/\(cv a hp).J i Q.2.2 w'/\ce F w i w':=fun {Q} P e=>by
  refine P.mono ?_;rintro aB w' ⟨rfl,hb⟩
  rw[e];exact⟨F,rfl,(cv a hp).below h hb,ce.of hb⟩
 have g:(cU k=3\/cU k=6\/cU k=7)->∃c:Nat,A=c/\c<12:=fun o=>by have:=nz hk o;exact⟨A.toNat,aa,aa⟩
 have fU:(cU k=6\/cU k=7)->∃f:Nat,B=f/\f<12:=fun o=>by have:=nA hk o;exact⟨B.toNat,aa,aa⟩
 have rm:∀m:Nat,m<=12->(S.room a (1+m)).1=0->(S.room a (1+m)).2.s.y+1+m<=a.N:=fun m hm e=>by have:=(ok.room hb (1+m)).2.2.1 e aa;omega
 unfold co.rt;by_cases p:k=1
 ·rw[aJ p];subst p;exact low (Az R A B I n w hp) rfl
 rw[aH p];by_cases q:k=3
 ·rw[aJ q];subst q;obtain⟨c,rfl,d⟩:=g ae;rw[Int.toNat_natCast];exact low (IS h R B I n c d) rfl
 rw[aH q];by_cases s:k=4
 ·rw[aJ s];subst s;obtain⟨c,rfl,d⟩:=g ae;obtain⟨f,rfl,hB⟩:=fU ae;rw[Int.toNat_natCast,Int.toNat_natCast];exact IM h R I n c f d hB hq l (rm 2 aa)
 rw[aH s];by_cases t:k=5
 ·rw[aJ t];subst t;obtain⟨c,rfl,d⟩:=g ae;have ag:hc 2 n=0:=AJ hk;have ag:=iH 2 n ag;obtain⟨n,rfl⟩:=Int.eq_ofNat_of_zero_le (show 0<=n by omega)
  rw[Int.toNat_natCast];exact IR h R B I c n d aa hq l (rm n aa)
 rw[aH t];by_cases u:k=6
 ·rw[aJ u];subst u;obtain⟨c,rfl,d⟩:=g ae;obtain⟨f,rfl,hB⟩:=fU ae;rw[Int.toNat_natCast,Int.toNat_natCast];exact IN h R I n c f d hB hq l (rm 2 aa)
 rw[aH u];by_cases v:k=7
 ·rw[aJ v];subst v;obtain⟨c,rfl,d⟩:=g ae;obtain⟨f,rfl,hB⟩:=fU ae;rw[Int.toNat_natCast,Int.toNat_natCast];exact IP h R I n c f d hB hq l (rm 2 aa)
 rw[aH v];by_cases x:k=8
 ·rw[aJ x];subst x;exact IQ h R A B I n hq l (rm 0 aa)
 rw[aH x];by_cases N:k=10
 ·rw[aJ N];subst N;obtain⟨c,rfl,d⟩:=g ae;rw[Int.toNat_natCast];exact IT h R B I n c d aa
 rw[aH N];by_cases W:k=11
 ·rw[aJ W];subst W;obtain⟨c,rfl,d⟩:=g ae;rw[Int.toNat_natCast];exact low (IV h R B I n c d) rfl
 rw[aH W];by_cases ab:k=13
 ·rw[aJ ab];subst ab;obtain⟨c,rfl,d⟩:=g ae;rw[Int.toNat_natCast];exact low (IU h R B I n c d) (by unfold co.len;split<;>rfl)
 rw[aH ab];by_cases ad:k=14
 ·rw[aJ ad];subst ad;obtain⟨c,rfl,d⟩:=g ae;obtain⟨f,rfl,hB⟩:=fU ae;rw[Int.toNat_natCast,Int.toNat_natCast];exact low (IW h R I n c f d hB) rfl
 rw[aH ad];have ax:k=2:=by
  rcases oA k with b|b|b|b|b|b|b|b|b|b|b|b|b|b|b|b|b
  all_goals
   first
    |exact b
    |exact absurd b p
    |exact absurd b q
    |exact absurd b s
    |exact absurd b t
    |exact absurd b u
    |exact absurd b v
    |exact absurd b x
    |exact absurd b ai
    |exact absurd b N
    |exact absurd b W
    |exact absurd b al
    |exact absurd b ab
    |exact absurd b ad
    |exact absurd b ap
    |exact absurd b ar
    |(have o:=oC b;unfold dP at hk;rw[aJ o] at hk;omega)
 subst ax;exact low (IX R A B I n w hp) rfl
end
section
variable {a:Wc}{hp:Nat}{F:Nat->Prop}{S:co}{w:aw}
theorem rn (h:(cv a hp).J F S w):cJ a S.s:=by obtain⟨c,b,_⟩:=jM h;obtain⟨d,g1,_⟩:=lU b;obtain⟨_,_,_,_,_,rl,_⟩:=jh g1;have ha:=(jX g1).1;exact⟨ha.hN,ha.hN',ha.hO,ha.hy,ha.hg,ha.hl,rl⟩
theorem IZ (h:(cv a hp).J F S w)(x i z:Int)(hM:S.s.M.length<=100000):
 Calls prog 44 #[am a.pw,ak x,ak i,ak z] w fun e w'=>∃b,e=.returned (ak (dX a.N S.s.y S.s.g S.s.ws x i))/\(cv a hp).J b (S.set a x i z) w'/\ce F w b w':=by
 obtain⟨l,c,_,d⟩:=jM h;obtain⟨m,g1,g2⟩:=lU c;refine(GT g1 x i z hM).mono ?_;rintro e w' ⟨rfl,f,g⟩
 obtain⟨n,j2,j⟩:=g2 _ _ _ f g;obtain⟨k,cA,t3⟩:=d _ _ _ j2 j;exact⟨k,rfl,cA,t3⟩
theorem I0 {k R A B n:Int}(hc:dP k R A B n=0)(c:k≠9)(d:k≠12)(e:k≠15)(f:k≠16):cU k=1\/cU k=3\/cU k=7:=by
 rcases oA k with b|b|b|b|b|b|b|b|b|b|b|b|b|b|b|b|b
 case' inr.inr.inr.inr.inr.inr.inr.inr.inr.inr.inr.inr.inr.inr.inr.inr=>
  have:=oC b;unfold dP at hc;rw[aJ this] at hc;omega
 all_goals
  first
   |(subst b;decide)
   |(omega)
theorem I1 (k R A B I n:Int)(hc:dP k R A B n≠0):
 Calls prog 20 #[am hp,fz k R A B I n] w fun e w'=>e=.returned (ak (dP k R A B n))/\Below w.heap.size w w':=by
 have c:=lq k R A B I n (w.alloc (cO k R A B I n))
 have b:=hide (aq w (cO k R A B I n))
 go_enter func20,ntmps20;go_wp2_with fail;refine c.mono ?_;rintro e w1 ⟨rfl,d⟩
 go_wp2_with fail;go_ret;exact⟨rfl,(b.o.trans (d.mono b.o.size))⟩
theorem I2 (h:(cv a hp).J F S w)(R A B I n:Int)(hc:dP 15 R A B n=0)(hq:S.q.length+S.r.length<=90000):
 Calls prog 20 #[am hp,fz 15 R A B I n] w fun e w'=>∃b,e=.returned (ak (S.code a))/\(cv a hp).J b (S.cut a) w'/\ce F w b w':=by
 have PC:=lq 15 R A B I n (w.alloc (cO 15 R A B I n))
 rw[hc] at PC;have HJ:=gM h (aq w (cO 15 R A B I n)) (aN w (.cells #[.int .i64 15,.int .i64 R,.int .i64 A,.int .i64 B,.int .i64 I,.int .i64 n] 44))
 have AS:ay (∀b w',(cv a hp).J b S w'->_):=fun b w' c=>AO c hq;generalize S.cut a=d at*;generalize S.code a=cd at*;go_enter func20,ntmps20;go_wp2_with fail;generalize w.alloc (cO 15 R A B I n)=w0 at*;exact AR
theorem I3 (h:(cv a hp).J F S w)(R A B I n:Int)(hc:dP 16 R A B n=0)(hq:S.q.length+S.r.length<=90000)(c:S.fI a=false->∃G,ir (S.k5 a) (S.dI a) G/\G 0 (S.k5 a,0)):
 Calls prog 20 #[am hp,fz 16 R A B I n] w fun e w'=>∃b,e=.returned (ak (S.it a))/\(cv a hp).J b (S.dE a) w'/\ce F w b w':=by
 have PC:=lq 16 R A B I n (w.alloc (cO 16 R A B I n))
 rw[hc] at PC;have HJ:=gM h (aq w (cO 16 R A B I n)) (aN w (.cells #[.int .i64 16,.int .i64 R,.int .i64 A,.int .i64 B,.int .i64 I,.int .i64 n] 44))
 have AS:ay (∀b w',(cv a hp).J b S w'->_):=fun b w' d=>AP d hq c;generalize S.dE a=f at*;generalize S.it a=cd at*;go_enter func20,ntmps20;go_wp2_with fail;generalize w.alloc (cO 16 R A B I n)=w0 at*;exact AR
theorem I4 (h:(cv a hp).J F S w)(R I n:Int)(A B:Nat)(v:A<12)(hB:B<12)(hc:dP 9 R A B n=0)(al:S.r.length<=90000)(hq:S.q.length<=90000):
 Calls prog 20 #[am hp,fz 9 R A B I n] w fun e w'=>∃b,e=.returned (ak (S.reg a (S.s.rs.getD A 0) (S.s.rs.getD B 0)).1)/\(cv a hp).J b (S.reg a (S.s.rs.getD A 0) (S.s.rs.getD B 0)).2 w'/\ce F w b w':=by
 have N:=aq w (cO 9 R A B I n)
 have W:=aN w (.cells #[.int .i64 9,.int .i64 R,.int .i64 (A:Int),.int .i64 (B:Int),.int .i64 I,.int .i64 n] 44)
 have i:=lq 9 R A B I n (w.alloc (cO 9 R A B I n))
 rw[hc] at i;have d:ay ((cv a hp).J F S w/\Below w.heap.size w (w.alloc (cO 9 R A B I n))/\(w.alloc (cO 9 R A B I n)).heap[w.heap.size]?=some (cO 9 R A B I n)/\¬F w.heap.size):=⟨h,N,W,fun ap=>by have:=(cv a hp).lt h _ ap;omega⟩
 have a2:(0:Int)<=(A:Int):=aa;have a3:(A:Int)<12:=aa;have bb:(0:Int)<=(B:Int):=aa;have bd:(B:Int)<12:=aa;have ar:ay (∀b w',(cv a hp).J b S w'->Calls prog 56 #[am hp,ak (S.s.rs.getD A 0),ak (S.s.rs.getD B 0)] w' fun e ab=>∃f,e=.returned (ak (S.reg a (S.s.rs.getD A 0) (S.s.rs.getD B 0)).1)/\(cv a hp).J f (S.reg a (S.s.rs.getD A 0) (S.s.rs.getD B 0)).2 ab/\ce b w' f ab):=fun b w' ax=>Iv ax _ _ al hq;have aB:ay ((S.reg a (S.s.rs.getD A 0) (S.s.rs.getD B 0)).2.s.rs=S.s.rs):=IL a S _ _;generalize S.reg a (S.s.rs.getD A 0) (S.s.rs.getD B 0)=g at*;obtain⟨cd,aF⟩:=g;dsimp only at*;clear h N hc W;go_enter func20,ntmps20;go_wp2_with fail;generalize w.alloc (cO 9 R A B I n)=w0 at*;generalize aR:w.heap.size=c at*;refine i.mono ?_;clear i;rintro e w1 ⟨rfl,k⟩
 have l:Below w.heap.size w w1:=by rw[aR];exact d.o.2.1.trans (k.mono (by have:=lt_of_some d.o.2.2.1;omega))
 have m:=(k.block c (lt_of_some d.o.2.2.1)).trans d.o.2.2.1;obtain⟨q0,q1,aT,q3,be,bg⟩:=fX m;have o:=(cv a hp).below d.o.1 l;obtain⟨h0,c0,c3,rt,_⟩:=eI o;obtain⟨r1,_⟩:=rt A v;obtain⟨bi,_⟩:=rt B hB;have ad:=(cv a hp).below o (aE _ w1).drew;have P:=ar.o F w1.drew ad;have aV:ay (ce F w F w1.drew):=(ce.of l).below (aE _ w1).drew;have ag:=lt_of_some m;have a0:ay (∀b w' p,(cv a hp).J b p w'->ce F w1.drew b w'->p.s.rs=S.s.rs->(w'.cell? (ao hp 0)=some (am a.pw)/\w'.cell? (ao a.pw 3)=some (.slice (an a.nb) 12 12)/\w'.cell? (ao a.nb A)=some (ak (S.s.rs.getD A 0))/\w'.cell? (ao a.nb B)=some (ak (S.s.rs.getD B 0)))/\w'.cell? (ao c 2)=some (ak (A:Int))/\w'.cell? (ao c 3)=some (ak (B:Int))):=fun b w' p j t a1=>by obtain⟨g0,_,g3,q,_⟩:=eI j;rw[a1] at q;exact⟨⟨g0,g3,(q A v).1,(q B hB).1⟩,(aW (a:=⟨c,2,none⟩) (t.fr.block c ag d.o.2.2.2)).trans aT,(aW (a:=⟨c,3,none⟩) (t.fr.block c ag d.o.2.2.2)).trans q3⟩
 clear k l o ad rt m;have bl:ay (S.s.rs.getD A 0=S.s.rs.getD A 0):=rfl;generalize S.s.rs.getD A 0=x at*;generalize S.s.rs.getD B 0=y at*;go_wp2_with fail
 go_region_held3 (fun w'=>w'.cell? (ao hp 0)=some (am a.pw)/\w'.cell? (ao a.pw 3)=some (.slice (an a.nb) 12 12)/\w'.cell? (ao a.nb A)=some (ak x)/\w'.cell? (ao a.nb B)=some (ak y)/\w'.cell? (ao c 2)=some (ak (A:Int))/\w'.cell? (ao c 3)=some (ak (B:Int))) (go_keep)
  (first
    |(go_at_call 56;refine P.mono ?_;clear P;rintro e s ⟨f,rfl,j2,u⟩;obtain⟨⟨g0,g3,gr,bn⟩,bo,bp⟩:=a0.o f s _ j2 u aB.o;have ai:ay ((cv a hp).J f aF s/\ce F w f s):=⟨j2,aV.o.trans u⟩;clear j2 u))
 go_wp2_with fail;go_ret;exact⟨f,rfl,ai.o.1,ai.o.2⟩
theorem I5 (h:(cv a hp).J F S w)(R I n:Int)(A B:Nat)(v:A<12)(hB:B<12)(hc:dP 12 R A B n=0)(hM:S.s.M.length<=100000):
 Calls prog 20 #[am hp,fz 12 R A B I n] w fun e w'=>∃c,e=.returned (ak (dX a.N S.s.y S.s.g S.s.ws (S.s.rs.getD A 0) I))/\(cv a hp).J c (S.set a (S.s.rs.getD A 0) I (S.s.rs.getD B 0)) w'/\ce F w c w':=by
 have N:=aq w (cO 12 R A B I n)
 have W:=aN w (.cells #[.int .i64 12,.int .i64 R,.int .i64 (A:Int),.int .i64 (B:Int),.int .i64 I,.int .i64 n] 44)
 have g:=lq 12 R A B I n (w.alloc (cO 12 R A B I n))
 rw[hc] at g;have d:ay ((cv a hp).J F S w/\Below w.heap.size w (w.alloc (cO 12 R A B I n))/\(w.alloc (cO 12 R A B I n)).heap[w.heap.size]?=some (cO 12 R A B I n)/\¬F w.heap.size):=⟨h,N,W,fun ai=>by have:=(cv a hp).lt h _ ai;omega⟩
 have a1:(0:Int)<=(A:Int):=aa;have a2:(A:Int)<12:=aa;have a3:(0:Int)<=(B:Int):=aa;have bb:(B:Int)<12:=aa;have al:ay (∀c w',(cv a hp).J c S w'->Calls prog 44 #[am a.pw,ak (S.s.rs.getD A 0),ak I,ak (S.s.rs.getD B 0)] w' fun e ab=>∃f,e=.returned (ak (dX a.N S.s.y S.s.g S.s.ws (S.s.rs.getD A 0) I))/\(cv a hp).J f (S.set a (S.s.rs.getD A 0) I (S.s.rs.getD B 0)) ab/\ce c w' f ab):=fun c w' ap=>IZ ap _ _ _ hM;have ar:ay ((S.set a (S.s.rs.getD A 0) I (S.s.rs.getD B 0)).s.rs=S.s.rs):=rfl;generalize S.set a (S.s.rs.getD A 0) I (S.s.rs.getD B 0)=ax at*;generalize dX a.N S.s.y S.s.g S.s.ws (S.s.rs.getD A 0) I=cd at*;clear h N hc W;go_enter func20,ntmps20;go_wp2_with fail;generalize w.alloc (cO 12 R A B I n)=w0 at*;generalize aB:w.heap.size=b at*;refine g.mono ?_;clear g;rintro e w1 ⟨rfl,i⟩
 have k:Below w.heap.size w w1:=by rw[aB];exact d.o.2.1.trans (i.mono (by have:=lt_of_some d.o.2.2.1;omega))
 have l:=(i.block b (lt_of_some d.o.2.2.1)).trans d.o.2.2.1;obtain⟨q0,q1,aF,q3,aR,bd⟩:=fX l;have m:=(cv a hp).below d.o.1 k;obtain⟨h0,c0,c3,rt,_⟩:=eI m;obtain⟨r1,_⟩:=rt A v;obtain⟨be,_⟩:=rt B hB;have ad:=(cv a hp).below m (aE _ w1).drew;have P:=al.o F w1.drew ad;have aT:ay (ce F w F w1.drew):=(ce.of k).below (aE _ w1).drew;have o:=lt_of_some l;have aV:ay (∀c w' p,(cv a hp).J c p w'->ce F w1.drew c w'->p.s.rs=S.s.rs->(w'.cell? (ao hp 0)=some (am a.pw)/\w'.cell? (ao a.pw 3)=some (.slice (an a.nb) 12 12)/\w'.cell? (ao a.nb A)=some (ak (S.s.rs.getD A 0))/\w'.cell? (ao a.nb B)=some (ak (S.s.rs.getD B 0)))/\w'.cell? (ao b 2)=some (ak (A:Int))/\w'.cell? (ao b 3)=some (ak (B:Int))/\w'.cell? (ao b 4)=some (ak I)):=fun c w' p j t a0=>by obtain⟨g0,_,g3,q,_⟩:=eI j;rw[a0] at q;exact⟨⟨g0,g3,(q A v).1,(q B hB).1⟩,(aW (a:=⟨b,2,none⟩) (t.fr.block b o d.o.2.2.2)).trans aF,(aW (a:=⟨b,3,none⟩) (t.fr.block b o d.o.2.2.2)).trans q3,(aW (a:=⟨b,4,none⟩) (t.fr.block b o d.o.2.2.2)).trans aR⟩
 clear i k m ad rt l;have bg:ay (S.s.rs.getD A 0=S.s.rs.getD A 0):=rfl;generalize S.s.rs.getD A 0=x at*;generalize S.s.rs.getD B 0=y at*;go_wp2_with fail
 go_region_held3 (fun w'=>w'.cell? (ao hp 0)=some (am a.pw)/\w'.cell? (ao a.pw 3)=some (.slice (an a.nb) 12 12)/\w'.cell? (ao a.nb A)=some (ak x)/\w'.cell? (ao a.nb B)=some (ak y)/\w'.cell? (ao b 2)=some (ak (A:Int))/\w'.cell? (ao b 3)=some (ak (B:Int))/\w'.cell? (ao b 4)=some (ak I)) (go_keep)
  (first
    |(go_at_call 44;refine P.mono ?_;clear P;rintro e s ⟨f,rfl,j2,u⟩;obtain⟨⟨g0,g3,gr,bi⟩,bl,bn,bo⟩:=aV.o f s _ j2 u ar.o;have ag:ay ((cv a hp).J f ax s/\ce F w f s):=⟨j2,aT.o.trans u⟩;clear j2 u))
 go_wp2_with fail;go_ret;exact⟨f,rfl,ag.o.1,ag.o.2⟩
theorem I6 (h:(cv a hp).J F S w)(k R A B I n:Int)(hc:dP k R A B n=0)(k1:k≠9)(u:k≠12)(x:k≠15)(N:k≠16)(v cd:Int)(h0:cd≠0)(f:co)
 (m:∀b w',(cv a hp).J b S w'->Calls prog 57 #[am hp,fz k R A B I n] w' fun e g=>∃F2,e=.returned (.tuple #[ak v,ak cd])/\(cv a hp).J F2 f g/\ce b w' F2 g):
 Calls prog 20 #[am hp,fz k R A B I n] w fun e w'=>∃b,e=.returned (ak cd)/\(cv a hp).J b f w'/\ce F w b w':=by
 have i:=aq w (cO k R A B I n)
 have o:=aN w (.cells #[.int .i64 k,.int .i64 R,.int .i64 A,.int .i64 B,.int .i64 I,.int .i64 n] 44)
 have j:=lq k R A B I n (w.alloc (cO k R A B I n))
 rw[hc] at j;have c:=gM ((cv a hp).below h i) i o;have p:=hide m;go_enter func20,ntmps20;go_wp2_with fail;generalize w.alloc (cO k R A B I n)=w0 at*;generalize q:w.heap.size=s at*;refine j.mono ?_;rintro e w1 ⟨rfl,d⟩
 have l:=dq ((cv a hp).below c.o.1 d) (c.o.2.1.trans (d.mono (by have:=lt_of_some c.o.2.2;omega)))
 obtain⟨q0,q1,W,q3,ab,ad⟩:=fX ((d.block s (lt_of_some c.o.2.2)).trans c.o.2.2)
 go_wp2_with fail;refine(p.o F w1 l.o.1).mono ?_;rintro e ag ⟨F2,rfl,j2,t⟩
 have HF:=dq j2 ((ce.of (by rw[q];exact l.o.2)).trans t)
 exact pE
theorem I7 (h:(cv a hp).J F S w){j:Nat}(ok:d3 a S j)(t:j<=100000)(k R A B I n:Int):
 Calls prog 20 #[am hp,fz k R A B I n] w fun e w'=>∃i,e=.returned (ak (S.hd a k R A B I n).1)/\(cv a hp).J i (S.hd a k R A B I n).2 w'/\ce F w i w':=by
 have hb:=rn h;have u:=ok.eF;have hm:=ok.m;have hq:S.q.length+S.r.length<=90000:=aa;unfold co.hd;by_cases hc:dP k R A B n=0
 ·rw[aJ hc];by_cases b:k=9
  ·rw[aJ b];subst b;have l:=nz hc ae;have m:=nA hc ae;obtain⟨A,rfl⟩:=Int.eq_ofNat_of_zero_le l.1;obtain⟨B,rfl⟩:=Int.eq_ofNat_of_zero_le m.1;rw[Int.toNat_natCast,Int.toNat_natCast];exact I4 h R I n A B aa aa hc aa aa
  rw[aH b];by_cases d:k=12
  ·rw[aJ d];subst d;have l:=nz hc ae;have m:=nA hc ae;obtain⟨A,rfl⟩:=Int.eq_ofNat_of_zero_le l.1;obtain⟨B,rfl⟩:=Int.eq_ofNat_of_zero_le m.1;rw[Int.toNat_natCast,Int.toNat_natCast];exact I5 h R I n A B aa aa hc aa
  rw[aH d];by_cases f:k=15
  ·rw[aJ f];subst f;exact I2 h R A B I n hc hq
  rw[aH f];by_cases e16:k=16
  ·rw[aJ e16];subst e16;exact I3 h R A B I n hc hq (ok.qP hb)
  rw[aH e16];have q:=xl hc (I0 hc b d f e16)
  obtain⟨R,rfl⟩:=Int.eq_ofNat_of_zero_le q.1;rw[Int.toNat_natCast];have o:∀i w',(cv a hp).J i S w'->_:=fun i w' s=>IY s ok hb k R A B I n hc b d f e16;generalize S.rt a k A.toNat B.toNat I n=g at*;obtain⟨v,cd,p⟩:=g;by_cases c:cd=0
  ·rw[aJ c];subst c;exact AQ h k R A B I n aa hc b d f e16 v p o
  ·rw[aH c];exact I6 h k R A B I n hc b d f e16 v cd c p o
 ·rw[aH hc];refine(I1 k R A B I n hc).mono ?_;rintro e w' ⟨rfl,hb⟩
  exact⟨F,rfl,(cv a hp).below h hb,ce.of hb⟩
end
section
variable {a:Wc}{hp:Nat}{F:Nat->Prop}{S:co}{w:aw}
theorem I8 (c:(fB a).J F S w)(hq:S.q.length<=90000):
 Calls prog 25 #[am a.pw] w fun e w'=>∃d b f g nc,e=.returned (.agg #[.slice d 12 b,.slice f g nc])/\c8 w' d (fj a.N S.s.y S.s.g S.s.ws S.q S.s.rs).1/\Ln w' f (fj a.N S.s.y S.s.g S.s.ws S.q S.s.rs).2.2/\g=(fj a.N S.s.y S.s.g S.s.ws S.q S.s.rs).2.2.length/\Below w.heap.size w w':=by
 obtain⟨k,g1,_⟩:=lU c;obtain⟨c0,_,c2,c3,_,rl,_,AU⟩:=jh g1;obtain⟨l,ar,m,⟨n,o,p,⟨own,cQ,hM,hO⟩,b,j,q,_⟩,r0,r1,s⟩:=c;have hl:Lq w (an a.nb) S.s.rs:=by exact AT
 have P:=GR ⟨c0,c2,(jX g1).1,b,gn j,hq⟩ (by rw[rl];exact c3) hl (by rw[rl];decide)
 rw[rl] at P;exact P
theorem I9 (h:(cv a hp).J F S w)(hq:S.q.length<=90000):
 Calls prog 25 #[am a.pw] w fun e w'=>∃b f c d nc,e=.returned (.agg #[.slice b 12 f,.slice c d nc])/\c8 w' b (fj a.N S.s.y S.s.g S.s.ws S.q S.s.rs).1/\Ln w' c (fj a.N S.s.y S.s.g S.s.ws S.q S.s.rs).2.2/\d=(fj a.N S.s.y S.s.g S.s.ws S.q S.s.rs).2.2.length/\Below w.heap.size w w':=by
 obtain⟨i,g,_⟩:=jM h;exact I8 g hq
end
def n_:co:=⟨{(iP 16 8).1.s with rs:=(iP 16 8).1.s.rs.set 0 (ew 1 7)},[],[]⟩
def uH:co:=⟨{n_.s with y:=n_.s.y+3,ws:=gC n_.s.rs n_.s.y (eR 16 n_.s.y 1 2 n_.s.ws) [0,0] 2},[],[]⟩
def kN:co:=⟨{uH.s with rs:=uH.s.rs.set 1 (ew 3 0)},[],[]⟩
theorem I_:dX 16 kN.s.y kN.s.g kN.s.ws (kN.s.rs.getD 1 0) 2=1:=by decide+kernel
theorem Ja:(fj 16 kN.s.y kN.s.g kN.s.ws kN.q kN.s.rs).2.2=[(1,[(1,7),(1,7)])]:=by decide+kernel
theorem Jb:vc 1 7=0:=ae
theorem Jd (x y:Value)(w:aw):Sem.run prog (Instr.field 60 (.agg #[x,y]) 1) w=.ok y w:=by unfold Instr.field;simp[go_sem];rfl
theorem uI (w:aw):Calls prog 17 #[] w fun e w'=>e=.returned (.bool true)/\Below w.heap.size w w':=by
 go_enter func17,ntmps17;go_wp2_with fail;refine(Ay 16 8 w aa aa aa).mono ?_;rintro e w1 ⟨a,hp,a2,rfl,ad,⟨k1,a3⟩,g1,b1⟩
 have q:=aq w1 (.cells #[.int .i64 0,.int .i64 0] 28)
 have ag:=H_ ((cv a hp).below ad q) 0 aa 7 Jb;have d:=gM g1 (b1.trans (q.mono b1.size)) k1;go_wp2_with fail;generalize w1.alloc (.cells #[.int .i64 0,.int .i64 0] 28)=bb at*;refine ag.mono ?_;rintro e w3 ⟨s,rfl,cA,t3⟩
 have f:ay ((∀b,s b->w.heap.size<=b)/\Below w.heap.size w w3):=⟨fun b c=>(t3.sub b c).elim (d.o.1 b) (fun c=>aS d.o.2.1.size c),d.o.2.1.trans (t3.fr.below d.o.2.1.size d.o.1)⟩
 have k:=d.o.2.2;have ai:Calls prog 20 #[am hp,.agg #[ak 4,ak 1,ak 0,ak 0,ak 0,ak 0]] w3 fun e w'=>∃g,e=.returned (ak 0)/\(cv a hp).J g kN w'/\ce s w3 g w':=by
  refine AQ cA 4 1 0 0 0 0 aa (IA 1 0 0 aa aa aa) aa aa aa aa (ew 3 0) uH (fun g w' l=>?_)
  have P:=ID l 1 0 0 aa aa (by rw[k];decide)
  rw[k] at P;exact P
 have t:=hide k;go_wp2_with fail;refine ai.mono ?_;rintro e j ⟨al,rfl,cD,u⟩
 have v:ay ((∀b,al b->w.heap.size<=b)/\Below w.heap.size w j):=⟨fun b c=>(u.sub b c).elim (f.o.1 b) (fun c=>aS f.o.2.size c),f.o.2.trans (u.fr.below f.o.2.size f.o.1)⟩
 have ap:Calls prog 20 #[am hp,.agg #[ak 11,ak 2,ak 1,ak 0,ak 2,ak 0]] j fun e w'=>e=.returned (ak 1)/\Below j.heap.size j w':=by
  refine IC cD 11 2 1 0 2 0 (Iz 2 1 aa aa) aa aa aa aa 0 1 aa (fun g w' l=>?_)
  have P:=IB l 2 2 1 aa;rw[t.o,I_,aH aa] at P;exact P
 have ar:=hide cD;go_wp2_with fail;refine ap.mono ?_;rintro e bd ⟨rfl,x⟩
 have B:=(cv a hp).below ar.o x;have P:=I9 B ae;rw[t.o,Ja] at P;obtain⟨h0,_⟩:=eI B;have m:=hide (v.o.2.trans (x.mono v.o.2.size))
 go_wp2_with fail;refine P.mono ?_;clear P;rintro e ax ⟨aB,aF,be,bg,nc,rfl,_,F,rfl,N⟩
 obtain⟨b,o,bi,fc,aR,lb,aT,n,p⟩:=F.at (i:=0) ae;subst aR;have n:=n;have p:=p;obtain⟨b2,S,aV,bl,W⟩:=p ae;subst aV;have a0:=(W 0 ae).2;rw[show o+0*2+1=o+1 by omega] at n;rw[show S+0*2+1=S+1 by omega] at a0;have a1:=hide (m.o.trans (N.mono m.o.size))
 have bn:=Jd (.slice aB 12 aF) (.slice (some ⟨b,o,none⟩) 1 nc)
 have ab:=wL 9 ax;rw[show cU 9=6 from rfl] at ab;clear F N W m aT;go_wp2_with fail;refine ab.mono ?_;rintro e bo ⟨rfl,rfl⟩
 go_wp2_with fail;go_ret;exact⟨rfl,a1.o⟩
section
variable {w:aw}{pw p q N O y g:Nat}{ws:List Int}{sd:Nat}{v0:Value}{a1:Option Addr}{k1:Nat}{Q:List b9}{l:List Int}{ra:Option Addr}{rc:Nat}
theorem Je (hq:lB w pw p q N O y g ws sd v0 a1 k1 Q)(c3:w.cell? (ao pw 3)=some (.slice ra l.length rc))(hl:Lq w ra l)(hm:l.length<=100000):
 Calls prog 25 #[am pw] w fun e w'=>∃al bd f ap nc,e=.returned (.agg #[.slice al l.length bd,.slice f ap nc])/\nf w' w.heap.size al (fj N y g ws Q l).1/\lv w' w.heap.size f (fj N y g ws Q l).2.2/\ap=(fj N y g ws Q l).2.2.length/\Below w.heap.size w w':=by
 have j:=aq w (.cells #[.slice none 0 0,.slice none 0 0] 60)
 have ar:=aN w (.cells #[.slice none 0 0,.slice none 0 0] 60)
 have ab:=hq.low j;have be:=hl.kf (Kf.of (B:=0) j)
 have ax:=aM w _ c3;have aB:=(j.cell (p:=ao pw 3) ax).trans c3;have bg:w.heap.size<(w.alloc (.cells #[.slice none 0 0,.slice none 0 0] 60)).heap.size:=ac;have P:=wC ab.c0 ab.ar;have b7:=hq.ar.hN';have b8:=hq.ar.hy;have b9:=hq.ar.hO;have ca:=hq.ar.hg;have bi:∀a∈dW N y g ws++dB N y g ws,0<=a/\a<2000:=fun a ha=>by
  rcases List.mem_append.1 ha with ha|ha
  ·have:=mx a ha;omega
  ·have:=ou a ha;omega
 have bl:(dW N y g ws++dB N y g ws).length<=100000:=by exact zk
 have bn:ay (∀(o cr:Nat)(w1:aw),Wk (w.alloc (.cells #[.slice none 0 0,.slice none 0 0] 60)) w1 o cr pw (dW N y g ws++dB N y g ws) ([],[]) (.slice none 0 0) []->Calls prog 65 #[am o,.slice ra l.length rc] w1 fun e w'=>∃bo ad a2 c2,e=.returned (.slice a2 l.length c2)/\w'.ownsRow w1.heap.size 97 2 (.slice a2 l.length c2) l.length (ev (fj N y g ws Q l).1)/\Wk (w.alloc (.cells #[.slice none 0 0,.slice none 0 0] 60)) w' o cr pw (dW N y g ws++dB N y g ws) (fj N y g ws Q l).2 bo ad/\ff (w.alloc (.cells #[.slice none 0 0,.slice none 0 0] 60)) w1 [] w' ad/\(∀k,fF ad k->some k≠(Value.slice a2 l.length c2).ownBlock)):=
  fun o cr w1 h1=>sj (so ab bi bl _) (jb _) h1 (eU.start _) ac l ra rc (be.kf (Kf.of (B:=0) h1.dx)) hm
 have aF:ay ((fj N y g ws Q l).1.length=l.length):=kc _ _ _ _;generalize fj N y g ws Q l=R at*;obtain⟨cb,s⟩:=R;generalize dW N y g ws++dB N y g ws=T at*;go_enter func25,ntmps25;go_wp2_with fail;refine P.mono ?_;rintro e w1 ⟨o,cr,rfl,h1⟩
 have bp:=(h1.dx.cell (p:=ao pw 3) (aO ax j.size)).trans aB;have ag:=hide h1;go_wp2_with fail;refine(bn.o o cr w1 ag.o).mono ?_;rintro e w2 ⟨cc,m,a2,c2,rfl,t,d,aR,_⟩
 obtain⟨f,nc,br⟩:=dU d.row;subst br;have cd:=d.cells.2.2.1;have aT:=j.trans (d.dx.mono j.size)
 have n:=(d.dx.block _ bg).trans ar;have y0:w2.cell? (ao w.heap.size 0)=some (.slice none 0 0):=aA n
 have y1:w2.cell? (ao w.heap.size 1)=some (.slice none 0 0):=aA n
 have ce:w2.frozen? (ao w.heap.size 0)=false:=aC n
 have cf:w2.frozen? (ao w.heap.size 1)=false:=aC n
 have l2:=lt_of_some n;have bs:=dq d t;have bt:=hide d.len;have bx:=hide aT;have aV:=hide n;have a0:w.heap.size<=w1.heap.size:=by
  have:=ag.o.dx.size;simp at this
  omega
 have b0:ay (∀k,fF m k->w.heap.size<=k):=fun k hk=>(aR.2 k hk).elim (fun⟨x,S,_⟩=>by cases S) (fun b1=>aS a0 b1)
 clear d t aR aT n j ar bp aB ag;go_wp2_with fail;obtain⟨u,hW0⟩:∃u,u=(w2.setCell ⟨w.heap.size,0,none⟩ (.slice a2 l.length c2)).setCell ⟨w.heap.size,1,none⟩ (.slice f m.length nc):=⟨_,rfl⟩
 rw[<-hW0];have g0:u.cell? (ao w.heap.size 0)=some (.slice a2 l.length c2):=by exact kS
 have g1:u.cell? (ao w.heap.size 1)=some (.slice f m.length nc):=by exact zj
 have F:Fr (fun k=>k=w.heap.size) w2 u:=by rw[hW0];exact((Fr.refl (fun k=>k=w.heap.size) w2).set w.heap.size 0 _ rfl).set w.heap.size 1 _ rfl
 obtain⟨d,t⟩:=bs.o;have a3:∀{ai:Option Addr}{L:List (Int×Int)},ge w2 ai L->c8 u ai L:=fun {ai L} h=>h.1.keep F.size (fun hp b e=>by
  obtain⟨b2,ch,ci,b3,hb⟩:=h.2 hp;rw[b3] at e;cases e;refine F.block _ (lt_of_some hb) (fun c=>?_)
  have c:b2=w.heap.size:=c;rw[c,aV.o] at hb;simp at hb)
 refine bz (v:=.agg #[.slice a2 l.length c2,.slice f m.length nc]) (by simp[results,results25,go_sem,g0,g1]) rfl ⟨a2,c2,f,m.length,nc,rfl,⟨a3 (ge.of (by rw[aF.o];exact t)),fun hp=>?_⟩,⟨m,d.nd,fun x S=>a3 (d.fl x S),b0.o,fun hp=>?_⟩,bt.o,bx.o.trans (F.below (Nat.le_of_lt l2) (fun k e=>Nat.le_of_eq (Eq.symm e)))⟩
 ·obtain⟨b,b4,e⟩:=d4 t (by rw[<-aF.o];exact hp)
  cases e;exact⟨b,0,rfl,aS a0 (cg t b rfl).1⟩
 obtain⟨b,b4,e⟩:=d4 d.row hp;cases e;have b5:=(cg d.row b rfl).1;simp at b5;obtain⟨cj,W⟩:=d6 d.row b rfl;have bb:b≠w.heap.size:=fun c=>by rw[c,aV.o] at W;simp at W
 refine⟨b,0,rfl,aa,aO (lt_of_some W) F.size,fun i x S=>?_⟩
 obtain⟨n1,b6⟩:=na m i x S;rw[Nat.zero_add];exact⟨(aW (a:=⟨b,i*2,none⟩) (F.block b (lt_of_some W) bb)).trans (fe d.row n1).1,(aW (a:=⟨b,i*2+1,none⟩) (F.block b (lt_of_some W) bb)).trans (fe d.row b6).1⟩
end
theorem Jf (n o:Int)(w:aw)(h:n<16\/256<n\/o<0\/1024<o):
 Calls prog 18 #[ak n,ak o] w fun e w'=>e=.returned (.tuple #[.pointer none,.agg #[ak 1,ak (-1)]])/\Below w.heap.size w w':=by
 have g:=aN w (.cells #[.int .i64 0,.int .i64 0] 28)
 have P:=G3 n o (w.alloc (.cells #[.int .i64 0,.int .i64 0] 28)) h;go_enter func18,ntmps18;go_wp2_with fail;refine P.mono ?_;rintro e w1 ⟨rfl,d⟩
 have c:=(d.block w.heap.size ac).trans g;have hB1:=(aq w (.cells #[.int .i64 0,.int .i64 0] 28)).trans (d.mono ac)
 have i:=d.size;simp at i;have y0:w1.cell? (ao w.heap.size 0)=some (ak 0):=aA c
 have y1:w1.cell? (ao w.heap.size 1)=some (ak 0):=aA c
 have m:w1.frozen? (ao w.heap.size 0)=false:=aC c
 have q:w1.frozen? (ao w.heap.size 1)=false:=aC c
 have l1:w.heap.size<w1.heap.size:=aa;clear d g c;go_wp2_with fail
 go_region_law (fail)
 all_goals
  obtain⟨b,hW0⟩:∃b,b=(w1.setCell ⟨w.heap.size,0,none⟩ (.int .i64 1)).setCell ⟨w.heap.size,1,none⟩ (.int .i64 (-1)):=⟨_,rfl⟩
  rw[<-hW0];have s:b.heap.size=w1.heap.size:=by rw[hW0];simp[World.setCell]
  have g0:b.cell? (ao w.heap.size 0)=some (ak 1):=by exact kS
  have g1:b.cell? (ao w.heap.size 1)=some (ak (-1)):=by exact r5
  have j:Below w.heap.size w b:=by exact zi
  have f:=(aq b (.cells #[.int .i64 1,.int .i64 (-1)] 28)).drew;have r0:=(f.cell (p:=ao w.heap.size 0) (by show w.heap.size<_;omega)).trans g0;have r1:=(f.cell (p:=ao w.heap.size 1) (by show w.heap.size<_;omega)).trans g1;have l:=j.trans (f.mono aa)
  generalize (b.alloc (.cells #[.int .i64 1,.int .i64 (-1)] 28)).drew=t at*;go_wp2_with fail;refine bz (v:=.tuple #[.pointer none,.agg #[.int .i64 1,.int .i64 (-1)]]) (by simp[results,results18,go_sem,r0,r1]) rfl ⟨rfl,l⟩
section
variable {a:Wc}{hp:Nat}{F:Nat->Prop}{S:co}{w:aw}
theorem Jg (h:(cv a hp).J F S w)(hq:S.q.length<=90000):
 Calls prog 25 #[am a.pw] w fun e w'=>∃c b d nc,e=.returned (.agg #[.slice c 12 b,.slice d (fj a.N S.s.y S.s.g S.s.ws S.q S.s.rs).2.2.length nc])/\nf w' w.heap.size c (fj a.N S.s.y S.s.g S.s.ws S.q S.s.rs).1/\lv w' w.heap.size d (fj a.N S.s.y S.s.g S.s.ws S.q S.s.rs).2.2/\Below w.heap.size w w':=by
 obtain⟨l,f,_⟩:=jM h;obtain⟨m,g1,_⟩:=lU f;obtain⟨c0,_,c2,c3,_,rl,_,AU⟩:=jh g1;obtain⟨n,ar,o,⟨p,q,s,⟨own,cQ,hM,hO⟩,b,g,t,_⟩,r0,r1,u⟩:=f;have hl:Lq w (an a.nb) S.s.rs:=by exact AT
 have P:=Je ⟨c0,c2,(jX g1).1,b,gn g,hq⟩ (by rw[rl];exact c3) hl (by rw[rl];decide)
 rw[rl] at P;refine P.mono ?_;rintro e w' ⟨c,b,d,v,nc,rfl,q1,j,rfl,k⟩
 exact⟨c,b,d,nc,rfl,q1,j,k⟩
theorem Jh (h:(cv a hp).J F S w):Calls prog 22 #[am a.p] w fun e w'=>e=.returned (.tuple #[ak S.s.y,ak S.s.g])/\Below w.heap.size w w':=
 kj w (jo h).1
end
section
variable {a:Wc}{S:co}{Y G:List Int}
end
section
variable {a:Wc}{S:co}{W:cn}{m:Nat->Int}{Y G:List Int}
theorem dO.vq {T:List cH}{v:Int×Int}(b:dO T v)(e:T.length<=10000):e3 T v:=by
 refine⟨?_,b.t⟩
 by_cases c:v.1=3
 ·obtain⟨h0,d⟩:=b.t c;have:=d.1;rw[c];exact l8 _ h0 aa
 ·exact b.o c
abbrev ru (W:cn)(x:Int):Prop:=0<=x/\cI W.T x.toNat
abbrev rx (m:Nat->Int)(x:Int):Int:=m x.toNat
theorem cz.uJ (h:cz a S W m Y G)(hb:cJ a S.s)(d:W.T.length<=10000){v:Int×Int}(c:dO W.T v):lh (ru W) (rx m) (dK v) (wv m v):=by
 obtain⟨e,f⟩:=mK (c.vq d)
 obtain⟨_,g,i⟩:=h.dec hb c;unfold lh;rw[e,f,g,i];by_cases b:v.1=3
 ·rw[aJ b];exact aL ⟨b,b,c.t b,rfl⟩
 ·rw[aH b];exact aK ⟨b,rfl,rfl⟩
theorem cz.bi (h:cz a S W m Y G)(hb:cJ a S.s)(g:W.T.length<=10000):pu (ru W) (rx m) (tI W.T.length) (fM W.T) (fN W.T W.wt) (Y++G) (fun v=>pk (ld a.N S.s.y S.s.g S.s.ws v)) (eS a.N S.s.y S.s.g S.s.ws S.q):=by
 refine⟨fun x b=>oS.2 ⟨b.1,by have:=b.2.1;have:=b.1;omega⟩,fun x b=>List.mem_append.2 (h.mem b.2),fun x y b hy e=>?_,fun x b=>?_,fun x b=>?_⟩
 ·have:=h.inj _ _ b.2 hy.2 e;have:=b.1;have:=hy.1;omega
 ·exact(h.parts b.2).1
 ·obtain⟨q,hi⟩:=b;obtain⟨i,rfl⟩:=Int.eq_ofNat_of_zero_le q;rw[Int.toNat_natCast] at hi;obtain⟨j,s,_⟩:=h.parts hi;have n:=h.mem hi;show i8 _ _ (eS a.N S.s.y S.s.g S.s.ws S.q (m ((i:Int)).toNat))
  unfold fN;rw[Int.toNat_natCast];by_cases d:(W.T.getD i t0).1=5
  ·have hl:(W.T.getD i t0).2.1=[]:=by have f:=(h.hd i hi).1;rw[d] at f;simp[hc] at f;exact f
   rw[aJ d,hl,List.map_nil,List.nil_append];unfold eS;rw[aJ (by rw[j];exact d)];unfold hI;rw[h.wt,kX (we m) (fun e=>e.1==ew 3 (m i)) (fun e=>e.1==(i:Int)) W.wt (fun e he=>?_),List.map_map]
   ·have key:∀l:List b9,(∀e∈l,iu W.T e)->i8 (lh (ru W) (rx m)) (l.map (fun e=>ew 3 e.2)) (l.map ((·.2)∘we m)):=by
     intro l
     induction l with
     |nil=>intro _;trivial
     |cons e l t=>
      intro hl;have he:=hl e ac;refine⟨?_,t (fun x b=>hl x (aQ _ b))⟩
      have:=h.uJ hb g (v:=(3,e.2)) ⟨fun _=>⟨he.h0,he.h⟩,fun c=>absurd rfl c⟩
      exact this
    exact key _ (fun e he=>h.dD e (List.mem_filter.1 he).1)
   ·have he:=h.dD e he;show(ew 3 _==ew 3 (m i))=(e.1==(i:Int))
    by_cases o:e.1=(i:Int)
    ·rw[o,Int.toNat_natCast];simp
    ·have n1:ew 3 (m e.1.toNat)≠ew 3 (m i):=fun c=>by have c1:=(h.word hb he.g).2.2;rw[c,(h.word hb hi).2.2] at c1;have:=h.inj _ _ hi he.g c1;have:=he.g0;omega
     rw[beq_false_of_ne n1,beq_false_of_ne o]
  ·rw[aH d,List.append_nil];have p:pk (ld a.N S.s.y S.s.g S.s.ws (m i))≠5:=by rw[j];exact d
   have l1:=zr h.kv.inv.full hb.y1 S.q n p;rw[s] at l1;have l1:(eS a.N S.s.y S.s.g S.s.ws S.q (m i)).length=(W.T.getD i t0).2.1.length:=aa;refine i8.of (by rw[aU];exact l1.symm) (fun k hk=>?_)
   rw[aU] at hk;rw[(Hm h.kv.inv.full hb.y1 S.q n p).1 k aa,jJ dK _ k (0,0) 0 hk,h.fd i hi k hk];exact h.uJ hb g (h.fv i hi _ (getD_in hk))
theorem cz.view (h:cz a S W m Y G)(hb:cJ a S.s)(b:W.T.length<=10000):(fj a.N S.s.y S.s.g S.s.ws S.q S.s.rs).1=(eX.fi W.T W.wt W.rs).1/\(fj a.N S.s.y S.s.g S.s.ws S.q S.s.rs).2.2=(eX.fi W.T W.wt W.rs).2.2:=by
 obtain⟨c,d⟩:=h.kv.inv.full.lists hb.n1 hb.y1 hb.o1 hb.g1;have hl:i8 (lh (ru W) (rx m)) (W.rs.map dK) S.s.rs:=by
  rw[h.rs];refine i8.of ac (fun i hi=>?_)
  rw[aU] at hi;rw[jJ dK _ i (0,0) 0 hi,jJ (wv m) _ i (0,0) 0 hi];exact h.uJ hb b (h.rv _ (getD_in hi))
 unfold fj eX.fi;rw[c,d];obtain⟨b1,b2,_⟩:=Hj (h.bi hb b) hl (by rw[jS];exact aD _) bY
 exact⟨b1.symm,b2⟩
end
end Go.Proofs.YtpkjkjhanlbcoaaGreat
