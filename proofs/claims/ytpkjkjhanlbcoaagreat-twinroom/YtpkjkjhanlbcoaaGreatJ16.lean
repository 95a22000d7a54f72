import Derived.Test.YtpkjkjhanlbcoaaGreatJ15
namespace Go.Proofs.YtpkjkjhanlbcoaaGreat
set_option maxRecDepth 100000
set_option maxHeartbeats 4000000
open Tryz
open Go.RowKit W
theorem zO {P:Prop}(h:P:=by
 generalize hxb:w.heap.size=xb at*;refine PC.mono ?_;clear PC;rintro e w1 ⟨rfl,hb1⟩
 have hbt:Below w.heap.size w w1:=by rw[hxb];exact HJ.o.2.1.trans (hb1.mono (by have:=lt_of_some HJ.o.2.2;omega))
 obtain⟨q0,q1,q2,q3,q4,q5⟩:=eu ((hb1.block xb (lt_of_some HJ.o.2.2)).trans HJ.o.2.2)
 have J1:=(cw a hp).below HJ.o.1 hbt;obtain⟨h0,_⟩:=eh J1;have P:=zP.o F w1 J1;have HT:ay (b8 F w F w1):=b8.of hbt;clear hb1 hbt J1 q1 q2 q3 q4 q5;go_wp2_with fail;refine P.mono ?_;clear P;rintro e w2 ⟨F2,rfl,qX,T2⟩
 have HF:ay ((cw a hp).J F2 S2 w2/\b8 F w F2 w2):=⟨qX,HT.o.trans T2⟩
 clear qX T2;go_wp2_with fail;go_ret;exact⟨F2,rfl,HF.o.1,HF.o.2⟩):P:=h
theorem qY {P:Prop}(h:P:=by
 go_enter func57,ntmps57;go_wp2_with fail;refine P.mono ?_;rintro e w2 ⟨F2,rfl,qX,T2⟩
 have HF:=dq qX ((b8.of HB.o).trans T2)
 go_wp2_with fail;go_ret2;exact⟨F2,rfl,HF.o.1,HF.o.2⟩):P:=h
theorem zQ {P:Prop}(h:P:=by
 rcases(show c=0\/c=1\/c=2\/c=3\/c=4\/c=5\/c=6\/c=7\/c=8\/c=9\/c=10\/c=11\/c=12 by omega) with rfl|rfl|rfl|rfl|rfl|rfl|rfl|rfl|rfl|rfl|rfl|rfl|rfl<;>
 (go_enter func223,ntmps223
  go_wp2_with fail;go_ret2;exact⟨rfl,rfl⟩)):P:=h
theorem zR {P:Prop}(h:P:=by
 go_enter func167,ntmps167;go_wp2_with fail;refine P.mono ?_;rintro e w1 ⟨rfl,hw⟩
 have hw:=hw.symm;subst hw;go_wp2_with fail;go_ret2;exact⟨rfl,rfl⟩):P:=h
theorem zS {P:Prop}(h:P:=by rw[hW0];exact bf _ _ _ ((a5 w2 ⟨w.heap.size,0,none⟩ ⟨w.heap.size,1,none⟩ _ Z).trans y1)):P:=h
theorem qZ {P:Prop}(h:P:=by rw[aZ,List.length_singleton];omega):P:=h
theorem G7 (c:Nat)(hc:c<=12)(w:ax):Calls prog 223 #[.int .u64 1,.int .u64 c] w fun e w'=>e=.returned (.tuple #[.int .u64 0,.int .u64 c])/\w'=w:=by exact zQ
theorem zT (c:Nat)(hc:c<=12)(w:ax):Calls prog 167 #[.int .u64 1,.int .u64 c] w fun e w'=>e=.returned (.tuple #[.int .u64 0,.int .u64 c])/\w'=w:=by have P:=G7 c hc w;exact zR
def fS (c:Nat)(v:Int)(n:Nat):List Int:=List.replicate n v++List.replicate (c-n) 0
theorem uj (c:Nat)(v:Int)(n:Nat)(h:n<=c):(fS c v n).length=c:=by simp[fS];omega
theorem G8 (c:Nat)(v:Int)(n m:Nat)(h:n+m<=c):splice (fS c v n) n (List.replicate m v)=fS c v (n+m):=by unfold splice fS;rw[List.take_left' Z,List.length_replicate,List.drop_append,List.length_replicate];simp only [List.drop_replicate];rw[show n-(n+m)=0 by omega,show c-n-(n+m-n)=c-(n+m) by omega];simp;rw[<-ba,List.replicate_append_replicate]
theorem G9 (c:Nat)(v:Int)(n i:Nat)(h:i<n):(fS c v n).getD i 0=v:=by unfold fS;rw[aE,List.getElem?_append_left (by simpa using h)];simp[h]
theorem G_ {c:Nat}{w:ax}{nb n:Nat}{v:Int}(hr:w.heap[nb]?=some (.cells ((fS c v n).map (Value.int .i64)).toArray 3 (0,0)))(hn:n<=c)(m:Nat)(hm:m<=n):∀j b,((List.replicate m v).map (Value.int .i64))[j]?=some b->w.cell? ((⟨nb,0,none⟩:Addr).add j)=some b:=by
 intro j b hj;have d:j<m:=by exact qv
 have e:b=ah v:=by simp[d] at hj;exact hj.symm
 have hl:=uj c v n hn;have hg:=G9 c v n j V;rw[aE,aL (by omega:j<(fS c v n).length)] at hg;simp at hg;have ea:(⟨nb,0,none⟩:Addr).add j=⟨nb,j,none⟩:=by simp[Addr.add];intro h;exact h.symm
 rw[ea,e];have f:j<(fS c v n).length:=V;simp[World.cell?,hr,List.getElem?_eq_getElem f];exact hg
theorem zU {c:Nat}{w w':ax}{nb n m B:Nat}{v:Int}(b:k8 w w' nb ((fS c v n).map (Value.int .i64)) n ((List.replicate m v).map (Value.int .i64)))(hr:w.heap[nb]?=some (.cells ((fS c v n).map (Value.int .i64)).toArray 3 (0,0)))(hm:0<m)(h:n+m<=c)(hB:B<=nb):w'.heap[nb]?=some (.cells ((fS c v (n+m)).map (Value.int .i64)).toArray 3 (0,0))/\Below B w w':=by
 rcases b with⟨h0,_⟩|rfl
 ·have:=congrArg List.length h0;simp at this
  omega
 ·rw[sv,G8 c v n m h];exact⟨setRow_heap w nb _ _ _ _ hr,⟨rfl,rfl,rfl,by simp[World.setRow],fun k hk=>setRow_other w nb k _ V⟩⟩
theorem zV:(prog.info? 3).map (fun i=>(i.zero,i.size,i.bytes))=some (some (ah 0),1,8):=ae
theorem uk:(prog.info? 3).map (·.size)=some 1:=ae
theorem zW {w:ax}{b k n:Nat}(h:w.ownsRow b 3 1 (.slice (ak k) n n) n (madeCells (Value.int .i64 0).cells (n*1)).toList):
 w.heap[k]?=some (.cells ((List.replicate n (0:Int)).map (Value.int .i64)).toArray 3 (0,0)):=by
 exact vL
theorem Ha (w:ax)(b c:Nat)(v:Int)(h0:0<c)(M:c<=12)(hc:w.cell? (aq b 0)=some (ah v)):
 Calls prog 124 #[.slice (ak b) 1 1,ah c] w fun e w'=>∃nb,e=.returned (.slice (ak nb) c c)/\w.heap.size<=nb/\w'.heap[nb]?=some (.cells ((List.replicate c v).map (Value.int .i64)).toArray 3 (0,0))/\Below w.heap.size w w':=by
 obtain⟨t,hi,N,O,P⟩:=info_parts zV;have lb:=aQ w _ hc;dsimp only at lb;have u:=zT c M w;have Q:ay (fS c v c=List.replicate c v):=by show _=_;simp[fS]
 have c0:(0:Int)<(c:Int):=V;have c1:(c:Int)<=12:=V;go_enter func124,ntmps124;go_wp2_with fail;refine u.mono ?_;clear u;rintro e w0 ⟨rfl,hw⟩
 have hw:=hw.symm;subst hw
 go_upto_region 7 with(at_make;refine wpList_make_full _ rfl _ _ 74 rfl w.heap.size 3 t (ah 0) 1 underlying74 hi N O .i64 .i64 _ _ c rfl rfl V V (by rw[P];omega) (by unfold maxLen;omega) bW ?_;intro w1 x A)
 have hr:w1.heap[w.heap.size]?=some (.cells ((fS c v 0).map (Value.int .i64)).toArray 3 (0,0)):=by have R:=zW x;simpa[fS] using R
 have l:Below w.heap.size w w1:=(aH _ w).grown A bW (fun _ h=>by cases h)
 have C:=(l.cell (p:=aq b 0) lb).trans hc;clear x A;have d:ay (∀j f,((List.replicate 1 v).map (Value.int .i64))[j]?=some f->w1.cell? ((⟨b,0,none⟩:Addr).add j)=some f):=one_cell C;have o:ay (w1.heap[w.heap.size]?=some (.cells ((fS c v 0).map (Value.int .i64)).toArray 3 (0,0))):=hr;have g:ay (((List.replicate 1 v).map (Value.int .i64)).length=Nat.min 1 c):=by show _=_;simp only [List.length_map,List.length_replicate,Nat.min_def];split<;>omega
 have i:ay (0+((List.replicate 1 v).map (Value.int .i64)).length<=((fS c v 0).map (Value.int .i64)).length):=by show _<=_;rw[aW,aW,uj c v 0 V];simp;omega
 clear C hr;go_wp2_with (refine tf rfl _ _ 74 74 3 rfl underlying74 uk (ak w.heap.size) (ak b) c c 1 1 rfl rfl w.heap.size 0 ((fS c v 0).map (Value.int .i64)) 3 o.o ((List.replicate 1 v).map (Value.int .i64)) g.o (fun _=>⟨rfl,_,rfl,d.o⟩) i.o (oR _) ?_;intro ab D)
 obtain⟨E,F⟩:=zU (B:=w.heap.size) D o.o V V bW
 have G:=l.trans F;clear D d o g i l F
 go_loopw [8] (fun nv wr=>∃n:Nat,1<=n/\n<=c/\nv=ah n/\ay (wr.heap[w.heap.size]?=some (.cells ((fS c v n).map (Value.int .i64)).toArray 3 (0,0)))/\Below w.heap.size w wr) (fun nv _=>c-(intOf nv).toNat)
 case atStart=>exact⟨1,aD _,V,rfl,E,G⟩
 case round=>
  clear E G;obtain⟨n,n1,H,rfl,q,hb⟩:=hrel;by_cases ad:n<c
  ·obtain⟨m,hm,S,s,U⟩:∃m,m=Nat.min n (c-n)/\0<m/\n+m<=c/\m<=n:=⟨_,rfl,by simp only [Nat.min_def];split<;>omega,by simp only [Nat.min_def];split<;>omega,by simp only [Nat.min_def];split<;>omega⟩
   have k:ay (wr.drew.heap[w.heap.size]?=some (.cells ((fS c v n).map (Value.int .i64)).toArray 3 (0,0))):=q.o;have d:ay (∀j f,((List.replicate m v).map (Value.int .i64))[j]?=some f->wr.drew.cell? ((⟨w.heap.size,0,none⟩:Addr).add j)=some f):=G_ k.o H m U;have g:ay (((List.replicate m v).map (Value.int .i64)).length=Nat.min n (c-n)):=by show _=_;rw[<-hm];simp
   have i:ay (n+((List.replicate m v).map (Value.int .i64)).length<=((fS c v n).map (Value.int .i64)).length):=by show _<=_;rw[aW,aW,uj c v n H];simpa using s
   have ag:¬c=n:=V;have t:(0:Int)<=(n:Int):=V;have ai:(n:Int)<=(c:Int):=V;have al:(n:Int)<(c:Int):=V;clear q;go_wp2_with fail
   go_region_law (refine p4 rfl (.tmp 41) (.tmp 44) 74 74 3 rfl underlying74 uk (some ⟨w.heap.size,n,none⟩) (ak w.heap.size) (c-n) (c-n) n c ?_ ?_ w.heap.size n ((fS c v n).map (Value.int .i64)) 3 k.o ((List.replicate m v).map (Value.int .i64)) g.o (fun _=>⟨rfl,_,rfl,d.o⟩) i.o (oR _) ?_;(simp[Act.eval,Act.put]);(simp[Act.eval,Act.put]);intro W I)
   obtain⟨J,K⟩:=zU (B:=w.heap.size) I k.o S s bW
   have X:ay (W.heap[w.heap.size]?=some (.cells ((fS c v (n+m)).map (Value.int .i64)).toArray 3 (0,0))):=J;have Y:=hb.drew.trans K;have hw:IntKind.i64.wrap ((n:Int)+(m:Int))=((n+m:Nat):Int):=by rw[bk];omega
   clear J K I k d g i hb;simp[Act.put,go_sem,Exit.inBlock];rw[<-hm,hw];refine⟨⟨_,_,_,_,_,_,_,_,_,_,_,_,_,_,?rel,rfl⟩,?measure⟩
   case rel=>exact⟨n+m,V,s,rfl,X,Y⟩
   case measure=>simp[intOf];omega
  ·obtain rfl:n=c:=V;have L:=q.o;rw[Q.o] at L;go_wp2_with fail;go_ret;exact⟨w.heap.size,rfl,aD _,L,hb⟩
theorem Hb (w:ax)(b:Nat)(v:Int):
 Calls prog 124 #[.slice (ak b) 1 1,ah 0] w fun e w'=>∃nb,e=.returned (.slice (ak nb) 0 0)/\Below w.heap.size w w':=by
 obtain⟨m,hi,n,o,p⟩:=info_parts zV;have d:=zT 0 V w;go_enter func124,ntmps124;go_wp2_with fail;refine d.mono ?_;clear d;rintro e w0 ⟨rfl,hw⟩
 have hw:=hw.symm;subst hw
 go_upto_region 7 with(at_make;refine wpList_make_full _ rfl _ _ 74 rfl w.heap.size 3 m (ah 0) 1 underlying74 hi n o .i64 .i64 _ _ 0 rfl rfl V V (by rw[p];omega) (by unfold maxLen;omega) bW ?_;intro w1 f g)
 have c:Below w.heap.size w w1:=(aH _ w).grown g bW (fun _ h=>by cases h)
 have i:ay (w1.heap[w.heap.size]?=some (.cells ((fS 0 v 0).map (Value.int .i64)).toArray 3 (0,0))):=by have q:=zW f;show _=_;simpa[fS] using q
 clear f g;go_wp2_with (refine tf rfl _ _ 74 74 3 rfl underlying74 uk (ak w.heap.size) (ak b) 0 0 1 1 rfl rfl w.heap.size 0 ((fS 0 v 0).map (Value.int .i64)) 3 i.o [] rfl (fun h=>absurd h aa) Z (fun _ h=>by cases h) ?_;intro s j)
 have l:Below w.heap.size w s:=by
  rcases j with⟨_,e⟩|e
  ·rw[e];exact c
  ·rw[e];exact c.trans ⟨rfl,rfl,rfl,by simp[World.setRow],fun k hk=>setRow_other w1 w.heap.size k _ V⟩
 clear j i c
 go_loopw [8] (fun nv wr=>nv=ah 0/\Below w.heap.size w wr) (fun _ _=>0)
 case atStart=>exact⟨rfl,l⟩
 case round=>
  clear l;obtain⟨rfl,hb⟩:=hrel;go_wp2_with fail;go_ret;exact⟨w.heap.size,rfl,hb⟩
open Go.RowKit W Kp cf
structure dW (a:Wc)(S:cq)(j:Nat):Prop where
 kv:∃Y G,em a S.s Y G
 eo:jB a S
 m:S.s.M.length<=j
 jX:S.r.length+S.q.length<=24
def ot (a:Wc)(S:cq)(v:Int):Prop:=cY v=true->tB a.N S.s.y S.s.g S.s.ws v=true
section
variable {a:Wc}{S:cq}{j:Nat}
theorem dW.start (a:Wc)(n o:Nat):dW a (g_ n o).1 0:=by
 refine⟨⟨[],[],⟨dU.start,fun x c ha=>?_,fun v hv=>?_⟩,fun v hv=>(by cases hv)⟩,fun e he=>?_,aD _,(show(0:Nat)<=24 by decide)⟩
 ·have c:x∈tw 2 12:=c;have e:x=2:=by simpa[tw] using c
  rw[e,zy] at ha;cases ha
 ·rcases hv with b|b<;>cases b
 ·rcases he with b|b<;>cases b
theorem dW.mono {i:Nat}(h:dW a S j)(hi:j<=i):dW a S i:=⟨h.kv,h.eo,aT h.m hi,h.jX⟩
theorem dW.cut (h:dW a S j)(hb:cI a S.s):dW a (S.cut a) j/\cI a (S.cut a).s:=by
 obtain⟨Y,G,hk⟩:=h.kv;have l1:=Gs a S;have l2:=h.jX;refine⟨⟨hk.cut hb,h.eo.cut hk hb,?_,V⟩,hk.GP hb⟩
 have:=h.m;unfold cq.cut;split
 ·omega
 ·exact aX _
theorem dW.dz (h:dW a S j)(hb:cI a S.s):dW a (S.dz a) j/\cI a (S.dz a).s:=by obtain⟨Y,G,hk⟩:=h.kv;obtain⟨_,g2,g3⟩:=hk.dz hb;have l1:=GL a S;have l2:=h.jX;have b:=h.m;exact⟨⟨g2,h.eo.dz hk hb,V,V⟩,hk.GQ hb⟩
theorem dW.qN (h:dW a S j)(hb:cI a S.s):S.fN a=false->∃F,iE (S.k5 a) (S.dD a) F/\F 0 (S.k5 a,0):=by obtain⟨Y,G,hk⟩:=h.kv;exact(hk.dz hb).1
theorem zX (h:S.code a≠0):S.cut a=S:=by
 unfold cq.code at h;unfold cq.cut;split at h
 ·rename_i c;rw[aI c]
 ·exact absurd rfl h
theorem zY (h:S.ij a≠0):S.dz a=S:=by
 unfold cq.ij at h;unfold cq.dz;split at h
 ·rename_i c;rw[aI c]
 ·exact absurd rfl h
theorem Hc (h:S.code a=0):(S.cut a).s.y=0:=by
 unfold cq.code at h;unfold cq.cut;split at h
 ·omega
 ·rename_i c;rw[aG c]
theorem Hd {Y G:List Int}(hk:em a S.s Y G)(hb:cI a S.s)(h:S.ij a=0):(S.dz a).s.y=0:=by
 have b:S.fN a=false:=by
  unfold cq.ij at h;split at h
  ·omega
  ·rename_i c;simpa using c
 obtain⟨_,g,_⟩:=me hk hb b;exact g.gc.y
theorem dW.room (h:dW a S j)(hb:cI a S.s)(m:Int):dW a (S.room a m).2 j/\cI a (S.room a m).2.s/\((S.room a m).1=0->m<=16->m<=(a.N:Int)-(S.room a m).2.s.y)/\((S.room a m).1≠0->(S.room a m).2=S):=by
 obtain⟨Y,G,hk⟩:=h.kv;have n0:=hb.n0;unfold cq.room;split
 ·rename_i c;exact⟨h,hb,fun _ _=>c,fun q=>absurd rfl q⟩
 ·split
  ·obtain⟨b,d⟩:=h.cut hb;refine⟨b,d,fun q _=>?_,fun q=>zX q⟩
   rw[Hc q];omega
  ·obtain⟨b,d⟩:=h.dz hb;refine⟨b,d,fun q _=>?_,fun q=>zY q⟩
   rw[Hd hk hb q];omega
theorem dW.put (h:dW a S j)(hb:cI a S.s){kd:Int}{rl:List Nat}(hk:hc kd rl.length=0)(hr:S.s.y+1+rl.length<=a.N):dW a (S.put a kd rl) j/\cI a (S.put a kd rl).s/\ot a (S.put a kd rl) (ew 3 S.s.y):=by
 obtain⟨Y,G,kv⟩:=h.kv;have p:=uh kv hb hk hr rl.length bW
 have b:cI a (S.put a kd rl).s:=⟨hb.n0,hb.n1,hb.o1,hr,hb.g1,p.l,hb.r1⟩
 have n1:=hb.n1;have y1:=hb.y1;refine⟨⟨⟨_,_,p.k⟩,?_,h.m,h.jX⟩,b,fun _=>?_⟩
 ·exact h.eo.more kv hb p.k.inv.full b.y1 b.g1 (fun v hv=>hv.imp (fun c=>aY _ c) id)
 ·obtain⟨d,e⟩:=m9 S.s.y V;exact(i7 p.k.inv.full b.n1 b.y1 b.o1 b.g1).2 ⟨d,aK (by rw[e];simp)⟩
theorem dW.bZ (h:dW a S j)(hb:cI a S.s){kd:Int}{rl:List Nat}(hk:hc kd rl.length=0):dW a (S.bZ a kd rl).2.2 j/\cI a (S.bZ a kd rl).2.2.s/\((S.bZ a kd rl).2.1=0->ot a (S.bZ a kd rl).2.2 (S.bZ a kd rl).1)/\((S.bZ a kd rl).2.1≠0->(S.bZ a kd rl).2.2=S):=by
 obtain⟨b,d,e,f⟩:=h.room hb _;have hl:=iS kd rl.length hk;unfold cq.bZ;split
 ·rename_i c;obtain⟨g,i,k⟩:=b.put d hk (by have:=e c V;omega)
  exact⟨g,i,fun _=>k,fun q=>absurd rfl q⟩
 ·rename_i c;exact⟨b,d,fun q=>absurd q c,fun _=>f c⟩
theorem dW.root (h:dW a S j)(hb:cI a S.s)(i:Nat):ot a S (S.s.rs.getD i 0):=fun ha=>by obtain⟨Y,G,kv⟩:=h.kv;exact(i7 kv.inv.full hb.n1 hb.y1 hb.o1 hb.g1).2 ⟨ha,kv.any i ha⟩
theorem q6 {n:Int}(h:vc 1 n=0):ot a S (ew 1 n):=fun ha=>by rw[(nI 1 n h).1] at ha;exact absurd ha aa
theorem dW.rt (h:dW a S j)(hb:cI a S.s){k n:Int}(A B:Nat)(I:Int)(hk:gS k n=0):dW a (S.rt a k A B I n).2.2 j/\cI a (S.rt a k A B I n).2.2.s/\((S.rt a k A B I n).2.1=0->ot a (S.rt a k A B I n).2.2 (S.rt a k A B I n).1)/\((S.rt a k A B I n).2.1≠0->(S.rt a k A B I n).2.2=S):=by
 unfold cq.rt;by_cases b:k=1
 ·rw[aI b];exact⟨h,hb,fun q=>q6 q,fun _=>rfl⟩
 rw[aG b];by_cases f:k=3
 ·rw[aI f];exact⟨h,hb,fun _=>h.root hb A,fun _=>rfl⟩
 rw[aG f];by_cases g:k=4
 ·rw[aI g];exact h.bZ hb rfl
 rw[aG g];by_cases c:k=5
 ·rw[aI c];refine h.bZ hb ?_;unfold gS at hk;rw[aG b,aI c] at hk;have:=iS 2 n hk;rw[List.length_replicate,show((n.toNat:Nat):Int)=n by omega];exact hk
 rw[aG c];by_cases i:k=6
 ·rw[aI i];exact h.bZ hb rfl
 rw[aG i];by_cases l:k=7
 ·rw[aI l];exact h.bZ hb rfl
 rw[aG l];by_cases m:k=8
 ·rw[aI m];exact h.bZ hb rfl
 rw[aG m];by_cases o:k=10
 ·rw[aI o];unfold cq.pop;generalize S.s.rs.getD A 0=x;split
  ·split
   ·rename_i hi;have v:S.q.getD (dO x S.q) (0,0)∈S.q:=by exact tX
    have sub:∀e,e∈S.q.take (dO x S.q)++S.q.drop (dO x S.q+1)->e∈S.q:=fun e he=>by
     rcases List.mem_append.1 he with d|d
     ·exact bA d
     ·exact List.mem_of_mem_drop d
    refine⟨⟨h.kv,fun e he=>h.eo e (he.imp id (sub e)),h.m,?_⟩,hb,fun _ _=>(h.eo _ (aJ v)).2,fun q=>absurd rfl q⟩
    have:=h.jX;dsimp only;rw[aZ,bv,List.length_drop];omega
   ·exact⟨h,hb,fun q=>absurd q (by dsimp only;omega),fun _=>rfl⟩
  ·exact⟨h,hb,fun q=>absurd q (by dsimp only;omega),fun _=>rfl⟩
 rw[aG o];by_cases p:k=11
 ·rw[aI p];refine⟨h,hb,fun q ha=>?_,fun _=>rfl⟩
  have q:=q;rw[aI q] at ha⊢;obtain⟨Y,G,kv⟩:=h.kv;obtain⟨w,C,t3,s⟩:=m8 q;obtain⟨_,hv⟩:=(i7 kv.inv.full hb.n1 hb.y1 hb.o1 hb.g1).1 w;rw[kv.inv.full.stands hb.y1 hv] at s;exact(i7 kv.inv.full hb.n1 hb.y1 hb.o1 hb.g1).2 ⟨ha,kv.inv.fd _ hv I t3 s ha⟩
 rw[aG p];by_cases t:k=13
 ·rw[aI t];unfold cq.len;split
  ·exact⟨h,hb,fun q=>q6 q,fun _=>rfl⟩
  ·exact⟨h,hb,fun q=>absurd q (by dsimp only;omega),fun _=>rfl⟩
 rw[aG t];by_cases u:k=14
 ·rw[aI u];refine⟨h,hb,fun _=>?_,fun _=>rfl⟩
  dsimp only;split
  ·exact q6 aa
  ·exact q6 aa
 rw[aG u];exact⟨h,hb,fun _ ha=>by have ha:cY 2=true:=ha;exact absurd ha aa,fun _=>rfl⟩
theorem dW.st (h:dW a S j)(hb:cI a S.s){R:Nat}{x:Int}(b:ot a S x):dW a (S.st R x) j/\cI a (S.st R x).s:=by
 obtain⟨Y,G,kv⟩:=h.kv;refine⟨⟨⟨Y,G,kv.root R x (fun ha=>(i7 kv.inv.full hb.n1 hb.y1 hb.o1 hb.g1).1 (b ha) |>.2)⟩,fun e he=>h.eo e he,h.m,h.jX⟩,⟨hb.n0,hb.n1,hb.o1,hb.y1,hb.g1,hb.l1,?_⟩⟩
 show(S.s.rs.set R x).length=12;rw[a3];exact hb.r1
theorem dW.set (h:dW a S j)(hb:cI a S.s)(A B:Nat)(I:Int):dW a (S.set a (S.s.rs.getD A 0) I (S.s.rs.getD B 0)) (j+1)/\cI a (S.set a (S.s.rs.getD A 0) I (S.s.rs.getD B 0)).s:=by
 obtain⟨Y,G,kv⟩:=h.kv;refine⟨⟨⟨Y,G,?_,kM.set kv.inv kv.cd hb.l1 hb.n1 hb.y1 hb.o1 hb.g1 _ _ _⟩,?_,?_,h.jX⟩,⟨hb.n0,hb.n1,hb.o1,hb.y1,hb.g1,?_,hb.r1⟩⟩
 ·show ik a.N S.s.y S.s.g (gg a.N S.s.y S.s.g S.s.ws (S.s.rs.getD A 0) I (S.s.rs.getD B 0)) Y G S.s.rs;by_cases b:el a.N S.s.y S.s.g S.s.ws (S.s.rs.getD A 0) I=0
  ·obtain⟨e,i,t3,d⟩:=m8 b;obtain⟨_,hv⟩:=(i7 kv.inv.full hb.n1 hb.y1 hb.o1 hb.g1).1 e;rw[kv.inv.full.stands hb.y1 hv] at d;unfold gg;rw[aI b,aI (jS kv.inv.full hv t3 d)];exact kv.inv.set hb.l1 hb.y1 hb.g1 hv t3 d (fun f=>kv.any B f)
  ·rw[(oi (M:=S.s.M) (c:=dF a.O) b).1];exact kv.inv
 ·exact h.eo.more kv hb (kv.inv.full.gg hb.l1 hb.n1 hb.y1 hb.o1 hb.g1 (S.s.rs.getD A 0) I (S.s.rs.getD B 0)) hb.y1 hb.g1 (fun v hv=>hv)
 ·have:=h.m;have:=Gp (N:=a.N) (y:=S.s.y) (g:=S.s.g) (ws:=S.s.ws) (S.s.rs.getD A 0) I (S.s.rs.getD B 0) (dF a.O) S.s.M;show(stM a.N S.s.y S.s.g S.s.ws _ I _ (dF a.O) S.s.M).length<=j+1;omega
 ·show(gg a.N S.s.y S.s.g S.s.ws _ I _).length=a.N+a.O;unfold gg;split
  ·split
   ·rw[a3];exact hb.l1
   ·exact hb.l1
  ·exact hb.l1
theorem He {x i z:Int}(h:el a.N S.s.y S.s.g S.s.ws x i≠0):S.set a x i z=S:=by unfold cq.set;rw[(oi (M:=S.s.M) (c:=dF a.O) h).1,(oi h).2]
theorem Hf {x:Int}(h:S.ex a x=0):tB a.N S.s.y S.s.g S.s.ws x=true:=by
 unfold cq.ex at h;split at h
 ·assumption
 ·omega
theorem Hg {x:Int}(h:S.kx a x=5):tB a.N S.s.y S.s.g S.s.ws x=true:=by
 unfold cq.kx at h;split at h
 ·assumption
 ·omega
theorem dW.reg (h:dW a S j)(hb:cI a S.s)(t g:Int):dW a (S.reg a t g).2 j/\cI a (S.reg a t g).2.s/\((S.reg a t g).1≠0->(S.reg a t g).2=S):=by
 unfold cq.reg;split
 ·rename_i c1;split
  ·rename_i c2;split
   ·exact⟨h,hb,fun _=>rfl⟩
   ·rename_i c3;refine⟨⟨h.kv,fun e he=>?_,h.m,?_⟩,hb,fun q=>absurd rfl q⟩
    ·rcases he with b|b
     ·rcases List.mem_append.1 b with b|b
      ·exact h.eo e (aK b)
      ·rw[List.mem_singleton.1 b];exact⟨Hg c2,Hf c1⟩
     ·exact h.eo e (aJ b)
    ·dsimp only;exact qZ
  ·exact⟨h,hb,fun _=>rfl⟩
 ·exact⟨h,hb,fun _=>rfl⟩
theorem zZ {k R A B n:Int}(h:dJ k R A B n=0):gS k n=0:=by
 unfold dJ at h;split at h
 ·omega
 ·split at h
  ·omega
  ·exact h
theorem dW.hd (h:dW a S j)(hb:cI a S.s)(k R A B I n:Int):dW a (S.hd a k R A B I n).2 (j+1)/\cI a (S.hd a k R A B I n).2.s/\((S.hd a k R A B I n).1≠0->(S.hd a k R A B I n).2=S):=by
 unfold cq.hd;split
 ·rename_i hc;split
  ·obtain⟨r1,b,r3⟩:=h.reg hb _ _;exact⟨r1.mono V,b,r3⟩
  ·split
   ·obtain⟨r1,b⟩:=h.set hb A.toNat B.toNat I;exact⟨r1,b,fun q=>He q⟩
   ·split
    ·obtain⟨r1,b⟩:=h.cut hb;exact⟨r1.mono V,b,fun q=>zX q⟩
    ·split
     ·obtain⟨r1,b⟩:=h.dz hb;exact⟨r1.mono V,b,fun q=>zY q⟩
     ·obtain⟨r1,b,r3,d⟩:=h.rt hb A.toNat B.toNat I (zZ hc)
      split
      ·rename_i c;obtain⟨s1,s2⟩:=r1.st b (r3 c)
       exact⟨s1.mono V,s2,fun q=>absurd rfl q⟩
      ·rename_i c;exact⟨r1.mono V,b,fun _=>d c⟩
 ·exact⟨h.mono V,hb,fun _=>rfl⟩
end
theorem Hh (a:Wc)(S:cq)(x:Int):(S.pop a x).2.2.s.rs=S.s.rs:=by
 unfold cq.pop;split
 ·split<;>rfl
 ·rfl
theorem Hi (a:Wc)(S:cq)(t g:Int):(S.reg a t g).2.s.rs=S.s.rs:=by
 unfold cq.reg;split
 ·split
  ·split<;>rfl
  ·rfl
 ·rfl
section
variable {a:Wc}{hp:Nat}{F:Nat->Prop}{S:cq}{w:ax}
theorem Hj (h:(cw a hp).J F S w)(R I n:Int)(A B:Nat)(f:A<12)(hB:B<12)(hq:S.q.length+S.r.length<=90000)(j:S.fN a=false->∃G,iE (S.k5 a) (S.dD a) G/\G 0 (S.k5 a,0))(room:(S.room a 3).1=0->(S.room a 3).2.s.y+3<=a.N):
 Calls prog 57 #[aj hp,dK 4 R A B I n] w fun e w'=>∃c,e=.returned (.tuple #[ah (S.bZ a 1 [A,B]).1,ah (S.bZ a 1 [A,B]).2.1])/\(cw a hp).J c (S.bZ a 1 [A,B]).2.2 w'/\b8 F w c w':=by
 have d:=(au w (cz 4 R A B I n)).alloc Z (.cells #[.int .i64 (A:Int),.int .i64 (B:Int)] 3)
 have b:=aO (w.alloc (cz 4 R A B I n)) (.cells #[.int .i64 (A:Int),.int .i64 (B:Int)] 3)
 have k:(w.alloc (cz 4 R A B I n)).heap.size=w.heap.size+1:=Z;rw[k] at b;have P:=pD ((cw a hp).below h d) 1 [A,B] (ak (w.heap.size+1)) 2 hq j rfl (fun _=>⟨w.heap.size+1,rfl,fun l=>by have:=(cw a hp).lt h _ l;omega,lt_of_some b,fun i hi=>by
  have hi:i<2:=hi;rcases(show i=0\/i=1 by omega) with rfl|rfl<;>simp only [World.cell?,b]<;>rfl⟩) (fun i hi=>by
  have hi:i<2:=hi;rcases(show i=0\/i=1 by omega) with rfl|rfl
  ·exact f
  ·exact hB) room
 have HB:=hide d;generalize S.bZ a 1 [A,B]=g at*;obtain⟨v,cd,m⟩:=g;exact qY
theorem Hk (h:(cw a hp).J F S w)(R I n:Int)(A B:Nat)(f:A<12)(hB:B<12)(hq:S.q.length+S.r.length<=90000)(j:S.fN a=false->∃G,iE (S.k5 a) (S.dD a) G/\G 0 (S.k5 a,0))(room:(S.room a 3).1=0->(S.room a 3).2.s.y+3<=a.N):
 Calls prog 57 #[aj hp,dK 6 R A B I n] w fun e w'=>∃c,e=.returned (.tuple #[ah (S.bZ a 3 [A,B]).1,ah (S.bZ a 3 [A,B]).2.1])/\(cw a hp).J c (S.bZ a 3 [A,B]).2.2 w'/\b8 F w c w':=by
 have d:=(au w (cz 6 R A B I n)).alloc Z (.cells #[.int .i64 (A:Int),.int .i64 (B:Int)] 3)
 have b:=aO (w.alloc (cz 6 R A B I n)) (.cells #[.int .i64 (A:Int),.int .i64 (B:Int)] 3)
 have k:(w.alloc (cz 6 R A B I n)).heap.size=w.heap.size+1:=Z;rw[k] at b;have P:=pD ((cw a hp).below h d) 3 [A,B] (ak (w.heap.size+1)) 2 hq j rfl (fun _=>⟨w.heap.size+1,rfl,fun l=>by have:=(cw a hp).lt h _ l;omega,lt_of_some b,fun i hi=>by
  have hi:i<2:=hi;rcases(show i=0\/i=1 by omega) with rfl|rfl<;>simp only [World.cell?,b]<;>rfl⟩) (fun i hi=>by
  have hi:i<2:=hi;rcases(show i=0\/i=1 by omega) with rfl|rfl
  ·exact f
  ·exact hB) room
 have HB:=hide d;generalize S.bZ a 3 [A,B]=g at*;obtain⟨v,cd,m⟩:=g;exact qY
theorem Hl (h:(cw a hp).J F S w)(R I n:Int)(A B:Nat)(f:A<12)(hB:B<12)(hq:S.q.length+S.r.length<=90000)(j:S.fN a=false->∃G,iE (S.k5 a) (S.dD a) G/\G 0 (S.k5 a,0))(room:(S.room a 3).1=0->(S.room a 3).2.s.y+3<=a.N):
 Calls prog 57 #[aj hp,dK 7 R A B I n] w fun e w'=>∃c,e=.returned (.tuple #[ah (S.bZ a 4 [A,B]).1,ah (S.bZ a 4 [A,B]).2.1])/\(cw a hp).J c (S.bZ a 4 [A,B]).2.2 w'/\b8 F w c w':=by
 have d:=(au w (cz 7 R A B I n)).alloc Z (.cells #[.int .i64 (A:Int),.int .i64 (B:Int)] 3)
 have b:=aO (w.alloc (cz 7 R A B I n)) (.cells #[.int .i64 (A:Int),.int .i64 (B:Int)] 3)
 have k:(w.alloc (cz 7 R A B I n)).heap.size=w.heap.size+1:=Z;rw[k] at b;have P:=pD ((cw a hp).below h d) 4 [A,B] (ak (w.heap.size+1)) 2 hq j rfl (fun _=>⟨w.heap.size+1,rfl,fun l=>by have:=(cw a hp).lt h _ l;omega,lt_of_some b,fun i hi=>by
  have hi:i<2:=hi;rcases(show i=0\/i=1 by omega) with rfl|rfl<;>simp only [World.cell?,b]<;>rfl⟩) (fun i hi=>by
  have hi:i<2:=hi;rcases(show i=0\/i=1 by omega) with rfl|rfl
  ·exact f
  ·exact hB) room
 have HB:=hide d;generalize S.bZ a 4 [A,B]=g at*;obtain⟨v,cd,m⟩:=g;exact qY
theorem Hm (h:(cw a hp).J F S w)(R A B I n:Int)(hq:S.q.length+S.r.length<=90000)(d:S.fN a=false->∃G,iE (S.k5 a) (S.dD a) G/\G 0 (S.k5 a,0))(room:(S.room a 1).1=0->(S.room a 1).2.s.y+1<=a.N):
 Calls prog 57 #[aj hp,dK 8 R A B I n] w fun e w'=>∃b,e=.returned (.tuple #[ah (S.bZ a 5 []).1,ah (S.bZ a 5 []).2.1])/\(cw a hp).J b (S.bZ a 5 []).2.2 w'/\b8 F w b w':=by
 have c:=au w (cz 8 R A B I n)
 have P:=pD ((cw a hp).below h c) 5 [] none 0 hq d rfl (fun f=>absurd f Z) (fun i hi=>absurd hi Z) room;have HB:=hide c;exact qY
theorem Hn (h:(cw a hp).J F S w)(R B I:Int)(A n:Nat)(m:A<12)(hn:n<=12)(hq:S.q.length+S.r.length<=90000)(o:S.fN a=false->∃G,iE (S.k5 a) (S.dD a) G/\G 0 (S.k5 a,0))(room:(S.room a (1+n)).1=0->(S.room a (1+n)).2.s.y+1+n<=a.N):
 Calls prog 57 #[aj hp,dK 5 R A B I n] w fun e w'=>∃b,e=.returned (.tuple #[ah (S.bZ a 2 (List.replicate n A)).1,ah (S.bZ a 2 (List.replicate n A)).2.1])/\(cw a hp).J b (S.bZ a 2 (List.replicate n A)).2.2 w'/\b8 F w b w':=by
 have f:=(au w (cz 5 R A B I n)).alloc Z (.cells #[.int .i64 (A:Int)] 3)
 have k:=aO (w.alloc (cz 5 R A B I n)) (.cells #[.int .i64 (A:Int)] 3)
 have p:(w.alloc (cz 5 R A B I n)).heap.size=w.heap.size+1:=Z;rw[p] at k;have hl:(List.replicate n A).length=n:=List.length_replicate;have hk:hc 2 (List.replicate n A).length=0:=by rw[hl];rcases(show n=0\/n=1\/n=2\/n=3\/n=4\/n=5\/n=6\/n=7\/n=8\/n=9\/n=10\/n=11\/n=12 by omega) with e|e|e|e|e|e|e|e|e|e|e|e|e<;>(rw[e];rfl)
 have H:=(cw a hp).below h f;have q:((w.alloc (cz 5 R A B I n)).alloc (.cells #[.int .i64 (A:Int)] 3)).cell? (aq (w.heap.size+1) 0)=some (ah (A:Int)):=by simp only [World.cell?,k];rfl
 have s:Calls prog 124 #[.slice (ak (w.heap.size+1)) 1 1,ah n] ((w.alloc (cz 5 R A B I n)).alloc (.cells #[.int .i64 (A:Int)] 3)) fun e w'=>∃nb,e=.returned (.slice (ak nb) n n)/\(0<n->w.heap.size+2<=nb/\w'.heap[nb]?=some (.cells ((List.replicate n (A:Int)).map (Value.int .i64)).toArray 3 (0,0)))/\Below w.heap.size w w':=by
  by_cases h0:0<n
  ·refine(Ha _ (w.heap.size+1) n A h0 hn q).mono ?_;rintro e w' ⟨nb,rfl,g1,g2,g3⟩
   simp at g1;exact⟨nb,rfl,fun _=>⟨V,g2⟩,f.trans (g3.mono (by simp;omega))⟩
  ·obtain rfl:n=0:=V;refine(Hb _ (w.heap.size+1) A).mono ?_;rintro e w' ⟨nb,rfl,g3⟩
   exact⟨nb,rfl,fun c=>absurd c V,f.trans (g3.mono (by simp;omega))⟩
 have u:∀d nb,Below w.heap.size w d->(0<n->w.heap.size+2<=nb/\d.heap[nb]?=some (.cells ((List.replicate n (A:Int)).map (Value.int .i64)).toArray 3 (0,0)))->Calls prog 123 #[aj hp,ah 2,.slice (ak nb) n n] d fun e w'=>∃b,e=.returned (.tuple #[ah (S.bZ a 2 (List.replicate n A)).1,ah (S.bZ a 2 (List.replicate n A)).2.1])/\(cw a hp).J b (S.bZ a 2 (List.replicate n A)).2.2 w'/\b8 F w b w':=fun d nb hb hr=>by
  have P:=pD ((cw a hp).below h hb) 2 (List.replicate n A) (ak nb) n hq o hk (fun c=>by
   rw[hl] at c;obtain⟨g1,g2⟩:=hr c;refine⟨nb,rfl,fun c=>by have:=(cw a hp).lt h _ c;omega,lt_of_some g2,fun i hi=>?_⟩
   rw[hl] at hi;have e:(List.replicate n A).getD i 0=A:=by rw[aE,List.getElem?_replicate_of_lt hi];rfl
   rw[e];simp[World.cell?,g2,hi]) (fun i hi=>by
   rw[hl] at hi;rw[aE,List.getElem?_replicate_of_lt hi];exact m) (by rw[hl];exact room)
  rw[hl] at P;refine P.mono ?_;rintro e w' ⟨b,rfl,j,t⟩
  exact⟨b,rfl,j,(b8.of hb).trans t⟩
 have x:=hide u;generalize S.bZ a 2 (List.replicate n A)=g at*;obtain⟨v,cd,J⟩:=g;go_enter func57,ntmps57;go_wp2_with fail;refine s.mono ?_;rintro e d ⟨nb,rfl,hr,hb⟩
 have P:=x.o d nb hb hr;go_wp2_with fail;refine P.mono ?_;rintro e K ⟨C,rfl,D,E⟩
 have l:=dq D E;go_wp2_with fail;go_ret2;exact⟨C,rfl,l.o.1,l.o.2⟩
theorem Ho (h:(cw a hp).J F S w)(R B I n:Int)(A:Nat)(f:A<12):
 Calls prog 57 #[aj hp,dK 3 R A B I n] w fun e w'=>e=.returned (.tuple #[ah (S.s.rs.getD A 0),ah 0])/\Below w.heap.size w w':=by
 have b:=au w (cz 3 R A B I n)
 have c:=aO w (.cells #[.int .i64 3,.int .i64 R,.int .i64 (A:Int),.int .i64 B,.int .i64 I,.int .i64 n] 44)
 have d:=(cw a hp).below h b;obtain⟨h0,c0,c3,rt,_⟩:=eh d;obtain⟨r1,_⟩:=rt A f;skip;obtain⟨q0,q1,j,q3,k,l⟩:=eu c;have fx:¬F w.heap.size:=fun g=>by have:=(cw a hp).lt h _ g;omega
 have i:=hide b;clear h d rt b c fx;generalize S.s.rs.getD A 0=x at*;go_enter func57,ntmps57
 go_upto_region 6 with fail
 go_quiet (fail)
 go_wp2_with fail;go_ret2;exact⟨rfl,below_drewN i.o _⟩
theorem Hp (h:(cw a hp).J F S w)(R B I n:Int)(A:Nat)(q:A<12)(hq:S.q.length<=90000):
 Calls prog 57 #[aj hp,dK 10 R A B I n] w fun e w'=>∃b,e=.returned (.tuple #[ah (S.pop a (S.s.rs.getD A 0)).1,ah (S.pop a (S.s.rs.getD A 0)).2.1])/\(cw a hp).J b (S.pop a (S.s.rs.getD A 0)).2.2 w'/\b8 F w b w':=by
 have c:=au w (cz 10 R A B I n)
 have d:=aO w (.cells #[.int .i64 10,.int .i64 R,.int .i64 (A:Int),.int .i64 B,.int .i64 I,.int .i64 n] 44)
 have k:=(cw a hp).below h c;obtain⟨h0,c0,c3,rt,_⟩:=eh k;obtain⟨r1,_⟩:=rt A q;have l:=(cw a hp).below k (aH _ (w.alloc (cz 10 R A B I n))).drew;have s:=GY l (S.s.rs.getD A 0) hq;obtain⟨q0,q1,G,q3,P,Q⟩:=eu d;have u:Below w.heap.size w (w.alloc (cz 10 R A B I n)).drew:=c.trans ((aH _ (w.alloc (cz 10 R A B I n))).drew.mono c.size)
 have U:(0:Int)<=(A:Int):=V;have W:(A:Int)<12:=V;have H:w.heap.size<(w.alloc (cz 10 R A B I n)).heap.size:=lt_of_some d;have fx:¬F w.heap.size:=fun J=>by have:=(cw a hp).lt h _ J;omega
 have C:ay ((cw a hp).J F S (w.alloc (cz 10 R A B I n)).drew/\Below w.heap.size w (w.alloc (cz 10 R A B I n)).drew/\(w.alloc (cz 10 R A B I n)).drew.heap[w.heap.size]?=some (cz 10 R A B I n)/\¬F w.heap.size):=⟨l,u,d,fx⟩
 have X:ay (Below w.heap.size w (w.alloc (cz 10 R A B I n))):=c;clear h k l rt c u d fx;have Y:ay (S.s.rs.getD A 0=S.s.rs.getD A 0):=rfl;have K:ay ((S.pop a (S.s.rs.getD A 0)).2.2.s.rs=S.s.rs):=Hh a S (S.s.rs.getD A 0)
 generalize S.pop a (S.s.rs.getD A 0)=g at*;obtain⟨v,cd,L⟩:=g;dsimp only at*;go_enter func57,ntmps57
 go_upto_region 18 with fail
 generalize w.alloc (cz 10 R A B I n)=w0 at*;generalize M:w.heap.size=f at*;have N:ay (∀b w' m,(cw a hp).J b m w'->b8 F w0.drew b w'->m.s.rs=S.s.rs->(w'.cell? ⟨hp,0,none⟩=some (.pointer (some ⟨a.pw,0,none⟩))/\w'.cell? ⟨a.pw,3,none⟩=some (.slice (some ⟨a.nb,0,none⟩) 12 12)/\w'.cell? ⟨a.nb,A,none⟩=some (.int .i64 (S.s.rs.getD A 0)))/\w'.cell? ⟨f,2,none⟩=some (.int .i64 (A:Int))):=fun b w' m j t O=>by obtain⟨g0,_,g3,D,_⟩:=eh j;rw[O] at D;exact⟨⟨g0,g3,(D A q).1⟩,(aP (a:=⟨f,2,none⟩) (t.fr.block f H C.o.2.2.2)).trans G⟩
 generalize S.s.rs.getD A 0=x at*
 go_region_held3 (fun w'=>w'.cell? (aq hp 0)=some (aj a.pw)/\w'.cell? (aq a.pw 3)=some (.slice (ak a.nb) 12 12)/\w'.cell? (aq a.nb A)=some (ah x)/\w'.cell? (aq f 2)=some (ah (A:Int))) (go_keep)
  (first
    |(go_at_call 125;refine s.mono ?_;clear s;rintro e o ⟨i,rfl,j2,p⟩;obtain⟨⟨g0,g3,gr⟩,ab⟩:=N.o i o _ j2 p K.o;have E:ay ((cw a hp).J i L o/\b8 F w i o):=⟨j2,(b8.of (by rw[M];exact C.o.2.1)).trans p⟩;clear j2 p))
 go_wp2_with fail;go_ret2;exact⟨i,rfl,E.o.1,E.o.2⟩
theorem Hq (h:(cw a hp).J F S w)(R B I n:Int)(A:Nat)(k:A<12):
 Calls prog 57 #[aj hp,dK 13 R A B I n] w fun e w'=>e=.returned (.tuple #[ah (S.len a (S.s.rs.getD A 0)).1,ah (S.len a (S.s.rs.getD A 0)).2.1])/\Below w.heap.size w w':=by
 have c:=au w (cz 13 R A B I n)
 have d:=aO w (.cells #[.int .i64 13,.int .i64 R,.int .i64 (A:Int),.int .i64 B,.int .i64 I,.int .i64 n] 44)
 have g:=(cw a hp).below h c;obtain⟨h0,c0,c3,rt,_⟩:=eh g;obtain⟨r1,_⟩:=rt A k;have i:=(cw a hp).below g (aH _ (w.alloc (cz 13 R A B I n))).drew;have l:=GX i (S.s.rs.getD A 0)
 obtain⟨q0,q1,o,q3,E,G⟩:=eu d;have b:Below w.heap.size w (w.alloc (cz 13 R A B I n)).drew:=c.trans ((aH _ (w.alloc (cz 13 R A B I n))).drew.mono c.size)
 have H:(0:Int)<=(A:Int):=V;have J:(A:Int)<12:=V;have q:w.heap.size<(w.alloc (cz 13 R A B I n)).heap.size:=lt_of_some d;have fx:¬F w.heap.size:=fun s=>by have:=(cw a hp).lt h _ s;omega
 have j:ay ((cw a hp).J F S (w.alloc (cz 13 R A B I n)).drew/\Below w.heap.size w (w.alloc (cz 13 R A B I n)).drew/\(w.alloc (cz 13 R A B I n)).drew.heap[w.heap.size]?=some (cz 13 R A B I n)/\¬F w.heap.size):=⟨i,b,d,fx⟩
 have K:ay (Below w.heap.size w (w.alloc (cz 13 R A B I n))):=c;clear h g i rt c b d fx;have L:ay (S.s.rs.getD A 0=S.s.rs.getD A 0):=rfl;generalize (S.len a (S.s.rs.getD A 0)).1=v at*;generalize (S.len a (S.s.rs.getD A 0)).2.1=cd at*;go_enter func57,ntmps57
 go_upto_region 22 with fail
 generalize w.alloc (cz 13 R A B I n)=w0 at*;generalize t:w.heap.size=f at*;have u:ay (∀w',Below w0.drew.heap.size w0.drew w'->(w'.cell? ⟨hp,0,none⟩=some (.pointer (some ⟨a.pw,0,none⟩))/\w'.cell? ⟨a.pw,3,none⟩=some (.slice (some ⟨a.nb,0,none⟩) 12 12)/\w'.cell? ⟨a.nb,A,none⟩=some (.int .i64 (S.s.rs.getD A 0)))/\w'.cell? ⟨f,2,none⟩=some (.int .i64 (A:Int))):=fun w' hb=>by
  obtain⟨g0,_,g3,C,_⟩:=eh ((cw a hp).below j.o.1 hb)
  exact⟨⟨g0,g3,(C A k).1⟩,(hb.cell (p:=aq f 2) q).trans o⟩
 generalize S.s.rs.getD A 0=x at*
 go_region_held3 (fun w'=>w'.cell? (aq hp 0)=some (aj a.pw)/\w'.cell? (aq a.pw 3)=some (.slice (ak a.nb) 12 12)/\w'.cell? (aq a.nb A)=some (ah x)/\w'.cell? (aq f 2)=some (ah (A:Int))) (go_keep)
  (first
    |(go_at_call 126;refine l.mono ?_;clear l;rintro e m ⟨rfl,b⟩;obtain⟨⟨g0,g3,gr⟩,M⟩:=u.o m b;have D:ay (Below f w m):=j.o.2.1.trans (b.mono (by have:=j.o.2.1.size;omega));clear b))
 go_wp2_with fail;go_ret2;exact⟨rfl,by rw[t];exact D.o⟩
theorem Hr (h:(cw a hp).J F S w)(R B I n:Int)(A:Nat)(k:A<12):
 Calls prog 57 #[aj hp,dK 11 R A B I n] w fun e w'=>e=.returned (.tuple #[ah (if el a.N S.s.y S.s.g S.s.ws (S.s.rs.getD A 0) I=0 then ld a.N S.s.y S.s.g S.s.ws (cg (S.s.rs.getD A 0)+1+I) else 0),ah (el a.N S.s.y S.s.g S.s.ws (S.s.rs.getD A 0) I)])/\Below w.heap.size w w':=by
 have d:=au w (cz 11 R A B I n)
 have f:=aO w (.cells #[.int .i64 11,.int .i64 R,.int .i64 (A:Int),.int .i64 B,.int .i64 I,.int .i64 n] 44)
 have i:=(cw a hp).below h d;obtain⟨h0,c0,c3,rt,_⟩:=eh i;obtain⟨r1,_⟩:=rt A k;have g:=(cw a hp).below i (aH _ (w.alloc (cz 11 R A B I n))).drew;have l:=C_ (S.s.rs.getD A 0) I (w.alloc (cz 11 R A B I n)).drew (eh g).c0 (lz g).1;obtain⟨q0,q1,q,q3,s,G⟩:=eu f;have c:Below w.heap.size w (w.alloc (cz 11 R A B I n)).drew:=d.trans ((aH _ (w.alloc (cz 11 R A B I n))).drew.mono d.size)
 have H:(0:Int)<=(A:Int):=V;have J:(A:Int)<12:=V;have m:w.heap.size<(w.alloc (cz 11 R A B I n)).heap.size:=lt_of_some f;have fx:¬F w.heap.size:=fun t=>by have:=(cw a hp).lt h _ t;omega
 have j:ay ((cw a hp).J F S (w.alloc (cz 11 R A B I n)).drew/\Below w.heap.size w (w.alloc (cz 11 R A B I n)).drew/\(w.alloc (cz 11 R A B I n)).drew.heap[w.heap.size]?=some (cz 11 R A B I n)/\¬F w.heap.size):=⟨g,c,f,fx⟩
 have K:ay (Below w.heap.size w (w.alloc (cz 11 R A B I n))):=d;clear h i g rt d c f fx;have L:ay (S.s.rs.getD A 0=S.s.rs.getD A 0):=rfl;generalize (if el a.N S.s.y S.s.g S.s.ws (S.s.rs.getD A 0) I=0 then ld a.N S.s.y S.s.g S.s.ws (cg (S.s.rs.getD A 0)+1+I) else 0)=v at*;generalize el a.N S.s.y S.s.g S.s.ws (S.s.rs.getD A 0) I=cd at*;go_enter func57,ntmps57
 go_upto_region 20 with fail
 generalize w.alloc (cz 11 R A B I n)=w0 at*;generalize u:w.heap.size=b at*;have C:ay (∀w',Below w0.drew.heap.size w0.drew w'->(w'.cell? ⟨hp,0,none⟩=some (.pointer (some ⟨a.pw,0,none⟩))/\w'.cell? ⟨a.pw,3,none⟩=some (.slice (some ⟨a.nb,0,none⟩) 12 12)/\w'.cell? ⟨a.nb,A,none⟩=some (.int .i64 (S.s.rs.getD A 0)))/\w'.cell? ⟨b,2,none⟩=some (.int .i64 (A:Int))/\w'.cell? ⟨b,4,none⟩=some (.int .i64 I)):=fun w' hb=>by
  obtain⟨g0,_,g3,D,_⟩:=eh ((cw a hp).below j.o.1 hb)
  exact⟨⟨g0,g3,(D A k).1⟩,(hb.cell (p:=aq b 2) m).trans q,(hb.cell (p:=aq b 4) m).trans s⟩
 generalize S.s.rs.getD A 0=x at*
 go_region_held3 (fun w'=>w'.cell? (aq hp 0)=some (aj a.pw)/\w'.cell? (aq a.pw 3)=some (.slice (ak a.nb) 12 12)/\w'.cell? (aq a.nb A)=some (ah x)/\w'.cell? (aq b 2)=some (ah (A:Int))/\w'.cell? (aq b 4)=some (ah I)) (go_keep)
  (first
    |(go_at_call 45;refine l.mono ?_;clear l;rintro e o ⟨rfl,c⟩;obtain⟨⟨g0,g3,gr⟩,M,N⟩:=C.o o c;have E:ay (Below b w o):=j.o.2.1.trans (c.mono (by have:=j.o.2.1.size;omega));clear c))
 go_wp2_with fail;go_ret2;exact⟨rfl,by rw[u];exact E.o⟩
theorem Hs (h:(cw a hp).J F S w)(R I n:Int)(A B:Nat)(j:A<12)(hB:B<12):
 Calls prog 57 #[aj hp,dK 14 R A B I n] w fun e w'=>e=.returned (.tuple #[ah (if S.s.rs.getD A 0=S.s.rs.getD B 0 then ew 1 1 else ew 1 0),ah 0])/\Below w.heap.size w w':=by
 have d:=au w (cz 14 R A B I n)
 have f:=aO w (.cells #[.int .i64 14,.int .i64 R,.int .i64 (A:Int),.int .i64 (B:Int),.int .i64 I,.int .i64 n] 44)
 have g:=(cw a hp).below h d;obtain⟨h0,c0,c3,rt,_⟩:=eh g;obtain⟨r1,_⟩:=rt A j;obtain⟨C,_⟩:=rt B hB;obtain⟨q0,q1,q,q3,D,E⟩:=eu f;have c:Below w.heap.size w (w.alloc (cz 14 R A B I n)).drew:=d.trans ((aH _ (w.alloc (cz 14 R A B I n))).drew.mono d.size)
 have G:(0:Int)<=(A:Int):=V;have H:(A:Int)<12:=V;have J:(0:Int)<=(B:Int):=V;have K:(B:Int)<12:=V;have k:=GW (S.s.rs.getD A 0) (S.s.rs.getD B 0) (w.alloc (cz 14 R A B I n)).drew;have l:w.heap.size<(w.alloc (cz 14 R A B I n)).heap.size:=lt_of_some f;have i:ay ((cw a hp).J F S (w.alloc (cz 14 R A B I n)).drew/\Below w.heap.size w (w.alloc (cz 14 R A B I n)).drew/\(w.alloc (cz 14 R A B I n)).drew.heap[w.heap.size]?=some (cz 14 R A B I n)):=⟨(cw a hp).below g (aH _ (w.alloc (cz 14 R A B I n))).drew,c,f⟩
 clear h g rt d c f;have L:ay (S.s.rs.getD A 0=S.s.rs.getD A 0):=rfl;generalize (if S.s.rs.getD A 0=S.s.rs.getD B 0 then ew 1 1 else ew 1 0)=v at*;go_enter func57,ntmps57
 go_upto_region 24 with fail
 generalize w.alloc (cz 14 R A B I n)=w0 at*;generalize s:w.heap.size=b at*;have t:ay (∀w',Below w0.drew.heap.size w0.drew w'->(w'.cell? ⟨hp,0,none⟩=some (.pointer (some ⟨a.pw,0,none⟩))/\w'.cell? ⟨a.pw,3,none⟩=some (.slice (some ⟨a.nb,0,none⟩) 12 12)/\w'.cell? ⟨a.nb,A,none⟩=some (.int .i64 (S.s.rs.getD A 0))/\w'.cell? ⟨a.nb,B,none⟩=some (.int .i64 (S.s.rs.getD B 0)))/\w'.cell? ⟨b,2,none⟩=some (.int .i64 (A:Int))/\w'.cell? ⟨b,3,none⟩=some (.int .i64 (B:Int))):=fun w' hb=>by
  obtain⟨g0,_,g3,m,_⟩:=eh ((cw a hp).below i.o.1 hb)
  exact⟨⟨g0,g3,(m A j).1,(m B hB).1⟩,(hb.cell (p:=aq b 2) l).trans q,(hb.cell (p:=aq b 3) l).trans q3⟩
 generalize S.s.rs.getD A 0=x at*;generalize S.s.rs.getD B 0=y at*
 go_region_held3 (fun w'=>w'.cell? (aq hp 0)=some (aj a.pw)/\w'.cell? (aq a.pw 3)=some (.slice (ak a.nb) 12 12)/\w'.cell? (aq a.nb A)=some (ah x)/\w'.cell? (aq a.nb B)=some (ah y)/\w'.cell? (aq b 2)=some (ah (A:Int))/\w'.cell? (aq b 3)=some (ah (B:Int))) (go_keep)
  (first
    |(go_at_call 127;refine k.mono ?_;clear k;rintro e o ⟨rfl,c⟩;obtain⟨⟨g0,g3,gr,M⟩,N,O⟩:=t.o o c;have u:ay (Below b w o):=i.o.2.1.trans (c.mono (by have:=i.o.2.1.size;omega));clear c))
 go_wp2_with fail;go_ret2;exact⟨rfl,by rw[s];exact u.o⟩
theorem Ht (R A B I n:Int)(w:ax)(hp:Nat):
 Calls prog 57 #[aj hp,dK 2 R A B I n] w fun e w'=>e=.returned (.tuple #[ah 2,ah 0])/\Below w.heap.size w w':=by
 have b:=au w (cz 2 R A B I n)
 go_enter func57,ntmps57;go_wp2_with fail;refine(sf _).mono ?_;rintro e w1 ⟨rfl,hw⟩
 have hw:=hw.symm;subst hw;go_wp2_with fail;go_ret2;exact⟨rfl,b⟩
theorem Hu (h:(cw a hp).J F S w){j:Nat}(ok:dW a S j)(hb:cI a S.s)(k R A B I n:Int)(hk:dJ k R A B n=0)(H:k≠9)(J:k≠12)(K:k≠15)(L:k≠16):
 Calls prog 57 #[aj hp,dK k R A B I n] w fun e w'=>∃i,e=.returned (.tuple #[ah (S.rt a k A.toNat B.toNat I n).1,ah (S.rt a k A.toNat B.toNat I n).2.1])/\(cw a hp).J i (S.rt a k A.toNat B.toNat I n).2.2 w'/\b8 F w i w':=by
 have hq:S.q.length+S.r.length<=90000:=by have:=ok.jX;omega
 have l:=ok.qN hb;have low:∀{Q:Int×Int×cq},(Calls prog 57 #[aj hp,dK k R A B I n] w fun e w'=>e=.returned (.tuple #[ah Q.1,ah Q.2.1])/\Below w.heap.size w w')->Q.2.2=S->Calls prog 57 #[aj hp,dK k R A B I n] w fun e w'=>∃i,e=.returned (.tuple #[ah Q.1,ah Q.2.1])/\(cw a hp).J i Q.2.2 w'/\b8 F w i w':=fun {Q} P e=>by
  refine P.mono ?_;rintro N w' ⟨rfl,hb⟩
  rw[e];exact⟨F,rfl,(cw a hp).below h hb,b8.of hb⟩
 have g:(c8 k=3\/c8 k=6\/c8 k=7)->∃c:Nat,A=c/\c<12:=fun o=>by have:=ly hk o;exact⟨A.toNat,V,V⟩
 have f3:(c8 k=6\/c8 k=7)->∃f:Nat,B=f/\f<12:=fun o=>by have:=l5 hk o;exact⟨B.toNat,V,V⟩
 have rm:∀m:Nat,m<=12->(S.room a (1+m)).1=0->(S.room a (1+m)).2.s.y+1+m<=a.N:=fun m hm e=>by have:=(ok.room hb (1+m)).2.2.1 e V;omega
 unfold cq.rt;by_cases p:k=1
 ·rw[aI p];subst p;exact low (Fe R A B I n w hp) rfl
 rw[aG p];by_cases q:k=3
 ·rw[aI q];subst q;obtain⟨c,rfl,d⟩:=g aa;rw[Int.toNat_natCast];exact low (Ho h R B I n c d) rfl
 rw[aG q];by_cases s:k=4
 ·rw[aI s];subst s;obtain⟨c,rfl,d⟩:=g aa;obtain⟨f,rfl,hB⟩:=f3 aa;rw[Int.toNat_natCast,Int.toNat_natCast];exact Hj h R I n c f d hB hq l (rm 2 V)
 rw[aG s];by_cases t:k=5
 ·rw[aI t];subst t;obtain⟨c,rfl,d⟩:=g aa;have hn:hc 2 n=0:=zZ hk;have hn:=iS 2 n hn;obtain⟨n,rfl⟩:=Int.eq_ofNat_of_zero_le (show 0<=n by omega)
  rw[Int.toNat_natCast];exact Hn h R B I c n d V hq l (rm n V)
 rw[aG t];by_cases u:k=6
 ·rw[aI u];subst u;obtain⟨c,rfl,d⟩:=g aa;obtain⟨f,rfl,hB⟩:=f3 aa;rw[Int.toNat_natCast,Int.toNat_natCast];exact Hk h R I n c f d hB hq l (rm 2 V)
 rw[aG u];by_cases v:k=7
 ·rw[aI v];subst v;obtain⟨c,rfl,d⟩:=g aa;obtain⟨f,rfl,hB⟩:=f3 aa;rw[Int.toNat_natCast,Int.toNat_natCast];exact Hl h R I n c f d hB hq l (rm 2 V)
 rw[aG v];by_cases x:k=8
 ·rw[aI x];subst x;exact Hm h R A B I n hq l (rm 0 V)
 rw[aG x];by_cases C:k=10
 ·rw[aI C];subst C;obtain⟨c,rfl,d⟩:=g aa;rw[Int.toNat_natCast];exact Hp h R B I n c d V
 rw[aG C];by_cases D:k=11
 ·rw[aI D];subst D;obtain⟨c,rfl,d⟩:=g aa;rw[Int.toNat_natCast];exact low (Hr h R B I n c d) rfl
 rw[aG D];by_cases E:k=13
 ·rw[aI E];subst E;obtain⟨c,rfl,d⟩:=g aa;rw[Int.toNat_natCast];exact low (Hq h R B I n c d) (by unfold cq.len;split<;>rfl)
 rw[aG E];by_cases G:k=14
 ·rw[aI G];subst G;obtain⟨c,rfl,d⟩:=g aa;obtain⟨f,rfl,hB⟩:=f3 aa;rw[Int.toNat_natCast,Int.toNat_natCast];exact low (Hs h R I n c f d hB) rfl
 rw[aG G];have M:k=2:=by
  rcases o6 k with b|b|b|b|b|b|b|b|b|b|b|b|b|b|b|b|b
  all_goals
   first
    |exact b
    |exact absurd b p
    |exact absurd b q
    |exact absurd b s
    |exact absurd b t
    |exact absurd b u
    |exact absurd b v
    |exact absurd b x
    |exact absurd b H
    |exact absurd b C
    |exact absurd b D
    |exact absurd b J
    |exact absurd b E
    |exact absurd b G
    |exact absurd b K
    |exact absurd b L
    |(have o:=o7 b;unfold dJ at hk;rw[aI o] at hk;omega)
 subst M;exact low (Ht R A B I n w hp) rfl
end
section
variable {a:Wc}{hp:Nat}{F:Nat->Prop}{S:cq}{w:ax}
theorem ou (h:(cw a hp).J F S w):cI a S.s:=by obtain⟨c,b,_⟩:=kk h;obtain⟨d,g1,_⟩:=m5 b;obtain⟨_,_,_,_,_,rl,_⟩:=jN g1;have ha:=(kJ g1).1;exact⟨ha.hN,ha.hN',ha.hO,ha.hy,ha.hg,ha.hl,rl⟩
theorem Hv (h:(cw a hp).J F S w)(x i z:Int)(hM:S.s.M.length<=100000):
 Calls prog 44 #[aj a.pw,ah x,ah i,ah z] w fun e w'=>∃b,e=.returned (ah (el a.N S.s.y S.s.g S.s.ws x i))/\(cw a hp).J b (S.set a x i z) w'/\b8 F w b w':=by
 obtain⟨l,c,_,d⟩:=kk h;obtain⟨m,g1,g2⟩:=m5 c;refine(EB g1 x i z hM).mono ?_;rintro e w' ⟨rfl,f,g⟩
 obtain⟨n,j2,j⟩:=g2 _ _ _ f g;obtain⟨k,cA,t3⟩:=d _ _ _ j2 j;exact⟨k,rfl,cA,t3⟩
theorem Hw {k R A B n:Int}(hc:dJ k R A B n=0)(c:k≠9)(d:k≠12)(e:k≠15)(f:k≠16):c8 k=1\/c8 k=3\/c8 k=7:=by
 rcases o6 k with b|b|b|b|b|b|b|b|b|b|b|b|b|b|b|b|b
 case' inr.inr.inr.inr.inr.inr.inr.inr.inr.inr.inr.inr.inr.inr.inr.inr=>
  have:=o7 b;unfold dJ at hc;rw[aI this] at hc;omega
 all_goals
  first
   |(subst b;decide)
   |(exfalso;omega)
theorem Hx (k R A B I n:Int)(hc:dJ k R A B n≠0):
 Calls prog 20 #[aj hp,dK k R A B I n] w fun e w'=>e=.returned (ah (dJ k R A B n))/\Below w.heap.size w w':=by
 have b:=au w (cz k R A B I n)
 have c:=jx k R A B I n (w.alloc (cz k R A B I n))
 have d:ay (Below w.heap.size w (w.alloc (cz k R A B I n))):=b;have cb:(dJ k R A B n==0)=false:=by simpa using hc
 generalize dJ k R A B n=cd at*;clear b hc;go_enter func20,ntmps20;go_wp2_with fail;refine c.mono ?_;clear c;rintro e w1 ⟨rfl,f⟩
 have g:=d.o.trans (f.mono d.o.size)
 clear f;go_wp2_with fail;go_ret;exact⟨rfl,g⟩
theorem Hy (h:(cw a hp).J F S w)(R A B I n:Int)(hc:dJ 15 R A B n=0)(hq:S.q.length+S.r.length<=90000):
 Calls prog 20 #[aj hp,dK 15 R A B I n] w fun e w'=>∃b,e=.returned (ah (S.code a))/\(cw a hp).J b (S.cut a) w'/\b8 F w b w':=by
 have c:=au w (cz 15 R A B I n)
 have d:=aO w (.cells #[.int .i64 15,.int .i64 R,.int .i64 A,.int .i64 B,.int .i64 I,.int .i64 n] 44)
 have PC:=jx 15 R A B I n (w.alloc (cz 15 R A B I n))
 rw[hc] at PC;have HJ:ay ((cw a hp).J F S w/\Below w.heap.size w (w.alloc (cz 15 R A B I n))/\(w.alloc (cz 15 R A B I n)).heap[w.heap.size]?=some (cz 15 R A B I n)):=⟨h,c,d⟩
 have zP:ay (∀b w',(cw a hp).J b S w'->Calls prog 50 #[aj a.pw] w' fun e f=>∃F2,e=.returned (ah (S.code a))/\(cw a hp).J F2 (S.cut a) f/\b8 b w' F2 f):=fun b w' g=>zM g hq;generalize S.cut a=S2 at*;generalize S.code a=cd at*;clear h c hc d;go_enter func20,ntmps20;go_wp2_with fail;generalize w.alloc (cz 15 R A B I n)=w0 at*;exact zO
theorem Hz (h:(cw a hp).J F S w)(R A B I n:Int)(hc:dJ 16 R A B n=0)(hq:S.q.length+S.r.length<=90000)(c:S.fN a=false->∃G,iE (S.k5 a) (S.dD a) G/\G 0 (S.k5 a,0)):
 Calls prog 20 #[aj hp,dK 16 R A B I n] w fun e w'=>∃b,e=.returned (ah (S.ij a))/\(cw a hp).J b (S.dz a) w'/\b8 F w b w':=by
 have d:=au w (cz 16 R A B I n)
 have f:=aO w (.cells #[.int .i64 16,.int .i64 R,.int .i64 A,.int .i64 B,.int .i64 I,.int .i64 n] 44)
 have PC:=jx 16 R A B I n (w.alloc (cz 16 R A B I n))
 rw[hc] at PC;have HJ:ay ((cw a hp).J F S w/\Below w.heap.size w (w.alloc (cz 16 R A B I n))/\(w.alloc (cz 16 R A B I n)).heap[w.heap.size]?=some (cz 16 R A B I n)):=⟨h,d,f⟩
 have zP:ay (∀b w',(cw a hp).J b S w'->Calls prog 37 #[aj a.pw] w' fun e g=>∃F2,e=.returned (ah (S.ij a))/\(cw a hp).J F2 (S.dz a) g/\b8 b w' F2 g):=fun b w' i=>zN i hq c;generalize S.dz a=S2 at*;generalize S.ij a=cd at*;clear h d hc f c;go_enter func20,ntmps20;go_wp2_with fail;generalize w.alloc (cz 16 R A B I n)=w0 at*;exact zO
theorem HD (h:(cw a hp).J F S w)(R I n:Int)(A B:Nat)(v:A<12)(hB:B<12)(hc:dJ 9 R A B n=0)(hr:S.r.length<=90000)(hq:S.q.length<=90000):
 Calls prog 20 #[aj hp,dK 9 R A B I n] w fun e w'=>∃b,e=.returned (ah (S.reg a (S.s.rs.getD A 0) (S.s.rs.getD B 0)).1)/\(cw a hp).J b (S.reg a (S.s.rs.getD A 0) (S.s.rs.getD B 0)).2 w'/\b8 F w b w':=by
 have C:=au w (cz 9 R A B I n)
 have D:=aO w (.cells #[.int .i64 9,.int .i64 R,.int .i64 (A:Int),.int .i64 (B:Int),.int .i64 I,.int .i64 n] 44)
 have i:=jx 9 R A B I n (w.alloc (cz 9 R A B I n))
 rw[hc] at i;have d:ay ((cw a hp).J F S w/\Below w.heap.size w (w.alloc (cz 9 R A B I n))/\(w.alloc (cz 9 R A B I n)).heap[w.heap.size]?=some (cz 9 R A B I n)/\¬F w.heap.size):=⟨h,C,D,fun K=>by have:=(cw a hp).lt h _ K;omega⟩
 have ab:(0:Int)<=(A:Int):=V;have ad:(A:Int)<12:=V;have ag:(0:Int)<=(B:Int):=V;have ai:(B:Int)<12:=V;have L:ay (∀b w',(cw a hp).J b S w'->Calls prog 56 #[aj hp,ah (S.s.rs.getD A 0),ah (S.s.rs.getD B 0)] w' fun e E=>∃f,e=.returned (ah (S.reg a (S.s.rs.getD A 0) (S.s.rs.getD B 0)).1)/\(cw a hp).J f (S.reg a (S.s.rs.getD A 0) (S.s.rs.getD B 0)).2 E/\b8 b w' f E):=fun b w' M=>GZ M _ _ hr hq;have N:ay ((S.reg a (S.s.rs.getD A 0) (S.s.rs.getD B 0)).2.s.rs=S.s.rs):=Hi a S _ _;generalize S.reg a (S.s.rs.getD A 0) (S.s.rs.getD B 0)=g at*;obtain⟨cd,O⟩:=g;dsimp only at*;clear h C hc D;go_enter func20,ntmps20;go_wp2_with fail;generalize w.alloc (cz 9 R A B I n)=w0 at*;generalize Q:w.heap.size=c at*;refine i.mono ?_;clear i;rintro e w1 ⟨rfl,k⟩
 have l:Below w.heap.size w w1:=by rw[Q];exact d.o.2.1.trans (k.mono (by have:=lt_of_some d.o.2.2.1;omega))
 have m:=(k.block c (lt_of_some d.o.2.2.1)).trans d.o.2.2.1;obtain⟨q0,q1,U,q3,al,am⟩:=eu m;have o:=(cw a hp).below d.o.1 l;obtain⟨h0,c0,c3,rt,_⟩:=eh o;obtain⟨r1,_⟩:=rt A v;obtain⟨an,_⟩:=rt B hB;have G:=(cw a hp).below o (aH _ w1).drew;have P:=L.o F w1.drew G;have W:ay (b8 F w F w1.drew):=(b8.of l).below (aH _ w1).drew;have H:=lt_of_some m;have X:ay (∀b w' p,(cw a hp).J b p w'->b8 F w1.drew b w'->p.s.rs=S.s.rs->(w'.cell? (aq hp 0)=some (aj a.pw)/\w'.cell? (aq a.pw 3)=some (.slice (ak a.nb) 12 12)/\w'.cell? (aq a.nb A)=some (ah (S.s.rs.getD A 0))/\w'.cell? (aq a.nb B)=some (ah (S.s.rs.getD B 0)))/\w'.cell? (aq c 2)=some (ah (A:Int))/\w'.cell? (aq c 3)=some (ah (B:Int))):=fun b w' p j t Y=>by obtain⟨g0,_,g3,q,_⟩:=eh j;rw[Y] at q;exact⟨⟨g0,g3,(q A v).1,(q B hB).1⟩,(aP (a:=⟨c,2,none⟩) (t.fr.block c H d.o.2.2.2)).trans U,(aP (a:=⟨c,3,none⟩) (t.fr.block c H d.o.2.2.2)).trans q3⟩
 clear k l o G rt m;have ao:ay (S.s.rs.getD A 0=S.s.rs.getD A 0):=rfl;generalize S.s.rs.getD A 0=x at*;generalize S.s.rs.getD B 0=y at*;go_wp2_with fail
 go_region_held3 (fun w'=>w'.cell? (aq hp 0)=some (aj a.pw)/\w'.cell? (aq a.pw 3)=some (.slice (ak a.nb) 12 12)/\w'.cell? (aq a.nb A)=some (ah x)/\w'.cell? (aq a.nb B)=some (ah y)/\w'.cell? (aq c 2)=some (ah (A:Int))/\w'.cell? (aq c 3)=some (ah (B:Int))) (go_keep)
  (first
    |(go_at_call 56;refine P.mono ?_;clear P;rintro e s ⟨f,rfl,j2,u⟩;obtain⟨⟨g0,g3,gr,ap⟩,ar,aB⟩:=X.o f s _ j2 u N.o;have J:ay ((cw a hp).J f O s/\b8 F w f s):=⟨j2,W.o.trans u⟩;clear j2 u))
 go_wp2_with fail;go_ret;exact⟨f,rfl,J.o.1,J.o.2⟩
theorem HE (h:(cw a hp).J F S w)(R I n:Int)(A B:Nat)(v:A<12)(hB:B<12)(hc:dJ 12 R A B n=0)(hM:S.s.M.length<=100000):
 Calls prog 20 #[aj hp,dK 12 R A B I n] w fun e w'=>∃c,e=.returned (ah (el a.N S.s.y S.s.g S.s.ws (S.s.rs.getD A 0) I))/\(cw a hp).J c (S.set a (S.s.rs.getD A 0) I (S.s.rs.getD B 0)) w'/\b8 F w c w':=by
 have C:=au w (cz 12 R A B I n)
 have D:=aO w (.cells #[.int .i64 12,.int .i64 R,.int .i64 (A:Int),.int .i64 (B:Int),.int .i64 I,.int .i64 n] 44)
 have g:=jx 12 R A B I n (w.alloc (cz 12 R A B I n))
 rw[hc] at g;have d:ay ((cw a hp).J F S w/\Below w.heap.size w (w.alloc (cz 12 R A B I n))/\(w.alloc (cz 12 R A B I n)).heap[w.heap.size]?=some (cz 12 R A B I n)/\¬F w.heap.size):=⟨h,C,D,fun J=>by have:=(cw a hp).lt h _ J;omega⟩
 have ab:(0:Int)<=(A:Int):=V;have ad:(A:Int)<12:=V;have ag:(0:Int)<=(B:Int):=V;have ai:(B:Int)<12:=V;have K:ay (∀c w',(cw a hp).J c S w'->Calls prog 44 #[aj a.pw,ah (S.s.rs.getD A 0),ah I,ah (S.s.rs.getD B 0)] w' fun e E=>∃f,e=.returned (ah (el a.N S.s.y S.s.g S.s.ws (S.s.rs.getD A 0) I))/\(cw a hp).J f (S.set a (S.s.rs.getD A 0) I (S.s.rs.getD B 0)) E/\b8 c w' f E):=fun c w' L=>Hv L _ _ _ hM;have M:ay ((S.set a (S.s.rs.getD A 0) I (S.s.rs.getD B 0)).s.rs=S.s.rs):=rfl;generalize S.set a (S.s.rs.getD A 0) I (S.s.rs.getD B 0)=N at*;generalize el a.N S.s.y S.s.g S.s.ws (S.s.rs.getD A 0) I=cd at*;clear h C hc D;go_enter func20,ntmps20;go_wp2_with fail;generalize w.alloc (cz 12 R A B I n)=w0 at*;generalize O:w.heap.size=b at*;refine g.mono ?_;clear g;rintro e w1 ⟨rfl,i⟩
 have k:Below w.heap.size w w1:=by rw[O];exact d.o.2.1.trans (i.mono (by have:=lt_of_some d.o.2.2.1;omega))
 have l:=(i.block b (lt_of_some d.o.2.2.1)).trans d.o.2.2.1;obtain⟨q0,q1,Q,q3,U,al⟩:=eu l;have m:=(cw a hp).below d.o.1 k;obtain⟨h0,c0,c3,rt,_⟩:=eh m;obtain⟨r1,_⟩:=rt A v;obtain⟨am,_⟩:=rt B hB;have G:=(cw a hp).below m (aH _ w1).drew;have P:=K.o F w1.drew G;have W:ay (b8 F w F w1.drew):=(b8.of k).below (aH _ w1).drew;have o:=lt_of_some l;have X:ay (∀c w' p,(cw a hp).J c p w'->b8 F w1.drew c w'->p.s.rs=S.s.rs->(w'.cell? (aq hp 0)=some (aj a.pw)/\w'.cell? (aq a.pw 3)=some (.slice (ak a.nb) 12 12)/\w'.cell? (aq a.nb A)=some (ah (S.s.rs.getD A 0))/\w'.cell? (aq a.nb B)=some (ah (S.s.rs.getD B 0)))/\w'.cell? (aq b 2)=some (ah (A:Int))/\w'.cell? (aq b 3)=some (ah (B:Int))/\w'.cell? (aq b 4)=some (ah I)):=fun c w' p j t Y=>by obtain⟨g0,_,g3,q,_⟩:=eh j;rw[Y] at q;exact⟨⟨g0,g3,(q A v).1,(q B hB).1⟩,(aP (a:=⟨b,2,none⟩) (t.fr.block b o d.o.2.2.2)).trans Q,(aP (a:=⟨b,3,none⟩) (t.fr.block b o d.o.2.2.2)).trans q3,(aP (a:=⟨b,4,none⟩) (t.fr.block b o d.o.2.2.2)).trans U⟩
 clear i k m G rt l;have an:ay (S.s.rs.getD A 0=S.s.rs.getD A 0):=rfl;generalize S.s.rs.getD A 0=x at*;generalize S.s.rs.getD B 0=y at*;go_wp2_with fail
 go_region_held3 (fun w'=>w'.cell? (aq hp 0)=some (aj a.pw)/\w'.cell? (aq a.pw 3)=some (.slice (ak a.nb) 12 12)/\w'.cell? (aq a.nb A)=some (ah x)/\w'.cell? (aq a.nb B)=some (ah y)/\w'.cell? (aq b 2)=some (ah (A:Int))/\w'.cell? (aq b 3)=some (ah (B:Int))/\w'.cell? (aq b 4)=some (ah I)) (go_keep)
  (first
    |(go_at_call 44;refine P.mono ?_;clear P;rintro e s ⟨f,rfl,j2,u⟩;obtain⟨⟨g0,g3,gr,ao⟩,ap,ar,aB⟩:=X.o f s _ j2 u M.o;have H:ay ((cw a hp).J f N s/\b8 F w f s):=⟨j2,W.o.trans u⟩;clear j2 u))
 go_wp2_with fail;go_ret;exact⟨f,rfl,H.o.1,H.o.2⟩
theorem HG (h:(cw a hp).J F S w)(k R A B I n:Int)(hc:dJ k R A B n=0)(k1:k≠9)(u:k≠12)(x:k≠15)(C:k≠16)(v cd:Int)(h0:cd≠0)(f:cq)
 (m:∀b w',(cw a hp).J b S w'->Calls prog 57 #[aj hp,dK k R A B I n] w' fun e d=>∃F2,e=.returned (.tuple #[ah v,ah cd])/\(cw a hp).J F2 f d/\b8 b w' F2 d):
 Calls prog 20 #[aj hp,dK k R A B I n] w fun e w'=>∃b,e=.returned (ah cd)/\(cw a hp).J b f w'/\b8 F w b w':=by
 have i:=au w (cz k R A B I n)
 have o:=aO w (.cells #[.int .i64 k,.int .i64 R,.int .i64 A,.int .i64 B,.int .i64 I,.int .i64 n] 44)
 have j:=jx k R A B I n (w.alloc (cz k R A B I n))
 rw[hc] at j;have c:ay ((cw a hp).J F S (w.alloc (cz k R A B I n))/\Below w.heap.size w (w.alloc (cz k R A B I n))/\(w.alloc (cz k R A B I n)).heap[w.heap.size]?=some (cz k R A B I n)):=⟨(cw a hp).below h i,i,o⟩
 have p:ay (∀b w',(cw a hp).J b S w'->Calls prog 57 #[aj hp,dK k R A B I n] w' fun e d=>∃F2,e=.returned (.tuple #[ah v,ah cd])/\(cw a hp).J F2 f d/\b8 b w' F2 d):=m;have J:(k==9)=false:=by simpa using k1
 have K:(k==12)=false:=by simpa using u
 have L:(k==15)=false:=by simpa using x
 have M:(k==16)=false:=by simpa using C
 have N:(cd==0)=false:=by simpa using h0
 clear h i o m hc;go_enter func20,ntmps20;go_wp2_with fail;generalize w.alloc (cz k R A B I n)=w0 at*;generalize D:w.heap.size=q at*;refine j.mono ?_;clear j;rintro e w1 ⟨rfl,g⟩
 have l:ay ((cw a hp).J F S w1/\Below q w w1):=⟨(cw a hp).below c.o.1 g,c.o.2.1.trans (g.mono (by have:=lt_of_some c.o.2.2;omega))⟩
 obtain⟨q0,q1,E,q3,G,H⟩:=eu ((g.block q (lt_of_some c.o.2.2)).trans c.o.2.2)
 clear c g;go_wp2_with fail;refine(p.o F w1 l.o.1).mono ?_;clear p;rintro e s ⟨F2,rfl,j2,t⟩
 have HF:ay ((cw a hp).J F2 f s/\b8 F w F2 s):=⟨j2,(b8.of (by rw[D];exact l.o.2)).trans t⟩
 clear j2 t l q0 q1 E q3 G H;exact ni
theorem HH (h:(cw a hp).J F S w){j:Nat}(ok:dW a S j)(x:j<=100000)(k R A B I n:Int):
 Calls prog 20 #[aj hp,dK k R A B I n] w fun e w'=>∃i,e=.returned (ah (S.hd a k R A B I n).1)/\(cw a hp).J i (S.hd a k R A B I n).2 w'/\b8 F w i w':=by
 have hb:=ou h;have C:=ok.jX;have hm:=ok.m;have hq:S.q.length+S.r.length<=90000:=V;unfold cq.hd;by_cases hc:dJ k R A B n=0
 ·rw[aI hc];by_cases b:k=9
  ·rw[aI b];subst b;have l:=ly hc aa;have m:=l5 hc aa;obtain⟨A,rfl⟩:=Int.eq_ofNat_of_zero_le l.1;obtain⟨B,rfl⟩:=Int.eq_ofNat_of_zero_le m.1;rw[Int.toNat_natCast,Int.toNat_natCast];exact HD h R I n A B V V hc V V
  rw[aG b];by_cases d:k=12
  ·rw[aI d];subst d;have l:=ly hc aa;have m:=l5 hc aa;obtain⟨A,rfl⟩:=Int.eq_ofNat_of_zero_le l.1;obtain⟨B,rfl⟩:=Int.eq_ofNat_of_zero_le m.1;rw[Int.toNat_natCast,Int.toNat_natCast];exact HE h R I n A B V V hc V
  rw[aG d];by_cases f:k=15
  ·rw[aI f];subst f;exact Hy h R A B I n hc hq
  rw[aG f];by_cases e16:k=16
  ·rw[aI e16];subst e16;exact Hz h R A B I n hc hq (ok.qN hb)
  rw[aG e16];have t:=ye hc (Hw hc b d f e16)
  obtain⟨R,rfl⟩:=Int.eq_ofNat_of_zero_le t.1;rw[Int.toNat_natCast];have o:∀i w',(cw a hp).J i S w'->Calls prog 57 #[aj hp,dK k R A B I n] w' fun e p=>∃q,e=.returned (.tuple #[ah (S.rt a k A.toNat B.toNat I n).1,ah (S.rt a k A.toNat B.toNat I n).2.1])/\(cw a hp).J q (S.rt a k A.toNat B.toNat I n).2.2 p/\b8 i w' q p:=fun i w' u=>Hu u ok hb k R A B I n hc b d f e16;generalize S.rt a k A.toNat B.toNat I n=g at*;obtain⟨v,cd,s⟩:=g;dsimp only at*;by_cases c:cd=0
  ·rw[aI c];subst c;exact G6 h k R A B I n V hc b d f e16 v s o
  ·rw[aG c];exact HG h k R A B I n hc b d f e16 v cd c s o
 ·rw[aG hc];refine(Hx (hp:=hp) (w:=w) k R A B I n hc).mono ?_;rintro e w' ⟨rfl,hb⟩
  exact⟨F,rfl,(cw a hp).below h hb,b8.of hb⟩
end
section
variable {a:Wc}{hp:Nat}{F:Nat->Prop}{S:cq}{w:ax}
end
section
variable {w:ax}{pw p q N O y g:Nat}{ws:List Int}{sd:Nat}{v0:Value}{a1:Option Addr}{k1:Nat}{Q:List b7}{l:List Int}{ra:Option Addr}{rc:Nat}
theorem HI (hq:mZ w pw p q N O y g ws sd v0 a1 k1 Q)(c3:w.cell? (aq pw 3)=some (.slice ra l.length rc))(hl:Lq w ra l)(hm:l.length<=100000):
 Calls prog 25 #[aj pw] w fun e w'=>∃J am f K o,e=.returned (.agg #[.slice J l.length am,.slice f K o])/\mM w' w.heap.size J (fw N y g ws Q l).1/\k4 w' w.heap.size f (fw N y g ws Q l).2.2/\K=(fw N y g ws Q l).2.2.length/\Below w.heap.size w w':=by
 have j:=au w (.cells #[.slice none 0 0,.slice none 0 0] 60)
 have M:=aO w (.cells #[.slice none 0 0,.slice none 0 0] 60)
 have G:=hq.low j;have an:=hl.kf (Kf.of (B:=0) j)
 have S:=aQ w _ c3;have U:=(j.cell (p:=aq pw 3) S).trans c3;have ao:w.heap.size<(w.alloc (.cells #[.slice none 0 0,.slice none 0 0] 60)).heap.size:=Z;have P:=DI G.c0 G.ar;have bp:=hq.ar.hN';have br:=hq.ar.hy;have bs:=hq.ar.hO;have bt:=hq.ar.hg;have ap:∀a∈d8 N y g ws++dB N y g ws,0<=a/\a<2000:=fun a ha=>by
  rcases List.mem_append.1 ha with ha|ha
  ·have:=n3 a ha;omega
  ·have:=qf a ha;omega
 have ar:(d8 N y g ws++dB N y g ws).length<=100000:=by have t:(d8 N y g ws).length<=2000:=h8 _ _;have bx:(dB N y g ws).length<=2000:=h8 _ _;simp;omega
 have aB:ay (∀(u ch:Nat)(w1:ax),Wk (w.alloc (.cells #[.slice none 0 0,.slice none 0 0] 60)) w1 u ch pw (d8 N y g ws++dB N y g ws) ([],[]) (.slice none 0 0) []->Calls prog 65 #[aj u,.slice ra l.length rc] w1 fun e w'=>∃aF H a2 c2,e=.returned (.slice a2 l.length c2)/\w'.ownsRow w1.heap.size 97 2 (.slice a2 l.length c2) l.length (ev (fw N y g ws Q l).1)/\Wk (w.alloc (.cells #[.slice none 0 0,.slice none 0 0] 60)) w' u ch pw (d8 N y g ws++dB N y g ws) (fw N y g ws Q l).2 aF H/\fF (w.alloc (.cells #[.slice none 0 0,.slice none 0 0] 60)) w1 [] w' H/\(∀k,fp H k->some k≠(Value.slice a2 l.length c2).ownBlock)):=
  fun u ch w1 t=>x8 (x9 G ap ar _) (jq _) t (e5.start _) Z l ra rc (an.kf (Kf.of (B:=0) t.eH)) hm
 have W:ay ((fw N y g ws Q l).1.length=l.length):=mL _ _ _ _;generalize fw N y g ws Q l=R at*;obtain⟨bY,s⟩:=R;generalize d8 N y g ws++dB N y g ws=T at*;go_enter func25,ntmps25;go_wp2_with fail;refine P.mono ?_;rintro e w1 ⟨u,ch,rfl,t⟩
 have aR:=(t.eH.cell (p:=aq pw 3) (aM S j.size)).trans U;have I:=hide t;go_wp2_with fail;refine(aB.o u ch w1 I.o).mono ?_;rintro e w2 ⟨bZ,m,a2,c2,rfl,A,d,X,_⟩
 obtain⟨f,o,aV⟩:=eE d.row;subst aV;have b0:=d.cells.2.2.1;have Y:=j.trans (d.eH.mono j.size)
 have n:=(d.eH.block _ ao).trans M;have y0:w2.cell? (aq w.heap.size 0)=some (.slice none 0 0):=aA n
 have y1:w2.cell? (aq w.heap.size 1)=some (.slice none 0 0):=aA n
 have b1:w2.frozen? (aq w.heap.size 0)=false:=aC n
 have b2:w2.frozen? (aq w.heap.size 1)=false:=aC n
 have l2:=lt_of_some n;have a0:=dq d A;have bb:=hide d.len;have bd:=hide Y;have ab:=hide n;have ag:w.heap.size<=w1.heap.size:=by
  have:=I.o.eH.size;simp at this
  omega
 have be:ay (∀k,fp m k->w.heap.size<=k):=fun k hk=>(X.2 k hk).elim (fun⟨x,E,_⟩=>by cases E) (fun bg=>aT ag bg)
 clear d A X Y n j M aR U I;go_wp2_with fail;obtain⟨C,hW0⟩:∃C,C=(w2.setCell ⟨w.heap.size,0,none⟩ (.slice a2 l.length c2)).setCell ⟨w.heap.size,1,none⟩ (.slice f m.length o):=⟨_,rfl⟩
 rw[<-hW0];have g0:C.cell? (aq w.heap.size 0)=some (.slice a2 l.length c2):=by exact lu
 have g1:C.cell? (aq w.heap.size 1)=some (.slice f m.length o):=by exact zS
 have D:Fr (fun k=>k=w.heap.size) w2 C:=by rw[hW0];exact((Fr.refl (fun k=>k=w.heap.size) w2).set w.heap.size 0 _ rfl).set w.heap.size 1 _ rfl
 obtain⟨d,A⟩:=a0.o;have ai:∀{ad:Option Addr}{L:List (Int×Int)},fj w2 ad L->dw C ad L:=fun {ad L} h=>h.1.keep D.size (fun hp b e=>by
  obtain⟨bi,b3,b4,bl,hb⟩:=h.2 hp;rw[bl] at e;cases e;refine D.block _ (lt_of_some hb) (fun c=>?_)
  have c:bi=w.heap.size:=c;rw[c,ab.o] at hb;simp at hb)
 refine a4 (v:=.agg #[.slice a2 l.length c2,.slice f m.length o]) (by simp[results,results25,go_sem,g0,g1]) rfl ⟨a2,c2,f,m.length,o,rfl,⟨ai (fj.of (by rw[W.o];exact A)),fun hp=>?_⟩,⟨m,d.nd,fun x E=>ai (d.fl x E),be.o,fun hp=>?_⟩,bb.o,bd.o.trans (D.below (Nat.le_of_lt l2) (fun k e=>Nat.le_of_eq (Eq.symm e)))⟩
 ·obtain⟨b,cap,e⟩:=eU A (by rw[<-W.o];exact hp)
  cases e;exact⟨b,0,rfl,aT ag (cn A b rfl).1⟩
 obtain⟨b,cap,e⟩:=eU d.row hp;cases e;have bn:=(cn d.row b rfl).1;simp at bn;obtain⟨b5,F⟩:=e6 d.row b rfl;have al:b≠w.heap.size:=fun c=>by rw[c,ab.o] at F;simp at F
 refine⟨b,0,rfl,V,aM (lt_of_some F) D.size,fun i x E=>?_⟩
 obtain⟨n1,bo⟩:=oO m i x E;rw[Nat.zero_add];exact⟨(aP (a:=⟨b,i*2,none⟩) (D.block b (lt_of_some F) al)).trans (kD d.row n1).1,(aP (a:=⟨b,i*2+1,none⟩) (D.block b (lt_of_some F) al)).trans (kD d.row bo).1⟩
end
end Go.Proofs.YtpkjkjhanlbcoaaGreat
