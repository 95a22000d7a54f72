import Derived.Test.YtpkjkjhanlbcoaaGreatJ27
namespace Go.Proofs.YtpkjkjhanlbcoaaGreat
set_option maxRecDepth 100000
set_option maxHeartbeats 4000000
open Tryz
open Go.RowKit W Kp cf
theorem zE {P:Prop}(h:P:=by
 rcases(show c=0\/c=1\/c=2\/c=3\/c=4\/c=5\/c=6\/c=7\/c=8\/c=9\/c=10\/c=11\/c=12 by omega) with rfl|rfl|rfl|rfl|rfl|rfl|rfl|rfl|rfl|rfl|rfl|rfl|rfl<;>
 (go_enter func223,ntmps223
  go_wp2_with fail;go_ret2;exact⟨rfl,rfl⟩)):P:=h
theorem zF {P:Prop}(h:P:=by
 go_enter func167,ntmps167;go_wp2_with fail;refine P.mono ?_;rintro e w1 ⟨rfl,hw⟩
 have hw:=hw.symm;subst hw;go_wp2_with fail;go_ret2;exact⟨rfl,rfl⟩):P:=h
section
variable {a:Wc}{hp:Nat}{F:Nat->Prop}{S:cq}{w:ax}
theorem GO (h:(cw a hp).J F S w)(k:Int)(R:Nat)(A B I n:Int)(J:R<12)(hc:dJ k R A B n=0)(k1:k≠9)(K:k≠12)(L:k≠15)(M:k≠16)(v:Int)(c:cq)
 (C:∀d w',(cw a hp).J d S w'->Calls prog 57 #[aj hp,dK k R A B I n] w' fun e m=>∃f,e=.returned (.tuple #[ah v,ah 0])/\(cw a hp).J f c m/\b8 d w' f m):
 Calls prog 20 #[aj hp,dK k R A B I n] w fun e w'=>∃d,e=.returned (ah 0)/\(cw a hp).J d ⟨{c.s with rs:=c.s.rs.set R v},c.r,c.q⟩ w'/\b8 F w d w':=by
 have q:=au w (cz k R A B I n)
 have D:=aN w (.cells #[.int .i64 k,.int .i64 (R:Int),.int .i64 A,.int .i64 B,.int .i64 I,.int .i64 n] 44)
 have s:=jx k R A B I n (w.alloc (cz k R A B I n))
 rw[hc] at s;have N:ay (a.nb<w.heap.size):=(em h).ln;have i:ay ((cw a hp).J F S (w.alloc (cz k R A B I n))/\aw w (w.alloc (cz k R A B I n))/\(w.alloc (cz k R A B I n)).heap[w.heap.size]?=some (cz k R A B I n)/\∀b,F b->b<w.heap.size):=⟨(cw a hp).below h q,q,D,(cw a hp).lt h⟩
 have E:ay (∀d w',(cw a hp).J d S w'->Calls prog 57 #[aj hp,dK k R A B I n] w' fun e m=>∃f,e=.returned (.tuple #[ah v,ah 0])/\(cw a hp).J f c m/\b8 d w' f m):=C;have ab:(k==9)=false:=by simpa using k1
 have ad:(k==12)=false:=by simpa using K
 have ag:(k==15)=false:=by simpa using L
 have ai:(k==16)=false:=by simpa using M
 clear h q D C hc;go_enter func20,ntmps20;go_wp2_with fail;generalize w.alloc (cz k R A B I n)=w0 at*;generalize O:w.heap.size=g at*;refine s.mono ?_;clear s;rintro e w1 ⟨rfl,o⟩
 have j:ay ((cw a hp).J F S w1/\Below g w w1/\w1.heap[g]?=some (cz k R A B I n)/\∀b,F b->b<g):=⟨(cw a hp).below i.out.1 o,i.out.2.1.trans (o.mono (by have:=lt_of_some i.out.2.2.1;omega)),(o.block g (lt_of_some i.out.2.2.1)).trans i.out.2.2.1,i.out.2.2.2⟩
 obtain⟨q0,q1,P,q3,Q,U⟩:=eu j.out.2.2.1;clear i o;go_wp2_with fail;refine(E.out F w1 j.out.1).mono ?_;clear E;rintro e l ⟨f,rfl,p,t⟩
 have G:=(t.fr.block g (lt_of_some j.out.2.2.1) (fun W=>by have:=j.out.2.2.2 g W;omega)).trans j.out.2.2.1;obtain⟨u0,X,_⟩:=eu G;obtain⟨h0,c0,c3,rt,rl,lp,lw,ln⟩:=em p;obtain⟨r1,Y⟩:=rt R J;have al:(0:Int)<=(R:Int):=V;have am:(R:Int)<12:=V;have an:=lt_of_some G;have nx:a.nb≠g:=by have:=N.out;omega
 obtain⟨n1,ao⟩:=EU p;have u:ay ((cw a hp).J f c l.drew/\b8 F w f l.drew):=⟨(cw a hp).below p (aH _ l).drew,((b8.of (by rw[O];exact j.out.2.1)).trans t).below (aH _ l).drew⟩
 clear rt p t j q0 q1 P q3 Q U;go_wp2_with fail
 go_region_held3 (fun w'=>w'.cell? (aq hp 0)=some (aj a.pw)/\w'.cell? (aq a.pw 3)=some (.slice (ak a.nb) 12 12)/\w'.cell? (aq g 1)=some (ah (R:Int))) (go_keep) (fail)
 obtain⟨x,cA,t3⟩:=ET u.out.1 R v;have H:ay ((cw a hp).J x ⟨{c.s with rs:=c.s.rs.set R v},c.r,c.q⟩ (l.drew.setCell ⟨a.nb,R,none⟩ (.int .i64 v))/\b8 F w x (l.drew.setCell ⟨a.nb,R,none⟩ (.int .i64 v))):=⟨cA,u.out.2.trans t3⟩
 clear cA t3 u h0 c0 c3 r1 Y u0 X;go_wp2_with fail;go_ret;exact⟨rfl,x,H.out.1,H.out.2⟩
end
open Go.RowKit W
theorem GP (c:Nat)(hc:c<=12)(w:ax):Calls prog 223 #[.int .u64 1,.int .u64 c] w fun e w'=>e=.returned (.tuple #[.int .u64 0,.int .u64 c])/\w'=w:=by exact zE
theorem zG (c:Nat)(hc:c<=12)(w:ax):Calls prog 167 #[.int .u64 1,.int .u64 c] w fun e w'=>e=.returned (.tuple #[.int .u64 0,.int .u64 c])/\w'=w:=by have P:=GP c hc w;exact zF
def fR (c:Nat)(v:Int)(n:Nat):List Int:=List.replicate n v++List.replicate (c-n) 0
theorem t9 (c:Nat)(v:Int)(n:Nat)(h:n<=c):(fR c v n).length=c:=by simp[fR];omega
theorem GQ (c:Nat)(v:Int)(n m:Nat)(h:n+m<=c):splice (fR c v n) n (List.replicate m v)=fR c v (n+m):=by unfold splice fR;rw[List.take_left' Z,List.length_replicate,List.drop_append,List.length_replicate];simp only [List.drop_replicate];rw[show n-(n+m)=0 by omega,show c-n-(n+m-n)=c-(n+m) by omega];simp;rw[<-ba,List.replicate_append_replicate]
theorem GR (c:Nat)(v:Int)(n i:Nat)(h:i<n):(fR c v n).getD i 0=v:=by unfold fR;rw[aE,List.getElem?_append_left (by simpa using h)];simp[h]
theorem GS {c:Nat}{w:ax}{nb n:Nat}{v:Int}(hr:w.heap[nb]?=some (.cells ((fR c v n).map (Value.int .i64)).toArray 3 (0,0)))(hn:n<=c)(m:Nat)(hm:m<=n):∀j b,((List.replicate m v).map (Value.int .i64))[j]?=some b->w.cell? ((⟨nb,0,none⟩:Addr).add j)=some b:=by
 intro j b d;have e:j<m:=by have:=(List.getElem?_eq_some_iff.1 d).1;simpa using this
 have f:b=ah v:=by simp[e] at d;exact d.symm
 have hl:=t9 c v n hn;have hg:=GR c v n j V;rw[aE,aL (by omega:j<(fR c v n).length)] at hg;simp at hg;have ea:(⟨nb,0,none⟩:Addr).add j=⟨nb,j,none⟩:=by simp[Addr.add];intro h;exact h.symm
 rw[ea,f];have g:j<(fR c v n).length:=V;simp[World.cell?,hr,List.getElem?_eq_getElem g];exact hg
theorem zH {c:Nat}{w w':ax}{nb n m B:Nat}{v:Int}(b:k4 w w' nb ((fR c v n).map (Value.int .i64)) n ((List.replicate m v).map (Value.int .i64)))(hr:w.heap[nb]?=some (.cells ((fR c v n).map (Value.int .i64)).toArray 3 (0,0)))(hm:0<m)(h:n+m<=c)(hB:B<=nb):w'.heap[nb]?=some (.cells ((fR c v (n+m)).map (Value.int .i64)).toArray 3 (0,0))/\Below B w w':=by
 rcases b with⟨h0,_⟩|rfl
 ·have:=congrArg List.length h0;simp at this
  omega
 ·rw[sg,GQ c v n m h];exact⟨setRow_heap w nb _ _ _ _ hr,⟨rfl,rfl,rfl,by simp[World.setRow],fun k hk=>setRow_other w nb k _ V⟩⟩
theorem zI:(prog.info? 3).map (fun i=>(i.zero,i.size,i.bytes))=some (some (ah 0),1,8):=ae
theorem t_:(prog.info? 3).map (·.size)=some 1:=ae
theorem zJ {w:ax}{b k n:Nat}(h:w.ownsRow b 3 1 (.slice (ak k) n n) n (madeCells (Value.int .i64 0).cells (n*1)).toList):
 w.heap[k]?=some (.cells ((List.replicate n (0:Int)).map (Value.int .i64)).toArray 3 (0,0)):=by
 exact vR
theorem GT (w:ax)(b c:Nat)(v:Int)(h0:0<c)(M:c<=12)(hc:w.cell? (aq b 0)=some (ah v)):
 Calls prog 124 #[.slice (ak b) 1 1,ah c] w fun e w'=>∃nb,e=.returned (.slice (ak nb) c c)/\w.heap.size<=nb/\w'.heap[nb]?=some (.cells ((List.replicate c v).map (Value.int .i64)).toArray 3 (0,0))/\aw w w':=by
 obtain⟨t,hi,N,O,P⟩:=info_parts zI;have lb:=aQ w _ hc;dsimp only at lb;have u:=zG c M w;have Q:ay (fR c v c=List.replicate c v):=by show _=_;simp[fR]
 have c0:(0:Int)<(c:Int):=V;have c1:(c:Int)<=12:=V;go_enter func124,ntmps124;go_wp2_with fail;refine u.mono ?_;clear u;rintro e w0 ⟨rfl,hw⟩
 have hw:=hw.symm;subst hw
 go_upto_region 7 with(at_make;refine wpList_make_full _ rfl _ _ 74 rfl w.heap.size 3 t (ah 0) 1 Tryz.underlying74 hi N O .i64 .i64 _ _ c rfl rfl V V (by rw[P];omega) (by unfold maxLen;omega) bW ?_;intro w1 x A)
 have hr:w1.heap[w.heap.size]?=some (.cells ((fR c v 0).map (Value.int .i64)).toArray 3 (0,0)):=by have R:=zJ x;simpa[fR] using R
 have l:aw w w1:=(aH _ w).grown A bW (fun _ h=>by cases h)
 have C:=(l.cell (p:=aq b 0) lb).trans hc;clear x A;have d:ay (∀j f,((List.replicate 1 v).map (Value.int .i64))[j]?=some f->w1.cell? ((⟨b,0,none⟩:Addr).add j)=some f):=one_cell C;have o:ay (w1.heap[w.heap.size]?=some (.cells ((fR c v 0).map (Value.int .i64)).toArray 3 (0,0))):=hr;have g:ay (((List.replicate 1 v).map (Value.int .i64)).length=Nat.min 1 c):=by show _=_;simp only [List.length_map,List.length_replicate,Nat.min_def];split<;>omega
 have i:ay (0+((List.replicate 1 v).map (Value.int .i64)).length<=((fR c v 0).map (Value.int .i64)).length):=by show _<=_;rw[aW,aW,t9 c v 0 V];simp;omega
 clear C hr;go_wp2_with (refine sZ rfl _ _ 74 74 3 rfl Tryz.underlying74 t_ (ak w.heap.size) (ak b) c c 1 1 rfl rfl w.heap.size 0 ((fR c v 0).map (Value.int .i64)) 3 o.out ((List.replicate 1 v).map (Value.int .i64)) g.out (fun _=>⟨rfl,_,rfl,d.out⟩) i.out (oP _) ?_;intro ab D)
 obtain⟨E,F⟩:=zH (B:=w.heap.size) D o.out V V bW
 have G:=l.trans F;clear D d o g i l F
 go_loopw [8] (fun nv wr=>∃n:Nat,1<=n/\n<=c/\nv=ah n/\ay (wr.heap[w.heap.size]?=some (.cells ((fR c v n).map (Value.int .i64)).toArray 3 (0,0)))/\aw w wr) (fun nv _=>c-(intOf nv).toNat)
 case atStart=>exact⟨1,aD _,V,rfl,E,G⟩
 case round=>
  clear E G;obtain⟨n,n1,H,rfl,q,hb⟩:=hrel;by_cases ad:n<c
  ·obtain⟨m,hm,S,s,U⟩:∃m,m=Nat.min n (c-n)/\0<m/\n+m<=c/\m<=n:=⟨_,rfl,by simp only [Nat.min_def];split<;>omega,by simp only [Nat.min_def];split<;>omega,by simp only [Nat.min_def];split<;>omega⟩
   have k:ay (wr.drew.heap[w.heap.size]?=some (.cells ((fR c v n).map (Value.int .i64)).toArray 3 (0,0))):=q.out;have d:ay (∀j f,((List.replicate m v).map (Value.int .i64))[j]?=some f->wr.drew.cell? ((⟨w.heap.size,0,none⟩:Addr).add j)=some f):=GS k.out H m U;have g:ay (((List.replicate m v).map (Value.int .i64)).length=Nat.min n (c-n)):=by show _=_;rw[<-hm];simp
   have i:ay (n+((List.replicate m v).map (Value.int .i64)).length<=((fR c v n).map (Value.int .i64)).length):=by show _<=_;rw[aW,aW,t9 c v n H];simpa using s
   have ag:¬c=n:=V;have t:(0:Int)<=(n:Int):=V;have ai:(n:Int)<=(c:Int):=V;have al:(n:Int)<(c:Int):=V;clear q;go_wp2_with fail
   go_region_law (refine pZ rfl (.tmp 41) (.tmp 44) 74 74 3 rfl Tryz.underlying74 t_ (some ⟨w.heap.size,n,none⟩) (ak w.heap.size) (c-n) (c-n) n c ?_ ?_ w.heap.size n ((fR c v n).map (Value.int .i64)) 3 k.out ((List.replicate m v).map (Value.int .i64)) g.out (fun _=>⟨rfl,_,rfl,d.out⟩) i.out (oP _) ?_;(simp[Act.eval,Act.put]);(simp[Act.eval,Act.put]);intro W I)
   obtain⟨J,K⟩:=zH (B:=w.heap.size) I k.out S s bW
   have X:ay (W.heap[w.heap.size]?=some (.cells ((fR c v (n+m)).map (Value.int .i64)).toArray 3 (0,0))):=J;have Y:=hb.drew.trans K;have hw:IntKind.i64.wrap ((n:Int)+(m:Int))=((n+m:Nat):Int):=by rw[bk];omega
   clear J K I k d g i hb;simp[Act.put,go_sem,Exit.inBlock];rw[<-hm,hw];refine⟨⟨_,_,_,_,_,_,_,_,_,_,_,_,_,_,?rel,rfl⟩,?measure⟩
   case rel=>exact⟨n+m,V,s,rfl,X,Y⟩
   case measure=>simp[intOf];omega
  ·obtain rfl:n=c:=V;have L:=q.out;rw[Q.out] at L;go_wp2_with fail;go_ret;exact⟨w.heap.size,rfl,aD _,L,hb⟩
theorem GU (w:ax)(b:Nat)(v:Int):
 Calls prog 124 #[.slice (ak b) 1 1,ah 0] w fun e w'=>∃nb,e=.returned (.slice (ak nb) 0 0)/\aw w w':=by
 obtain⟨m,hi,n,o,p⟩:=info_parts zI;have d:=zG 0 V w;go_enter func124,ntmps124;go_wp2_with fail;refine d.mono ?_;clear d;rintro e w0 ⟨rfl,hw⟩
 have hw:=hw.symm;subst hw
 go_upto_region 7 with(at_make;refine wpList_make_full _ rfl _ _ 74 rfl w.heap.size 3 m (ah 0) 1 Tryz.underlying74 hi n o .i64 .i64 _ _ 0 rfl rfl V V (by rw[p];omega) (by unfold maxLen;omega) bW ?_;intro w1 f g)
 have c:aw w w1:=(aH _ w).grown g bW (fun _ h=>by cases h)
 have i:ay (w1.heap[w.heap.size]?=some (.cells ((fR 0 v 0).map (Value.int .i64)).toArray 3 (0,0))):=by have q:=zJ f;show _=_;simpa[fR] using q
 clear f g;go_wp2_with (refine sZ rfl _ _ 74 74 3 rfl Tryz.underlying74 t_ (ak w.heap.size) (ak b) 0 0 1 1 rfl rfl w.heap.size 0 ((fR 0 v 0).map (Value.int .i64)) 3 i.out [] rfl (fun h=>absurd h aa) Z (fun _ h=>by cases h) ?_;intro s j)
 have l:aw w s:=by
  rcases j with⟨_,e⟩|e
  ·rw[e];exact c
  ·rw[e];exact c.trans ⟨rfl,rfl,rfl,by simp[World.setRow],fun k hk=>setRow_other w1 w.heap.size k _ V⟩
 clear j i c
 go_loopw [8] (fun nv wr=>nv=ah 0/\aw w wr) (fun _ _=>0)
 case atStart=>exact⟨rfl,l⟩
 case round=>
  clear l;obtain⟨rfl,hb⟩:=hrel;go_wp2_with fail;go_ret;exact⟨w.heap.size,rfl,hb⟩
structure dV (a:Wc)(S:cq)(j:Nat):Prop where
 kv:∃Y G,el a S.s Y G
 eo:jB a S
 m:S.s.M.length<=j
 kQ:S.r.length+S.q.length<=24
def ot (a:Wc)(S:cq)(v:Int):Prop:=cY v=true->tB a.N S.s.y S.s.g S.s.ws v=true
section
variable {a:Wc}{S:cq}{j:Nat}
theorem dV.start (a:Wc)(n o:Nat):dV a (g9 n o).1 0:=by
 refine⟨⟨[],[],⟨d5.start,fun x c ha=>?_,fun v hv=>?_⟩,fun v hv=>(by cases hv)⟩,fun e he=>?_,aD _,(show(0:Nat)<=24 by decide)⟩
 ·have c:x∈tw 2 12:=c;have e:x=2:=by simpa[tw] using c
  rw[e,zk] at ha;cases ha
 ·rcases hv with b|b<;>cases b
 ·rcases he with b|b<;>cases b
theorem dV.mono {i:Nat}(h:dV a S j)(hi:j<=i):dV a S i:=⟨h.kv,h.eo,aT h.m hi,h.kQ⟩
theorem dV.cut (h:dV a S j)(hb:cI a S.s):dV a (S.cut a) j/\cI a (S.cut a).s:=by
 obtain⟨Y,G,hk⟩:=h.kv;have l1:=F9 a S;have l2:=h.kQ;refine⟨⟨hk.cut hb,h.eo.cut hk hb,?_,V⟩,hk.GA hb⟩
 have:=h.m;unfold cq.cut;split
 ·omega
 ·exact aZ _
theorem dV.dy (h:dV a S j)(hb:cI a S.s):dV a (S.dy a) j/\cI a (S.dy a).s:=by obtain⟨Y,G,hk⟩:=h.kv;obtain⟨_,g2,g3⟩:=hk.dy hb;have l1:=Gw a S;have l2:=h.kQ;have b:=h.m;exact⟨⟨g2,h.eo.dy hk hb,V,V⟩,hk.GB hb⟩
theorem dV.qI (h:dV a S j)(hb:cI a S.s):S.fM a=false->∃F,iD (S.k5 a) (S.dC a) F/\F 0 (S.k5 a,0):=by obtain⟨Y,G,hk⟩:=h.kv;exact(hk.dy hb).1
theorem zK (h:S.code a≠0):S.cut a=S:=by
 unfold cq.code at h;unfold cq.cut;split at h
 ·rename_i c;rw[aI c]
 ·exact absurd rfl h
theorem zL (h:S.ig a≠0):S.dy a=S:=by
 unfold cq.ig at h;unfold cq.dy;split at h
 ·rename_i c;rw[aI c]
 ·exact absurd rfl h
theorem GV (h:S.code a=0):(S.cut a).s.y=0:=by
 unfold cq.code at h;unfold cq.cut;split at h
 ·omega
 ·rename_i c;rw[aG c]
theorem GW {Y G:List Int}(hk:el a S.s Y G)(hb:cI a S.s)(h:S.ig a=0):(S.dy a).s.y=0:=by
 have b:S.fM a=false:=by
  unfold cq.ig at h;split at h
  ·omega
  ·rename_i c;simpa using c
 obtain⟨_,g,_⟩:=mc hk hb b;exact g.gc.y
theorem dV.room (h:dV a S j)(hb:cI a S.s)(m:Int):dV a (S.room a m).2 j/\cI a (S.room a m).2.s/\((S.room a m).1=0->m<=16->m<=(a.N:Int)-(S.room a m).2.s.y)/\((S.room a m).1≠0->(S.room a m).2=S):=by
 obtain⟨Y,G,hk⟩:=h.kv;have n0:=hb.n0;unfold cq.room;split
 ·rename_i c;exact⟨h,hb,fun _ _=>c,fun q=>absurd rfl q⟩
 ·split
  ·obtain⟨b,d⟩:=h.cut hb;refine⟨b,d,fun q _=>?_,fun q=>zK q⟩
   rw[GV q];omega
  ·obtain⟨b,d⟩:=h.dy hb;refine⟨b,d,fun q _=>?_,fun q=>zL q⟩
   rw[GW hk hb q];omega
theorem dV.put (h:dV a S j)(hb:cI a S.s){kd:Int}{rl:List Nat}(hk:hc kd rl.length=0)(hr:S.s.y+1+rl.length<=a.N):dV a (S.put a kd rl) j/\cI a (S.put a kd rl).s/\ot a (S.put a kd rl) (ew 3 S.s.y):=by
 obtain⟨Y,G,kv⟩:=h.kv;have p:=t7 kv hb hk hr rl.length bW
 have b:cI a (S.put a kd rl).s:=⟨hb.n0,hb.n1,hb.o1,hr,hb.g1,p.l,hb.r1⟩
 have n1:=hb.n1;have y1:=hb.y1;refine⟨⟨⟨_,_,p.k⟩,?_,h.m,h.kQ⟩,b,fun _=>?_⟩
 ·exact h.eo.more kv hb p.k.inv.full b.y1 b.g1 (fun v hv=>hv.imp (fun c=>aY _ c) id)
 ·obtain⟨d,e⟩:=m6 S.s.y V;exact(i8 p.k.inv.full b.n1 b.y1 b.o1 b.g1).2 ⟨d,aK (by rw[e];simp)⟩
theorem dV.bZ (h:dV a S j)(hb:cI a S.s){kd:Int}{rl:List Nat}(hk:hc kd rl.length=0):dV a (S.bZ a kd rl).2.2 j/\cI a (S.bZ a kd rl).2.2.s/\((S.bZ a kd rl).2.1=0->ot a (S.bZ a kd rl).2.2 (S.bZ a kd rl).1)/\((S.bZ a kd rl).2.1≠0->(S.bZ a kd rl).2.2=S):=by
 obtain⟨b,d,e,f⟩:=h.room hb _;have hl:=iU kd rl.length hk;unfold cq.bZ;split
 ·rename_i c;obtain⟨g,i,k⟩:=b.put d hk (by have:=e c V;omega)
  exact⟨g,i,fun _=>k,fun q=>absurd rfl q⟩
 ·rename_i c;exact⟨b,d,fun q=>absurd q c,fun _=>f c⟩
theorem dV.root (h:dV a S j)(hb:cI a S.s)(i:Nat):ot a S (S.s.rs.getD i 0):=fun ha=>by obtain⟨Y,G,kv⟩:=h.kv;exact(i8 kv.inv.full hb.n1 hb.y1 hb.o1 hb.g1).2 ⟨ha,kv.any i ha⟩
theorem qS {n:Int}(h:vc 1 n=0):ot a S (ew 1 n):=fun ha=>by rw[(nF 1 n h).1] at ha;exact absurd ha aa
theorem dV.rt (h:dV a S j)(hb:cI a S.s){k n:Int}(A B:Nat)(I:Int)(hk:gR k n=0):dV a (S.rt a k A B I n).2.2 j/\cI a (S.rt a k A B I n).2.2.s/\((S.rt a k A B I n).2.1=0->ot a (S.rt a k A B I n).2.2 (S.rt a k A B I n).1)/\((S.rt a k A B I n).2.1≠0->(S.rt a k A B I n).2.2=S):=by
 unfold cq.rt;by_cases b:k=1
 ·rw[aI b];exact⟨h,hb,fun q=>qS q,fun _=>rfl⟩
 rw[aG b];by_cases f:k=3
 ·rw[aI f];exact⟨h,hb,fun _=>h.root hb A,fun _=>rfl⟩
 rw[aG f];by_cases g:k=4
 ·rw[aI g];exact h.bZ hb rfl
 rw[aG g];by_cases c:k=5
 ·rw[aI c];refine h.bZ hb ?_;unfold gR at hk;rw[aG b,aI c] at hk;have:=iU 2 n hk;rw[List.length_replicate,show((n.toNat:Nat):Int)=n by omega];exact hk
 rw[aG c];by_cases i:k=6
 ·rw[aI i];exact h.bZ hb rfl
 rw[aG i];by_cases l:k=7
 ·rw[aI l];exact h.bZ hb rfl
 rw[aG l];by_cases m:k=8
 ·rw[aI m];exact h.bZ hb rfl
 rw[aG m];by_cases o:k=10
 ·rw[aI o];unfold cq.pop;generalize S.s.rs.getD A 0=x;split
  ·split
   ·rename_i hi;have v:S.q.getD (dO x S.q) (0,0)∈S.q:=by rw[aE,aL hi];exact a6 hi
    have sub:∀e,e∈S.q.take (dO x S.q)++S.q.drop (dO x S.q+1)->e∈S.q:=fun e he=>by
     rcases List.mem_append.1 he with d|d
     ·exact List.mem_of_mem_take d
     ·exact List.mem_of_mem_drop d
    refine⟨⟨h.kv,fun e he=>h.eo e (he.imp id (sub e)),h.m,?_⟩,hb,fun _ _=>(h.eo _ (aJ v)).2,fun q=>absurd rfl q⟩
    have:=h.kQ;dsimp only;rw[aX,bw,List.length_drop];omega
   ·exact⟨h,hb,fun q=>absurd q (by dsimp only;omega),fun _=>rfl⟩
  ·exact⟨h,hb,fun q=>absurd q (by dsimp only;omega),fun _=>rfl⟩
 rw[aG o];by_cases p:k=11
 ·rw[aI p];refine⟨h,hb,fun q ha=>?_,fun _=>rfl⟩
  have q:=q;rw[aI q] at ha⊢;obtain⟨Y,G,kv⟩:=h.kv;obtain⟨w,C,t3,s⟩:=m5 q;obtain⟨_,hv⟩:=(i8 kv.inv.full hb.n1 hb.y1 hb.o1 hb.g1).1 w;rw[kv.inv.full.stands hb.y1 hv] at s;exact(i8 kv.inv.full hb.n1 hb.y1 hb.o1 hb.g1).2 ⟨ha,kv.inv.fd _ hv I t3 s ha⟩
 rw[aG p];by_cases t:k=13
 ·rw[aI t];unfold cq.len;split
  ·exact⟨h,hb,fun q=>qS q,fun _=>rfl⟩
  ·exact⟨h,hb,fun q=>absurd q (by dsimp only;omega),fun _=>rfl⟩
 rw[aG t];by_cases u:k=14
 ·rw[aI u];refine⟨h,hb,fun _=>?_,fun _=>rfl⟩
  dsimp only;split
  ·exact qS aa
  ·exact qS aa
 rw[aG u];exact⟨h,hb,fun _ ha=>by have ha:cY 2=true:=ha;exact absurd ha aa,fun _=>rfl⟩
theorem dV.st (h:dV a S j)(hb:cI a S.s){R:Nat}{x:Int}(b:ot a S x):dV a (S.st R x) j/\cI a (S.st R x).s:=by
 obtain⟨Y,G,kv⟩:=h.kv;refine⟨⟨⟨Y,G,kv.root R x (fun ha=>(i8 kv.inv.full hb.n1 hb.y1 hb.o1 hb.g1).1 (b ha) |>.2)⟩,fun e he=>h.eo e he,h.m,h.kQ⟩,⟨hb.n0,hb.n1,hb.o1,hb.y1,hb.g1,hb.l1,?_⟩⟩
 show(S.s.rs.set R x).length=12;rw[a4];exact hb.r1
theorem dV.set (h:dV a S j)(hb:cI a S.s)(A B:Nat)(I:Int):dV a (S.set a (S.s.rs.getD A 0) I (S.s.rs.getD B 0)) (j+1)/\cI a (S.set a (S.s.rs.getD A 0) I (S.s.rs.getD B 0)).s:=by
 obtain⟨Y,G,kv⟩:=h.kv;refine⟨⟨⟨Y,G,?_,kK.set kv.inv kv.cd hb.l1 hb.n1 hb.y1 hb.o1 hb.g1 _ _ _⟩,?_,?_,h.kQ⟩,⟨hb.n0,hb.n1,hb.o1,hb.y1,hb.g1,?_,hb.r1⟩⟩
 ·show ih a.N S.s.y S.s.g (ge a.N S.s.y S.s.g S.s.ws (S.s.rs.getD A 0) I (S.s.rs.getD B 0)) Y G S.s.rs;by_cases b:ej a.N S.s.y S.s.g S.s.ws (S.s.rs.getD A 0) I=0
  ·obtain⟨e,i,t3,d⟩:=m5 b;obtain⟨_,hv⟩:=(i8 kv.inv.full hb.n1 hb.y1 hb.o1 hb.g1).1 e;rw[kv.inv.full.stands hb.y1 hv] at d;unfold ge;rw[aI b,aI (jS kv.inv.full hv t3 d)];exact kv.inv.set hb.l1 hb.y1 hb.g1 hv t3 d (fun f=>kv.any B f)
  ·rw[(oi (M:=S.s.M) (c:=dF a.O) b).1];exact kv.inv
 ·exact h.eo.more kv hb (kv.inv.full.ge hb.l1 hb.n1 hb.y1 hb.o1 hb.g1 (S.s.rs.getD A 0) I (S.s.rs.getD B 0)) hb.y1 hb.g1 (fun v hv=>hv)
 ·have:=h.m;have:=F8 (N:=a.N) (y:=S.s.y) (g:=S.s.g) (ws:=S.s.ws) (S.s.rs.getD A 0) I (S.s.rs.getD B 0) (dF a.O) S.s.M;show(stM a.N S.s.y S.s.g S.s.ws _ I _ (dF a.O) S.s.M).length<=j+1;omega
 ·show(ge a.N S.s.y S.s.g S.s.ws _ I _).length=a.N+a.O;unfold ge;split
  ·split
   ·rw[a4];exact hb.l1
   ·exact hb.l1
  ·exact hb.l1
theorem GX {x i z:Int}(h:ej a.N S.s.y S.s.g S.s.ws x i≠0):S.set a x i z=S:=by unfold cq.set;rw[(oi (M:=S.s.M) (c:=dF a.O) h).1,(oi h).2]
theorem GY {x:Int}(h:S.ex a x=0):tB a.N S.s.y S.s.g S.s.ws x=true:=by
 unfold cq.ex at h;split at h
 ·assumption
 ·omega
theorem GZ {x:Int}(h:S.kx a x=5):tB a.N S.s.y S.s.g S.s.ws x=true:=by
 unfold cq.kx at h;split at h
 ·assumption
 ·omega
theorem dV.reg (h:dV a S j)(hb:cI a S.s)(t g:Int):dV a (S.reg a t g).2 j/\cI a (S.reg a t g).2.s/\((S.reg a t g).1≠0->(S.reg a t g).2=S):=by
 unfold cq.reg;split
 ·rename_i c1;split
  ·rename_i c2;split
   ·exact⟨h,hb,fun _=>rfl⟩
   ·rename_i c3;refine⟨⟨h.kv,fun e he=>?_,h.m,?_⟩,hb,fun q=>absurd rfl q⟩
    ·rcases he with b|b
     ·rcases List.mem_append.1 b with b|b
      ·exact h.eo e (aK b)
      ·rw[List.mem_singleton.1 b];exact⟨GZ c2,GY c1⟩
     ·exact h.eo e (aJ b)
    ·dsimp only;rw[aX,List.length_singleton];omega
  ·exact⟨h,hb,fun _=>rfl⟩
 ·exact⟨h,hb,fun _=>rfl⟩
theorem zM {k R A B n:Int}(h:dJ k R A B n=0):gR k n=0:=by
 unfold dJ at h;split at h
 ·omega
 ·split at h
  ·omega
  ·exact h
theorem dV.hd (h:dV a S j)(hb:cI a S.s)(k R A B I n:Int):dV a (S.hd a k R A B I n).2 (j+1)/\cI a (S.hd a k R A B I n).2.s/\((S.hd a k R A B I n).1≠0->(S.hd a k R A B I n).2=S):=by
 unfold cq.hd;split
 ·rename_i hc;split
  ·obtain⟨r1,b,r3⟩:=h.reg hb _ _;exact⟨r1.mono V,b,r3⟩
  ·split
   ·obtain⟨r1,b⟩:=h.set hb A.toNat B.toNat I;exact⟨r1,b,fun q=>GX q⟩
   ·split
    ·obtain⟨r1,b⟩:=h.cut hb;exact⟨r1.mono V,b,fun q=>zK q⟩
    ·split
     ·obtain⟨r1,b⟩:=h.dy hb;exact⟨r1.mono V,b,fun q=>zL q⟩
     ·obtain⟨r1,b,r3,d⟩:=h.rt hb A.toNat B.toNat I (zM hc)
      split
      ·rename_i c;obtain⟨s1,s2⟩:=r1.st b (r3 c)
       exact⟨s1.mono V,s2,fun q=>absurd rfl q⟩
      ·rename_i c;exact⟨r1.mono V,b,fun _=>d c⟩
 ·exact⟨h.mono V,hb,fun _=>rfl⟩
end
end Go.Proofs.YtpkjkjhanlbcoaaGreat
