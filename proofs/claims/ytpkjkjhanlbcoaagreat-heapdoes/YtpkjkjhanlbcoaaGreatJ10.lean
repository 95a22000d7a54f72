import Derived.Test.YtpkjkjhanlbcoaaGreatJ09
import Derived.Lib.AppendZeros
import Derived.Laws.EntriesVeiled
namespace Go.Proofs.YtpkjkjhanlbcoaaGreat
set_option maxRecDepth 100000
set_option maxHeartbeats 8000000
open Tryz
open Go.RowKit W Kp ch
theorem xt {P:Prop}(h:P:=by
 go_wp2_with fail
 go_quiet (fail)
 have hbq:_:=below_drewN (au w1) nq;have hJ3:=(cq rp rb ca b8).below gh.o.1 hbq;have oO:ay (_/\_):=⟨hJ3,gh.o.2.below hbq⟩
 obtain⟨k1,_⟩:=e8 hJ3;have k2:=(hbq.cell (p:=ao w.heap.size 1) qg).trans q1;have sH:_:=aO qg hbq.size;generalize w1.drewN nq=w3 at*;have oP:=sI 0 w3.drew;clear hbq hJ3 u0 u1 v0 v1 c1 q1 q2 q3 q0 q4 q5;go_wp2_with fail
 go_region_held3 (fun w'=>w'.cell? (ao rp 1)=some (.slice (an rb) 12 12)/\w'.cell? (ao w.heap.size 1)=some (ak R)) (go_keep) (first|(go_at_call 59;refine oP.mono ?_;clear oP;rintro e w4 ⟨rfl,hb4⟩;have jP:_:=((au w3).drew).trans hb4;have mJ:=(cq rp rb ca b8).below oO.o.1 jP;have oQ:ay (_/\_):=⟨mJ,oO.o.2.below jP⟩;obtain⟨DV,_,_,_,_,_,_,gr⟩:=e8 mJ;obtain⟨DW,g3,g4,g5⟩:=gr R hR;have g6:=(jP.cell (p:=ao w.heap.size 1) sH).trans k2;clear hb4 jP mJ gr k1 k2))
 all_goals
  obtain⟨hJ2,oR⟩:=kP oQ.o.1 R (1,0)
  have HJ2:ay (_/\_):=⟨hJ2,oQ.o.2.trans oR⟩
  clear hJ2 oR;go_wp2_with fail;go_ret;rw[<-E.o];exact⟨rfl,HJ2.o.1,HJ2.o.2⟩):P:=h
theorem xu {P:Prop}(h:P:=by
 go_wp2_with (at_builtin;refine Lib.wpList_append_run _ rfl _ _ _ _ rfl _ _ rfl rfl _ _ hr ?_)
 go_wp2;go_ret;exact⟨_,_,rfl,hown,hb⟩):P:=h
theorem xv {q:List b9}{g:Int}{i:Nat}(hi:i<q.length)(e:(q.getD i (0,0)).1=g)(b:∀e∈q.take i,¬e.1=g):dV g q=i:=by
 unfold dV;rw[List.findIdx_eq hi];refine⟨?_,fun j c=>?_⟩
 ·rw[aG,aI hi] at e;simpa using e
 ·have:=b (q[j]'aa) (by rw[List.mem_take_iff_getElem];exact⟨j,aa,rfl⟩)
  simpa using this
theorem xw (z:Value)(n:Nat)(hz:z.cells.size=2):(Builtin.zeroCells z.cells n).size=n*2:=by rw[size_zeroCells,hz]
theorem DX (w:aw)(n:Nat)(k:n<=100000):
 Calls prog 243 #[.slice none 0 0,ak n] w fun e w'=>∃a1 c1,e=.returned (.slice a1 0 c1)/\w'.ownsRow w.heap.size 103 2 (.slice a1 0 c1) 0 []/\Below w.heap.size w w':=by
 obtain⟨c,hi,d,f,i⟩:=info_parts m_;rcases Nat.eq_zero_or_pos n with h0|h0
 ·subst h0;go_enter func243,ntmps243;go_wp2;go_ret;exact⟨none,0,rfl,a6 _ _ _ _,aE _ _⟩
 ·have hr:=Lib.run_append_nil_zeros (P:=prog) w 151 3 151 103 c _ .i64 .i64 underlying151 underlying3 hi d n h0 (by rw[f];decide) aa (by rw[i];omega)
  have j:=grownCap_ge w n 0 103;have b:=grownCap_le_maxLen w n 0 103 (by unfold maxLen;omega)
  generalize grownCap w n 0 103=g at hr j b;have hown:(w.drew.alloc (.cells (Builtin.zeroCells (Value.agg #[.int .i64 0,.int .i64 0]).cells n++Builtin.zeroCells (Value.agg #[.int .i64 0,.int .i64 0]).cells (g-n)) 103)).ownsRow w.heap.size 103 2 (.slice (some ⟨w.heap.size,0,none⟩) 0 g) 0 []:=
   World.ownsRow_made w.drew _ g bY b (by rw[Array.size_append,xw _ _ rfl,xw _ _ rfl];omega)
  have hb:Below w.heap.size w (w.drew.alloc (.cells (Builtin.zeroCells (Value.agg #[.int .i64 0,.int .i64 0]).cells n++Builtin.zeroCells (Value.agg #[.int .i64 0,.int .i64 0]).cells (g-n)) 103)):=(aE _ w).drew.alloc bY _;go_enter func243,ntmps243;exact xu
theorem DY (D:b9->Prop)(f:Nat)(b c:Array Value)(p:b9->Bool)(o:d7 f)(w:aw)
 (hl:∀(w':aw)(e:b9),D e->w.heap.size<=w'.heap.size->(∀k,k<w.heap.size->w'.heap[k]?=w.heap[k]?)->Calls prog f (b.push (en e)++c) w' fun r u=>r=.returned (.bool (p e))/\Below w'.heap.size w' u)
 (l:List b9)(q:Option Addr)(v:Nat)(hD:∀e∈l,D e)(hm:l.length<=100000)(hp:c8 w q l):
 Calls prog 228 #[.slice q l.length v,.func (.func f) b c] w fun r w'=>Below w.heap.size w w'/\((r=.returned (ak (-1))/\∀e∈l,p e=false)\/∃i:Nat,r=.returned (ak i)/\i<l.length/\p (l.getD i (0,0))=true/\∀e∈l.take i,p e=false):=by
 have x:=hide hl;have B:=hide hp;have F:=hide hD;have ag:∀(args:Array Value)(w:aw),(callFunc f args).run prog w=.ok (.enter f args) w:=o;clear hl hp o hD;go_enter func228,ntmps228;go_wp2_with fail
 go_loopw [8] (fun iv wr=>∃j:Nat,j<=l.length/\iv=ak j/\ay (∀e∈l.take j,p e=false)/\Below w.heap.size w wr) (fun iv _=>l.length-(intOf iv).toNat)
 case atStart=>exact⟨0,aX _,rfl,by simp[ay,Hid],aE _ _⟩
 case round=>
  obtain⟨j,ai,rfl,m,hb⟩:=hrel;by_cases d:j<l.length
  ·obtain⟨al,ap,N,ar,hc⟩:=B.o.below hb aa;obtain⟨S,W⟩:=hc j d;have n:ay (l.getD j (0,0)=((l.getD j (0,0)).1,(l.getD j (0,0)).2)):=rfl;have hd:D (l.getD j (0,0)):=F.o _ (by rw[aG,aI d];exact a_ d)
   have hd:D ((l.getD j (0,0)).1,(l.getD j (0,0)).2):=hd;obtain⟨g,hg⟩:∃g,g=(l.getD j (0,0)).1:=⟨_,rfl⟩
   obtain⟨z,hz⟩:∃z,z=(l.getD j (0,0)).2:=⟨_,rfl⟩
   rw[<-hg] at S hd n;rw[<-hz] at W hd n;clear hc hg hz;subst N;go_wp2_with fail;refine(x.o wr (g,z) hd hb.size hb.block).mono ?_;rintro r w1 ⟨rfl,s⟩
   have t:=hb.trans (s.mono hb.size)
   clear hb s;cases hp:p (g,z)
   ·have ab:ay (∀e∈l.take (j+1),p e=false):=fun e he=>by
     rw[fE l j d (0,0),List.mem_append,List.mem_singleton] at he;rcases he with he|he
     ·exact m.o e he
     ·rw[he,n.o];exact hp
    clear hp;go_wp2_with fail;go_roundw;exact⟨j+1,aa,aj,ab,t⟩
    simp[intOf];omega
   ·have ad:ay (p (l.getD j (0,0))=true):=by show _=_;rw[n.o];exact hp
    clear hp;go_wp2_with fail;go_ret;exact⟨t,aK ⟨j,rfl,d,ad.o,m.o⟩⟩
  ·obtain rfl:j=l.length:=aa;rw[ba] at m;go_wp2_with fail;go_ret;exact⟨hb,aL ⟨rfl,m.o⟩⟩
theorem DZ (w:aw)(B:Nat)(l1 l2:List b9)(f g:Addr)(c1 c2:Nat)(q:w.cell? (ao B 0)=some (.slice (some f) l1.length c1))(F:w.cell? (ao B 1)=some (.slice (some g) l2.length c2))(N:c8 w (some f) l1)(S:c8 w (some g) l2)(hm:l1.length+l2.length<=100000):
 Calls prog 230 #[.slice (an B) 2 2] w fun e w'=>∃a c,e=.returned (.slice a (l1.length+l2.length) c)/\w'.ownsRow w.heap.size 103 2 (.slice a (l1.length+l2.length) c) (l1.length+l2.length) (ev (l1++l2))/\Below w.heap.size w w':=by
 obtain⟨s,hi,t,u,x⟩:=info_parts m_;have W:=hide N;have ab:=hide S;have hB:=aM w _ q;go_enter func230,ntmps230;go_wp2
 go_loopw [3,11] (fun i iv wr=>wr=w/\((iv=ak 0/\i=ak 0)\/(iv=ak 1/\i=ak l1.length)\/(iv=ak 2/\i=ak (l1.length+l2.length:Nat)))) (fun _ iv _=>2-(intOf iv).toNat)
 exact⟨rfl,aL ⟨rfl,rfl⟩⟩
 ·
   obtain⟨hw,⟨rfl,rfl⟩|⟨rfl,rfl⟩|⟨rfl,rfl⟩⟩:=hrel
   all_goals
    have hw:=hw.symm;subst hw
   ·go_wp2;go_roundw;exact⟨trivial,aK (aL ⟨aj,aj⟩)⟩
    simp[intOf]
   ·go_wp2;go_roundw;exact⟨trivial,aK (aK ⟨aj,aj⟩)⟩
    simp[intOf]
   ·go_wp2_with fail;refine(DX w (l1.length+l2.length) hm).mono ?_;rintro e w1 ⟨a1,ad,rfl,b,hb⟩
    go_wp2
    go_loopw [6,27] (fun j iv wk=>Below w.heap.size w wk/\((∃a c,iv=ak 0/\j=.slice a 0 c/\wk.ownsRow w.heap.size 103 2 (.slice a 0 c) 0 [])\/(∃a c,iv=ak 1/\j=.slice a l1.length c/\wk.ownsRow w.heap.size 103 2 (.slice a l1.length c) l1.length (ev l1))\/(∃a c,iv=ak 2/\j=.slice a (l1.length+l2.length) c/\wk.ownsRow w.heap.size 103 2 (.slice a (l1.length+l2.length) c) (l1.length+l2.length) (ev (l1++l2))))) (fun _ iv _=>2-(intOf iv).toNat)
    exact⟨hb,aL ⟨a1,ad,rfl,rfl,b⟩⟩
    ·
      obtain⟨hb,⟨a,c,rfl,rfl,b⟩|⟨a,c,rfl,rfl,b⟩|⟨a,c,rfl,rfl,b⟩⟩:=hrel
      ·have ag:=(hb.cell (p:=ao B 0) hB).trans q;have hs:=hb.size;go_wp2_with (at_builtin;refine wpList_append_own _ rfl _ _ 151 rfl w.heap.size 103 s (.agg #[ak 0,ak 0]) 2 16 underlying151 hi t u x rfl ae (.slice a 0 c) 0 [] rfl b f l1.length c1 (ev l1) rfl (jO l1) ((W.o.below hb).cells f rfl) (i0 l1) ?_ ?_ hs ?_;(unfold maxLen;omega);omega;intro v ai d l _;rw[Nat.zero_add,List.nil_append] at d;obtain⟨a2,m,n⟩:=dU d;subst n)
       have o:=hb.grown l hs (fun k e=>(cg b k e.symm).1)
       go_wp2;go_roundw;exact⟨o,aK (aL ⟨a2,m,aj,rfl,d⟩)⟩
       simp[intOf]
      ·have ag:=(hb.cell (p:=ao B 1) hB).trans F;have hs:=hb.size;go_wp2_with (at_builtin;refine wpList_append_own _ rfl _ _ 151 rfl w.heap.size 103 s (.agg #[ak 0,ak 0]) 2 16 underlying151 hi t u x rfl ae (.slice a l1.length c) l1.length (ev l1) rfl b g l2.length c2 (ev l2) rfl (jO l2) ((ab.o.below hb).cells g rfl) (i0 l2) ?_ ?_ hs ?_;(unfold maxLen;omega);omega;intro v ai d l _;rw[<-kO] at d;obtain⟨a2,m,n⟩:=dU d;subst n)
       have o:=hb.grown l hs (fun k e=>(cg b k e.symm).1)
       go_wp2;go_roundw;exact⟨o,aK (aK ⟨a2,m,aj,rfl,d⟩)⟩
       simp[intOf]
      ·go_wp2;go_ret;exact⟨a,c,rfl,b,hb⟩
structure gu (w:aw)(p:Nat)(a0:Option Addr)(k0:Nat)(a1:Option Addr)(k1:Nat)(r q:List b9):Prop where
 blk:w.heap[p]?=some (.cells #[.slice a0 r.length k0,.slice a1 q.length k1] 153 (0,0))
 r0:w.ownsRow 0 103 2 (.slice a0 r.length k0) r.length (ev r)
 q0:w.ownsRow 0 103 2 (.slice a1 q.length k1) q.length (ev q)
theorem nF {w:aw}{base:Nat}{e:TypeId}{c:Option Addr}{d:Nat}{l:List b9}(h:w.ownsRow base e 2 (.slice c l.length d) l.length (ev l)):iz w c l d:=by
 refine⟨gn h,?_,?_⟩
 ·rcases h.2 with⟨b,h0⟩|⟨g,f,i,b,_,_,hc,_⟩
  ·omega
  ·simp at b;omega
 ·intro j;rcases h.2 with⟨b,h0⟩|⟨g,f,i,b,_⟩
  ·simp at b;exact⟨h0,b.2.2⟩
  ·rw[j] at b;simp at b
theorem gu.keep {w w':aw}{p:Nat}{a0 a1:Option Addr}{k0 k1:Nat}{r q:List b9}(h:gu w p a0 k0 a1 k1 r q)(b:w'.heap[p]?=w.heap[p]?)(c:∀k,some k=(Value.slice a0 r.length k0).ownBlock->w'.heap[k]?=w.heap[k]?)(d:∀k,some k=(Value.slice a1 q.length k1).ownBlock->w'.heap[k]?=w.heap[k]?):gu w' p a0 k0 a1 k1 r q:=
 ⟨b.trans h.blk,cy h.r0 c,cy h.q0 d⟩
theorem gu.below {w w':aw}{p:Nat}{a0 a1:Option Addr}{k0 k1:Nat}{r q:List b9}(h:gu w p a0 k0 a1 k1 r q)(hb:Below w.heap.size w w'):gu w' p a0 k0 a1 k1 r q:=
 h.keep (hb.block p (lt_of_some h.blk)) (fun k e=>hb.block k (cg h.r0 k e).2) (fun k e=>hb.block k (cg h.q0 k e).2)
theorem gu.np {w:aw}{p:Nat}{a0 a1:Option Addr}{k0 k1:Nat}{r q:List b9}(h:gu w p a0 k0 a1 k1 r q){b n:Nat}{v:Value}{l:List Value}(c:w.ownsRow b 103 2 v n l):∀k,some k=v.ownBlock->k≠p:=by intro k e d;obtain⟨f,hc⟩:=d6 c k e;rw[d,h.blk] at hc;simp at hc
def kz (n:Nat):Bool:=decide (24<=n)
theorem sJ {n:Nat}(h:24<=n):kz n=true:=by simp[kz,h]
theorem sK {n:Nat}(h:¬24<=n):kz n=false:=by simp[kz,h]
theorem D0 {n0 n1:Nat}(h0:n0<=100000)(b:n1<=100000):ay (decide ((24:Int)<=IntKind.i64.wrap ((n0:Int)+(n1:Int)))=kz (n0+n1)):=by
 show _=_;rw[show IntKind.i64.wrap ((n0:Int)+(n1:Int))=(n0:Int)+n1 by rw[bw];omega];unfold kz;by_cases h:24<=n0+n1
 ·rw[bq h,bq aa]
 ·rw[bA h,bA aa]
theorem xy (w:aw)(p:Nat)(a0 a1:Option Addr)(n0 k0 n1 k1:Nat)(h:w.heap[p]?=some (.cells #[.slice a0 n0 k0,.slice a1 n1 k1] 153 (0,0)))(h0:n0<=100000)(b:n1<=100000):
 Calls prog 103 #[am p] w fun e w'=>e=.returned (.bool (kz (n0+n1)))/\Below w.heap.size w w':=by
 have c0:w.cell? (ao p 0)=some (.slice a0 n0 k0):=aA h
 have c1:w.cell? (ao p 1)=some (.slice a1 n1 k1):=aA h
 clear h;have c:=D0 h0 b;go_enter func103,ntmps103;go_wp2_with fail
 go_region_held3 (fun w'=>w'.cell? (ao p 0)=some (.slice a0 n0 k0)/\w'.cell? (ao p 1)=some (.slice a1 n1 k1)) (go_keep) (fail)
 go_wp2_with fail;go_ret;exact⟨by rw[<-c.o];rfl,bZ.drew⟩
theorem gu.cells {w:aw}{p:Nat}{a0 a1:Option Addr}{k0 k1:Nat}{r q:List b9}(h:gu w p a0 k0 a1 k1 r q):w.cell? (ao p 0)=some (.slice a0 r.length k0)/\w.cell? (ao p 1)=some (.slice a1 q.length k1)/\w.frozen? (ao p 0)=false/\w.frozen? (ao p 1)=false/\p<w.heap.size:=
 ⟨by simp[World.cell?,h.blk],by simp[World.cell?,h.blk],by simp[World.frozen?,h.blk],by simp[World.frozen?,h.blk],lt_of_some h.blk⟩
theorem D1 {w:aw}{p:Nat}{x y v:Value}{T:TypeId}(h:w.heap[p]?=some (.cells #[x,y] T (0,0))):(w.setCell ⟨p,0,none⟩ v).heap[p]?=some (.cells #[v,y] T (0,0)):=by exact sk
theorem D2 {w:aw}{p:Nat}{x y v:Value}{T:TypeId}(h:w.heap[p]?=some (.cells #[x,y] T (0,0))):(w.setCell ⟨p,1,none⟩ v).heap[p]?=some (.cells #[x,v] T (0,0)):=by exact sk
theorem D3 (w:aw)(p:Nat)(a0 a1:Option Addr)(k0 k1:Nat)(r q:List b9)(g z:Int)(h:gu w p a0 k0 a1 k1 r q)(h0:r.length<=90000)(F:q.length<=90000):
 Calls prog 49 #[am p,.agg #[ak g,ak z]] w fun e w'=>e=.returned (.bool (!kz (r.length+q.length)))/\
  ((24<=r.length+q.length/\Below w.heap.size w w')\/(¬24<=r.length+q.length/\∃b1 c1,gu w' p (an b1) c1 a1 k1 (r++[(g,z)]) q/\w.heap.size<=b1/\Fr (fun k=>k=p) w w')):=by
 obtain⟨c0,c1,s,N,lp⟩:=h.cells;have H:ay (gu w p a0 k0 a1 k1 r q):=h;have d:=aq w (.cells #[.int .i64 g,.int .i64 z] 103)
 have t:ay (iz w a0 r k0):=nF h.r0;by_cases b:24<=r.length+q.length
 ·rw[sJ b];clear h;go_enter func49,ntmps49;go_wp2_with fail;refine(xy _ p a0 a1 r.length k0 q.length k1 ((d.block p lp).trans H.o.blk) aa aa).mono ?_;rintro e w1 ⟨rfl,hb⟩
  rw[sJ b];have c:=d.trans (hb.mono ac)
  go_wp2_with fail;go_ret;exact⟨rfl,aL ⟨b,c⟩⟩
 ·rw[sK b];clear h;go_enter func49,ntmps49;go_wp2_with fail;refine(xy _ p a0 a1 r.length k0 q.length k1 ((d.block p lp).trans H.o.blk) aa aa).mono ?_;rintro e w1 ⟨rfl,hb⟩
  rw[sK b];have c:=d.trans (hb.mono ac)
  have S:w.heap.size<w1.heap.size:=by have:=hb.size;simp at this;omega
  have W:w1.cell? (ao w.heap.size 0)=some (ak g):=(hb.cell ac).trans ac;have y1:w1.cell? (ao w.heap.size 1)=some (ak z):=(hb.cell ac).trans ac;have u:=(c.cell (p:=ao p 0) lp).trans c0;have v:=(c.frozen (p:=ao p 0) lp).trans s;have m:p<w1.heap.size:=aa;have x:=t.o.below c;clear hb d;go_wp2_with fail
  go_region_with (go_at_call 104;refine(vz _ a0 r k0 g z (x.below (bZ.drew)) aa).mono ?_;rintro e f ⟨b1,gq,rfl,j,l⟩;have ab:=(l.cell (p:=ao p 0) m).trans u;have ad:=(l.frozen (p:=ao p 0) m).trans v)
  all_goals
   go_wp2_with fail;go_ret;refine⟨rfl,aK ⟨b,b1,gq,?_⟩⟩
   have n:Below w.heap.size w f:=c.drew.trans (l.mono (by simp;omega))
   have lb:w1.heap.size<=b1:=(cg j b1 rfl).1;have i:=H.o.below n;have B:Fr (fun k=>k=p) w (f.setCell ⟨p,0,none⟩ (.slice (some ⟨b1,0,none⟩) (r.length+1) gq)):=(Fr.of n).set p 0 _ rfl;have o:∀k,k≠p->(f.setCell ⟨p,0,none⟩ (.slice (some ⟨b1,0,none⟩) (r.length+1) gq)).heap[k]?=f.heap[k]?:=fun k hk=>aP _ _ _ _ hk;refine⟨⟨by simpa using D1 i.blk,?_,cy i.q0 (fun k e=>o k (i.np i.q0 k e))⟩,aa,B⟩
   have:=ec (base':=0) (cy (w':=f.setCell ⟨p,0,none⟩ (.slice (some ⟨b1,0,none⟩) (r.length+1) gq)) j (fun k e=>o k (i.np j k e))) (fun _ _=>aX _)
   simpa using this
theorem xz (w:aw)(B n1 b:Nat)(l1 l2:List b9)(d f:Addr)(c1 c2:Nat)(g:l1.length=n1)(i:l2.length=b)(j:w.cell? (ao B 0)=some (.slice (some d) n1 c1))(k:w.cell? (ao B 1)=some (.slice (some f) b c2))(l:c8 w (some d) l1)(n:c8 w (some f) l2)(hm:n1+b<=100000):
 Calls prog 230 #[.slice (an B) 2 2] w fun e w'=>∃a c m,e=.returned (.slice a m c)/\ay (m=n1+b)/\ay (w'.ownsRow w.heap.size 103 2 (.slice a m c) m (ev (l1++l2)))/\Below w.heap.size w w':=by
 subst g;subst i;refine(DZ w B l1 l2 d f c1 c2 j k l n hm).mono ?_;rintro e w' ⟨a,c,rfl,o,p⟩
 exact⟨a,c,_,rfl,rfl,o,p⟩
theorem c8.take {w:aw}{c:Option Addr}{q:List b9}(h:c8 w c q)(i:Nat):c8 w c (q.take i):=by
 intro hp;simp only [List.length_take] at hp;obtain⟨b,o,e,hb,hc⟩:=h aa;refine⟨b,o,e,hb,fun j d=>?_⟩
 simp only [List.length_take] at d;have f:(q.take i).getD j (0,0)=q.getD j (0,0):=by rw[aG,aG,List.getElem?_take_of_lt aa]
 rw[f];exact hc j aa
theorem c8.drop {w:aw}{b o:Nat}{q:List b9}(h:c8 w (some ⟨b,o,none⟩) q)(i:Nat):c8 w (some ⟨b,o+i*2,none⟩) (q.drop i):=by
 intro hp;simp only [List.length_drop] at hp;obtain⟨f,g,e,hb,hc⟩:=h aa;cases e;refine⟨b,o+i*2,rfl,hb,fun j c=>?_⟩
 simp only [List.length_drop] at c;have d:(q.drop i).getD j (0,0)=q.getD (i+j) (0,0):=by simp[List.getElem?_drop]
 rw[d,show o+i*2+j*2=o+(i+j)*2 by omega];exact hc (i+j) aa
theorem D4:d7 229:=gW func229 ah rfl
theorem D5 (w:aw)(B:Nat)(g:Int)(e:b9)(h:w.cell? (ao B 0)=some (ak g)):
 Calls prog 229 #[en e,am B] w fun r w'=>r=.returned (.bool (e.1==g))/\Below w.heap.size w w':=by
 obtain⟨x,y⟩:=e;have c:=aM w _ h;have b:=aq w (.cells #[.int .i64 x,.int .i64 y] 103)
 ·go_wp2;go_ret;exact⟨ac,b⟩
theorem xA {w w1 b:aw}{p m:Nat}{a0 c:Option Addr}{k0 k1 c5 i n:Nat}{r q:List b9}(h:gu w p a0 k0 (an m) k1 r q)(f:Below w.heap.size w w1)(o:Below w1.heap.size w1 b)(g:b.ownsRow w1.heap.size 103 2 (.slice c n c5) n (ev (q.take i++q.drop (i+1))))(hi:i<q.length)(s:n+1=q.length):
 gu (b.setCell ⟨p,1,none⟩ (.slice c n c5)) p a0 k0 c c5 r (q.take i++q.drop (i+1))/\(∀z,c=some z->w.heap.size<=z.block)/\Fr (fun k=>k=p) w (b.setCell ⟨p,1,none⟩ (.slice c n c5)):=by
 have j:=f.trans (o.mono f.size)
 have d:=h.below j;have hl:(q.take i++q.drop (i+1)).length=n:=by rw[aZ,bu,List.length_drop];omega
 have l:∀k,k≠p->(b.setCell ⟨p,1,none⟩ (.slice c n c5)).heap[k]?=b.heap[k]?:=fun k hk=>aP _ _ _ _ hk;refine⟨⟨by rw[hl];exact D2 d.blk,cy d.r0 (fun k e=>l k (d.np d.r0 k e)),?_⟩,fun z e=>?_,(Fr.of j).set p 1 _ rfl⟩
 ·rw[hl];exact ec (cy g (fun k e=>l k (d.np g k e))) (fun _ _=>aX _)
 ·have:=(cg g z.block (by rw[e];rfl)).1;have:=f.size;omega
theorem D6 (w:aw)(p:Nat)(a0 a1:Option Addr)(k0 k1:Nat)(r q:List b9)(g:Int)(h:gu w p a0 k0 a1 k1 r q)(bb:q.length<=90000):
 Calls prog 194 #[am p,ak g] w fun e w'=>
  (e=.returned (.tuple #[ak 0,.bool false])/\(∀e∈q,¬e.1=g)/\Below w.heap.size w w')\/
  (∃(i:Nat)(b1:Option Addr)(c1:Nat),e=.returned (.tuple #[ak (q.getD i (0,0)).2,.bool true])/\i<q.length/\(q.getD i (0,0)).1=g/\(∀e∈q.take i,¬e.1=g)/\gu w' p a0 k0 b1 c1 r (q.take i++q.drop (i+1))/\(∀z,b1=some z->w.heap.size<=z.block)/\Fr (fun k=>k=p) w w'):=by
 obtain⟨c0,c1,ap,bd,lp⟩:=h.cells;have H:ay (gu w p a0 k0 a1 k1 r q):=h;have l:=aq w (.cells #[.int .i64 g] 2)
 have y1:=(l.cell (p:=ao p 1) lp).trans c1;have P:=DY (fun _=>True) 229 #[] #[am w.heap.size] (fun e=>e.1==g) D4 (w.alloc (.cells #[.int .i64 g] 2)) (fun w' e _ hs hk=>D5 w' w.heap.size g e ((aW (a:=⟨w.heap.size,0,none⟩) (hk _ ac)).trans ac)) q a1 k1 (fun _ _=>trivial) aa ((gn h.q0).below l)
 clear h c0 ap;go_enter func194,ntmps194;go_wp2_with fail;refine P.mono ?_;clear P;rintro e w1 ⟨hb,⟨rfl,m⟩|⟨i,rfl,hi,ht,m⟩⟩
 ·have o:ay (∀e∈q,¬e.1=g):=fun e he=>by simpa using m e he
  have f:=l.trans (hb.mono ac)
  clear hb m;go_wp2_with fail;go_ret2;exact aL ⟨rfl,o.o,f⟩
 ·have o:ay (∀e∈q.take i,¬e.1=g):=fun e he=>by simpa using m e he
  have ab:ay ((q.getD i (0,0)).1=g):=by show _=_;simpa using ht
  obtain⟨z,t⟩:∃z,ay (z=(q.getD i (0,0)).2):=⟨_,rfl⟩
  have f:=l.trans (hb.mono ac)
  have be:=f.size;have j:=H.o.below f;obtain⟨bg,ad,bi,ag,s⟩:=j.cells;have u:=nF j.q0;obtain⟨b,bl,ai⟩:=d4 j.q0 aa;simp at ai;obtain⟨rfl,rfl⟩:=ai;have bn:=u.le;have ar:k1<=maxLen:=by
   rcases j.q0.2 with⟨_,h0⟩|⟨g,bo,bp,ax,_,_,_,hc,_⟩
   ·omega
   ·simp at ax;omega
  unfold maxLen at ar;obtain⟨br,bs,aB,bt,hc⟩:=u.lp aa;cases aB;have aF:=(hc i hi).2;rw[Nat.zero_add,<-t.o] at aF;have bx:(0:Int)<=(i:Int):=aa;have b0:(i:Int)<(q.length:Int):=aa;have b2:ay (gu w1 p a0 k0 (an b) k1 r q):=j;clear hb m l hc j ht;have v:ay (c8 w1 (an b) q):=u.lp;have al:ay ((q.take i).length=i):=by show _=_;rw[bu];omega
  have b3:(i:Int)<=(k1:Int):=aa;have b4:IntKind.i64.wrap ((i:Int)+1)=(i:Int)+1:=by rw[bw];omega
  have b5:(0:Int)<=(i:Int)+1:=aa;have b6:(i:Int)+1<=(q.length:Int):=aa;have b7:((i:Int)+1).toNat=i+1:=aa;have b8:(i:Int).toNat=i:=aa;by_cases hk:i+1=k1
  ·subst hk;have hz:q.length-(i+1)=0:=aa;have c:=(aq w1 (.cells #[.slice (some ⟨b,0,none⟩) i (i+1),.slice (some ⟨b,0,none⟩) 0 0] 151)).drew;have x:ay ((q.drop (i+1)).length=0):=by show _=_;rw[List.length_drop];omega
   have aR:c8 (w1.alloc (.cells #[.slice (some ⟨b,0,none⟩) i (i+1),.slice (some ⟨b,0,none⟩) 0 0] 151)).drew (an b) (q.drop (i+1)):=fun h=>by rw[List.length_drop] at h;omega
   go_wp2_with fail
   go_region_with (go_at_call 230;refine(xz _ w1.heap.size i (0) (q.take i) (q.drop (i+1)) ⟨b,0,none⟩ ⟨b,0,none⟩ (i+1) (0) al.o x.o ac ac ((v.o.take i).below c) (aR) aa).mono ?_;rintro e B ⟨F,c5,aT,rfl,N,n,d⟩;have aV:=(d.cell (p:=ao p 1) (by simp;omega)).trans ((c.cell (p:=ao p 1) s).trans ad);have a2:=(d.frozen (p:=ao p 1) (by simp;omega)).trans ((c.frozen (p:=ao p 1) s).trans ag))
   all_goals
    go_wp2_with fail;go_ret2;refine aK ⟨i,F,c5,by rw[<-t.o];rfl,hi,ab.o,o.o,?_⟩
    have S:Below w1.heap.size w1 B:=c.trans (d.mono ac)
    exact xA H.o f S (ec n.o (fun k e=>by have:=(cg n.o k e).1;simp at this;omega)) hi (by have:=N.o;omega)
  ·have ca:¬k1=i+1:=fun e=>hk e.symm;have c:=(aq w1 (.cells #[.slice (some ⟨b,0,none⟩) i k1,.slice (some ⟨b,(i+1)*2,none⟩) (q.length-(i+1)) (k1-(i+1))] 151)).drew;have x:ay ((q.drop (i+1)).length=q.length-(i+1)):=List.length_drop;have W:=(v.o.drop (i+1)).below c;rw[Nat.zero_add] at W;have a3:ay (c8 (w1.alloc (.cells #[.slice (some ⟨b,0,none⟩) i k1,.slice (some ⟨b,(i+1)*2,none⟩) (q.length-(i+1)) (k1-(i+1))] 151)).drew (some ⟨b,(i+1)*2,none⟩) (q.drop (i+1))):=W;clear W;go_wp2_with fail
   go_region_with (go_at_call 230;refine(xz _ w1.heap.size i (q.length-(i+1)) (q.take i) (q.drop (i+1)) ⟨b,0,none⟩ ⟨b,(i+1)*2,none⟩ k1 (k1-(i+1)) al.o x.o ac ac ((v.o.take i).below c) (a3.o) aa).mono ?_;rintro e B ⟨F,c5,aT,rfl,N,n,d⟩;have aV:=(d.cell (p:=ao p 1) (by simp;omega)).trans ((c.cell (p:=ao p 1) s).trans ad);have a2:=(d.frozen (p:=ao p 1) (by simp;omega)).trans ((c.frozen (p:=ao p 1) s).trans ag))
   all_goals
    go_wp2_with fail;go_ret2;refine aK ⟨i,F,c5,by rw[<-t.o];rfl,hi,ab.o,o.o,?_⟩
    have S:Below w1.heap.size w1 B:=c.trans (d.mono ac)
    exact xA H.o f S (ec n.o (fun k e=>by have:=(cg n.o k e).1;simp at this;omega)) hi (by have:=N.o;omega)
section
variable {rp rb:Nat}{ca b8:Int}{F:Nat->Prop}{s:cn}{w:aw}
theorem sL (h:(cq rp rb ca b8).J F s w):∃f,w.cell? (ao rp 3)=some f/\w.ownsRow 0 116 2 f s.wt.length (ev s.wt)/\(∀b,some b=f.ownBlock->b≠rp/\b≠rb)/\
 ∀(l:List b9)(v1:Value)(w1:aw),Below w.heap.size w w1->w1.ownsRow w.heap.size 116 2 v1 l.length (ev l)->
  (cq rp rb ca b8).J (fun b=>F b\/some b=v1.ownBlock) {s with wt:=l} (w1.setCell ⟨rp,3,none⟩ v1)/\ce F w (fun b=>F b\/some b=v1.ownBlock) (w1.setCell ⟨rp,3,none⟩ v1):=by
 obtain⟨own,m,x,v2,f,h,q⟩:=h;have p:=h.blk;refine⟨f,by simp[World.cell?,p],h.g3,fun b e=>⟨fun c=>?_,fun c=>?_⟩,fun l v1 w1 g k=>?_⟩
 ·have:=h.f5 b e;rw[c,h.b1] at this
  omega
 ·have:=h.f5 b e;rw[c,h.r1] at this
  omega
 have t:∀b,some b=v1.ownBlock->_=_:=fun b e=>Classical.byContradiction (fun c=>by have q1:=h.lt b c;have S:=(cg k b e).1;omega)
 have i:∀b j,own b=j->j≠0->(if some b=v1.ownBlock then 6 else own b)=j:=fun b j e h0=>by rw[aH (fun c=>by have:=t b c;omega)];exact e
 have sz:(w1.setCell ⟨rp,3,none⟩ v1).heap.size=w1.heap.size:=by simp[World.setCell]
 have hk:∀b,b<w.heap.size->own b≠1->(w1.setCell ⟨rp,3,none⟩ v1).heap[b]?=w.heap[b]?:=fun b hb B=>(aP _ _ _ _ (fun e=>B (by have e:=e;rw[e];exact h.b1))).trans (g.block b hb)
 have N:¬some rp=v1.ownBlock:=fun e=>by have:=t rp e;rw[h.b1] at this;omega
 refine⟨⟨fun b=>if some b=v1.ownBlock then 6 else own b,m,x,v2,v1,?_,fun b=>?_⟩,⟨?_,fun b e=>e.imp_right (fun e=>(cg k b e).1)⟩⟩
 ·exact {
   blk:=by simp only [World.setCell,Array.getElem?_modify,if_true,((g.block rp (lt_of_some p)).trans p),Option.map_some];simp
   b1:=i _ _ h.b1 ae
   row:=cy h.row (fun b e=>hk b (cg h.row b e).2 (by rw[h.ro b e];decide))
   ro:=fun b e=>i _ _ (h.ro b e) ae
   nd:=h.nd
   fl:=fun y hy=>by
    refine⟨(h.fl y hy).1.at (by rw[sz];exact g.size) (fun b o hp e=>?_),fun hp=>?_⟩
    ·obtain⟨u,v,d,n⟩:=(h.fl y hy).2 hp;rw[e] at d;cases d;exact hk _ (h.lt _ (by rw[n];decide)) (by rw[n];decide)
    ·obtain⟨u,v,d,n⟩:=(h.fl y hy).2 hp;exact⟨u,v,d,i _ _ n ae⟩
   rt:=(hk _ (lt_of_some h.rt) (by rw[h.r1];decide)).trans h.rt
   rl:=h.rl
   r1:=i _ _ h.r1 ae
   g2:=cy h.g2 (fun b e=>hk b (cg h.g2 b e).2 (by rw[h.fQ b e];decide)),fQ:=fun b e=>i _ _ (h.fQ b e) ae
   g3:=ec (cy k (fun b e=>aP _ _ _ _ (fun d=>N (by have d:b=rp:=d;rw[<-d];exact e)))) (fun _ _=>aX _)
   f5:=fun b e=>by rw[aJ e]
   lt:=fun b hb=>by
    rw[sz];by_cases c1:some b=v1.ownBlock
    ·exact(cg k b c1).2
    ·rw[aH c1] at hb;exact aO (h.lt b hb) g.size}
 ·by_cases c1:some b=v1.ownBlock
  ·simp[c1]
  ·simp[c1,q b]
 ·exact(Fr.of g).set rp 3 _ ((q rp).2 (by rw[h.b1];decide))
theorem D7 (h:(cq rp rb ca b8).J F s w)(R A:Nat)(cu:R<12)(cv:A<12)(B I n:Int)(b6:iM 10 R A B I n)(b7:0<=s.th A->s.th A<s.T.length)(cU:s.wt.length<=10000):
 Calls prog 21 #[am rp,gt 10 R A B I n] w fun e w'=>∃cb,e=.returned (ak (if s.gd A<0 then 2 else if(dV (s.gd A) s.wt)<s.wt.length then 0 else 4))/\(cq rp rb ca b8).J cb (if s.gd A<0 then s else if(dV (s.gd A) s.wt)<s.wt.length then {s with rs:=s.rs.set R (3,(s.wt.getD (dV (s.gd A) s.wt) (0,0)).2),wt:=s.wt.take (dV (s.gd A) s.wt)++s.wt.drop ((dV (s.gd A) s.wt)+1)} else s) w'/\ce F w cb w':=by
 have cc:ay (∀w',(cq rp rb ca b8).J F s w'->Calls prog 62 #[am rp,ak A] w' fun e cw=>e=.returned (ak (s.gd A))/\cw=w'):=fun w' cx=>wK cx A cv b7;obtain⟨z,v⟩:∃z:Int,ay ((if s.gd A<0 then 2 else if(dV (s.gd A) s.wt)<s.wt.length then 0 else 4)=z):=⟨_,rfl⟩
 obtain⟨sz,N⟩:∃sz:cn,ay ((if s.gd A<0 then s else if(dV (s.gd A) s.wt)<s.wt.length then {s with rs:=s.rs.set R (3,(s.wt.getD (dV (s.gd A) s.wt) (0,0)).2),wt:=s.wt.take (dV (s.gd A) s.wt)++s.wt.drop ((dV (s.gd A) s.wt)+1)} else s)=sz):=⟨_,rfl⟩
 rw[v.o,N.o];clear b7;generalize s.gd A=g at*;obtain⟨a1,a2,a3,bb,bd⟩:=info_parts xr;have cd:=aq w (dr 10 R A B I n)
 have P:=b6 (w.alloc (dr 10 R A B I n))
 have ap:ay ((cq rp rb ca b8).J F s w/\Below w.heap.size w (w.alloc (dr 10 R A B I n))):=⟨h,cd⟩
 clear h cd b6;go_enter func21,ntmps21;go_wp2_with fail;refine P.mono ?_;clear P;rintro e w1 ⟨rfl,bn⟩
 have hb:=ap.o.2.trans (bn.mono ac)
 have S:=(cq rp rb ca b8).below ap.o.1 hb;have o:w1.heap[w.heap.size]?=some (dr 10 R A B I n):=(bn.block _ ac).trans (aN _ _)
 obtain⟨q0,q1,cy,q3,cz,cA⟩:=fX o;obtain⟨c1,_,_,cV,cW,cB,cX,cf⟩:=e8 S;obtain⟨cC,cD,ar,y1⟩:=cf R cu;obtain⟨cY,cE,cF⟩:=lH S;have lb:=(cq rp rb ca b8).lt ap.o.1 rb cE;have lp:=(cq rp rb ca b8).lt ap.o.1 rp cF;have gG:rb≠w.heap.size:=aa;have cZ:rp≠w.heap.size:=aa;have m:ay ((cq rp rb ca b8).J F s w1/\ce F w F w1):=⟨S,ce.of hb⟩
 have r0:(0:Int)<=(R:Int):=aa;have r1:(R:Int)<12:=aa;have c0:w.heap.size<w1.heap.size:=lt_of_some o;obtain⟨cG,d,q,ch,_⟩:=sL S;obtain⟨ci,c,be⟩:=dU q;subst be;have cj:=cc.o w1 S;have bg:ay (iz w1 ci s.wt c/\∀b,some b=(Value.slice ci s.wt.length c).ownBlock->b≠rp/\b≠rb):=⟨nF q,ch⟩
 clear S hb bn o cf cB ap cc q ch;go_wp2_with fail;refine cj.mono ?_;clear cj;rintro e c2 ⟨rfl,bo⟩
 have bo:=bo.symm;subst bo;by_cases ha:g<0
 ·have W:ay (2=z):=by have:=v.o;rwa [aJ ha] at this
  have ab:ay (s=sz):=by have:=N.o;rwa [aJ ha] at this
  go_wp2_with fail;go_ret;rw[<-W.o,<-ab.o];exact⟨F,rfl,m.o.1,m.o.2⟩
 rw[aH ha] at v N;have c3:s.wt.length<=c:=bg.o.1.le;go_wp2_with fail
 go_loopw [10] (fun iv wr=>∃j:Nat,j<=s.wt.length/\iv=ak j/\w1=wr/\ay (∀e∈s.wt.take j,¬e.1=g)) (fun iv _=>s.wt.length-(intOf iv).toNat)
 case atStart=>exact⟨0,aX _,rfl,rfl,fun e he=>by simp at he⟩
 case round=>
  obtain⟨j,c6,rfl,hw,ax⟩:=hrel;subst hw;by_cases ad:j<s.wt.length
  ·obtain⟨b3,cH,be,c7,ck⟩:=bg.o.1.lp aa;obtain rfl:cH=0:=by obtain⟨c9,cl,cI,_⟩:=sL m.o.1;rw[d] at cl;cases cl;obtain⟨da,db,bp⟩:=d4 cI aa;rw[be] at bp;simp at bp;exact bp.1.2
   subst be;have cJ:rb≠b3:=(bg.o.2 b3 rfl).2.symm;obtain⟨ar,y1⟩:=ck j ad;rw[Nat.zero_add] at ar y1;have k0:(0:Int)<=(j:Int):=aa;have k1:(j:Int)<(s.wt.length:Int):=aa;have cK:ay (s.wt.getD j (0,0)=s.wt.getD j (0,0)):=rfl;obtain⟨aB,f,hp⟩:∃aB f,s.wt.getD j (0,0)=(aB,f):=⟨_,_,rfl⟩
   have aF:ay (s.wt.getD j (0,0)=(aB,f)):=hp;rw[hp] at ar y1;dsimp only at ar y1;clear ck hp cK;by_cases he:aB=g
   ·subst he;have W:ay (0=z):=by have hq:=xv ad (by rw[aF.o]) ax.o;have:=v.o;rwa [hq,aJ ad] at this
    have ab:ay ({s with rs:=s.rs.set R (3,f),wt:=s.wt.take j++s.wt.drop (j+1)}=sz):=by have hq:=xv ad (by rw[aF.o]) ax.o;have:=N.o;rwa [hq,aJ ad,aF.o] at this
    clear ax aF bg v N;go_wp2_with fail
    go_region_held3 (fun w'=>w'.cell? (ao rp 1)=some (.slice (an rb) 12 12)/\w'.cell? (ao w.heap.size 1)=some (ak R)/\w'.cell? (ao rp 3)=some (.slice (an b3) s.wt.length c)/\w'.cell? (ao b3 (j*2+1))=some (ak f)) (go_keep) (fail)
    obtain⟨br,bs⟩:=kP m.o.1 R (3,f)
    dsimp only at br bs;have bi:=(cq rp rb ca b8).below br bZ.drew;have cm:ay (ce F w F _):=(m.o.2.trans bs).below bZ.drew;clear br bs m d;generalize ((w1.setCell ⟨rb,R*2,none⟩ (.int .i64 3)).setCell ⟨rb,R*2+1,none⟩ (.int .i64 f)).drew=w3 at*;have ag:=(e8 bi).2.2.2.1;have co:=(e8 bi).2.2.2.2.2.1 3;have cp:w3.cell? (ao rp 1)=some (.slice (an rb) 12 12)/\w3.cell? (ao w.heap.size 1)=some (ak R)/\w3.cell? (ao rp 3)=some (.slice (an b3) s.wt.length c)/\w3.cell? (ao b3 (j*2+1))=some (ak f):=by assumption
    have hd:=cp.2.2.1;clear cp;obtain⟨cG,d,q,_,cr⟩:=sL bi;rw[hd] at d;cases d;have bt:=nF q;have dc:s.wt.length<=c:=bt.le;have cL:c<=maxLen:=by
     rcases q.2 with⟨_,h0⟩|⟨g,dd,de,cM,_,_,_,hc,_⟩
     ·have h0:s.wt.length=0:=h0;omega
     ·simp at cM;omega
    unfold maxLen at cL;have cs:ay (∀(l:List b9)(v1:Value)(ai:aw),Below w3.heap.size w3 ai->ai.ownsRow w3.heap.size 116 2 v1 l.length (ev l)->(cq rp rb ca b8).J (fun b=>F b\/some b=v1.ownBlock) {s with rs:=s.rs.set R (3,f),wt:=l} (ai.setCell ⟨rp,3,none⟩ v1)/\ce F w3 (fun b=>F b\/some b=v1.ownBlock) (ai.setCell ⟨rp,3,none⟩ v1)):=cr;have bx:ay (c8 w3 (an b3) s.wt):=bt.lp;have ct:ay ((ev (s.wt.take j)).length=j*2):=by show _=_;rw[jO,bu,Nat.min_eq_left aa]
    have b0:ay ((ev (s.wt.drop (j+1))).length=(s.wt.length-(j+1))*2):=by show _=_;rw[jO,List.length_drop]
    have d:=hd;clear hd cJ ar y1 c1 q0 q1 cy q3 cz cA cC cD;have df:j<=c:=aa;have dg:j+1<=s.wt.length:=aa;have dh:(j:Int)<=(c:Int):=aa;have di:IntKind.i64.wrap ((j:Int)+1)=(j:Int)+1:=by rw[bw];omega
    have dj:(0:Int)<=(j:Int)+1:=aa;have dk:(j:Int)+1<=(s.wt.length:Int):=aa;have dl:((j:Int)+1).toNat=j+1:=aa;have dm:(j:Int).toNat=j:=aa;clear cr q bi bt;by_cases hk:j+1=c
    ·subst hk;have hz:s.wt.length-(j+1)=0:=aa;have dn:(j:Int)<=(j:Int)+1:=aa;rw[hz] at b0;have cN:∀ai,c8 ai (an b3) (s.wt.drop (j+1)):=fun _ h=>by rw[List.length_drop] at h;omega
     go_wp2_with fail
     go_region_law (first
      |(have o:=t;refine pY _ rfl (.tmp 214) (.tmp 221) 109 rfl w3.heap.size 116 a1 (.agg #[ak 0,ak 0]) 2 16 underlying109 a2 a3 bb bd rfl ae (.slice b1 j c4) j (ev (s.wt.take j)) (by first|(simp[Act.eval];done)|(simp[Act.eval,Act.put];done)|(simp[Act.eval,u];done)) i (an b3) 0 0 (ev (s.wt.drop (j+1))) (by first|(simp[Act.eval];done)|(simp[Act.eval,Act.put];done)|(simp[Act.eval,u];done)) b0.o (fun e=>by cases e) (cN bl).cells (i0 _) (by unfold maxLen;omega) aa b4.size ?_;intro b2 c5 aR aT aV _;have b5:Below w3.heap.size w3 aR:=b4.grown aV b4.size (fun k e=>(cg i k e.symm).1);have cO:=(b5.cell (p:=ao rp 3) ag).trans d;have cP:=(b5.frozen (p:=ao rp 3) ag).trans co)
      |(refine pY _ rfl (.tmp 207) (.tmp 213) 109 rfl w3.heap.size 116 a1 (.agg #[ak 0,ak 0]) 2 16 underlying109 a2 a3 bb bd rfl ae (.slice none 0 0) 0 [] (by first|(simp[Act.eval];done)|(simp[Act.eval,Act.put];done)|(simp[Act.eval,u];done)) (a6 _ _ _ _) (an b3) j (j+1) (ev (s.wt.take j)) (by first|(simp[Act.eval];done)|(simp[Act.eval,Act.put];done)|(simp[Act.eval,u];done)) ct.o (fun e=>by cases e) ((bx.o.take j).below (au w3).drew).cells (i0 _) (by unfold maxLen;omega) aa bY ?_;intro b1 c4 bl i t _;rw[Nat.zero_add,List.nil_append] at i;have b4:Below w3.heap.size w3 bl:=((au w3).drew).grown t bY (fun k e=>by simp[Value.ownBlock] at e);have cQ:=(b4.cell (p:=ao rp 3) ag).trans d))
     all_goals
      have hl:(s.wt.take j++s.wt.drop (j+1)).length=j+0:=by rw[aZ,bu,List.length_drop];omega
      have a0:ay (_/\_):=cs.o (s.wt.take j++s.wt.drop (j+1)) (.slice b2 (j+0) c5) aR b5 (by rw[hl,kO];exact aT)
      clear i aT t aV b4 b5 hl;go_wp2_with fail;go_ret;rw[<-W.o,<-ab.o];exact⟨_,rfl,a0.o.1,cm.o.trans a0.o.2⟩
    ·have dp:¬c=j+1:=fun e=>hk e.symm;have cR:ay (c8 w3 (some ⟨b3,(j+1)*2,none⟩) (s.wt.drop (j+1))):=by
      have:=bx.o.drop (j+1)
      rwa [Nat.zero_add] at this
     go_wp2_with fail
     go_region_law (first
      |(have o:=t;refine pY _ rfl (.tmp 214) (.tmp 221) 109 rfl w3.heap.size 116 a1 (.agg #[ak 0,ak 0]) 2 16 underlying109 a2 a3 bb bd rfl ae (.slice b1 j c4) j (ev (s.wt.take j)) (by first|(simp[Act.eval];done)|(simp[Act.eval,Act.put];done)|(simp[Act.eval,u];done)) i (some ⟨b3,(j+1)*2,none⟩) (s.wt.length-(j+1)) (c-(j+1)) (ev (s.wt.drop (j+1))) (by first|(simp[Act.eval];done)|(simp[Act.eval,Act.put];done)|(simp[Act.eval,u];done)) b0.o (fun e=>by cases e) (cR.o.below b4).cells (i0 _) (by unfold maxLen;omega) aa b4.size ?_;intro b2 c5 aR aT aV _;have b5:Below w3.heap.size w3 aR:=b4.grown aV b4.size (fun k e=>(cg i k e.symm).1);have cO:=(b5.cell (p:=ao rp 3) ag).trans d;have cP:=(b5.frozen (p:=ao rp 3) ag).trans co)
      |(refine pY _ rfl (.tmp 207) (.tmp 213) 109 rfl w3.heap.size 116 a1 (.agg #[ak 0,ak 0]) 2 16 underlying109 a2 a3 bb bd rfl ae (.slice none 0 0) 0 [] (by first|(simp[Act.eval];done)|(simp[Act.eval,Act.put];done)|(simp[Act.eval,u];done)) (a6 _ _ _ _) (an b3) j c (ev (s.wt.take j)) (by first|(simp[Act.eval];done)|(simp[Act.eval,Act.put];done)|(simp[Act.eval,u];done)) ct.o (fun e=>by cases e) ((bx.o.take j).below (au w3).drew).cells (i0 _) (by unfold maxLen;omega) aa bY ?_;intro b1 c4 bl i t _;rw[Nat.zero_add,List.nil_append] at i;have b4:Below w3.heap.size w3 bl:=((au w3).drew).grown t bY (fun k e=>by simp[Value.ownBlock] at e);have cQ:=(b4.cell (p:=ao rp 3) ag).trans d))
     all_goals
      have hl:(s.wt.take j++s.wt.drop (j+1)).length=j+(s.wt.length-(j+1)):=by rw[aZ,bu,List.length_drop];omega
      have a0:ay (_/\_):=cs.o (s.wt.take j++s.wt.drop (j+1)) (.slice b2 (j+(s.wt.length-(j+1))) c5) aR b5 (by rw[hl,kO];exact aT)
      clear i aT t aV b4 b5 hl;go_wp2_with fail;go_ret;rw[<-W.o,<-ab.o];exact⟨_,rfl,a0.o.1,cm.o.trans a0.o.2⟩
   ·have dq:(aB==g)=false:=by simpa using he
    have cS:ay (∀e∈s.wt.take (j+1),¬e.1=g):=fun e al=>by
     rw[fE s.wt j ad (0,0),List.mem_append,List.mem_singleton] at al;rcases al with al|al
     ·exact ax.o e al
     ·rw[al,aF.o];exact he
    clear he;go_wp2_with fail;go_roundw
    case rel=>exact⟨j+1,aa,aj,trivial,cS⟩
    case measure=>simp[intOf];omega
  ·obtain rfl:j=s.wt.length:=aa;have hp:¬dV g s.wt<s.wt.length:=by
    unfold dV;rw[List.findIdx_lt_length];rintro⟨x,o,cT⟩
    have:=ax.o;rw[ba] at this
    exact this x o (by simpa using cT)
   have W:ay (4=z):=by have:=v.o;rwa [aH hp] at this
   have ab:ay (s=sz):=by have:=N.o;rwa [aH hp] at this
   clear hp;go_wp2_with fail;go_ret;rw[<-W.o,<-ab.o];exact⟨F,rfl,m.o.1,m.o.2⟩
end
theorem sI (n:Int)(w:aw):Calls prog 59 #[ak n] w fun e w'=>e=.returned (.agg #[ak 1,ak n])/\Below w.heap.size w w':=by
 have hg:=aN w (.cells #[.int .i64 1,.int .i64 n] 97)
 go_enter func59,ntmps59;go_wp2_with fail;have g0:(w.alloc (.cells #[.int .i64 1,.int .i64 n] 97)).cell? (ao w.heap.size 0)=some (ak 1):=by unfold World.cell?;rw[hg];rfl
 have g1:(w.alloc (.cells #[.int .i64 1,.int .i64 n] 97)).cell? (ao w.heap.size 1)=some (ak n):=by unfold World.cell?;rw[hg];rfl
 exact bz (v:=.agg #[ak 1,ak n]) (by simp[results,results59,go_sem,g0,g1]) rfl ⟨rfl,(aq w (.cells #[.int .i64 1,.int .i64 n] 97))⟩
section
variable {rp rb:Nat}{ca b8:Int}{F:Nat->Prop}{s:cn}{w:aw}
theorem D8 (h:(cq rp rb ca b8).J F s w)(R A:Nat)(S:R<12)(aV:A<12)(B I n:Int)(W:iM 13 R A B I n)(ab:0<=s.th A->s.th A<s.T.length)(ad:∀t∈s.T,t.2.1.length<=12):
 Calls prog 21 #[am rp,gt 13 R A B I n] w fun e w'=>e=.returned (ak (if s.th A<0\/(s.T.getD (s.th A).toNat (0,[],false,false)).1=5 then 2 else 0))/\(cq rp rb ca b8).J F (if s.th A<0\/(s.T.getD (s.th A).toNat (0,[],false,false)).1=5 then s else {s with rs:=s.rs.set R (1,((s.T.getD (s.th A).toNat (0,[],false,false)).2.1.length:Int))}) w'/\ce F w F w':=by
 have ag:ay (∀w',(cq rp rb ca b8).J F s w'->_):=fun w' a0=>oz a0 A aV;obtain⟨z,c⟩:∃z:Int,ay ((if s.th A<0\/(s.T.getD (s.th A).toNat (0,[],false,false)).1=5 then 2 else 0)=z):=⟨_,rfl⟩
 obtain⟨sz,d⟩:∃sz:cn,ay ((if s.th A<0\/(s.T.getD (s.th A).toNat (0,[],false,false)).1=5 then s else {s with rs:=s.rs.set R (1,((s.T.getD (s.th A).toNat (0,[],false,false)).2.1.length:Int))})=sz):=⟨_,rfl⟩
 rw[c.o,d.o];generalize s.th A=a at*;have ai:=aq w (dr 13 R A B I n)
 have P:=W (w.alloc (dr 13 R A B I n))
 have i:ay (_/\_):=⟨h,ai⟩
 clear h ai W;go_enter func21,ntmps21;go_wp2_with fail;refine P.mono ?_;clear P;rintro e w1 ⟨rfl,o⟩
 have hb:=i.o.2.trans (o.mono ac)
 have f:=(cq rp rb ca b8).below i.o.1 hb;have q:w1.heap[w.heap.size]?=some (dr 13 R A B I n):=(o.block _ ac).trans (aN _ _)
 obtain⟨q0,q1,bs,q3,bt,bx⟩:=fX q;obtain⟨c1,_,_,b0,b1,a1,b2,al⟩:=e8 f;obtain⟨a2,a3,bb,y1⟩:=al R S;obtain⟨b3,bd,be⟩:=lH f;have lb:=(cq rp rb ca b8).lt i.o.1 rb bd;have lp:=(cq rp rb ca b8).lt i.o.1 rp be;have gG:rb≠w.heap.size:=aa;have b4:rp≠w.heap.size:=aa;have g:ay ((cq rp rb ca b8).J F s w1/\ce F w F w1):=⟨f,ce.of hb⟩
 have r0:(0:Int)<=(R:Int):=aa;have r1:(R:Int)<12:=aa;obtain⟨b5,cT,t0,bg,u⟩:=kh f;have Q:=ag.o w1 f;have bi:_:=lt_of_some q;clear f hb o q al a1 i ag;go_wp2_with fail;refine Q.mono ?_;clear Q;rintro e b6 ⟨rfl,v⟩
 have v:=v.symm;subst v;by_cases ha:a<0
 ·have k:ay (2=z):=by have:=c.o;rwa [aJ (aL ha)] at this
  have l:ay (s=sz):=by have:=d.o;rwa [aJ (aL ha)] at this
  clear u;go_wp2_with fail;go_ret;rw[<-k.o,<-l.o];exact⟨rfl,g.o.1,g.o.2⟩
 ·obtain⟨j,rfl⟩:∃j:Nat,a=j:=⟨a.toNat,aa⟩
  have bl:j<s.T.length:=by have:=ab aa;omega
  obtain⟨t,ht⟩:∃t,s.T[j]?=some t:=⟨_,aI bl⟩
  obtain⟨b,b7,cp,rfl,u0,bn,_,_,bo,bp⟩:=u j t ht;have br:=ad t (List.mem_of_getElem? ht)
  have ap:s.T.getD (j:Int).toNat (0,[],false,false)=t:=by rw[Int.toNat_natCast,aG,ht];rfl
  rw[ap] at c d;have b9:decide ((j:Int)<0)=false:=ac;have cb:¬(j:Int)<0:=aa;have j0:(0:Int)<=(j:Int):=aa;have cc:(j:Int)<(s.T.length:Int):=aa;clear u ht ap ab ad bo bp;obtain⟨kd,x,cd,cf⟩:=t;dsimp only at u0 bn br c d;by_cases hk:kd=5
  ·subst hk;have k:ay (2=z):=by have:=c.o;rwa [aJ (aK rfl)] at this
   have l:ay (s=sz):=by have:=d.o;rwa [aJ (aK rfl)] at this
   go_wp2_with fail;go_ret;rw[<-k.o,<-l.o];exact⟨rfl,g.o.1,g.o.2⟩
  ·have cg:(kd==5)=false:=by simpa using hk
   have k:ay (0=z):=by have:=c.o;rwa [aH aa] at this
   have l:ay ({s with rs:=s.rs.set R (1,(x.length:Int))}=sz):=by have:=d.o;rwa [aH aa] at this
   have ar:=sI (x.length:Int) w1.drew;clear bg;go_wp2_with fail
   go_region_held3 (fun w'=>w'.cell? (ao rp 1)=some (.slice (an rb) 12 12)/\w'.cell? (ao w.heap.size 1)=some (ak R)) (go_keep) (first|(go_at_call 59;refine ar.mono ?_;clear ar;rintro e ch ⟨rfl,ax⟩;have m:_:=((au w1).drew).trans ax;have N:=(cq rp rb ca b8).below g.o.1 m;have aB:ay (_/\_):=⟨N,g.o.2.below m⟩;obtain⟨g1,_,_,_,_,_,_,gr⟩:=e8 N;obtain⟨g2,g3,ci,g5⟩:=gr R S;have cj:=(m.cell (p:=ao w.heap.size 1) bi).trans q1;clear ax m N gr c1 q1 a2 a3 bb y1))
   all_goals
    obtain⟨aF,aR⟩:=kP aB.o.1 R (1,(x.length:Int))
    have aT:ay (_/\_):=⟨aF,aB.o.2.trans aR⟩
    clear aF aR;go_wp2_with fail;go_ret;rw[<-k.o,<-l.o];exact⟨rfl,aT.o.1,aT.o.2⟩
theorem D9 (h:(cq rp rb ca b8).J F s w)(R A B:Nat)(hR:R<12)(q:A<12)(hB:B<12)(I n:Int)(m:iM 14 R A B I n):
 Calls prog 21 #[am rp,gt 14 R A B I n] w fun e w'=>e=.returned (ak 0)/\(cq rp rb ca b8).J F {s with rs:=s.rs.set R (1,if s.rs.getD A (0,0)=s.rs.getD B (0,0) then 1 else 0)} w'/\ce F w F w':=by
 obtain⟨g1,g2,hg⟩:∃g1 g2,s.rs.getD A (0,0)=(g1,g2):=⟨_,_,rfl⟩
 obtain⟨d,f,hp⟩:∃d f,s.rs.getD B (0,0)=(d,f):=⟨_,_,rfl⟩
 obtain⟨z,g⟩:∃z:Int,ay ((if s.rs.getD A (0,0)=s.rs.getD B (0,0) then(1:Int) else 0)=z):=⟨_,rfl⟩
 rw[g.o];have o:=aq w (dr 14 R A B I n)
 have P:=m (w.alloc (dr 14 R A B I n))
 have b:ay (_/\_):=⟨h,o⟩
 clear h o m;go_enter func21,ntmps21;go_wp2_with fail;refine P.mono ?_;clear P;rintro e w1 ⟨rfl,k⟩
 have hb:=b.o.2.trans (k.mono ac)
 have i:=(cq rp rb ca b8).below b.o.1 hb;have l:w1.heap[w.heap.size]?=some (dr 14 R A B I n):=(k.block _ ac).trans (aN _ _)
 obtain⟨q0,q1,q2,q3,q4,q5⟩:=fX l;obtain⟨c1,_,_,ab,ad,t,ag,j⟩:=e8 i;obtain⟨u,v,x,y1⟩:=j R hR;obtain⟨ai,N,S⟩:=lH i;have lb:=(cq rp rb ca b8).lt b.o.1 rb N;have lp:=(cq rp rb ca b8).lt b.o.1 rp S;have gG:rb≠w.heap.size:=aa;have al:rp≠w.heap.size:=aa;have gh:ay ((cq rp rb ca b8).J F s w1/\ce F w F w1):=⟨i,ce.of hb⟩
 have r0:(0:Int)<=(R:Int):=aa;have r1:(R:Int)<12:=aa;obtain⟨u0,u1,_,_⟩:=j A q;obtain⟨v0,v1,_,_⟩:=j B hB;rw[hg] at u0 u1;rw[hp] at v0 v1;rw[hg,hp] at g;dsimp only at u0 u1 v0 v1;have a0:(0:Int)<=(A:Int):=aa;have a1:(A:Int)<12:=aa;have ap:(0:Int)<=(B:Int):=aa;have b1:(B:Int)<12:=aa;have qg:_:=lt_of_some l;clear i hb k l j t b hg hp u v x y1;by_cases he:g1=d/\g2=f
 ·obtain⟨rfl,rfl⟩:=he;have E:ay (1=z):=by have:=g.o;rwa [aJ rfl] at this
  go_wp2_with fail
  go_quiet (fail)
  have hbq:_:=below_drewN (au w1) nq;have hJ3:=(cq rp rb ca b8).below gh.o.1 hbq;have oO:ay (_/\_):=⟨hJ3,gh.o.2.below hbq⟩
  obtain⟨k1,_⟩:=e8 hJ3;have k2:=(hbq.cell (p:=ao w.heap.size 1) qg).trans q1;have sH:_:=aO qg hbq.size;generalize w1.drewN nq=w3 at*;have oP:=sI 1 w3.drew;clear hbq hJ3 u0 u1 v0 v1 c1 q1 q2 q3 q0 q4 q5;go_wp2_with fail
  go_region_held3 (fun w'=>w'.cell? (ao rp 1)=some (.slice (an rb) 12 12)/\w'.cell? (ao w.heap.size 1)=some (ak R)) (go_keep) (first|(go_at_call 59;refine oP.mono ?_;clear oP;rintro e w4 ⟨rfl,hb4⟩;have jP:_:=((au w3).drew).trans hb4;have mJ:=(cq rp rb ca b8).below oO.o.1 jP;have oQ:ay (_/\_):=⟨mJ,oO.o.2.below jP⟩;obtain⟨DV,_,_,_,_,_,_,gr⟩:=e8 mJ;obtain⟨DW,g3,g4,g5⟩:=gr R hR;have g6:=(jP.cell (p:=ao w.heap.size 1) sH).trans k2;clear hb4 jP mJ gr k1 k2))
  all_goals
   obtain⟨hJ2,oR⟩:=kP oQ.o.1 R (1,1)
   have HJ2:ay (_/\_):=⟨hJ2,oQ.o.2.trans oR⟩
   clear hJ2 oR;go_wp2_with fail;go_ret;rw[<-E.o];exact⟨rfl,HJ2.o.1,HJ2.o.2⟩
 ·have E:ay (0=z):=by have:=g.o;rwa [aH (by simpa using he)] at this
  by_cases W:g1=d
  ·subst W;have ar:¬g2=f:=fun c=>he ⟨rfl,c⟩
   clear he;exact xt
  ·clear he;exact xt
end
structure nG {σ:Type}(lk:σ->b9->Bool×σ)(g:List Bool->List Bool)(pe:b9->b9)(R:List b9)(ρ:σ->List Bool->List b9->Prop):Prop where
 no:∀t L C e,ρ t L C->e∈R->cG L e.1=false->lk t (pe e)=(false,t)
 yes:∀t L C e,ρ t L C->e∈R->cG L e.1=true->(lk t (pe e)).1=true/\ρ (lk t (pe e)).2 (d8 g L e.2) (C++[e])
section
variable {σ:Type}{lk:σ->b9->Bool×σ}{g:List Bool->List Bool}{pe:b9->b9}{R:List b9}{ρ:σ->List Bool->List b9->Prop}
theorem nG.pass (h:nG lk g pe R ρ):∀(l:List b9)(t:σ)(L:List Bool)(C D A:List b9),(∀e∈l,e∈R)->ρ t L C->
 ρ ((l.map pe).foldl (eu lk) (A,D.map pe,t)).2.2 (ch.pass cG (d8 g) l L C D).1 (ch.pass cG (d8 g) l L C D).2.1/\((l.map pe).foldl (eu lk) (A,D.map pe,t)).2.1=(ch.pass cG (d8 g) l L C D).2.2.map pe/\
 ((l.map pe).foldl (eu lk) (A,D.map pe,t)).1.length+C.length=A.length+(ch.pass cG (d8 g) l L C D).2.1.length
 |[],t,L,C,D,A,_,b=>⟨b,rfl,rfl⟩
 |e::l,t,L,C,D,A,hl,b=>by
  have he:=hl e ac;rw[List.map_cons,a9];cases c:cG L e.1
  ·have d:eu lk (A,D.map pe,t) (pe e)=(A,(D++[e]).map pe,t):=by unfold eu;rw[h.no t L C e b he c,bC];rfl
   rw[d,ch.pass,c,aH ac];exact h.pass l t L C (D++[e]) A (fun x f=>hl x (aQ _ f)) b
  ·obtain⟨y1,i⟩:=h.yes t L C e b he c;have d:eu lk (A,D.map pe,t) (pe e)=(A++[pe e],D.map pe,(lk t (pe e)).2):=by unfold eu;rw[aJ y1]
   rw[d,ch.pass,c,aJ rfl];obtain⟨j,k,m⟩:=h.pass l _ _ _ D _ (fun x f=>hl x (aQ _ f)) i;refine⟨j,k,?_⟩
   simp only [List.length_append,List.length_cons,List.length_nil] at m;omega
theorem sM {σ:Type}(is:σ->Int->Bool)(kp:σ->Int->σ)(e:b9):∀(l:List b9)(s:σ)(C D:List b9),e∈(ch.pass is kp l s C D).2.2->e∈D\/e∈l
 |[],_,_,_,h=>aL h
 |x::l,s,C,D,h=>by
  rw[ch.pass] at h;split at h
  ·exact(sM is kp e l _ _ _ h).imp id (aQ _)
  ·rcases sM is kp e l _ _ _ h with b|b
   ·rcases List.mem_append.1 b with b|b
    ·exact aL b
    ·exact aK (by rw[List.mem_singleton.1 b];simp)
   ·exact aK (aQ _ b)
theorem xB {σ:Type}(is:σ->Int->Bool)(kp:σ->Int->σ)(l:List b9)(s:σ)(C:List b9)(e:b9)(h:e∈(ch.pass is kp l s C []).2.2):e∈l:=
 (sM is kp e l s C [] h).resolve_left ac
theorem nG.turns (h:nG lk g pe R ρ):∀(n:Nat)(D:List b9)(t:σ)(L:List Bool)(C:List b9),(∀e∈D,e∈R)->ρ t L C->
 ρ (eJ lk n t (D.map pe)).1 (ch.turns cG (d8 g) n D L C).1 (ch.turns cG (d8 g) n D L C).2.1/\(eJ lk n t (D.map pe)).2=(ch.turns cG (d8 g) n D L C).2.2.map pe
 |0,D,t,L,C,_,f=>⟨f,rfl⟩
 |n+1,D,t,L,C,hD,f=>by
  obtain⟨b,d,i⟩:=h.pass D t L C [] [] hD f;have b:=b;have d:(pts lk t (D.map pe)).2.1=(ch.pass cG (d8 g) D L C []).2.2.map pe:=d;have i:(pts lk t (D.map pe)).1.length+C.length=0+(ch.pass cG (d8 g) D L C []).2.1.length:=i;by_cases c:(pts lk t (D.map pe)).1.length=0
  ·rw[lL _ _ _ _ c,uQ aa];exact⟨b,d⟩
  ·rw[lM _ _ _ _ c,uP aa,d];exact h.turns n _ _ _ _ (fun e he=>hD e (xB _ _ D L C e he)) b
end
theorem sO {d:Type}(lk:d->b9->Bool×d):∀(n k:Nat)(t:d)(b:List b9),b.length<n->b.length<k->eJ lk n t b=eJ lk k t b
 |0,_,_,_,h,_=>absurd h aa
 |_+1,0,_,_,_,h=>absurd h aa
 |n+1,k+1,t,b,e,f=>by
  have hl:=oj lk t b;by_cases c:(pts lk t b).1.length=0
  ·rw[lL _ _ _ _ c,lL _ _ _ _ c]
  ·rw[lM _ _ _ _ c,lM _ _ _ _ c];exact sO lk n k _ _ aa aa
theorem kX {b d:Type}(f:b->d)(p:d->Bool)(q:b->Bool):∀l:List b,(∀x∈l,p (f x)=q x)->(l.map f).filter p=(l.filter q).map f
 |[],_=>rfl
 |x::l,h=>by
  have e:=kX f p q l (fun y hy=>h y (aQ _ hy))
  have g:=h x ac;rw[List.map_cons];cases c:q x
  ·rw[List.filter_cons_of_neg (by rw[g,c];simp),List.filter_cons_of_neg (by rw[c];simp),e]
  ·rw[List.filter_cons_of_pos (by rw[g,c]),List.filter_cons_of_pos c,List.map_cons,e]
def dK (v:Int×Int):Int:=ew v.1 v.2
def e3 (T:List cH)(v:Int×Int):Prop:=vc v.1 v.2=0/\(v.1=3->0<=v.2/\cI T v.2.toNat)
theorem e3.lt {T:List cH}{v:Int×Int}(h:e3 T v)(b:v.1=3):0<=v.2/\v.2<T.length:=by obtain⟨h0,c⟩:=h.2 b;have:=c.1;exact⟨h0,aa⟩
def tI (n:Nat):List Int:=(List.range n).map (fun i:Nat=>(i:Int))
theorem oS {n:Nat}{a:Int}:a∈tI n↔0<=a/\a<n:=by
 unfold tI;simp only [List.mem_map,List.mem_range];constructor
 ·rintro⟨i,hi,e⟩
  omega
 ·rintro⟨h0,b⟩
  exact⟨a.toNat,aa,aa⟩
theorem jS (n:Nat):(tI n).length=n:=by simp[tI]
def fM (T:List cH)(a:Int):Int:=(T.getD a.toNat t0).1
def fN (T:List cH)(wt:List b9)(a:Int):List Int:=((T.getD a.toNat t0).2.1.map dK)++(if(T.getD a.toNat t0).1=5 then(wt.filter (fun e=>e.1==a)).map (fun e=>ew 3 e.2) else[])
structure nH (T:List cH)(wt:List b9):Prop where
 fv:∀i,cI T i->∀v∈(T.getD i t0).2.1,e3 T v
 wv:∀e∈wt,0<=e.1/\0<=e.2/\cI T e.2.toNat
 tl:∀i,(T.getD i t0).2.1.length<=12
 l1:T.length<=10000
 l2:wt.length<=10000
section
variable {T:List cH}{M:cP->Int->cP}{s:cP}{v:Int×Int}
theorem mK (h:e3 T v):dk (dK v)=v.1/\dA (dK v)=v.2:=(pH _ _ h.1).2
theorem xC (h:e3 T v)(b:v.1≠3):dw M (tI T.length) s (dK v)=(v,s):=by unfold dw;rw[(mK h).1,(mK h).2,aH b]
theorem xD (h:e3 T v)(b:v.1=3)(hs:s.1.contains v.2=true):dw M (tI T.length) s (dK v)=((3,(s.1.idxOf v.2:Int)),s):=by unfold dw;rw[(mK h).1,(mK h).2,aJ b,aJ (List.contains_iff_mem.2 (oS.2 (h.lt b))),aJ hs]
theorem D_ (h:e3 T v)(b:v.1=3)(hs:s.1.contains v.2=false):dw M (tI T.length) s (dK v)=((3,(s.1.length:Int)),M s v.2):=by unfold dw;rw[(mK h).1,(mK h).2,aJ b,aJ (List.contains_iff_mem.2 (oS.2 (h.lt b))),aH (by rw[hs];simp)]
end
def eX.fi (T:List cH)(wt:List b9)(l:List (Int×Int)):List (Int×Int)×cP:=dh (met (tI T.length) (fM T) (fN T wt) T.length) (tI T.length) ([],[]) (l.map dK)
theorem Ea {T:List cH}{wt:List b9}(d:gD T wt):∃g,ed T wt g:=by
 classical
 refine⟨fun is=>(List.range is.length).map (fun i=>decide (∀X:Nat->Prop,fK T wt X->(∀k,cw is k->X k)->X i)),fun is hl e=>?_⟩
 have key:∀i,cw ((List.range is.length).map (fun i=>decide (∀X:Nat->Prop,fK T wt X->(∀k,cw is k->X k)->X i))) i↔i<is.length/\∀X:Nat->Prop,fK T wt X->(∀k,cw is k->X k)->X i:=by
  intro i;unfold cw;by_cases hi:i<is.length
  ·simp_all
  ·simp[hi]
 refine⟨ac,fun i hi=>(key i).2 ⟨hi.lt,fun X _ b=>b i hi⟩,fun i hi f v j l=>?_,fun X b hs i hi=>((key i).1 hi).2 X b hs⟩
 have c:∀X:Nat->Prop,fK T wt X->(∀k,cw is k->X k)->_:=fun X b hs=>b i hi (((key i).1 f).2 X b hs) v (j.mono (fun k hk=>((key k).1 hk).2 X b hs)) l;exact(key _).2 ⟨(hl▸(c (cI T) d.cls e).1),c⟩
theorem Eb:∃g:gZ,∀T wt,gD T wt->ed T wt (g T wt):=by
 classical
 refine⟨fun T wt=>if h:∃g,ed T wt g then h.choose else id,fun T wt b=>?_⟩
 have h:=Ea b;dsimp only;rw[dif_pos h];exact h.choose_spec
section
variable {σ:Type}{is:σ->Int->Bool}{kp:σ->Int->σ}{I:σ->List b9->Prop}{R:List b9}
theorem sP (hk:∀s C e,I s C->e∈R->is s e.1=true->I (kp s e.2) (C++[e])):∀(l:List b9)(s:σ)(C D:List b9),(∀e∈l,e∈R)->I s C->I (ch.pass is kp l s C D).1 (ch.pass is kp l s C D).2.1
 |[],_,_,_,_,h=>h
 |e::r,s,C,D,b,h=>by
  unfold ch.pass;have d:_:=fun x f=>b x (aQ _ f)
  split
  ·rename_i c;exact sP hk r _ _ _ d (hk s C e h (b e ac) c)
  ·exact sP hk r _ _ _ d h
theorem xE (hk:∀s C e,I s C->e∈R->is s e.1=true->I (kp s e.2) (C++[e])):∀(n:Nat)(D:List b9)(s:σ)(C:List b9),(∀e∈D,e∈R)->I s C->I (ch.turns is kp n D s C).1 (ch.turns is kp n D s C).2.1
 |0,_,_,_,_,h=>h
 |n+1,D,s,C,b,h=>by
  have c:=sP hk D s C [] b h;unfold ch.turns;split
  ·exact c
  ·exact xE hk n _ _ _ (fun e he=>b e (xB _ _ D s C e he)) c
end
structure Ec (s:cn)(g:List Bool->List Bool)(mj:Bool)(L:List Bool)(C:List b9):Prop where
 ok:fV s.T L
 up:∀k,cw (s.c0 g mj) k->cw L k
 cl:fK s.T s.wt (cw L)
 cC:∀e∈C,e∈s.rg/\cw L e.1.toNat/\cw L e.2.toNat
 lt:∀X,fK s.T s.wt X->(∀k,cw (s.c0 g mj) k->X k)->(∀e∈s.rg,cG (s.c0 g mj) e.2=false->X e.2.toNat)->∀k,cw L k->X k
theorem xF {s:cn}(h:gF s){g:List Bool->List Bool}(hg:ed s.T s.wt g)(b:Bool):jy s.T s.wt (jz s.T s.rs b) (s.c0 g b)/\fV s.T (s.c0 g b):=by have c:=h.first b;exact⟨hg _ c.len c.al,(hg.ok h.iv c).1⟩
theorem Ed {s:cn}(h:gF s){g:List Bool->List Bool}(hg:ed s.T s.wt g)(b:Bool):Ec s g b (s.cR g b).1 (s.cR g b).2.1:=by
 obtain⟨p,q⟩:=xF h hg b;refine xE (fun L C e c he t=>?_) _ _ _ _ (fun e he=>he) ⟨q,fun k hk=>hk,p.cl,fun e he=>by simp at he,fun X _ f _ k hk=>f k hk⟩
 obtain⟨he,m⟩:=List.mem_filter.1 he;have m:cG (s.c0 g b) e.2=false:=by simpa using m
 have ha:=(h.gv e he).2;obtain⟨n,u,v⟩:=c.ok.put ha.2;have j:=hg _ n.len n.al;have l:∀k,cw L k->_:=fun k hk=>j.up k (v k hk)
 refine⟨(hg.ok h.iv n).1,fun k hk=>l k (c.up k hk),j.cl,fun x d=>?_,fun X f h0 o k hk=>?_⟩
 ·rcases List.mem_append.1 d with d|d
  ·obtain⟨q1,w,q3⟩:=c.cC x d;exact⟨q1,l _ w,l _ q3⟩
  ·rw[List.mem_singleton.1 d];exact⟨he,l _ t,j.up _ u⟩
 ·refine j.lt X f (fun i hi=>?_) k hk;unfold cw at hi;rw[kl _ _ _ ((c.ok.len▸ha.2.1))] at hi;split at hi
  ·rename_i B;rw[<-B];exact o e he m
  ·exact c.lt X f h0 o i hi
theorem Ee (s:cn)(g:List Bool->List Bool)(b:Bool):(s.cR g b).2.1.length<=(s.rg.filter (fun e=>!cG (s.c0 g b) e.2)).length:=by
 have:=uR (is:=cG) (kp:=d8 g) (s.rg.length+1) (s.rg.filter (fun e=>!cG (s.c0 g b) e.2)) (s.c0 g b) [];unfold cn.cR;simp at this
 omega
theorem Ef {s:cn}(h:gF s){g:List Bool->List Bool}(hg:ed s.T s.wt g)(b:Bool){v:Int×Int}(c:v∈s.rs)(d:v.1=3):cw (s.c0 g b) v.2.toNat:=
 (xF h hg b).1.up _ ((lJ _ _ _ _).2 ⟨(h.rv v c d).2.1,aK ⟨v,c,d,rfl⟩⟩)
theorem sT (L:List Bool)(T:List cH)(i:Nat):(eD L T T.length).getD i t0=if i<T.length then eK L i (T.getD i t0) else t0:=by
 by_cases h:i<T.length
 ·rw[p6 L T T.length i bY h,aJ h,aJ h]
 ·rw[aH h,aG,List.getElem?_eq_none (by rw[i3];omega)];rfl
theorem xG {L:List Bool}{i:Nat}{t:cH}(b:L.getD i false=false):eK L i t=(t.1,[],t.2.2.1,true):=by unfold eK;rw[aH (by rw[b];simp)]
theorem qh (L:List Bool)(i:Nat)(t:cH):(eK L i t).1=t.1:=by unfold eK;split<;>rfl
theorem Eg {L:List Bool}{i:Nat}{t:cH}(b:L.getD i false=true):(eK L i t).2.2=(true,t.2.2.2):=by unfold eK;rw[aJ b]
theorem Eh {T:List cH}{L:List Bool}(h:fV T L)(i:Nat):cI (eD L T T.length) i↔cw L i:=by
 unfold cI;rw[i3,sT];constructor
 ·rintro⟨d,b⟩
  rw[aJ d] at b;unfold cw;cases c:L.getD i false
  ·rw[xG c] at b;cases b
  ·rfl
 ·intro hi;have ha:=h.al i hi;refine⟨ha.1,?_⟩
  rw[aJ ha.1,Eg hi];exact ha.2
theorem qi {L:List Bool}{i:Nat}{t:cH}(b:L.getD i false=true):
 (t.1=4/\dy L (t.2.1.getD 0 (0,0))=false/\(eK L i t).2.1=[(2,0),(2,0)])\/(t.1=3/\dy L (t.2.1.getD 0 (0,0))=false/\(eK L i t).2.1=[(2,0),t.2.1.getD 1 (0,0)])\/((t.1=3\/t.1=4->dy L (t.2.1.getD 0 (0,0))=true)/\(eK L i t).2.1=t.2.1):=by
 unfold eK;rw[aJ b];by_cases c4:t.1=4/\dy L (t.2.1.getD 0 (0,0))=false
 ·simp_all
 ·rw[aH c4];by_cases c3:t.1=3/\dy L (t.2.1.getD 0 (0,0))=false
  ·simp_all
  ·rw[aH c3];refine aK (aK ⟨fun h=>?_,rfl⟩)
   cases c:dy L _
   ·simp_all
   ·rfl
def lO (T:List cH)(e:b9):Prop:=(0<=e.1/\cI T e.1.toNat)/\(T.getD e.1.toNat t0).1=5/\0<=e.2/\cI T e.2.toNat
structure dG (s:cn)(j:Nat):Prop where
 kd:∀i,cI s.T i->1<=(s.T.getD i t0).1/\(s.T.getD i t0).1<=5
 fl:∀i,cI s.T i->(s.T.getD i t0).1=3\/(s.T.getD i t0).1=4->(s.T.getD i t0).2.1.length=2
 g5:∀i,cI s.T i->(s.T.getD i t0).1=5->(s.T.getD i t0).2.1=[]
 fv:∀i,cI s.T i->∀v∈(s.T.getD i t0).2.1,e3 s.T v
 tl:∀i,(s.T.getD i t0).2.1.length<=12
 rv:∀v∈s.rs,e3 s.T v
 rl:s.rs.length=12
 gv:∀e∈s.rg,lO s.T e
 wv:∀e∈s.wt,lO s.T e
 en:s.rg.length+s.wt.length<=24
 tj:s.T.length<=j
theorem dG.more {s:cn}{j k:Nat}(h:dG s j)(hk:j<=k):dG s k:={h with tj:=aS h.tj hk}
theorem dG.iv {s:cn}{j:Nat}(h:dG s j):gD s.T s.wt:=⟨h.fl,fun i hi v b=>(h.fv i hi v b).2,fun e he=>(h.wv e he).2.2,h.tl⟩
theorem dG.qj {s:cn}{j:Nat}(h:dG s j)(b:j<=10000):gF s:=
 ⟨h.iv,fun v c=>(h.rv v c).2,fun e he=>⟨(h.gv e he).1,(h.gv e he).2.2⟩,fun e he=>(h.wv e he).1,aS h.tj b,by have:=h.en;omega,by have:=h.en;omega⟩
theorem dG.xH {s:cn}{j:Nat}(h:dG s j)(b:j<=10000):nH s.T s.wt:=
 ⟨h.fv,fun e he=>⟨(h.wv e he).1.1,(h.wv e he).2.2⟩,h.tl,aS h.tj b,by have:=h.en;omega⟩
theorem e3.mono {T c:List cH}{v:Int×Int}(h:e3 T v)(hm:v.1=3->cI T v.2.toNat->cI c v.2.toNat):e3 c v:=⟨h.1,fun b=>⟨(h.2 b).1,hm b (h.2 b).2⟩⟩
theorem kA (T:List cH):e3 T (0,0):=⟨ae,fun h=>by cases h⟩
theorem xI (T:List cH):e3 T (2,0):=⟨ae,fun h=>by cases h⟩
theorem dG.rt {s:cn}{j:Nat}(h:dG s j)(i:Nat):e3 s.T (s.rs.getD i (0,0)):=by
 by_cases c:i<s.rs.length
 ·exact h.rv _ (getD_in c)
 ·rw[aG,List.getElem?_eq_none aa];exact kA _
theorem bh (a b:Bool):((a && b) = Bool.true) = (a = Bool.true /\ b = Bool.true):=Bool.and_eq_true ..
theorem dG.cut {s:cn}{j:Nat}(h:dG s j)(N:j<=10000){g:List Bool->List Bool}(hg:ed s.T s.wt g)(b8:Int)(d:Bool):dG (s.cut g b8 d) j:=by
 unfold cn.cut;split
 ·exact h
 have hw:=h.qj N;have k:=Ed hw hg d;have hl:=Ee s g d;generalize ag:(s.cR g d).1=L at*;generalize ai:(s.cR g d).2.1=C at*;have o:=Eh k.ok;have u:∀i,cw L i->(eD L s.T s.T.length).getD i t0=eK L i (s.T.getD i t0):=fun i hi=>by rw[sT,aJ (k.ok.al i hi).1]
 have tr:∀v,e3 s.T v->(v.1=3->cw L v.2.toNat)->_:=fun v b hi=>b.mono (fun f _=>(o _).2 (hi f))
 have ev:∀e,lO s.T e->cw L e.1.toNat->cw L e.2.toNat->lO (eD L s.T s.T.length) e:=fun e he m n=>⟨⟨he.1.1,(o _).2 m⟩,by rw[u _ m,qh];exact he.2.1,he.2.2.1,(o _).2 n⟩
 refine {kd:=fun i hi=>?_,fl:=fun i hi hk=>?_,g5:=fun i hi hk=>?_,fv:=fun i hi v b=>?_,tl:=fun i=>?_,rv:=fun v b=>?_,rl:=h.rl,gv:=fun e he=>?_,wv:=fun e he=>?_,en:=?_,tj:=?_}
 ·have hi:=(o i).1 hi;rw[u i hi,qh];exact h.kd i (k.ok.al i hi)
 ·have hi:=(o i).1 hi;rw[u i hi,qh] at hk;rw[u i hi];have n:=h.fl i (k.ok.al i hi) hk;rcases qi (L:=L) hi with⟨_,_,e⟩|⟨_,_,e⟩|⟨_,e⟩<;>rw[e]
  ·rfl
  ·rfl
  ·exact n
 ·have hi:=(o i).1 hi;rw[u i hi,qh] at hk;rw[u i hi];rcases qi (t:=s.T.getD i t0) hi with⟨S,_,_⟩|⟨S,_,_⟩|⟨_,e⟩
  ·omega
  ·omega
  ·rw[e];exact h.g5 i (k.ok.al i hi) hk
 ·have hi:=(o i).1 hi;have ha:=k.ok.al i hi;rw[u i hi] at b;have cl:∀v,f8 s.T s.wt (cw L) i v->v.1=3->_:=fun v hk f=>k.cl i ha.1 hi v hk f;rcases qi (L:=L) hi with⟨_,_,e⟩|⟨F,_,e⟩|⟨W,e⟩
  ·rw[e] at b;have:v=(2,0):=by simpa using b
   rw[this];exact xI _
  ·rw[e] at b;have:v=(2,0)\/v=(s.T.getD i t0).2.1.getD 1 (0,0):=by simpa using b
   rcases this with rfl|rfl
   ·exact xI _
   ·exact tr _ (h.fv i ha _ (getD_in (by rw[h.fl i ha (aL F)];decide))) (fun f=>cl _ (aK (aL ⟨F,rfl⟩)) f)
  ·rw[e] at b;refine tr v (h.fv i ha v b) (fun f=>?_)
   have hk:=h.kd i ha;by_cases ab:(s.T.getD i t0).1=1\/(s.T.getD i t0).1=2
   ·exact cl v (aL ⟨ab,b⟩) f
   ·by_cases c5:(s.T.getD i t0).1=5
    ·rw[h.g5 i ha c5] at b;cases b
    ·have B:(s.T.getD i t0).1=3\/(s.T.getD i t0).1=4:=aa;have h0:=mz (W B)
     have n:=h.fl i ha B;obtain⟨q,hq,eq⟩:=List.mem_iff_getElem.1 b;have w:(s.T.getD i t0).2.1.getD q (0,0)=v:=by rw[aG,aI aa,eq];rfl
     match q,hq,w with
     |0,_,w=>
      rw[w] at h0;exact h0 f
     |1,_,w=>
      rcases B with c|c
      ·exact cl v (aK (aL ⟨c,w.symm⟩)) f
      ·exact cl v (aK (aK (aL ⟨c,h0,w.symm⟩))) f
     |q+2,hq,_=>omega
 ·rw[sT];split
  ·cases c:L.getD i false
   ·rw[xG c];simp
   ·rcases qi (L:=L) c with⟨_,_,e⟩|⟨_,_,e⟩|⟨_,e⟩<;>rw[e]
    ·simp
    ·simp
    ·exact h.tl i
  ·simp[t0]
 ·exact tr v (h.rv v b) (fun f=>k.up _ (Ef hw hg d b f))
 ·obtain⟨m,n⟩:=List.mem_filter.1 he;rw[bh] at n;exact ev e (h.gv e m) n.2 (k.up _ n.1)
 ·obtain⟨m,n⟩:=List.mem_filter.1 he;rcases List.mem_append.1 m with m|m
  ·have b:=h.wv e m;exact ev e b n (k.cl e.1.toNat b.1.2.1 n (3,e.2) (aK (aK (aK ⟨b.2.1,e,m,by have:=b.1.1;omega,rfl⟩))) rfl)
  ·obtain⟨q1,ad,q3⟩:=k.cC e m;exact ev e (h.gv e q1) ad q3
 ·dsimp only;have l1:(s.rg.filter (fun e=>cG (s.c0 g d) e.2&&cG L e.1)).length+(s.rg.filter (fun e=>!cG (s.c0 g d) e.2)).length<=s.rg.length:=by
   have key:∀l:List b9,(l.filter (fun e=>cG (s.c0 g d) e.2&&cG L e.1)).length+(l.filter (fun e=>!cG (s.c0 g d) e.2)).length<=l.length:=fun l=>by
    induction l with
    |nil=>simp
    |cons x l al=>
     cases c:cG (s.c0 g d) x.2
     ·rw[List.filter_cons_of_neg (by rw[c];simp),List.filter_cons_of_pos (by rw[c];rfl)];simp;omega
     ·rw[List.filter_cons_of_neg (p:=fun e:b9=>!cG (s.c0 g d) e.2) (by rw[c];simp)];have:(List.filter (fun e:b9=>cG (s.c0 g d) e.2&&cG L e.1) (x::l)).length<=(List.filter (fun e:b9=>cG (s.c0 g d) e.2&&cG L e.1) l).length+1:=by
       rw[List.filter_cons];split
       ·simp
       ·omega
      simp;omega
   exact key s.rg
  have l2:=bk (fun e:b9=>cG L e.1) (s.wt++C)
  rw[aZ] at l2;have:=h.en;omega
 ·rw[i3];exact h.tj
end Go.Proofs.YtpkjkjhanlbcoaaGreat
