import Derived.Test.YtjpjpjemibgjpaaGreatJ28
import Derived.Test.YtjpjpjemibgjpaaGreatJ15
import Derived.Test.YtjpjpjemibgjpaaGreatJ07
import Derived.Test.YtjpjpjemibgjpaaGreatJ26
import Derived.Test.YtjpjpjemibgjpaaGreatJ08
import Derived.Test.YtjpjpjemibgjpaaGreatJ10
import Derived.Deep.DeepCutAuto
import Derived.Test.YtjpjpjemibgjpaaGreatJ19
import Derived.Deep.RegionHeld3
import Derived.Deep.AppendLies
import Derived.Test.YtjpjpjemibgjpaaGreatJ01
import Derived.Test.YtjpjpjemibgjpaaGreatJ02
import Derived.Test.YtjpjpjemibgjpaaGreatJ00
namespace Go.Proofs.YtjpjpjemibgjpaaGreat
set_option maxRecDepth 100000
set_option maxHeartbeats 2000000
open Tryz
open Go.RowKit W Kp bY
theorem t7 {g h:Int->Nat}(R:Int->Int->Prop)(i:∀a b c,R a c->R b c->a=b):∀(l T:List Int),l.Nodup->T.Nodup->(∀b∈l,∃a∈T,R b a/\g b=h a)->eD g l<=eD h T
 |[],T,_,_,_=>aA _
 |b::l,T,hl,j,k=>by
  obtain⟨a,ha,r,e⟩:=k b V;rw[List.nodup_cons] at hl;have p:=my h T a j ha;have m:=t7 R i l (T.filter (fun c=>!(c==a))) hl.2 (j.filter _) (fun c hc=>by
   obtain⟨d,hd,f,n⟩:=k c (ay _ hc)
   refine⟨d,List.mem_filter.2 ⟨hd,?_⟩,f,n⟩
   cases q:d==a
   ·rfl
   ·have o:d=a:=by simpa using q
    rw[o] at f;exact absurd (i c b a f r▸hc) hl.1)
  rw[nW];unfold eD at m⊢;omega
theorem nZ {g:Int->Nat}{l T:List Int}(hl:l.Nodup)(c:T.Nodup)(hs:∀a∈l,a∈T):eD g l<=eD g T:=
 t7 (fun a b=>a=b) (fun _ _ _ d e=>d.trans e.symm) l T hl c (fun b f=>⟨b,hs b f,rfl,rfl⟩)
def hv (L:Int->Int)(a:Int):Nat:=1+(pf (L a)).toNat
theorem dK.sum {L:Int->Int}{hi:Int}:∀{l:List Int}{a:Int},dK L hi a l->(eD (hv L) l:Int)=hi-a
 |[],a,h=>by have h:a=hi:=h;simp[eD,h]
 |x::l,a,h=>by
  obtain⟨rfl,_,c,ht⟩:=h;have b:=dK.sum ht;have hp:=cU (L x)
  rw[nW];unfold hv at b⊢;omega
theorem dK.nodup {L:Int->Int}{hi:Int}:∀{l:List Int}{a:Int},dK L hi a l->l.Nodup
 |[],_,_=>List.nodup_nil
 |x::l,a,h=>by
  obtain⟨rfl,_,_,ht⟩:=h;rw[List.nodup_cons];refine⟨fun c=>?_,dK.nodup ht⟩
  have:=(ht.mem x c).1;have hp:=cU (L x)
  omega
theorem z2 (N y g:Nat)(ws:List Int)(Q:List bN)(rs:List Int):(c_ N y g ws Q rs).1.length=rs.length/\(c_ N y g ws Q rs).2.2.length<=4000/\∀nd∈(c_ N y g ws Q rs).2.2,nd.2.length<=Q.length+12:=by
 have a:=rU N y g ws Q rs;refine⟨jh _ _ _ _,?_,fun nd b=>?_⟩
 ·rw[a.ok.len];refine az a.ok.le ?_;rw[aJ];have d:(dv N y g ws).length<=2000:=gx _ _;have f:(c8 N y g ws).length<=2000:=gx _ _;omega
 ·obtain⟨i,hi,e⟩:=List.mem_iff_getElem.1 b;obtain⟨c,q1,_,q3,_⟩:=a.nw i (aA _) (by rw[<-a.ok.len];exact hi)
  rw[am hi,e] at q1;have q1:nd=c:=by simpa using q1
  rw[q1,q3];exact rO N y g ws Q _
section
variable {N O y g:Nat}{ws Y G:List Int}
theorem lP (h:dS N y g ws Y G)(hy:y<=N)(Q:List bN){a:Int}(ha:a∈Y\/a∈G)(b:pk (ld N y g ws a)≠5):((dj N y g ws Q a).length:Int)=pf (ld N y g ws a):=by
 have hp:=cU (ld N y g ws a)
 unfold dj;rw[ao b,h.stands hy ha];simp;omega
end
def Pos (z:Int->Int)(al:Int->Bool)(f:Int->Int):Int->List Int->Int->Prop
 |n,[],m=>n=m
 |n,a::l,m=>(al a=true->f a=n/\Pos z al f (n+(1+z a)) l m)/\(al a=false->f a=-1/\Pos z al f n l m)
section
variable {z:Int->Int}{al:Int->Bool}{f:Int->Int}
theorem Pos.le (hz:∀a,0<=z a):∀{l:List Int}{n m:Int},Pos z al f n l m->n<=m
 |[],n,m,h=>Int.le_of_eq h
 |a::l,n,m,h=>by
  have:=hz a;cases c:al a
  ·exact Pos.le hz (h.2 c).2
  ·have:=Pos.le hz (h.1 c).2;omega
theorem Pos.app:∀{l d:List Int}{n m:Int},Pos z al f n (l++d) m->∃n',Pos z al f n l n'/\Pos z al f n' d m
 |[],d,n,m,h=>⟨n,rfl,h⟩
 |a::l,d,n,m,h=>by
  cases c:al a
  ·obtain⟨n',e,g⟩:=Pos.app (h.2 c).2;exact⟨n',⟨fun b=>(by rw[c] at b;cases b),fun _=>⟨(h.2 c).1,e⟩⟩,g⟩
  ·obtain⟨n',e,g⟩:=Pos.app (h.1 c).2;exact⟨n',⟨fun _=>⟨(h.1 c).1,e⟩,fun b=>(by rw[c] at b;cases b)⟩,g⟩
theorem Pos.bd (hz:∀a,0<=z a):∀{l:List Int}{n m:Int},Pos z al f n l m->∀a∈l,al a=true->n<=f a/\f a+(1+z a)<=m
 |[],n,m,h,a,ha,_=>by cases ha
 |b::l,n,m,h,a,ha,hl=>by
  rcases List.mem_cons.1 ha with e|ha
  ·rw[e] at hl⊢;obtain⟨g,d⟩:=h.1 hl;have:=d.le hz;omega
  ·have:=hz b;cases c:al b
   ·exact Pos.bd hz (h.2 c).2 a ha hl
   ·have:=Pos.bd hz (h.1 c).2 a ha hl;omega
theorem Pos.no:∀{l:List Int}{n m:Int},Pos z al f n l m->∀a∈l,al a=false->f a=-1
 |[],n,m,h,a,ha,_=>by cases ha
 |b::l,n,m,h,a,ha,hl=>by
  rcases List.mem_cons.1 ha with e|ha
  ·rw[e] at hl⊢;exact(h.2 hl).1
  ·cases c:al b
   ·exact Pos.no (h.2 c).2 a ha hl
   ·exact Pos.no (h.1 c).2 a ha hl
theorem Pos.inj (hz:∀a,0<=z a):∀{l:List Int}{n m:Int},Pos z al f n l m->∀a∈l,∀b∈l,al a=true->al b=true->f a=f b->a=b
 |[],n,m,h,a,ha,_,_,_,_,_=>by cases ha
 |x::l,n,m,h,a,ha,b,d,g,lb,e=>by
  have o:=hz x;rcases List.mem_cons.1 ha with ea|ha
  ·rcases List.mem_cons.1 d with i|d
   ·rw[ea,i]
   ·rw[ea] at g e;obtain⟨k,j⟩:=h.1 g;have:=j.bd hz b d lb;omega
  ·rcases List.mem_cons.1 d with i|d
   ·rw[i] at lb e;obtain⟨k,j⟩:=h.1 lb;have:=j.bd hz a ha g;omega
   ·cases c:al x
    ·exact Pos.inj hz (h.2 c).2 a ha b d g lb e
    ·exact Pos.inj hz (h.1 c).2 a ha b d g lb e
theorem Pos.p3 (hz:∀a,0<=z a){L:Int->Int}:∀{l:List Int}{n m:Int},Pos z al f n l m->(∀a∈l,al a=true->pc (L (f a))=0/\pf (L (f a))=z a)->dK L m n ((l.filter al).map f)
 |[],n,m,h,_=>by have h:n=m:=h;rw[h];exact dK.done
 |a::l,n,m,h,hl=>by
  cases c:al a
  ·rw[List.filter_cons_of_neg (by simp[c])];exact Pos.p3 hz (h.2 c).2 (fun b d=>hl b (ay _ d))
  ·rw[List.filter_cons_of_pos c,List.map_cons];obtain⟨i,g⟩:=h.1 c;obtain⟨q1,e⟩:=hl a V c;rw[i] at q1 e⊢;have j:=g.le hz;refine dK.step q1 (by rw[e];exact j) ?_;rw[e];exact Pos.p3 hz g (fun b d=>hl b (ay _ d))
theorem Pos.sum:∀{l:List Int}{n m:Int},Pos z al f n l m->(∀a,0<=z a)->(eD (fun a=>1+(z a).toNat) (l.filter al):Int)=m-n
 |[],n,m,h,_=>by have h:n=m:=h;simp[eD,h]
 |a::l,n,m,h,hz=>by
  have:=hz a;cases c:al a
  ·rw[List.filter_cons_of_neg (by simp[c])];exact Pos.sum (h.2 c).2 hz
  ·rw[List.filter_cons_of_pos c,nW];have:=Pos.sum (h.1 c).2 hz;omega
end
theorem a6 {α:Type _} [BEq α] [LawfulBEq α] {a b:α}(h:a ≠ b):(a == b) = Bool.false:=by intros;apply beq_false_of_ne<;>assumption
theorem lQ (k:bL)(al:Int->Bool):∀(l:List Int)(t:bX×Int),l.Nodup->(∀a∈l,al a=!(t.1.f a==-1))->Pos (fun a=>pf (k.ld a)) al (k.j8 t l).1.f t.2 l (k.j8 t l).2/\(∀b,b∉l->(k.j8 t l).1.f b=t.1.f b)/\(k.j8 t l).1.td=t.1.td/\(k.j8 t l).1.ep=t.1.ep
 |[],t,_,_=>⟨rfl,fun _ _=>rfl,rfl,rfl⟩
 |a::l,t,f,ha=>by
  rw[List.nodup_cons] at f;have p:k.j8 t (a::l)=k.j8 (ey (fun t a=>t.1.f a) k.j7 t a) l:=rfl;have q:=ha a V;by_cases c:t.1.f a=-1
  ·have i:ey (fun t a=>t.1.f a) k.j7 t a=t:=by unfold ey;rw[aq c]
   rw[p,i];obtain⟨j,g,m,n⟩:=lQ k al l t f.2 (fun b d=>ha b (ay _ d))
   have ea:al a=false:=by rw[q,c];rfl
   exact⟨⟨fun h=>(by rw[ea] at h;cases h),fun _=>⟨by rw[g a f.1];exact c,j⟩⟩,fun b d=>g b (fun o=>d (ay _ o)),m,n⟩
  ·have i:ey (fun t a=>t.1.f a) k.j7 t a=k.j7 t a:=by unfold ey;rw[ao c]
   rw[p,i];obtain⟨j,g,m,n⟩:=lQ k al l (k.j7 t a) f.2 (fun b d=>by
    have s:b≠a:=fun e=>f.1 (e▸d)
    show al b=!(fe t.1.f a t.2 b==-1)
    unfold fe;rw[ao s];exact ha b (ay _ d))
   have ea:al a=true:=by rw[q,a6 c];rfl
   refine⟨⟨fun _=>⟨?_,j⟩,fun h=>(by rw[ea] at h;cases h)⟩,fun b d=>?_,m,n⟩
   ·rw[g a f.1];show fe t.1.f a t.2 a=_;unfold fe;rw[aq rfl]
   ·rw[g b (fun o=>d (ay _ o))];show fe t.1.f a t.2 b=_;unfold fe;rw[ao (fun e=>d (by rw[e];simp))]
def t8 (k:Int):Int:=if k=1 then 1 else if k=2 then 1 else if k=9 then 6 else if k=11 then 3 else 6
theorem z3 (k:Int)(hk:k=1\/k=2\/k=9\/k=11\/k=12)(w:World):Calls prog 103 #[ae k] w fun e w'=>e=.returned (ae (t8 k))/\w'=w:=by
 rcases hk with rfl|rfl|rfl|rfl|rfl
 all_goals
  go_enter func103,ntmps103;go_wp2_with fail;go_ret;exact⟨rfl,rfl⟩
def im (k n:Int):Int:=if k=1 then rc n (-1152921504606846976) else 0
theorem z4 (k n:Int)(h:n< -1152921504606846976):im k n=if k=1 then 1 else 0:=by unfold im rc;rw[aq h]
theorem z5 (k n:Int)(h:1152921504606846976<=n):im k n=if k=1 then 1 else 0:=by
 unfold im rc;by_cases hk:k=1
 ·rw[aq hk,aq hk,ao I,aq h]
 ·rw[ao hk,ao hk]
theorem t9 (k n:Int)(a:-1152921504606846976<=n)(b:n<1152921504606846976):im k n=0:=by
 unfold im rc;by_cases hk:k=1
 ·rw[aq hk,ao I,ao I]
 ·rw[ao hk]
theorem mQ (k R a B d n:Int)(hk:k=1\/k=2\/k=9\/k=11\/k=12)(i:0<=R/\R<12)(l:0<=a/\a<12)(hB:0<=B/\B<12)(w:World):
 Calls prog 41 #[.agg #[ae k,ae R,ae a,ae B,ae d,ae n]] w fun e w'=>e=.returned (ae (im k n))/\Below w.heap.size w w':=by
 obtain⟨r0,r1⟩:=i;obtain⟨p,a1⟩:=l;obtain⟨b0,b1⟩:=hB;have m:=z3 k hk;have f:=(Below.refl w.heap.size w).alloc bJ (.cells #[ae k,ae R,ae a,ae B,ae d,ae n] 44)
 rcases hk with rfl|rfl|rfl|rfl|rfl
 all_goals
  go_enter func41,ntmps41;go_wp2_with fail;refine(m _).mono ?_;rintro e w1 ⟨rfl,rfl⟩
  simp only [t8];go_wp2_with fail
  go_loopw [5] (fun iv wr=>∃(j:Nat),j<=3/\iv=ae j/\wr=(w.alloc (.cells #[.int .i64 _,.int .i64 R,.int .i64 a,.int .i64 B,.int .i64 d,.int .i64 n] 44)).alloc (.cells #[.int .i64 R,.int .i64 a,.int .i64 B] 3)) (fun iv _=>3-(intOf iv).toNat)
  case atStart=>exact⟨0,I,rfl,rfl⟩
  case round=>
   obtain⟨j,q,rfl,rfl⟩:=hrel;by_cases s:j<3
   ·rcases(show j=0\/j=1\/j=2 by omega) with rfl|rfl|rfl
    all_goals
     go_wp2_with fail;go_roundw
     case rel=>first|exact⟨1,Z,rfl,trivial⟩|exact⟨2,Z,rfl,trivial⟩|exact⟨3,Z,rfl,trivial⟩
     case measure=>simp[intOf]
   ·obtain rfl:j=3:=I;by_cases o:n< -1152921504606846976
    ·have b:Hid (n< -1152921504606846976):=o;have g:¬1152921504606846976<=n:=I;go_wp2_with fail;go_ret;exact⟨by rw[z4 _ _ b.out];rfl,f.alloc V _⟩
    ·have b:Hid (-1152921504606846976<=n):=by show _<=_;omega
     by_cases g:1152921504606846976<=n
     ·have c:Hid (1152921504606846976<=n):=g;clear b;go_wp2_with fail;go_ret;exact⟨by rw[z5 _ _ c.out];rfl,f.alloc V _⟩
     ·have c:Hid (n<1152921504606846976):=by show _<_;omega
      go_wp2_with fail;go_ret;exact⟨by first|(rw[t9 _ _ b.out c.out];rfl)|rw[t9 _ _ b.out c.out],f.alloc V _⟩
abbrev jB (k R a B b n:Int):Value:=.agg #[ae k,ae R,ae a,ae B,ae b,ae n]
abbrev f7 (k R a B b n:Int):Obj:=.cells #[ae k,ae R,ae a,ae B,ae b,ae n] 44
def b_.gc (s:b_)(a:Nat)(b:Int):Int:=if s.th a<0\/(s.T.getD (s.th a).toNat (0,[],false,false)).1=5 then 2 else if b<0\/((s.T.getD (s.th a).toNat (0,[],false,false)).2.1.length:Int)<=b then 1 else 0
def b_.gf (s:b_)(a:Nat)(b:Int):Int×Int:=(s.T.getD (s.th a).toNat (0,[],false,false)).2.1.getD b.toNat (0,0)
section
variable {rp rb:Nat}{bS bT:Int}{F:Nat->Prop}{s:b_}{w:World}
theorem n2 (h:(cf rp rb bS bT).J F s w):rb≠rp/\F rb/\F rp:=by
 obtain⟨own,c,d,f,g,hM,a⟩:=h;refine⟨fun e=>?_,(a rb).2 (by rw[hM.r1];decide),(a rp).2 (by rw[hM.b1];decide)⟩
 have b:=hM.r1;rw[e,hM.b1] at b;omega
theorem z6 (h:(cf rp rb bS bT).J F s w)(R:Nat)(p:R<12)(n:Int):
 Calls prog 14 #[af rp,jB 1 R 0 0 0 n] w fun e w'=>e=.returned (ae (rc n (-1152921504606846976)))/\(cf rp rb bS bT).J F (if rc n (-1152921504606846976)=0 then {s with rs:=s.rs.set R (1,n)} else s) w'/\bM F w F w':=by
 have g:=(Below.refl w.heap.size w).alloc bJ (f7 1 R 0 0 0 n)
 have P:=mQ 1 R 0 0 0 n (ap rfl) ⟨I,I⟩ ⟨I,I⟩ ⟨I,I⟩ (w.alloc (f7 1 R 0 0 0 n))
 have i:im 1 n=rc n (-1152921504606846976):=rfl;rw[i] at P;have a:Hid ((cf rp rb bS bT).J F s w/\Below w.heap.size w (w.alloc (f7 1 R 0 0 0 n))):=⟨h,g⟩
 have q:rc n (-1152921504606846976)=0\/rc n (-1152921504606846976)=1:=by
  unfold rc;split
  ·exact an rfl
  ·split
   ·exact an rfl
   ·exact ap rfl
 clear h g i;rcases q with hz|hz
 ·rw[hz] at P⊢;rw[aq rfl];clear hz;go_enter func14,ntmps14;go_wp2_with fail;refine P.mono ?_;clear P;rintro e w1 ⟨rfl,c⟩
  have b:=a.out.2.trans (c.mono V)
  have d:=(cf rp rb bS bT).below a.out.1 b;have f:w1.heap[w.heap.size]?=some (f7 1 R 0 0 0 n):=(c.block _ V).trans (aw _ _)
  have q0:w1.cell? (ah w.heap.size 0)=some (ae 1):=by simp[World.cell?,f]
  have q1:w1.cell? (ah w.heap.size 1)=some (ae R):=by simp[World.cell?,f]
  have x:w1.cell? (ah w.heap.size 5)=some (ae n):=by simp[World.cell?,f]
  obtain⟨c1,_,_,A,B,t,C,j⟩:=fT d;obtain⟨D,E,G,y1⟩:=j R p;obtain⟨H,u,v⟩:=n2 d;have lb:=(cf rp rb bS bT).lt a.out.1 rb u;have lp:=(cf rp rb bS bT).lt a.out.1 rp v;have gC:rb≠w.heap.size:=I;have J:rp≠w.heap.size:=I;have k:Hid ((cf rp rb bS bT).J F s w1/\bM F w F w1):=⟨d,bM.of b⟩
  have r0:(0:Int)<=(R:Int):=I;have r1:(R:Int)<12:=I;clear d b c f j t a;go_wp2_with fail
  go_region_held3 (fun w'=>w'.cell? (ah rp 1)=some (.slice (ag rb) 12 12)/\w'.cell? (ah w.heap.size 1)=some (ae R)/\w'.cell? (ah w.heap.size 5)=some (ae n)) (go_keep) (fail)
  obtain⟨l,m⟩:=nl k.out.1 R (1,n)
  have o:Hid (_/\_):=⟨(cf rp rb bS bT).below l bK.drew,(k.out.2.trans m).below bK.drew⟩
  clear l m;go_wp2_with fail;go_ret;exact⟨rfl,o.out.1,o.out.2⟩
 ·rw[hz] at P⊢;rw[ao Z];clear hz;go_enter func14,ntmps14;go_wp2_with fail;refine P.mono ?_;clear P;rintro e w1 ⟨rfl,c⟩
  have b:=a.out.2.trans (c.mono V)
  go_wp2_with fail;go_ret;exact⟨rfl,(cf rp rb bS bT).below a.out.1 b,bM.of b⟩
theorem z7 (h:(cf rp rb bS bT).J F s w)(R:Nat)(o:R<12):
 Calls prog 14 #[af rp,jB 2 R 0 0 0 0] w fun e w'=>e=.returned (ae 0)/\(cf rp rb bS bT).J F {s with rs:=s.rs.set R (0,0)} w'/\bM F w F w':=by
 have g:=(Below.refl w.heap.size w).alloc bJ (f7 2 R 0 0 0 0)
 have P:=mQ 2 R 0 0 0 0 (an (ap rfl)) ⟨I,I⟩ ⟨I,I⟩ ⟨I,I⟩ (w.alloc (f7 2 R 0 0 0 0))
 have i:im 2 0=0:=rfl;rw[i] at P;have a:Hid ((cf rp rb bS bT).J F s w/\Below w.heap.size w (w.alloc (f7 2 R 0 0 0 0))):=⟨h,g⟩
 clear h g i;go_enter func14,ntmps14;go_wp2_with fail;refine P.mono ?_;clear P;rintro e w1 ⟨rfl,c⟩
 have d:=a.out.2.trans (c.mono V)
 have b:=(cf rp rb bS bT).below a.out.1 d;have f:w1.heap[w.heap.size]?=some (f7 2 R 0 0 0 0):=(c.block _ V).trans (aw _ _)
 have q0:w1.cell? (ah w.heap.size 0)=some (ae 2):=by simp[World.cell?,f]
 have q1:w1.cell? (ah w.heap.size 1)=some (ae R):=by simp[World.cell?,f]
 obtain⟨c1,_,_,u,v,p,x,j⟩:=fT b;obtain⟨A,B,C,y1⟩:=j R o;obtain⟨D,q,t⟩:=n2 b;have lb:=(cf rp rb bS bT).lt a.out.1 rb q;have lp:=(cf rp rb bS bT).lt a.out.1 rp t;have gC:rb≠w.heap.size:=I;have E:rp≠w.heap.size:=I;have k:Hid ((cf rp rb bS bT).J F s w1/\bM F w F w1):=⟨b,bM.of d⟩
 have r0:(0:Int)<=(R:Int):=I;have r1:(R:Int)<12:=I;clear b d c f j p a;go_wp2_with fail
 go_region_held3 (fun w'=>w'.cell? (ah rp 1)=some (.slice (ag rb) 12 12)/\w'.cell? (ah w.heap.size 1)=some (ae R)) (go_keep) (fail)
 obtain⟨l,m⟩:=nl k.out.1 R (0,0)
 have n:Hid (_/\_):=⟨(cf rp rb bS bT).below l bK.drew,(k.out.2.trans m).below bK.drew⟩
 clear l m;go_wp2_with fail;go_ret;exact⟨rfl,n.out.1,n.out.2⟩
end
theorem z8:(prog.info? 97).map (fun i=>(i.zero,i.size,i.bytes))=some (some (.agg #[ae 0,ae 0]),2,16):=ab
def b_.rc (s:b_)(a B:Nat):Int:=if s.th a<0\/s.gd B<0 then 2 else if 24<=s.rg.length+s.wt.length then 3 else 0
section
variable {rp rb:Nat}{bS bT:Int}{F:Nat->Prop}{s:b_}{w:World}
theorem z9 (h:(cf rp rb bS bT).J F s w)(f B:Nat)(b3:f<12)(hB:B<12)(bb:0<=s.th B->s.th B<s.T.length)(cp:s.rg.length<=10000)(cq:s.wt.length<=10000):
 Calls prog 14 #[af rp,jB 9 0 f B 0 0] w fun e w'=>∃bd,e=.returned (ae (s.rc f B))/\(cf rp rb bS bT).J bd (if s.rc f B=0 then {s with rg:=s.rg++[(s.gd B,s.th f)]} else s) w'/\bM F w bd w':=by
 have be:=(Below.refl w.heap.size w).alloc bJ (f7 9 0 f B 0 0)
 have P:=mQ 9 0 f B 0 0 (an (an (ap rfl))) ⟨I,I⟩ ⟨I,I⟩ ⟨I,I⟩ (w.alloc (f7 9 0 f B 0 0))
 have ad:im 9 0=0:=rfl;rw[ad] at P;have ai:Hid ((cf rp rb bS bT).J F s w/\Below w.heap.size w (w.alloc (f7 9 0 f B 0 0))):=⟨h,be⟩
 have G:Hid (s.rc f B=if s.th f<0\/s.gd B<0 then 2 else if 24<=s.rg.length+s.wt.length then 3 else 0):=rfl;have al:Hid (∀w',(cf rp rb bS bT).J F s w'->Calls prog 44 #[af rp,ae f] w' fun e ar=>e=.returned (ae (s.th f))/\ar=w'):=fun w' ax=>nD ax f b3;have aB:Hid (∀w',(cf rp rb bS bT).J F s w'->Calls prog 45 #[af rp,ae B] w' fun e ar=>e=.returned (ae (s.gd B))/\ar=w'):=fun w' ax=>xw ax B hB bb;have cr:rp<w.heap.size:=(fT h).2.2.2.1;have b5:Hid (∀b,F b->b<w.heap.size):=(cf rp rb bS bT).lt h;clear h be ad bb;generalize s.rc f B=z at G⊢;generalize s.th f=a at*;generalize s.gd B=g at*;obtain⟨b6,b7,b8,b9,cb⟩:=info_parts z8;go_enter func14,ntmps14;go_wp2_with fail;refine P.mono ?_;clear P;rintro e w1 ⟨rfl,aF⟩
 have k:=ai.out.2.trans (aF.mono V)
 have J:=(cf rp rb bS bT).below ai.out.1 k;have K:w1.heap[w.heap.size]?=some (f7 9 0 f B 0 0):=(aF.block _ V).trans (aw _ _)
 have q0:w1.cell? (ah w.heap.size 0)=some (ae 9):=by simp[World.cell?,K]
 have bg:w1.cell? (ah w.heap.size 2)=some (ae f):=by simp[World.cell?,K]
 have q3:w1.cell? (ah w.heap.size 3)=some (ae B):=by simp[World.cell?,K]
 have bi:=lt_of_some K;obtain⟨_,_,_,bl,_,bn,_,_⟩:=fT J;have bo:=bn 2;obtain⟨v2,cs,aR,cc,aT,bp,br,bs⟩:=nn J;obtain⟨a2,o,L⟩:=dG aT;obtain⟨ct,cu,cd⟩:=dG bp;subst L cd;have q:Hid ((cf rp rb bS bT).J F s w1/\bM F w F w1):=⟨J,bM.of k⟩
 have t:Hid (w1.ownsRow 0 97 2 (.slice a2 s.rg.length o) s.rg.length (ev s.rg)/\(∀(l:List bN)(v1:Value)(w':World),Fr (fun b=>some b=(Value.slice a2 s.rg.length o).ownBlock) w1 w'->w'.ownsRow 0 97 2 v1 l.length (ev l)->(∀b,some b=v1.ownBlock->some b=(Value.slice a2 s.rg.length o).ownBlock\/w1.heap.size<=b)->
  (cf rp rb bS bT).J (fun b=>F b\/some b=v1.ownBlock) {s with rg:=l} (w'.setCell ⟨rp,2,none⟩ v1)/\Fr F w1 (w'.setCell ⟨rp,2,none⟩ v1))/\∀b,some b=(Value.slice a2 s.rg.length o).ownBlock->F b):=⟨aT,bs,fun b e=>by
  obtain⟨own,cv,cw,ce,cx,hM,cg⟩:=J;have Q:=hM.blk;have R:ce=.slice a2 s.rg.length o:=by simpa[World.cell?,Q] using aR
  exact(cg b).2 (by rw[hM.fq b (by rw[R];exact e)];decide)⟩
 clear J k aF K bn ai aT bp bs;go_wp2_with fail;refine(al.out w1 q.out.1).mono ?_;rintro e d ⟨rfl,x⟩
 have x:=x.symm;subst x;by_cases ha:a<0
 ·have hz:z=2:=by rw[G.out,aq (ap ha)]
  go_wp2_with fail;go_ret;exact⟨rfl,F,q.out.1,q.out.2⟩
 ·go_wp2_with fail;refine(aB.out w1 q.out.1).mono ?_;rintro e d ⟨rfl,x⟩
  have x:=x.symm;subst x;by_cases hg:g<0
  ·have hz:z=2:=by rw[G.out,aq (an hg)]
   go_wp2_with fail;go_ret;exact⟨rfl,F,q.out.1,q.out.2⟩
  ·have cy:∃n:Nat,n=s.rg.length+s.wt.length:=⟨_,rfl⟩
   by_cases bx:24<=s.rg.length+s.wt.length
   ·have hz:z=3:=by rw[G.out,ao I,aq bx]
    have ch:(24:Int)<=(s.rg.length:Int)+(s.wt.length:Int):=I
    go_upto_region 30 with fail
    go_quiet (fail)
    go_wp2_with fail;go_ret;have k:=below_drewN (Below.refl w1.heap.size w1) nq;exact⟨rfl,F,(cf rp rb bS bT).below q.out.1 k,q.out.2.below k⟩
   ·have hz:z=0:=by rw[G.out,ao I,ao bx]
    have ch:¬(24:Int)<=(s.rg.length:Int)+(s.wt.length:Int):=I
    go_upto_region 30 with fail
    go_quiet (fail)
    have k:=below_drewN (Below.refl w1.heap.size w1) nq;generalize w1.drewN nq=d at*;have aV:=(cf rp rb bS bT).below q.out.1 k;have a0:=(k.cell (p:=ah w.heap.size 2) bi).trans bg;have a1:=(k.cell (p:=ah w.heap.size 3) bi).trans q3;have L:=(k.cell (p:=ah rp 2) bl).trans aR;have bL:=(k.frozen (p:=ah rp 2) bl).trans bo;have a3:rp<d.heap.size:=by have:=k.size;omega
    have bO:w.heap.size<d.heap.size:=by have:=k.size;omega
    have bP:=(Below.refl d.heap.size d).drew;have M:=((Below.refl d.heap.size d).alloc bJ (.cells #[ae g,ae a] 97)).drew;have bQ:Hid ((d.alloc (.cells #[.int .i64 g,.int .i64 a] 97)).drew.ownsRow 0 97 2 (.slice a2 s.rg.length o) s.rg.length (ev s.rg)):=ca (fC (ca t.out.1 (fun b e=>k.block b (bR t.out.1 b e).2)) _) (fun _ _=>rfl)
    have ci:=((Below.refl d.heap.size d).drew).alloc bJ (.cells #[ae g,ae a] 97)
    have cj:Hid ((d.drew.alloc (.cells #[.int .i64 g,.int .i64 a] 97)).ownsRow 0 97 2 (.slice a2 s.rg.length o) s.rg.length (ev s.rg)):=ca (w:=d) (ca t.out.1 (fun b e=>k.block b (bR t.out.1 b e).2)) (fun b e=>ci.block b (by have Q:=(bR t.out.1 b e).2;have:=k.size;omega))
    have bU:=al.out d.drew ((cf rp rb bS bT).below aV bP)
    have bV:=aB.out d.drew ((cf rp rb bS bT).below aV bP)
    have bW:Hid (Below w1.heap.size w1 d):=k;clear bg q3 aR cc bo aV k al aB q0 G;go_wp2_with fail;have gC:rp≠w.heap.size:=I;have bX:some w.heap.size≠(Value.slice a2 s.rg.length o).ownBlock:=fun e=>by have:=b5.out _ (t.out.2.2 _ e);omega
    refine wp_region_noPanic ?_;refine wp_region_any ab ?_;have c:(d.drew.cell? (ah w.heap.size 2)=some (ae f)/\d.drew.cell? (ah w.heap.size 3)=some (ae B))/\d.drew.cell? (ah rp 2)=some (.slice a2 s.rg.length o):=⟨⟨a0,a1⟩,L⟩
    refine nM (T:=fun w'=>w'.cell? (ah w.heap.size 2)=some (ae f)/\w'.cell? (ah w.heap.size 3)=some (ae B)) (S:=fun w'=>w'.cell? (ah rp 2)=some (.slice a2 s.rg.length o)) (St:=[18]) _ _ _ _ ?_;refine dW (i:=0) (v:=?_) rfl ab ab ab ab (fun _ _ _ h=>h) (ap ⟨aa,?_⟩) c.1 (an c.2) ?_
    rotate_left
    ·intro w m;go_simp
     try rfl
    try simp only [Act.put,List.getElem_toArray,List.getElem_cons_zero,List.setIfInBounds_toArray,List.set_cons_zero,List.set_cons_succ]
    refine dW (i:=1) (v:=?_) rfl ab ab ab ab (fun _ _ _ h=>h) (ap ⟨aa,?_⟩) c.1 (an c.2) ?_
    rotate_left
    ·intro w m;go_simp
     try rfl
    try simp only [Act.put,List.getElem_toArray,List.getElem_cons_succ,List.getElem_cons_zero,List.setIfInBounds_toArray,List.set_cons_zero,List.set_cons_succ]
    refine dW (i:=2) (v:=?_) rfl ab ab ab ab (fun _ _ _ h=>h) (ap ⟨aa,?_⟩) c.1 (an c.2) ?_
    rotate_left
    ·intro w m;go_simp
     try rfl
    try simp only [Act.put,List.getElem_toArray,List.getElem_cons_succ,List.getElem_cons_zero,List.setIfInBounds_toArray,List.set_cons_zero,List.set_cons_succ]
    refine dW (i:=3) (v:=?_) rfl ab ab ab ab (fun _ _ _ h=>h) (ap ⟨aa,?_⟩) c.1 (an c.2) ?_
    rotate_left
    ·intro w m;go_simp
     try rfl
    try simp only [Act.put,List.getElem_toArray,List.getElem_cons_succ,List.getElem_cons_zero,List.setIfInBounds_toArray,List.set_cons_zero,List.set_cons_succ]
    refine yz (i:=4) (v:=?_) rfl ab ab ab ab ab ab (fun _ _ _ h=>h) (ap ⟨aa,?_⟩) c ?_
    rotate_left
    ·intro w m;have bY:=m.2;go_simp
     try rfl
    try simp only [Act.put,List.getElem_toArray,List.getElem_cons_succ,List.getElem_cons_zero,List.setIfInBounds_toArray,List.set_cons_zero,List.set_cons_succ]
    refine dW (i:=5) (v:=?_) rfl ab ab ab ab (fun _ _ _ h=>h) (ap ⟨aa,?_⟩) c.1 (an c.2) ?_
    rotate_left
    ·intro w m;go_simp
     try rfl
    try simp only [Act.put,List.getElem_toArray,List.getElem_cons_succ,List.getElem_cons_zero,List.setIfInBounds_toArray,List.set_cons_zero,List.set_cons_succ]
    refine dW (i:=6) (v:=?_) rfl ab ab ab ab (fun _ _ _ h=>h) (ap ⟨aa,?_⟩) c.1 (an c.2) ?_
    rotate_left
    ·intro w m;go_simp
     try rfl
    try simp only [Act.put,List.getElem_toArray,List.getElem_cons_succ,List.getElem_cons_zero,List.setIfInBounds_toArray,List.set_cons_zero,List.set_cons_succ]
    refine dW (i:=7) (v:=?_) rfl ab ab ab ab (fun _ _ _ h=>h) (ap ⟨aa,?_⟩) c.1 (an c.2) ?_
    rotate_left
    ·intro w m;have bY:=m.1;have ck:=m.2;go_simp
     try rfl
    try simp only [Act.put,List.getElem_toArray,List.getElem_cons_succ,List.getElem_cons_zero,List.setIfInBounds_toArray,List.set_cons_zero,List.set_cons_succ]
    refine dW (i:=9) (v:=?_) rfl ab ab ab ab (fun _ _ _ h=>h) (ap ⟨aa,?_⟩) c.1 (an c.2) ?_
    rotate_left
    ·intro w m;go_simp
     try rfl
    try simp only [Act.put,List.getElem_toArray,List.getElem_cons_succ,List.getElem_cons_zero,List.setIfInBounds_toArray,List.set_cons_zero,List.set_cons_succ]
    refine dW (i:=10) (v:=?_) rfl ab ab ab ab (fun _ _ _ h=>h) (ap ⟨aa,?_⟩) c.1 (an c.2) ?_
    rotate_left
    ·intro w m;go_simp
     try rfl
    try simp only [Act.put,List.getElem_toArray,List.getElem_cons_succ,List.getElem_cons_zero,List.setIfInBounds_toArray,List.set_cons_zero,List.set_cons_succ]
    refine dW (i:=11) (v:=?_) rfl ab ab ab ab (fun _ _ _ h=>h) (ap ⟨aa,?_⟩) c.1 (an c.2) ?_
    rotate_left
    ·intro w m;have bY:=m.1;have ck:=m.2;go_simp
     try rfl
    try simp only [Act.put,List.getElem_toArray,List.getElem_cons_succ,List.getElem_cons_zero,List.setIfInBounds_toArray,List.set_cons_zero,List.set_cons_succ]
    refine kM (i:=8) ab ?_;refine mz rfl rfl ?_;simp only [List.getElem_toArray,List.getElem_cons_succ,List.getElem_cons_zero];go_simp;refine bV.mono ?_;rintro e A ⟨rfl,C⟩
    have C:=C.symm;subst C;dsimp only;refine⟨⟨c.1,an c.2⟩,?_⟩
    try simp only [Act.put,List.getElem_toArray,List.getElem_cons_succ,List.getElem_cons_zero,List.setIfInBounds_toArray,List.set_cons_zero,List.set_cons_succ]
    refine kM (i:=12) ab ?_;refine mz rfl rfl ?_;simp only [List.getElem_toArray,List.getElem_cons_succ,List.getElem_cons_zero];go_simp;refine bU.mono ?_;rintro e A ⟨rfl,C⟩
    have C:=C.symm;subst C;dsimp only;refine⟨⟨c.1,an c.2⟩,?_⟩
    try simp only [Act.put,List.getElem_toArray,List.getElem_cons_succ,List.getElem_cons_zero,List.setIfInBounds_toArray,List.set_cons_zero,List.set_cons_succ]
    refine dW (i:=13) (v:=?_) rfl ab ab ab ab (fun _ _ _ h=>h) (ap ⟨aa,?_⟩) c.1 (an c.2) ?_
    rotate_left
    ·intro w m;go_simp
     try rfl
    try simp only [Act.put,List.getElem_toArray,List.getElem_cons_succ,List.getElem_cons_zero,List.setIfInBounds_toArray,List.set_cons_zero,List.set_cons_succ]
    refine kM (i:=14) ab ?_;refine mz rfl rfl ?_;simp only [List.getElem_toArray,List.getElem_cons_succ,List.getElem_cons_zero];go_simp;refine kM (i:=15) ab ?_;refine mz rfl rfl ?_;refine wp_append_lies _ (.tmp 149) (.tmp 159) 89 rfl 0 97 b6 (.agg #[ae 0,ae 0]) 2 16 Tryz.underlying89 b7 b8 b9 cb rfl Z (.slice a2 s.rg.length o) s.rg.length (ev s.rg) (by simp[Act.eval]) bQ.out ⟨d.heap.size,0,none⟩ 1 1 [ae g,ae a] (by simp[Act.eval]) rfl ?_ ?_ Z (by unfold maxLen;omega) I V _ rfl ?_
    ·(intro j u D;match j,D with|0,D=>(simp at D;subst D;simp[Addr.add])|1,D=>(simp at D;subst D;simp[Addr.add]))
    ·(intro u N;simp at N;rcases N with N|N<;>(subst N;rfl))
    intro b4 O A bZ E b0 cz;have U:=E.cell (a:=⟨rp,2,none⟩) (v:=.slice a2 s.rg.length o) ((M.cell (p:=ah rp 2) a3).trans L) br;have cl:A.frozen? (ah rp 2)=false:=(World.frozen?_of_block (a:=⟨rp,2,none⟩) (E.block _ (av a3 M.size) br)).trans ((M.frozen (p:=ah rp 2) a3).trans bL)
    have W:=E.cell (a:=⟨w.heap.size,2,none⟩) ((M.cell (p:=ah w.heap.size 2) bO).trans a0) bX;have Y:=E.cell (a:=⟨w.heap.size,3,none⟩) ((M.cell (p:=ah w.heap.size 3) bO).trans a1) bX;refine⟨⟨⟨W,Y⟩,an U⟩,?_⟩
    try simp only [Act.put,List.getElem_toArray,List.getElem_cons_succ,List.getElem_cons_zero,List.setIfInBounds_toArray,List.set_cons_zero,List.set_cons_succ]
    have b1:Hid ((cf rp rb bS bT).J (fun b=>F b\/some b=(Value.slice (ag b4) (s.rg.length+1) O).ownBlock) {s with rg:=s.rg++[(g,a)]} (A.setCell ⟨rp,2,none⟩ (.slice (some ⟨b4,0,none⟩) (s.rg.length+1) O))/\bM F w (fun b=>F b\/some b=(Value.slice (ag b4) (s.rg.length+1) O).ownBlock) (A.setCell ⟨rp,2,none⟩ (.slice (some ⟨b4,0,none⟩) (s.rg.length+1) O))):=by
     have cm:=E.size;simp at cm;have cA:=bW.out.size;have b2:some b4=(Value.slice a2 s.rg.length o).ownBlock\/w1.heap.size<=b4:=b0.imp Eq.symm (fun e=>by
      have ad:b4=d.heap.size+1:=by simpa using e
      omega)
     have cn:Fr (fun b=>some b=(Value.slice a2 s.rg.length o).ownBlock) w1 A:=(((Fr.of (X:=fun b=>some b=(Value.slice a2 s.rg.length o).ownBlock) bW.out).alloc _).drew).grown E (fun b e=>ap e.symm)
     obtain⟨Q,co⟩:=t.out.2.1 (s.rg++[(g,a)]) (.slice (ag b4) (s.rg.length+1) O) A cn (by
      rw[kn,aJ];simpa[ev] using bZ) (fun b e=>by
      simp[Value.ownBlock] at e;subst e;exact b2)
     refine⟨Q,⟨q.out.2.fr.trans co q.out.2.sub,fun b H=>?_⟩⟩
     rcases H with H|H
     ·exact ap H
     ·simp[Value.ownBlock] at H;subst H;rcases b2 with R|R
      ·exact ap (t.out.2.2 _ R)
      ·exact an I
    clear bZ E b0 t bQ cj;refine dW (i:=16) (v:=?_) rfl ab ab ab ab (fun _ _ _ h=>h) (ap ⟨aa,?_⟩) ⟨W,Y⟩ (an U) ?_
    rotate_left
    ·intro w m;go_simp
     try rfl
    try simp only [Act.put,List.getElem_toArray,List.getElem_cons_succ,List.getElem_cons_zero,List.setIfInBounds_toArray,List.set_cons_zero,List.set_cons_succ]
    refine dW (i:=17) (v:=?_) rfl ab ab ab ab (fun _ _ _ h=>h) (ap ⟨aa,?_⟩) ⟨W,Y⟩ (an U) ?_
    rotate_left
    ·intro w m;go_simp
     try rfl
    try simp only [Act.put,List.getElem_toArray,List.getElem_cons_succ,List.getElem_cons_zero,List.setIfInBounds_toArray,List.set_cons_zero,List.set_cons_succ]
    refine kM (i:=18) ab ?_;refine mz rfl rfl ?_;simp only [List.getElem_toArray,List.getElem_cons_succ,List.getElem_cons_zero];go_simp;refine⟨⟨18,V,ab⟩,?_⟩
    refine pG ab ?_ _;refine NoPanic.normal ?_;clear bU bV a0 a1 L bL U cl W Y;go_wp2_with fail;go_ret;exact⟨rfl,_,b1.out.1,b1.out.2⟩
end
end Go.Proofs.YtjpjpjemibgjpaaGreat
