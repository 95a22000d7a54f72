import Derived.Test.YtpkjkjhanlbcoaaGreatJ03
import Derived.Deep.AppendLies
import Derived.Lib.AppendZeros
import Derived.Deep.DeepCutAuto
import Derived.Deep.Slices
import Derived.Lib.SmallJoins
import Derived.OpenShut
import Derived.Laws.OwnMore
namespace Go.Proofs.YtpkjkjhanlbcoaaGreat
set_option maxRecDepth 100000
set_option maxHeartbeats 2000000
open Tryz
open Go.RowKit W Kp cf
theorem wz {P:Prop}(h:P:=by
 go_enter func171,ntmps171;go_wp2_with fail;refine(kD w HA.out).mono ?_;rintro e w1 ⟨rfl,hb1⟩
 have y1:=(hb1.cell (p:=aq pw 0) it).trans hc;go_wp2_with fail;refine(mM w1 (HA.out.below hb1 bW)).mono ?_;rintro e w2 ⟨rfl,hb2⟩
 have ed:=hb1.trans (hb2.mono hb1.size)
 have y2:=(ed.cell (p:=aq pw 0) it).trans hc;have P:=mL a w2 (HA.out.below ed bW)
 rw[ho] at P;go_wp2_with fail;refine P.mono ?_;rintro e w3 ⟨rfl,hb3⟩
 have jK:=ed.trans (hb3.mono ed.size)
 go_wp2_with fail;go_ret;exact⟨rfl,jK⟩):P:=h
theorem wA {P:Prop}(h:P:=by
 go_enter func101,ntmps101;go_wp2_with fail;refine P.mono ?_;rintro e w1 ⟨rfl,hb1⟩
 have y1:=(hb1.cell (p:=aq pw 0) it).trans hc;go_wp2_with fail;refine(HK.out w1 hb1).mono ?_;rintro e w2 ⟨d1,f1,d2,f2,rfl,L1,L2,hb2⟩
 have ed:=hb1.trans (hb2.mono hb1.size)
 go_wp2_with fail;refine(L1.out w2 bX).mono ?_;rintro e w3 ⟨rfl,hb3⟩
 have jK:=ed.trans (hb3.mono ed.size)
 go_wp2_with fail;refine(L2.out w3 hb3).mono ?_;rintro e w4 ⟨rfl,hb4⟩
 have CD:=jK.trans (hb4.mono jK.size)
 go_wp2_with fail;go_ret2;exact⟨rfl,CD⟩):P:=h
theorem wB {P:Prop}(h:P:=by
 go_wp2_with (at_builtin;refine Lib.wpList_append_run _ rfl _ _ _ _ rfl _ _ rfl rfl _ _ hr ?_)
 go_wp2;go_ret;exact⟨_,_,rfl,hown,hb⟩):P:=h
def k7 {d:Type}(o:dr d)(D:Int->Prop)(f:Nat)(b c:Array Value)(nw:d->Int->Int):Prop:=
 ∀F t w (x:Int),D x->o.J F t w->Calls prog f (b.push (ah x)++c) w fun r w'=>r=.returned (ah (nw t x))/\aw w w'
def j9 {d:Type}(o:dr d)(D:Int->Prop)(f:Nat)(b c:Array Value)(is:d->Int->Bool):Prop:=
 ∀F t w (x:Int),D x->o.J F t w->Calls prog f (b.push (ah x)++c) w fun r w'=>r=.returned (.bool (is t x))/\aw w w'
def nU {d:Type}(o:dr d)(D:Int->Prop)(f:Nat)(b c:Array Value)(kp:d->Int->Int×d):Prop:=
 ∀F t w (x:Int),D x->o.J F t w->Calls prog f (b.push (ah x)++c) w fun r w'=>∃e,r=.returned (ah (kp t x).1)/\o.J e (kp t x).2 w'/\Fr F w w'/\∀k,e k->F k\/w.heap.size<=k
theorem au(w:ax)(o:Obj):aw w (w.alloc o):=(Below.refl _ w).alloc (Nat.le_refl _) o
theorem wC {C:Type}(o:dr C)(D:Int->Prop)(f:Nat)(b c:Array Value)(nw:C->Int->Int)(M:dN f)(ht:k7 o D f b c nw)(l:List b7)(ad:Option Addr)(cap:Nat)(F:Nat->Prop)(t:C)(w:ax)
 (an:∀e∈l,D e.1/\D e.2)(hm:l.length<=100000)(N:o.J F t w)(hp:dv w ad l):
 Calls prog 152 #[.slice ad l.length cap,.func (.func f) b c] w fun r w'=>∃a1 c1,r=.returned (.slice a1 l.length c1)/\w'.ownsRow w.heap.size 103 2 (.slice a1 l.length c1) l.length (ev (l.map fun e=>(nw t e.1,nw t e.2)))/\aw w w':=by
 obtain⟨ao,hi,ap,ar,aB⟩:=info_parts nO;have O:ay (k7 o D f b c nw):=ht;have aF:ay (dv w ad l):=hp;have P:ay (o.J F t w):=N;clear hp ht N;have bo:∀(args:Array Value)(w:ax),(callFunc f args).run prog w=.ok (.enter f args) w:=M;clear M;go_enter func152,ntmps152;go_wp2_with fail
 go_loopw [5,10] (fun vt iv wr=>∃(j:Nat)(T:List b7)(n:Option Addr)(p:Nat),j<=l.length/\iv=ah j/\ay (T=(l.take j).map fun e=>(nw t e.1,nw t e.2))/\vt=.slice n T.length p/\
  wr.ownsRow w.heap.size 103 2 (.slice n T.length p) T.length (ev T)/\aw w wr) (fun _ iv _=>l.length-(intOf iv).toNat)
 case atStart=>exact⟨0,[],none,0,aZ _,rfl,rfl,rfl,bc _ _ _ _,aH _ _⟩
 case round=>
  obtain⟨j,T,n,p,m,rfl,u,rfl,d,hb⟩:=hrel;have aR:T.length<=100000:=by rw[u.out];simp;omega
  by_cases x:j<l.length
  ·obtain⟨bp,br,aV,bs,hc⟩:=aF.out.below hb V;obtain⟨Q,R⟩:=hc j x;clear hc;obtain⟨S,U⟩:=an (l.getD j (0,0)) (by rw[aE,aL x];exact a6 x)
   have E:ay (T++[(nw t (l.getD j (0,0)).1,nw t (l.getD j (0,0)).2)]=(l.take (j+1)).map fun e=>(nw t e.1,nw t e.2)):=by show _=_;rw[gx l j x (0,0),List.map_append,u.out];rfl
   generalize (l.getD j (0,0)).1=g at Q E S;generalize (l.getD j (0,0)).2=z at R E U;subst aV;have a0:=hb.size;have G:aw w (wr.alloc (.cells #[.int .i64 g,.int .i64 z] 103)):=hb.alloc a0 _;have H:=ga d (.cells #[.int .i64 g,.int .i64 z] 103)
   go_wp2_with fail
   go_region_held3 (fun w'=>w'.cell? (aq wr.heap.size 0)=some (ah g)/\w'.cell? (aq wr.heap.size 1)=some (ah z)) (go_keep)
    (first
      |(refine(O.out F t _ g S (o.below P.out G.drew)).mono ?_;rintro e A ⟨rfl,q⟩;have I:aw w A:=G.drew.trans (q.mono (by simp;omega));have J:=cH H (fun k e=>q.block k (cn H k e).2);have a2:=q.size;simp at a2;have y1:A.cell? (aq wr.heap.size 0)=some (ah g):=(q.cell Z).trans Z;have W:A.cell? (aq wr.heap.size 1)=some (ah z):=(q.cell Z).trans Z;have X:wr.heap.size<A.heap.size:=V)
      |(refine(O.out F t _ z U (o.below P.out I)).mono ?_;rintro e i ⟨rfl,s⟩;have K:aw w i:=I.trans (s.mono V);have Y:=cH J (fun k e=>s.block k (cn J k e).2);have bt:=s.size;have ab:i.cell? (aq wr.heap.size 0)=some (ah g):=(s.cell X).trans y1;have ag:i.cell? (aq wr.heap.size 1)=some (ah z):=(s.cell X).trans W;have ai:wr.heap.size<i.heap.size:=V)
      |(refine step_append_lies _ rfl (.tmp 14) (.tmp 24) 151 rfl w.heap.size 103 ao (.agg #[ah 0,ah 0]) 2 16 Tryz.underlying151 hi ap ar aB rfl aa (.slice n T.length p) T.length (ev T) (by simp[Act.eval]) (ga Y _) ⟨i.heap.size,0,none⟩ 1 1 [ah (nw t g),ah (nw t z)] (by simp[Act.eval]) rfl ?_ ?_ aa (by unfold maxLen;omega) V (by simp;omega) _ rfl ?_;(intro j bb m;match j,m with|0,m=>(simp at m;subst m;simp[Addr.add])|1,m=>(simp at m;subst m;simp[Addr.add]));(intro bb v;simp at v;rcases v with v|v<;>(subst v;rfl));intro b6 al L am B bd be;have bg:L.cell? (aq wr.heap.size 0)=some (ah g):=B.cell (((au i _).cell ai).trans ab) (fun e=>absurd (cn d _ e).2 (Nat.lt_irrefl _));have bi:L.cell? (aq wr.heap.size 1)=some (ah z):=B.cell (((au i _).cell ai).trans ag) (fun e=>absurd (cn d _ e).2 (Nat.lt_irrefl _))))
   have bl:L.ownsRow w.heap.size 103 2 (.slice (ak b6) (T++[(nw t g,nw t z)]).length al) (T++[(nw t g,nw t z)]).length (ev (T++[(nw t g,nw t z)])):=by rw[iV];simpa[ev] using am
   have bn:=(K.alloc K.size _).grown B (by simp;omega) (fun k e=>(cn d k e.symm).1)
   clear am B bd be H J Y G I K d hb q s y1 W ab ag bg bi Q R;go_wp2_with fail;go_roundw
   case rel=>exact⟨j+1,T++[(nw t g,nw t z)],ak b6,al,V,af,E,Z,bl,bn⟩
   case measure=>simp[intOf];omega
  ·obtain rfl:j=l.length:=V;rw[bu] at u;have hl:T.length=l.length:=by rw[u.out,aW]
   rw[hl] at d;have d:wr.ownsRow w.heap.size 103 2 (.slice n l.length p) l.length (ev (l.map fun e=>(nw t e.1,nw t e.2))):=by rw[<-u.out];exact d
   clear aR;go_wp2_with fail;go_ret;exact⟨n,p,by rw[hl];rfl,d,hb⟩
theorem wD (z:Value)(n:Nat)(hz:z.cells.size=2):(Builtin.zeroCells z.cells n).size=n*2:=by rw[size_zeroCells,hz]
theorem CE (w:ax)(n:Nat)(hn:n<=100000):
 Calls prog 243 #[.slice none 0 0,ah n] w fun e w'=>∃a1 c1,e=.returned (.slice a1 0 c1)/\w'.ownsRow w.heap.size 103 2 (.slice a1 0 c1) 0 []/\aw w w':=by
 obtain⟨c,hi,d,f,i⟩:=info_parts nO;rcases Nat.eq_zero_or_pos n with h0|h0
 ·subst h0;go_enter func243,ntmps243;go_wp2;go_ret;exact⟨none,0,rfl,bc _ _ _ _,aH _ _⟩
 ·have hr:=Lib.run_append_nil_zeros (P:=prog) w 151 3 151 103 c _ .i64 .i64 Tryz.underlying151 Tryz.underlying3 hi d n h0 (by rw[f];decide) V (by rw[i];omega)
  have j:=grownCap_ge w n 0 103;have b:=grownCap_le_maxLen w n 0 103 (by unfold maxLen;omega)
  generalize grownCap w n 0 103=g at hr j b;have hown:(w.drew.alloc (.cells (Builtin.zeroCells (Value.agg #[.int .i64 0,.int .i64 0]).cells n++Builtin.zeroCells (Value.agg #[.int .i64 0,.int .i64 0]).cells (g-n)) 103)).ownsRow w.heap.size 103 2 (.slice (some ⟨w.heap.size,0,none⟩) 0 g) 0 []:=
   World.ownsRow_made w.drew _ g bW b (by rw[Array.size_append,wD _ _ rfl,wD _ _ rfl];omega)
  have hb:aw w (w.drew.alloc (.cells (Builtin.zeroCells (Value.agg #[.int .i64 0,.int .i64 0]).cells n++Builtin.zeroCells (Value.agg #[.int .i64 0,.int .i64 0]).cells (g-n)) 103)):=(aH _ w).drew.alloc bW _;go_enter func243,ntmps243;exact wB
theorem bv {α:Type _}{a b:α}:a ∈ [b] ↔ a = b:=List.mem_singleton ..
theorem CF (D:b7->Prop)(f:Nat)(b c:Array Value)(p:b7->Bool)(o:dN f)(w:ax)
 (hl:∀(w':ax)(e:b7),D e->w.heap.size<=w'.heap.size->(∀k,k<w.heap.size->w'.heap[k]?=w.heap[k]?)->Calls prog f (b.push (en e)++c) w' fun r u=>r=.returned (.bool (p e))/\aw w' u)
 (l:List b7)(ad:Option Addr)(cap:Nat)(q:∀e∈l,D e)(hm:l.length<=100000)(hp:dv w ad l):
 Calls prog 228 #[.slice ad l.length cap,.func (.func f) b c] w fun r w'=>aw w w'/\((r=.returned (ah (-1))/\∀e∈l,p e=false)\/∃i:Nat,r=.returned (ah i)/\i<l.length/\p (l.getD i (0,0))=true/\∀e∈l.take i,p e=false):=by
 have v:=hide hl;have x:=hide hp;have A:=hide q;have H:∀(args:Array Value)(w:ax),(callFunc f args).run prog w=.ok (.enter f args) w:=o;clear hl hp o q;go_enter func228,ntmps228;go_wp2_with fail
 go_loopw [8] (fun iv wr=>∃j:Nat,j<=l.length/\iv=ah j/\ay (∀e∈l.take j,p e=false)/\aw w wr) (fun iv _=>l.length-(intOf iv).toNat)
 case atStart=>exact⟨0,aZ _,rfl,by simp[Hid],aH _ _⟩
 case round=>
  obtain⟨j,I,rfl,m,hb⟩:=hrel;by_cases d:j<l.length
  ·obtain⟨J,K,B,L,hc⟩:=x.out.below hb V;obtain⟨C,E⟩:=hc j d;have n:ay (l.getD j (0,0)=((l.getD j (0,0)).1,(l.getD j (0,0)).2)):=rfl;have hd:D (l.getD j (0,0)):=A.out _ (by rw[aE,aL d];exact a6 d)
   have hd:D ((l.getD j (0,0)).1,(l.getD j (0,0)).2):=hd;obtain⟨g,hg⟩:∃g,g=(l.getD j (0,0)).1:=⟨_,rfl⟩
   obtain⟨z,hz⟩:∃z,z=(l.getD j (0,0)).2:=⟨_,rfl⟩
   rw[<-hg] at C hd n;rw[<-hz] at E hd n;clear hc hg hz;subst B;go_wp2_with fail;refine(v.out wr (g,z) hd hb.size hb.block).mono ?_;rintro r w1 ⟨rfl,s⟩
   have t:=hb.trans (s.mono hb.size)
   clear hb s;cases hp:p (g,z)
   ·have F:ay (∀e∈l.take (j+1),p e=false):=fun e he=>by
     rw[gx l j d (0,0),List.mem_append,bv] at he;rcases he with he|he
     ·exact m.out e he
     ·rw[he,n.out];exact hp
    clear hp;go_wp2_with fail;go_roundw;exact⟨j+1,V,af,F,t⟩
    simp[intOf];omega
   ·have G:ay (p (l.getD j (0,0))=true):=by show _=_;rw[n.out];exact hp
    clear hp;go_wp2_with fail;go_ret;exact⟨t,aJ ⟨j,rfl,d,G.out,m.out⟩⟩
  ·obtain rfl:j=l.length:=V;rw[bu] at m;go_wp2_with fail;go_ret;exact⟨hb,aK ⟨rfl,m.out⟩⟩
theorem wE (a b:Option Addr)(ca cb:Nat)(l:List (Int×Int))(w:ax)(hm:l.length<=100000)(ha:dv w a l)(hb:dv w b l):
 Calls prog 70 #[.slice a l.length ca,.slice b l.length cb] w fun e w'=>e=.returned (.bool true)/\aw w w':=by
 have f:=hide ha;have g:=hide hb;clear ha hb;go_enter func70,ntmps70;go_wp2
 go_loopw [13] (fun iv wr=>∃j:Nat,j<=l.length/\iv=ah j/\aw w wr) (fun iv _=>l.length-(intOf iv).toNat)
 exact⟨0,aZ _,rfl,aH _ _⟩
 ·
   obtain⟨j,q,rfl,hb⟩:=hrel;by_cases c:j<l.length
   ·obtain⟨s,t,i,u,hc⟩:=(f.out.below hb) V;obtain⟨k,m⟩:=hc j c;subst i;obtain⟨b2,x,n,A,d⟩:=(g.out.below hb) V;obtain⟨o,p⟩:=d j c;subst n;clear hc d;generalize (l.getD j (0,0)).1=B at k o;generalize (l.getD j (0,0)).2=v at m p;go_wp2
    go_quiet (fail)
    go_wp2;go_roundw;exact⟨j+1,V,af,by first|exact below_drewN hb _|exact hb.drew|exact hb⟩
    simp[intOf];omega
   ·obtain rfl:j=l.length:=V;go_wp2;go_ret;exact⟨rfl,hb⟩
theorem CG (a b:Option Addr)(m n ca cb:Nat)(w:ax)(h:m≠n):
 Calls prog 70 #[.slice a m ca,.slice b n cb] w fun e w'=>e=.returned (.bool false)/\aw w w':=by
 go_wp2;go_ret;exact⟨rfl,aH _ _⟩
theorem CH (k:Int)(a b:Option Addr)(ca cb:Nat)(l:List (Int×Int))(w:ax)(hm:l.length<=100000)(ha:dv w a l)(hb:dv w b l):
 Calls prog 72 #[.agg #[ah k,.slice a l.length ca],.agg #[ah k,.slice b l.length cb]] w fun e w'=>e=.returned (.bool true)/\aw w w':=by
 have c:=(au w (.cells #[.int .i64 k,.slice a l.length ca] 107)).alloc Z (.cells #[.int .i64 k,.slice b l.length cb] 107)
 have P:=wE a b ca cb l _ hm (ha.below c) (hb.below c)
 have f:((w.alloc (.cells #[.int .i64 k,.slice a l.length ca] 107)).alloc (.cells #[.int .i64 k,.slice b l.length cb] 107)).heap.size=w.heap.size+2:=Z;clear ha hb;go_enter func72,ntmps72;go_wp2_with fail;refine P.mono ?_;clear P;rintro e w1 ⟨rfl,d⟩
 go_wp2_with fail;go_ret;exact⟨rfl,(c.trans (d.mono V))⟩
theorem CJ (n1 m:Option Addr)(x A:Nat)(b:List (Int×List (Int×Int)))(w:ax)(hl:b.length<=100000)(B:∀nd∈b,nd.2.length<=100000)(C:Ln w n1 b)(D:Ln w m b):
 Calls prog 71 #[.slice n1 b.length x,.slice m b.length A,.func (.func 72) #[] #[]] w fun e w'=>e=.returned (.bool true)/\aw w w':=by
 have E:ay (∀w',aw w w'->Ln w' n1 b):=fun w' hb=>C.below hb;have F:ay (∀w',aw w w'->Ln w' m b):=fun w' hb=>D.below hb;have G:=hide B;go_enter func71,ntmps71;go_wp2_with fail
 go_loopw [17] (fun iv wr=>∃j:Nat,j<=b.length/\iv=ah j/\ay (aw w wr)) (fun iv _=>b.length-(intOf iv).toNat)
 exact⟨0,aZ _,rfl,aH _ _⟩
 ·
   obtain⟨j,Q,rfl,hb⟩:=hrel;by_cases d:j<b.length
   ·obtain⟨b1,o1,f,g,H,l1,I,J,o⟩:=(E.out wr hb.out).at d;obtain⟨b2,q,i,k,K,l2,s,t,u⟩:=(F.out wr hb.out).at d;subst H K;have v:(b.getD j (0,[])).2.length<=100000:=G.out _ (by rw[aE,aL d];exact a6 d)
    generalize (b.getD j (0,[])).1=kd at I s;generalize (b.getD j (0,[])).2=c at J o t u v;have n:=au wr (.cells #[.int .i64 kd,.slice f c.length g] 107)
    have R:=(n.cell (p:=aq b2 (q+j*2)) l2).trans s;have S:=(n.cell (p:=aq b2 (q+j*2+1)) l2).trans t;have l:=n.alloc Z (.cells #[.int .i64 kd,.slice i c.length k] 107)
    have L:ay (Calls prog 72 #[.agg #[ah kd,.slice f c.length g],.agg #[ah kd,.slice i c.length k]] ((wr.alloc (.cells #[.int .i64 kd,.slice f c.length g] 107)).alloc (.cells #[.int .i64 kd,.slice i c.length k] 107)) fun e w'=>e=.returned (.bool true)/\aw w w'):=by
     refine(CH kd f i g k c _ v (o.below l) (u.below l)).mono ?_;rintro e w' ⟨rfl,M⟩
     exact⟨rfl,hb.out.trans ((l.trans (M.mono l.size)).mono hb.out.size)⟩
    have N:=L.out;go_wp2_with fail;refine N.mono ?_;rintro e U ⟨rfl,O⟩
    have P:=hide O;go_wp2_with fail;go_roundw;exact⟨j+1,V,af,P⟩
    simp[intOf];omega
   ·obtain rfl:j=b.length:=V;go_wp2_with fail;go_ret;exact⟨rfl,hb.out⟩
theorem wF (r1 f n1 d:Option Addr)(c1 c2 g i:Nat)(c:List (Int×Int))(b:List (Int×List (Int×Int)))(w:ax)(hm:c.length<=100000)(hl:b.length<=100000)(n:∀nd∈b,nd.2.length<=100000)(o:dv w r1 c)(q:dv w f c)(s:Ln w n1 b)(t:Ln w d b):
 Calls prog 30 #[.agg #[.slice r1 c.length c1,.slice n1 b.length g],.agg #[.slice f c.length c2,.slice d b.length i]] w fun e w'=>e=.returned (.bool true)/\aw w w':=by
 have j:=(au w (.cells #[.slice r1 c.length c1,.slice n1 b.length g] 60)).alloc Z (.cells #[.slice f c.length c2,.slice d b.length i] 60)
 have k0:((w.alloc (.cells #[.slice r1 c.length c1,.slice n1 b.length g] 60)).alloc (.cells #[.slice f c.length c2,.slice d b.length i] 60)).cell? (aq w.heap.size 1)=some (.slice n1 b.length g):=by simp[go_sem]
 have k1:((w.alloc (.cells #[.slice r1 c.length c1,.slice n1 b.length g] 60)).alloc (.cells #[.slice f c.length c2,.slice d b.length i] 60)).cell? (aq (w.heap.size+1) 1)=some (.slice d b.length i):=by simp[go_sem]
 have u:((w.alloc (.cells #[.slice r1 c.length c1,.slice n1 b.length g] 60)).alloc (.cells #[.slice f c.length c2,.slice d b.length i] 60)).heap.size=w.heap.size+2:=Z;have P:=wE r1 f c1 c2 c _ hm (o.below j) (q.below j)
 have m:ay (∀w',aw w w'->_):=fun w' hb=>CJ n1 d g i b w' hl n (s.below hb) (t.below hb)
 go_enter func30,ntmps30;go_wp2_with fail;refine P.mono ?_;rintro e w1 ⟨rfl,k⟩
 have l:=j.trans (k.mono V)
 have A:=(k.cell (p:=aq w.heap.size 1) (by show w.heap.size<_;omega)).trans k0;have B:=(k.cell (p:=aq (w.heap.size+1) 1) (by show w.heap.size+1<_;omega)).trans k1;have v:=m.out w1 l;clear j k0 k1 u k m;go_wp2_with fail;refine v.mono ?_;rintro e C ⟨rfl,x⟩
 go_wp2_with fail;go_ret;exact⟨rfl,(l.trans (x.mono l.size))⟩
theorem CK (r1 b n1 c:Option Addr)(m n p q c1 c2 d f:Nat)(w:ax)(h:m≠n):
 Calls prog 30 #[.agg #[.slice r1 m c1,.slice n1 p d],.agg #[.slice b n c2,.slice c q f]] w fun e w'=>e=.returned (.bool false)/\aw w w':=by
 have i:((w.alloc (.cells #[.slice r1 m c1,.slice n1 p d] 60)).alloc (.cells #[.slice b n c2,.slice c q f] 60)).heap.size=w.heap.size+2:=Z;go_enter func30,ntmps30;go_wp2_with fail;refine(CG r1 b m n c1 c2 _ h).mono ?_;rintro e w1 ⟨rfl,g⟩
 go_wp2;go_ret;exact⟨rfl,(((au w _).alloc Z _).trans (g.mono V))⟩
open Go.RowKit W
def B1:List Int:=fC (List.replicate 24 0) 0 33 2
def B2:List Int:=fC B1 3 194 12
theorem e16:gg 16 16 0 0=16:=by decide+kernel
theorem CL (ws:List Int)(y:Nat)(hd:Int)(k:Nat):(fC ws y hd k).length=ws.length:=by
 induction k with
 |zero=>simp[fC]
 |succ k b=>simp[fC,b]
theorem j_ (l:List Int)(i j:Nat)(x:Int)(h:i<l.length):(l.set i x).getD j 0=if i=j then x else l.getD j 0:=by
 rw[aE,aE,List.getElem?_set];split
 ·rename_i e;subst e;simp
 ·rfl
theorem k8 (ws:List Int)(y:Nat)(hd:Int)(k i:Nat)(h:y+k<ws.length):(fC ws y hd k).getD i 0=if i=y then hd else if y+1<=i/\i<y+1+k then 2 else ws.getD i 0:=by
 induction k with
 |zero=>
  rw[fC,j_ _ _ _ _ V];by_cases e:y=i
  ·rw[aI e,aI e.symm]
  ·rw[aG e,aG (fun c=>e c.symm),aG V]
 |succ k f=>
  rw[fC,j_ _ _ _ _ (by rw[CL];omega),f V];by_cases e:y+1+k=i
  ·rw[aI e,aG V,aI V]
  ·rw[aG e];by_cases b:i=y
   ·rw[aI b,aI b]
   ·rw[aG b,aG b];by_cases d:y+1<=i/\i<y+1+k
    ·rw[aI d,aI V]
    ·rw[aG d,aG V]
theorem CM (y f:Nat):hB 0 ((y+1+f:Nat):Int) y=true:=by simp[hB];omega
theorem wG {N y g:Nat}{ws:List Int}(hd:Int)(f:Nat)(h:y+f<ws.length):ld N (y+1+f) g (fC ws y hd f) y=hd:=by
 have hi:dd N (y+1+f) g y=true:=by unfold dd;rw[CM];rfl
 unfold ld;rw[aI hi,Int.toNat_natCast,k8 _ _ _ _ _ h,aI rfl]
def iK (N y:Nat)(k f:Int):Bool:=decide (hc k f=0/\f+1<=(N:Int)-y)
def iu (N O y g:Nat)(ws:List Int)(a:Int):Bool:=decide (pc (ld N y g ws a)=0/\1+pf (ld N y g ws a)<=gg N y g a-a/\1+pf (ld N y g ws a)<=(O:Int)-g)
theorem oQ {N y:Nat}{k f:Int}(h:iK N y k f=true):hc k f=0/\f+1<=(N:Int)-y:=by simpa[iK] using h
theorem CN {N y:Nat}{k f:Int}(h:iK N y k f=false):hc k f≠0\/(N:Int)-y<f+1:=by
 have:¬(hc k f=0/\f+1<=(N:Int)-y):=by simpa[iK] using h
 by_cases c:hc k f=0
 ·exact aJ V
 ·exact aK c
theorem nV {N O y g:Nat}{ws:List Int}{a:Int}(h:iu N O y g ws a=true):pc (ld N y g ws a)=0/\1+pf (ld N y g ws a)<=gg N y g a-a/\1+pf (ld N y g ws a)<=(O:Int)-g:=by simpa[iu] using h
theorem CO {N O y g:Nat}{ws:List Int}{a:Int}(h:iu N O y g ws a=false):pc (ld N y g ws a)≠0\/gg N y g a-a<1+pf (ld N y g ws a)\/(O:Int)-g<1+pf (ld N y g ws a):=by
 have:¬(pc (ld N y g ws a)=0/\1+pf (ld N y g ws a)<=gg N y g a-a/\1+pf (ld N y g ws a)<=(O:Int)-g):=by simpa[iu] using h
 by_cases c:pc (ld N y g ws a)=0
 ·exact aJ V
 ·exact aK c
def oR (N y:Nat)(k f:Int):Int:=if iK N y k f=true then(y:Int) else-1
def iW (N y:Nat)(k f:Int):Nat:=if iK N y k f=true then y+1+f.toNat else y
def fq (N y:Nat)(k f:Int)(ws:List Int):List Int:=if iK N y k f=true then fC ws y (hw k f) f.toNat else ws
def mN (N O y g:Nat)(ws:List Int)(a:Int):Int:=if iu N O y g ws a=true then((N+g:Nat):Int) else-1
def jL (N O y g:Nat)(ws:List Int)(a:Int):Nat:=if iu N O y g ws a=true then g+(1+(pf (ld N y g ws a)).toNat) else g
def jM (N O y g:Nat)(ws:List Int)(a:Int):List Int:=if iu N O y g ws a=true then splice ws (N+g) ((ws.drop a.toNat).take (1+(pf (ld N y g ws a)).toNat)) else ws
theorem CP {p q N O y g:Nat}{ws:List Int}(k f:Int)(w:ax)(h:At w p q N O y g ws):
 Calls prog 41 #[aj p,ah k,ah f] w fun e w'=>e=.returned (ah (oR N y k f))/\At w' p q N O (iW N y k f) g (fq N y k f ws)/\c_ p q w w':=by
 unfold oR iW fq;cases hb:iK N y k f
 ·rw[aG Z,aG Z,aG Z];exact(Co k f w h (CN hb)).mono fun e w' b=>⟨b.1,h.below b.2 bW,c_.of b.2⟩
 ·exact Cn k f w h (oQ hb).1 (oQ hb).2
theorem wH {p q N O y g:Nat}{ws:List Int}(a:Int)(w:ax)(h:At w p q N O y g ws):
 Calls prog 165 #[aj p,ah a] w fun e w'=>e=.returned (ah (mN N O y g ws a))/\At w' p q N O y (jL N O y g ws a) (jM N O y g ws a)/\c_ p q w w':=by
 unfold mN jL jM;cases hb:iu N O y g ws a
 ·rw[aG Z,aG Z,aG Z];exact(Cy a w h (CO hb)).mono fun e w' b=>⟨b.1,h.below b.2 bW,c_.of b.2⟩
 ·exact Cx a w h (nV hb).1 (nV hb).2.1 (nV hb).2.2
open Go.ChangeShapes Go.WideShapes Go.ChangeAt Go.RowKit Go.Joins Go.Deep W cf
section
variable {P:Program}(w:ax)
theorem CQ (base:Nat)(t ty e:TypeId)(i:TypeInfo)(z:Value)(size bytes:Nat)(ht:P.underlying t=some (.slice e))(hi:P.info? e=some i)(hz:i.zero=some z)
 (p:i.size=size)(q:i.bytes=bytes)(s:z.cells.size=size)(u:0<size)
 (v:Value)(n:Nat)(g:List Value)(k:w.ownsRow base e size v n g)
 (ad:Option Addr)(m c:Nat)(f:List Value)(hl:f.length=m*size)(x:ad=none->m=0/\c=0)(A:∀a,ad=some a->∀j l,f[j]?=some l->w.cell? (a.add j)=some l)(B:∀l∈f,l.oneCell'=true)
 (C:n+m<=maxLen)(D:(n+m)*bytes<=140737488355328)(E:base<=w.heap.size):
 ∃b d w',(Builtin.append_ #[t,t] ty #[v,.slice ad m c]).run P w=.ok (.slice b (n+m) d) w'/\w'.ownsRow base e size (.slice b (n+m) d) (n+m) (g++f)/\w.grownBy w' v.ownBlock/\((Value.slice b (n+m) d).ownBlock=v.ownBlock\/(Value.slice b (n+m) d).ownBlock=some w.heap.size):=by
 cases ad with
 |some a=>
  obtain⟨H,w',hr,o,F,_,G⟩:=run_append_own_at (P:=P) w base t ty e i z size bytes ht hi hz p q s u v n g k a m c f hl (A a rfl) B C D E;obtain⟨b,d,rfl⟩:=eE o;exact⟨b,d,w',hr,o,F,G⟩
 |none=>
  obtain⟨rfl,rfl⟩:=x rfl;have hn:=List.eq_nil_of_length_eq_zero (by simpa using hl)
  subst hn;have hr:=run_append_owned_none (P:=P) w base t ty e i size ht hi v n g k;obtain⟨b,d,rfl⟩:=eE k;exact⟨b,d,w,hr,by simpa using k,⟨rfl,rfl,rfl,aD _,fun _ _ _=>rfl⟩,aK rfl⟩
theorem CR {o:Oper}{a:Act}{K:Act->ax->Prop}{Q:Exit->Act->ax->Prop}(s x:Operand)(t:TypeId)
 (ho:o.op=.call {callee:=.builtin .append,args:=#[s,x],argTypes:=#[t,t]})
 (base:Nat)(e:TypeId)(i:TypeInfo)(z:Value)(size bytes:Nat)(ht:P.underlying t=some (.slice e))(hi:P.info? e=some i)(hz:i.zero=some z)
 (l:i.size=size)(p:i.bytes=bytes)(q:z.cells.size=size)(u:0<size)
 (v:Value)(n:Nat)(k:List Value)(hs:a.eval s=v)(A:w.ownsRow base e size v n k)
 (ad:Option Addr)(m c:Nat)(f:List Value)(B:a.eval x=.slice ad m c)(hl:f.length=m*size)(C:ad=none->m=0/\c=0)(D:∀a,ad=some a->∀j g,f[j]?=some g->w.cell? (a.add j)=some g)(E:∀g∈f,g.oneCell'=true)
 (F:n+m<=maxLen)(G:(n+m)*bytes<=140737488355328)(H:base<=w.heap.size)
 (h:∀b d w',w'.ownsRow base e size (.slice b (n+m) d) (n+m) (k++f)->w.grownBy w' v.ownBlock->((Value.slice b (n+m) d).ownBlock=v.ownBlock\/(Value.slice b (n+m) d).ownBlock=some w.heap.size)->K (a.put o.dst (.slice b (n+m) d)) w'):o.wp P a w K Q:=by
 obtain⟨b,d,w',hr,I,J,L⟩:=CQ (P:=P) w base t o.type e i z size bytes ht hi hz l p q u v n k A ad m c f hl C D E F G H;unfold Oper.wp execOp;simp only [ho,resolve,invoke,builtin,Sem.run_bind,Sem.run_pure,Result.andThen_ok,List.map_toArray,List.map_cons,List.map_nil,hs,B,hr];exact h b d w' I J L
theorem wJ {ops:Array Oper}{l:List Oper}{o:Oper}{a:Act}{Q:Exit->Act->ax->Prop}(p:o.guard=none)(s x:Operand)(t:TypeId)
 (ho:o.op=.call {callee:=.builtin .append,args:=#[s,x],argTypes:=#[t,t]})
 (base:Nat)(e:TypeId)(i:TypeInfo)(z:Value)(size bytes:Nat)(ht:P.underlying t=some (.slice e))(hi:P.info? e=some i)(hz:i.zero=some z)
 (q:i.size=size)(u:i.bytes=bytes)(A:z.cells.size=size)(B:0<size)
 (v:Value)(n:Nat)(k:List Value)(hs:a.eval s=v)(C:w.ownsRow base e size v n k)
 (ad:Option Addr)(m c:Nat)(f:List Value)(D:a.eval x=.slice ad m c)(hl:f.length=m*size)(E:ad=none->m=0/\c=0)(F:∀a,ad=some a->∀j g,f[j]?=some g->w.cell? (a.add j)=some g)(G:∀g∈f,g.oneCell'=true)
 (H:n+m<=maxLen)(I:(n+m)*bytes<=140737488355328)(J:base<=w.heap.size)
 (h:∀b d w',w'.ownsRow base e size (.slice b (n+m) d) (n+m) (k++f)->w.grownBy w' v.ownBlock->((Value.slice b (n+m) d).ownBlock=v.ownBlock\/(Value.slice b (n+m) d).ownBlock=some w.heap.size)->wpList P ops Q l (a.put o.dst (.slice b (n+m) d)) w'):wpList P ops Q (o::l) a w:=
 wpList_plain p fun _ K=>CR w s x t ho base e i z size bytes ht hi hz q u A B v n k hs C ad m c f D hl E F G H I J fun b d w' L M N=>K _ _ (h b d w' L M N)
end
theorem iJ.below {w w':ax}{ad:Option Addr}{l:List Int}(h:iJ w ad l)(hb:aw w w'):iJ w' ad l:=
 h.keep hb.size (fun hp z e=>by obtain⟨b,o,c,d,_⟩:=h hp;rw[e] at c;cases c;exact hb.block _ d)
theorem CS (w:ax)(ad:Option Addr)(l:List Int)(cap:Nat)(v:Int)(h:iJ w ad l)(hm:l.length<=100000):
 Calls prog 225 #[.slice ad l.length cap,ah v] w fun e w'=>∃a:Int,e=.returned (ah a)/\decide (0<=a)=l.contains v/\aw w w':=by
 go_enter func225,ntmps225;go_wp2_with fail
 go_loopw [8] (fun iv wr=>∃j:Nat,j<=l.length/\iv=ah j/\ay (∀i,i<j->¬l.getD i 0=v)/\aw w wr) (fun iv _=>l.length-(intOf iv).toNat)
 exact⟨0,aZ _,rfl,fun i h=>V,aH _ _⟩
 ·
   obtain⟨j,n,rfl,d,hb⟩:=hrel;by_cases f:j<l.length
   ·obtain⟨o,p,k,q,hc⟩:=(hide h).out.below hb V;have g:=hc j f;subst k;by_cases hv:l.getD j 0=v
    ·have b:l.contains v=true:=by rw[List.contains_iff_mem,<-hv,aE,aL f];exact a6 _
     rw[hv] at g;clear hc;go_wp2;go_ret;exact⟨j,rfl,by rw[b];simp,hb⟩
    ·have m:ay (∀i,i<j+1->¬l.getD i 0=v):=fun i hi=>by
      by_cases c:i=j
      ·rw[c];exact hv
      ·exact d.out i V
     generalize l.getD j 0=s at g hv;clear hc;go_wp2;go_roundw;exact⟨j+1,V,af,m,hb⟩
     simp[intOf];omega
   ·obtain rfl:j=l.length:=V;have b:l.contains v=false:=by rw[Bool.eq_false_iff];intro hc;rw[List.contains_iff_mem] at hc;obtain⟨i,hi,e⟩:=List.mem_iff_getElem.1 hc;exact d.out i hi (by simp[List.getElem?_eq_getElem hi,e])
    go_wp2;go_ret;exact⟨-1,rfl,by rw[b];rfl,hb⟩
theorem wK (w:ax)(ad:Option Addr)(l:List Int)(cap:Nat)(v:Int)(h:iJ w ad l)(hm:l.length<=100000):
 Calls prog 177 #[.slice ad l.length cap,ah v] w fun e w'=>e=.returned (.bool (l.contains v))/\aw w w':=by
 go_enter func177,ntmps177;go_wp2_with fail;refine(CS w ad l cap v h hm).mono ?_;rintro e w1 ⟨a,rfl,ha,b⟩
 have c:=hide ha;clear ha;go_wp2;go_ret;exact⟨by rw[<-c.out];rfl,b⟩
def tB (N y g:Nat)(ws:List Int)(x:Int):Bool:=cY x&&((ei N y g ws).contains (cg x)||(dD N y g ws).contains (cg x))
def jN (N y g:Nat)(ws:List Int)(x:Int):Int:=if tB N y g ws x=true then cg x else 0
theorem aQ (w:ax)(a:Addr){u:Value}(h:w.cell? a = some u):a.block < w.heap.size:=by intros;apply World.block_lt_of_cell?<;>assumption
theorem CT {pw p q N O y g:Nat}{ws:List Int}(x:Int)(w:ax)(hc:w.cell? (aq pw 0)=some (aj p))(h:At w p q N O y g ws)(l:(ei N y g ws).length<=100000)(hO:(dD N y g ws).length<=100000):
 Calls prog 101 #[aj pw,ah x] w fun e w'=>e=.returned (.tuple #[ah (jN N y g ws x),.bool (tB N y g ws x)])/\aw w w':=by
 have m:=hide h;have it:=aQ w _ hc;have P:=nM x w;cases ha:cY x
 ·have c:tB N y g ws x=false:=by simp[tB,ha]
  have d:jN N y g ws x=0:=by simp[jN,c]
  rw[c,d];rw[ha] at P;go_enter func101,ntmps101;go_wp2_with fail;refine P.mono ?_;exact oK
 ·rw[ha] at P;have c:tB N y g ws x=((ei N y g ws).contains (cg x)||(dD N y g ws).contains (cg x)):=by simp[tB,ha]
  have d:jN N y g ws x=if((ei N y g ws).contains (cg x)||(dD N y g ws).contains (cg x))=true then cg x else 0:=by unfold jN;rw[c]
  rw[c,d];generalize cg x=v at P;obtain⟨c1,f⟩:∃b,(ei N y g ws).contains v=b:=⟨_,rfl⟩
  obtain⟨c2,i⟩:∃b,(dD N y g ws).contains v=b:=⟨_,rfl⟩
  rw[f,i];have n:=hide f;have o:=hide i;have K:∀w1,aw w w1->Calls prog 129 #[aj p] w1 fun e w'=>∃d1 f1 d2 f2,e=.returned (.tuple #[.slice d1 (ei N y g ws).length f1,.slice d2 (dD N y g ws).length f2])/\ay (∀w3,aw w' w3->Calls prog 177 #[.slice d1 (ei N y g ws).length f1,ah v] w3 fun e w4=>e=.returned (.bool c1)/\aw w3 w4)/\ay (∀w3,aw w' w3->Calls prog 177 #[.slice d2 (dD N y g ws).length f2,ah v] w3 fun e w4=>e=.returned (.bool c2)/\aw w3 w4)/\aw w1 w':=fun w1 hb1=>by
   refine(p4 w1 (m.out.below hb1 bW)).mono ?_;rintro e w2 ⟨v1,v2,rfl,j,k,hb2⟩
   obtain⟨d1,f1,rfl⟩:=eE j;obtain⟨d2,f2,rfl⟩:=eE k;refine⟨d1,f1,d2,f2,rfl,fun w3 hb3=>?_,fun w3 hb3=>?_,hb2⟩
   ·rw[<-n.out];exact wK w3 d1 (ei N y g ws) f1 v ((gH j).below hb3) l
   ·rw[<-o.out];exact wK w3 d2 (dD N y g ws) f2 v ((gH k).below hb3) hO
  have HK:=hide K;cases c1
  ·cases c2
   ·simp only [Bool.or_self,Bool.false_eq_true,if_false];exact wA
   ·simp only [Bool.false_or,if_true];exact wA
  ·simp only [Bool.true_or,if_true];go_enter func101,ntmps101;go_wp2_with fail;refine P.mono ?_;rintro e w1 ⟨rfl,hb1⟩
   have y1:=(hb1.cell (p:=aq pw 0) it).trans hc;go_wp2_with fail;refine(HK.out w1 hb1).mono ?_;rintro e w2 ⟨d1,f1,d2,f2,rfl,L1,L2,hb2⟩
   have ed:=hb1.trans (hb2.mono hb1.size)
   go_wp2_with fail;refine(L1.out w2 bX).mono ?_;rintro e w3 ⟨rfl,hb3⟩
   have jK:=ed.trans (hb3.mono ed.size)
   go_wp2_with fail;go_ret2;exact⟨rfl,jK⟩
theorem bz {α:Type _}{a:α}{«as»:List α}:(a :: «as»).length = «as».length + 1:=List.length_cons ..
theorem iL {N y g:Nat}{ws:List Int}{hi:Int}:∀(k:Nat)(a:Int),(eA N y g ws hi k a).length<=k
 |0,_=>by simp[eA]
 |k+1,a=>by
  have b:=iL (N:=N) (y:=y) (g:=g) (ws:=ws) (hi:=hi) k (a+(1+pf (ld N y g ws a)))
  unfold eA;split
  ·split
   ·rw[bz];omega
   ·simp
  ·simp
section
variable {pw p q N O y g:Nat}{ws:List Int}
theorem wL (x:Int)(w:ax)(hc:w.cell? (aq pw 0)=some (aj p))(h:At w p q N O y g ws):
 Calls prog 101 #[aj pw,ah x] w fun e w'=>e=.returned (.tuple #[ah (jN N y g ws x),.bool (tB N y g ws x)])/\aw w w':=
 CT x w hc h (aT (iL _ _) aa) (aT (iL _ _) aa)
theorem CU (x:Int)(w:ax)(hc:w.cell? (aq pw 0)=some (aj p))(h:At w p q N O y g ws):
 Calls prog 48 #[aj pw,ah x] w fun e w'=>e=.returned (.tuple #[ah (if tB N y g ws x=true then pk (ld N y g ws (cg x)) else 0),ah (if tB N y g ws x=true then pf (ld N y g ws (cg x)) else 0),ah (if tB N y g ws x=true then pc (ld N y g ws (cg x)) else 2)])/\aw w w':=by
 have c:=hide h;have d:=aQ w _ hc;have P:=wL x w hc h;cases ht:tB N y g ws x
 ·rw[ht] at P;simp only [Bool.false_eq_true,if_false];generalize jN N y g ws x=v at P;go_enter func48,ntmps48;go_wp2_with fail;refine P.mono ?_;rintro e w1 ⟨rfl,b⟩
  go_wp2_with fail
  go_ret3
  exact⟨rfl,b⟩
 ·rw[ht] at P;have ev:jN N y g ws x=cg x:=by simp[jN,ht]
  rw[ev] at P;simp only [if_true];generalize cg x=v at P;go_enter func48,ntmps48;go_wp2_with fail;refine P.mono ?_;rintro e w1 ⟨rfl,b⟩
  have y1:=(b.cell (p:=aq pw 0) d).trans hc;go_wp2_with fail;refine(gd v w1 (c.out.below b bW)).mono ?_;rintro e j ⟨rfl,f⟩
  have i:=b.trans (f.mono b.size)
  go_wp2_with fail
  go_ret3
  exact⟨rfl,i⟩
def iw (N y g:Nat)(a f:Int):Int:=min f ((if hB N g a=true then(N:Int)+g else(y:Int))-a-1)
theorem wM (a f:Int)(w:ax)(hc:w.cell? (aq pw 0)=some (aj p))(h:At w p q N O y g ws)(a0:0<=a)(a1:a<=100000):
 Calls prog 171 #[aj pw,ah a,ah f] w fun e w'=>e=.returned (ah (iw N y g a f))/\aw w w':=by
 have HA:ay (At w p q N O y g ws):=h;have it:=aQ w _ hc;have k1:=h.hN';have c:=h.hy;have d:=h.hO;have i:=h.hg;clear h;unfold iw;cases ho:hB N g a
 ·simp only [Bool.false_eq_true,if_false];by_cases hm:f<=(y:Int)-a-1
  ·rw[Int.min_eq_left hm];have b:¬((y:Int)-a-1<f):=V;go_enter func171,ntmps171;go_wp2_with fail;refine(kD w HA.out).mono ?_;rintro e w1 ⟨rfl,hb1⟩
   have y1:=(hb1.cell (p:=aq pw 0) it).trans hc;go_wp2_with fail;refine(mM w1 (HA.out.below hb1 bW)).mono ?_;rintro e w2 ⟨rfl,hb2⟩
   have ed:=hb1.trans (hb2.mono hb1.size)
   have y2:=(ed.cell (p:=aq pw 0) it).trans hc;clear y1;have P:=mL a w2 (HA.out.below ed bW)
   rw[ho] at P;go_wp2_with fail;refine P.mono ?_;clear P;rintro e w3 ⟨rfl,hb3⟩
   have jK:=ed.trans (hb3.mono ed.size)
   clear y2 hb1 hb2 ed hb3;go_wp2_with fail;go_ret;exact⟨rfl,jK⟩
  ·rw[Int.min_eq_right V];have b:(y:Int)-a-1<f:=V;go_enter func171,ntmps171;go_wp2_with fail;refine(kD w HA.out).mono ?_;rintro e w1 ⟨rfl,hb1⟩
   have y1:=(hb1.cell (p:=aq pw 0) it).trans hc;go_wp2_with fail;refine(mM w1 (HA.out.below hb1 bW)).mono ?_;rintro e w2 ⟨rfl,hb2⟩
   have ed:=hb1.trans (hb2.mono hb1.size)
   have y2:=(ed.cell (p:=aq pw 0) it).trans hc;clear y1;have P:=mL a w2 (HA.out.below ed bW)
   rw[ho] at P;go_wp2_with fail;refine P.mono ?_;rintro e w3 ⟨rfl,hb3⟩
   have jK:=ed.trans (hb3.mono ed.size)
   go_wp2_with fail;go_ret;exact⟨rfl,jK⟩
 ·simp only [if_true];by_cases hm:f<=(N:Int)+g-a-1
  ·rw[Int.min_eq_left hm];have b:¬((N:Int)+g-a-1<f):=V;exact wz
  ·rw[Int.min_eq_right V];exact wz
end
end Go.Proofs.YtpkjkjhanlbcoaaGreat
