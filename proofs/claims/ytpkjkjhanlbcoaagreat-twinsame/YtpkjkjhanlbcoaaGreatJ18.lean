import Derived.Test.YtpkjkjhanlbcoaaGreatJ17
namespace Go.Proofs.YtpkjkjhanlbcoaaGreat
set_option maxRecDepth 100000
set_option maxHeartbeats 2000000
open Tryz
open Go.RowKit W Kp cf
theorem tx {P:Prop}(h:P:=by
 rcases hb with hb|hb
 ·exact(hT.sub b hb).imp (fun d=>(g4 b).2 (aK d)) id
 ·exact aK ((g4 b).2 (aJ hb))):P:=h
theorem yf (z:Value)(n:Nat)(hz:z.cells.size=1):(Builtin.zeroCells z.cells n).size=n*1:=by rw[size_zeroCells,hz]
theorem yh (l:List Int):∀b∈l.map (Value.int .i64),b.oneCell'=true:=fun b c=>by obtain⟨x,_,rfl⟩:=List.mem_map.1 c;rfl
theorem yi {w:ax}{base:Nat}{e:TypeId}{ad:Option Addr}{cap:Nat}{l:List Int}(h:w.ownsRow base e 1 (.slice ad l.length cap) l.length (l.map (Value.int .i64))):∀a,ad=some a->∀j c,(l.map (Value.int .i64))[j]?=some c->w.cell? (a.add j)=some c:=fun a ea j c d=>by
 have f:j<l.length:=by have:=(List.getElem?_eq_some_iff.1 d).1;simpa using this
 obtain⟨b,o,g,_,hc⟩:=gH h V;rw[ea] at g;cases g;rw[List.getElem?_map,aL f] at d;have i:(⟨b,o,none⟩:Addr).add j=⟨b,o+j,none⟩:=by simp[Addr.add]
 rw[i,(hc j f),<-d];simp[List.getD_eq_getElem?_getD,List.getElem?_eq_getElem f]
theorem Fk (w:ax)(n:Nat)(hn:n<=100000):
 Calls prog 242 #[.slice none 0 0,ah n] w fun e w'=>∃a1 c1,e=.returned (.slice a1 0 c1)/\w'.ownsRow w.heap.size 3 1 (.slice a1 0 c1) 0 []/\aw w w':=by
 obtain⟨c,hi,d,f,i⟩:=info_parts kE;rcases Nat.eq_zero_or_pos n with h0|h0
 ·subst h0;go_enter func242,ntmps242;go_wp2;go_ret;exact⟨none,0,rfl,bc _ _ _ _,aH _ _⟩
 ·have hr:=Lib.run_append_nil_zeros (P:=prog) w 74 3 74 3 c _ .i64 .i64 Tryz.underlying74 Tryz.underlying3 hi d n h0 (by rw[f];decide) V (by rw[i];omega)
  have j:=grownCap_ge w n 0 3;have b:=grownCap_le_maxLen w n 0 3 (by unfold maxLen;omega)
  generalize grownCap w n 0 3=g at hr j b;have hown:(w.drew.alloc (.cells (Builtin.zeroCells (Value.int .i64 0).cells n++Builtin.zeroCells (Value.int .i64 0).cells (g-n)) 3)).ownsRow w.heap.size 3 1 (.slice (some ⟨w.heap.size,0,none⟩) 0 g) 0 []:=
   World.ownsRow_made w.drew _ g bW b (by rw[Array.size_append,yf _ _ rfl,yf _ _ rfl];omega)
  have hb:aw w (w.drew.alloc (.cells (Builtin.zeroCells (Value.int .i64 0).cells n++Builtin.zeroCells (Value.int .i64 0).cells (g-n)) 3)):=(aH _ w).drew.alloc bW _;go_enter func242,ntmps242;exact wB
theorem yj (w:ax)(B:Nat)(l1 l2:List Int)(f g:Option Addr)(c1 c2:Nat)(s:w.cell? (aq B 0)=some (.slice f l1.length c1))(A:w.cell? (aq B 1)=some (.slice g l2.length c2))(C:w.ownsRow 0 3 1 (.slice f l1.length c1) l1.length (l1.map (Value.int .i64)))(D:w.ownsRow 0 3 1 (.slice g l2.length c2) l2.length (l2.map (Value.int .i64)))(hm:l1.length+l2.length<=100000):
 Calls prog 215 #[.slice (ak B) 2 2] w fun e w'=>∃a c,e=.returned (.slice a (l1.length+l2.length) c)/\w'.ownsRow w.heap.size 3 1 (.slice a (l1.length+l2.length) c) (l1.length+l2.length) ((l1++l2).map (Value.int .i64))/\aw w w':=by
 obtain⟨t,hi,u,v,x⟩:=info_parts kE;have i:=hide C;have j:=hide D;have hB:=aQ w _ s;go_enter func215,ntmps215;go_wp2
 go_loopw [3,11] (fun l iv wr=>wr=w/\((iv=ah 0/\l=ah 0)\/(iv=ah 1/\l=ah l1.length)\/(iv=ah 2/\l=ah (l1.length+l2.length:Nat)))) (fun _ iv _=>2-(intOf iv).toNat)
 exact⟨rfl,aK ⟨rfl,rfl⟩⟩
 ·
   obtain⟨hw,⟨rfl,rfl⟩|⟨rfl,rfl⟩|⟨rfl,rfl⟩⟩:=hrel
   all_goals
    have hw:=hw.symm;subst hw
   ·go_wp2;go_roundw;exact⟨trivial,aJ (aK ⟨af,af⟩)⟩
    simp[intOf]
   ·go_wp2;go_roundw;exact⟨trivial,aJ (aJ ⟨af,af⟩)⟩
    simp[intOf]
   ·go_wp2_with fail;refine(Fk w (l1.length+l2.length) hm).mono ?_;rintro e w1 ⟨a1,E,rfl,b,hb⟩
    go_wp2
    go_loopw [6,27] (fun m iv wk=>aw w wk/\((∃a c,iv=ah 0/\m=.slice a 0 c/\wk.ownsRow w.heap.size 3 1 (.slice a 0 c) 0 [])\/(∃a c,iv=ah 1/\m=.slice a l1.length c/\wk.ownsRow w.heap.size 3 1 (.slice a l1.length c) l1.length (l1.map (Value.int .i64)))\/(∃a c,iv=ah 2/\m=.slice a (l1.length+l2.length) c/\wk.ownsRow w.heap.size 3 1 (.slice a (l1.length+l2.length) c) (l1.length+l2.length) ((l1++l2).map (Value.int .i64))))) (fun _ iv _=>2-(intOf iv).toNat)
    exact⟨hb,aK ⟨a1,E,rfl,rfl,b⟩⟩
    ·
      obtain⟨hb,⟨a,c,rfl,rfl,b⟩|⟨a,c,rfl,rfl,b⟩|⟨a,c,rfl,rfl,b⟩⟩:=hrel
      ·have F:=(hb.cell (p:=aq B 0) hB).trans s;have hs:=hb.size;go_wp2_with (at_builtin;refine wJ _ rfl _ _ 74 rfl w.heap.size 3 t (ah 0) 1 8 Tryz.underlying74 hi u v x rfl aa (.slice a 0 c) 0 [] rfl b f l1.length c1 (l1.map (Value.int .i64)) rfl Z (x5 i.out) (yi (cH i.out (fun k e=>hb.block k (cn i.out k e).2))) (yh l1) ?_ ?_ hs ?_;(unfold maxLen;omega);omega;intro a2 n G d o _;rw[Nat.zero_add,List.nil_append] at d)
       have q:=hb.grown o hs (fun k e=>(cn b k e.symm).1)
       go_wp2;go_roundw;exact⟨q,aJ (aK ⟨a2,n,af,rfl,d⟩)⟩
       simp[intOf]
      ·have F:=(hb.cell (p:=aq B 1) hB).trans A;have hs:=hb.size;go_wp2_with (at_builtin;refine wJ _ rfl _ _ 74 rfl w.heap.size 3 t (ah 0) 1 8 Tryz.underlying74 hi u v x rfl aa (.slice a l1.length c) l1.length (l1.map (Value.int .i64)) rfl b g l2.length c2 (l2.map (Value.int .i64)) rfl Z (x5 j.out) (yi (cH j.out (fun k e=>hb.block k (cn j.out k e).2))) (yh l2) ?_ ?_ hs ?_;(unfold maxLen;omega);omega;intro a2 n G d o _;rw[<-List.map_append] at d)
       have q:=hb.grown o hs (fun k e=>(cn b k e.symm).1)
       go_wp2;go_roundw;exact⟨q,aJ (aJ ⟨a2,n,af,rfl,d⟩)⟩
       simp[intOf]
      ·go_wp2;go_ret;exact⟨a,c,rfl,b,hb⟩
section
variable {c:e8}{k:b9}{F:Nat->Prop}{s:cu}{w:ax}
theorem yk {vt b:Value}(h:(cT c k vt b).J F s w):w.ownsRow 0 3 1 c.yv k.Y.length (k.Y.map (Value.int .i64))/\w.ownsRow 0 3 1 c.ov k.G.length (k.G.map (Value.int .i64)):=by obtain⟨d,own,h,_⟩:=h;exact⟨h.yr,h.gr⟩
theorem yl (h:(eI c k).J F s w)(hl:k.T.length<=4000):
 Calls prog 141 #[aj c.pk] w fun e w'=>∃a i,e=.returned (.slice a k.T.length i)/\w'.ownsRow w.heap.size 3 1 (.slice a k.T.length i) k.T.length (k.T.map (Value.int .i64))/\aw w w':=by
 have v:k.T.length=k.G.length+k.Y.length:=by unfold b9.T;rw[aX]
 have x:ay (k.T.map (Value.int .i64)=(k.G++k.Y).map (Value.int .i64)):=rfl;rw[v] at hl⊢;rw[x.out];obtain⟨vt,D,h⟩:=h;obtain⟨_,n,o,_,_,_,_,_,lk⟩:=ey h;obtain⟨yr,gr⟩:=yk h;obtain⟨d,f,A⟩:=eE yr;obtain⟨g,gc,B⟩:=eE gr;rw[A] at n yr;rw[B] at o gr;have C:=au w.drew (.cells #[.slice g k.G.length gc,.slice d k.Y.length f] 74)
 have j:=(av w).drew.trans (C.mono bW)
 have q:=aN w.drew (.cells #[.slice g k.G.length gc,.slice d k.Y.length f] 74)
 have P:=yj (w.drew.alloc (.cells #[.slice g k.G.length gc,.slice d k.Y.length f] 74)) w.heap.size k.G k.Y g d gc f (by simp only [World.cell?];rw[show w.heap.size=w.drew.heap.size from rfl,q];rfl) (by simp only [World.cell?];rw[show w.heap.size=w.drew.heap.size from rfl,q];rfl) (cH gr (fun b e=>j.block b (cn gr b e).2)) (cH yr (fun b e=>j.block b (cn yr b e).2)) V;have l:=hide j;go_enter func141,ntmps141;go_wp2_with fail
 go_region_held3 (fun w'=>w'.cell? (aq c.pk 1)=some (.slice d k.Y.length f)/\w'.cell? (aq c.pk 2)=some (.slice g k.G.length gc)) (go_keep)
  (first
    |(go_at_call 215;refine P.mono ?_;rintro e E ⟨a,i,rfl,t,hb⟩;have m:=l.out.trans (hb.mono l.out.size);have y1:=(m.cell (p:=aq c.pk 1) lk).trans n;have G:=(m.cell (p:=aq c.pk 2) lk).trans o;have u:=dq (eT t (fun b e=>aT l.out.size (cn t b e).1)) m))
 go_wp2_with fail;go_ret;exact⟨a,i,rfl,u.out.1,u.out.2⟩
end
def e_ {b:Type}(fm:b->Int->Int)(st:b->Int->b)(t:b)(a:Int):b:=if fm t a=-1 then t else st t a
def gU {b:Type}(fm:b->Int->Int)(st:b->Int->b)(t:b)(l:List Int):b:=l.foldl (e_ fm st) t
theorem tz {g:Type}(o:dr g)(fm fd:g->Int->Int)(st:g->Int->g)(G:Nat->g->Prop)(T:List Int)(pk pw p ch f:Nat)(I:Array Value)(J:dN f)(l:List Int)(ad:Option Addr)(cap:Nat)(F:Nat->Prop)(t:g)(w:ax)
 (K:∀F t w a,o.J F t w->w.cell? (aq pk 0)=some (aj pw)/\w.cell? (aq pk 3)=some (.map (some ch))/\w.cell? (aq pw 0)=some (aj p)/\Mp w ch T (fm t)/\Calls prog 102 #[aj p,ah a] w fun r w'=>∃x z,r=.returned (.tuple #[ah x,ah (fd t a),ah z])/\aw w w')
 (M:∀t a,0<=fd t a/\fd t a<=12)(N:∀a∈l,(0<=a/\a<=100000)/\a∈T)(bi:l.length<=100000)
 (O:∀j F t w,j<l.length->G j t->o.J F t w->fm t (l.getD j 0)≠-1->Calls prog f (#[ah (l.getD j 0),ah (1+fd t (l.getD j 0))]++I) w fun r w'=>∃c,r=.returned (.tuple #[])/\o.J c (st t (l.getD j 0)) w'/\b8 F w c w')
 (P:∀j t,j<l.length->G j t->G (j+1) (e_ fm st t (l.getD j 0)))(h0:G 0 t)(e:o.J F t w)(Q:∀c B w',o.J c B w'->b8 F w c w'->iJ w' ad l):
 Calls prog 157 #[aj pk,.slice ad l.length cap,.func (.func f) #[] I] w fun r w'=>∃c,r=.returned (.tuple #[])/\o.J c (gU fm st t l) w'/\b8 F w c w'/\G l.length (gU fm st t l):=by
 have ai:ay (∀F t w a,o.J F t w->_):=K;have al:ay (∀j F t w,j<l.length->G j t->o.J F t w->fm t (l.getD j 0)≠-1->_):=O;have am:ay (∀j t,j<l.length->G j t->_):=P;have an:ay (∀c B w',o.J c B w'->b8 F w c w'->_):=Q;have ao:ay (_):=N;have ap:ay (∀t a,_):=M;have bl:∀(args:Array Value)(w:ax),_=_:=J;clear K O P Q N M J;go_enter func157,ntmps157;go_wp2_with fail
 go_loopw [13] (fun iv wr=>∃(j:Nat)(d:Nat->Prop)(b:g),j<=l.length/\iv=ah j/\ay (gU fm st t (l.take j)=b)/\ay (G j b)/\o.J d b wr/\b8 F w d wr) (fun iv _=>l.length-(intOf iv).toNat)
 case atStart=>exact⟨0,F,t,aZ _,rfl,rfl,h0,e,b8.refl _ _⟩
 case round=>
  clear h0 e;obtain⟨j,d,b,bn,rfl,C,E,e,s⟩:=hrel;by_cases i:j<l.length
  ·obtain⟨bo,bp,ar,br,hc⟩:=an.out d b wr e s V;have aB:=hc j i;subst ar;have R:l.getD j 0∈l:=by rw[aE,aL i];exact a6 i
   obtain⟨aF,S⟩:=ao.out _ R;have U:=je aF.1 V;have W:ay (gU fm st t (l.take (j+1))=e_ fm st b (l.getD j 0)):=by
    show _=_;rw[gx l j i 0];unfold gU;rw[List.foldl_append];have:=C.out;unfold gU at this
    rw[this];rfl
   have X:ay (_):=am.out j b i E.out;have k:=fun w h=>al.out j d b w i E.out h;obtain⟨aR,aV,a0,⟨D,o1,a1,Y⟩,L⟩:=ai.out d b wr (l.getD j 0) e;have u:=hide (Y _ S)
   have bs:=ap.out b (l.getD j 0)
   have A:ay (_/\_):=⟨e,s⟩
   have k:ay (∀w,o.J d b w->fm b (l.getD j 0)≠-1->_):=k;clear hc R S e s a1 Y;by_cases hw:fm b (l.getD j 0)=-1
   ·have n:ay (e_ fm st b (l.getD j 0)=b):=by show _=_;unfold e_;rw[aI hw]
    rw[hw] at u;clear k L;generalize l.getD j 0=a at*;go_wp2_with (at_lookup;refine wpList_lookup_own_int _ rfl _ _ 127 rfl 3 3 .i64 iN Tryz.underlying127 Tryz.underlying3 (lW _) ch T.length D rfl o1 _ _ rfl U ?_;intro z q H;obtain rfl:z=-1:=(by have:=q.symm.trans u.out;simpa using this);clear q H)
    clear aB aR aV a0 o1;go_roundw
    case rel=>exact⟨j+1,d,b,V,af,by show _=_;rw[W.out,n.out],by show G _ _;rw[<-n.out];exact X.out,A.out.1,A.out.2⟩
    case measure=>simp[intOf];omega
   ·have n:ay (e_ fm st b (l.getD j 0)=st b (l.getD j 0)):=by show _=_;unfold e_;rw[aG hw]
    have a2:ay (∀w,o.J d b w->_):=fun w h=>k.out w h hw;clear k;generalize l.getD j 0=a at*;generalize fm b a=v at*;generalize fd b a=m at*;generalize st b a=bb at*;go_wp2_with (at_lookup;refine wpList_lookup_own_int _ rfl _ _ 127 rfl 3 3 .i64 iN Tryz.underlying127 Tryz.underlying3 (lW _) ch T.length D rfl o1 _ _ rfl U ?_;intro z q H;obtain rfl:z=v:=(by have:=q.symm.trans u.out;simpa using this);clear q H u)
    refine L.mono ?_;rintro r w1 ⟨x,y,rfl,ab⟩
    go_wp2_with fail;refine(a2.out w1 (o.below A.out.1 ab)).mono ?_;rintro r bt ⟨bd,rfl,be,bg⟩
    have ag:=dq be ((A.out.2.below ab).trans bg)
    go_wp2_with fail;go_roundw;exact⟨j+1,bd,bb,V,af,by show _=_;rw[W.out,n.out],by show G _ _;rw[<-n.out];exact X.out,ag.out.1,ag.out.2⟩
    simp[intOf];omega
  ·obtain rfl:j=l.length:=V;rw[bu] at C;go_wp2_with fail;go_end0;rw[C.out];exact⟨d,rfl,e,s,E.out⟩
theorem ym {c:Type}(o:dr c)(fm fd:c->Int->Int)(st:c->Int->c)(G:Nat->c->Prop)(T:List Int)(pk pw p ch f:Nat)(g:Array Value)(n:dN f)(l:List Int)(ad:Option Addr)(cap:Nat)(F:Nat->Prop)(t:c)(w:ax)
 (q:∀F t w a,o.J F t w->w.cell? (aq pk 0)=some (aj pw)/\w.cell? (aq pk 3)=some (.map (some ch))/\w.cell? (aq pw 0)=some (aj p)/\Mp w ch T (fm t)/\Calls prog 102 #[aj p,ah a] w fun r w'=>∃x z,r=.returned (.tuple #[ah x,ah (fd t a),ah z])/\aw w w')
 (s:∀t a,0<=fd t a/\fd t a<=12)(u:∀a∈l,(0<=a/\a<=100000)/\a∈T)(v:l.length<=100000)
 (A:∀j F t w,j<l.length->G j t->o.J F t w->fm t (l.getD j 0)≠-1->Calls prog f (#[ah (l.getD j 0),ah (1+fd t (l.getD j 0))]++g) w fun r w'=>∃d,r=.returned (.tuple #[])/\o.J d (st t (l.getD j 0)) w'/\b8 F w d w')
 (B:∀j t,j<l.length->G j t->G (j+1) (e_ fm st t (l.getD j 0)))(h0:G 0 t)(C:o.J F t w)(i:iJ w ad l)(hn:0<l.length->∀z,ad=some z->¬F z.block):
 Calls prog 157 #[aj pk,.slice ad l.length cap,.func (.func f) #[] g] w fun r w'=>∃d,r=.returned (.tuple #[])/\o.J d (gU fm st t l) w'/\b8 F w d w'/\G l.length (gU fm st t l):=
 tz o fm fd st G T pk pw p ch f g n l ad cap F t w q s u v A B h0 C (fun d _ w' _ k=>i.keep k.fr.size (fun hp z e=>k.fr.block _ (by obtain⟨b,D,m,hb,_⟩:=i hp;rw[e] at m;cases m;exact hb) (hn hp z e)))
abbrev kl (n:Int):Obj:=.cells #[ah n] 3 (0,0)
def g_ {g:Type}(o:dr g)(d:Nat):dr (g×Int) where
 J F t w:=∃c,o.J c t.1 w/\w.heap[d]?=some (kl t.2)/\¬c d/\∀b,F b↔(c b\/b=d)
 lt:=by
  rintro F t w ⟨c,h,f,_,e⟩ b hb;rcases(e b).1 hb with hb|hb
  ·exact o.lt h b hb
  ·rw[hb];exact lt_of_some f
 keep:=by rintro F t w w' ⟨c,h,f,hn,e⟩ hs hk;exact⟨c,o.keep h hs (fun b hb=>hk b ((e b).2 (aK hb))),(hk d ((e d).2 (aJ rfl))).trans f,hn,e⟩
section
variable {gZ:Type}{o:dr gZ}{bx f3:Nat}{x:Obj}{F:Nat->Prop}{w:ax}
theorem gC {t:gZ}(h:(da o bx x).J F t w):∃e,o.J e t w/\w.heap[bx]?=some x/\bx<w.heap.size/\∀c f w1,o.J c f w1->b8 e w c w1->(da o bx x).J (fun b=>c b\/b=bx) f w1/\b8 F w (fun b=>c b\/b=bx) w1:=by
 obtain⟨e,h,g2,g3,g4⟩:=h;refine⟨e,h,g2,lt_of_some g2,fun c f w1 g hT=>⟨⟨c,g,(hT.fr.block bx (lt_of_some g2) g3).trans g2,fun d=>(hT.sub bx d).elim g3 (fun d=>by have:=lt_of_some g2;omega),fun b=>Iff.rfl⟩,⟨hT.fr.mono (fun b hb=>(g4 b).2 (aK hb)),fun b hb=>?_⟩⟩⟩
 exact tx
theorem ly {t:gZ×Int}(h:(g_ o f3).J F t w):∃e,o.J e t.1 w/\w.heap[f3]?=some (kl t.2)/\f3<w.heap.size/\∀c f w1,o.J c f w1->b8 e w c w1->(g_ o f3).J (fun b=>c b\/b=f3) (f,t.2) w1/\b8 F w (fun b=>c b\/b=f3) w1:=by
 obtain⟨e,h,g2,g3,g4⟩:=h;refine⟨e,h,g2,lt_of_some g2,fun c f w1 g hT=>⟨⟨c,g,(hT.fr.block f3 (lt_of_some g2) g3).trans g2,fun d=>(hT.sub f3 d).elim g3 (fun d=>by have:=lt_of_some g2;omega),fun b=>Iff.rfl⟩,⟨hT.fr.mono (fun b hb=>(g4 b).2 (aK hb)),fun b hb=>?_⟩⟩⟩
 exact tx
theorem n_ {t:gZ×Int}(h:(g_ o f3).J F t w):w.cell? (aq f3 0)=some (ah t.2)/\w.frozen? (aq f3 0)=false:=by obtain⟨b,h,g2,g3,g4⟩:=h;exact⟨by simp[World.cell?,g2],by simp[World.frozen?,g2]⟩
theorem yp {t:gZ×Int}(h:(g_ o f3).J F t w)(m:Int):(g_ o f3).J F (t.1,m) (w.setCell ⟨f3,0,none⟩ (.int .i64 m))/\b8 F w F (w.setCell ⟨f3,0,none⟩ (.int .i64 m)):=by
 obtain⟨c,h,g2,g3,g4⟩:=h;have fr:Fr (fun b=>b=f3) w (w.setCell ⟨f3,0,none⟩ (.int .i64 m)):=(Fr.refl _ w).set _ 0 _ rfl;refine⟨⟨c,o.keep h fr.size (fun b hb=>fr.block b (o.lt h b hb) (fun e=>g3 (by rw[<-e];exact hb))),?_,g3,g4⟩,⟨fr.mono (fun b e=>(g4 b).2 (aJ e)),fun _ d=>aK d⟩⟩
 simp only [World.setCell,Array.getElem?_modify,if_true,g2,Option.map_some];simp
end
section
variable {c:e8}{k:b9}{vt cr:Value}{F:Nat->Prop}{s:cu}{w:ax}
theorem Fl (h:(cT c k vt cr).J F s w):
 Calls prog 82 #[aj c.pk] w fun e w'=>e=.returned (ah k.a.O)/\aw w w':=by
 obtain⟨b,c0,_⟩:=gB h;obtain⟨l,_⟩:=ey h;have P:=kD w b;have g:=hide h;have k1:=b.hO;have m:=b.hg;clear h b;go_enter func82,ntmps82;go_wp2_with fail;refine P.mono ?_;rintro e w1 ⟨rfl,d⟩
 have f:=(cT c k vt cr).below g.out d;obtain⟨b,n,_⟩:=gB f;obtain⟨o,_⟩:=ey f;have P:=oO w1 b;go_wp2_with fail;refine P.mono ?_;rintro e p ⟨rfl,i⟩
 have j:=hide (d.trans (i.mono d.size))
 go_wp2_with fail;go_ret;exact⟨af,j.out⟩
theorem Fp {bp d:Nat}{n m a:Int}(h:(g_ (da (cT c k vt cr) bp (dl c)) d).J F (s,n) w)(ht:k.T.length<=4000)(ha:a∈k.T)(hp:0<=a/\a<=2000)(hn:0<=n/\n<=100000)(hm:0<=m/\m<=13):
 Calls prog 158 #[ah a,ah m,aj d,aj bp] w fun e w'=>∃j,e=.returned (.tuple #[])/\(g_ (da (cT c k vt cr) bp (dl c)) d).J j ({s with f:=gz s.f a n},n+m) w'/\b8 F w j w':=by
 obtain⟨q,_⟩:=n_ h;obtain⟨_,g,_⟩:=ly h;obtain⟨_,i,l,_⟩:=gC g;obtain⟨_,_,_,O,_⟩:=ey i;have l:w.cell? (aq bp 0)=some (aj c.pk):=by simp[World.cell?,l]
 clear g i;obtain⟨P,g,_,_,u⟩:=ly ((g_ (da (cT c k vt cr) bp (dl c)) d).below h (aH _ w).drew)
 obtain⟨Q,i,_,_,v⟩:=gC g;obtain⟨⟨D,o1,x,A⟩,hM⟩:=o9 i;obtain⟨B,R,C,E⟩:=o1.update (t:=127) (e:=3) iN Tryz.underlying127 (by unfold maxLen;omega) (je hp.1 V) (mX n (WalkArith.wf_i64 ⟨V,V⟩))
 obtain⟨G,H⟩:=hM B _ (Mp.put o1 x A ha C) ((Fr.refl _ w.drew).grown E (fun b e=>aK (by cases e;rfl)))
 obtain⟨I,J⟩:=v _ _ _ G H;obtain⟨o,K⟩:=u _ _ _ I J;obtain⟨L,S⟩:=n_ o;have p:ay (_/\_):=⟨o,(b8.of (aH _ w).drew).trans K⟩
 dsimp only at q L;go_enter func158,ntmps158;go_wp2
 go_region
 go_wp2;go_end0;obtain⟨M,N⟩:=yp p.out.1 (n+m)
 exact⟨_,rfl,M,p.out.2.trans N⟩
end
def b9.l6 (k:b9)(t:cu×Int)(a:Int):cu×Int:=({t.1 with f:=gz t.1.f a t.2},t.2+(1+pf (k.ld a)))
def b9.l7 (k:b9)(t:cu×Int)(l:List Int):cu×Int:=gU (fun t a=>t.1.f a) k.l6 t l
def b9.pl (k:b9)(s:cu):cu×Int:=k.l7 (s,k.a.N) k.T
section
variable {c:e8}{k:b9}{vt cr:Value}{F:Nat->Prop}{s:cu}{w:ax}
theorem Fq:dN 158:=f_ func158 ae rfl
theorem Fs {bp i:Nat}(h:(g_ (da (cT c k vt cr) bp (dl c)) i).J F (s,(k.a.N:Int)) w)(ht:k.T.length<=4000)(hp:∀a∈k.T,0<=a/\a<=2000)(hN:k.a.N<=2000){ad:Option Addr}{l B:Nat}(hr:w.ownsRow B 3 1 (.slice ad k.T.length l) k.T.length (k.T.map (Value.int .i64)))(hB:∀b,F b->b<B):
 Calls prog 157 #[aj c.pk,.slice ad k.T.length l,.func (.func 158) #[] #[aj i,aj bp]] w fun e w'=>∃g,e=.returned (.tuple #[])/\(g_ (da (cT c k vt cr) bp (dl c)) i).J g (k.pl s) w'/\b8 F w g w'/\0<=(k.pl s).2/\(k.pl s).2<=60000:=by
 have E:=ym _ (fun t a=>t.1.f a) (fun _ a=>pf (k.ld a)) k.l6 (fun j t=>0<=t.2/\t.2<=2000+13*(j:Int)) k.T c.pk k.a.pw k.a.p c.ch 158 #[.pointer _,.pointer _] Fq k.T ad l F (s,(k.a.N:Int)) w
  (by
    rintro F t o a p;obtain⟨_,f,_⟩:=ly p;obtain⟨_,d,_⟩:=gC f;obtain⟨c0,_,_,c3,_⟩:=ey d;obtain⟨q,c5,_⟩:=gB d;obtain⟨hM,_⟩:=o9 d;refine⟨c0,c3,c5,hM,(gd a o q).mono ?_⟩
    rintro r w' ⟨rfl,hb⟩
    exact⟨_,_,rfl,hb⟩)
  (fun t a=>dj _) (fun a ha=>⟨by have:=hp a ha;omega,ha⟩) V
  (by
    rintro j F t o m ⟨g1,g2⟩ u _;have hm:k.T.getD j 0∈k.T:=by rw[aE,aL m];exact a6 m
    have f:=hp _ hm;have d:=dj (k.ld (k.T.getD j 0))
    exact Fp (s:=t.1) (n:=t.2) u ht hm f ⟨g1,V⟩ V)
  (by
    rintro j t m ⟨g1,g2⟩
    have d:=dj (k.ld (k.T.getD j 0))
    unfold e_;split
    ·exact⟨g1,V⟩
    ·unfold b9.l6;exact⟨V,V⟩)
  ⟨V,V⟩ h (gH hr)
  (fun v z e hz=>by obtain⟨b,cap,x⟩:=eU hr v;cases x;cases e;have d:=(cn hr b rfl).1;have:=hB b hz;omega)
 refine E.mono ?_;rintro r w' ⟨g,rfl,f,d,A,C⟩
 exact⟨g,rfl,f,d,A,Int.le_trans C V⟩
theorem Ft (h:(cT c k vt cr).J F s w)(ht:k.T.length<=4000)(hp:∀a∈k.T,0<=a/\a<=2000):
 Calls prog 81 #[aj c.pk] w fun e w'=>∃f,e=.returned (ah ((k.pl s).2-k.a.N))/\(cT c k vt cr).J f (k.pl s).1 w'/\b8 F w f w':=by
 have D:=hide h;have m:=au w (dl c)
 have h0:=(cT c k vt cr).below h m;obtain⟨n,c0,_⟩:=gB h0;obtain⟨ap,_⟩:=ey h0;have P:=mM _ n;have n1:=n.hN';have E:=hide m;clear h h0 n m;go_enter func81,ntmps81;go_wp2_with fail;refine P.mono ?_;clear P;rintro e w1 ⟨rfl,G⟩
 have o:=(G.block _ Z).trans (aN _ _)
 have N:w1.cell? (aq w.heap.size 0)=some (aj c.pk):=by simp[World.cell?,o]
 have q:=(cT c k vt cr).lt D.out;have t:=lt_of_some o;have i:aw w1 (w1.alloc (kl k.a.N)):=au w1 _;have u:=E.out.trans (G.mono E.out.size)
 have H:=(cT c k vt cr).below ((cT c k vt cr).below D.out u) i;have O:(da (cT c k vt cr) w.heap.size (dl c)).J (fun b=>F b\/b=w.heap.size) s (w1.alloc (kl k.a.N)):=⟨F,H,(i.block _ t).trans o,fun d=>by have:=q _ d;omega,fun b=>Iff.rfl⟩
 have Q:(g_ (da (cT c k vt cr) w.heap.size (dl c)) w1.heap.size).J (fun b=>(F b\/b=w.heap.size)\/b=w1.heap.size) (s,(k.a.N:Int)) (w1.alloc (kl k.a.N)):=⟨_,O,aN _ _,fun d=>d.elim (fun d=>by have:=q _ d;omega) (fun d=>by omega),fun b=>Iff.rfl⟩
 have hd:=(aH (w1.alloc (kl k.a.N)).heap.size (w1.alloc (kl k.a.N))).drew;have R:=yl (c:=c) ⟨vt,cr,(cT c k vt cr).below H hd⟩ ht;have j:ay (_/\_/\_/\_/\(w1.alloc (kl k.a.N)).drew.heap.size=w1.heap.size+1):=⟨(g_ (da (cT c k vt cr) w.heap.size (dl c)) w1.heap.size).below Q hd,(u.trans (i.mono u.size)).trans (hd.mono (by simp;omega)),q,t,Z⟩
 have S:=(i.cell (p:=aq w.heap.size 0) t).trans N;have I:=dq ht hp;go_wp2_with fail
 go_region_held3 (fun w'=>w'.cell? (aq w.heap.size 0)=some (aj c.pk)) (go_keep)
  (first
    |(go_at_call 141;refine R.mono ?_;rintro e ar ⟨aB,aF,rfl,U,l⟩;have aR:=(l.cell (p:=aq w.heap.size 0) (by have:=j.out.2.2.2;simp;omega)).trans S;have v:=dq U l)
    |(go_at_call 157;refine(Fs ((g_ (da (cT c k vt cr) w.heap.size (dl c)) w1.heap.size).below j.out.1 v.out.2) I.out.1 I.out.2 V v.out.1 (fun b hb=>by have g:=j.out.2.2;rw[g.2.2];rcases hb with(hb|hb)|hb;(have:=g.1 b hb;omega);omega;omega)).mono ?_;rintro e x ⟨aV,rfl,A,W,b1,b2⟩;have a0:=(n_ A).1;obtain⟨Y,g,_,_,_⟩:=ly A;obtain⟨J,B,C,_,_⟩:=gC g;have a1:x.cell? (aq w.heap.size 0)=some (aj c.pk):=(by simp[World.cell?,C]);clear g B C;have ab:=dq A W))
 all_goals
  have ad:ay (∃f,(cT c k vt cr).J f (k.pl s).1 x/\b8 F w f x):=by
   obtain⟨⟨Y,⟨J,B,C,ag,K⟩,a2,ai,al⟩,L⟩:=ab.out;obtain⟨_,am,q3,bb,bd⟩:=j.out;have l:=v.out.2;have M:_:=am.trans (l.mono V)
   refine⟨J,B,⟨(Fr.of (X:=F) M).trans L.fr (fun b d=>?_),fun b hb=>?_⟩⟩
   ·rcases d with(d|d)|d
    ·exact aK d
    ·exact aJ V
    ·exact aJ V
   ·rcases L.sub b ((al b).2 (aK ((K b).2 (aK hb)))) with((d|d)|d)|d
    ·exact aK d
    ·exact absurd hb (by rw[d];exact ag)
    ·exact absurd ((K b).2 (aK hb)) (by rw[d];exact ai)
    ·exact aJ (by have:=M.size;omega)
  go_wp2_with fail;go_ret;obtain⟨f,an,ao⟩:=ad.out;exact⟨f,by first|rfl|go_num,an,ao⟩
end
def b9.ar (k:b9)(y g:Nat)(ws:List Int):b9:={k with s:={k.s with y:=y,g:=g,ws:=ws}}
def b9.hD (k:b9)(a x:Int):b9:=k.ar k.s.y k.s.g (if dd k.a.N k.s.y k.s.g a=true then k.s.ws.set a.toNat x else k.s.ws)
def b9.qy (k:b9)(i:Nat)(x:Int):b9:={k with s:={k.s with rs:=k.s.rs.set i x}}
def b9.brk (k:b9)(s:cu)(a:Int):b9:=
 if(pk (k.ld a)=3\/pk (k.ld a)=4)/\k.cS s (k.ld (a+1))=true then(if pk (k.ld a)=4 then(k.hD (a+1) 3).hD (a+2) 3 else k.hD (a+1) 3) else k
section
variable {c:e8}{k:b9}{vt cr:Value}{F:Nat->Prop}{s:cu}{w:ax}
open Classical in
theorem pi (h:(cT c k vt cr).J F s w):∃f,(dX k.a).J f k.s w/\∀g n w',(dX k.a).J g n w'->b8 f w g w'->∃p,(cT c {k with s:=n} vt cr).J p s w'/\b8 F w p w':=by
 obtain⟨f,own,h,o⟩:=h;refine⟨f,h.wd,fun g n w' q m=>⟨_,⟨g,fun b=>if g b then 1 else if f b then 0 else own b,?_,fun b=>Iff.rfl⟩,⟨m.fr.mono (fun b d=>(o b).2 (by rw[(h.w1 b).1 d];decide)),fun b hb=>?_⟩⟩⟩
 ·have l:∀b j,own b=j->j≠0->j≠1->(if g b then 1 else if f b then 0 else own b)=j:=fun b j e h0 t=>by
   have n1:¬f b:=fun d=>t (e.symm.trans ((h.w1 b).1 d))
   rw[aG (fun d=>(m.sub b d).elim n1 (fun d=>by have:=h.lt b V;omega)),aG n1];exact e
  have hk:∀b,b<w.heap.size->own b≠1->w'.heap[b]?=w.heap[b]?:=fun b hb hn=>m.fr.block b hb (fun d=>hn ((h.w1 b).1 d))
  exact {
   wd:=q,w1:=fun b=>⟨fun d=>by rw[aI d],fun d=>by
    by_cases e:g b
    ·exact e
    ·rw[aG e] at d;by_cases i:f b
     ·rw[aI i] at d;omega
     ·rw[aG i] at d;exact absurd ((h.w1 b).2 d) i⟩
   cb:=(hk _ (lt_of_some h.cb) (by rw[h.k1];decide)).trans h.cb,k1:=l _ _ h.k1 aa aa
   mp:=h.mp.same (hk _ h.mp.lt (by rw[h.m1];decide)),m1:=l _ _ h.m1 aa aa
   tr:=cH h.tr (fun b e=>hk b (cn h.tr b e).2 (by rw[h.gS b e];decide)),gS:=fun b e=>l _ _ (h.gS b e) aa aa
   er:=cH h.er (fun b e=>hk b (cn h.er b e).2 (by rw[h.eo b e];decide)),eo:=fun b e=>l _ _ (h.eo b e) aa aa
   yr:=cH h.yr (fun b e=>hk b (cn h.yr b e).2 (by rw[h.ia b e];decide)),ia:=fun b e=>l _ _ (h.ia b e) aa aa
   gr:=cH h.gr (fun b e=>hk b (cn h.gr b e).2 (by rw[h.go b e];decide)),go:=fun b e=>l _ _ (h.go b e) aa aa
   lt:=fun b hb=>by
    by_cases e:g b
    ·exact(dX k.a).lt q b e
    ·rw[aG e] at hb;by_cases i:f b
     ·rw[aI i] at hb;exact absurd rfl hb
     ·rw[aG i] at hb;exact aM (h.lt b hb) m.fr.size}
 ·dsimp only at hb;by_cases e:g b
  ·exact(m.sub b e).imp (fun d=>(o b).2 (by rw[(h.w1 b).1 d];decide)) id
  ·rw[aG e] at hb;by_cases i:f b
   ·rw[aI i] at hb;exact absurd rfl hb
   ·rw[aG i] at hb;exact aK ((o b).2 hb)
theorem oa (h:(cT c k vt cr).J F s w):At w k.a.p k.a.q k.a.N k.a.O k.s.y k.s.g k.s.ws/\∀w' y g ws,At w' k.a.p k.a.q k.a.N k.a.O y g ws->c_ k.a.p k.a.q w w'->∃b,(cT c (k.ar y g ws) vt cr).J b s w'/\b8 F w b w':=by
 obtain⟨j,d,e⟩:=pi h;obtain⟨g1,g2⟩:=kI d;refine⟨g1,fun w' y g ws ha f=>?_⟩
 obtain⟨i,j2⟩:=g2 w' y g ws ha f;exact e _ _ _ i j2
theorem Fu (h:(cT c k vt cr).J F s w)(i:Nat)(x:Int):∃b,(cT c (k.qy i x) vt cr).J b s (w.setCell ⟨k.a.nb,i,none⟩ (.int .i64 x))/\b8 F w b (w.setCell ⟨k.a.nb,i,none⟩ (.int .i64 x)):=by obtain⟨g,d,e⟩:=pi h;obtain⟨f,j2⟩:=xL d i x;exact e _ _ _ f j2
theorem Fw (h:(cT c k vt cr).J F s w)(a:Int)(ha:0<=a/\a<=2000):
 Calls prog 160 #[aj c.pk,ah a] w fun e w'=>∃W,e=.returned (.tuple #[])/\(cT c (k.brk s a) vt cr).J W s w'/\b8 F w W w':=by
 have q:ay ((cT c k vt cr).J F s w):=h;obtain⟨K,_⟩:=ey h;obtain⟨L,c0,_⟩:=gB h;have P:=gd a w L;have m:ay (k.brk s a=if(pk (ld k.a.N k.s.y k.s.g k.s.ws a)=3\/pk (ld k.a.N k.s.y k.s.g k.s.ws a)=4)/\k.cS s (k.ld (a+1))=true then(if pk (ld k.a.N k.s.y k.s.g k.s.ws a)=4 then(k.hD (a+1) 3).hD (a+2) 3 else k.hD (a+1) 3) else k):=rfl;have ao:IntKind.i64.wrap (a+1)=a+1:=by rw[bk];omega
 have ap:IntKind.i64.wrap (a+2)=a+2:=by rw[bk];omega
 generalize k.brk s a=i at m⊢;generalize pk (ld k.a.N k.s.y k.s.g k.s.ws a)=M at P m;generalize pf (ld k.a.N k.s.y k.s.g k.s.ws a)=ar at P;generalize pc (ld k.a.N k.s.y k.s.g k.s.ws a)=cc at P;clear h L;by_cases H:M=3\/M=4
 ·have N:ay (∀w1,aw w w1->Calls prog 98 #[aj k.a.p,ah (a+1)] w1 fun e w'=>e=.returned (ah (k.ld (a+1)))/\aw w1 w'):=fun w1 hb=>jJ (a+1) w1 (gB ((cT c k vt cr).below q.out hb)).1;have I:ay (∀w1,aw w w1->Calls prog 154 #[aj c.pk,ah (k.ld (a+1))] w1 fun e w'=>e=.returned (.bool (k.cS s (k.ld (a+1))))/\aw w1 w'):=fun w1 hb=>o_ ((cT c k vt cr).below q.out hb) _;generalize k.ld (a+1)=x at N I m;cases hl:k.cS s x
  ·have E:ay (i=k):=by show i=k;rw[m.out,hl,aG (fun O=>by simp at O)]
   rw[hl] at I;clear m;rcases H with rfl|rfl
   all_goals
    go_enter func160,ntmps160;go_wp2_with fail;refine P.mono ?_;clear P;rintro e w1 ⟨rfl,f⟩
    have j:=(cT c k vt cr).below q.out f;obtain⟨D,_⟩:=ey j;obtain⟨_,G,_⟩:=gB j;clear j K c0;go_wp2_with fail;refine(N.out w1 f).mono ?_;rintro e o ⟨rfl,v⟩
    have g:=f.trans (v.mono f.size)
    go_wp2_with fail;refine(I.out o g).mono ?_;rintro e p ⟨rfl,A⟩
    have l:ay ((cT c i vt cr).J F s p/\b8 F w F p):=by
     have hb:=g.trans (A.mono g.size)
     rw[E.out];exact⟨(cT c k vt cr).below q.out hb,b8.of hb⟩
    clear f v A g G D;go_wp2_with fail;refine a3 (results_none rfl _ _ _) rfl ?_;exact⟨F,rfl,l.out.1,l.out.2⟩
  ·rw[hl] at I;have Q:ay (∀k w1,(∃d,(cT c k vt cr).J d s w1/\b8 F w d w1)->∀(a:Int),Calls prog 93 #[aj k.a.p,ah a,ah 3] w1 fun e w'=>∃b,e=.returned (.bool b)/\(∃d,(cT c (k.hD a 3) vt cr).J d s w'/\b8 F w d w')/\w'.cell? (aq c.pk 0)=some (aj k.a.pw)/\w'.cell? (aq k.a.pw 0)=some (aj k.a.p)):=by
    rintro k w1 ⟨d,j,Y⟩ a;obtain⟨L,ab⟩:=oa j;refine(k3 a 3 w1 L).mono ?_;rintro e o ⟨rfl,ad,ag⟩
    obtain⟨ai,R,al⟩:=ab o _ _ _ ad ag;obtain⟨D,_⟩:=ey R;obtain⟨_,G,_⟩:=gB R;exact⟨_,rfl,⟨ai,R,Y.trans al⟩,D,G⟩
   rcases H with rfl|rfl
   ·have E:ay (i=k.hD (a+1) 3):=by show i=_;rw[m.out,aI ⟨aK rfl,hl⟩,aG aa]
    clear m;go_enter func160,ntmps160;go_wp2_with fail;refine P.mono ?_;clear P;rintro e w1 ⟨rfl,f⟩
    have j:=(cT c k vt cr).below q.out f;obtain⟨D,_⟩:=ey j;obtain⟨_,G,_⟩:=gB j;clear j K c0;go_wp2_with fail;refine(N.out w1 f).mono ?_;rintro e o ⟨rfl,v⟩
    have g:=f.trans (v.mono f.size)
    go_wp2_with fail;refine(I.out o g).mono ?_;rintro e p ⟨rfl,A⟩
    have hb:=g.trans (A.mono g.size)
    have t:=(cT c k vt cr).below q.out hb;obtain⟨S,_⟩:=ey t;obtain⟨_,l0,_⟩:=gB t;have B:=Q.out k p.drew ⟨F,(cT c k vt cr).below t (aH _ p).drew,(b8.of hb).below (aH _ p).drew⟩ (a+1)
    clear f v A g G D t hb;go_wp2_with fail
    go_region_held3 (fun w'=>w'.cell? (aq c.pk 0)=some (aj k.a.pw)/\w'.cell? (aq k.a.pw 0)=some (aj k.a.p)) (go_keep)
     (first
       |(go_at_call 191;refine(nL _).mono ?_;rintro e o ⟨rfl,n⟩;have n:=n.symm;subst n)
       |(go_at_call 93;refine B.mono ?_;clear B;rintro e u ⟨am,rfl,C,U,y1⟩;have l:ay (∃d,(cT c i vt cr).J d s u/\b8 F w d u):=(by rw[E.out];exact C);clear C))
    clear U y1 S l0;go_wp2_with fail;go_end0;obtain⟨d,J,j2⟩:=l.out;exact⟨d,rfl,J,j2⟩
   ·have E:ay (i=(k.hD (a+1) 3).hD (a+2) 3):=by show i=_;rw[m.out,aI ⟨aJ rfl,hl⟩,aI rfl]
    clear m;go_enter func160,ntmps160;go_wp2_with fail;refine P.mono ?_;clear P;rintro e w1 ⟨rfl,f⟩
    have j:=(cT c k vt cr).below q.out f;obtain⟨D,_⟩:=ey j;obtain⟨_,G,_⟩:=gB j;clear j K c0;go_wp2_with fail;refine(N.out w1 f).mono ?_;rintro e o ⟨rfl,v⟩
    have g:=f.trans (v.mono f.size)
    go_wp2_with fail;refine(I.out o g).mono ?_;rintro e p ⟨rfl,A⟩
    have hb:=g.trans (A.mono g.size)
    have t:=(cT c k vt cr).below q.out hb;obtain⟨S,_⟩:=ey t;obtain⟨_,l0,_⟩:=gB t;have B:=Q.out k p.drew ⟨F,(cT c k vt cr).below t (aH _ p).drew,(b8.of hb).below (aH _ p).drew⟩ (a+1)
    clear f v A g G D t hb;go_wp2_with fail
    go_region_held3 (fun w'=>w'.cell? (aq c.pk 0)=some (aj k.a.pw)/\w'.cell? (aq k.a.pw 0)=some (aj k.a.p)) (go_keep)
     (first
       |(go_at_call 191;refine(nL _).mono ?_;rintro e o ⟨rfl,n⟩;have n:=n.symm;subst n)
       |(go_at_call 93;refine B.mono ?_;clear B;rintro e u ⟨am,rfl,C,U,y1⟩;have l:ay (∃d,(cT c (k.hD (a+1) 3) vt cr).J d s u/\b8 F w d u):=C;clear C))
    clear S l0;have B:Calls prog 93 #[aj k.a.p,ah (a+2),ah 3] u.drew fun e w'=>∃b,e=.returned (.bool b)/\(∃d,(cT c i vt cr).J d s w'/\b8 F w d w')/\w'.cell? (aq c.pk 0)=some (aj k.a.pw)/\w'.cell? (aq k.a.pw 0)=some (aj k.a.p):=by rw[E.out];obtain⟨d,J,j2⟩:=l.out;exact Q.out (k.hD (a+1) 3) u.drew ⟨d,(cT c _ vt cr).below J (aH _ u).drew,j2.below (aH _ u).drew⟩ (a+2)
    clear l;go_wp2_with fail
    go_region_held3 (fun w'=>w'.cell? (aq c.pk 0)=some (aj k.a.pw)/\w'.cell? (aq k.a.pw 0)=some (aj k.a.p)) (go_keep)
     (first
       |(go_at_call 191;refine(nL _).mono ?_;rintro e o ⟨rfl,n⟩;have n:=n.symm;subst n)
       |(go_at_call 93;refine B.mono ?_;clear B;rintro e X ⟨aB,rfl,C,z0,an⟩;have l:ay (∃d,(cT c i vt cr).J d s X/\b8 F w d X):=C;clear C))
    clear U y1 z0 an;go_wp2_with fail;go_end0;obtain⟨d,J,j2⟩:=l.out;exact⟨d,rfl,J,j2⟩
 ·have E:ay (i=k):=by show i=k;rw[m.out,aG (fun O=>H O.1)]
  have aF:M≠3:=fun e=>H (aK e)
  have n4:M≠4:=fun e=>H (aJ e)
  clear m H;go_enter func160,ntmps160;go_wp2_with fail;refine P.mono ?_;clear P;rintro e w1 ⟨rfl,f⟩
  have l:ay ((cT c i vt cr).J F s w1/\b8 F w F w1):=by rw[E.out];exact⟨(cT c k vt cr).below q.out f,b8.of f⟩
  clear f K c0;go_wp2_with fail;refine a3 (results_none rfl _ _ _) rfl ?_;exact⟨F,rfl,l.out.1,l.out.2⟩
end
end Go.Proofs.YtpkjkjhanlbcoaaGreat
