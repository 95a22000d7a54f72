import Derived.Test.YtpkjkjhanlbcoaaGreatJ09
namespace Go.Proofs.YtpkjkjhanlbcoaaGreat
set_option maxRecDepth 100000
set_option maxHeartbeats 4000000
open Tryz
open Go.RowKit W Kp ck
theorem tP {P:Prop}(h:P:=by
 rcases hb with hb|hb
 ·exact(hT.sub b hb).imp (fun d=>(g4 b).2 (aM d)) id
 ·exact aM ((g4 b).2 (aL hb))):P:=h
theorem tT {P:Prop}(h:P:=by
 rintro e w2 ⟨rfl,hA2,hs2⟩
 obtain⟨F2,h2,t2⟩:=hU w2 _ _ _ hA2 hs2;exact⟨F2,rfl,⟨h2,ea,tU,tW⟩,t2⟩):P:=h
theorem yO (z:Value)(n:Nat)(hz:z.cells.size=1):(Builtin.zeroCells z.cells n).size=n*1:=by rw[size_zeroCells,hz]
theorem yP (l:List Int):∀u∈l.map (Value.int .i64),u.oneCell'=true:=fun u b=>by obtain⟨x,_,rfl⟩:=List.mem_map.1 b;rfl
theorem yQ {w:az}{base:Nat}{e:TypeId}{ad:Option Addr}{cap:Nat}{l:List Int}(h:w.ownsRow base e 1 (.slice ad l.length cap) l.length (l.map (Value.int .i64))):∀a,ad=some a->∀j u,(l.map (Value.int .i64))[j]?=some u->w.cell? (a.add j)=some u:=fun a ea j u hj=>by
 have c:j<l.length:=by exact qH
 obtain⟨b,o,d,_,hc⟩:=gX h aa;rw[ea] at d;cases d;rw[List.getElem?_map,aN c] at hj;have f:(⟨b,o,none⟩:Addr).add j=⟨b,o+j,none⟩:=by simp[Addr.add]
 rw[f,(hc j c),<-hj];simp[List.getD_eq_getElem?_getD,List.getElem?_eq_getElem c]
theorem FM (w:az)(n:Nat)(hn:n<=100000):
 Calls prog 242 #[.slice none 0 0,ak n] w fun e w'=>∃a1 c1,e=.returned (.slice a1 0 c1)/\w'.ownsRow w.heap.size 3 1 (.slice a1 0 c1) 0 []/\Below w.heap.size w w':=by
 obtain⟨c,hi,d,f,i⟩:=info_parts kn;rcases Nat.eq_zero_or_pos n with h0|h0
 ·subst h0;go_enter func242,ntmps242;go_wp2;go_ret;exact⟨none,0,rfl,bc _ _ _ _,aH _ _⟩
 ·have hr:=Lib.run_append_nil_zeros (P:=prog) w 74 3 74 3 c _ .i64 .i64 underlying74 underlying3 hi d n h0 (by rw[f];decide) aa (by rw[i];omega)
  have j:=grownCap_ge w n 0 3;have b:=grownCap_le_maxLen w n 0 3 (by unfold maxLen;omega)
  generalize grownCap w n 0 3=g at hr j b;have hown:(w.drew.alloc (.cells (Builtin.zeroCells (Value.int .i64 0).cells n++Builtin.zeroCells (Value.int .i64 0).cells (g-n)) 3)).ownsRow w.heap.size 3 1 (.slice (some ⟨w.heap.size,0,none⟩) 0 g) 0 []:=
   World.ownsRow_made w.drew _ g b7 b (by rw[Array.size_append,yO _ _ rfl,yO _ _ rfl];omega)
  have hb:Below w.heap.size w (w.drew.alloc (.cells (Builtin.zeroCells (Value.int .i64 0).cells n++Builtin.zeroCells (Value.int .i64 0).cells (g-n)) 3)):=(aH _ w).drew.alloc b7 _;go_enter func242,ntmps242;exact wL
theorem yR (w:az)(B:Nat)(l1 l2:List Int)(f g:Option Addr)(c1 c2:Nat)(s:w.cell? (av B 0)=some (.slice f l1.length c1))(F:w.cell? (av B 1)=some (.slice g l2.length c2))(N:w.ownsRow 0 3 1 (.slice f l1.length c1) l1.length (l1.map (Value.int .i64)))(S:w.ownsRow 0 3 1 (.slice g l2.length c2) l2.length (l2.map (Value.int .i64)))(hm:l1.length+l2.length<=100000):
 Calls prog 215 #[.slice (au B) 2 2] w fun e w'=>∃a c,e=.returned (.slice a (l1.length+l2.length) c)/\w'.ownsRow w.heap.size 3 1 (.slice a (l1.length+l2.length) c) (l1.length+l2.length) ((l1++l2).map (Value.int .i64))/\Below w.heap.size w w':=by
 obtain⟨t,hi,u,v,x⟩:=info_parts kn;have i:=hide N;have j:=hide S;have hB:=aT w _ s;go_enter func215,ntmps215;go_wp2
 go_loopw [3,11] (fun l iv wr=>wr=w/\((iv=ak 0/\l=ak 0)\/(iv=ak 1/\l=ak l1.length)\/(iv=ak 2/\l=ak (l1.length+l2.length:Nat)))) (fun _ iv _=>2-(intOf iv).toNat)
 exact⟨rfl,aM ⟨rfl,rfl⟩⟩
 ·
   obtain⟨hw,⟨rfl,rfl⟩|⟨rfl,rfl⟩|⟨rfl,rfl⟩⟩:=hrel
   all_goals
    have hw:=hw.symm;subst hw
   ·go_wp2;go_roundw;exact⟨trivial,aL (aM ⟨aj,aj⟩)⟩
    simp[intOf]
   ·go_wp2;go_roundw;exact⟨trivial,aL (aL ⟨aj,aj⟩)⟩
    simp[intOf]
   ·go_wp2_with fail;refine(FM w (l1.length+l2.length) hm).mono ?_;rintro e w1 ⟨a1,W,rfl,b,hb⟩
    go_wp2
    go_loopw [6,27] (fun m iv wk=>Below w.heap.size w wk/\((∃a c,iv=ak 0/\m=.slice a 0 c/\wk.ownsRow w.heap.size 3 1 (.slice a 0 c) 0 [])\/(∃a c,iv=ak 1/\m=.slice a l1.length c/\wk.ownsRow w.heap.size 3 1 (.slice a l1.length c) l1.length (l1.map (Value.int .i64)))\/(∃a c,iv=ak 2/\m=.slice a (l1.length+l2.length) c/\wk.ownsRow w.heap.size 3 1 (.slice a (l1.length+l2.length) c) (l1.length+l2.length) ((l1++l2).map (Value.int .i64))))) (fun _ iv _=>2-(intOf iv).toNat)
    exact⟨hb,aM ⟨a1,W,rfl,rfl,b⟩⟩
    ·
      obtain⟨hb,⟨a,c,rfl,rfl,b⟩|⟨a,c,rfl,rfl,b⟩|⟨a,c,rfl,rfl,b⟩⟩:=hrel
      ·have ab:=(hb.cell (p:=av B 0) hB).trans s;have hs:=hb.size;go_wp2_with (at_builtin;refine w8 _ rfl _ _ 74 rfl w.heap.size 3 t (ak 0) 1 8 underlying74 hi u v x rfl ae (.slice a 0 c) 0 [] rfl b f l1.length c1 (l1.map (Value.int .i64)) rfl ac (yC i.o) (yQ (cL i.o (fun k e=>hb.block k (cu i.o k e).2))) (yP l1) ?_ ?_ hs ?_;(unfold maxLen;omega);omega;intro a2 n ad d o _;rw[Nat.zero_add,List.nil_append] at d)
       have q:=hb.grown o hs (fun k e=>(cu b k e.symm).1)
       go_wp2;go_roundw;exact⟨q,aL (aM ⟨a2,n,aj,rfl,d⟩)⟩
       simp[intOf]
      ·have ab:=(hb.cell (p:=av B 1) hB).trans F;have hs:=hb.size;go_wp2_with (at_builtin;refine w8 _ rfl _ _ 74 rfl w.heap.size 3 t (ak 0) 1 8 underlying74 hi u v x rfl ae (.slice a l1.length c) l1.length (l1.map (Value.int .i64)) rfl b g l2.length c2 (l2.map (Value.int .i64)) rfl ac (yC j.o) (yQ (cL j.o (fun k e=>hb.block k (cu j.o k e).2))) (yP l2) ?_ ?_ hs ?_;(unfold maxLen;omega);omega;intro a2 n ad d o _;rw[<-List.map_append] at d)
       have q:=hb.grown o hs (fun k e=>(cu b k e.symm).1)
       go_wp2;go_roundw;exact⟨q,aL (aL ⟨a2,n,aj,rfl,d⟩)⟩
       simp[intOf]
      ·go_wp2;go_ret;exact⟨a,c,rfl,b,hb⟩
section
variable {c:ft}{k:cf}{F:Nat->Prop}{s:cy}{w:az}
theorem yS {vt b:Value}(h:(cZ c k vt b).J F s w):w.ownsRow 0 3 1 c.yv k.Y.length (k.Y.map (Value.int .i64))/\w.ownsRow 0 3 1 c.ov k.G.length (k.G.map (Value.int .i64)):=by obtain⟨d,own,h,_⟩:=h;exact⟨h.yr,h.gr⟩
theorem yT (h:(eQ c k).J F s w)(hl:k.T.length<=4000):
 Calls prog 141 #[aq c.pk] w fun e w'=>∃a i,e=.returned (.slice a k.T.length i)/\w'.ownsRow w.heap.size 3 1 (.slice a k.T.length i) k.T.length (k.T.map (Value.int .i64))/\Below w.heap.size w w':=by
 have v:k.T.length=k.G.length+k.Y.length:=by unfold cf.T;rw[a7]
 have x:aA (k.T.map (Value.int .i64)=(k.G++k.Y).map (Value.int .i64)):=rfl;rw[v] at hl⊢;rw[x.o];obtain⟨vt,W,h⟩:=h;obtain⟨_,n,o,_,_,_,_,_,lk⟩:=eI h;obtain⟨yr,gr⟩:=yS h;obtain⟨d,f,B⟩:=eN yr;obtain⟨g,gc,N⟩:=eN gr;rw[B] at n yr;rw[N] at o gr;have S:=aw w.drew (.cells #[.slice g k.G.length gc,.slice d k.Y.length f] 74)
 have j:=(ax w).drew.trans (S.mono b7)
 have q:=aP w.drew (.cells #[.slice g k.G.length gc,.slice d k.Y.length f] 74)
 have P:=yR (w.drew.alloc (.cells #[.slice g k.G.length gc,.slice d k.Y.length f] 74)) w.heap.size k.G k.Y g d gc f (by simp only [World.cell?];rw[show w.heap.size=w.drew.heap.size from rfl,q];rfl) (by simp only [World.cell?];rw[show w.heap.size=w.drew.heap.size from rfl,q];rfl) (cL gr (fun b e=>j.block b (cu gr b e).2)) (cL yr (fun b e=>j.block b (cu yr b e).2)) aa;have l:=hide j;go_enter func141,ntmps141;go_wp2_with fail
 go_region_held3 (fun w'=>w'.cell? (av c.pk 1)=some (.slice d k.Y.length f)/\w'.cell? (av c.pk 2)=some (.slice g k.G.length gc)) (go_keep)
  (first
    |(go_at_call 215;refine P.mono ?_;rintro e ab ⟨a,i,rfl,t,hb⟩;have m:=l.o.trans (hb.mono l.o.size);have y1:=(m.cell (p:=av c.pk 1) lk).trans n;have ad:=(m.cell (p:=av c.pk 2) lk).trans o;have u:=c7 (e8 t (fun b e=>aU l.o.size (cu t b e).1)) m))
 go_wp2_with fail;go_ret;exact⟨a,i,rfl,u.o.1,u.o.2⟩
end
def fu {b:Type}(fm:b->Int->Int)(st:b->Int->b)(t:b)(a:Int):b:=if fm t a=-1 then t else st t a
def hJ {b:Type}(fm:b->Int->Int)(st:b->Int->b)(t:b)(l:List Int):b:=l.foldl (fu fm st) t
theorem tX {g:Type}(o:dx g)(fm fd:g->Int->Int)(st:g->Int->g)(G:Nat->g->Prop)(T:List Int)(pk pw p ct f:Nat)(ag:Array Value)(ai:dS f)(l:List Int)(ad:Option Addr)(cap:Nat)(F:Nat->Prop)(t:g)(w:az)
 (al:∀F t w a,o.J F t w->w.cell? (av pk 0)=some (aq pw)/\w.cell? (av pk 3)=some (.map (some ct))/\w.cell? (av pw 0)=some (aq p)/\Mp w ct T (fm t)/\Calls prog 102 #[aq p,ak a] w fun r w'=>∃x z,r=.returned (.tuple #[ak x,ak (fd t a),ak z])/\Below w.heap.size w w')
 (am:∀t a,0<=fd t a/\fd t a<=12)(an:∀a∈l,(0<=a/\a<=100000)/\a∈T)(b4:l.length<=100000)
 (ao:∀j F t w,j<l.length->G j t->o.J F t w->fm t (l.getD j 0)≠-1->Calls prog f (#[ak (l.getD j 0),ak (1+fd t (l.getD j 0))]++ag) w fun r w'=>∃c,r=.returned (.tuple #[])/\o.J c (st t (l.getD j 0)) w'/\cg F w c w')
 (ap:∀j t,j<l.length->G j t->G (j+1) (fu fm st t (l.getD j 0)))(h0:G 0 t)(e:o.J F t w)(ar:∀c N w',o.J c N w'->cg F w c w'->iU w' ad l):
 Calls prog 157 #[aq pk,.slice ad l.length cap,.func (.func f) #[] ag] w fun r w'=>∃c,r=.returned (.tuple #[])/\o.J c (hJ fm st t l) w'/\cg F w c w'/\G l.length (hJ fm st t l):=by
 have ba:aA (∀F t w a,o.J F t w->_):=al;have bb:aA (∀j F t w,j<l.length->G j t->o.J F t w->fm t (l.getD j 0)≠-1->_):=ao;have bd:aA (∀j t,j<l.length->G j t->_):=ap;have be:aA (∀c N w',o.J c N w'->cg F w c w'->_):=ar;have bg:aA (_):=an;have bi:aA (∀t a,_):=am;have b5:∀(args:Array Value)(w:az),_=_:=ai;clear al ao ap ar an am ai;go_enter func157,ntmps157;go_wp2_with fail
 go_loopw [13] (fun iv wr=>∃(j:Nat)(d:Nat->Prop)(b:g),j<=l.length/\iv=ak j/\aA (hJ fm st t (l.take j)=b)/\aA (G j b)/\o.J d b wr/\cg F w d wr) (fun iv _=>l.length-(intOf iv).toNat)
 case atStart=>exact⟨0,F,t,a4 _,rfl,rfl,h0,e,cg.refl _ _⟩
 case round=>
  clear h0 e;obtain⟨j,d,b,b6,rfl,S,W,e,s⟩:=hrel;by_cases i:j<l.length
  ·obtain⟨b9,ca,bl,cb,hc⟩:=be.o d b wr e s aa;have bn:=hc j i;subst bl;have aB:l.getD j 0∈l:=by rw[aJ,aN i];exact a8 i
   obtain⟨bo,aF⟩:=bg.o _ aB;have aR:=jp bo.1 aa;have aV:aA (hJ fm st t (l.take (j+1))=fu fm st b (l.getD j 0)):=by
    show _=_;rw[gL l j i 0];unfold hJ;rw[List.foldl_append];have:=S.o;unfold hJ at this
    rw[this];rfl
   have a0:aA (_):=bd.o j b i W.o;have k:=fun w h=>bb.o j d b w i W.o h;obtain⟨bp,br,bs,⟨D,o1,bt,a1⟩,L⟩:=ba.o d b wr (l.getD j 0) e;have u:=hide (a1 _ aF)
   have cc:=bi.o b (l.getD j 0)
   have B:aA (_/\_):=⟨e,s⟩
   have k:aA (∀w,o.J d b w->fm b (l.getD j 0)≠-1->_):=k;clear hc aB aF e s bt a1;by_cases hw:fm b (l.getD j 0)=-1
   ·have n:aA (fu fm st b (l.getD j 0)=b):=by show _=_;unfold fu;rw[aK hw]
    rw[hw] at u;clear k L;generalize l.getD j 0=a at*;go_wp2_with (at_lookup;refine wpList_lookup_own_int _ rfl _ _ 127 rfl 3 3 .i64 iY underlying127 underlying3 (l8 _) ct T.length D rfl o1 _ _ rfl aR ?_;intro z q ab;obtain rfl:z=-1:=(by have:=q.symm.trans u.o;simpa using this);clear q ab)
    clear bn bp br bs o1;go_roundw
    case rel=>exact⟨j+1,d,b,aa,aj,by show _=_;rw[aV.o,n.o],by show G _ _;rw[<-n.o];exact a0.o,B.o.1,B.o.2⟩
    case measure=>simp[intOf];omega
   ·have n:aA (fu fm st b (l.getD j 0)=st b (l.getD j 0)):=by show _=_;unfold fu;rw[aI hw]
    have bx:aA (∀w,o.J d b w->_):=fun w h=>k.o w h hw;clear k;generalize l.getD j 0=a at*;generalize fm b a=v at*;generalize fd b a=m at*;generalize st b a=b0 at*;go_wp2_with (at_lookup;refine wpList_lookup_own_int _ rfl _ _ 127 rfl 3 3 .i64 iY underlying127 underlying3 (l8 _) ct T.length D rfl o1 _ _ rfl aR ?_;intro z q ab;obtain rfl:z=v:=(by have:=q.symm.trans u.o;simpa using this);clear q ab u)
    refine L.mono ?_;rintro r w1 ⟨x,y,rfl,a2⟩
    go_wp2_with fail;refine(bx.o w1 (o.below B.o.1 a2)).mono ?_;rintro r cd ⟨b1,rfl,b2,b3⟩
    have a3:=c7 b2 ((B.o.2.below a2).trans b3)
    go_wp2_with fail;go_roundw;exact⟨j+1,b1,b0,aa,aj,by show _=_;rw[aV.o,n.o],by show G _ _;rw[<-n.o];exact a0.o,a3.o.1,a3.o.2⟩
    simp[intOf];omega
  ·obtain rfl:j=l.length:=aa;rw[bz] at S;go_wp2_with fail;go_end0;rw[S.o];exact⟨d,rfl,e,s,W.o⟩
theorem yU {c:Type}(o:dx c)(fm fd:c->Int->Int)(st:c->Int->c)(G:Nat->c->Prop)(T:List Int)(pk pw p ct f:Nat)(g:Array Value)(n:dS f)(l:List Int)(ad:Option Addr)(cap:Nat)(F:Nat->Prop)(t:c)(w:az)
 (q:∀F t w a,o.J F t w->w.cell? (av pk 0)=some (aq pw)/\w.cell? (av pk 3)=some (.map (some ct))/\w.cell? (av pw 0)=some (aq p)/\Mp w ct T (fm t)/\Calls prog 102 #[aq p,ak a] w fun r w'=>∃x z,r=.returned (.tuple #[ak x,ak (fd t a),ak z])/\Below w.heap.size w w')
 (s:∀t a,0<=fd t a/\fd t a<=12)(u:∀a∈l,(0<=a/\a<=100000)/\a∈T)(v:l.length<=100000)
 (B:∀j F t w,j<l.length->G j t->o.J F t w->fm t (l.getD j 0)≠-1->Calls prog f (#[ak (l.getD j 0),ak (1+fd t (l.getD j 0))]++g) w fun r w'=>∃d,r=.returned (.tuple #[])/\o.J d (st t (l.getD j 0)) w'/\cg F w d w')
 (N:∀j t,j<l.length->G j t->G (j+1) (fu fm st t (l.getD j 0)))(h0:G 0 t)(S:o.J F t w)(i:iU w ad l)(hn:0<l.length->∀z,ad=some z->¬F z.block):
 Calls prog 157 #[aq pk,.slice ad l.length cap,.func (.func f) #[] g] w fun r w'=>∃d,r=.returned (.tuple #[])/\o.J d (hJ fm st t l) w'/\cg F w d w'/\G l.length (hJ fm st t l):=
 tX o fm fd st G T pk pw p ct f g n l ad cap F t w q s u v B N h0 S (fun d _ w' _ k=>i.keep k.fr.size (fun hp z e=>k.fr.block _ (by obtain⟨b,W,m,hb,_⟩:=i hp;rw[e] at m;cases m;exact hb) (hn hp z e)))
abbrev kB (n:Int):Obj:=.cells #[ak n] 3 (0,0)
def h_ {g:Type}(o:dx g)(d:Nat):dx (g×Int) where
 J F t w:=∃c,o.J c t.1 w/\w.heap[d]?=some (kB t.2)/\¬c d/\∀b,F b↔(c b\/b=d)
 lt:=by
  rintro F t w ⟨c,h,f,_,e⟩ b hb;rcases(e b).1 hb with hb|hb
  ·exact o.lt h b hb
  ·rw[hb];exact lt_of_some f
 keep:=by rintro F t w w' ⟨c,h,f,hn,e⟩ hs hk;exact⟨c,o.keep h hs (fun b hb=>hk b ((e b).2 (aM hb))),(hk d ((e d).2 (aL rfl))).trans f,hn,e⟩
section
variable {hX:Type}{o:dx hX}{bx gg:Nat}{x:Obj}{F:Nat->Prop}{w:az}
theorem gR {t:hX}(h:(dl o bx x).J F t w):∃e,o.J e t w/\w.heap[bx]?=some x/\bx<w.heap.size/\∀c f w1,o.J c f w1->cg e w c w1->(dl o bx x).J (fun b=>c b\/b=bx) f w1/\cg F w (fun b=>c b\/b=bx) w1:=by
 obtain⟨e,h,g2,g3,g4⟩:=h;refine⟨e,h,g2,lt_of_some g2,fun c f w1 g hT=>⟨⟨c,g,(hT.fr.block bx (lt_of_some g2) g3).trans g2,fun d=>(hT.sub bx d).elim g3 (fun d=>by have:=lt_of_some g2;omega),fun b=>Iff.rfl⟩,⟨hT.fr.mono (fun b hb=>(g4 b).2 (aM hb)),fun b hb=>?_⟩⟩⟩
 exact tP
theorem lK {t:hX×Int}(h:(h_ o gg).J F t w):∃e,o.J e t.1 w/\w.heap[gg]?=some (kB t.2)/\gg<w.heap.size/\∀c f w1,o.J c f w1->cg e w c w1->(h_ o gg).J (fun b=>c b\/b=gg) (f,t.2) w1/\cg F w (fun b=>c b\/b=gg) w1:=by
 obtain⟨e,h,g2,g3,g4⟩:=h;refine⟨e,h,g2,lt_of_some g2,fun c f w1 g hT=>⟨⟨c,g,(hT.fr.block gg (lt_of_some g2) g3).trans g2,fun d=>(hT.sub gg d).elim g3 (fun d=>by have:=lt_of_some g2;omega),fun b=>Iff.rfl⟩,⟨hT.fr.mono (fun b hb=>(g4 b).2 (aM hb)),fun b hb=>?_⟩⟩⟩
 exact tP
theorem om {t:hX×Int}(h:(h_ o gg).J F t w):w.cell? (av gg 0)=some (ak t.2)/\w.frozen? (av gg 0)=false:=by obtain⟨b,h,g2,g3,g4⟩:=h;exact⟨by simp[World.cell?,g2],by simp[World.frozen?,g2]⟩
theorem yV {t:hX×Int}(h:(h_ o gg).J F t w)(m:Int):(h_ o gg).J F (t.1,m) (w.setCell ⟨gg,0,none⟩ (.int .i64 m))/\cg F w F (w.setCell ⟨gg,0,none⟩ (.int .i64 m)):=by
 obtain⟨c,h,g2,g3,g4⟩:=h;have fr:Fr (fun b=>b=gg) w (w.setCell ⟨gg,0,none⟩ (.int .i64 m)):=(Fr.refl _ w).set _ 0 _ rfl;refine⟨⟨c,o.keep h fr.size (fun b hb=>fr.block b (o.lt h b hb) (fun e=>g3 (by rw[<-e];exact hb))),?_,g3,g4⟩,⟨fr.mono (fun b e=>(g4 b).2 (aL e)),fun _ d=>aM d⟩⟩
 simp only [World.setCell,Array.getElem?_modify,if_true,g2,Option.map_some];simp
end
section
variable {c:ft}{k:cf}{vt cx:Value}{F:Nat->Prop}{s:cy}{w:az}
theorem FN (h:(cZ c k vt cx).J F s w):
 Calls prog 82 #[aq c.pk] w fun e w'=>e=.returned (ak k.a.O)/\Below w.heap.size w w':=by
 obtain⟨b,c0,_⟩:=gQ h;obtain⟨l,_⟩:=eI h;have P:=kQ w b;have g:=hide h;have k1:=b.hO;have m:=b.hg;clear h b;go_enter func82,ntmps82;go_wp2_with fail;refine P.mono ?_;rintro e w1 ⟨rfl,d⟩
 have f:=(cZ c k vt cx).below g.o d;obtain⟨b,n,_⟩:=gQ f;obtain⟨o,_⟩:=eI f;have P:=oY w1 b;go_wp2_with fail;refine P.mono ?_;rintro e p ⟨rfl,i⟩
 have j:=hide (d.trans (i.mono d.size))
 go_wp2_with fail;go_ret;exact⟨aj,j.o⟩
theorem FO {bp d:Nat}{n m a:Int}(h:(h_ (dl (cZ c k vt cx) bp (du c)) d).J F (s,n) w)(ht:k.T.length<=4000)(ha:a∈k.T)(hp:0<=a/\a<=2000)(hn:0<=n/\n<=100000)(hm:0<=m/\m<=13):
 Calls prog 158 #[ak a,ak m,aq d,aq bp] w fun e w'=>∃j,e=.returned (.tuple #[])/\(h_ (dl (cZ c k vt cx) bp (du c)) d).J j ({s with f:=gO s.f a n},n+m) w'/\cg F w j w':=by
 obtain⟨q,_⟩:=om h;obtain⟨_,g,_⟩:=lK h;obtain⟨_,i,l,_⟩:=gR g;obtain⟨_,_,_,ap,_⟩:=eI i;have l:w.cell? (av bp 0)=some (aq c.pk):=aD l
 clear g i;obtain⟨ar,g,_,_,u⟩:=lK ((h_ (dl (cZ c k vt cx) bp (du c)) d).below h (aH _ w).drew)
 obtain⟨aB,i,_,_,v⟩:=gR g;obtain⟨⟨D,o1,x,B⟩,hM⟩:=pj i;obtain⟨N,aF,S,W⟩:=o1.update (t:=127) (e:=3) iY underlying127 (by unfold maxLen;omega) (jp hp.1 aa) (m9 n (WalkArith.wf_i64 ⟨aa,aa⟩))
 obtain⟨ab,ad⟩:=hM N _ (Mp.put o1 x B ha S) ((Fr.refl _ w.drew).grown W (fun b e=>aM (by cases e;rfl)))
 obtain⟨ag,ai⟩:=v _ _ _ ab ad;obtain⟨o,al⟩:=u _ _ _ ag ai;obtain⟨am,aR⟩:=om o;have p:aA (_/\_):=⟨o,(cg.of (aH _ w).drew).trans al⟩
 dsimp only at q am;go_enter func158,ntmps158;go_wp2
 go_region
 go_wp2;go_end0;obtain⟨an,ao⟩:=yV p.o.1 (n+m)
 exact⟨_,rfl,an,p.o.2.trans ao⟩
end
def cf.mr (k:cf)(t:cy×Int)(a:Int):cy×Int:=({t.1 with f:=gO t.1.f a t.2},t.2+(1+pf (k.ld a)))
def cf.mv (k:cf)(t:cy×Int)(l:List Int):cy×Int:=hJ (fun t a=>t.1.f a) k.mr t l
def cf.pl (k:cf)(s:cy):cy×Int:=k.mv (s,k.a.N) k.T
section
variable {c:ft}{k:cf}{vt cx:Value}{F:Nat->Prop}{s:cy}{w:az}
theorem FP:dS 158:=gw func158 ah rfl
theorem FQ {bp i:Nat}(h:(h_ (dl (cZ c k vt cx) bp (du c)) i).J F (s,(k.a.N:Int)) w)(ht:k.T.length<=4000)(hp:∀a∈k.T,0<=a/\a<=2000)(hN:k.a.N<=2000){ad:Option Addr}{l B:Nat}(hr:w.ownsRow B 3 1 (.slice ad k.T.length l) k.T.length (k.T.map (Value.int .i64)))(hB:∀b,F b->b<B):
 Calls prog 157 #[aq c.pk,.slice ad k.T.length l,.func (.func 158) #[] #[aq i,aq bp]] w fun e w'=>∃g,e=.returned (.tuple #[])/\(h_ (dl (cZ c k vt cx) bp (du c)) i).J g (k.pl s) w'/\cg F w g w'/\0<=(k.pl s).2/\(k.pl s).2<=60000:=by
 have E:=yU _ (fun t a=>t.1.f a) (fun _ a=>pf (k.ld a)) k.mr (fun j t=>0<=t.2/\t.2<=2000+13*(j:Int)) k.T c.pk k.a.pw k.a.p c.ct 158 #[.pointer _,.pointer _] FP k.T ad l F (s,(k.a.N:Int)) w
  (by
    rintro F t o a p;obtain⟨_,f,_⟩:=lK p;obtain⟨_,d,_⟩:=gR f;obtain⟨c0,_,_,c3,_⟩:=eI d;obtain⟨q,c5,_⟩:=gQ d;obtain⟨hM,_⟩:=pj d;refine⟨c0,c3,c5,hM,(gy a o q).mono ?_⟩
    rintro r w' ⟨rfl,hb⟩
    exact⟨_,_,rfl,hb⟩)
  (fun t a=>dr _) (fun a ha=>⟨by have:=hp a ha;omega,ha⟩) aa
  (by
    rintro j F t o m ⟨g1,g2⟩ u _;have hm:k.T.getD j 0∈k.T:=by rw[aJ,aN m];exact a8 m
    have f:=hp _ hm;have d:=dr (k.ld (k.T.getD j 0))
    exact FO (s:=t.1) (n:=t.2) u ht hm f ⟨g1,aa⟩ aa)
  (by
    rintro j t m ⟨g1,g2⟩
    have d:=dr (k.ld (k.T.getD j 0))
    unfold fu;split
    ·exact⟨g1,aa⟩
    ·unfold cf.mr;exact⟨aa,aa⟩)
  ⟨aa,aa⟩ h (gX hr)
  (fun v z e hz=>by obtain⟨b,cap,x⟩:=eT hr v;cases x;cases e;have d:=(cu hr b rfl).1;have:=hB b hz;omega)
 refine E.mono ?_;rintro r w' ⟨g,rfl,f,d,N,S⟩
 exact⟨g,rfl,f,d,N,Int.le_trans S aa⟩
theorem FR (h:(cZ c k vt cx).J F s w)(ht:k.T.length<=4000)(hp:∀a∈k.T,0<=a/\a<=2000):
 Calls prog 81 #[aq c.pk] w fun e w'=>∃f,e=.returned (ak ((k.pl s).2-k.a.N))/\(cZ c k vt cx).J f (k.pl s).1 w'/\cg F w f w':=by
 have W:=hide h;have m:=aw w (du c)
 have h0:=(cZ c k vt cx).below h m;obtain⟨n,c0,_⟩:=gQ h0;obtain⟨bl,_⟩:=eI h0;have P:=mX _ n;have n1:=n.hN';have ab:=hide m;clear h h0 n m;go_enter func81,ntmps81;go_wp2_with fail;refine P.mono ?_;clear P;rintro e w1 ⟨rfl,ad⟩
 have o:=(ad.block _ ac).trans (aP _ _)
 have ap:w1.cell? (av w.heap.size 0)=some (aq c.pk):=aD o
 have q:=(cZ c k vt cx).lt W.o;have t:=lt_of_some o;have i:Below w1.heap.size w1 (w1.alloc (kB k.a.N)):=aw w1 _;have u:=ab.o.trans (ad.mono ab.o.size)
 have ag:=(cZ c k vt cx).below ((cZ c k vt cx).below W.o u) i;have ar:(dl (cZ c k vt cx) w.heap.size (du c)).J (fun b=>F b\/b=w.heap.size) s (w1.alloc (kB k.a.N)):=⟨F,ag,(i.block _ t).trans o,fun d=>by have:=q _ d;omega,fun b=>Iff.rfl⟩
 have aB:(h_ (dl (cZ c k vt cx) w.heap.size (du c)) w1.heap.size).J (fun b=>(F b\/b=w.heap.size)\/b=w1.heap.size) (s,(k.a.N:Int)) (w1.alloc (kB k.a.N)):=⟨_,ar,aP _ _,fun d=>d.elim (fun d=>by have:=q _ d;omega) (fun d=>by omega),fun b=>Iff.rfl⟩
 have hd:=(aH (w1.alloc (kB k.a.N)).heap.size (w1.alloc (kB k.a.N))).drew;have aF:=yT (c:=c) ⟨vt,cx,(cZ c k vt cx).below ag hd⟩ ht;have j:aA (_/\_/\_/\_/\(w1.alloc (kB k.a.N)).drew.heap.size=w1.heap.size+1):=⟨(h_ (dl (cZ c k vt cx) w.heap.size (du c)) w1.heap.size).below aB hd,(u.trans (i.mono u.size)).trans (hd.mono (by simp;omega)),q,t,ac⟩
 have aR:=(i.cell (p:=av w.heap.size 0) t).trans ap;have ai:=c7 ht hp;go_wp2_with fail
 go_region_held3 (fun w'=>w'.cell? (av w.heap.size 0)=some (aq c.pk)) (go_keep)
  (first
    |(go_at_call 141;refine aF.mono ?_;rintro e bn ⟨bo,bp,rfl,aV,l⟩;have br:=(l.cell (p:=av w.heap.size 0) (by have:=j.o.2.2.2;simp;omega)).trans aR;have v:=c7 aV l)
    |(go_at_call 157;refine(FQ ((h_ (dl (cZ c k vt cx) w.heap.size (du c)) w1.heap.size).below j.o.1 v.o.2) ai.o.1 ai.o.2 aa v.o.1 (fun b hb=>by have g:=j.o.2.2;rw[g.2.2];rcases hb with(hb|hb)|hb;(have:=g.1 b hb;omega);omega;omega)).mono ?_;rintro e x ⟨bs,rfl,B,a0,b1,b2⟩;have bt:=(om B).1;obtain⟨a1,g,_,_,_⟩:=lK B;obtain⟨al,N,S,_,_⟩:=gR g;have bx:x.cell? (av w.heap.size 0)=some (aq c.pk):=aD S;clear g N S;have a2:=c7 B a0))
 all_goals
  have a3:aA (∃f,(cZ c k vt cx).J f (k.pl s).1 x/\cg F w f x):=by
   obtain⟨⟨a1,⟨al,N,S,ba,am⟩,b0,bb,bd⟩,an⟩:=a2.o;obtain⟨_,be,q3,b3,b4⟩:=j.o;have l:=v.o.2;have ao:_:=be.trans (l.mono aa)
   refine⟨al,N,⟨(Fr.of (X:=F) ao).trans an.fr (fun b d=>?_),fun b hb=>?_⟩⟩
   ·rcases d with(d|d)|d
    ·exact aM d
    ·exact aL aa
    ·exact aL aa
   ·rcases an.sub b ((bd b).2 (aM ((am b).2 (aM hb)))) with((d|d)|d)|d
    ·exact aM d
    ·exact absurd hb (by rw[d];exact ba)
    ·exact absurd ((am b).2 (aM hb)) (by rw[d];exact bb)
    ·exact aL (by have:=ao.size;omega)
  go_wp2_with fail;go_ret;obtain⟨f,bg,bi⟩:=a3.o;exact⟨f,by first|rfl|go_num,bg,bi⟩
end
def cf.ar (k:cf)(y g:Nat)(ws:List Int):cf:={k with s:={k.s with y:=y,g:=g,ws:=ws}}
def cf.it (k:cf)(a x:Int):cf:=k.ar k.s.y k.s.g (if dt k.a.N k.s.y k.s.g a=true then k.s.ws.set a.toNat x else k.s.ws)
def cf.qN (k:cf)(i:Nat)(x:Int):cf:={k with s:={k.s with rs:=k.s.rs.set i x}}
def cf.brk (k:cf)(s:cy)(a:Int):cf:=
 if(pk (k.ld a)=3\/pk (k.ld a)=4)/\k.cX s (k.ld (a+1))=true then(if pk (k.ld a)=4 then(k.it (a+1) 3).it (a+2) 3 else k.it (a+1) 3) else k
section
variable {c:ft}{k:cf}{vt cx:Value}{F:Nat->Prop}{s:cy}{w:az}
open Classical in
theorem pr (h:(cZ c k vt cx).J F s w):∃f,(ed k.a).J f k.s w/\∀g n w',(ed k.a).J g n w'->cg f w g w'->∃p,(cZ c {k with s:=n} vt cx).J p s w'/\cg F w p w':=by
 obtain⟨f,own,h,o⟩:=h;refine⟨f,h.wd,fun g n w' q m=>⟨_,⟨g,fun b=>if g b then 1 else if f b then 0 else own b,?_,fun b=>Iff.rfl⟩,⟨m.fr.mono (fun b d=>(o b).2 (by rw[(h.w1 b).1 d];decide)),fun b hb=>?_⟩⟩⟩
 ·have l:∀b j,own b=j->j≠0->j≠1->(if g b then 1 else if f b then 0 else own b)=j:=fun b j e h0 t=>by
   have n1:_:=fun d=>t (e.symm.trans ((h.w1 b).1 d))
   rw[aI (fun d=>(m.sub b d).elim n1 (fun d=>by have:=h.lt b aa;omega)),aI n1];exact e
  have hk:∀b,b<w.heap.size->own b≠1->_=_:=fun b hb hn=>m.fr.block b hb (fun d=>hn ((h.w1 b).1 d))
  exact {
   wd:=q,w1:=fun b=>⟨fun d=>by rw[aK d],fun d=>by
    by_cases e:g b
    ·exact e
    ·rw[aI e] at d;by_cases i:f b
     ·rw[aK i] at d;omega
     ·rw[aI i] at d;exact absurd ((h.w1 b).2 d) i⟩
   cb:=(hk _ (lt_of_some h.cb) (by rw[h.k1];decide)).trans h.cb,k1:=l _ _ h.k1 ae ae
   mp:=h.mp.same (hk _ h.mp.lt (by rw[h.m1];decide)),m1:=l _ _ h.m1 ae ae
   tr:=cL h.tr (fun b e=>hk b (cu h.tr b e).2 (by rw[h.hI b e];decide)),hI:=fun b e=>l _ _ (h.hI b e) ae ae
   er:=cL h.er (fun b e=>hk b (cu h.er b e).2 (by rw[h.eo b e];decide)),eo:=fun b e=>l _ _ (h.eo b e) ae ae
   yr:=cL h.yr (fun b e=>hk b (cu h.yr b e).2 (by rw[h.iq b e];decide)),iq:=fun b e=>l _ _ (h.iq b e) ae ae
   gr:=cL h.gr (fun b e=>hk b (cu h.gr b e).2 (by rw[h.go b e];decide)),go:=fun b e=>l _ _ (h.go b e) ae ae
   lt:=fun b hb=>by
    by_cases e:g b
    ·exact(ed k.a).lt q b e
    ·rw[aI e] at hb;by_cases i:f b
     ·rw[aK i] at hb;exact absurd rfl hb
     ·rw[aI i] at hb;exact aO (h.lt b hb) m.fr.size}
 ·dsimp only at hb;by_cases e:g b
  ·exact(m.sub b e).imp (fun d=>(o b).2 (by rw[(h.w1 b).1 d];decide)) id
  ·rw[aI e] at hb;by_cases i:f b
   ·rw[aK i] at hb;exact absurd rfl hb
   ·rw[aI i] at hb;exact aM ((o b).2 hb)
theorem oo (h:(cZ c k vt cx).J F s w):At w k.a.p k.a.q k.a.N k.a.O k.s.y k.s.g k.s.ws/\∀w' y g ws,At w' k.a.p k.a.q k.a.N k.a.O y g ws->dh k.a.p k.a.q w w'->∃b,(cZ c (k.ar y g ws) vt cx).J b s w'/\cg F w b w':=by
 obtain⟨j,d,e⟩:=pr h;obtain⟨g1,g2⟩:=kU d;refine⟨g1,fun w' y g ws ha f=>?_⟩
 obtain⟨i,j2⟩:=g2 w' y g ws ha f;exact e _ _ _ i j2
theorem FS (h:(cZ c k vt cx).J F s w)(i:Nat)(x:Int):∃b,(cZ c (k.qN i x) vt cx).J b s (w.setCell ⟨k.a.nb,i,none⟩ (.int .i64 x))/\cg F w b (w.setCell ⟨k.a.nb,i,none⟩ (.int .i64 x)):=by obtain⟨g,d,e⟩:=pr h;obtain⟨f,j2⟩:=ya d i x;exact e _ _ _ f j2
theorem FT (h:(cZ c k vt cx).J F s w)(a:Int)(ha:0<=a/\a<=2000):
 Calls prog 160 #[aq c.pk,ak a] w fun e w'=>∃ar,e=.returned (.tuple #[])/\(cZ c (k.brk s a) vt cx).J ar s w'/\cg F w ar w':=by
 have p:aA ((cZ c k vt cx).J F s w):=h;obtain⟨aB,_⟩:=eI h;obtain⟨ai,c0,_⟩:=gQ h;have P:=gy a w ai;have q:aA (k.brk s a=if(pk (ld k.a.N k.s.y k.s.g k.s.ws a)=3\/pk (ld k.a.N k.s.y k.s.g k.s.ws a)=4)/\k.cX s (k.ld (a+1))=true then(if pk (ld k.a.N k.s.y k.s.g k.s.ws a)=4 then(k.it (a+1) 3).it (a+2) 3 else k.it (a+1) 3) else k):=rfl;have be:IntKind.i64.wrap (a+1)=a+1:=by rw[bu];omega
 have bg:IntKind.i64.wrap (a+2)=a+2:=by rw[bu];omega
 generalize k.brk s a=i at q⊢;generalize pk (ld k.a.N k.s.y k.s.g k.s.ws a)=aF at P q;generalize pf (ld k.a.N k.s.y k.s.g k.s.ws a)=bi at P;generalize pc (ld k.a.N k.s.y k.s.g k.s.ws a)=cc at P;clear h ai;by_cases am:aF=3\/aF=4
 ·have al:aA (∀w1,Below w.heap.size w w1->Calls prog 98 #[aq k.a.p,ak (a+1)] w1 fun e w'=>e=.returned (ak (k.ld (a+1)))/\Below w1.heap.size w1 w'):=fun w1 hb=>jS (a+1) w1 (gQ ((cZ c k vt cx).below p.o hb)).1;have S:aA (∀w1,Below w.heap.size w w1->Calls prog 154 #[aq c.pk,ak (k.ld (a+1))] w1 fun e w'=>e=.returned (.bool (k.cX s (k.ld (a+1))))/\Below w1.heap.size w1 w'):=fun w1 hb=>pm ((cZ c k vt cx).below p.o hb) _;generalize k.ld (a+1)=x at al S q;cases hl:k.cX s x
  ·have E:aA (i=k):=by show i=k;rw[q.o,hl,aI (fun an=>by simp at an)]
   rw[hl] at S;clear q;rcases am with rfl|rfl
   all_goals
    go_enter func160,ntmps160;go_wp2_with fail;refine P.mono ?_;clear P;rintro e w1 ⟨rfl,d⟩
    have j:=(cZ c k vt cx).below p.o d;obtain⟨W,_⟩:=eI j;obtain⟨_,ab,_⟩:=gQ j;clear j aB c0;go_wp2_with fail;refine(al.o w1 d).mono ?_;rintro e n ⟨rfl,v⟩
    have g:=d.trans (v.mono d.size)
    go_wp2_with fail;refine(S.o n g).mono ?_;rintro e o ⟨rfl,B⟩
    have l:aA ((cZ c i vt cx).J F s o/\cg F w F o):=by
     have hb:=g.trans (B.mono g.size)
     rw[E.o];exact⟨(cZ c k vt cx).below p.o hb,cg.of hb⟩
    clear d v B g ab W;go_wp2_with fail;refine a5 (results_none rfl _ _ _) rfl ?_;exact⟨F,rfl,l.o.1,l.o.2⟩
  ·rw[hl] at S;have ao:aA (∀k w1,(∃f,(cZ c k vt cx).J f s w1/\cg F w f w1)->∀(a:Int),Calls prog 93 #[aq k.a.p,ak a,ak 3] w1 fun e w'=>∃b,e=.returned (.bool b)/\(∃f,(cZ c (k.it a 3) vt cx).J f s w'/\cg F w f w')/\w'.cell? (av c.pk 0)=some (aq k.a.pw)/\w'.cell? (av k.a.pw 0)=some (aq k.a.p)):=by
    rintro k w1 ⟨f,j,a0⟩ a;obtain⟨ai,a1⟩:=oo j;refine(lx a 3 w1 ai).mono ?_;rintro e n ⟨rfl,a2,a3⟩
    obtain⟨ba,ap,bb⟩:=a1 n _ _ _ a2 a3;obtain⟨W,_⟩:=eI ap;obtain⟨_,ab,_⟩:=gQ ap;exact⟨_,rfl,⟨ba,ap,a0.trans bb⟩,W,ab⟩
   rcases am with rfl|rfl
   ·have E:aA (i=k.it (a+1) 3):=by show i=_;rw[q.o,aK ⟨aM rfl,hl⟩,aI ae]
    clear q;go_enter func160,ntmps160;go_wp2_with fail;refine P.mono ?_;clear P;rintro e w1 ⟨rfl,d⟩
    have j:=(cZ c k vt cx).below p.o d;obtain⟨W,_⟩:=eI j;obtain⟨_,ab,_⟩:=gQ j;clear j aB c0;go_wp2_with fail;refine(al.o w1 d).mono ?_;rintro e n ⟨rfl,v⟩
    have g:=d.trans (v.mono d.size)
    go_wp2_with fail;refine(S.o n g).mono ?_;rintro e o ⟨rfl,B⟩
    have hb:=g.trans (B.mono g.size)
    have t:=(cZ c k vt cx).below p.o hb;obtain⟨aR,_⟩:=eI t;obtain⟨_,l0,_⟩:=gQ t;have ad:=ao.o k o.drew ⟨F,(cZ c k vt cx).below t (aH _ o).drew,(cg.of hb).below (aH _ o).drew⟩ (a+1)
    clear d v B g ab W t hb;go_wp2_with fail
    go_region_held3 (fun w'=>w'.cell? (av c.pk 0)=some (aq k.a.pw)/\w'.cell? (av k.a.pw 0)=some (aq k.a.p)) (go_keep)
     (first
       |(go_at_call 191;refine(nW _).mono ?_;rintro e n ⟨rfl,m⟩;have m:=m.symm;subst m)
       |(go_at_call 93;refine ad.mono ?_;clear ad;rintro e N ⟨bd,rfl,u,aV,y1⟩;have l:aA (∃f,(cZ c i vt cx).J f s N/\cg F w f N):=(by rw[E.o];exact u);clear u))
    clear aV y1 aR l0;go_wp2_with fail;go_end0;obtain⟨f,ag,j2⟩:=l.o;exact⟨f,rfl,ag,j2⟩
   ·have E:aA (i=(k.it (a+1) 3).it (a+2) 3):=by show i=_;rw[q.o,aK ⟨aL rfl,hl⟩,aK rfl]
    go_enter func160,ntmps160;go_wp2_with fail;refine P.mono ?_;rintro e w1 ⟨rfl,d⟩
    have j:=(cZ c k vt cx).below p.o d;obtain⟨W,_⟩:=eI j;obtain⟨_,ab,_⟩:=gQ j;go_wp2_with fail;refine(al.o w1 d).mono ?_;rintro e n ⟨rfl,v⟩
    have g:=d.trans (v.mono d.size)
    go_wp2_with fail;refine(S.o n g).mono ?_;rintro e o ⟨rfl,B⟩
    have hb:=g.trans (B.mono g.size)
    have t:=(cZ c k vt cx).below p.o hb;obtain⟨aR,_⟩:=eI t;obtain⟨_,l0,_⟩:=gQ t;have ad:=ao.o k o.drew ⟨F,(cZ c k vt cx).below t (aH _ o).drew,(cg.of hb).below (aH _ o).drew⟩ (a+1)
    go_wp2_with fail
    go_region_held3 (fun w'=>w'.cell? (av c.pk 0)=some (aq k.a.pw)/\w'.cell? (av k.a.pw 0)=some (aq k.a.p)) (go_keep)
     (first
       |(go_at_call 191;refine(nW _).mono ?_;rintro e n ⟨rfl,m⟩;have m:=m.symm;subst m)
       |(go_at_call 93;refine ad.mono ?_;rintro e N ⟨bd,rfl,u,aV,y1⟩;have l:=hide u;clear u))
    have ad:Calls prog 93 #[aq k.a.p,ak (a+2),ak 3] N.drew fun e w'=>∃b,e=.returned (.bool b)/\(∃f,(cZ c i vt cx).J f s w'/\cg F w f w')/\w'.cell? (av c.pk 0)=some (aq k.a.pw)/\w'.cell? (av k.a.pw 0)=some (aq k.a.p):=by rw[E.o];obtain⟨f,ag,j2⟩:=l.o;exact ao.o (k.it (a+1) 3) N.drew ⟨f,(cZ c _ vt cx).below ag (aH _ N).drew,j2.below (aH _ N).drew⟩ (a+2)
    go_wp2_with fail
    go_region_held3 (fun w'=>w'.cell? (av c.pk 0)=some (aq k.a.pw)/\w'.cell? (av k.a.pw 0)=some (aq k.a.p)) (go_keep)
     (first
       |(go_at_call 191;refine(nW _).mono ?_;rintro e n ⟨rfl,m⟩;have m:=m.symm;subst m)
       |(go_at_call 93;refine ad.mono ?_;rintro e bl ⟨bn,rfl,u,z0,bo⟩;have l:=hide u;clear u))
    go_wp2_with fail;go_end0;obtain⟨f,ag,j2⟩:=l.o;exact⟨f,rfl,ag,j2⟩
 ·have E:aA (i=k):=by show i=k;rw[q.o,aI (fun an=>am an.1)]
  go_enter func160,ntmps160;go_wp2_with fail;refine P.mono ?_;rintro e w1 ⟨rfl,d⟩
  have l:aA ((cZ c i vt cx).J F s w1/\cg F w F w1):=by rw[E.o];exact⟨(cZ c k vt cx).below p.o d,cg.of d⟩
  go_wp2_with fail;refine a5 (results_none rfl _ _ _) rfl ?_;exact⟨F,rfl,l.o.1,l.o.2⟩
end
def dp (c:ft)(k0:cf)(s:cy)(vt b:Value):dx cf where
 J F k w:=(cZ c k vt b).J F s w/\k.a=k0.a/\k.Y=k0.Y/\k.G=k0.G
 lt:=fun h=>(cZ c _ vt b).lt h.1
 keep:=fun h hs hk=>⟨(cZ c _ vt b).keep h.1 hs hk,h.2⟩
def cf.gZ (k:cf)(s:cy)(a:Int):Nat->cf
 |0=>k
 |n+1=>(k.gZ s a n).it (a+1+n) (k.nw s ((k.gZ s a n).ld (a+1+n)))
def cf.j8 (k:cf)(s:cy)(a:Int):cf:=(k.brk s a).gZ s a (pf (k.ld a)).toNat
theorem cf.kC {k k0:cf}(s:cy)(x:Int)(b:k.Y=k0.Y)(c:k.G=k0.G):k.nw s x=k0.nw s x:=by unfold cf.nw cf.jt cf.T;rw[b,c]
theorem tY (k:cf)(s:cy)(a:Int):(k.brk s a).a=k.a/\(k.brk s a).Y=k.Y/\(k.brk s a).G=k.G:=by
 unfold cf.brk;split
 ·split<;>exact⟨rfl,rfl,rfl⟩
 ·exact⟨rfl,rfl,rfl⟩
section
variable {c:ft}{k0 k:cf}{vt cx:Value}{F:Nat->Prop}{s:cy}{w:az}{bp:Nat}
theorem iu (h:(dp c k0 s vt cx).J F k w):w.cell? (av c.pk 0)=some (aq k0.a.pw)/\w.cell? (av c.pk 3)=some (.map (some c.ct))/\w.cell? (av k0.a.pw 0)=some (aq k0.a.p)/\Mp w c.ct k0.T s.f/\At w k0.a.p k0.a.q k0.a.N k0.a.O k.s.y k.s.g k.s.ws:=by
 obtain⟨h,ea,e,f⟩:=h;obtain⟨b,_,_,g,_⟩:=eI h;obtain⟨d,c0,_⟩:=gQ h;obtain⟨hM,_⟩:=pj h;rw[ea] at b d c0;have i:k.T=k0.T:=by unfold cf.T;rw[e,f]
 rw[i] at hM;exact⟨b,g,c0,hM,d⟩
theorem FU (h:(dp c k0 s vt cx).J F k w)(a:Int):Calls prog 98 #[aq k0.a.p,ak a] w fun e w'=>e=.returned (ak (k.ld a))/\Below w.heap.size w w':=by
 have e:k.ld a=ld k0.a.N k.s.y k.s.g k.s.ws a:=by unfold cf.ld;rw[h.2.1]
 rw[e];exact jS a w (iu h).2.2.2.2
theorem yW (h:(dp c k0 s vt cx).J F k w)(x:Int):Calls prog 156 #[aq c.pk,ak x] w fun e w'=>e=.returned (ak (k0.nw s x))/\Below w.heap.size w w':=by have P:=yI h.1 x;rw[cf.kC s x h.2.2.1 h.2.2.2] at P;exact P
theorem FV (h:(dp c k0 s vt cx).J F k w)(a x:Int):Calls prog 93 #[aq k0.a.p,ak a,ak x] w fun e w'=>∃b d,e=.returned (.bool b)/\(dp c k0 s vt cx).J d (k.it a x) w'/\cg F w d w':=by
 obtain⟨h,ea,f,g⟩:=h;obtain⟨i,j⟩:=oo h;rw[<-ea];refine(lx a x w i).mono ?_;rintro e l ⟨rfl,m,n⟩
 obtain⟨o,p,q⟩:=j l _ _ _ m n;exact⟨_,o,rfl,⟨p,ea,f,g⟩,q⟩
theorem FX (h:(dp c k0 s vt cx).J F k w)(a:Int)(ha:0<=a/\a<=2000):Calls prog 160 #[aq c.pk,ak a] w fun e w'=>∃b,e=.returned (.tuple #[])/\(dp c k0 s vt cx).J b (k.brk s a) w'/\cg F w b w':=by
 refine(FT h.1 a ha).mono ?_;rintro e m ⟨d,rfl,f,g⟩
 obtain⟨i,j,l⟩:=tY k s a;exact⟨d,rfl,⟨f,i.trans h.2.1,j.trans h.2.2.1,l.trans h.2.2.2⟩,g⟩
theorem FY (h:(dl (dp c k0 s vt cx) bp (du c)).J F k w)(a:Int)(ha:0<=a/\a<=2000)(m:Nat)(hm:m<=12):
 Calls prog 159 #[ak a,ak (1+m),aq bp] w fun e w'=>∃ad,e=.returned (.tuple #[])/\(dl (dp c k0 s vt cx) bp (du c)).J ad ((k.brk s a).gZ s a m) w'/\cg F w ad w':=by
 have ag:aA (∀x,(k.brk s a).nw s x=k0.nw s x):=by obtain⟨_,a0,a1⟩:=tY k s a;obtain⟨_,⟨_,_,g2,g3⟩,_⟩:=h;exact fun x=>cf.kC s x (a0.trans g2) (a1.trans g3)
 obtain⟨br,h0,f,lb,o⟩:=gR h;have P:=FX h0 a ha;have q:=hide o;have t:w.cell? (av bp 0)=some (aq c.pk):=aD f
 generalize k.brk s a=k1 at P ag⊢;go_enter func159,ntmps159;go_wp2_with fail;refine P.mono ?_;rintro e w1 ⟨a2,rfl,a3,ba⟩
 obtain⟨bb,bd⟩:=q.o a2 _ w1 a3 ba;go_wp2_with fail
 go_loopw [5] (fun iv wr=>∃(j:Nat)(g:Nat->Prop),j<=m/\iv=ak (a+1+j)/\aA ((dl (dp c k0 s vt cx) bp (du c)).J g (k1.gZ s a j) wr/\cg F w g wr)) (fun iv _=>m-(intOf iv-a-1).toNat)
 exact⟨0,_,a4 _,aj,⟨bb,bd⟩⟩
 ·
   obtain⟨j,g,bs,rfl,d⟩:=hrel;by_cases bt:j<m
   ·obtain⟨ai,i,f,lb,o⟩:=gR d.o.1;have q:=hide o;have al:=c7 f lb;have u:=hide i;have t:wr.cell? (av bp 0)=some (aq c.pk):=aD f
    obtain⟨bx,_,c0,_,_⟩:=iu i;have am:=FU ((dp c k0 s vt cx).below i (aH _ wr).drew) (a+1+j)
    have l:aA (k1.gZ s a (j+1)=(k1.gZ s a j).it (a+1+j) (k0.nw s ((k1.gZ s a j).ld (a+1+j)))):=by show _=_;rw[<-ag.o];rfl
    generalize (k1.gZ s a j).ld (a+1+j)=x at am l;obtain⟨v,an⟩:∃v,k1.gZ s a (j+1)=v:=⟨_,rfl⟩
    rw[an] at l;have be:=hide an;generalize k1.gZ s a j=ao at u d i l;go_wp2_with fail
    go_region_held3 (fun w'=>w'.cell? (av bp 0)=some (aq c.pk)/\w'.cell? (av c.pk 0)=some (aq k0.a.pw)/\w'.cell? (av k0.a.pw 0)=some (aq k0.a.p)) (go_keep)
     (first
       |(go_at_call 98;refine am.mono ?_;rintro e B ⟨rfl,bg⟩;have N:Below wr.heap.size wr B:=((aH _ wr).drew).trans (bg.mono ac);have ap:=(dp c k0 s vt cx).below u.o N;obtain⟨y1,_,b0,_,_⟩:=iu ap;have b1:=(N.cell (p:=av bp 0) al.o.2).trans t;have S:aA ((dp c k0 s vt cx).J ai ao B/\Below wr.heap.size wr B):=⟨ap,N⟩)
       |(go_at_call 156;refine(yW S.o.1 x).mono ?_;rintro e ar ⟨rfl,bi⟩;have W:=S.o.2.trans (bi.mono S.o.2.size);have aB:=(dp c k0 s vt cx).below u.o W;obtain⟨b2,_,b3,_,_⟩:=iu aB;have z0:=(W.cell (p:=av bp 0) al.o.2).trans t;have aF:aA ((dp c k0 s vt cx).J ai ao ar/\Below wr.heap.size wr ar):=⟨aB,W⟩)
       |(go_at_call 93;refine(FV aF.o.1 (a+1+j) (k0.nw s x)).mono ?_;rintro e n ⟨b4,ab,rfl,aR,bl⟩;obtain⟨r1,_,b5,_,_⟩:=iu aR;obtain⟨aV,bn⟩:=q.o ab _ n aR ((cg.of aF.o.2).trans bl);have r0:n.cell? (av bp 0)=some (aq c.pk):=(by obtain⟨_,_,e6,_⟩:=aV;simp[World.cell?,e6]);have bo:aA ((dl (dp c k0 s vt cx) bp (du c)).J (fun b=>ab b\/b=bp) v n/\cg F w (fun b=>ab b\/b=bp) n):=⟨(by rw[l.o];exact aV),d.o.2.trans bn⟩))
    go_wp2_with fail;go_roundw
    case rel=>exact⟨j+1,_,aa,aj,by rw[be.o];exact bo⟩
    case measure=>simp[intOf];omega
   ·obtain rfl:j=m:=aa;go_wp2_with fail;go_end0;exact⟨g,rfl,d.o.1,d.o.2⟩
end
def cf.f7 (k:cf)(s:cy):Nat->cf
 |0=>k
 |n+1=>(k.f7 s n).qN n (k.nw s ((k.f7 s n).s.rs.getD n 0))
def cf.oq (k:cf)(s:cy)(l:List Int):cf:=hJ (fun(_:cf) a=>s.f a) (fun k a=>k.j8 s a) k l
def cf.ct (k:cf)(t:cy×List ce)(x:Int):Int×(cy×List ce):=((k.mp t.1 x).1,((k.mp t.1 x).2,t.2))
def cf.tS (k:cf)(t:cy×List ce)(r:List ce):cy×List ce:=fE (dU cy) (fun s x=>k.al s.1 x) k.ct t r
def cf.tR (k:cf)(t:cy×List ce)(r:List ce):List ce:=eV (dU cy) (fun s x=>k.al s.1 x) k.ct (fun s x=>k.nw s.1 x) t r
def cf.iw (k:cf)(t:cy×List ce)(r:List ce):List ce:=eW (dU cy) (fun s x=>k.al s.1 x) k.ct (fun s x=>k.nw s.1 x) t r
theorem FZ:dS 159:=gw func159 ah rfl
section
variable {c:ft}{k0 k:cf}{vt cx vr:Value}{F:Nat->Prop}{s:cy}{w:az}{bp:Nat}
theorem F0 (h:(dp c k0 s vt cx).J F k w)(i:Nat)(x:Int):∃b,(dp c k0 s vt cx).J b (k.qN i x) (w.setCell ⟨k0.a.nb,i,none⟩ (.int .i64 x))/\cg F w b (w.setCell ⟨k0.a.nb,i,none⟩ (.int .i64 x)):=by obtain⟨h,ea,f,g⟩:=h;obtain⟨b,d,e⟩:=FS h i x;rw[ea] at d e;exact⟨b,⟨d,ea,f,g⟩,e⟩
theorem tZ (h:(dp c k0 s vt cx).J F k w):w.cell? (av k0.a.pw 3)=some (.slice (au k0.a.nb) 12 12)/\∀i,i<12->w.cell? (av k0.a.nb i)=some (ak (k.s.rs.getD i 0))/\w.frozen? (av k0.a.nb i)=false:=by obtain⟨h,ea,d,e⟩:=h;obtain⟨_,b,_⟩:=pr h;obtain⟨_,_,_,c3,_,_,_,rt⟩:=jZ b;rw[ea] at c3 rt;exact⟨c3,rt⟩
theorem F1 (h:(dl (dp c k0 s vt cx) bp (du c)).J F k w)(ht:k0.T.length<=4000)(hp:∀a∈k0.T,0<=a/\a<=2000){ad:Option Addr}{g B:Nat}(hr:w.ownsRow B 3 1 (.slice ad k0.T.length g) k0.T.length (k0.T.map (Value.int .i64)))(hB:∀b,F b->b<B):
 Calls prog 157 #[aq c.pk,.slice ad k0.T.length g,.func (.func 159) #[] #[aq bp]] w fun e w'=>∃f,e=.returned (.tuple #[])/\(dl (dp c k0 s vt cx) bp (du c)).J f (k.oq s k0.T) w'/\cg F w f w':=by
 have E:=yU _ (fun(_:cf) a=>s.f a) (fun k a=>pf (k.ld a)) (fun k a=>k.j8 s a) (fun _ _=>True) k0.T c.pk k0.a.pw k0.a.p c.ct 159 #[.pointer _] FZ k0.T ad g F k w
  (by
    rintro F t l a n;obtain⟨_,d,_⟩:=gR n;obtain⟨c0,c3,c5,hM,o⟩:=iu d;refine⟨c0,c3,c5,hM,(gy a l o).mono ?_⟩
    rintro r w' ⟨rfl,hb⟩
    have p:pf (t.ld a)=pf (ld k0.a.N t.s.y t.s.g t.s.ws a):=by unfold cf.ld;rw[d.2.1]
    exact⟨pk _,pc _,by rw[p],hb⟩)
  (fun t a=>dr _) (fun a ha=>⟨by have:=hp a ha;omega,ha⟩) aa
  (by
    rintro j F t l m _ q _;have hm:k0.T.getD j 0∈k0.T:=by rw[aJ,aN m];exact a8 m
    have d:=hp _ hm;have i:=dr (t.ld (k0.T.getD j 0))
    have P:=FY q _ d (pf (t.ld (k0.T.getD j 0))).toNat aa;rw[show(((pf (t.ld (k0.T.getD j 0))).toNat:Nat):Int)=pf (t.ld (k0.T.getD j 0)) from by omega] at P;exact P)
  (fun _ _ _ _=>trivial) trivial h (gX hr)
  (fun u z e hz=>by obtain⟨b,cap,v⟩:=eT hr u;cases v;cases e;have i:=(cu hr b rfl).1;have:=hB b hz;omega)
 refine E.mono ?_;rintro r w' ⟨f,rfl,d,i,_⟩
 exact⟨f,rfl,d,i⟩
theorem F4 {o:Option Addr}{p:Nat}{r:List ce}(B:vr=.slice o r.length p){t:cy×List ce}(h:(df (dW c k) c.bs vr).J F t w)(hr:w.ownsRow 0 103 2 vr r.length (ev r))(hq:t.2.length+r.length<=90000)(bx f:Nat)(N:bx≠f)(S:w.heap[bx]?=some (du c))(hy:w.heap[f]?=some (jG (kA c)))(hn:¬F bx)(hm:¬F f):
 Calls prog 78 #[aq c.bs,.agg #[(i7 bx).v,(ir f).v,(ju c).v]] w fun e w'=>∃a1 c1 n,e=.returned (.tuple #[])/\(df (dW c k) c.bs (.slice a1 (k.tR t r).length c1)).J n ((k.tS t r).1,k.iw t r) w'/\
  w'.ownsRow 0 103 2 (.slice a1 (k.tR t r).length c1) (k.tR t r).length (ev (k.tR t r))/\(∀b,some b=(Value.slice a1 (k.tR t r).length c1).ownBlock->¬n b/\w.heap.size<=b)/\Fr (fun b=>F b\/b=f\/b=bx) w w'/\(∀b,n b->F b\/w.heap.size<=b):=by
 subst B;refine(ql _ (fun _=>True) (i7 bx) (ir f) (ju c) _ _ _ (qm _ c.bs _ (fun _=>True) (i7 bx) (ir f) (ju c) k.al k.mp k.nw tJ tK tL (tO bx f (kA c)) (s_ (yK f)) (mc (mc tN))) r o p rfl aa (fun _ _=>⟨trivial,trivial⟩) _ t w (fun _ _=>⟨trivial,trivial⟩) hq (ks (ks h hy hm) S (fun d=>d.elim hn N)) (hZ hr)).mono ?_;rintro e w' ⟨a1,c1,a2,c2,W,aR,rfl,⟨q,ad,cap,⟨fD,⟨g,g1,aV,ab,s⟩,g2,g3,g4⟩,a0,a3,ag,ba,ai,bb,bd⟩,q3,al,i,j,l,am,an,ao,ap,ar⟩
 have i:w'.heap[c.bs]?=some (.cells #[.slice a1 (k.tR t r).length c1,.slice a2 (k.iw t r).length c2] 153 (0,0)):=i;have j:=j;have l:=l;have u:∀b,g b->q b:=fun b hb=>(g4 b).2 (aM ((s b).2 (aM hb)))
 have m:∀b,g b->W b:=fun b hb=>ag b (u b hb)
 have v:∀b,g b->b≠c.bs:=fun b hb e=>ai (by show q c.bs;rw[<-e];exact u b hb)
 have x:=(dW c k).keep (w':=w') g1 al (fun b hb=>q3 b (m b hb) (v b hb))
 have aB:F c.bs:=by obtain⟨_,_,_,_,_,_,_,aF,_⟩:=h;exact aF
 refine⟨a1,c1,fun b=>g b\/b=c.bs\/some b=(Value.slice a2 (k.iw t r).length c2).ownBlock,rfl,⟨g,a2,c2,x,i,e8 l (fun _ _=>a4 _),fun b hb=>aM hb,aL (aM rfl),fun d=>v _ d rfl,fun b e=>⟨aL (aL e),fun d=>ap b e (m b d)⟩,fun b hb=>?_⟩,e8 j (fun _ _=>a4 _),fun b e=>⟨fun d=>?_,(cu j b e).1⟩,am.mono (fun b d=>?_),fun b hb=>?_⟩
 ·rcases hb with hb|hb|hb
  ·exact(dW c k).lt x b hb
  ·rw[hb];exact lt_of_some i
  ·exact(cu l b hb).2
 ·rcases d with d|d|d
  ·exact ao b e (m b d)
  ·obtain⟨be,hc⟩:=fp j b e;rw[d,i] at hc;simp at hc
  ·exact ar b e d
 ·rcases d with(d|d)|d
  ·exact aM d
  ·exact aL (aM d)
  ·exact aL (aL d)
 ·rcases hb with hb|hb|hb
  ·rcases an b (m b hb) with((d|d)|d)|d
   ·exact aM d
   ·exact absurd hb (by rw[d];exact ab)
   ·exact absurd ((s b).2 (aM hb)) (by rw[d];exact g3)
   ·exact aL d
  ·exact aM (by rw[hb];exact aB)
  ·exact aL (cu l b hb).1
end
def cf.fj (k:cf)(s:cy):cf:=(k.f7 s 12).oq s k.T
section
variable {c:ft}{k0 k:cf}{vt cx vr:Value}{F:Nat->Prop}{s:cy}{w:az}{bp:Nat}
theorem c8.of {k k0:cf}(h:c8 k0 s)(b:k.Y=k0.Y)(c:k.G=k0.G):c8 k s:=by
 have e:k.T=k0.T:=by unfold cf.T;rw[b,c]
 exact⟨by rw[e];exact h.nd,by rw[e];exact h.ps,by rw[e];exact h.td,by rw[e];exact h.ep,by rw[e];exact h.tl,by unfold cf.lost;rw[e];exact h.sum⟩
theorem yX (h:(dp c k0 s vt cx).J F k w):k0.a.nb≠c.pk/\k0.a.nb≠k0.a.pw/\F k0.a.nb:=by
 obtain⟨⟨i,own,h,j⟩,ea,_⟩:=h;have hw:=h.wd;rw[<-ea];have f:=h.w1;obtain⟨m,cT,b,l⟩:=hw;have g:i k.a.nb:=(l _).2 (by rw[b.r1];decide)
 refine⟨fun e=>?_,fun e=>?_,(j _).2 (by rw[(f _).1 g];decide)⟩
 ·have d:=(f _).1 g;rw[e,h.k1] at d;omega
 ·have d:=b.r1;rw[e,b.w1] at d;omega
theorem F5 {cX:Option Addr}{cY:Nat}{r:List ce}(c2:vr=.slice cX r.length cY){t:cy×List ce}(h:(df (dW c k) c.bs vr).J F t w)(hr:w.ownsRow 0 103 2 vr r.length (ev r))(c4:∀b,some b=vr.ownBlock->¬F b)(hq:t.2.length+r.length<=90000){v1 v2:Value}(hs:w.heap[k.a.sd]?=some (.cells #[v1,v2] 153 (0,0)))(cv:¬F k.a.sd):
 Calls prog 83 #[aq c.pk] w fun e w'=>∃a1 c1 o,e=.returned (.tuple #[])/\(df (dW c (k.fj t.1)) c.bs (.slice a1 ((k.fj t.1).tR t r).length c1)).J o (((k.fj t.1).tS t r).1,(k.fj t.1).iw t r) w'/\w'.ownsRow 0 103 2 (.slice a1 ((k.fj t.1).tR t r).length c1) ((k.fj t.1).tR t r).length (ev ((k.fj t.1).tR t r))/\(∀b,some b=(Value.slice a1 ((k.fj t.1).tR t r).length c1).ownBlock->¬o b/\w.heap.size<=b)/\w'.heap[k.a.sd]?=w'.heap[c.bs]?/\¬o k.a.sd/\Fr (fun b=>F b\/b=k.a.sd) w w'/\(∀b,o b->F b\/w.heap.size<=b):=by
 have dH:∀(cw:Fn)(first cap:Array Value)(w:az),(Instr.makeFunc cw first cap).run prog w=.ok (.func cw first cap) w:=fun _ _ _ _=>rfl;obtain⟨S,⟨⟨vt,cx,h0⟩,cz⟩,cA⟩:=jb h;have b4:aA (c8 k t.1):=cz;have c5:=aw w (du c)
 have c6:∀b,S b->b<w.heap.size:=(cZ c k vt cx).lt h0;have b5:(dl (dp c k t.1 vt cx) w.heap.size (du c)).J (fun b=>S b\/b=w.heap.size) k (w.alloc (du c)):=⟨S,⟨(cZ c k vt cx).below h0 c5,rfl,rfl,rfl⟩,aP _ _,fun f=>by have:=c6 _ f;omega,fun b=>Iff.rfl⟩
 obtain⟨_,b6,W,_,_⟩:=gR b5;obtain⟨ba,_,c0,_,_⟩:=iu b6;obtain⟨c3,_⟩:=tZ b6;have am:(w.alloc (du c)).cell? (av w.heap.size 0)=some (aq c.pk):=by simp only [World.cell?];rw[W];rfl
 clear b6 W cz;go_enter func83,ntmps83;go_wp2_with fail
 go_loopw [12] (fun iv wr=>∃(j:Nat)(ab:Nat->Prop),j<=12/\iv=ak j/\aA ((dl (dp c k t.1 vt cx) w.heap.size (du c)).J ab (k.f7 t.1 j) wr/\cg (fun b=>S b\/b=w.heap.size) (w.alloc (du c)) ab wr)) (fun iv _=>12-(intOf iv).toNat)
 case atStart=>exact⟨0,_,a4 _,rfl,⟨b5,cg.refl _ _⟩⟩
 case round=>
  clear b5 am ba c0 c3;obtain⟨j,ab,dJ,rfl,N⟩:=hrel;obtain⟨bb,u,W,lb,b9⟩:=gR N.o.1;have am:wr.cell? (av w.heap.size 0)=some (aq c.pk):=aD W
  obtain⟨ba,_,c0,_,_⟩:=iu u;obtain⟨c3,rt⟩:=tZ u;by_cases ca:j<12
  ·have cB:aA (∀bd be w1,(dp c k t.1 vt cx).J bd be w1->cg bb wr bd w1->(dl (dp c k t.1 vt cx) w.heap.size (du c)).J (fun b=>bd b\/b=w.heap.size) be w1/\cg ab wr (fun b=>bd b\/b=w.heap.size) w1):=b9;have v:aA (wr.heap[w.heap.size]?=some (du c)/\w.heap.size<wr.heap.size/\(dp c k t.1 vt cx).J bb (k.f7 t.1 j) wr):=⟨W,lb,u⟩
   obtain⟨n1,dK,c7⟩:=yX u;have n4:k.a.nb≠w.heap.size:=fun e=>by obtain⟨ad,g1,_,g3,_⟩:=N.o.1;exact g3 (by rw[<-e];exact(yX g1).2.2)
   obtain⟨cC,c9⟩:=rt j ca;have cb:=yW ((dp c k t.1 vt cx).below u (aH _ wr).drew) ((k.f7 t.1 j).s.rs.getD j 0)
   have bg:aA (k.f7 t.1 (j+1)=(k.f7 t.1 j).qN j (k.nw t.1 ((k.f7 t.1 j).s.rs.getD j 0))):=rfl;obtain⟨bi,cc⟩:∃bi,k.f7 t.1 (j+1)=bi:=⟨_,rfl⟩
   rw[cc] at bg;have da:aA (k.f7 t.1 (j+1)=bi):=cc;clear cc u W lb b9 rt c7;generalize (k.f7 t.1 j).s.rs.getD j 0=x at cb bg cC;generalize k.f7 t.1 j=cD at bg v N;have j0:(0:Int)<=(j:Int):=aa;have dL:(j:Int)<12:=aa;go_wp2_with fail
   go_region_held3 (fun w'=>w'.cell? (av w.heap.size 0)=some (aq c.pk)/\w'.cell? (av c.pk 0)=some (aq k.a.pw)/\w'.cell? (av k.a.pw 3)=some (.slice (au k.a.nb) 12 12)) (go_keep)
    (first
      |(go_at_call 156;refine cb.mono ?_;clear cb;rintro e g ⟨rfl,cE⟩;have bl:Below wr.heap.size wr g:=((aH _ wr).drew).trans (cE.mono ac);have ag:=(dp c k t.1 vt cx).below v.o.2.2 bl;obtain⟨y1,_,_,_,_⟩:=iu ag;obtain⟨db,cF⟩:=tZ ag;obtain⟨dc,dd⟩:=cF j ca;have cd:=(bl.cell (p:=av w.heap.size 0) v.o.2.1).trans am;have i:aA ((dp c k t.1 vt cx).J bb cD g/\Below wr.heap.size wr g):=⟨ag,bl⟩;clear cE bl ag cF))
   have B:aA (∃ad,(dl (dp c k t.1 vt cx) w.heap.size (du c)).J ad bi (g.setCell ⟨k.a.nb,j,none⟩ (.int .i64 (k.nw t.1 x)))/\cg (fun b=>S b\/b=w.heap.size) (w.alloc (du c)) ad (g.setCell ⟨k.a.nb,j,none⟩ (.int .i64 (k.nw t.1 x)))):=by
    obtain⟨ad,de,dg⟩:=F0 i.o.1 j (k.nw t.1 x)
    obtain⟨dI,ch⟩:=cB.o ad _ _ de ((cg.of i.o.2).trans dg)
    exact⟨_,by rw[bg.o];exact dI,N.o.2.trans ch⟩
   clear i cB v N cd y1 db dc dd am ba c0 c3 cC c9;go_wp2_with fail;go_roundw
   case rel=>
    obtain⟨ad,dI,ch⟩:=B.o;exact⟨j+1,ad,aa,aj,by rw[da.o];exact⟨dI,ch⟩⟩
   case measure=>simp[intOf];omega
  ·obtain rfl:j=12:=aa;clear ca rt b9;have ci:aA (k.T.length<=4000/\∀a∈k.T,0<=a/\a<=2000):=⟨b4.o.tl,b4.o.ps⟩
   have hd:=(ax wr).drew;have cG:Calls prog 141 #[aq c.pk] wr.drew fun e w'=>∃a f,e=.returned (.slice a k.T.length f)/\w'.ownsRow wr.drew.heap.size 3 1 (.slice a k.T.length f) k.T.length (k.T.map (Value.int .i64))/\Below wr.drew.heap.size wr.drew w':=by
    have e:(k.f7 t.1 12).T=k.T:=by unfold cf.T;rw[u.2.2.1,u.2.2.2]
    have P:=yT (c:=c) (k:=k.f7 t.1 12) (F:=bb) (s:=t.1) (w:=wr.drew) ⟨vt,cx,(cZ c _ vt cx).below u.1 hd⟩ (by rw[e];exact ci.o.1)
    rw[e] at P;exact P
   have v:aA (w.heap.size<wr.heap.size/\(dl (dp c k t.1 vt cx) w.heap.size (du c)).J ab (k.f7 t.1 12) wr.drew/\cg (fun b=>S b\/b=w.heap.size) (w.alloc (du c)) ab wr.drew/\∀b,ab b->b<wr.drew.heap.size):=⟨lb,(dl (dp c k t.1 vt cx) w.heap.size (du c)).below N.o.1 hd,N.o.2.below hd,fun b hb=>by have:=(dl (dp c k t.1 vt cx) w.heap.size (du c)).lt N.o.1 b hb;simpa using this⟩
   have bn:aA (k.fj t.1=(k.f7 t.1 12).oq t.1 k.T):=rfl;obtain⟨d,cj⟩:∃d,k.fj t.1=d:=⟨_,rfl⟩
   rw[cj] at bn;have dh:aA (k.fj t.1=d):=cj;clear cj;generalize k.f7 t.1 12=cD at bn v N u;clear u W lb hd N ba c0 c3;go_wp2_with fail
   go_region_held3 (fun w'=>w'.cell? (av w.heap.size 0)=some (aq c.pk)) (go_keep)
    (first
      |(go_at_call 141;refine cG.mono ?_;clear cG;rintro e ck ⟨di,dj,rfl,cH,cl⟩;have cd:ck.cell? (av w.heap.size 0)=some (aq c.pk):=(cl.cell (p:=av w.heap.size 0) (by have:=v.o.1;simpa using this)).trans am;have bo:aA (ck.ownsRow wr.drew.heap.size 3 1 (.slice di k.T.length dj) k.T.length (k.T.map (Value.int .i64))/\Below wr.drew.heap.size wr.drew ck):=⟨cH,cl⟩;clear cH cl)
      |(go_at_call 157;refine(F1 ((dl (dp c k t.1 vt cx) w.heap.size (du c)).below v.o.2.1 bo.o.2) ci.o.1 ci.o.2 bo.o.1 v.o.2.2.2).mono ?_;rintro e g ⟨bp,rfl,cm,cI⟩;obtain⟨cJ,an,q,_,_⟩:=gR cm;have cK:g.cell? (av w.heap.size 0)=some (aq c.pk):=aD q;clear an q;have cM:aA ((dl (dp c k t.1 vt cx) w.heap.size (du c)).J bp d g/\cg (fun b=>S b\/b=w.heap.size) (w.alloc (du c)) bp g):=⟨(by rw[bn.o];exact cm),(v.o.2.2.1.below bo.o.2).trans cI⟩;clear cm cI))
   all_goals
    have br:aA (∃n,(df (dW c d) c.bs vr).J n (t.1,t.2) g/\¬n w.heap.size/\g.heap[w.heap.size]?=some (du c)/\Fr F w g/\(∀b,n b->F b\/w.heap.size<=b))/\d.a=k.a:=by
     obtain⟨cJ,an,q,dk,dm⟩:=cM.o.1;have cN:=cM.o.2;have dn:cg S w bp g:=⟨(Fr.of (X:=S) (aw w (du c))).trans cN.fr (fun b f=>f.imp id (fun e=>by omega)),fun b hb=>(cN.sub b hb).elim (fun f=>f.imp id (fun e=>by omega)) (fun f=>aL (by simp at f;omega))⟩
     obtain⟨n,hM,cO⟩:=cA (dl (dW c d) w.heap.size (du c)) bp t.1 g ⟨cJ,⟨⟨vt,cx,an.1⟩,b4.o.of an.2.2.1 an.2.2.2⟩,q,dk,dm⟩ dn;obtain⟨g1,g2,g3⟩:=qB hM;exact⟨⟨_,g1,fun f=>f.2 rfl,g2,cO.fr,fun b f=>cO.sub b f.1⟩,an.2.1⟩
    obtain⟨br,dq⟩:=br;obtain⟨n,hM,cP,cn,bs,co⟩:=br.o;have cQ:g.ownsRow 0 103 2 vr r.length (ev r):=cL hr (fun b e=>bs.block b (cu hr b e).2 (c4 b e))
    have cR:g.heap[k.a.sd]?=some (.cells #[v1,v2] 153 (0,0)):=(bs.block _ (lt_of_some hs) cv).trans hs;have cS:∀b,n b->b<g.heap.size:=(df (dW c d) c.bs vr).lt hM;obtain⟨_,⟨⟨dM,dN,ag⟩,_⟩,_⟩:=jb hM;obtain⟨_,_,_,_,cp,_⟩:=eI ag;have cT:=aT g _ cp;have cU:=lt_of_some cn;have ao:¬n k.a.sd/\k.a.sd<w.heap.size:=⟨fun f=>(co _ f).elim cv (fun f=>by have:=lt_of_some hs;omega),lt_of_some hs⟩
    have i:aA ((df (dW c d) c.bs vr).J n (t.1,t.2) g/\g.ownsRow 0 103 2 vr r.length (ev r)/\g.heap[k.a.sd]?=some (.cells #[v1,v2] 153 (0,0))/\(∀b,n b->b<g.heap.size)/\¬n w.heap.size/\w.heap.size<g.heap.size/\(¬n k.a.sd/\k.a.sd<w.heap.size)/\c.pk<g.heap.size/\g.heap[w.heap.size]?=some (du c)):=⟨hM,cQ,cR,cS,cP,cU,ao,cT,cn⟩
    have bt:aA (Fr F w g/\∀b,n b->F b\/w.heap.size<=b):=⟨bs,co⟩
    have dr:aA (∀m,Below g.heap.size g m->m.heap[g.heap.size]?=some (du c)->m.heap[g.heap.size+1]?=some (jG (kA c))->Calls prog 78 #[aq c.bs,.agg #[(i7 g.heap.size).v,(ir (g.heap.size+1)).v,(ju c).v]] m fun e w'=>∃a1 c1 o,e=.returned (.tuple #[])/\(df (dW c d) c.bs (.slice a1 (d.tR t r).length c1)).J o ((d.tS t r).1,d.iw t r) w'/\w'.ownsRow 0 103 2 (.slice a1 (d.tR t r).length c1) (d.tR t r).length (ev (d.tR t r))/\(∀b,some b=(Value.slice a1 (d.tR t r).length c1).ownBlock->¬o b/\m.heap.size<=b)/\Fr (fun b=>n b\/b=g.heap.size+1\/b=g.heap.size) m w'/\(∀b,o b->n b\/m.heap.size<=b)):=fun m aB bx b0=>
     F4 c2 ((df (dW c d) c.bs vr).below i.o.1 aB) (cL i.o.2.1 (fun b e=>aB.block b (cu i.o.2.1 b e).2)) hq g.heap.size (g.heap.size+1) aa bx b0 (fun f=>by have:=i.o.2.2.2.1 _ f;omega) (fun f=>by have:=i.o.2.2.2.1 _ f;omega)
    clear cd am bo v bn hM cQ cR cS cP cU ao cT cn bs co ag br cA h0 hr hs h;go_wp2_with fail
    go_region_held3 (fun w'=>w'.cell? (av w.heap.size 0)=some (aq c.pk)/\w'.cell? (av c.pk 4)=some (aq c.bs)) (go_keep)
     (first
       |(go_at_call 79;refine(tM (kA c) g.drew c.pk).mono ?_;rintro e m ⟨rfl,bx,b0,aB⟩;have b2:Below g.heap.size g m:=((aH _ g).drew).trans (aB.mono ac);have cq:=(b2.cell (p:=av c.pk 4) i.o.2.2.2.2.2.2.2.1).trans cp;have cr:=(b2.cell (p:=av w.heap.size 0) i.o.2.2.2.2.2.1).trans cK;have B:aA (m.heap[g.heap.size]?=some (du c)/\m.heap[g.heap.size+1]?=some (jG (kA c))/\Below g.heap.size g m):=⟨bx,b0,b2⟩;clear bx b0 aB b2)
       |(go_at_call 78;refine(dr.o m B.o.2.2 B.o.1 B.o.2.1).mono ?_;rintro e l ⟨a1,c1,ap,rfl,q,aF,ar,aR,aV⟩;obtain⟨_,⟨⟨ds,dt,cs⟩,_⟩,_⟩:=jb q;obtain⟨u0,_,_,_,dv,_⟩:=eI cs;have dw:l.cell? (av w.heap.size 0)=some (aq c.pk):=(by have ct:=B.o.2.2.block w.heap.size i.o.2.2.2.2.2.1;have e6:=aR.block w.heap.size (by have:=B.o.2.2.size;have:=i.o.2.2.2.2.2.1;omega) (fun f=>by rcases f with f|f|f;(exact i.o.2.2.2.2.1 f);(have:=i.o.2.2.2.2.2.1;omega);(have:=i.o.2.2.2.2.2.1;omega));simp[World.cell?,e6,ct,i.o.2.2.2.2.2.2.2.2]);have b3:aA ((df (dW c d) c.bs (.slice a1 (d.tR t r).length c1)).J ap ((d.tS t r).1,d.iw t r) l/\l.ownsRow 0 103 2 (.slice a1 (d.tR t r).length c1) (d.tR t r).length (ev (d.tR t r))/\(∀b,some b=(Value.slice a1 (d.tR t r).length c1).ownBlock->¬ap b/\m.heap.size<=b)/\Fr (fun b=>n b\/b=g.heap.size+1\/b=g.heap.size) m l/\(∀b,ap b->n b\/m.heap.size<=b)/\(cZ c d ds dt).J _ (d.tS t r).1 l):=⟨q,aF,ar,aR,aV,cs⟩;clear q aF ar aR aV cs))
    all_goals
     clear cq cr cK cp;have a0:aA (l.heap[k.a.sd]?=some (.cells #[v1,v2] 153 (0,0))):=by have l1:=i.o.2.2.2.2.2.2.1;have l2:=i.o.2.2.2.2.2.1;have dx:=B.o.2.2.size;exact((b3.o.2.2.2.1.block k.a.sd aa (fun f=>by rcases f with f|f|f;(exact l1.1 f);omega;omega)).trans (B.o.2.2.block k.a.sd aa)).trans i.o.2.2.1
     obtain⟨_,cV,_⟩:=pr b3.o.2.2.2.2.2;obtain⟨_,_,cW,_⟩:=jZ cV;rw[dq] at cW u0;obtain⟨dO,ai,al,_,a2,_⟩:=b3.o.1;have dy:l.cell? (av c.bs 0)=some (.slice a1 (d.tR t r).length c1):=aD a2
     have b1:l.cell? (av c.bs 1)=some (.slice ai (d.iw t r).length al):=aD a2
     have s0:l.cell? (av k.a.sd 0)=some v1:=aD a0.o
     have s1:l.cell? (av k.a.sd 1)=some v2:=aD a0.o
     have t0:l.frozen? (av k.a.sd 0)=false:=aE a0.o
     have be:l.frozen? (av k.a.sd 1)=false:=aE a0.o
     have dz:aA (∃o,(df (dW c d) c.bs (.slice a1 (d.tR t r).length c1)).J o ((d.tS t r).1,d.iw t r) ((l.setCell ⟨k.a.sd,0,none⟩ (.slice a1 (d.tR t r).length c1)).setCell ⟨k.a.sd,1,none⟩ (.slice ai (d.iw t r).length al)).drew/\((l.setCell ⟨k.a.sd,0,none⟩ (.slice a1 (d.tR t r).length c1)).setCell ⟨k.a.sd,1,none⟩ (.slice ai (d.iw t r).length al)).drew.ownsRow 0 103 2 (.slice a1 (d.tR t r).length c1) (d.tR t r).length (ev (d.tR t r))/\(∀b,some b=(Value.slice a1 (d.tR t r).length c1).ownBlock->¬o b/\w.heap.size<=b)/\((l.setCell ⟨k.a.sd,0,none⟩ (.slice a1 (d.tR t r).length c1)).setCell ⟨k.a.sd,1,none⟩ (.slice ai (d.iw t r).length al)).drew.heap[k.a.sd]?=((l.setCell ⟨k.a.sd,0,none⟩ (.slice a1 (d.tR t r).length c1)).setCell ⟨k.a.sd,1,none⟩ (.slice ai (d.iw t r).length al)).drew.heap[c.bs]?/\¬o k.a.sd/\Fr (fun b=>F b\/b=k.a.sd) w ((l.setCell ⟨k.a.sd,0,none⟩ (.slice a1 (d.tR t r).length c1)).setCell ⟨k.a.sd,1,none⟩ (.slice ai (d.iw t r).length al)).drew/\(∀b,o b->F b\/w.heap.size<=b)):=by
      have l1:=i.o.2.2.2.2.2.2.1;have l2:=i.o.2.2.2.2.2.1;have dx:=B.o.2.2.size;obtain⟨q,aF,ar,aR,aV,_⟩:=b3.o;have ao:¬ap k.a.sd:=fun f=>(aV _ f).elim l1.1 (fun f=>by omega)
      have a3:Fr (fun b=>b=k.a.sd) l ((l.setCell ⟨k.a.sd,0,none⟩ (.slice a1 (d.tR t r).length c1)).setCell ⟨k.a.sd,1,none⟩ (.slice ai (d.iw t r).length al)).drew:=(((Fr.refl (fun b=>b=k.a.sd) l).set k.a.sd 0 _ rfl).set k.a.sd 1 _ rfl).drew;have dA:ap c.bs:=by obtain⟨_,_,_,_,_,_,_,ct,_⟩:=q;exact ct
      have dB:Fr F w l:=(bt.o.1.trans (Fr.of (X:=F) B.o.2.2) (fun b f=>aM f)).trans aR (fun b f=>by
       have:=bt.o.1.size;rcases f with f|f|f
       ·exact bt.o.2 b f
       ·exact aL aa
       ·exact aL aa)
      refine⟨ap,(df (dW c d) c.bs _).keep q a3.size (fun b hb=>a3.block b ((df (dW c d) c.bs _).lt q b hb) (fun e=>ao (by rw[<-e];exact hb))),cL aF (fun b e=>a3.block b (cu aF b e).2 (fun dP=>by have:=(ar b e).2;omega)),fun b e=>⟨(ar b e).1,by have:=(ar b e).2;omega⟩,?_,ao,(dB.mono (fun b f=>aM f)).trans a3 (fun b e=>aM (aL e)),fun b hb=>(aV b hb).elim (bt.o.2 b) (fun f=>aL aa)⟩
      rw[a3.block c.bs (lt_of_some a2) (fun e=>ao (by rw[<-e];exact dA)),a2];show((l.setCell _ _).setCell _ _).heap[k.a.sd]?=_;simp only [World.setCell,Array.getElem?_modify,if_true,a0.o,Option.map_some];simp
     clear cV a2;go_wp2_with fail
     go_region
     clear dy b1 s0 s1 t0 be cW u0 dv dw;obtain⟨o,dC,dD,dE,cq,cr,dF,dG⟩:=dz.o;go_end0;rw[dh.o];exact⟨a1,c1,o,rfl,dC,dD,dE,cq,cr,dF,dG⟩
end
def cf.lL (k:cf)(t f n:Nat):cf:=k.ar k.s.y k.s.g (splice k.s.ws t ((k.s.ws.drop f).take n))
def cf.cop (k:cf)(a:Int):cf:=k.ar k.s.y (jU k.a.N k.a.O k.s.y k.s.g k.s.ws a) (jV k.a.N k.a.O k.s.y k.s.g k.s.ws a)
section
variable {c:ft}{k0 k:cf}{vt cx:Value}{F:Nat->Prop}{s:cy}{w:az}{bp gg:Nat}
theorem F6 (h:(dp c k0 s vt cx).J F k w)(t f n:Nat)(d:t+n<=k0.a.N+k0.a.O)(h2:f+n<=k0.a.N+k0.a.O):Calls prog 162 #[aq k0.a.p,ak t,ak f,ak n] w fun e w'=>∃b,e=.returned (.tuple #[])/\(dp c k0 s vt cx).J b (k.lL t f n) w'/\cg F w b w':=by obtain⟨h,ea,tU,tW⟩:=h;obtain⟨g,hU⟩:=oo h;rw[<-ea];refine(wM t f n w g (by rw[ea];exact d) (by rw[ea];exact h2)).mono ?_;exact tT
theorem F7 (h:(dp c k0 s vt cx).J F k w)(a:Int):Calls prog 165 #[aq k0.a.p,ak a] w fun e w'=>∃b v,e=.returned (ak v)/\(dp c k0 s vt cx).J b (k.cop a) w'/\cg F w b w':=by
 obtain⟨h,ea,d,f⟩:=h;obtain⟨g,i⟩:=oo h;rw[<-ea];refine(w7 a w g).mono ?_;rintro e j ⟨rfl,l,m⟩
 obtain⟨n,o,p⟩:=i j _ _ _ l m;exact⟨n,_,rfl,⟨o,ea,d,f⟩,p⟩
theorem F8 {u:Int}(h:(h_ (dl (dp c k0 s vt cx) bp (du c)) gg).J F (k,u) w)(a:Int)(m:Nat)(ha:a∈k0.T)(hp:0<=a/\a<=2000)(x:0<=s.f a)(B:s.f a+m<=k0.a.N+k0.a.O)(N:a+m<=k0.a.N+k0.a.O)(bg:0<=u/\u<=100000)(hm:m<=13):
 Calls prog 161 #[ak a,ak m,aq bp,aq gg] w fun e w'=>∃j,e=.returned (.tuple #[])/\(h_ (dl (dp c k0 s vt cx) bp (du c)) gg).J j (k.lL (s.f a).toNat a.toNat m,u+m) w'/\cg F w j w':=by
 have l:=jp hp.1 aa;obtain⟨bi,g1,_,_,S⟩:=lK h;obtain⟨g,g2,W,lb,ab⟩:=gR g1;have ad:w.cell? (av bp 0)=some (aq c.pk):=aD W
 obtain⟨ag,ai,c0,_,_⟩:=iu g2;have n:=(dp c k0 s vt cx).below g2 (aH _ w).drew;obtain⟨_,_,_,⟨D,o1,bl,al⟩,_⟩:=iu n;obtain⟨z,i,am,bo⟩:=o1.lookup_int (t:=127) (e:=3) (q:=.i64) iY underlying127 underlying3 (l8 _) l;obtain rfl:z=s.f a:=by have:=am.symm.trans (al a ha);simpa using this
 obtain⟨tn,ao⟩:=Int.eq_ofNat_of_zero_le x;obtain⟨an,ap⟩:=Int.eq_ofNat_of_zero_le hp.1;rw[ao] at i B⊢;rw[ap] at i N l⊢;have P:=F6 n tn an m aa aa;rw[Int.toNat_natCast,Int.toNat_natCast];have ar:aA (∀b d w1,(dp c k0 s vt cx).J b d w1->cg g w b w1->∃f,(h_ (dl (dp c k0 s vt cx) bp (du c)) gg).J f (d,u) w1/\cg F w f w1):=fun b d w1 aB t=>by obtain⟨j2,aF⟩:=ab b d w1 aB t;obtain⟨cH,t3⟩:=S _ d w1 j2 aF;exact⟨_,cH,t3⟩
 have aR:aA (cg g w g w.drew):=cg.of (aH _ w).drew;go_enter func161,ntmps161;go_wp2_with fail
 go_region_held3 (fun w'=>w'.cell? (av bp 0)=some (aq c.pk)/\w'.cell? (av c.pk 0)=some (aq k0.a.pw)/\w'.cell? (av c.pk 3)=some (.map (some c.ct))/\w'.cell? (av k0.a.pw 0)=some (aq k0.a.p)) (go_keep)
  (first
    |(go_at_call 162;refine P.mono ?_;rintro e o ⟨b,rfl,cH,t3⟩;obtain⟨aV,a0,a1,_,_⟩:=iu cH;have a2:=ar.o b _ o cH (aR.o.trans t3);obtain⟨f,cJ,p⟩:=a2;have a3:=(om cJ).1;have br:=(om cJ).2;dsimp only at a3;have ba:o.cell? (av bp 0)=some (aq c.pk):=(by obtain⟨_,bb,_⟩:=lK cJ;obtain⟨_,_,bd,_⟩:=gR bb;simp[World.cell?,bd]);have v:aA (_/\_):=⟨cJ,p⟩;clear cH t3 cJ p))
 all_goals
  clear ad ag ai c0 aV a0 a1 ba i;go_wp2_with fail;go_end0;obtain⟨dI,be⟩:=yV v.o.1 (u+m)
  exact⟨f,rfl,dI,v.o.2.trans be⟩
theorem F9 (h:(dl (dp c k0 s vt cx) bp (du c)).J F k w)(a m:Int):
 Calls prog 164 #[ak a,ak m,aq bp] w fun e w'=>∃b,e=.returned (.tuple #[])/\(dl (dp c k0 s vt cx) bp (du c)).J b (k.cop a) w'/\cg F w b w':=by
 obtain⟨n,g2,f,lb,g⟩:=gR h;have o:w.cell? (av bp 0)=some (aq c.pk):=aD f
 obtain⟨p,q,c0,_,_⟩:=iu g2;go_enter func164,ntmps164;go_wp2_with fail;refine(F7 g2 a).mono ?_;rintro e w1 ⟨i,v,rfl,j,l⟩
 have d:=hide ((hide g).o i _ w1 j l)
 go_wp2;go_end0;exact⟨_,rfl,d.o.1,d.o.2⟩
end
end Go.Proofs.YtpkjkjhanlbcoaaGreat
