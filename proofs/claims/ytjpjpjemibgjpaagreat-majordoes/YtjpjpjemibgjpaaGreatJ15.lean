import Derived.Test.YtjpjpjemibgjpaaGreatVr6
import Derived.Laws.EntriesVeiled
import Derived.Test.YtjpjpjemibgjpaaGreatJ02
import Derived.Test.YtjpjpjemibgjpaaGreatJ04
import Derived.Deep.Slices
import Derived.Lib.SmallJoins
import Derived.Test.YtjpjpjemibgjpaaGreatJ05
import Derived.Test.YtjpjpjemibgjpaaGreatJ06
import Derived.Test.YtjpjpjemibgjpaaGreatJ01
import Derived.Test.YtjpjpjemibgjpaaGreatJ00
import Derived.Test.YtjpjpjemibgjpaaGreatJ07
import Derived.Test.YtjpjpjemibgjpaaGreatJ03
namespace Go.Proofs.YtjpjpjemibgjpaaGreat
set_option maxRecDepth 100000
set_option maxHeartbeats 8000000
open Tryz
namespace ig
open Go.RowKit W Kp bY
theorem xU {w0:World}{i g j fb rp:Nat}{T:List cE}{wt:List bN}(o:Rd w0 g rp T wt)(hw:jY T wt):∀n,lE w0 i g j fb T (met (tI T.length) (eJ T) (eS T wt) n) n:=by
 intro n
 induction n with
 |zero=>
  intro w s p q vr m v h hO f l;have hl:s.1.length<=100000:=by have k:=hO.le;rw[js] at k;have:=hw.l1;omega
  by_cases b:v.1=3
  ·cases hs:s.1.contains v.2
   ·exfalso;have k:=hO.lt (mo.2 (f.lt b)) (fun c=>by rw[List.contains_iff_mem.2 c] at hs;cases hs)
    rw[js] at k;omega
   ·rw[sq f b hs];have e:iM v.1 v.2 i g j fb=iM 3 v.2 i g j fb:=by rw[b]
    rw[e];refine(ss h v.2 hl hs).mono ?_;rintro e w' ⟨rfl,d⟩
    exact⟨_,_,m,rfl,h.below d,Kx.of d⟩
  ·rw[so f b];refine(sr w v.1 v.2 b).mono ?_;rintro e w' ⟨rfl,d⟩
   exact⟨_,_,m,rfl,h.below d,Kx.of d⟩
 |succ n t=>
  intro w s p q vr m v h hO f l;have hl:s.1.length<=100000:=by have k:=hO.le;rw[js] at k;have:=hw.l1;omega
  by_cases b:v.1=3
  ·have e:iM v.1 v.2 i g j fb=iM 3 v.2 i g j fb:=by rw[b]
   rw[e];cases hs:s.1.contains v.2
   ·rw[xI f b hs];obtain⟨g1,g2⟩:=f.2 b;obtain⟨a,ha⟩:=Int.eq_ofNat_of_zero_le g1;rw[ha] at hs g2⊢;rw[Int.toNat_natCast] at g2;exact xT h o hw hO a g2 hs t l
   ·rw[sq f b hs];refine(ss h v.2 hl hs).mono ?_;rintro e w' ⟨rfl,d⟩
    exact⟨_,_,m,rfl,h.below d,Kx.of d⟩
  ·rw[so f b];refine(sr w v.1 v.2 b).mono ?_;rintro e w' ⟨rfl,d⟩
   exact⟨_,_,m,rfl,h.below d,Kx.of d⟩
theorem xV {w0 w:World}{i j a fb:Nat}{s:ck}{l n vr:Value}{m:List da}(h:dI w0 w i j a fb s l n vr m)(c:Value):dI w0 (w.setCell ⟨a,0,none⟩ c) i j a fb s l n c m/\eg w0.heap.size w (w.setCell ⟨a,0,none⟩ c):=by
 have o:Fr (fun k=>k=a) w (w.setCell ⟨a,0,none⟩ c):=(Fr.refl (fun k=>k=a) w).set a _ _ rfl;have hk:∀k d e f,w.heap[k]?=some (Obj.cells d e f)->e≠60->(w.setCell ⟨a,0,none⟩ c).heap[k]?=w.heap[k]?:=fun k d e f hk p=>o.block k (lt_of_some hk) (fun b=>by have b:k=a:=b;rw[b,h.vc] at hk;simp at hk;exact p hk.2.1.symm)
 have kw:eg w0.heap.size w (w.setCell ⟨a,0,none⟩ c):=eg.fr o (fun k b=>by
  have b:k=a:=b;refine⟨by rw[b];exact h.lo.2.1,fun d e f hc=>?_⟩
  rw[b,h.vc] at hc;simp at hc;exact an (ap hc.2.1.symm))
 refine⟨⟨h.df.trans (kw.below h.df.size),h.lo,(hk _ _ _ _ h.fc Z).trans h.fc,(hk _ _ _ _ h.mc Z).trans h.mc,?_,ca h.mr (fun k g=>by
  obtain⟨d,hc⟩:=dO h.mr k g;exact hk k _ _ _ hc Z),ca h.nr (fun k g=>by
  obtain⟨d,hc⟩:=dO h.nr k g;exact hk k _ _ _ hc Z),h.nd,fun x q=>(h.fl x q).kw kw⟩,kw⟩
 simp only [World.setCell,Array.getElem?_modify,if_true,h.vc,Option.map_some];simp
theorem xW {w0 w3 wr:World}{f g a fb:Nat}{vr i c:Value}{m1 j:List da}{P:List (Int×Int)×ck}{l:Option Addr}{m:Nat}(h:dd w0 w3 wr f g a fb vr m1 P l m i c j)(d:Value):dd w0 w3 (wr.setCell ⟨a,0,none⟩ d) f g a fb d m1 P l m i c j/\wr.heap[a]?=some (.cells #[vr,c] 60 (0,0)):=by
 have n:=xV h.wv d;refine⟨⟨h.hs,n.1,h.kx.trans ⟨n.2,fun _ o=>ap o⟩,ca h.row (fun k e=>Below.heap_setCell _ _ _ _ (fun b=>?_)),h.no⟩,h.wv.vc⟩
 obtain⟨p,hc⟩:=dO h.row k e;have b:k=a:=by first|exact b|exact b.symm
 rw[b,h.wv.vc] at hc;simp at hc
section
variable {w:World}{rp:Nat}{T:List cE}{wt:List bN}{l:List (Int×Int)}{ra:Option Addr}{rc:Nat}
theorem xX (hg:Wg w rp T wt):∃w0 w3:World,w0=((w.alloc (.cells #[.pointer (some ⟨rp,0,none⟩)] 40)).alloc (.cells #[.slice none 0 0,.slice none 0 0] 60))/\w3=(((w0.alloc (.cells #[.slice none 0 0,.slice none 0 0] 60)).alloc (.cells #[.slice none 0 0] 96)).alloc (.cells #[(i3 (w.heap.size+1+1+1) w.heap.size (w.heap.size+1+1) (w.heap.size+1+1+1+1))] 111))/\
 (Rd w0 w.heap.size rp T wt/\w0.heap.size=w.heap.size+1+1/\w0.heap[w.heap.size+1]?=some (.cells #[.slice none 0 0,.slice none 0 0] 60 (0,0))/\Below w.heap.size w w0/\
 dd w0 w3 w3 (w.heap.size+1+1+1) w.heap.size (w.heap.size+1+1) (w.heap.size+1+1+1+1) (.slice none 0 0) [] ([],([],[])) none 0 (.slice none 0 0) (.slice none 0 0) []):=by
 obtain⟨w1,b⟩:∃w1,w1=(w.alloc (.cells #[.pointer (some ⟨rp,0,none⟩)] 40)):=⟨_,rfl⟩
 obtain⟨w0,c⟩:∃w0,w0=w1.alloc (.cells #[.slice none 0 0,.slice none 0 0] 60):=⟨_,rfl⟩
 obtain⟨wa,ea⟩:∃wa,wa=w0.alloc (.cells #[.slice none 0 0,.slice none 0 0] 60):=⟨_,rfl⟩
 obtain⟨wb,d⟩:∃wb,wb=wa.alloc (.cells #[.slice none 0 0] 96):=⟨_,rfl⟩
 obtain⟨a,e⟩:∃a,a=wb.alloc (.cells #[(i3 (w.heap.size+1+1+1) w.heap.size (w.heap.size+1+1) (w.heap.size+1+1+1+1))] 111):=⟨_,rfl⟩
 have s1:w1.heap.size=w.heap.size+1:=by rw[b];simp
 have s0:w0.heap.size=w.heap.size+1+1:=by rw[c];simp[s1]
 have g:wa.heap.size=w.heap.size+1+1+1:=by rw[ea];simp[s0]
 have l:wb.heap.size=w.heap.size+1+1+1+1:=by rw[d];simp[g]
 have n1:w1.heap[w.heap.size]?=some (.cells #[af rp] 40 (0,0)):=by rw[b];exact aw w _
 have n0:w0.heap[w1.heap.size]?=some (.cells #[.slice none 0 0,.slice none 0 0] 60 (0,0)):=by rw[c];exact aw w1 _
 have m:wa.heap[w0.heap.size]?=some (.cells #[.slice none 0 0,.slice none 0 0] 60 (0,0)):=by rw[ea];exact aw w0 _
 have nb:wb.heap[wa.heap.size]?=some (.cells #[.slice none 0 0] 96 (0,0)):=by rw[d];exact aw wa _
 have i:a.heap[wb.heap.size]?=some (.cells #[(i3 (w.heap.size+1+1+1) w.heap.size (w.heap.size+1+1) (w.heap.size+1+1+1+1))] 111 (0,0)):=by rw[e];exact aw wb _
 have b1:Below w.heap.size w w1:=by rw[b];exact bK.alloc bJ _
 have b0:Below w1.heap.size w1 w0:=by rw[c];exact bK.alloc bJ _
 have j:Below w0.heap.size w0 wa:=by rw[ea];exact bK.alloc bJ _
 have k:Below wa.heap.size wa wb:=by rw[d];exact bK.alloc bJ _
 have f:Below wb.heap.size wb a:=by rw[e];exact bK.alloc bJ _
 have b3:Below w0.heap.size w0 a:=(j.trans (k.mono j.size)).trans (f.mono I)
 have n:=(b0.block w.heap.size I).trans n1;refine⟨w0,a,by rw[c,b],by rw[e,d,ea],⟨hg.below (b1.trans (b0.mono b1.size)),by simp[World.cell?,n]⟩,s0,by rw[<-s1];exact n0,b1.trans (b0.mono b1.size),dd.start (P:=([],([],[]))) ⟨b3,⟨I,I,I⟩,by rw[l] at i;exact i,?_,?_,aO _ _ _ _,aO _ _ _ _,rfl,V⟩ rfl⟩
 ·rw[<-g];exact(f.block _ I).trans nb
 ·rw[<-s0];exact(f.block _ I).trans ((k.block _ I).trans m)
theorem xY (hg:Wg w rp T wt)(c1:w.cell? (ah rp 1)=some (.slice ra l.length rc))(hl:cS w ra l)(hm:l.length<=100000)(hw:jY T wt)(bP:∀v∈l,hX T v):
 Calls prog 19 #[af rp] w fun e w'=>∃bQ cq Q bS Y,e=.returned (.agg #[.slice bQ l.length cq,.slice Q bS Y])/\v6 w' w.heap.size bQ (jZ T wt l).1/\oU w' w.heap.size Q (jZ T wt l).2.2/\bS=(jZ T wt l).2.2.length/\Below w.heap.size w w':=by
 obtain⟨w0,w3,a3,bT,G⟩:=xX (w:=w) hg;have G:Hid (_):=G;have cr:Hid (cS w0 ra l):=hl.below G.out.2.2.2.1;have bU:Hid (w0.cell? (ah rp 1)=some (.slice ra l.length rc)):=(G.out.2.2.2.1.cell (p:=ah rp 1) (au w _ c1)).trans c1;have cs:Hid (lE w0 (w.heap.size+1+1+1) w.heap.size (w.heap.size+1+1) (w.heap.size+1+1+1+1) T (met (tI T.length) (eJ T) (eS T wt) T.length) T.length):=xU G.out.1 hw _;have ct:Hid (h6 (tI T.length) (eJ T) (eS T wt) T.length (met (tI T.length) (eJ T) (eS T wt) T.length)):=hE _;have cu:Hid (jZ T wt l=cD (met (tI T.length) (eJ T) (eS T wt) T.length) (tI T.length) ([],[]) (l.map dr)):=rfl;have cv:Hid (∀v∈l,hX T v):=bP;have c4:Hid (jY T wt):=hw;generalize jZ T wt l=cw at*;generalize met (tI T.length) (eJ T) (eS T wt) T.length=M at*;have cx:Hid (∀l,fP (tI T.length) (eJ T) (eS T wt) ([],[]) (cD M (tI T.length) ([],[]) l).2 (cD M (tI T.length) ([],[]) l).1):=fun l=>km ct.out (eb.start _) (by rw[js];simp) l;clear hg c1 hl bP hw;go_enter func19,ntmps19;go_wp2_with fail;rw[show(((w.alloc (.cells #[.pointer (some ⟨rp,0,none⟩)] 40))).alloc (.cells #[.slice none 0 0,.slice none 0 0] 60))=w0 from a3.symm,show(((w0.alloc (.cells #[.slice none 0 0,.slice none 0 0] 60)).alloc (.cells #[.slice none 0 0] 96)).alloc (.cells #[(i3 (w.heap.size+1+1+1) w.heap.size (w.heap.size+1+1) (w.heap.size+1+1+1+1))] 111))=w3 from bT.symm];obtain⟨cy,cz,cA,cB,cC⟩:=info_parts kA;have be:Hid (w.heap.size<w0.heap.size/\w.heap.size+1<w0.heap.size):=by have:=G.out.2.1;exact⟨I,I⟩
 have ar:Hid (w.heap.size<=w0.heap.size/\Below w.heap.size w w0):=⟨by have:=be.out.1;omega,G.out.2.2.2.1⟩
 have cE:Hid (w0.cell? (ah w.heap.size 0)=some (af rp)):=G.out.1.bx;have cF:Hid (w0.heap[w.heap.size+1]?=some (.cells #[.slice none 0 0,.slice none 0 0] 60 (0,0))):=G.out.2.2.1;have cG:Hid (dd w0 w3 w3 (w.heap.size+1+1+1) w.heap.size (w.heap.size+1+1) (w.heap.size+1+1+1+1) (.slice none 0 0) [] ([],([],[])) none 0 (.slice none 0 0) (.slice none 0 0) []):=G.out.2.2.2.2;have c5:w.heap.size+1≠w.heap.size+1+1:=I;clear G a3 bT;generalize c6:w.heap.size+1+1+1=s at*;generalize c7:s+1=fb at*;generalize c8:w.heap.size+1+1=n at*;generalize c9:w.heap.size+1=rb at*;generalize cH:w.heap.size=o at*
 go_loopw [6] (fun iv wr=>∃(j:Nat)(d:List (Int×Int)×ck)(g:Option Addr)(m:Nat)(ax aB:Value)(t:List da),j<=l.length/\iv=ae j/\Hid (d=cD M (tI T.length) ([],[]) ((l.take j).map dr))/\Hid (dd w0 w3 wr s o n fb (.slice g d.1.length m) [] d g m ax aB t)) (fun iv _=>l.length-(intOf iv).toNat)
 case atStart=>exact⟨0,([],([],[])),none,0,_,_,[],aA _,rfl,by show _=_;rw[List.take_zero];rfl,cG.out⟩
 case round=>
  obtain⟨j,d,g,m,ax,aB,t,db,rfl,R,A⟩:=hrel;have bg:Hid (∀w',Below w0.heap.size w0 w'->w'.cell? (ah o 0)=some (af rp)/\w'.cell? (ah rp 1)=some (.slice ra l.length rc)):=fun w' K=>⟨(K.cell (p:=ah o 0) be.out.1).trans cE.out,(K.cell (p:=ah rp 1) (au w0 _ bU.out)).trans bU.out⟩
  obtain⟨bV,bW⟩:=bg.out wr A.out.wv.df;have q0:(0:Int)<=(j:Int):=I;by_cases bi:j<l.length
  ·have q1:(j:Int)<(l.length:Int):=I;obtain⟨N,S,rfl,bX,bY⟩:=cr.out I;have bZ:l.getD j (0,0)∈l:=getD_in bi;have bl:=cv.out _ bZ;obtain⟨B,C,bb⟩:∃B C,l.getD j (0,0)=(B,C):=⟨_,_,rfl⟩
   have bn:Hid (∀w',Below w0.heap.size w0 w'->w'.cell? (ah N (S+j*2))=some (ae B)/\w'.cell? (ah N (S+j*2+1))=some (ae C)):=fun w' K=>by obtain⟨b3,b7⟩:=bY j bi;rw[bb] at b3 b7;exact⟨(K.cell (p:=ah N (S+j*2)) bX).trans b3,(K.cell (p:=ah N (S+j*2+1)) bX).trans b7⟩
   have b8:Hid ((l.take (j+1)).map dr=(l.take j).map dr++[dr (B,C)]):=by show _=_;rw[eY l j bi (0,0),bc,bb];rfl
   rw[bb] at bl;have bo:=cx.out ((l.take j).map dr)
   rw[<-R.out] at bo;have bd:Hid (∀W:World,dd w0 w3 W s o n fb (.slice g d.1.length m) [] d g m ax aB t->Calls prog 49 (iM B C s o n fb) W fun e w'=>∃E D q,e=.returned (.agg #[ae (cX M (tI T.length) d.2 (dr (B,C))).1.1,ae (cX M (tI T.length) d.2 (dr (B,C))).1.2])/\dd w0 w3 w' s o n fb (.slice g d.1.length m) [] (d.1,(cX M (tI T.length) d.2 (dr (B,C))).2) g m E D q/\Kx w0 W t w' q):=fun W b9=>by
    refine(cs.out W d.2 ax aB (.slice g d.1.length m) t (B,C) b9.wv bo.ok bl I).mono ?_;rintro e f ⟨E,D,q,rfl,cI,aF⟩
    exact⟨E,D,q,rfl,b9.call cI aF,aF⟩
   have cb:Hid ((d.1++[(cX M (tI T.length) d.2 (dr (B,C))).1],(cX M (tI T.length) d.2 (dr (B,C))).2)=cD M (tI T.length) ([],[]) ((l.take (j+1)).map dr)):=by show _=_;rw[b8.out,kl,<-R.out]
   have cJ:d.1.length<=100000:=by rw[R.out,jh,aE,a5];omega
   have cc:=A.out.wv.cells.2.2.1;obtain⟨cd,cK⟩:=bn.out wr A.out.wv.df;generalize cX M (tI T.length) d.2 (dr (B,C))=cL at*;obtain⟨⟨v1,v2⟩,O⟩:=cL;dsimp only at bd cb;have ad:=A.out;have n1:wr.heap.size≠fb:=by have:fb<wr.heap.size:=au wr _ cc;omega
   have bp:wr.heap.size≠N:=by have:N<wr.heap.size:=au wr _ cd;omega
   have cM:wr.heap.size≠o:=by have:o<wr.heap.size:=au wr _ bV;omega
   have n4:wr.heap.size≠rp:=by have:rp<wr.heap.size:=au wr _ bW;omega
   clear b8 R bY bZ bo bl A bb;go_wp2_with fail;generalize cN:wr=W at*;clear cN;have br:=bd.out W.drew (ad.below (Below.refl _ W).drew)
   have bs:=bd.out (W.alloc (.cells #[.int .i64 0,.int .i64 0] 77)).drew (ad.below ((Below.refl _ W).alloc bJ _).drew)
   have ad:Hid (dd w0 w3 W s o n fb (.slice g d.1.length m) [] d g m ax aB t):=ad;clear bd
   go_region_held3 (fun w'=>w'.cell? (ah fb 0)=some (i3 s o n fb)/\w'.cell? (ah o 0)=some (af rp)/\w'.cell? (ah rp 1)=some (.slice (some ⟨N,S,none⟩) l.length rc)/\w'.cell? (ah N (S+j*2))=some (ae B)/\w'.cell? (ah N (S+j*2+1))=some (ae C)) (go_keep) (first|(go_at_call 49;refine br.mono ?_;clear br bs;rintro e f ⟨E,D,q,rfl,H,_⟩;have ce:Hid (dd w0 w3 f s o n fb (.slice g d.1.length m) [] (d.1,O) g m E D q):=H;obtain⟨b1,b2⟩:=bn.out f H.wv.df;have b4:=H.wv.cells.2.2.1;obtain⟨b5,b6⟩:=bg.out f H.wv.df;clear H)|(go_at_call 49;refine bs.mono ?_;clear br bs;rintro e f ⟨E,D,q,rfl,H,aF⟩;have U:=ad.out.late H (show Kx w0 (W.alloc (.cells #[.int .i64 0,.int .i64 0] 77)) t f q from(Kx.of bK.drew).trans aF) v1 v2;have cf:Hid (dd w0 w3 ((f.setCell ⟨W.heap.size,0,none⟩ (.int .i64 v1)).setCell ⟨W.heap.size,1,none⟩ (.int .i64 v2)) s o n fb (.slice g d.1.length m) [] (d.1,O) g m E D q/\f.heap[W.heap.size]?=some (.cells #[ae 0,ae 0] 77 (0,0))):=⟨U.2,U.1⟩;have c0:f.cell? (ah W.heap.size 0)=some (ae 0):=(by simp[World.cell?,U.1]);have c1:f.cell? (ah W.heap.size 1)=some (ae 0):=(by simp[World.cell?,U.1]);have c2:f.frozen? (ah W.heap.size 0)=false:=(by simp[World.frozen?,U.1]);have cO:f.frozen? (ah W.heap.size 1)=false:=(by simp[World.frozen?,U.1]);obtain⟨b1,b2⟩:=bn.out f H.wv.df;have b4:=H.wv.cells.2.2.1;obtain⟨b5,b6⟩:=bg.out f H.wv.df;clear H U aF))
   all_goals
    first
    |(
     have P:Hid (dd w0 w3 (f.alloc (.cells #[.int .i64 v1,.int .i64 v2] 77)) s o n fb (.slice g d.1.length m) [] (d.1,O) g m E D q/\(f.alloc (.cells #[.int .i64 v1,.int .i64 v2] 77)).cell? (ah f.heap.size 0)=some (ae v1)/\(f.alloc (.cells #[.int .i64 v1,.int .i64 v2] 77)).cell? (ah f.heap.size 1)=some (ae v2)):=⟨ce.out.below ((Below.refl _ f).alloc bJ _),by have bx:=aw f (.cells #[ae v1,ae v2] 77);unfold World.cell?;dsimp only;rw[bx];rfl,by have bx:=aw f (.cells #[ae v1,ae v2] 77);unfold World.cell?;dsimp only;rw[bx];rfl⟩
     clear ce b1 b2 b4 b5 b6;generalize f.alloc (.cells #[.int .i64 v1,.int .i64 v2] 77)=F at*;generalize f.heap.size=yb at*)
    |(
     have P:Hid (dd w0 w3 ((f.setCell ⟨W.heap.size,0,none⟩ (.int .i64 v1)).setCell ⟨W.heap.size,1,none⟩ (.int .i64 v2)) s o n fb (.slice g d.1.length m) [] (d.1,O) g m E D q/\((f.setCell ⟨W.heap.size,0,none⟩ (.int .i64 v1)).setCell ⟨W.heap.size,1,none⟩ (.int .i64 v2)).cell? (ah W.heap.size 0)=some (ae v1)/\((f.setCell ⟨W.heap.size,0,none⟩ (.int .i64 v1)).setCell ⟨W.heap.size,1,none⟩ (.int .i64 v2)).cell? (ah W.heap.size 1)=some (ae v2)):=⟨cf.out.1,by rw[aC _ _ _ _ V];exact aH _ _ _ (u:=ae 0) c0,aH _ _ _ (u:=ae 0) ((aC _ _ _ _ V).trans c1)⟩
     clear cf b1 b2 b4 b5 b6 c0 c1 c2 cO;generalize (f.setCell ⟨W.heap.size,0,none⟩ (.int .i64 v1)).setCell ⟨W.heap.size,1,none⟩ (.int .i64 v2)=F at*;clear cc cd cK n1 bp cM n4 bV bW ad;generalize W.heap.size=yb at*)
   all_goals
    have k1:=P.out.2.1;have dc:=P.out.2.2;have cP:=P.out.1.wv.cells.2.2.2.2.2.2.2.2;have de:n<F.heap.size:=au F _ cP;have cg:Hid (Below F.heap.size F (F.alloc (.cells #[.int .i64 v1,.int .i64 v2] 77))):=(Below.refl F.heap.size F).alloc bJ _;have cQ:Hid (∀a,(ag F.heap.size:Option Addr)=some a->∀k u,(ev [(v1,v2)])[k]?=some u->(F.alloc (.cells #[.int .i64 v1,.int .i64 v2] 77)).cell? (a.add k)=some u):=po v1 v2;have bL:=ca P.out.1.row (fun k e=>cg.out.block k (bR P.out.1.row k e).2)
    dsimp only at bL;have cR:Hid (w3.heap.size<=F.heap.size):=P.out.1.kx.1.size
    go_upto_region 7 with(at_builtin;refine hS _ rfl _ _ 57 rfl w3.heap.size 77 cy (.agg #[ae 0,ae 0]) 2 16 Tryz.underlying57 cz cA cB cC rfl Z (.slice g d.1.length m) d.1.length (ev d.1) rfl bL (ag F.heap.size) 1 1 (ev [(v1,v2)]) rfl rfl (fun e=>by cases e) cQ.out (jM _) (by unfold maxLen;omega) I (by have:=cR.out;simp;omega) ?_;intro aR aT aV ch ci cj;have cT:Hid (dd w0 w3 aV s o n fb (.slice g d.1.length m) [] (d.1++[(v1,v2)],O) aR aT E D q):=(P.out.1.push cg.out ci ch cj);have bM:Hid (dd w0 w3 (aV.setCell ⟨n,0,none⟩ (.slice aR (d.1.length+1) aT)) s o n fb (.slice aR (d.1.length+1) aT) [] (d.1++[(v1,v2)],O) aR aT E D q/\aV.heap[n]?=some (.cells #[.slice g d.1.length m,D] 60 (0,0))):=(xW cT.out _);have s0:aV.cell? (ah n 0)=some (.slice g d.1.length m):=(by simp[World.cell?,bM.out.2]);have s1:aV.frozen? (ah n 0)=false:=(by simp[World.frozen?,bM.out.2]))
    clear ch ci cj bL;go_wp2_with fail;go_roundw
    case rel=>exact⟨j+1,(d.1++[(v1,v2)],O),aR,aT,E,D,q,I,ac,cb,by rw[show(d.1++[(v1,v2)],O).1.length=d.1.length+1 by simp];exact bM.out.1⟩
    case measure=>simp[intOf];omega
  ·obtain rfl:j=l.length:=I;have cU:Hid (d=cw):=by have cl:=R.out;rw[aP] at cl;exact cl.trans cu.out.symm
   have cJ:d.1.length=l.length:=by rw[R.out,jh,aE,a5];simp
   obtain⟨Q,Y,cV⟩:=dG A.out.wv.nr;subst cV;have df:=A.out.wv.cells.2.1;have z0:=A.out.wv.cells.2.2.2.2.2.2.2.2;have ai:=(A.out.wv.df.block rb be.out.2).trans cF.out;have cW:wr.cell? (ah rb 0)=some (.slice none 0 0):=by simp[World.cell?,ai]
   have y1:wr.cell? (ah rb 1)=some (.slice none 0 0):=by simp[World.cell?,ai]
   have dg:wr.frozen? (ah rb 0)=false:=by simp[World.frozen?,ai]
   have dh:wr.frozen? (ah rb 1)=false:=by simp[World.frozen?,ai]
   have cm:Hid (_=_):=ai;clear ai R;go_wp2_with fail;obtain⟨X,a0⟩:∃X,X=(wr.setCell ⟨rb,0,none⟩ (.slice g l.length m)).setCell ⟨rb,1,none⟩ (.slice Q t.length Y):=⟨_,rfl⟩
   rw[<-a0];have g0:X.cell? (ah rb 0)=some (.slice g l.length m):=by rw[a0,aC _ _ _ _ V];exact aH _ _ _ cW
   have g1:X.cell? (ah rb 1)=some (.slice Q t.length Y):=by rw[a0];exact aH _ _ _ ((aC wr ⟨rb,0,none⟩ ⟨rb,1,none⟩ _ V).trans y1)
   have al:Fr (fun k=>k=rb) wr X:=by rw[a0];exact((Fr.refl (fun k=>k=rb) wr).set rb 0 _ rfl).set rb 1 _ rfl
   clear a0;have J:=A.out.wv;have bN:=A.out.row;have cn:w.heap.size<=w3.heap.size:=az (by have:=ar.out.1;omega) A.out.hs;have co:∀{bO:Option Addr}{L:List (Int×Int)},fE wr bO L->cS X bO L:=fun {bO L} h=>h.1.keep al.size (fun hp b e=>by
    obtain⟨b0,di,dj,a3,K⟩:=h.2 hp;rw[a3] at e;cases e;refine al.block _ (lt_of_some K) (fun c=>?_)
    have c:b0=rb:=c;rw[c,cm.out] at K;simp at K)
   have cY:Below w.heap.size w X:=by
    rw[cH];refine(ar.out.2.trans (J.df.mono ar.out.1)).trans (al.below ?_ (fun k e=>?_))
    ·exact az ar.out.1 J.df.size
    ·have e:k=rb:=e;omega
   rw[<-cU.out];refine aW (v:=.agg #[.slice g l.length m,.slice Q t.length Y]) (by simp[results,results19,go_sem,g0,g1]) rfl ⟨g,m,Q,t.length,Y,rfl,⟨co (fE.of bN),fun hp=>?_⟩,⟨t,J.nd,fun x a1=>co (J.fl x a1),fun k hk=>?_,fun hp=>?_⟩,J.len,cY⟩
   ·obtain⟨b,cZ,e⟩:=dP bN hp;cases e;exact⟨b,0,rfl,az cn (bR bN b rfl).1⟩
   ·rcases A.out.kx.2 k hk with⟨x,a1,_⟩|c3
    ·cases a1
    ·exact az cn c3
   ·obtain⟨b,cZ,e⟩:=dP J.nr hp;cases e;have dk:=(bR J.nr b rfl).1;obtain⟨dl,a2⟩:=dO J.nr b rfl;have cp:b≠rb:=fun c=>by rw[c,cm.out] at a2;simp at a2
    refine⟨b,0,rfl,by have:=ar.out.1;omega,av (lt_of_some a2) al.size,fun i x a1=>?_⟩
    obtain⟨n1,bp⟩:=l7 t i x a1;rw[Nat.zero_add];exact⟨(aD (a:=⟨b,i*2,none⟩) (al.block b (lt_of_some a2) cp)).trans (eO J.nr n1).1,(aD (a:=⟨b,i*2+1,none⟩) (al.block b (lt_of_some a2) cp)).trans (eO J.nr bp).1⟩
end
end ig
open Go.RowKit W Kp bY
theorem pr {w:World}{base n m:Nat}{e:TypeId}{b:Option Addr}{d:Nat}{xs:List Value}(h:w.ownsRow base e m (.slice b n d) n xs):b=none->n=0/\d=0:=fun f=>by
 subst f;rcases h.2 with⟨a,i⟩|⟨g,c,j,a,_⟩
 ·simp at a;exact⟨i,a.2⟩
 ·simp at a
open Go.RowKit W
def dK (L:Int->Int)(hi:Int):Int->List Int->Prop
 |a,[]=>a=hi
 |a,x::l=>x=a/\pc (L a)=0/\a+(1+pf (L a))<=hi/\dK L hi (a+(1+pf (L a))) l
section
variable {L L':Int->Int}{hi:Int}
theorem dK.done:dK L hi hi []:=rfl
theorem dK.step {a:Int}{l:List Int}(h0:pc (L a)=0)(b:a+(1+pf (L a))<=hi)(ht:dK L hi (a+(1+pf (L a))) l):dK L hi a (a::l):=⟨rfl,h0,b,ht⟩
theorem dK.mem {a:Int}{l:List Int}(h:dK L hi a l):∀x∈l,a<=x/\x+(1+pf (L x))<=hi/\pc (L x)=0:=by
 induction l generalizing a with
 |nil=>intro x b;simp at b
 |cons z l c=>
  obtain⟨rfl,h0,d,ht⟩:=h;intro x b;rcases List.mem_cons.1 b with rfl|b
  ·exact⟨Int.le_refl _,d,h0⟩
  ·have:=cU (L z)
   have e:=c ht x b;exact⟨I,e.2⟩
theorem dK.apart {a:Int}{l:List Int}(h:dK L hi a l):∀x∈l,∀z∈l,x<z->x+(1+pf (L x))<=z:=by
 induction l generalizing a with
 |nil=>intro x b;simp at b
 |cons y l e=>
  obtain⟨rfl,h0,j,ht⟩:=h;intro x b z hz f;rcases List.mem_cons.1 b with g|d
  ·rcases List.mem_cons.1 hz with i|c
   ·omega
   ·rw[g];exact(ht.mem z c).1
  ·rcases List.mem_cons.1 hz with i|c
   ·have k:=(ht.mem x d).1;have m:=cU (L y)
    omega
   ·exact e ht x d z c f
theorem dK.heads {a:Int}{l:List Int}(h:dK L hi a l)(he:∀x∈l,L' x=L x):dK L' hi a l:=by
 induction l generalizing a with
 |nil=>exact h
 |cons z l b=>
  obtain⟨rfl,h0,c,ht⟩:=h;have e:=he z V;refine .step (by rw[e];exact h0) (by rw[e];exact c) ?_;rw[e];exact b ht (fun x d=>he x (by simp[d]))
theorem dK.snoc {a:Int}{l:List Int}(h:dK L hi a l)(he:∀x∈l,L' x=L x){b:Int}(h0:pc (L' hi)=0)(c:b=hi+(1+pf (L' hi))):dK L' b a (l++[hi]):=by
 have hp:=cU (L' hi)
 induction l generalizing a with
 |nil=>
  have e:a=hi:=h;subst e;refine .step h0 I ?_;rw[<-c];exact .done
 |cons z l d=>
  obtain⟨rfl,f,i,ht⟩:=h;have e:=he z V;refine .step (by rw[e];exact f) (by rw[e];omega) ?_;rw[e];exact d ht (fun x g=>he x (by simp[g]))
theorem dK.field {a:Int}{l:List Int}(h:dK L hi a l){v i:Int}(b:v∈l)(c:0<=i)(d:i<pf (L v)):v+1+i∉l:=by intro hm;have:=h.apart v b _ hm I;omega
theorem dK.du {N y g:Nat}{ws:List Int}{hi a:Int}{l:List Int}(h:dK (ld N y g ws) hi a l):∀k:Nat,hi-a<=k->du N y g ws hi k a=l:=by
 induction l generalizing a with
 |nil=>
  have e:a=hi:=h;subst e;intro k _;exact o2 k (Int.le_refl _)
 |cons z l b=>
  obtain⟨rfl,h0,c,ht⟩:=h;intro k hk;have hp:=cU (ld N y g ws z)
  match k,hk with
  |0,hk=>omega
  |k+1,hk=>
   unfold Proofs.YtjpjpjemibgjpaaGreat.du;rw[aq I,aq h0,b ht k I]
end
structure dS (N y g:Nat)(ws:List Int)(Y G:List Int):Prop where
 ty:dK (ld N y g ws) y 0 Y
 dN:dK (ld N y g ws) ((N:Int)+g) N G
theorem dS.lists {N O y g:Nat}{ws:List Int}{Y G:List Int}(h:dS N y g ws Y G)(hN:N<=256)(hy:y<=N)(hO:O<=1024)(hg:g<=O):dv N y g ws=Y/\c8 N y g ws=G:=
 ⟨h.ty.du 2000 I,h.dN.du 2000 I⟩
theorem dS.start {N:Nat}{ws:List Int}:dS N 0 0 ws [] []:=⟨.done,by simpa using dK.done (L:=ld N 0 0 ws) (hi:=(N:Int))⟩
theorem dS.stands {N y g:Nat}{ws:List Int}{Y G:List Int}(h:dS N y g ws Y G)(hy:y<=N){v:Int}(a:v∈Y\/v∈G):ge N y g v (pf (ld N y g ws v))=pf (ld N y g ws v):=by
 have hp:=cU (ld N y g ws v)
 unfold ge;refine Int.min_eq_left ?_;rcases a with a|a
 ·have b:=h.ty.mem v a;have e:hB N g v=false:=by rw[Bool.eq_false_iff];intro c;have:=hR c;omega
  rw[e,ao V];omega
 ·have b:=h.dN.mem v a;have e:hB N g v=true:=by unfold hB;exact a8 ⟨b.1,I⟩
  rw[e,aq rfl];omega
open Go.ChangeShapes Go.WideShapes Go.ChangeAt Go.RowKit Go.Joins Go.Deep W
namespace mx
theorem nE (ws:List Int)(t f n i:Nat)(b:t+n<=ws.length)(d:f+n<=ws.length):
 (splice ws t ((ws.drop f).take n)).getD i 0=if t<=i/\i<t+n then ws.getD (f+i-t) 0 else ws.getD i 0:=by
 have hl:((ws.drop f).take n).length=n:=by simp;omega
 unfold splice;rw[hl];simp only [List.getD_eq_getElem?_getD];by_cases c:i<t
 ·rw[ba (by simp;omega),ao I,List.getElem?_take_of_lt c]
 ·have a:(ws.take t).length=t:=by simp;omega
  rw[a9 I,a];by_cases c2:i<t+n
  ·rw[aq I,ba I,List.getElem?_take_of_lt I,List.getElem?_drop,show f+(i-t)=f+i-t by omega]
  ·rw[ao I,a9 I,hl,List.getElem?_drop,show t+n+(i-t-n)=i by omega]
theorem copied {N O y g:Nat}{ws:List Int}{a:Nat}(hl:ws.length=N+O)(hy:y<=N)(hi:cO N y g a=true)(n:Nat)(d:1+(n:Int)<=e2 N y g a-a)(f:1+(n:Int)<=(O:Int)-g)(j:Nat)(i:j<=n):
 ld N y (g+(1+n)) (splice ws (N+g) ((ws.drop a).take (1+n))) ((N:Int)+g+j)=ws.getD (a+j) 0/\ld N y (g+(1+n)) (splice ws (N+g) ((ws.drop a).take (1+n))) ((a:Int)+j)=ws.getD (a+j) 0:=by
 have he:e2 N y g a<=(N:Int)+g:=by unfold e2;split<;>omega
 constructor
 ·have b:hB N ((g+(1+n):Nat):Int) ((N:Int)+g+j)=true:=by simp[hB];omega
  have hi:cO N y (g+(1+n)) ((N:Int)+g+j)=true:=by unfold cO;rw[b];simp
  unfold ld;rw[aq hi,show((N:Int)+g+j).toNat=N+g+j by omega,nE _ _ _ _ _ I I,aq I,show a+(N+g+j)-(N+g)=a+j by omega]
 ·have e:cO N y (g+(1+n)) ((a:Int)+j)=true:=by
   unfold e2 at d;split at d
   ·rename_i c;have c:=hR c;have b:hB 0 y ((a:Int)+j)=true:=by simp[hB];omega
    unfold cO;rw[b];rfl
   ·rename_i c;have c1:hB N g a=true:=by unfold cO at hi;simp only [Bool.not_eq_true] at c;rw[c] at hi;simpa using hi
    have c2:=hR c1;have b:hB N ((g+(1+n):Nat):Int) ((a:Int)+j)=true:=by simp[hB];omega
    unfold cO;rw[b];simp
  unfold ld;rw[aq e,show((a:Int)+j).toNat=a+j by omega,nE _ _ _ _ _ I I,ao I]
end mx
open Go.RowKit W mx
theorem dh {N y g:Nat}{ws:List Int}{a:Int}(h:cO N y g a=true):ld N y g ws a=ws.getD a.toNat 0:=by unfold ld;rw[aq h]
theorem gM {N y g:Nat}{a:Int}(h0:0<=a)(b:a<y):cO N y g a=true:=by unfold cO hB;rw[a8 (⟨h0,I⟩:(0:Int)<=a/\a<0+(y:Int))];rfl
theorem eK {N y g:Nat}{a:Int}(h0:(N:Int)<=a)(b:a<(N:Int)+g):cO N y g a=true:=by unfold cO hB;rw[a8 (⟨h0,b⟩:(N:Int)<=a/\a<(N:Int)+g),Bool.or_true]
section
variable {N O y g:Nat}{ws:List Int}{Y G:List Int}
theorem dS.f4 (h:dS N y g ws Y G):∀x∈Y,0<=x/\x<y:=fun x a=>by
 have b:=h.ty.mem x a;have c:=cU (ld N y g ws x)
 omega
theorem dS.io (h:dS N y g ws Y G):∀x∈G,(N:Int)<=x/\x<(N:Int)+g:=fun x a=>by
 have b:=h.dN.mem x a;have c:=cU (ld N y g ws x)
 omega
theorem dS.make (h:dS N y g ws Y G)(hl:ws.length=N+O){k f:Int}(hm:gu N y k f=true):dS N (dU N y k f) g (dR N y k f ws) (Y++[(y:Int)]) G:=by
 obtain⟨c,j⟩:=jS hm;have l:=gK k f c;have e:dU N y k f=y+1+f.toNat:=by unfold dU;rw[aq hm]
 have i:dR N y k f ws=eA ws y (hw k f) f.toNat:=by unfold dR;rw[aq hm]
 rw[e,i];have a:y+f.toNat<ws.length:=I;have d:ld N (y+1+f.toNat) g (eA ws y (hw k f) f.toNat) y=hw k f:=o3 _ _ a;have hp:=m3 k f c;refine⟨h.ty.snoc (fun x b=>?_) (by rw[d];exact hp.2.2) (by rw[d,hp.2.1];omega),h.dN.heads (fun x b=>?_)⟩
 ·have hi:=h.f4 x b;rw[dh (gM hi.1 I),dh (gM hi.1 hi.2),gW _ _ _ _ _ a,ao I,ao I]
 ·have hi:=h.io x b;rw[dh (eK hi.1 hi.2),dh (eK hi.1 hi.2),gW _ _ _ _ _ a,ao I,ao I]
theorem dS.copy (h:dS N y g ws Y G)(hl:ws.length=N+O)(hy:y<=N)(hg:g<=O){a:Int}(hm:gw N O y g ws a=true)(ha:a∈Y\/a∈G):dS N y (h9 N O y g ws a) (h_ N O y g ws a) Y (G++[((N+g:Nat):Int)])/\ld N y (h9 N O y g ws a) (h_ N O y g ws a) ((N+g:Nat):Int)=ld N y g ws a:=by
 obtain⟨f,p,q⟩:=lv hm;have hp:=cU (ld N y g ws a)
 have j:h9 N O y g ws a=g+(1+(pf (ld N y g ws a)).toNat):=by unfold h9;rw[aq hm]
 have k:h_ N O y g ws a=splice ws (N+g) ((ws.drop a.toNat).take (1+(pf (ld N y g ws a)).toNat)):=by unfold h_;rw[aq hm]
 have l:0<=a/\a+(1+pf (ld N y g ws a))<=(N:Int)+g/\cO N y g a=true:=by
  rcases ha with ha|ha
  ·have m:=h.ty.mem a ha;have b:=h.f4 a ha;exact⟨b.1,I,gM b.1 b.2⟩
  ·have m:=h.dN.mem a ha;have b:=h.io a ha;exact⟨I,I,eK b.1 b.2⟩
 rw[j,k];obtain⟨n,o⟩:∃n,n=(pf (ld N y g ws a)).toNat:=⟨_,rfl⟩
 rw[<-o];have c:∀i:Nat,(splice ws (N+g) ((ws.drop a.toNat).take (1+n))).getD i 0=if N+g<=i/\i<N+g+(1+n) then ws.getD (a.toNat+i-(N+g)) 0 else ws.getD i 0:=fun i=>nE ws (N+g) a.toNat (1+n) i I I
 have d:ld N y (g+(1+n)) (splice ws (N+g) ((ws.drop a.toNat).take (1+n))) ((N+g:Nat):Int)=ld N y g ws a:=by rw[dh (eK I I),Int.toNat_natCast,c,aq I,Nat.add_sub_cancel,dh l.2.2]
 refine⟨⟨h.ty.heads (fun x e=>?_),?_⟩,d⟩
 ·have hi:=h.f4 x e;rw[dh (gM hi.1 hi.2),dh (gM hi.1 hi.2),c,ao I]
 ·have ht:=h.dN;rw[show(N:Int)+g=((N+g:Nat):Int) by omega] at ht;refine ht.snoc (fun x e=>?_) (by rw[d];exact f) (by rw[d];omega)
  have hi:=h.io x e;rw[dh (eK hi.1 I),dh (eK hi.1 hi.2),c,ao I]
theorem dS.set (h:dS N y g ws Y G)(hl:ws.length=N+O)(hy:y<=N)(hg:g<=O){v i z:Int}(b:v∈Y\/v∈G)(f:0<=i)(j:i<pf (ld N y g ws v)):dS N y g (ws.set (v+1+i).toNat z) Y G/\∀x,(x∈Y\/x∈G)->ld N y g (ws.set (v+1+i).toNat z) x=ld N y g ws x:=by
 have k:0<=v/\v+1+i<(N:Int)+g:=by
  rcases b with b|b
  ·have d:=h.ty.mem v b;have c:=h.f4 v b;omega
  ·have d:=h.dN.mem v b;have c:=h.io v b;omega
 have key:∀x,(x∈Y\/x∈G)->ld N y g (ws.set (v+1+i).toNat z) x=ld N y g ws x:=fun x a=>by
  have l:x≠v+1+i:=by
   intro e;rcases b with b|b<;>rcases a with a|a
   ·exact h.ty.field b f j (by rw[<-e];exact a)
   ·have d:=h.ty.mem v b;have c:=h.io x a;omega
   ·have d:=h.io v b;have c:=h.f4 x a;omega
   ·exact h.dN.field b f j (by rw[<-e];exact a)
  have hi:cO N y g x=true/\0<=x:=by
   rcases a with a|a
   ·have c:=h.f4 x a;exact⟨gM c.1 c.2,c.1⟩
   ·have c:=h.io x a;exact⟨eK c.1 c.2,I⟩
  rw[dh hi.1,dh hi.1,i1 _ _ _ _ I,ao I]
 exact⟨⟨h.ty.heads (fun x a=>key x (ap a)),h.dN.heads (fun x a=>key x (an a))⟩,key⟩
end
end Go.Proofs.YtjpjpjemibgjpaaGreat
