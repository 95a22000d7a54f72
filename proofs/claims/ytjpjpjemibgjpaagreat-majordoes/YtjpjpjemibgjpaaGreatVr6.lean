import Derived.Test.YtjpjpjemibgjpaaGreatJ13
import Derived.Test.YtjpjpjemibgjpaaGreatJ03
import Derived.Test.YtjpjpjemibgjpaaGreatJ06
import Derived.Test.YtjpjpjemibgjpaaGreatJ02
import Derived.Test.YtjpjpjemibgjpaaGreatJ01
import Derived.Test.YtjpjpjemibgjpaaGreatJ00
import Derived.Test.YtjpjpjemibgjpaaGreatJ07
import Derived.Test.YtjpjpjemibgjpaaGreatJ05
import Derived.Test.YtjpjpjemibgjpaaGreatJ04
namespace Go.Proofs.YtjpjpjemibgjpaaGreat
set_option maxRecDepth 100000
set_option maxHeartbeats 8000000
open Tryz
namespace ig
open Go.RowKit W Kp bY
structure Rd (w0:World)(bb rp:Nat)(T:List cE)(wt:List bN):Prop where
 wg:Wg w0 rp T wt
 bx:w0.cell? (ah bb 0)=some (af rp)
theorem xP {w:World}(x:Int):∀a,(ag w.heap.size:Option Addr)=some a->∀k u,([x].map (Value.int .i64))[k]?=some u->(w.alloc (.cells #[.int .i64 x] 3)).cell? (a.add k)=some u:=fun a e k u hk=>by
 have b:=aw w (.cells #[ae x] 3)
 cases e;have c:k<1:=by have:=(List.getElem?_eq_some_iff.1 hk).1;simpa using this
 obtain rfl:k=0:=I;simp at hk;subst hk;show World.cell? _ ⟨w.heap.size,0,none⟩=_;unfold World.cell?;rw[b];rfl
theorem xQ {w:World}(x:Int):∀a,(ag w.heap.size:Option Addr)=some a->∀k u,(nv [(x,none,0,[])])[k]?=some u->(w.alloc (.cells #[.int .i64 x,.slice none 0 0] 87)).cell? (a.add k)=some u:=fun a e k u hk=>by
 have b:=aw w (.cells #[ae x,.slice none 0 0] 87)
 cases e;have c:k<2:=by have:=(List.getElem?_eq_some_iff.1 hk).1;simpa[nv] using this
 rcases(show k=0\/k=1 by omega) with rfl|rfl
 ·simp[nv] at hk;subst hk;show World.cell? _ ⟨w.heap.size,0,none⟩=_;unfold World.cell?;rw[b];rfl
 ·simp[nv] at hk;subst hk;show World.cell? _ ⟨w.heap.size,1,none⟩=_;unfold World.cell?;rw[b];rfl
theorem xR {w0 wr wq b:World}{c j l fb:Nat}{ms:List Int}{n:List (Int×List (Int×Int))}{g d:Option Addr}{i f:Nat}{o vr:Value}{m:List da}(h:dI w0 wr c j l fb (ms,n) (.slice g ms.length i) o vr m)(a:Int)(hq:Below wr.heap.size wr wq)(hg:wq.grownBy b (Value.slice g ms.length i).ownBlock)(q:b.ownsRow w0.heap.size 3 1 (.slice d (ms.length+1) f) (ms.length+1) (ms.map (Value.int .i64)++[a].map (Value.int .i64))):
 dI w0 (b.setCell ⟨c,0,none⟩ (.slice d (ms.length+1) f)) c j l fb (ms++[a],n) (.slice d (ms.length+1) f) o vr m/\eg w0.heap.size wr (b.setCell ⟨c,0,none⟩ (.slice d (ms.length+1) f))/\b.heap[c]?=some (.cells #[.slice g ms.length i] 96 (0,0)):=by
 have fr:Fr (fun k=>some k=(Value.slice g ms.length i).ownBlock) wr b:=(Fr.of hq).grown hg (fun k e=>ap (by simpa using e.symm))
 have p:=h.meets a (jX:=.slice d (ms.length+1) f) fr (by
  have s:(ms++[a]).length=ms.length+1:=V;show b.ownsRow w0.heap.size 3 1 _ (ms++[a]).length ((ms++[a]).map (Value.int .i64))
  rw[s,bc];exact q)
 refine⟨p.1,p.2,(fr.block c (lt_of_some h.mc) (fun e=>?_)).trans h.mc⟩
 obtain⟨t,hc⟩:=dO h.mr c e;rw[h.mc] at hc;simp at hc
theorem xS {w0 wr wq b:World}{g i a fb:Nat}{s:ck}{f c:Option Addr}{cN d:Nat}{j vr:Value}{m:List da}(h:dI w0 wr g i a fb s j (.slice f m.length cN) vr m)(kd:Int)(hq:Below wr.heap.size wr wq)(hg:wq.grownBy b (Value.slice f m.length cN).ownBlock)(n:b.ownsRow w0.heap.size 87 2 (.slice c (m.length+1) d) (m.length+1) (nv m++nv [(kd,none,0,[])])):
 dI w0 (b.setCell ⟨a,1,none⟩ (.slice c (m.length+1) d)) g i a fb (s.1,s.2++[(kd,[])]) j (.slice c (m.length+1) d) vr (m++[(kd,none,0,[])])/\eg w0.heap.size wr (b.setCell ⟨a,1,none⟩ (.slice c (m.length+1) d))/\b.heap[a]?=some (.cells #[vr,.slice f m.length cN] 60 (0,0)):=by
 have fr:Fr (fun k=>some k=(Value.slice f m.length cN).ownBlock) wr b:=(Fr.of hq).grown hg (fun k e=>ap (by simpa using e.symm))
 have l:=h.xH kd (ib:=.slice c (m.length+1) d) fr (by have o:(m++[((kd,none,0,[]):da)]).length=m.length+1:=V;rw[o,q5];exact n)
 refine⟨l.1,l.2,(fr.block a (lt_of_some h.vc) (fun e=>?_)).trans h.vc⟩
 obtain⟨p,hc⟩:=dO h.nr a e;rw[h.vc] at hc;simp at hc
section
variable {w0 w:World}{mb bb vb fb rp:Nat}{s:ck}{va vn vr:Value}{m:List da}{T:List cE}{wt:List bN}{n':Nat}
theorem xT (h:dI w0 w mb bb vb fb s va vn vr m)(cG:Rd w0 bb rp T wt)(hw:jY T wt)(hO:eb (tI T.length) s)(a:Nat)(cH:cv T a)(hs:s.1.contains (a:Int)=false)(cI:lE w0 mb bb vb fb T (met (tI T.length) (eJ T) (eS T wt) n') n')(cJ:T.length<=s.1.length+(n'+1)):
 Calls prog 49 (iM 3 a mb bb vb fb) w fun e w'=>∃aV a0 R,e=.returned (.agg #[ae 3,ae s.1.length])/\dI w0 w' mb bb vb fb (met (tI T.length) (eJ T) (eS T wt) (n'+1) s a) aV a0 vr R/\Kx w0 w m w' R:=by
 have ha:a<T.length:=cH.1;have hl:s.1.length<=10000:=by have x:=hO.le;rw[js] at x;have:=hw.l1;omega
 have b8:s.2.length=s.1.length:=hO.len;have cr:eb (tI T.length) (s.1++[(a:Int)],s.2++[(eJ T a,[])]):=hO.more (mo.2 ⟨I,I⟩) (fun c=>by rw[List.contains_iff_mem.2 c] at hs;cases hs) _;have b9:Hid (met (tI T.length) (eJ T) (eS T wt) (n'+1) s a=((cD (met (tI T.length) (eJ T) (eS T wt) n') (tI T.length) (s.1++[(a:Int)],s.2++[(eJ T a,[])]) (eS T wt a)).2.1,(cD (met (tI T.length) (eJ T) (eS T wt) n') (tI T.length) (s.1++[(a:Int)],s.2++[(eJ T a,[])]) (eS T wt a)).2.2.set s.1.length (eJ T a,(cD (met (tI T.length) (eJ T) (eS T wt) n') (tI T.length) (s.1++[(a:Int)],s.2++[(eJ T a,[])]) (eS T wt a)).1))):=rfl;have cK:Hid (h6 (tI T.length) (eJ T) (eS T wt) n' (met (tI T.length) (eJ T) (eS T wt) n')):=hE n';obtain⟨ms,g⟩:=s;dsimp only at hl hs b8 cr b9 cJ⊢;generalize met (tI T.length) (eJ T) (eS T wt) (n'+1) (ms,g) a=er at*;generalize met (tI T.length) (eJ T) (eS T wt) n'=M at*;have cs:Hid (eb (tI T.length) (ms++[(a:Int)],g++[(eJ T a,[])])):=cr;have cL:Hid (lE w0 mb bb vb fb T M n'):=cI;have bs:Hid (jY T wt):=hw;have cc:Hid (Rd w0 bb rp T wt):=cG;have bV:Hid (dI w0 w mb bb vb fb (ms,g) va vn vr m):=h;obtain⟨bW,bX,dJ⟩:=dG h.mr;subst dJ;have bx:=((Below.refl w.heap.size w).alloc bJ (.cells #[ae 3,ae (a:Int)] 77)).alloc V (.cells #[ae 0,ae 0] 77)
 have cM:Hid (Below w.heap.size w ((w.alloc (.cells #[.int .i64 3,.int .i64 (a:Int)] 77)).alloc (.cells #[.int .i64 0,.int .i64 0] 77))):=bx;have c0:=(bx.cell (p:=ah mb 0) h.cells.2.2.2.1).trans h.cells.1;have es:=h.cells.2.2.2.1;have dK:w.heap.size≠mb:=I;clear bx h cI hw cG cr hO;go_enter func49,ntmps49;go_wp2_with fail;have ai:Hid (((w.alloc (.cells #[.int .i64 3,.int .i64 (a:Int)] 77)).alloc (.cells #[.int .i64 0,.int .i64 0] 77)).heap[w.heap.size+1]?=some (.cells #[ae 0,ae 0] 77 (0,0))/\((w.alloc (.cells #[.int .i64 3,.int .i64 (a:Int)] 77)).alloc (.cells #[.int .i64 0,.int .i64 0] 77)).heap[w.heap.size]?=some (.cells #[ae 3,ae (a:Int)] 77 (0,0))/\((w.alloc (.cells #[.int .i64 3,.int .i64 (a:Int)] 77)).alloc (.cells #[.int .i64 0,.int .i64 0] 77)).heap.size=w.heap.size+2):=by
  refine⟨?_,?_,V⟩
  ·have:=aw (w.alloc (.cells #[.int .i64 3,.int .i64 (a:Int)] 77)) (.cells #[ae 0,ae 0] 77)
   have e:(w.alloc (.cells #[.int .i64 3,.int .i64 (a:Int)] 77)).heap.size=w.heap.size+1:=V;rw[e] at this
   exact this
  ·have x:=aw w (.cells #[ae 3,ae (a:Int)] 77)
   have S:=(Below.refl (w.alloc (.cells #[.int .i64 3,.int .i64 (a:Int)] 77)).heap.size (w.alloc (.cells #[.int .i64 3,.int .i64 (a:Int)] 77))).alloc bJ (.cells #[ae 0,ae 0] 77)
   exact(S.block w.heap.size V).trans x
 generalize (w.alloc (.cells #[.int .i64 3,.int .i64 (a:Int)] 77)).alloc (.cells #[.int .i64 0,.int .i64 0] 77)=cd at*
 go_loopw [7] (fun iv wr=>∃j:Nat,j<=ms.length/\iv=ae j/\Hid (Below cd.heap.size cd wr)) (fun iv _=>ms.length-(intOf iv).toNat)
 case atStart=>exact⟨0,aA _,rfl,Below.refl _ _⟩
 case round=>
  obtain⟨j,dL,rfl,a2⟩:=hrel;have dM:mb<cd.heap.size:=au cd _ c0;have z0:=(a2.out.cell (p:=ah mb 0) dM).trans c0;have ce:=(a2.out.block w.heap.size (lt_of_some ai.out.2.1)).trans ai.out.2.1;have ct:=(a2.out.block (w.heap.size+1) (lt_of_some ai.out.1)).trans ai.out.1;have y1:wr.cell? (ah w.heap.size 1)=some (ae (a:Int)):=by simp[World.cell?,ce]
  have cf:Below w.heap.size w wr:=cM.out.trans (a2.out.mono cM.out.size)
  have j0:(0:Int)<=(j:Int):=I;by_cases a3:j<ms.length
  ·have G:=bV.out.below cf;obtain⟨dN,cb,cO⟩:=dP G.mr (by show 0<ms.length;omega)
   obtain⟨rfl,rfl⟩:bW=ag dN/\bX=cb:=by simpa using cO
   have et:=(eO G.mr (i:=j) (u:=ae (ms.getD j 0)) (by show(ms.map (Value.int .i64))[j]?=_;rw[aX,am a3,aj,am a3];rfl)).1;have cP:(ms.getD j 0==(a:Int))=false:=by
    have cP:ms.getD j 0≠(a:Int):=fun e=>by
     have hm:(a:Int)∈ms:=by rw[<-e];exact getD_in a3
     rw[List.contains_iff_mem.2 hm] at hs;cases hs
    simpa using cP
   have eu:(j:Int)<(ms.length:Int):=I;generalize ms.getD j 0=y at*;clear ce ct G cO
   as_aux_lemma=>
   go_wp2_with fail
   go_quiet (fail)
   go_wp2_with fail;go_roundw
   case rel=>exact⟨j+1,I,ac,below_drewN a2.out _⟩
   case measure=>simp[intOf];omega
  ·obtain rfl:j=ms.length:=I;have G:=bV.out.below cf;have bd:Hid (wr.heap[w.heap.size]?=some (.cells #[ae 3,ae (a:Int)] 77 (0,0))/\wr.heap[w.heap.size+1]?=some (.cells #[ae 0,ae 0] 77 (0,0))/\w.heap.size+2<=wr.heap.size/\Below w.heap.size w wr):=⟨ce,ct,by have x:=ai.out.2.2;have S:=a2.out.size;omega,cf⟩
   have dO:=G.cells.2.2.2.2.2.2.1 0;have cQ:Hid (dI w0 wr mb bb vb fb (ms,g) (.slice bW ms.length bX) vn vr m):=G;obtain⟨dQ,cR,cU,cV,cW⟩:=info_parts iE;have U:Hid (Below wr.heap.size wr (wr.alloc (.cells #[.int .i64 (a:Int)] 3))):=(Below.refl wr.heap.size wr).alloc bJ _;have be:Hid (∀A,(ag wr.heap.size:Option Addr)=some A->∀k u,([(a:Int)].map (Value.int .i64))[k]?=some u->(wr.alloc (.cells #[.int .i64 (a:Int)] 3)).cell? (A.add k)=some u):=xP _;have X:=ca G.mr (fun k e=>U.out.block k (bR G.mr k e).2)
   dsimp only at X;have bg:Hid (w0.heap.size<=wr.heap.size):=G.df.size;have dR:mb<wr.heap.size:=lt_of_some G.mc;clear ce ct cf G a2 ai c0 dK
   go_upto_region 10 with(at_builtin;refine hS _ rfl _ _ 96 rfl w0.heap.size 3 dQ (ae 0) 1 8 Tryz.underlying96 cR cU cV cW rfl Z (.slice bW ms.length bX) ms.length (ms.map (Value.int .i64)) rfl X (ag wr.heap.size) 1 1 ([(a:Int)].map (Value.int .i64)) rfl rfl (fun e=>by cases e) be.out (fun u ax=>by simp at ax;subst ax;rfl) (by unfold maxLen;omega) I (by have:=bg.out;simp;omega) ?_;intro B C b cY cZ _;have bY:Hid (dI w0 (b.setCell ⟨mb,0,none⟩ (.slice B (ms.length+1) C)) mb bb vb fb (ms++[(a:Int)],g) (.slice B (ms.length+1) C) vn vr m/\eg w0.heap.size wr (b.setCell ⟨mb,0,none⟩ (.slice B (ms.length+1) C))/\b.heap[mb]?=some (.cells #[.slice bW ms.length bX] 96 (0,0))):=(xR cQ.out (a:Int) U.out cZ cY);have s0:b.cell? (ah mb 0)=some (.slice bW ms.length bX):=(by simp[World.cell?,bY.out.2.2]);have s1:b.frozen? (ah mb 0)=false:=(by simp[World.frozen?,bY.out.2.2]))
   have bi:Hid (dI w0 (b.setCell ⟨mb,0,none⟩ (.slice B (ms.length+1) C)) mb bb vb fb (ms++[(a:Int)],g) (.slice B (ms.length+1) C) vn vr m/\eg w0.heap.size wr (b.setCell ⟨mb,0,none⟩ (.slice B (ms.length+1) C))):=⟨bY.out.1,bY.out.2.1⟩
   clear bY s0 s1 cY cZ X be U bg dR dO y1 z0;generalize b.setCell ⟨mb,0,none⟩ (.slice B (ms.length+1) C)=q at*;have aB:Hid (q.heap[w.heap.size]?=some (.cells #[ae 3,ae (a:Int)] 77 (0,0))/\q.heap[w.heap.size+1]?=some (.cells #[ae 0,ae 0] 77 (0,0))/\w.heap.size+2<=q.heap.size/\Kx w0 w m q m):=⟨(bi.out.2.eP _ _ _ _ bd.out.1 (by unfold hU;decide)).trans bd.out.1,(bi.out.2.eP _ _ _ _ bd.out.2.1 (by unfold hU;decide)).trans bd.out.2.1,az bd.out.2.2.1 bi.out.2.size,(Kx.of bd.out.2.2.2).trans ⟨bi.out.2,fun _ dS=>ap dS⟩⟩
   obtain⟨ex,cT,c3,c4⟩:=cc.out.wg.th;obtain⟨t,ht⟩:∃t,T[a]?=some t:=⟨_,am ha⟩
   obtain⟨bZ,A,cp,rfl,c5,c6,c7,c8,c9⟩:=c4 a t ht;have cu:Hid (T.getD ((a:Int)).toNat t0=t):=by show _=_;rw[Int.toNat_natCast,aj,ht];rfl
   have db:=bi.out.1.df;have lo:∀{p:Addr}{v:Value},w0.cell? p=some v->q.cell? p=some v:=fun {p v} e=>(db.cell (p:=p) (au w0 _ e)).trans e;have u0:=lo c5;have b0:=lo c6;have b3:=lo c7;have cg:=lo c8;have ch:=lo c3;have dT:=lo cc.out.bx;have dU:q.cell? (ah w.heap.size 1)=some (ae (a:Int)):=by simp[World.cell?,aB.out.1]
   have dc:Hid (cS w0 A t.2.1):=c9;have dV:Hid (w0.cell? (ah bb 0)=some (af rp)):=cc.out.bx;have ey:(0:Int)<=(a:Int):=I;have a1:(a:Int)<(T.length:Int):=I;have cw:Hid (eJ T (a:Int)=t.1/\eS T wt (a:Int)=t.2.1.map dr++if t.1=5 then(wt.filter (fun e=>e.1==(a:Int))).map (fun e=>ew 3 e.2) else[]):=⟨by unfold eJ;rw[cu.out],by unfold eS;rw[cu.out]⟩
   have cx:Hid ((∀v∈t.2.1,hX T v)/\t.2.1.length<=12):=by
    have x:=bs.out.fv a cH;have S:=bs.out.tl a;have e:T.getD a t0=t:=by have:=cu.out;rwa [Int.toNat_natCast] at this
    rw[e] at x S;exact⟨x,S⟩
   clear c4 c9 lo db c5 c6 c7 c8 c3;obtain⟨kd,d,bL,bM⟩:=t;dsimp only at u0 b0 b3 cg dc cw cx
   go_region_held3 (fun w'=>w'.cell? (ah bb 0)=some (af rp)/\w'.cell? (ah rp 0)=some (.slice (ag bZ) T.length cT)/\w'.cell? (ah w.heap.size 1)=some (ae (a:Int))/\w'.cell? (ah bZ (a*4))=some (ae kd)/\w'.cell? (ah bZ (a*4+1))=some (.slice A d.length cp)/\w'.cell? (ah bZ (a*4+2))=some (.bool bL)/\w'.cell? (ah bZ (a*4+3))=some (.bool bM)) (go_keep) (fail)
   have bO:Hid (Below q.heap.size q (q.alloc (.cells #[.int .i64 kd,.slice A d.length cp,.bool bL,.bool bM] 99)).drew):=((Below.refl _ q).alloc bJ _).drew;have ci:Hid ((q.alloc (.cells #[.int .i64 kd,.slice A d.length cp,.bool bL,.bool bM] 99)).drew.heap[q.heap.size]?=some (.cells #[ae kd,.slice A d.length cp,.bool bL,.bool bM] 99 (0,0))):=aw q _;generalize (q.alloc (.cells #[.int .i64 kd,.slice A d.length cp,.bool bL,.bool bM] 99)).drew=n at*;have Y:=bi.out.1.below bO.out;have bl:Hid (n.heap[w.heap.size]?=some (.cells #[ae 3,ae (a:Int)] 77 (0,0))/\n.heap[w.heap.size+1]?=some (.cells #[ae 0,ae 0] 77 (0,0))/\w.heap.size+2<=n.heap.size/\Kx w0 w m n m):=⟨(bO.out.block _ (lt_of_some aB.out.1)).trans aB.out.1,(bO.out.block _ (lt_of_some aB.out.2.1)).trans aB.out.2.1,az aB.out.2.2.1 bO.out.size,aB.out.2.2.2.trans (Kx.of bO.out)⟩
   obtain⟨cj,cN,dW⟩:=dG Y.nr;subst dW;have v0:=Y.cells.2.1;have k0:n.cell? (ah q.heap.size 0)=some (ae kd):=by simp[World.cell?,ci.out]
   have dX:=Y.cells.2.2.2.2.2.2.2.1 1;have ez:m.length<=10000:=by have x:=Y.len;have x:m.length=g.length:=x;have S:g.length=ms.length:=b8;omega
   obtain⟨dY,de,df,dg,dh⟩:=info_parts rR;have U:Hid (Below n.heap.size n (n.alloc (.cells #[.int .i64 kd,.slice none 0 0] 87))):=(Below.refl n.heap.size n).alloc bJ _;have be:Hid (∀A,(ag n.heap.size:Option Addr)=some A->∀k u,(nv [(kd,none,0,[])])[k]?=some u->(n.alloc (.cells #[.int .i64 kd,.slice none 0 0] 87)).cell? (A.add k)=some u):=xQ _;have X:=ca Y.nr (fun k e=>U.out.block k (bR Y.nr k e).2)
   have bg:Hid (w0.heap.size<=n.heap.size):=Y.df.size;have di:Hid (dI w0 n mb bb vb fb (ms++[(a:Int)],g) (.slice B (ms.length+1) C) (.slice cj m.length cN) vr m):=Y;have dZ:vb<n.heap.size:=lt_of_some Y.vc;clear u0 b0 b3 cg ch dT dU Y
   go_upto_region 12 with(at_builtin;refine hS _ rfl _ _ 58 rfl w0.heap.size 87 dY (.agg #[ae 0,.slice none 0 0]) 2 32 Tryz.underlying58 de df dg dh rfl Z (.slice cj m.length cN) m.length (nv m) rfl X (ag n.heap.size) 1 1 (nv [(kd,none,0,[])]) rfl rfl (fun e=>by cases e) be.out (fun u ax=>by simp[nv] at ax;rcases ax with ax|ax<;>(subst ax;rfl)) (by unfold maxLen;omega) I (by have:=bg.out;simp;omega) ?_;intro aF aR aT dj dk _;have b6:Hid (dI w0 (aT.setCell ⟨vb,1,none⟩ (.slice aF (m.length+1) aR)) mb bb vb fb (ms++[(a:Int)],g++[(kd,[])]) (.slice B (ms.length+1) C) (.slice aF (m.length+1) aR) vr (m++[(kd,none,0,[])])/\eg w0.heap.size n (aT.setCell ⟨vb,1,none⟩ (.slice aF (m.length+1) aR))/\aT.heap[vb]?=some (.cells #[vr,.slice cj m.length cN] 60 (0,0))):=(xS di.out kd U.out dk dj);have s0:aT.cell? (ah vb 1)=some (.slice cj m.length cN):=(by simp[World.cell?,b6.out.2.2]);have s1:aT.frozen? (ah vb 1)=false:=(by simp[World.frozen?,b6.out.2.2]))
   have bn:Hid (dI w0 (aT.setCell ⟨vb,1,none⟩ (.slice aF (m.length+1) aR)) mb bb vb fb (ms++[(a:Int)],g++[(kd,[])]) (.slice B (ms.length+1) C) (.slice aF (m.length+1) aR) vr (m++[(kd,none,0,[])])/\eg w0.heap.size n (aT.setCell ⟨vb,1,none⟩ (.slice aF (m.length+1) aR))):=⟨b6.out.1,b6.out.2.1⟩
   clear b6 s0 s1 dj dk X be U bg dZ dX k0 v0;generalize aT.setCell ⟨vb,1,none⟩ (.slice aF (m.length+1) aR)=w3 at*;have cl:Hid (Own w3 w.heap.size (w.heap.size+1) q.heap.size (a:Int) kd (.slice A d.length cp) bL bM):=⟨(bn.out.2.eP _ _ _ _ bl.out.1 (by unfold hU;decide)).trans bl.out.1,(bn.out.2.eP _ _ _ _ bl.out.2.1 (by unfold hU;decide)).trans bl.out.2.1,(bn.out.2.eP _ _ _ _ ci.out (by unfold hU;decide)).trans ci.out⟩
   have dl:Hid (Kx w0 w m w3 (m++[(kd,none,0,[])])/\w.heap.size+2<=w3.heap.size):=⟨bl.out.2.2.2.trans ⟨bn.out.2,fun k hk=>by
    obtain⟨y,hy,bo,o,e⟩:=hk;rcases List.mem_append.1 hy with hy|hy
    ·exact ap ⟨y,hy,bo,o,e⟩
    ·rw[List.mem_singleton.1 hy] at bo;simp at bo⟩,az bl.out.2.2.1 bn.out.2.size⟩
   have d0:Hid (dI w0 w3 mb bb vb fb (ms++[(a:Int)],g++[(kd,[])]) (.slice B (ms.length+1) C) (.slice aF (m.length+1) aR) vr (m++[(kd,none,0,[])])):=bn.out.1;rw[cw.out.1] at cs b9;rw[cw.out.2] at b9;have cy:T.length<=(ms++[(a:Int)]).length+n':=by simp;omega
   have ai:Hid (∀l,fP (tI T.length) (eJ T) (eS T wt) (ms++[(a:Int)],g++[(kd,[])]) (cD M (tI T.length) (ms++[(a:Int)],g++[(kd,[])]) l).2 (cD M (tI T.length) (ms++[(a:Int)],g++[(kd,[])]) l).1):=fun l=>km cK.out cs.out (by rw[js];exact cy) l;have dm:Hid (T.length<=(ms++[(a:Int)]).length+n'):=cy;have d1:Hid (g.length=ms.length/\g.length<=10000):=⟨b8,I⟩
   obtain⟨d2,d3,d4,d5,d6⟩:=info_parts kA;have eA:=cx.out.2;have dn:Hid (¬eN (m++[(kd,none,0,[])]) (w.heap.size+1)/\w0.heap.size<=w.heap.size+1):=⟨fun hk=>by
    obtain⟨y,hy,bo,o,e⟩:=hk;rcases List.mem_append.1 hy with hy|hy
    ·have:=bV.out.pm (w.heap.size+1) ⟨y,hy,bo,o,e⟩
     omega
    ·rw[List.mem_singleton.1 hy] at bo;simp at bo,Nat.le_succ_of_le bV.out.df.size⟩
   clear bi bn bd aB bl ci bO di cQ bV de df dg dh cR cU cV cW cJ cy b8;generalize cm:((ms++[(a:Int)],g++[(kd,[])]):ck)=H at*;generalize eB:(m++[((kd,none,0,[]):da)])=m1 at*;generalize q.heap.size=tb at*;go_wp2_with fail
   go_loopw [10,11] (fun d7 iv wr=>∃(j:Nat)(f:List (Int×Int)×ck)(J:Option Addr)(K:Nat)(aV a0:Value)(R:List da),j<=d.length/\d7=.slice J f.1.length K/\iv=ae j/\Hid (f=cD M (tI T.length) H ((d.take j).map dr))/\Hid (dd w0 w3 wr mb bb vb fb vr m1 f J K aV a0 R)) (fun _ iv _=>d.length-(intOf iv).toNat)
   case atStart=>exact⟨0,([],H),none,0,_,_,m1,aA _,rfl,rfl,by show _=_;rw[List.take_zero];rfl,dd.start (P:=([],H)) d0.out rfl⟩
   case round=>
    obtain⟨j,f,J,K,aV,a0,R,dL,rfl,rfl,bP,bQ⟩:=hrel;have dp:=cl.out.kx bQ.out.kx;have dq:wr.cell? (ah tb 1)=some (.slice A d.length cp):=by simp[World.cell?,dp.t]
    have q0:(0:Int)<=(j:Int):=I;clear dp;by_cases a3:j<d.length
    ·have q1:(j:Int)<(d.length:Int):=I;obtain⟨L,al,rfl,ds,dt⟩:=dc.out I;have du:d.getD j (0,0)∈d:=getD_in a3;have cz:=cx.out.1 _ du;obtain⟨D,E,cn⟩:∃D E,d.getD j (0,0)=(D,E):=⟨_,_,rfl⟩
     have cA:Hid (∀w',Below w0.heap.size w0 w'->w'.cell? (ah L (al+j*2))=some (ae D)/\w'.cell? (ah L (al+j*2+1))=some (ae E)):=fun w' bx=>by obtain⟨dv,dw⟩:=dt j a3;rw[cn] at dv dw;exact⟨(bx.cell (p:=ah L (al+j*2)) ds).trans dv,(bx.cell (p:=ah L (al+j*2+1)) ds).trans dw⟩
     have dx:Hid ((d.take (j+1)).map dr=(d.take j).map dr++[dr (D,E)]):=by show _=_;rw[eY d j a3 (0,0),bc,cn];rfl
     rw[cn] at cz;have ar:=ai.out ((d.take j).map dr)
     rw[<-bP.out] at ar;have co:Hid (∀W:World,dd w0 w3 W mb bb vb fb vr m1 f J K aV a0 R->Calls prog 49 (iM D E mb bb vb fb) W fun e w'=>∃N O F,e=.returned (.agg #[ae (cX M (tI T.length) f.2 (dr (D,E))).1.1,ae (cX M (tI T.length) f.2 (dr (D,E))).1.2])/\dd w0 w3 w' mb bb vb fb vr m1 (f.1,(cX M (tI T.length) f.2 (dr (D,E))).2) J K N O F/\Kx w0 W R w' F):=fun W dy=>by
      refine(cL.out W f.2 aV a0 vr R (D,E) dy.wv ar.ok cz (by
       have x:=ar.le;have S:=dm.out;have cq:H.1.length=(ms++[(a:Int)]).length:=by rw[<-cm]
       omega)).mono ?_
      rintro e b ⟨N,O,F,rfl,d8,b7⟩
      exact⟨N,O,F,rfl,dy.call d8 b7,b7⟩
     have dz:Hid ((f.1++[(cX M (tI T.length) f.2 (dr (D,E))).1],(cX M (tI T.length) f.2 (dr (D,E))).2)=cD M (tI T.length) H ((d.take (j+1)).map dr)):=by show _=_;rw[dx.out,kl,<-bP.out]
     have eC:f.1.length<=100000:=by rw[bP.out,jh,aE,a5];omega
     have b0:=bQ.out.wv.cells.2.2.1;obtain⟨b3,cg⟩:=cA.out wr bQ.out.wv.df;have ch:=dq;generalize cX M (tI T.length) f.2 (dr (D,E))=d9 at*;obtain⟨⟨v1,v2⟩,bS⟩:=d9;dsimp only at co dz;have bT:=bQ.out;have n1:wr.heap.size≠fb:=by have:fb<wr.heap.size:=au wr _ b0;omega
     have ea:wr.heap.size≠L:=by have:L<wr.heap.size:=au wr _ b3;omega
     have ec:wr.heap.size≠tb:=by have:tb<wr.heap.size:=au wr _ ch;omega
     have n4:True:=trivial;clear dx bP dt du ar cz bQ cn dq;go_wp2_with fail;generalize ed:wr=W at*;clear ed;have cB:=co.out W.drew (bT.below (Below.refl _ W).drew)
     have cC:=co.out (W.alloc (.cells #[.int .i64 0,.int .i64 0] 77)).drew (bT.below ((Below.refl _ W).alloc bJ _).drew)
     have bT:Hid (dd w0 w3 W mb bb vb fb vr m1 f J K aV a0 R):=bT;clear co
     go_region_held3 (fun w'=>w'.cell? (ah fb 0)=some (i3 mb bb vb fb)/\w'.cell? (ah tb 1)=some (.slice (some ⟨L,al,none⟩) d.length cp)/\w'.cell? (ah L (al+j*2))=some (ae D)/\w'.cell? (ah L (al+j*2+1))=some (ae E)) (go_keep) (first|(go_at_call 49;refine cB.mono ?_;clear cB cC;rintro e b ⟨N,O,F,rfl,Q,_⟩;have dA:Hid (dd w0 w3 b mb bb vb fb vr m1 (f.1,bS) J K N O F):=Q;obtain⟨b1,b2⟩:=cA.out b Q.wv.df;have b4:=Q.wv.cells.2.2.1;have b5:b.cell? (ah tb 1)=some (.slice (some ⟨L,al,none⟩) d.length cp):=(by simp[World.cell?,(cl.out.kx Q.kx).t]);clear Q)|(go_at_call 49;refine cC.mono ?_;clear cB cC;rintro e b ⟨N,O,F,rfl,Q,b7⟩;have bp:=bT.out.late Q (show Kx w0 (W.alloc (.cells #[.int .i64 0,.int .i64 0] 77)) R b F from(Kx.of bK.drew).trans b7) v1 v2;have dB:Hid (dd w0 w3 ((b.setCell ⟨W.heap.size,0,none⟩ (.int .i64 v1)).setCell ⟨W.heap.size,1,none⟩ (.int .i64 v2)) mb bb vb fb vr m1 (f.1,bS) J K N O F/\b.heap[W.heap.size]?=some (.cells #[ae 0,ae 0] 77 (0,0))):=⟨bp.2,bp.1⟩;have c0:b.cell? (ah W.heap.size 0)=some (ae 0):=(by simp[World.cell?,bp.1]);have c1:b.cell? (ah W.heap.size 1)=some (ae 0):=(by simp[World.cell?,bp.1]);have c2:b.frozen? (ah W.heap.size 0)=false:=(by simp[World.frozen?,bp.1]);have ee:b.frozen? (ah W.heap.size 1)=false:=(by simp[World.frozen?,bp.1]);obtain⟨b1,b2⟩:=cA.out b Q.wv.df;have b4:=Q.wv.cells.2.2.1;have b5:b.cell? (ah tb 1)=some (.slice (some ⟨L,al,none⟩) d.length cp):=(by simp[World.cell?,(cl.out.kx Q.kx).t]);clear Q bp b7))
     all_goals
      first
      |(
       have br:Hid (dd w0 w3 (b.alloc (.cells #[.int .i64 v1,.int .i64 v2] 77)) mb bb vb fb vr m1 (f.1,bS) J K N O F/\(b.alloc (.cells #[.int .i64 v1,.int .i64 v2] 77)).cell? (ah b.heap.size 0)=some (ae v1)/\(b.alloc (.cells #[.int .i64 v1,.int .i64 v2] 77)).cell? (ah b.heap.size 1)=some (ae v2)):=⟨dA.out.below ((Below.refl _ b).alloc bJ _),by have cE:=aw b (.cells #[ae v1,ae v2] 77);unfold World.cell?;dsimp only;rw[cE];rfl,by have cE:=aw b (.cells #[ae v1,ae v2] 77);unfold World.cell?;dsimp only;rw[cE];rfl⟩
       clear dA b1 b2 b4 b5;generalize b.alloc (.cells #[.int .i64 v1,.int .i64 v2] 77)=ad at*;generalize b.heap.size=yb at*)
      |(
       have br:Hid (dd w0 w3 ((b.setCell ⟨W.heap.size,0,none⟩ (.int .i64 v1)).setCell ⟨W.heap.size,1,none⟩ (.int .i64 v2)) mb bb vb fb vr m1 (f.1,bS) J K N O F/\((b.setCell ⟨W.heap.size,0,none⟩ (.int .i64 v1)).setCell ⟨W.heap.size,1,none⟩ (.int .i64 v2)).cell? (ah W.heap.size 0)=some (ae v1)/\((b.setCell ⟨W.heap.size,0,none⟩ (.int .i64 v1)).setCell ⟨W.heap.size,1,none⟩ (.int .i64 v2)).cell? (ah W.heap.size 1)=some (ae v2)):=⟨dB.out.1,by rw[aC _ _ _ _ V];exact aH _ _ _ (u:=ae 0) c0,aH _ _ _ (u:=ae 0) ((aC _ _ _ _ V).trans c1)⟩
       clear dB b1 b2 b4 b5 c0 c1 c2 ee;generalize (b.setCell ⟨W.heap.size,0,none⟩ (.int .i64 v1)).setCell ⟨W.heap.size,1,none⟩ (.int .i64 v2)=ad at*;clear b0 b3 cg ch n1 ea ec n4 bT;generalize W.heap.size=yb at*)
     all_goals
      have k1:=br.out.2.1;have eD:=br.out.2.2;have U:Hid (Below ad.heap.size ad (ad.alloc (.cells #[.int .i64 v1,.int .i64 v2] 77))):=(Below.refl ad.heap.size ad).alloc bJ _;have be:Hid (∀a,(ag ad.heap.size:Option Addr)=some a->∀k u,(ev [(v1,v2)])[k]?=some u->(ad.alloc (.cells #[.int .i64 v1,.int .i64 v2] 77)).cell? (a.add k)=some u):=po v1 v2;have X:=ca br.out.1.row (fun k e=>U.out.block k (bR br.out.1.row k e).2)
      dsimp only at X;have bg:Hid (w3.heap.size<=ad.heap.size):=br.out.1.kx.1.size
      go_upto_region 15 with(at_builtin;refine hS _ rfl _ _ 57 rfl w3.heap.size 77 d2 (.agg #[ae 0,ae 0]) 2 16 Tryz.underlying57 d3 d4 d5 d6 rfl Z (.slice J f.1.length K) f.1.length (ev f.1) rfl X (ag ad.heap.size) 1 1 (ev [(v1,v2)]) rfl rfl (fun e=>by cases e) be.out (jM _) (by unfold maxLen;omega) I (by have:=bg.out;simp;omega) ?_;intro B C ef dC dD dE;have eh:Hid (dd w0 w3 ef mb bb vb fb vr m1 (f.1++[(v1,v2)],bS) B C N O F):=(br.out.1.push U.out dD dC dE))
      clear dC dD dE X;go_wp2_with fail;go_roundw
      case rel=>exact⟨j+1,(f.1++[(v1,v2)],bS),B,C,N,O,F,I,V,ac,dz,eh⟩
      case measure=>simp[intOf];omega
    ·obtain rfl:j=d.length:=I;have ei:Hid (f=cD M (tI T.length) H (d.map dr)):=by have x:=bP.out;rw[aP] at x;exact x
     have ej:Hid (∀bU:List (Int×Int)×ck,bU=cD M (tI T.length) H (d.map dr++if kd=5 then(wt.filter (fun e=>e.1==(a:Int))).map (fun e=>ew 3 e.2) else[])->bU.2.2[ms.length]?=some (kd,[])/\bU.2.2.length<=100000/\bU.1.length<=100000):=fun bU cF=>by
      have ar:=ai.out (d.map dr++if kd=5 then(wt.filter (fun e=>e.1==(a:Int))).map (fun e=>ew 3 e.2) else[])
      have dF:=jh M (tI T.length) H (d.map dr++if kd=5 then(wt.filter (fun e=>e.1==(a:Int))).map (fun e=>ew 3 e.2) else[])
      rw[<-cF] at ar dF;refine⟨?_,?_,?_⟩
      ·rw[ar.old ms.length (by rw[<-cm];simp),<-cm];show(g++[(kd,[])])[ms.length]?=_;rw[<-d1.out.1,a9 bJ];simp
      ·have x:=ar.ok.le;rw[js] at x;rw[ar.ok.len];have:=bs.out.l1;omega
      ·rw[dF,aJ,aE];have S:=bs.out.l2;split
       ·rw[aE];have cq:=aY (fun e:bN=>e.1==(a:Int)) wt;omega
       ·simp;omega
     have ek:Hid (∀k,k<=wt.length->(cD M (tI T.length) H (d.map dr++((wt.take k).filter (fun e=>e.1==(a:Int))).map (fun e=>ew 3 e.2))).1.length<=100000):=fun k hk=>by
      rw[jh,aJ,aE,aE];have S:=bs.out.l2;have cq:=aY (fun e:bN=>e.1==(a:Int)) (wt.take k)
      rw[a5] at cq;omega
     have el:T.length<=H.1.length+n':=by
      have S:=dm.out;have cq:H.1.length=(ms++[(a:Int)]).length:=by rw[<-cm]
      omega
     clear bP
     iterate 20 go_step
     iterate 8 go_step
     refine xO (wb:=w) (mB:=m) (k0:=kd) (v0:=[]) bQ.out ei.out cK.out cL.out cs.out el cl.out bs.out dV.out cc.out.wg.wa ej.out ek.out (by have:=dl.out.2;omega) dn.out.2 dn.out.1 I dl.out.1 ?_;intro eE w' em en eo bU cF dH hd c0 c1 ep eq;simp only [Array.getD_eq_getD_getElem?] at dH;refine aW (v:=.agg #[ae 3,ae ms.length]) (by simp[results,results49,dH,go_sem,c0,c1]) hd ⟨em,en,eo,rfl,?_,eq⟩
     rw[b9.out,<-cF];exact ep
end
end ig
end Go.Proofs.YtjpjpjemibgjpaaGreat
