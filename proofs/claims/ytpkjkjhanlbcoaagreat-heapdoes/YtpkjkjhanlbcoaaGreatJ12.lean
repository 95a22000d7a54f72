import Derived.Test.YtpkjkjhanlbcoaaGreatJ11
import Derived.Maps.RangeWalk
namespace Go.Proofs.YtpkjkjhanlbcoaaGreat
set_option maxRecDepth 100000
set_option maxHeartbeats 8000000
open Tryz
namespace eX
open Go.RowKit W Kp ch
theorem s3 {P:Prop}(h:P:=by go_wp2_with fail;refine fin _ ?_;intro w1 hb;obtain⟨c0,c1,hz⟩:=vj hb;obtain⟨_,hf⟩:=m7 hb;have f0:=hf w.heap.size 0 ac;have f1:=hf w.heap.size 1 ac;simp[go_sem] at f0 f1;go_wp2;exact bz (v:=.agg #[ak 1,ak (-1)]) (by simp[results,results14,go_sem,c0,c1]) rfl ⟨rfl,(((bZ.alloc bY _).trans (hb.mono ac)).setCell bY _).setCell bY _⟩):P:=h
theorem xR {P:Prop}(h:P:=by obtain⟨p0,p1⟩:=hfc j hlt;rw[hen] at p0 p1;exact⟨(hb.cell (p:=ao hJ (iS+j*2)) s7).trans p0,(hb.cell (p:=ao hJ (iS+j*2+1)) s7).trans p1⟩):P:=h
theorem qm {P:Prop}(h:P:=by
 rintro e w' ⟨rfl,hb⟩
 exact⟨_,_,m,rfl,h.below hb,Kx.of hb⟩):P:=h
structure Rd (w0:aw)(bb rp:Nat)(T:List cH)(wt:List b9):Prop where
 wg:Wg w0 rp T wt
 bx:w0.cell? (ao bb 0)=some (am rp)
theorem Ev {w:aw}(x:Int):∀b,(an w.heap.size:Option Addr)=some b->∀k u,([x].map (Value.int .i64))[k]?=some u->(w.alloc (.cells #[.int .i64 x] 3)).cell? (b.add k)=some u:=fun b e k u hk=>by
 cases e;have c:k<1:=by have:=(List.getElem?_eq_some_iff.1 hk).1;simpa using this
 obtain rfl:k=0:=aa;simp at hk;subst hk;show World.cell? _ ⟨w.heap.size,0,none⟩=_;unfold World.cell?;rw[(aN w (.cells #[.int .i64 x] 3))];rfl
theorem Ew {w:aw}(x:Int):∀b,(an w.heap.size:Option Addr)=some b->∀k u,(nv [(x,none,0,[])])[k]?=some u->(w.alloc (.cells #[.int .i64 x,.slice none 0 0] 107)).cell? (b.add k)=some u:=fun b e k u hk=>by
 have c:=aN w (.cells #[.int .i64 x,.slice none 0 0] 107)
 cases e;have d:k<2:=by have:=(List.getElem?_eq_some_iff.1 hk).1;simpa[nv] using this
 rcases(show k=0\/k=1 by omega) with rfl|rfl
 ·simp[nv] at hk;subst hk;show World.cell? _ ⟨w.heap.size,0,none⟩=_;unfold World.cell?;rw[c];rfl
 ·simp[nv] at hk;subst hk;show World.cell? _ ⟨w.heap.size,1,none⟩=_;unfold World.cell?;rw[c];rfl
theorem Ex {w0 wr wq b:aw}{mb i j fb:Nat}{ms:List Int}{l:List _}{f c:Option Addr}{g d:Nat}{n vr:Value}{m:List du}(h:et w0 wr mb i j fb (ms,l) (.slice f ms.length g) n vr m)(a:Int)(hq:Below wr.heap.size wr wq)(hg:wq.grownBy b (Value.slice f ms.length g).ownBlock)(p:b.ownsRow w0.heap.size 3 1 (.slice c (ms.length+1) d) (ms.length+1) (ms.map (Value.int .i64)++[a].map (Value.int .i64))):
 et w0 (b.setCell ⟨mb,0,none⟩ (.slice c (ms.length+1) d)) mb i j fb (ms++[a],l) (.slice c (ms.length+1) d) n vr m/\e5 w0.heap.size wr (b.setCell ⟨mb,0,none⟩ (.slice c (ms.length+1) d))/\b.heap[mb]?=some (.cells #[.slice f ms.length g] 74 (0,0)):=by
 have fr:=(Fr.of hq).grown hg (fun k e=>aL (by simpa using e.symm))
 have o:=h.meets a fr (by have q:(ms++[a]).length=ms.length+1:=ac;rw[q,bC];exact p)
 refine⟨o.1,o.2,(fr.block mb (lt_of_some h.mc) (fun e=>?_)).trans h.mc⟩
 obtain⟨s,hc⟩:=d6 h.mr mb e;rw[h.mc] at hc;simp at hc
theorem Ey {w0 wr wq c:aw}{mb i b fb:Nat}{s:cP}{g d:Option Addr}{cN f:Nat}{j vr:Value}{m:List du}(h:et w0 wr mb i b fb s j (.slice g m.length cN) vr m)(kd:Int)(hq:Below wr.heap.size wr wq)(hg:wq.grownBy c (Value.slice g m.length cN).ownBlock)(n:c.ownsRow w0.heap.size 107 2 (.slice d (m.length+1) f) (m.length+1) (nv m++nv [(kd,none,0,[])])):
 et w0 (c.setCell ⟨b,1,none⟩ (.slice d (m.length+1) f)) mb i b fb (s.1,s.2++[(kd,[])]) j (.slice d (m.length+1) f) vr (m++[(kd,none,0,[])])/\e5 w0.heap.size wr (c.setCell ⟨b,1,none⟩ (.slice d (m.length+1) f))/\c.heap[b]?=some (.cells #[vr,.slice g m.length cN] 60 (0,0)):=by
 have fr:=(Fr.of hq).grown hg (fun k e=>aL (by simpa using e.symm))
 have l:=h.Es kd fr (by have o:(m++[((kd,none,0,[]):du)]).length=m.length+1:=ac;rw[o,vA];exact n)
 refine⟨l.1,l.2,(fr.block b (lt_of_some h.vc) (fun e=>?_)).trans h.vc⟩
 obtain⟨p,hc⟩:=d6 h.nr b e;rw[h.vc] at hc;simp at hc
section
variable {w0 w:aw}{mb bb vb fb rp:Nat}{s:cP}{va vn vr:Value}{m:List du}{T:List cH}{wt:List b9}{n':Nat}
theorem Ez (h:et w0 w mb bb vb fb s va vn vr m)(dX:Rd w0 bb rp T wt)(hw:nH T wt)(hO:eU (tI T.length) s)(a:Nat)(c7:cI T a)(hs:s.1.contains (a:Int)=false)(dY:ql w0 mb bb vb fb T (met (tI T.length) (fM T) (fN T wt) n') n')(dZ:T.length<=s.1.length+(n'+1)):
 Calls prog 66 (jT 3 a mb bb vb fb) w fun e w'=>∃cc cd a3,e=.returned (.agg #[ak 3,ak s.1.length])/\et w0 w' mb bb vb fb (met (tI T.length) (fM T) (fN T wt) (n'+1) s a) cc cd vr a3/\Kx w0 w m w' a3:=by
 have ha:a<T.length:=c7.1;have hl:s.1.length<=10000:=by have n:=hO.le;rw[jS] at n;have:=hw.l1;omega
 have cK:s.2.length=s.1.length:=hO.len;have d0:eU (tI T.length) (s.1++[(a:Int)],s.2++[(fM T a,[])]):=hO.more (oS.2 ⟨aa,aa⟩) (fun c=>by rw[List.contains_iff_mem.2 c] at hs;cases hs) _;have cL:ay (met (tI T.length) (fM T) (fN T wt) (n'+1) s a=((dh (met (tI T.length) (fM T) (fN T wt) n') (tI T.length) (s.1++[(a:Int)],s.2++[(fM T a,[])]) (fN T wt a)).2.1,(dh (met (tI T.length) (fM T) (fN T wt) n') (tI T.length) (s.1++[(a:Int)],s.2++[(fM T a,[])]) (fN T wt a)).2.2.set s.1.length (fM T a,(dh (met (tI T.length) (fM T) (fN T wt) n') (tI T.length) (s.1++[(a:Int)],s.2++[(fM T a,[])]) (fN T wt a)).1))):=rfl;have c9:ay (kg (tI T.length) (fM T) (fN T wt) n' (met (tI T.length) (fM T) (fN T wt) n')):=jb n';obtain⟨ms,q⟩:=s;generalize met (tI T.length) (fM T) (fN T wt) (n'+1) (ms,q) a=eI at*;generalize met (tI T.length) (fM T) (fN T wt) n'=M at*;have cM:=hide d0;have da:=hide dY;have ce:=hide hw;have cz:=hide dX;have cn:=hide h;obtain⟨co,cq,d1⟩:=dU h.mr;subst d1;have hb:=(aq w (.cells #[.int .i64 3,.int .i64 (a:Int)] 97)).alloc ac (.cells #[.int .i64 0,.int .i64 0] 97)
 have db:=hide hb;have c0:=(hb.cell (p:=ao mb 0) h.cells.2.2.2.1).trans h.cells.1;have eJ:=h.cells.2.2.2.1;have d2:w.heap.size≠mb:=aa;go_enter func66,ntmps66;go_wp2_with fail;have bd:ay (((w.alloc (.cells #[.int .i64 3,.int .i64 (a:Int)] 97)).alloc (.cells #[.int .i64 0,.int .i64 0] 97)).heap[w.heap.size+1]?=some (.cells #[ak 0,ak 0] 97 (0,0))/\((w.alloc (.cells #[.int .i64 3,.int .i64 (a:Int)] 97)).alloc (.cells #[.int .i64 0,.int .i64 0] 97)).heap[w.heap.size]?=some (.cells #[ak 3,ak (a:Int)] 97 (0,0))/\((w.alloc (.cells #[.int .i64 3,.int .i64 (a:Int)] 97)).alloc (.cells #[.int .i64 0,.int .i64 0] 97)).heap.size=w.heap.size+2):=by
  refine⟨?_,?_,ac⟩
  ·have:=aN (w.alloc (.cells #[.int .i64 3,.int .i64 (a:Int)] 97)) (.cells #[.int .i64 0,.int .i64 0] 97)
   have e:(w.alloc (.cells #[.int .i64 3,.int .i64 (a:Int)] 97)).heap.size=w.heap.size+1:=ac;rw[e] at this
   exact this
  ·have n:=aN w (.cells #[.int .i64 3,.int .i64 (a:Int)] 97)
   have ap:=(aE (w.alloc (.cells #[.int .i64 3,.int .i64 (a:Int)] 97)).heap.size (w.alloc (.cells #[.int .i64 3,.int .i64 (a:Int)] 97))).alloc bY (.cells #[.int .i64 0,.int .i64 0] 97)
   exact(ap.block w.heap.size ac).trans n
 generalize (w.alloc (.cells #[.int .i64 3,.int .i64 (a:Int)] 97)).alloc (.cells #[.int .i64 0,.int .i64 0] 97)=cO at*
 go_loopw [7] (fun iv wr=>∃j:Nat,j<=ms.length/\iv=ak j/\ay (Below cO.heap.size cO wr)) (fun iv _=>ms.length-(intOf iv).toNat)
 case atStart=>exact⟨0,aX _,rfl,aE _ _⟩
 case round=>
  obtain⟨j,d3,rfl,br⟩:=hrel;have d5:_:=aM cO _ c0;have z0:=(br.o.cell (p:=ao mb 0) d5).trans c0;have cA:=(br.o.block w.heap.size (lt_of_some bd.o.2.1)).trans bd.o.2.1;have cQ:=(br.o.block (w.heap.size+1) (lt_of_some bd.o.1)).trans bd.o.1;have y1:wr.cell? (ao w.heap.size 1)=some (ak (a:Int)):=by simp[World.cell?,cA]
  have cB:Below w.heap.size w wr:=db.o.trans (br.o.mono db.o.size)
  have j0:(0:Int)<=(j:Int):=aa;by_cases hlt:j<ms.length
  ·have ag:=cn.o.below cB;obtain⟨ab,cb,dc⟩:=d4 ag.mr (by show 0<ms.length;omega)
   obtain⟨rfl,rfl⟩:co=an ab/\cq=cb:=by simpa using dc
   have eK:=(fe ag.mr (i:=j) (u:=ak (ms.getD j 0)) (by show(ms.map (Value.int .i64))[j]?=_;rw[bv,aI hlt,aG,aI hlt];rfl)).1;have dd:(ms.getD j 0==(a:Int))=false:=by
    have dd:ms.getD j 0≠(a:Int):=fun e=>by
     have hm:(a:Int)∈ms:=by rw[<-e];exact getD_in hlt
     rw[List.contains_iff_mem.2 hm] at hs;cases hs
    simpa using dd
   have eL:(j:Int)<(ms.length:Int):=aa;generalize ms.getD j 0=y at*;clear cA cQ ag dc
   as_aux_lemma=>
   go_wp2_with fail
   go_quiet (fail)
   go_wp2_with fail;go_roundw
   case rel=>exact⟨j+1,aa,aj,below_drewN br.o _⟩
   case measure=>simp[intOf];omega
  ·obtain rfl:j=ms.length:=aa;have ag:=cn.o.below cB;have bs:ay (wr.heap[w.heap.size]?=some (.cells #[ak 3,ak (a:Int)] 97 (0,0))/\wr.heap[w.heap.size+1]?=some (.cells #[ak 0,ak 0] 97 (0,0))/\w.heap.size+2<=wr.heap.size/\Below w.heap.size w wr):=⟨cA,cQ,by have n:=bd.o.2.2;have ap:=br.o.size;omega,cB⟩
   have d6:=ag.cells.2.2.2.2.2.2.1 0;have de:ay (et w0 wr mb bb vb fb (ms,q) (.slice co ms.length cq) vn vr m):=ag;obtain⟨d7,df,dg,di,dj⟩:=info_parts jQ;have ar:ay (Below wr.heap.size wr (wr.alloc (.cells #[.int .i64 (a:Int)] 3))):=aq wr _;have bt:ay (∀x,(an wr.heap.size:Option Addr)=some x->∀k u,([(a:Int)].map (Value.int .i64))[k]?=some u->(wr.alloc (.cells #[.int .i64 (a:Int)] 3)).cell? (x.add k)=some u):=Ev _;have ax:=cy ag.mr (fun k e=>ar.o.block k (cg ag.mr k e).2)
   dsimp only at ax;have bx:ay (w0.heap.size<=wr.heap.size):=ag.dx.size;have d8:mb<wr.heap.size:=lt_of_some ag.mc;clear cA cQ cB ag br bd c0 d2
   go_upto_region 10 with(at_builtin;refine je _ rfl _ _ 74 rfl w0.heap.size 3 d7 (ak 0) 1 8 underlying74 df dg di dj rfl ae (.slice co ms.length cq) ms.length (ms.map (Value.int .i64)) rfl ax (an wr.heap.size) 1 1 ([(a:Int)].map (Value.int .i64)) rfl rfl (fun e=>by cases e) bt.o (fun u bg=>by simp at bg;subst bg;rfl) (by unfold maxLen;omega) aa (by have:=bx.o;simp;omega) ?_;intro N S b dk dl _;have cr:ay (et w0 (b.setCell ⟨mb,0,none⟩ (.slice N (ms.length+1) S)) mb bb vb fb (ms++[(a:Int)],q) (.slice N (ms.length+1) S) vn vr m/\e5 w0.heap.size wr (b.setCell ⟨mb,0,none⟩ (.slice N (ms.length+1) S))/\b.heap[mb]?=some (.cells #[.slice co ms.length cq] 74 (0,0))):=(Ex de.o (a:Int) ar.o dl dk);have s0:b.cell? (ao mb 0)=some (.slice co ms.length cq):=aA cr.o.2.2;have s1:b.frozen? (ao mb 0)=false:=(by simp[World.frozen?,cr.o.2.2]))
   have b0:ay (et w0 (b.setCell ⟨mb,0,none⟩ (.slice N (ms.length+1) S)) mb bb vb fb (ms++[(a:Int)],q) (.slice N (ms.length+1) S) vn vr m/\e5 w0.heap.size wr (b.setCell ⟨mb,0,none⟩ (.slice N (ms.length+1) S))):=⟨cr.o.1,cr.o.2.1⟩
   clear cr s0 s1 dk dl ax bt ar bx d8 d6 y1 z0;generalize b.setCell ⟨mb,0,none⟩ (.slice N (ms.length+1) S)=g at*;have bi:ay (g.heap[w.heap.size]?=some (.cells #[ak 3,ak (a:Int)] 97 (0,0))/\g.heap[w.heap.size+1]?=some (.cells #[ak 0,ak 0] 97 (0,0))/\w.heap.size+2<=g.heap.size/\Kx w0 w m g m):=⟨(b0.o.2.fR _ _ _ _ bs.o.1 (by unfold jg;decide)).trans bs.o.1,(b0.o.2.fR _ _ _ _ bs.o.2.1 (by unfold jg;decide)).trans bs.o.2.1,aS bs.o.2.2.1 b0.o.2.size,(Kx.of bs.o.2.2.2).trans ⟨b0.o.2,fun _ d9=>aL d9⟩⟩
   obtain⟨eM,cT,dm,dn⟩:=cz.o.wg.th;obtain⟨t,ht⟩:∃t,T[a]?=some t:=⟨_,aI ha⟩
   obtain⟨cs,x,cp,rfl,dp,dq,dr,ds,dt⟩:=dn a t ht;have cR:ay (T.getD ((a:Int)).toNat t0=t):=by show _=_;rw[Int.toNat_natCast,aG,ht];rfl
   have lo:∀{p:Addr}{v:Value},w0.cell? p=some v->g.cell? p=some v:=fun {p v} e=>((b0.o.1.dx).cell (p:=p) (aM w0 _ e)).trans e;have u0:=lo dp;have ct:=lo dq;have cu:=lo dr;have cC:=lo ds;have cD:=lo dm;have ea:=lo cz.o.bx;have eb:g.cell? (ao w.heap.size 1)=some (ak (a:Int)):=by simp[World.cell?,bi.o.1]
   have dv:ay (c8 w0 x t.2.1):=dt;have ec:ay (w0.cell? (ao bb 0)=some (am rp)):=cz.o.bx;have a0:(0:Int)<=(a:Int):=aa;have a1:(a:Int)<(T.length:Int):=aa;have cS:ay (fM T (a:Int)=t.1/\fN T wt (a:Int)=t.2.1.map dK++if t.1=5 then(wt.filter (fun e=>e.1==(a:Int))).map (fun e=>ew 3 e.2) else[]):=⟨by unfold fM;rw[cR.o],by unfold fN;rw[cR.o]⟩
   have cU:ay ((∀v∈t.2.1,e3 T v)/\t.2.1.length<=12):=by
    have n:=ce.o.fv a c7;have ap:=ce.o.tl a;have e:T.getD a t0=t:=by have:=cR.o;rwa [Int.toNat_natCast] at this
    rw[e] at n ap;exact⟨n,ap⟩
   clear dn dt lo dp dq dr ds dm;obtain⟨kd,d,cf,ch⟩:=t;dsimp only at u0 ct cu cC dv cS cU
   go_region_held3 (fun w'=>w'.cell? (ao bb 0)=some (am rp)/\w'.cell? (ao rp 0)=some (.slice (an cs) T.length cT)/\w'.cell? (ao w.heap.size 1)=some (ak (a:Int))/\w'.cell? (ao cs (a*4))=some (ak kd)/\w'.cell? (ao cs (a*4+1))=some (.slice x d.length cp)/\w'.cell? (ao cs (a*4+2))=some (.bool cf)/\w'.cell? (ao cs (a*4+3))=some (.bool ch)) (go_keep) (fail)
   have ci:ay (Below g.heap.size g (g.alloc (.cells #[.int .i64 kd,.slice x d.length cp,.bool cf,.bool ch] 118)).drew):=((aE _ g).alloc bY _).drew;have cE:ay ((g.alloc (.cells #[.int .i64 kd,.slice x d.length cp,.bool cf,.bool ch] 118)).drew.heap[g.heap.size]?=some (.cells #[ak kd,.slice x d.length cp,.bool cf,.bool ch] 118 (0,0))):=aN g _;generalize (g.alloc (.cells #[.int .i64 kd,.slice x d.length cp,.bool cf,.bool ch] 118)).drew=aB at*;have aF:=b0.o.1.below ci.o;have b3:=iZ ((ci.o.block _ (lt_of_some bi.o.1)).trans bi.o.1) ((ci.o.block _ (lt_of_some bi.o.2.1)).trans bi.o.2.1) (aS bi.o.2.2.1 ci.o.size) (bi.o.2.2.2.trans (Kx.of ci.o))
   obtain⟨cV,cN,ed⟩:=dU aF.nr;subst ed;have v0:=aF.cells.2.1;have k0:aB.cell? (ao g.heap.size 0)=some (ak kd):=aA cE.o
   have ee:=aF.cells.2.2.2.2.2.2.2.1 1;have eN:m.length<=10000:=by have n:=aF.len;have n:m.length=q.length:=n;have ap:q.length=ms.length:=cK;omega
   obtain⟨ef,dx,dy,dz,dA⟩:=info_parts wV;have ar:ay (Below aB.heap.size aB (aB.alloc (.cells #[.int .i64 kd,.slice none 0 0] 107))):=aq aB _;have bt:ay (∀x,(an aB.heap.size:Option Addr)=some x->∀k u,(nv [(kd,none,0,[])])[k]?=some u->_=_):=Ew _;have ax:=cy aF.nr (fun k e=>ar.o.block k (cg aF.nr k e).2)
   have bx:ay (_):=aF.dx.size;have dB:ay (_):=aF;have eg:_:=lt_of_some aF.vc;clear u0 ct cu cC cD ea eb aF
   go_upto_region 12 with(at_builtin;refine je _ rfl _ _ 58 rfl w0.heap.size 107 ef (.agg #[ak 0,.slice none 0 0]) 2 32 underlying58 dx dy dz dA rfl ae (.slice cV m.length cN) m.length (nv m) rfl ax (an aB.heap.size) 1 1 (nv [(kd,none,0,[])]) rfl rfl (fun e=>by cases e) bt.o (fun u bg=>by simp[nv] at bg;rcases bg with bg|bg<;>(subst bg;rfl)) (by unfold maxLen;omega) aa (by have:=bx.o;simp;omega) ?_;intro bl bn bo dC dD _;have cv:ay (et w0 (bo.setCell ⟨vb,1,none⟩ (.slice bl (m.length+1) bn)) mb bb vb fb (ms++[(a:Int)],q++[(kd,[])]) (.slice N (ms.length+1) S) (.slice bl (m.length+1) bn) vr (m++[(kd,none,0,[])])/\e5 w0.heap.size aB (bo.setCell ⟨vb,1,none⟩ (.slice bl (m.length+1) bn))/\bo.heap[vb]?=some (.cells #[vr,.slice cV m.length cN] 60 (0,0))):=(Ey dB.o kd ar.o dD dC);have s0:bo.cell? (ao vb 1)=some (.slice cV m.length cN):=aA cv.o.2.2;have s1:bo.frozen? (ao vb 1)=false:=(by simp[World.frozen?,cv.o.2.2]))
   have b6:ay (et w0 (bo.setCell ⟨vb,1,none⟩ (.slice bl (m.length+1) bn)) mb bb vb fb (ms++[(a:Int)],q++[(kd,[])]) (.slice N (ms.length+1) S) (.slice bl (m.length+1) bn) vr (m++[(kd,none,0,[])])/\e5 w0.heap.size aB (bo.setCell ⟨vb,1,none⟩ (.slice bl (m.length+1) bn))):=⟨cv.o.1,cv.o.2.1⟩
   clear cv s0 s1 dC dD ax bt ar bx eg ee k0 v0;generalize bo.setCell ⟨vb,1,none⟩ (.slice bl (m.length+1) bn)=w3 at*;have cF:ay (Own w3 w.heap.size (w.heap.size+1) g.heap.size (a:Int) kd (.slice x d.length cp) cf ch):=⟨(b6.o.2.fR _ _ _ _ b3.o.1 (by unfold jg;decide)).trans b3.o.1,(b6.o.2.fR _ _ _ _ b3.o.2.1 (by unfold jg;decide)).trans b3.o.2.1,(b6.o.2.fR _ _ _ _ cE.o (by unfold jg;decide)).trans cE.o⟩
   have dE:ay (Kx w0 w m w3 (m++[(kd,none,0,[])])/\w.heap.size+2<=w3.heap.size):=⟨b3.o.2.2.2.trans ⟨b6.o.2,fun k hk=>by
    obtain⟨y,hy,b7,o,e⟩:=hk;rcases List.mem_append.1 hy with hy|hy
    ·exact aL ⟨y,hy,b7,o,e⟩
    ·rw[List.mem_singleton.1 hy] at b7;simp at b7⟩,aS b3.o.2.2.1 b6.o.2.size⟩
   have eh:ay (et w0 w3 mb bb vb fb (ms++[(a:Int)],q++[(kd,[])]) (.slice N (ms.length+1) S) (.slice bl (m.length+1) bn) vr (m++[(kd,none,0,[])])):=b6.o.1;rw[cS.o.1] at cM cL;rw[cS.o.2] at cL;have cW:T.length<=(ms++[(a:Int)]).length+n':=by simp;omega
   have bd:ay (∀l,gL (tI T.length) (fM T) (fN T wt) (ms++[(a:Int)],q++[(kd,[])]) (dh M (tI T.length) (ms++[(a:Int)],q++[(kd,[])]) l).2 (dh M (tI T.length) (ms++[(a:Int)],q++[(kd,[])]) l).1):=fun l=>m6 c9.o cM.o (by rw[jS];exact cW) l;have dF:ay (T.length<=(ms++[(a:Int)]).length+n'):=cW;have ei:ay (q.length=ms.length/\q.length<=10000):=⟨cK,aa⟩
   obtain⟨ej,ek,el,em,en⟩:=info_parts my;have eO:=cU.o.2;have dG:ay (¬fF (m++[(kd,none,0,[])]) (w.heap.size+1)/\w0.heap.size<=w.heap.size+1):=⟨fun hk=>by
    obtain⟨y,hy,b7,o,e⟩:=hk;rcases List.mem_append.1 hy with hy|hy
    ·have:=cn.o.sY (w.heap.size+1) ⟨y,hy,b7,o,e⟩
     omega
    ·rw[List.mem_singleton.1 hy] at b7;simp at b7,Nat.le_succ_of_le cn.o.dx.size⟩
   clear b0 b6 bs bi b3 cE ci dB de cn dx dy dz dA df dg di dj dZ cW cK;generalize cG:((ms++[(a:Int)],q++[(kd,[])]):cP)=ai at*;generalize eP:(m++[((kd,none,0,[]):du)])=m1 at*;generalize g.heap.size=tb at*;go_wp2_with fail
   go_loopw [10,11] (fun eo iv wr=>∃(j:Nat)(f:List (Int×Int)×cP)(aR:Option Addr)(aT:Nat)(cc cd:Value)(a3:List du),j<=d.length/\eo=.slice aR f.1.length aT/\iv=ak j/\ay (f=dh M (tI T.length) ai ((d.take j).map dK))/\ay (dL w0 w3 wr mb bb vb fb vr m1 f aR aT cc cd a3)) (fun _ iv _=>d.length-(intOf iv).toNat)
   case atStart=>exact⟨0,([],ai),none,0,_,_,m1,aX _,rfl,rfl,by show _=_;rw[List.take_zero];rfl,dL.start (P:=([],ai)) eh.o rfl⟩
   case round=>
    obtain⟨j,f,aR,aT,cc,cd,a3,d3,rfl,rfl,cj,ck⟩:=hrel;have dH:=cF.o.kx ck.o.kx;have dI:wr.cell? (ao tb 1)=some (.slice x d.length cp):=aA dH.t
    have q0:(0:Int)<=(j:Int):=aa;clear dH;by_cases hlt:j<d.length
    ·have q1:(j:Int)<(d.length:Int):=aa;obtain⟨hJ,iS,rfl,s7,hfc⟩:=dv.o aa;have dJ:d.getD j (0,0)∈d:=getD_in hlt;have cX:=cU.o.1 _ dJ;obtain⟨B,F,hen⟩:∃B F,d.getD j (0,0)=(B,F):=⟨_,_,rfl⟩
     have cY:ay (∀w',Below w0.heap.size w0 w'->w'.cell? (ao hJ (iS+j*2))=some (ak B)/\w'.cell? (ao hJ (iS+j*2+1))=some (ak F)):=fun w' hb=>by exact xR
     have dM:ay ((d.take (j+1)).map dK=(d.take j).map dK++[dK (B,F)]):=by show _=_;rw[fE d j hlt (0,0),bC,hen];rfl
     rw[hen] at cX;have be:=bd.o ((d.take j).map dK)
     rw[<-cj.o] at be;have cH:ay (∀W:aw,dL w0 w3 W mb bb vb fb vr m1 f aR aT cc cd a3->Calls prog 66 (jT B F mb bb vb fb) W fun e w'=>∃aV a2 ad,e=.returned (.agg #[ak (dw M (tI T.length) f.2 (dK (B,F))).1.1,ak (dw M (tI T.length) f.2 (dK (B,F))).1.2])/\dL w0 w3 w' mb bb vb fb vr m1 (f.1,(dw M (tI T.length) f.2 (dK (B,F))).2) aR aT aV a2 ad/\Kx w0 W a3 w' ad):=fun W dN=>by
      refine(da.o W f.2 cc cd vr a3 (B,F) dN.wv be.ok cX (by
       have n:=be.le;have ap:=dF.o;have cJ:ai.1.length=(ms++[(a:Int)]).length:=by rw[<-cG]
       omega)).mono ?_
      rintro e b ⟨aV,a2,ad,rfl,ep,cw⟩
      exact⟨aV,a2,ad,rfl,dN.call ep cw,cw⟩
     have dO:ay ((f.1++[(dw M (tI T.length) f.2 (dK (B,F))).1],(dw M (tI T.length) f.2 (dK (B,F))).2)=dh M (tI T.length) ai ((d.take (j+1)).map dK)):=by show _=_;rw[dM.o,od,<-cj.o]
     have eQ:f.1.length<=100000:=by rw[cj.o,kc,aU,bu];omega
     have ct:=ck.o.wv.cells.2.2.1;obtain⟨cu,cC⟩:=cY.o wr ck.o.wv.dx;have cD:=dI;generalize dw M (tI T.length) f.2 (dK (B,F))=eq at*;obtain⟨⟨v1,v2⟩,cx⟩:=eq;dsimp only at cH dO;have cl:=ck.o;have n1:wr.heap.size≠fb:=by have:fb<wr.heap.size:=aM wr _ ct;omega
     have er:wr.heap.size≠hJ:=by have:hJ<wr.heap.size:=aM wr _ cu;omega
     have es:wr.heap.size≠tb:=by have:tb<wr.heap.size:=aM wr _ cD;omega
     have n4:True:=trivial;clear dM cj hfc dJ be cX ck hen dI;go_wp2_with fail;generalize eu:wr=W at*;clear eu;have cZ:=cH.o W.drew (cl.below (aE _ W).drew)
     have c3:=cH.o (W.alloc (.cells #[.int .i64 0,.int .i64 0] 97)).drew (cl.below ((aE _ W).alloc bY _).drew)
     have cl:ay (_):=cl;clear cH
     go_region_held3 (fun w'=>w'.cell? (ao fb 0)=some (kB mb bb vb fb)/\w'.cell? (ao tb 1)=some (.slice (some ⟨hJ,iS,none⟩) d.length cp)/\w'.cell? (ao hJ (iS+j*2))=some (ak B)/\w'.cell? (ao hJ (iS+j*2+1))=some (ak F)) (go_keep) (first|(go_at_call 66;refine cZ.mono ?_;clear cZ c3;rintro e b ⟨aV,a2,ad,rfl,al,_⟩;have dP:ay (dL w0 w3 b mb bb vb fb vr m1 (f.1,cx) aR aT aV a2 ad):=al;obtain⟨b1,b2⟩:=cY.o b al.wv.dx;have b4:=al.wv.cells.2.2.1;have b5:b.cell? (ao tb 1)=some (.slice (some ⟨hJ,iS,none⟩) d.length cp):=(by simp[World.cell?,(cF.o.kx al.kx).t]);clear al)|(go_at_call 66;refine c3.mono ?_;clear cZ c3;rintro e b ⟨aV,a2,ad,rfl,al,cw⟩;have b8:=cl.o.late al (show Kx w0 (W.alloc (.cells #[.int .i64 0,.int .i64 0] 97)) a3 b ad from(Kx.of bZ.drew).trans cw) v1 v2;have dQ:ay (dL w0 w3 ((b.setCell ⟨W.heap.size,0,none⟩ (.int .i64 v1)).setCell ⟨W.heap.size,1,none⟩ (.int .i64 v2)) mb bb vb fb vr m1 (f.1,cx) aR aT aV a2 ad/\b.heap[W.heap.size]?=some (.cells #[ak 0,ak 0] 97 (0,0))):=⟨b8.2,b8.1⟩;have c0:b.cell? (ao W.heap.size 0)=some (ak 0):=aA b8.1;have c1:b.cell? (ao W.heap.size 1)=some (ak 0):=aA b8.1;have c2:b.frozen? (ao W.heap.size 0)=false:=aC b8.1;have c4:b.frozen? (ao W.heap.size 1)=false:=aC b8.1;obtain⟨b1,b2⟩:=cY.o b al.wv.dx;have b4:=al.wv.cells.2.2.1;have b5:b.cell? (ao tb 1)=some (.slice (some ⟨hJ,iS,none⟩) d.length cp):=(by simp[World.cell?,(cF.o.kx al.kx).t]);clear al b8 cw))
     all_goals
      first
      |(
       have ca:ay (dL w0 w3 (b.alloc (.cells #[.int .i64 v1,.int .i64 v2] 97)) mb bb vb fb vr m1 (f.1,cx) aR aT aV a2 ad/\(b.alloc (.cells #[.int .i64 v1,.int .i64 v2] 97)).cell? (ao b.heap.size 0)=some (ak v1)/\(b.alloc (.cells #[.int .i64 v1,.int .i64 v2] 97)).cell? (ao b.heap.size 1)=some (ak v2)):=⟨dP.o.below ((aE _ b).alloc bY _),by have c5:=aN b (.cells #[.int .i64 v1,.int .i64 v2] 97);unfold World.cell?;dsimp only;rw[c5];rfl,by have c5:=aN b (.cells #[.int .i64 v1,.int .i64 v2] 97);unfold World.cell?;dsimp only;rw[c5];rfl⟩
       clear dP b1 b2 b4 b5;generalize b.alloc (.cells #[.int .i64 v1,.int .i64 v2] 97)=bp at*;generalize b.heap.size=ex at*)
      |(
       have ca:ay (dL w0 w3 ((b.setCell ⟨W.heap.size,0,none⟩ (.int .i64 v1)).setCell ⟨W.heap.size,1,none⟩ (.int .i64 v2)) mb bb vb fb vr m1 (f.1,cx) aR aT aV a2 ad/\((b.setCell ⟨W.heap.size,0,none⟩ (.int .i64 v1)).setCell ⟨W.heap.size,1,none⟩ (.int .i64 v2)).cell? (ao W.heap.size 0)=some (ak v1)/\((b.setCell ⟨W.heap.size,0,none⟩ (.int .i64 v1)).setCell ⟨W.heap.size,1,none⟩ (.int .i64 v2)).cell? (ao W.heap.size 1)=some (ak v2)):=⟨dQ.o.1,by rw[a5 _ _ _ _ ac];exact a8 _ _ _ (u:=ak 0) c0,a8 _ _ _ (u:=ak 0) ((a5 _ _ _ _ ac).trans c1)⟩
       clear dQ b1 b2 b4 b5 c0 c1 c2 c4;generalize (b.setCell ⟨W.heap.size,0,none⟩ (.int .i64 v1)).setCell ⟨W.heap.size,1,none⟩ (.int .i64 v2)=bp at*;clear ct cu cC cD n1 er es n4 cl;generalize W.heap.size=ex at*)
     all_goals
      have k1:=ca.o.2.1;have eR:=ca.o.2.2;have ar:ay (Below bp.heap.size bp (bp.alloc (.cells #[.int .i64 v1,.int .i64 v2] 97))):=aq bp _;have bt:ay (∀a,(an bp.heap.size:Option Addr)=some a->∀k u,(ev [(v1,v2)])[k]?=some u->_=_):=sZ v1 v2;have ax:=cy ca.o.1.row (fun k e=>ar.o.block k (cg ca.o.1.row k e).2)
      dsimp only at ax;have bx:ay (_):=ca.o.1.kx.1.size
      go_upto_region 15 with(at_builtin;refine je _ rfl _ _ 57 rfl w3.heap.size 97 ej (.agg #[ak 0,ak 0]) 2 16 underlying57 ek el em en rfl ae (.slice aR f.1.length aT) f.1.length (ev f.1) rfl ax (an bp.heap.size) 1 1 (ev [(v1,v2)]) rfl rfl (fun e=>by cases e) bt.o (i0 _) (by unfold maxLen;omega) aa (by have:=bx.o;simp;omega) ?_;intro N S eS dR dS dT;have ey:ay (_):=(ca.o.1.push ar.o dS dR dT))
      clear dR dS dT ax;go_wp2_with fail;go_roundw
      case rel=>exact⟨j+1,(f.1++[(v1,v2)],cx),N,S,aV,a2,ad,aa,ac,aj,dO,ey⟩
      case measure=>simp[intOf];omega
    ·obtain rfl:j=d.length:=aa;have ez:ay (f=dh M (tI T.length) ai (d.map dK)):=by have n:=cj.o;rw[ba] at n;exact n
     have eA:ay (∀cm:List (Int×Int)×cP,cm=dh M (tI T.length) ai (d.map dK++if kd=5 then(wt.filter (fun e=>e.1==(a:Int))).map (fun e=>ew 3 e.2) else[])->cm.2.2[ms.length]?=some (kd,[])/\cm.2.2.length<=100000/\cm.1.length<=100000):=fun cm c6=>by
      have be:=bd.o (d.map dK++if kd=5 then(wt.filter (fun e=>e.1==(a:Int))).map (fun e=>ew 3 e.2) else[])
      have dV:=kc M (tI T.length) ai (d.map dK++if kd=5 then(wt.filter (fun e=>e.1==(a:Int))).map (fun e=>ew 3 e.2) else[])
      rw[<-c6] at be dV;refine⟨?_,?_,?_⟩
      ·rw[be.old ms.length (by rw[<-cG];simp),<-cG];show(q++[(kd,[])])[ms.length]?=_;rw[<-ei.o.1,List.getElem?_append_right bY];simp
      ·have n:=be.ok.le;rw[jS] at n;rw[be.ok.len];have:=ce.o.l1;omega
      ·rw[dV,aZ,aU];have ap:=ce.o.l2;split
       ·rw[aU];have cJ:=bk (fun e:b9=>e.1==(a:Int)) wt;omega
       ·simp;omega
     have eB:ay (∀k,k<=wt.length->(dh M (tI T.length) ai (d.map dK++((wt.take k).filter (fun e=>e.1==(a:Int))).map (fun e=>ew 3 e.2))).1.length<=100000):=fun k hk=>by
      rw[kc,aZ,aU,aU];have ap:=ce.o.l2;have cJ:=bk (fun e:b9=>e.1==(a:Int)) (wt.take k)
      rw[bu] at cJ;omega
     have eC:T.length<=ai.1.length+n':=by
      have ap:=dF.o;have cJ:ai.1.length=(ms++[(a:Int)]).length:=by rw[<-cG]
      omega
     clear cj
     iterate 20 go_step
     iterate 8 go_step
     refine Eu (wb:=w) (mB:=m) (k0:=kd) (v0:=[]) ck.o ez.o c9.o da.o cM.o eC cF.o ce.o ec.o cz.o.wg.wa eA.o eB.o (by have:=dE.o.2;omega) dG.o.2 dG.o.1 aa dE.o.1 ?_;intro eT w' eD eE eF cm c6 dW hd c0 c1 eG eH;simp only [Array.getD_eq_getD_getElem?] at dW;refine bz (v:=.agg #[ak 3,ak ms.length]) (by simp[results,results66,dW,go_sem,c0,c1]) hd ⟨eD,eE,eF,rfl,?_,eH⟩
     rw[cL.o,<-c6];exact eG
end
end eX
namespace eX
open Go.RowKit W Kp ch
theorem EA {w0:aw}{mb f g fb rp:Nat}{T:List cH}{wt:List b9}(k:Rd w0 f rp T wt)(hw:nH T wt):∀n,ql w0 mb f g fb T (met (tI T.length) (fM T) (fN T wt) n) n:=by
 intro n
 induction n with
 |zero=>
  intro w s l o vr m v h hO d j;have hl:s.1.length<=100000:=by have i:=hO.le;rw[jS] at i;have:=hw.l1;omega
  by_cases b:v.1=3
  ·cases hs:s.1.contains v.2
   ·exfalso;have i:=hO.lt (oS.2 (d.lt b)) (fun c=>by rw[List.contains_iff_mem.2 c] at hs;cases hs)
    rw[jS] at i;omega
   ·rw[xD d b hs];have e:jT v.1 v.2 mb f g fb=jT 3 v.2 mb f g fb:=by rw[b]
    rw[e];refine(xP h v.2 hl hs).mono ?_;exact qm
  ·rw[xC d b];refine(xO w v.1 v.2 b).mono ?_;exact qm
 |succ n p=>
  intro w s l o vr m v h hO d j;have hl:s.1.length<=100000:=by have i:=hO.le;rw[jS] at i;have:=hw.l1;omega
  by_cases b:v.1=3
  ·have e:jT v.1 v.2 mb f g fb=jT 3 v.2 mb f g fb:=by rw[b]
   rw[e];cases hs:s.1.contains v.2
   ·rw[D_ d b hs];obtain⟨g1,g2⟩:=d.2 b;obtain⟨a,ha⟩:=Int.eq_ofNat_of_zero_le g1;rw[ha] at hs g2⊢;rw[Int.toNat_natCast] at g2;exact Ez h k hw hO a g2 hs p j
   ·rw[xD d b hs];refine(xP h v.2 hl hs).mono ?_;exact qm
  ·rw[xC d b];refine(xO w v.1 v.2 b).mono ?_;exact qm
theorem EB {w0 w:aw}{mb j b fb:Nat}{s:cP}{l n vr:Value}{m:List du}(h:et w0 w mb j b fb s l n vr m)(f:Value):et w0 (w.setCell ⟨b,0,none⟩ f) mb j b fb s l n f m/\e5 w0.heap.size w (w.setCell ⟨b,0,none⟩ f):=by
 have o:Fr (fun k=>k=b) w (w.setCell ⟨b,0,none⟩ f):=(Fr.refl (fun k=>k=b) w).set b _ _ rfl;have hk:∀k d e g,w.heap[k]?=some (Obj.cells d e g)->e≠60->_=_:=fun k d e g hk p=>o.block k (lt_of_some hk) (fun c=>by have c:=c;rw[c,h.vc] at hk;simp at hk;exact p hk.2.1.symm)
 have kw:=e5.fr o (fun k c=>by
  have c:=c;refine⟨by rw[c];exact h.lo.2.1,fun d e g hc=>?_⟩
  rw[c,h.vc] at hc;simp at hc;exact aK (aL hc.2.1.symm))
 refine⟨⟨h.dx.trans (kw.below h.dx.size),h.lo,(hk _ _ _ _ h.fc ae).trans h.fc,(hk _ _ _ _ h.mc ae).trans h.mc,?_,cy h.mr (fun k i=>by
  obtain⟨d,hc⟩:=d6 h.mr k i;exact hk k _ _ _ hc ae),cy h.nr (fun k i=>by
  obtain⟨d,hc⟩:=d6 h.nr k i;exact hk k _ _ _ hc ae),h.nd,fun x q=>(h.fl x q).kw kw⟩,kw⟩
 simp only [World.setCell,Array.getElem?_modify,if_true,h.vc,Option.map_some];simp
theorem EC {w0 w3 wr:aw}{mb g b fb:Nat}{vr i d:Value}{m1 j:List du}{P:List _×cP}{l:Option Addr}{m:Nat}(h:dL w0 w3 wr mb g b fb vr m1 P l m i d j)(f:Value):dL w0 w3 (wr.setCell ⟨b,0,none⟩ f) mb g b fb f m1 P l m i d j/\wr.heap[b]?=some (.cells #[vr,d] 60 (0,0)):=by
 have n:=EB h.wv f;refine⟨⟨h.hs,n.1,h.kx.trans ⟨n.2,fun _ o=>aL o⟩,cy h.row (fun k e=>aP _ _ _ _ (fun c=>?_)),h.no⟩,h.wv.vc⟩
 obtain⟨p,hc⟩:=d6 h.row k e;have c:k=b:=by first|exact c|exact c.symm
 rw[c,h.wv.vc] at hc;simp at hc
section
variable {w:aw}{rp:Nat}{T:List cH}{wt:List b9}{l:List (Int×Int)}{ra:Option Addr}{rc:Nat}
theorem ED (hg:Wg w rp T wt):∃w0 w3:aw,w0=((w.alloc (.cells #[.pointer (some ⟨rp,0,none⟩)] 40)).alloc (.cells #[.slice none 0 0,.slice none 0 0] 60))/\w3=(((w0.alloc (.cells #[.slice none 0 0,.slice none 0 0] 60)).alloc (.cells #[.slice none 0 0] 74)).alloc (.cells #[(kB (w.heap.size+1+1+1) w.heap.size (w.heap.size+1+1) (w.heap.size+1+1+1+1))] 130))/\
 (Rd w0 w.heap.size rp T wt/\w0.heap.size=w.heap.size+1+1/\w0.heap[w.heap.size+1]?=some (.cells #[.slice none 0 0,.slice none 0 0] 60 (0,0))/\Below w.heap.size w w0/\
 dL w0 w3 w3 (w.heap.size+1+1+1) w.heap.size (w.heap.size+1+1) (w.heap.size+1+1+1+1) (.slice none 0 0) [] ([],([],[])) none 0 (.slice none 0 0) (.slice none 0 0) []):=by
 obtain⟨w1,b⟩:∃w1,w1=(w.alloc (.cells #[.pointer (some ⟨rp,0,none⟩)] 40)):=⟨_,rfl⟩
 obtain⟨w0,c⟩:∃w0,w0=w1.alloc (.cells #[.slice none 0 0,.slice none 0 0] 60):=⟨_,rfl⟩
 obtain⟨wa,ea⟩:∃wa,wa=w0.alloc (.cells #[.slice none 0 0,.slice none 0 0] 60):=⟨_,rfl⟩
 obtain⟨wb,d⟩:∃wb,wb=wa.alloc (.cells #[.slice none 0 0] 74):=⟨_,rfl⟩
 obtain⟨wc,e⟩:∃wc,wc=wb.alloc (.cells #[(kB (w.heap.size+1+1+1) w.heap.size (w.heap.size+1+1) (w.heap.size+1+1+1+1))] 130):=⟨_,rfl⟩
 have s1:w1.heap.size=w.heap.size+1:=by rw[b];simp
 have s0:w0.heap.size=w.heap.size+1+1:=by rw[c];simp[s1]
 have i:wa.heap.size=w.heap.size+1+1+1:=by rw[ea];simp[s0]
 have l:wb.heap.size=w.heap.size+1+1+1+1:=by rw[d];simp[i]
 have n1:w1.heap[w.heap.size]?=some (.cells #[am rp] 40 (0,0)):=by rw[b];exact aN w _
 have n0:w0.heap[w1.heap.size]?=some (.cells #[.slice none 0 0,.slice none 0 0] 60 (0,0)):=by rw[c];exact aN w1 _
 have m:wa.heap[w0.heap.size]?=some (.cells #[.slice none 0 0,.slice none 0 0] 60 (0,0)):=by rw[ea];exact aN w0 _
 have nb:wb.heap[wa.heap.size]?=some (.cells #[.slice none 0 0] 74 (0,0)):=by rw[d];exact aN wa _
 have nc:wc.heap[wb.heap.size]?=some (.cells #[(kB (w.heap.size+1+1+1) w.heap.size (w.heap.size+1+1) (w.heap.size+1+1+1+1))] 130 (0,0)):=by rw[e];exact aN wb _
 have b1:Below w.heap.size w w1:=by rw[b];exact bZ.alloc bY _
 have f:Below w1.heap.size w1 w0:=by rw[c];exact bZ.alloc bY _
 have j:Below w0.heap.size w0 wa:=by rw[ea];exact bZ.alloc bY _
 have k:Below wa.heap.size wa wb:=by rw[d];exact bZ.alloc bY _
 have g:Below wb.heap.size wb wc:=by rw[e];exact bZ.alloc bY _
 refine⟨w0,wc,by rw[c,b],by rw[e,d,ea],⟨hg.below (b1.trans (f.mono b1.size)),by simp[World.cell?,((f.block w.heap.size aa).trans n1)]⟩,s0,by rw[<-s1];exact n0,b1.trans (f.mono b1.size),dL.start ⟨((j.trans (k.mono j.size)).trans (g.mono aa)),⟨aa,aa,aa⟩,by rw[l] at nc;exact nc,?_,?_,a6 _ _ _ _,a6 _ _ _ _,rfl,ac⟩ rfl⟩
 ·rw[<-i];exact(g.block _ aa).trans nb
 ·rw[<-s0];exact(g.block _ aa).trans ((k.block _ aa).trans m)
theorem EE (hg:Wg w rp T wt)(c1:w.cell? (ao rp 1)=some (.slice ra l.length rc))(hl:c8 w ra l)(hm:l.length<=100000)(hw:nH T wt)(cc:∀v∈l,e3 T v):
 Calls prog 26 #[am rp] w fun e w'=>∃cd cC ap ce nc,e=.returned (.agg #[.slice cd l.length cC,.slice ap ce nc])/\nf w' w.heap.size cd (fi T wt l).1/\lv w' w.heap.size ap (fi T wt l).2.2/\ce=(fi T wt l).2.2.length/\Below w.heap.size w w':=by
 obtain⟨w0,w3,bb,cf,N⟩:=ED (w:=w) hg;have N:ay (_):=N;have cD:ay (c8 w0 ra l):=hl.below N.o.2.2.2.1;have ch:ay (w0.cell? (ao rp 1)=some (.slice ra l.length rc)):=(N.o.2.2.2.1.cell (p:=ao rp 1) (aM w _ c1)).trans c1;have cE:ay (ql w0 (w.heap.size+1+1+1) w.heap.size (w.heap.size+1+1) (w.heap.size+1+1+1+1) T (met (tI T.length) (fM T) (fN T wt) T.length) T.length):=EA N.o.1 hw _;have cF:ay (kg (tI T.length) (fM T) (fN T wt) T.length (met (tI T.length) (fM T) (fN T wt) T.length)):=jb _;have cG:ay (fi T wt l=dh (met (tI T.length) (fM T) (fN T wt) T.length) (tI T.length) ([],[]) (l.map dK)):=rfl;have cH:ay (_):=cc;have dg:ay (_):=hw;generalize fi T wt l=cI at*;generalize met (tI T.length) (fM T) (fN T wt) T.length=M at*;have cJ:ay (∀l,_):=fun l=>m6 cF.o (eU.start _) (by rw[jS];simp) l;clear hg c1 hl cc hw;go_enter func26,ntmps26;go_wp2_with fail;rw[show(((w.alloc (.cells #[.pointer (some ⟨rp,0,none⟩)] 40))).alloc (.cells #[.slice none 0 0,.slice none 0 0] 60))=w0 from bb.symm,show(((w0.alloc (.cells #[.slice none 0 0,.slice none 0 0] 60)).alloc (.cells #[.slice none 0 0] 74)).alloc (.cells #[(kB (w.heap.size+1+1+1) w.heap.size (w.heap.size+1+1) (w.heap.size+1+1+1+1))] 130))=w3 from cf.symm];obtain⟨cK,cL,cM,cN,cO⟩:=info_parts my;have bo:ay (w.heap.size<w0.heap.size/\w.heap.size+1<w0.heap.size):=by have:=N.o.2.1;exact⟨aa,aa⟩
 have a0:ay (w.heap.size<=w0.heap.size/\_):=⟨by have:=bo.o.1;omega,N.o.2.2.2.1⟩
 have cQ:ay (_=_):=N.o.1.bx;have cR:ay (w0.heap[w.heap.size+1]?=some (.cells #[.slice none 0 0,.slice none 0 0] 60 (0,0))):=N.o.2.2.1;have cS:ay (dL w0 w3 w3 (w.heap.size+1+1+1) w.heap.size (w.heap.size+1+1) (w.heap.size+1+1+1+1) (.slice none 0 0) [] ([],([],[])) none 0 (.slice none 0 0) (.slice none 0 0) []):=N.o.2.2.2.2;have di:w.heap.size+1≠w.heap.size+1+1:=aa;clear N bb cf;generalize dj:w.heap.size+1+1+1=mb at*;generalize dk:mb+1=fb at*;generalize dl:w.heap.size+1+1=n at*;generalize dm:w.heap.size+1=rb at*;generalize cT:w.heap.size=o at*
 go_loopw [6] (fun iv wr=>∃(j:Nat)(d:List (Int×Int)×cP)(g:Option Addr)(m:Nat)(bd be:Value)(B:List du),j<=l.length/\iv=ak j/\ay (d=dh M (tI T.length) ([],[]) ((l.take j).map dK))/\ay (dL w0 w3 wr mb o n fb (.slice g d.1.length m) [] d g m bd be B)) (fun iv _=>l.length-(intOf iv).toNat)
 case atStart=>exact⟨0,([],([],[])),none,0,_,_,[],aX _,rfl,by show _=_;rw[List.take_zero];rfl,cS.o⟩
 case round=>
  obtain⟨j,d,g,m,bd,be,B,dn,rfl,ar,q⟩:=hrel;have bp:ay (∀w',Below w0.heap.size w0 w'->_/\w'.cell? (ao rp 1)=some (.slice ra l.length rc)):=fun w' hb=>⟨(hb.cell (p:=ao o 0) bo.o.1).trans cQ.o,(hb.cell (p:=ao rp 1) (aM w0 _ ch.o)).trans ch.o⟩
  obtain⟨ci,cj⟩:=bp.o wr q.o.wv.dx;have q0:(0:Int)<=(j:Int):=aa;by_cases hlt:j<l.length
  ·have q1:(j:Int)<(l.length:Int):=aa;obtain⟨hJ,iS,rfl,s7,hfc⟩:=cD.o aa;have ck:l.getD j (0,0)∈l:=getD_in hlt;have br:=cH.o _ ck;obtain⟨s,t,hen⟩:∃s t,l.getD j (0,0)=(s,t):=⟨_,_,rfl⟩
   have bs:ay (∀w',Below w0.heap.size w0 w'->w'.cell? (ao hJ (iS+j*2))=some (ak s)/\w'.cell? (ao hJ (iS+j*2+1))=some (ak t)):=fun w' hb=>by exact xR
   have cl:ay ((l.take (j+1)).map dK=(l.take j).map dK++[dK (s,t)]):=by show _=_;rw[fE l j hlt (0,0),bC,hen];rfl
   rw[hen] at br;have bt:=cJ.o ((l.take j).map dK)
   rw[<-ar.o] at bt;have bg:ay (∀W:aw,dL w0 w3 W mb o n fb (.slice g d.1.length m) [] d g m bd be B->Calls prog 66 (jT s t mb o n fb) W fun e w'=>∃ag S F,e=.returned (.agg #[ak (dw M (tI T.length) d.2 (dK (s,t))).1.1,ak (dw M (tI T.length) d.2 (dK (s,t))).1.2])/\dL w0 w3 w' mb o n fb (.slice g d.1.length m) [] (d.1,(dw M (tI T.length) d.2 (dK (s,t))).2) g m ag S F/\Kx w0 W B w' F):=fun W cm=>by
    refine(cE.o W d.2 bd be (.slice g d.1.length m) B (s,t) cm.wv bt.ok br aa).mono ?_;rintro e f ⟨ag,S,F,rfl,cU,a1⟩
    exact⟨ag,S,F,rfl,cm.call cU a1,a1⟩
   have cn:ay ((d.1++[(dw M (tI T.length) d.2 (dK (s,t))).1],(dw M (tI T.length) d.2 (dK (s,t))).2)=dh M (tI T.length) ([],[]) ((l.take (j+1)).map dK)):=by show _=_;rw[cl.o,od,<-ar.o]
   have cV:d.1.length<=100000:=by rw[ar.o,kc,aU,bu];omega
   have co:=q.o.wv.cells.2.2.1;obtain⟨cp,cW⟩:=bs.o wr q.o.wv.dx;generalize dw M (tI T.length) d.2 (dK (s,t))=cX at*;obtain⟨⟨v1,v2⟩,aF⟩:=cX;dsimp only at bg cn;have aR:=q.o;have n1:wr.heap.size≠fb:=by have:fb<wr.heap.size:=aM wr _ co;omega
   have bx:wr.heap.size≠hJ:=by have:hJ<wr.heap.size:=aM wr _ cp;omega
   have cY:wr.heap.size≠o:=by have:o<wr.heap.size:=aM wr _ ci;omega
   have n4:wr.heap.size≠rp:=by have:rp<wr.heap.size:=aM wr _ cj;omega
   clear cl ar hfc ck bt br q hen;go_wp2_with fail;generalize cZ:wr=W at*;clear cZ;have b0:=bg.o W.drew (aR.below (aE _ W).drew)
   have b3:=bg.o (W.alloc (.cells #[.int .i64 0,.int .i64 0] 97)).drew (aR.below ((aE _ W).alloc bY _).drew)
   have aR:ay (_):=aR;clear bg
   go_region_held3 (fun w'=>w'.cell? (ao fb 0)=some (kB mb o n fb)/\w'.cell? (ao o 0)=some (am rp)/\w'.cell? (ao rp 1)=some (.slice (some ⟨hJ,iS,none⟩) l.length rc)/\w'.cell? (ao hJ (iS+j*2))=some (ak s)/\w'.cell? (ao hJ (iS+j*2+1))=some (ak t)) (go_keep) (first|(go_at_call 66;refine b0.mono ?_;clear b0 b3;rintro e f ⟨ag,S,F,rfl,ab,_⟩;have cq:ay (_):=ab;obtain⟨b1,b2⟩:=bs.o f ab.wv.dx;have b4:=ab.wv.cells.2.2.1;obtain⟨b5,b6⟩:=bp.o f ab.wv.dx;clear ab)|(go_at_call 66;refine b3.mono ?_;clear b0 b3;rintro e f ⟨ag,S,F,rfl,ab,a1⟩;have ax:=aR.o.late ab (show Kx w0 (W.alloc (.cells #[.int .i64 0,.int .i64 0] 97)) B f F from(Kx.of bZ.drew).trans a1) v1 v2;have cr:ay (dL w0 w3 ((f.setCell ⟨W.heap.size,0,none⟩ (.int .i64 v1)).setCell ⟨W.heap.size,1,none⟩ (.int .i64 v2)) mb o n fb (.slice g d.1.length m) [] (d.1,aF) g m ag S F/\f.heap[W.heap.size]?=some (.cells #[ak 0,ak 0] 97 (0,0))):=⟨ax.2,ax.1⟩;have c0:f.cell? (ao W.heap.size 0)=some (ak 0):=aA ax.1;have c1:f.cell? (ao W.heap.size 1)=some (ak 0):=aA ax.1;have c2:f.frozen? (ao W.heap.size 0)=false:=aC ax.1;have c4:f.frozen? (ao W.heap.size 1)=false:=aC ax.1;obtain⟨b1,b2⟩:=bs.o f ab.wv.dx;have b4:=ab.wv.cells.2.2.1;obtain⟨b5,b6⟩:=bp.o f ab.wv.dx;clear ab ax a1))
   all_goals
    first
    |(
     have al:ay (dL w0 w3 (f.alloc (.cells #[.int .i64 v1,.int .i64 v2] 97)) mb o n fb (.slice g d.1.length m) [] (d.1,aF) g m ag S F/\(f.alloc (.cells #[.int .i64 v1,.int .i64 v2] 97)).cell? (ao f.heap.size 0)=some (ak v1)/\(f.alloc (.cells #[.int .i64 v1,.int .i64 v2] 97)).cell? (ao f.heap.size 1)=some (ak v2)):=⟨cq.o.below ((aE _ f).alloc bY _),by have b7:=aN f (.cells #[.int .i64 v1,.int .i64 v2] 97);unfold World.cell?;dsimp only;rw[b7];rfl,by have b7:=aN f (.cells #[.int .i64 v1,.int .i64 v2] 97);unfold World.cell?;dsimp only;rw[b7];rfl⟩
     clear cq b1 b2 b4 b5 b6;generalize f.alloc (.cells #[.int .i64 v1,.int .i64 v2] 97)=ad at*;generalize f.heap.size=c3 at*)
    |(
     have al:ay (dL w0 w3 ((f.setCell ⟨W.heap.size,0,none⟩ (.int .i64 v1)).setCell ⟨W.heap.size,1,none⟩ (.int .i64 v2)) mb o n fb (.slice g d.1.length m) [] (d.1,aF) g m ag S F/\((f.setCell ⟨W.heap.size,0,none⟩ (.int .i64 v1)).setCell ⟨W.heap.size,1,none⟩ (.int .i64 v2)).cell? (ao W.heap.size 0)=some (ak v1)/\((f.setCell ⟨W.heap.size,0,none⟩ (.int .i64 v1)).setCell ⟨W.heap.size,1,none⟩ (.int .i64 v2)).cell? (ao W.heap.size 1)=some (ak v2)):=⟨cr.o.1,by rw[a5 _ _ _ _ ac];exact a8 _ _ _ (u:=ak 0) c0,a8 _ _ _ (u:=ak 0) ((a5 _ _ _ _ ac).trans c1)⟩
     clear cr b1 b2 b4 b5 b6 c0 c1 c2 c4;generalize (f.setCell ⟨W.heap.size,0,none⟩ (.int .i64 v1)).setCell ⟨W.heap.size,1,none⟩ (.int .i64 v2)=ad at*;clear co cp cW n1 bx cY n4 ci cj aR;generalize W.heap.size=c3 at*)
   all_goals
    have k1:=al.o.2.1;have dp:=al.o.2.2;have c5:=al.o.1.wv.cells.2.2.2.2.2.2.2.2;have dq:n<ad.heap.size:=aM ad _ c5;have cs:ay (Below ad.heap.size ad (ad.alloc (.cells #[.int .i64 v1,.int .i64 v2] 97))):=aq ad _;have c6:ay (∀a,(an ad.heap.size:Option Addr)=some a->∀k u,(ev [(v1,v2)])[k]?=some u->_=_):=sZ v1 v2;have b8:=cy al.o.1.row (fun k e=>cs.o.block k (cg al.o.1.row k e).2)
    dsimp only at b8;have c7:ay (w3.heap.size<=ad.heap.size):=al.o.1.kx.1.size
    go_upto_region 7 with(at_builtin;refine je _ rfl _ _ 57 rfl w3.heap.size 97 cK (.agg #[ak 0,ak 0]) 2 16 underlying57 cL cM cN cO rfl ae (.slice g d.1.length m) d.1.length (ev d.1) rfl b8 (an ad.heap.size) 1 1 (ev [(v1,v2)]) rfl rfl (fun e=>by cases e) c6.o (i0 _) (by unfold maxLen;omega) aa (by have:=c7.o;simp;omega) ?_;intro bi bl bn ct cu cv;have c9:ay (_):=(al.o.1.push cs.o cu ct cv);have b9:ay (dL w0 w3 (bn.setCell ⟨n,0,none⟩ (.slice bi (d.1.length+1) bl)) mb o n fb (.slice bi (d.1.length+1) bl) [] (d.1++[(v1,v2)],aF) bi bl ag S F/\bn.heap[n]?=some (.cells #[.slice g d.1.length m,S] 60 (0,0))):=(EC c9.o _);have s0:bn.cell? (ao n 0)=some (.slice g d.1.length m):=aA b9.o.2;have s1:bn.frozen? (ao n 0)=false:=(by simp[World.frozen?,b9.o.2]))
    clear ct cu cv b8;go_wp2_with fail;go_roundw
    case rel=>exact⟨j+1,(d.1++[(v1,v2)],aF),bi,bl,ag,S,F,aa,aj,cn,by rw[show(d.1++[(v1,v2)],aF).1.length=d.1.length+1 by simp];exact b9.o.1⟩
    case measure=>simp[intOf];omega
  ·obtain rfl:j=l.length:=aa;have da:ay (d=cI):=by have cw:=ar.o;rw[ba] at cw;exact cw.trans cG.o.symm
   have cV:d.1.length=l.length:=by rw[ar.o,kc,aU,bu];simp
   obtain⟨ap,nc,db⟩:=dU q.o.wv.nr;subst db;have dr:=q.o.wv.cells.2.1;have z0:=q.o.wv.cells.2.2.2.2.2.2.2.2;have aT:=(q.o.wv.dx.block rb bo.o.2).trans cR.o;have y0:wr.cell? (ao rb 0)=some (.slice none 0 0):=aA aT
   have y1:wr.cell? (ao rb 1)=some (.slice none 0 0):=aA aT
   have ds:wr.frozen? (ao rb 0)=false:=aC aT
   have dt:wr.frozen? (ao rb 1)=false:=aC aT
   have cx:ay (_=_):=aT;clear aT ar;go_wp2_with fail;obtain⟨aB,hW0⟩:∃aB,aB=(wr.setCell ⟨rb,0,none⟩ (.slice g l.length m)).setCell ⟨rb,1,none⟩ (.slice ap B.length nc):=⟨_,rfl⟩
   rw[<-hW0];have g0:aB.cell? (ao rb 0)=some (.slice g l.length m):=by exact kS
   have g1:aB.cell? (ao rb 1)=some (.slice ap B.length nc):=by rw[hW0];exact a8 _ _ _ ((a5 wr ⟨rb,0,none⟩ ⟨rb,1,none⟩ _ ac).trans y1)
   have aV:Fr (fun k=>k=rb) wr aB:=by rw[hW0];exact((Fr.refl (fun k=>k=rb) wr).set rb 0 _ rfl).set rb 1 _ rfl
   clear hW0;have ai:=q.o.wv;have ca:=q.o.row;have cz:w.heap.size<=w3.heap.size:=aS (by have:=a0.o.1;omega) q.o.hs;have cA:∀{cb:Option Addr}{L:List (Int×Int)},ge wr cb L->c8 aB cb L:=fun {cb L} h=>h.1.keep aV.size (fun hp b e=>by
    obtain⟨dc,dv,dx,bb,hb⟩:=h.2 hp;rw[bb] at e;cases e;refine aV.block _ (lt_of_some hb) (fun c=>?_)
    have c:dc=rb:=c;rw[c,cx.o] at hb;simp at hb)
   have dd:Below w.heap.size w aB:=by
    rw[cT];refine(a0.o.2.trans (ai.dx.mono a0.o.1)).trans (aV.below ?_ (fun k e=>?_))
    ·exact aS a0.o.1 ai.dx.size
    ·have e:k=rb:=e;omega
   rw[<-da.o];refine bz (v:=.agg #[.slice g l.length m,.slice ap B.length nc]) (by simp[results,results26,go_sem,g0,g1]) rfl ⟨g,m,ap,B.length,nc,rfl,⟨cA (ge.of ca),fun hp=>?_⟩,⟨B,ai.nd,fun x a2=>cA (ai.fl x a2),fun k hk=>?_,fun hp=>?_⟩,ai.len,dd⟩
   ·obtain⟨b,de,e⟩:=d4 ca hp;cases e;exact⟨b,0,rfl,aS cz (cg ca b rfl).1⟩
   ·rcases q.o.kx.2 k hk with⟨x,a2,_⟩|df
    ·cases a2
    ·exact aS cz df
   ·obtain⟨b,de,e⟩:=d4 ai.nr hp;cases e;have dy:=(cg ai.nr b rfl).1;obtain⟨dz,a3⟩:=d6 ai.nr b rfl;have cB:b≠rb:=fun c=>by rw[c,cx.o] at a3;simp at a3
    refine⟨b,0,rfl,by have:=a0.o.1;omega,aO (lt_of_some a3) aV.size,fun i x a2=>?_⟩
    obtain⟨n1,bx⟩:=na B i x a2;rw[Nat.zero_add];exact⟨(aW (a:=⟨b,i*2,none⟩) (aV.block b (lt_of_some a3) cB)).trans (fe ai.nr n1).1,(aW (a:=⟨b,i*2+1,none⟩) (aV.block b (lt_of_some a3) cB)).trans (fe ai.nr bx).1⟩
end
end eX
open Go.RowKit W Kp ch
theorem xS (a b:Option Addr)(f cb:Nat)(l:List (Int×Int))(w:aw)(hm:l.length<=100000)(ha:c8 w a l)(hb:c8 w b l):
 Calls prog 63 #[.slice a l.length f,.slice b l.length cb] w fun e w'=>e=.returned (.bool true)/\Below w.heap.size w w':=by
 have g:=hide ha;have i:=hide hb;clear ha hb;go_enter func63,ntmps63;go_wp2
 go_loopw [5] (fun iv wr=>∃j:Nat,j<=l.length/\iv=ak j/\Below w.heap.size w wr) (fun iv _=>l.length-(intOf iv).toNat)
 exact⟨0,aX _,rfl,aE _ _⟩
 ·
   obtain⟨j,s,rfl,hb⟩:=hrel;by_cases c:j<l.length
   ·obtain⟨t,x,k,B,hc⟩:=(g.o.below hb) aa;obtain⟨m,n⟩:=hc j c;subst k;obtain⟨b2,F,o,N,d⟩:=(i.o.below hb) aa;obtain⟨p,q⟩:=d j c;subst o;clear hc d;generalize (l.getD j (0,0)).1=u at m p;generalize (l.getD j (0,0)).2=v at n q;go_wp2
    go_quiet (fail)
    go_wp2;go_roundw;exact⟨j+1,aa,aj,by first|exact below_drewN hb _|exact hb.drew|exact hb⟩
    simp[intOf];omega
   ·obtain rfl:j=l.length:=aa;go_wp2;go_ret;exact⟨rfl,hb⟩
theorem Ln.at {w:aw}{f:Option Addr}{c:List _}(h:Ln w f c){i:Nat}(hi:i<c.length):∃b o g fc,f=some ⟨b,o,none⟩/\b<w.heap.size/\w.cell? (ao b (o+i*2))=some (ak (c.getD i (0,[])).1)/\w.cell? (ao b (o+i*2+1))=some (.slice g (c.getD i (0,[])).2.length fc)/\c8 w g (c.getD i (0,[])).2:=by
 obtain⟨m,j,k,l⟩:=h;have hl:m.length=c.length:=by rw[<-j];simp[ie]
 obtain⟨b,o,e,hb,hc⟩:=l aa;obtain⟨x,d⟩:∃x,m[i]?=some x:=⟨_,aI aa⟩
 have en:c.getD i (0,[])=(x.1,x.2.2.2):=by subst j;rw[aG,ie,bv,d];rfl
 rw[en];exact⟨b,o,_,_,e,hb,(hc i _ d).1,(hc i _ d).2,k _ (List.mem_of_getElem? d)⟩
theorem EF (r1 g n1 d:Option Addr)(c1 c2 i k:Nat)(c:List (Int×Int))(b:List (Int×List (Int×Int)))(w:aw)(hm:c.length<=100000)(hl:b.length<=100000)(S:∀nd∈b,nd.2.length<=100000)(W:c8 w r1 c)(ab:c8 w g c)(ad:Ln w n1 b)(ag:Ln w d b):
 Calls prog 24 #[.agg #[.slice r1 c.length c1,.slice n1 b.length i],.agg #[.slice g c.length c2,.slice d b.length k]] w fun e w'=>e=.returned (.bool true)/\Below w.heap.size w w':=by
 have n:=(aq w (.cells #[.slice r1 c.length c1,.slice n1 b.length i] 60)).alloc ac (.cells #[.slice g c.length c2,.slice d b.length k] 60)
 have k0:((w.alloc (.cells #[.slice r1 c.length c1,.slice n1 b.length i] 60)).alloc (.cells #[.slice g c.length c2,.slice d b.length k] 60)).cell? (ao w.heap.size 1)=some (.slice n1 b.length i):=by simp[go_sem]
 have k1:((w.alloc (.cells #[.slice r1 c.length c1,.slice n1 b.length i] 60)).alloc (.cells #[.slice g c.length c2,.slice d b.length k] 60)).cell? (ao (w.heap.size+1) 1)=some (.slice d b.length k):=by simp[go_sem]
 have ai:((w.alloc (.cells #[.slice r1 c.length c1,.slice n1 b.length i] 60)).alloc (.cells #[.slice g c.length c2,.slice d b.length k] 60)).heap.size=w.heap.size+2:=ac;have P:=xS r1 g c1 c2 c _ hm (W.below n) (ab.below n)
 have bb:ay (∀w',Below w.heap.size w w'->Ln w' n1 b):=fun w' hb=>ad.below hb;have bd:ay (∀w',Below w.heap.size w w'->Ln w' d b):=fun w' hb=>ag.below hb;have be:ay (∀nd∈b,nd.2.length<=100000):=S;clear W ab ad ag S;go_enter func24,ntmps24;go_wp2_with fail;refine P.mono ?_;clear P;rintro e w1 ⟨rfl,l⟩
 have bg:=n.trans (l.mono aa)
 have bi:=l.size;rw[ai] at bi;have al:=(l.cell (p:=ao w.heap.size 1) (by show w.heap.size<_;omega)).trans k0;have ap:=(l.cell (p:=ao (w.heap.size+1) 1) (by show w.heap.size+1<_;omega)).trans k1;clear n k0 k1 ai l;go_wp2_with fail
 go_loopw [5] (fun iv wr=>∃j:Nat,j<=b.length/\iv=ak j/\Below w1.heap.size w1 wr) (fun iv _=>b.length-(intOf iv).toNat)
 case atStart=>exact⟨0,aX _,rfl,aE _ _⟩
 case round=>
  obtain⟨j,bt,rfl,hb⟩:=hrel;have bl:=hb.size;have v:=bg.trans (hb.mono aa)
  have x:=(hb.cell (p:=ao w.heap.size 1) (by show w.heap.size<_;omega)).trans al;have y1:=(hb.cell (p:=ao (w.heap.size+1) 1) (by show w.heap.size+1<_;omega)).trans ap;have bn:w.heap.size<wr.heap.size:=aa;have bo:w.heap.size+1<wr.heap.size:=aa;by_cases o:j<b.length
  ·obtain⟨b1,o1,ar,ax,bp,l1,q,s,B⟩:=(bb.o wr v).at o;obtain⟨b2,m,aB,aF,br,l2,t,u,F⟩:=(bd.o wr v).at o;subst bp br;have aR:(b.getD j (0,[])).2.length<=100000:=be.o _ (by rw[aG,aI o];exact a_ o)
   generalize (b.getD j (0,[])).1=kd at q t;generalize (b.getD j (0,[])).2=N at s B u F aR;have j0:(0:Int)<=(j:Int):=aa;have bx:(j:Int)<(b.length:Int):=aa;have hd:=(au wr).drew;have P:=xS ar aB ax aF N wr.drew aR (B.below hd) (F.below hd)
   clear B F al ap;go_wp2_with fail
   go_region_held3 (fun w'=>w'.cell? (ao w.heap.size 1)=some (.slice (some ⟨b1,o1,none⟩) b.length i)/\w'.cell? (ao (w.heap.size+1) 1)=some (.slice (some ⟨b2,m,none⟩) b.length k)/\w'.cell? (ao b1 (o1+j*2))=some (ak kd)/\w'.cell? (ao b1 (o1+j*2+1))=some (.slice ar N.length ax)/\w'.cell? (ao b2 (m+j*2))=some (ak kd)/\w'.cell? (ao b2 (m+j*2+1))=some (.slice aB N.length aF)) (first|exact⟨x,y1,q,s,t,u⟩|exact⟨u0,aT,aV,a0,a1,a2⟩|go_keep)
    (first|(go_at_call 63;refine P.mono ?_;rintro e w3 ⟨rfl,a3⟩;have f:Below wr.heap.size wr w3:=hd.trans a3;have u0:=(f.cell (p:=ao w.heap.size 1) bn).trans x;have aT:=(f.cell (p:=ao (w.heap.size+1) 1) bo).trans y1;have aV:=(f.cell (p:=ao b1 (o1+j*2)) l1).trans q;have a0:=(f.cell (p:=ao b1 (o1+j*2+1)) l1).trans s;have a1:=(f.cell (p:=ao b2 (m+j*2)) l2).trans t;have a2:=(f.cell (p:=ao b2 (m+j*2+1)) l2).trans u))
   have bs:Below w1.heap.size w1 w3:=hb.trans (f.mono bl)
   clear P u0 aT aV a0 a1 a2 x y1 q s t u f a3 hd;go_wp2_with fail;go_roundw
   case rel=>exact⟨j+1,aa,aj,bs⟩
   case measure=>simp[intOf];omega
  ·obtain rfl:j=b.length:=aa;go_wp2_with fail;go_ret;exact⟨rfl,v⟩
open Go.RowKit W
theorem EG (c a:Int)(w:aw):
 Calls prog 39 #[ak c,ak a] w fun e w'=>e=.returned (.agg #[ak c,ak a])/\Below w.heap.size w w':=by
 go_enter func39,ntmps39;go_wp2_with fail;exact bz (v:=.agg #[ak c,ak a]) (by simp[results,results39,go_sem]) rfl ⟨rfl,bZ.alloc bY _⟩
theorem EH (n o:Int)(w:aw)(h0:16<=n)(b:n<=256)(c:0<=o)(d:o<=1024):
 Calls prog 14 #[ak n,ak o] w fun e w'=>e=.returned (.agg #[ak 0,ak 0])/\Below w.heap.size w w':=by
 go_enter func14,ntmps14;go_wp2_with fail;exact bz (v:=.agg #[ak 0,ak 0]) (by simp[results,results14,go_sem]) rfl ⟨rfl,bZ.alloc bY _⟩
theorem EI (n o:Int)(w:aw)(h:n<16\/256<n\/o<0\/1024<o):
 Calls prog 14 #[ak n,ak o] w fun e w'=>e=.returned (.agg #[ak 1,ak (-1)])/\Below w.heap.size w w':=by
 have fin:∀(R:Ending->aw->Prop),(∀w1,Below (w.alloc (.cells #[.int .i64 0,.int .i64 0] 28)).heap.size (w.alloc (.cells #[.int .i64 0,.int .i64 0] 28)) w1->R (.returned (.agg #[ak 1,ak (-1)])) w1)->Calls prog 39 #[ak 1,ak (-1)] (w.alloc (.cells #[.int .i64 0,.int .i64 0] 28)) R:=by
  intro R b;refine(EG 1 (-1) _).mono ?_;rintro e w1 ⟨rfl,hb⟩
  exact b w1 hb
 by_cases c:n<16
 ·go_enter func14,ntmps14;exact eX.s3
 by_cases d:256<n
 ·go_enter func14,ntmps14;exact eX.s3
 by_cases f:o<0
 ·go_enter func14,ntmps14;exact eX.s3
 have g:1024<o:=aa;go_enter func14,ntmps14;go_wp2_with fail;refine fin _ ?_;intro w1 hb;obtain⟨c0,c1,hz⟩:=vj hb;obtain⟨_,hf⟩:=m7 hb;have f0:=hf w.heap.size 0 ac;have f1:=hf w.heap.size 1 ac;simp[go_sem] at f0 f1;go_wp2;exact bz (v:=.agg #[ak 1,ak (-1)]) (by simp[results,results14,go_sem,c0,c1]) rfl ⟨rfl,(((bZ.alloc bY _).trans (hb.mono ac)).setCell bY _).setCell bY _⟩
def hld (v:Value):Option (DataW Value×List MemPlace):=some (.held v,[])
section
variable {w w':aw}{b r n c:Nat}{f:Int->Option Value}{t e:TypeId}{left:Int->Bool}
end
abbrev Fm:=Nat->Option Addr×Nat
structure iN where
 own:Nat->Nat
 mb:Nat
 bp:Nat
 rb:Nat
 fm:Fm
 Ju:Nat
 n:Nat
 a0:Option Addr
 k0:Nat
 a1:Option Addr
 k1:Nat
section
variable {ik:Nat}{ca b8:Int}{l:iN}{s:cn}{w w':aw}{T:List cH}{r q:List b9}{rs:List (Int×Int)}
end
section
variable {ik:Nat}{ca b8:Int}{l:iN}{F:Nat->Prop}{s:cn}{w w':aw}
end
section
variable {ik:Nat}{ca b8:Int}{l:iN}{s:cn}{w:aw}
end
section
variable {B:Nat}{w w' w'':aw}
end
section
variable {w0 w w':aw}{kb cr ik:Nat}{s:cP}{vn:Value}{m:List du}
end
structure gj where
 A:List Bool
 td:List Int
 hd:Int->List (Int×Int)
 m:Nat
def s8 (s:gj)(v:Int×Int):gj:=if dy s.A v=true then s else {s with A:=s.A.set v.2.toNat true,td:=s.td++[v.2]}
def xT (s:gj)(l:List (Int×Int)):gj:=l.foldl s8 s
def EJ (s:gj)(k v:Int×Int):gj:=if dy s.A k=true then s8 s v else {s with hd:=fun x=>if x=k.2 then s.hd x++[v] else s.hd x,m:=s.m+1}
def pZ (T:List cH)(wt:List b9)(s:gj)(i:Int):gj:=
 if(T.getD i.toNat t0).1=1\/(T.getD i.toNat t0).1=2 then xT s (T.getD i.toNat t0).2.1
 else if(T.getD i.toNat t0).1=3 then s8 s ((T.getD i.toNat t0).2.1.getD 1 (0,0))
 else if(T.getD i.toNat t0).1=4 then EJ s ((T.getD i.toNat t0).2.1.getD 0 (0,0)) ((T.getD i.toNat t0).2.1.getD 1 (0,0))
 else if(T.getD i.toNat t0).1=5 then xT s ((hI wt i).map fun x=>(3,x)) else s
section
variable {T:List cH}{wt:List b9}{is:List Bool}{s:gj}{E:List Int}
end
section
variable {T:List cH}{wt:List b9}{is:List Bool}{s:gj}{E:List Int}
end
section
variable {ik:Nat}{ca b8:Int}{l:iN}{F:Nat->Prop}{s:cn}{w w':aw}{T T':List cH}
end
structure Cp where
 w0:aw
 ik:Nat
 ca:Int
 b8:Int
 l:iN
 s:cn
 cp:Nat
 ab:Nat
 hb:Nat
section
variable {c:Cp}{own:Nat->Nat}{vt:Value}{n1 n2:Nat}{hm:Int->Option Addr×Nat}{st:gj}{w w':aw}
end
section
variable {c:Cp}{own own' qn:Nat->Nat}{vt:Value}{n1 n2:Nat}{hm:Int->Option Addr×Nat}{st:gj}{w w' w'':aw}
end
section
variable {ik:Nat}{ca b8:Int}{l:iN}{F:Nat->Prop}{s:cn}{w:aw}
end
section
variable {c:Cp}{own:Nat->Nat}{vt:Value}{n1 n2:Nat}{hm:Int->Option Addr×Nat}{st:gj}{w:aw}
end
section
variable {T:List cH}{fm:Fm}{A:List Bool}{lab:Nat->Nat}{cp ab n1:Nat}{fs:Nat->List (Int×Int)}{w w':aw}
end
section
variable {c:Cp}{own own':Nat->Nat}{vt kY:Value}{n1 n2 n1' kZ:Nat}{hm hm':Int->Option Addr×Nat}{st st':gj}{F:Nat->Prop}{w w':aw}
end
section
variable {c:Cp}{own own' qn:Nat->Nat}{vt kY:Value}{n1 n2 n1' kZ:Nat}{hm hm':Int->Option Addr×Nat}{st st':gj}{F:Nat->Prop}{w w' w'':aw}
end
section
variable {c:Cp}{own own' qn:Nat->Nat}{vt kY:Value}{n1 n2 n1' kZ:Nat}{hm hm':Int->Option Addr×Nat}{st st':gj}{F:Nat->Prop}{w w' w'':aw}
end
section
variable {c:Cp}{own own' qn:Nat->Nat}{vt kY:Value}{n1 n2 n1' kZ:Nat}{hm hm':Int->Option Addr×Nat}{st st':gj}{F:Nat->Prop}{w w' w'':aw}
end
section
variable {c:Cp}{own own' qn:Nat->Nat}{vt kY:Value}{n1 n2 n1' kZ:Nat}{hm hm':Int->Option Addr×Nat}{st st':gj}{F:Nat->Prop}{w w' w'':aw}
end
section
variable {T:List cH}{wt:List b9}{is:List Bool}{s:gj}
end
section
variable {c:Cp}{own own':Nat->Nat}{vt kY:Value}{n1 n2 n1' kZ:Nat}{hm hm':Int->Option Addr×Nat}{st:gj}{w w':aw}{is:List Bool}
end
section
variable {ik rb:Nat}{ca b8:Int}{l:iN}{F:Nat->Prop}{s:cn}{w w':aw}
end
section
variable {ik rb:Nat}{ca b8:Int}{l:iN}{F:Nat->Prop}{s:cn}{w w':aw}
end
section
variable {ik:Nat}{ca b8:Int}{l:iN}{s:cn}{w:aw}
end
section
variable {c:Cp}{own own':Nat->Nat}{vt kY:Value}{n1 n2 n1' kZ:Nat}{hm hm':Int->Option Addr×Nat}{st:gj}{w w':aw}{is:List Bool}
end
section
variable {c:Cp}{own own':Nat->Nat}{vt kY:Value}{n1 n2 n1' kZ:Nat}{hm hm':Int->Option Addr×Nat}{st:gj}{w w':aw}{is:List Bool}{sb:Int->Bool}
end
end Go.Proofs.YtpkjkjhanlbcoaaGreat
