import Derived.Test.YtpkjkjhanlbcoaaGreatJ01
import Derived.Deep.RegionWith
import Derived.Deep.RegionLaw
import Derived.Deep.Slices
import Derived.Lib.SmallJoins
import Derived.OpenShut
import Derived.Deep.AppendLies
import Derived.Laws.OwnMore
namespace Go.Proofs.YtpkjkjhanlbcoaaGreat
set_option maxRecDepth 100000
set_option maxHeartbeats 1000000
open Tryz
open Go.RowKit W Kp ch
theorem vD {P:Prop}(h:P:=by
 go_enter func101,ntmps101;go_wp2_with fail;refine P.mono ?_;rintro e w1 ⟨rfl,hb1⟩
 have y1:=(hb1.cell (p:=ao pw 0) ig).trans hc;go_wp2_with fail;refine(HK.o w1 hb1).mono ?_;rintro e w2 ⟨d1,f1,d2,f2,rfl,L1,L2,hb2⟩
 have el:=hb1.trans (hb2.mono hb1.size)
 go_wp2_with fail;refine(L1.o w2 bZ).mono ?_;rintro e w3 ⟨rfl,hb3⟩
 have jq:=el.trans (hb3.mono el.size)
 go_wp2_with fail;refine(L2.o w3 hb3).mono ?_;rintro e w4 ⟨rfl,hb4⟩
 have jP:=jq.trans (hb4.mono jq.size)
 go_wp2_with fail;go_ret2;exact⟨rfl,jP⟩):P:=h
theorem vE {P:Prop}(h:P:=by go_wp2_with fail;refine bz (results_none rfl _ _ _) rfl ?_;have e2:=A5.o;rw[E1.o,List.append_nil] at e2;rw[<-e2];exact⟨rfl,v,(el.block c (lt_of_some CC.o)).trans CC.o,nh (ly hown el) aa,⟨(hS.trans (eQ.of el hsz)).os,(hS.trans (eQ.of el hsz)).tape,(hS.trans (eQ.of el hsz)).output,by have:=(hS.trans (eQ.of el hsz)).size;simp at this;omega,fun k hk h1=>((hS.trans (eQ.of el hsz)).block k aa h1).trans (a4 _ _ _ hk)⟩⟩):P:=h
theorem vF {P:Prop}(h:P:=by refine bodyPost_end (results_none rfl _ _ _) rfl ?_;have e2:=A5.o;rw[vG k aa,List.append_nil] at e2;rw[<-e2];exact⟨rfl,v,(hb1.block c (lt_of_some CC.o)).trans CC.o,nh (ly hown hb1) aa,⟨(hS.trans (eQ.of hb1 hsz)).os,(hS.trans (eQ.of hb1 hsz)).tape,(hS.trans (eQ.of hb1 hsz)).output,by have:=(hS.trans (eQ.of hb1 hsz)).size;simp at this;omega,fun k hk h1=>((hS.trans (eQ.of hb1 hsz)).block k aa h1).trans (a4 _ _ _ hk)⟩⟩):P:=h
theorem vH {P:Prop}(h:P:=by
 obtain⟨h1,h2⟩:=h;rcases h2 with⟨e,_⟩|⟨k',cap,cur,hv,hb,hh,h3,h4,h5,h6⟩
 ·cases e
 ·cases hv;rw[hh];have:cur.toList=(List.replicate n (0:Int)).map (Value.int .i64):=by rw[<-List.take_of_length_le (l:=cur.toList) (i:=n*1) (by simp;omega),h6];show(madeCells #[Value.int .i64 0] (n*1)).toList=_;rw[toList_madeCells_one];simp
  rw[<-this]):P:=h
theorem vI {P:Prop}(h:P:=by obtain⟨d0,d1,d2,f0,f1,f2,hz⟩:=cells3 hb1;obtain⟨c0,c1,c2,c3,c4,c5,c6⟩:=((h.alloc _).below hb1 bY).cells;go_wp2_with fail;exact bz (by simp[results,results221,go_sem,d0,d1,d2]) rfl ⟨rfl,((((bZ.alloc bY _).trans (hb1.mono ac)).setCell bY _).setCell bY _).setCell bY _⟩):P:=h
theorem rS {P:Prop}(h:P:=by go_wp2_with fail;exact bz (v:=.tuple #[.pointer none,.agg #[ak 1,ak (-1)]]) (by simp[results,results85,go_sem]) rfl ⟨rfl,bZ.alloc bY _⟩):P:=h
theorem lz {P:Prop}(h:P:=by go_wp2_with fail;go_ret;exact⟨rfl,hb1⟩):P:=h
theorem rU {P:Prop}(h:P:=by
 go_wp2_with fail;refine P.mono ?_;rintro e w1 ⟨rfl,hb1⟩
 go_wp2_with fail;go_ret2;exact⟨rfl,hb1⟩):P:=h
theorem rV {P:Prop}(h:P:=by
 go_wp2
 go_quiet (fail)
 go_wp2;go_ret2;exact⟨rfl,below_drewN bZ _⟩):P:=h
theorem pR {P:Prop}(h:P:=by
 rintro e w1 ⟨rfl,hb1⟩
 go_wp2;go_ret;exact⟨rfl,hb1⟩):P:=h
def iQ (p:Int×Int)(t:cH):Int×Int:=if t.2.2.2=true then p else if t.2.2.1=true then(p.1,p.2+(1+t.2.1.length)) else(p.1+(1+t.2.1.length),p.2)
def dC (l:List cH):Int×Int:=l.foldl iQ (0,0)
theorem vJ (l:List cH)(t:cH):dC (l++[t])=iQ (dC l) t:=by simp[dC,List.foldl_append]
theorem aQ {α:Type _}(y:α){a:α}{l:List α}:a ∈ l -> a ∈ y :: l:=by intros;apply List.mem_cons_of_mem<;>assumption
theorem pS (l:List cH)(h:∀t∈l,t.2.1.length<=12):0<=(dC l).1/\(dC l).1<=13*l.length/\0<=(dC l).2/\(dC l).2<=13*l.length:=by
 have key:∀(l:List cH)(p:Int×Int),(∀t∈l,t.2.1.length<=12)->p.1<=(l.foldl iQ p).1/\(l.foldl iQ p).1<=p.1+13*l.length/\p.2<=(l.foldl iQ p).2/\(l.foldl iQ p).2<=p.2+13*l.length:=by
  intro l
  induction l with
  |nil=>simp
  |cons t l b=>
   intro p hl;have d:=b (iQ p t) (fun x c=>hl x (aQ _ c))
   have e:=hl t ac;rw[a9];have f:p.1<=(iQ p t).1/\(iQ p t).1<=p.1+13/\p.2<=(iQ p t).2/\(iQ p t).2<=p.2+13:=by
    unfold iQ;split
    ·omega
    ·split
     ·dsimp only;omega
     ·dsimp only;omega
   simp only [List.length_cons];omega
 have:=key l (0,0) h;unfold dC;omega
section
variable {rp rb:Nat}{ca b8:Int}{F:Nat->Prop}{s:cn}{w:aw}
theorem pT (h:(cq rp rb ca b8).J F s w)(n:∀t∈s.T,t.2.1.length<=12)(hl:s.T.length<=10000):
 Calls prog 23 #[am rp] w fun e w'=>e=.returned (.tuple #[ak (dC s.T).1,ak (dC s.T).2])/\Below w.heap.size w w':=by
 have u:=hide h;have o:=hide n;clear h n;go_enter func23,ntmps23;go_wp2_with fail
 go_loopw [4,5,6] (fun v B iv wr=>∃(j:Nat)(x y:Int),j<=s.T.length/\iv=ak j/\v=ak x/\B=ak y/\ay (dC (s.T.take j)=(x,y))/\Below w.heap.size w wr) (fun _ _ iv _=>s.T.length-(intOf iv).toNat)
 case atStart=>exact⟨0,0,0,aX _,rfl,rfl,rfl,rfl,aE _ _⟩
 case round=>
  obtain⟨j,x,y,al,rfl,rfl,rfl,d,hb⟩:=hrel;have f:=(cq rp rb ca b8).below u.o hb;obtain⟨ap,cT,c0,_,g⟩:=kh f;have bd:=pS (s.T.take j) (fun t ht=>o.o t (List.mem_of_mem_take ht))
  rw[d.o] at bd;have N:(s.T.take j).length=j:=by rw[bu];omega
  rw[N] at bd;dsimp only at bd;obtain⟨ar,ax,aB,aF⟩:=bd;by_cases i:j<s.T.length
  ·obtain⟨t,ht⟩:∃t,s.T[j]?=some t:=⟨_,aI i⟩
   obtain⟨b,S,cp,rfl,W,ab,ad,ag,_⟩:=g j t ht;have ai:=o.o t (List.mem_of_getElem? ht)
   have k:ay (dC (s.T.take (j+1))=iQ (x,y) t):=by
    show _=_;rw[List.take_succ_eq_append_getElem i,vJ,d.o]
    congr 1
    rw[aI i] at ht;simpa using ht
   obtain⟨kd,l,p,q⟩:=t;dsimp only at W ab ad ag ai;have j0:(0:Int)<=(j:Int):=aa;have aR:(j:Int)<(s.T.length:Int):=aa;have m:ay (Below w.heap.size w (wr.alloc (.cells #[.int .i64 kd,.slice S l.length cp,.bool p,.bool q] 118))):=hb.alloc hb.size _;clear f g hb ht;cases q
   ·cases p
    ·have c:=hide k.o;go_wp2_with fail;go_roundw;exact⟨j+1,x+(1+l.length),y,aa,aj,aj,rfl,c,m.o⟩
     simp[intOf];omega
    ·have c:=hide k.o;go_wp2_with fail;go_roundw;exact⟨j+1,x,y+(1+l.length),aa,aj,rfl,aj,c,m.o⟩
     simp[intOf];omega
   ·have c:=hide k.o;go_wp2_with fail;go_roundw;exact⟨j+1,x,y,aa,aj,rfl,rfl,c,m.o⟩
    simp[intOf];omega
  ·obtain rfl:j=s.T.length:=aa;rw[ba] at d;clear f g;go_wp2_with fail;go_ret2;rw[d.o];exact⟨rfl,hb⟩
end
open Go.RowKit W
def hB (b u a:Int):Bool:=decide (b<=a/\a<b+u)
theorem jc {b u a:Int}(h:hB b u a=true):b<=a/\a<b+u:=by simpa[hB] using h
def dm (N y g:Nat)(a:Int):Bool:=hB 0 y a||hB N g a
def ld (N y g:Nat)(ws:List Int)(a:Int):Int:=if dm N y g a=true then ws.getD a.toNat 0 else 0
theorem jd {N O y g:Nat}{a:Int}(h:dm N y g a=true)(hy:y<=N)(hg:g<=O):0<=a/\a<(N:Int)+O:=by
 rcases Bool.or_eq_true _ _▸h with h|h
 ·have:=jc h;omega
 ·have:=jc h;omega
theorem lA (b s u:Int)(w:aw)(hb:0<=b)(c:b<=100000)(d:0<=u)(f:u<=100000):
 Calls prog 170 #[.agg #[ak b,ak s,ak u]] w fun e w'=>e=.returned (ak (b+u))/\Below w.heap.size w w':=by
 exact lu
theorem ol (b s u:Int)(w:aw)(hb:0<=s)(c:s<=100000)(d:0<=u)(f:u<=100000):
 Calls prog 169 #[.agg #[ak b,ak s,ak u]] w fun e w'=>e=.returned (ak (s-u))/\Below w.heap.size w w':=by
 exact lu
theorem vK (b s u a:Int)(w:aw)(hb:0<=b)(c:b<=100000)(d:0<=u)(f:u<=100000):
 Calls prog 174 #[.agg #[ak b,ak s,ak u],ak a] w fun e w'=>e=.returned (.bool (hB b u a))/\Below w.heap.size w w':=by
 by_cases h:b<=a
 ·have e:hB b u a=decide (a<b+u):=by simp[hB,h]
  rw[e];go_enter func174,ntmps174;go_wp2_with fail;refine(lA b s u _ hb c d f).mono ?_;rintro e w1 ⟨rfl,g⟩
  go_wp2;go_ret;exact⟨rfl,(bZ.alloc bY _).trans (g.mono ac)⟩
 ·have e:hB b u a=false:=by simp[hB,h]
  rw[e];exact lu
theorem l9 {p q N O y g:Nat}{ws:List Int}(a:Int)(w:aw)(h:At w p q N O y g ws):
 Calls prog 95 #[am p,ak a] w fun e w'=>e=.returned (.bool (hB 0 y a))/\Below w.heap.size w w':=by
 obtain⟨c0,c1,c2,c3,c4,c5,b⟩:=h.cells;have k1:=h.hN';have c:=h.hy;go_enter func95,ntmps95;go_wp2_with fail;refine(vK 0 N y a _ aa aa aa aa).mono ?_;exact pR
theorem l_ {p q N O y g:Nat}{ws:List Int}(a:Int)(w:aw)(h:At w p q N O y g ws):
 Calls prog 96 #[am p,ak a] w fun e w'=>e=.returned (.bool (hB N g a))/\Below w.heap.size w w':=by
 obtain⟨c0,c1,c2,c3,c4,c5,b⟩:=h.cells;have k1:=h.hN';have c:=h.hO;have d:=h.hg;go_enter func96,ntmps96;go_wp2_with fail;refine(vK N O g a _ aa aa aa aa).mono ?_;exact pR
theorem pU {p q N O y g:Nat}{ws:List Int}(a:Int)(w:aw)(h:At w p q N O y g ws):
 Calls prog 172 #[am p,ak a] w fun e w'=>e=.returned (.bool (dm N y g a))/\Below w.heap.size w w':=by
 cases hy:hB 0 y a
 ·have e:dm N y g a=hB N g a:=by simp[dm,hy]
  rw[e];have b:=hide hy;go_enter func172,ntmps172;go_wp2_with fail;refine(l9 a _ h).mono ?_;rintro e w1 ⟨rfl,hb1⟩
  rw[b.o];go_wp2_with fail;refine(l_ a _ (h.below hb1 bY)).mono ?_;rintro e d ⟨rfl,c⟩
  go_wp2;go_ret;exact⟨rfl,hb1.trans (c.mono hb1.size)⟩
 ·have e:dm N y g a=true:=by simp[dm,hy]
  rw[e];go_enter func172,ntmps172;go_wp2_with fail;refine(l9 a _ h).mono ?_;exact pR
theorem jr {p q N O y g:Nat}{ws:List Int}(a:Int)(w:aw)(h:At w p q N O y g ws):
 Calls prog 98 #[am p,ak a] w fun e w'=>e=.returned (ak (ld N y g ws a))/\Below w.heap.size w w':=by
 cases hi:dm N y g a
 ·have e:ld N y g ws a=0:=by simp[ld,hi]
  rw[e];have c:=hide hi;go_enter func98,ntmps98;go_wp2_with fail;refine(pU a _ h).mono ?_;rintro e w1 ⟨rfl,b⟩
  rw[c.o];go_wp2;go_ret;exact⟨rfl,b⟩
 ·have e:ld N y g ws a=ws.getD a.toNat 0:=by simp[ld,hi]
  rw[e];obtain⟨f,i⟩:=jd hi h.hy h.hg;have c:=hide hi;clear hi;go_enter func98,ntmps98;go_wp2_with fail;refine(pU a _ h).mono ?_;rintro e w1 ⟨rfl,b⟩
  rw[c.o];have d:=h.below b bY
  obtain⟨c0,c1,c2,c3,c4,c5,j⟩:=d.cells;have k:=d.word a.toNat aa;go_wp2;go_ret;exact⟨rfl,b⟩
theorem ki {p q N O y g:Nat}{ws:List Int}(a x:Int)(w:aw)(h:At w p q N O y g ws):
 Calls prog 93 #[am p,ak a,ak x] w fun e w'=>e=.returned (.bool (dm N y g a))/\At w' p q N O y g (if dm N y g a=true then ws.set a.toNat x else ws)/\c_ p q w w':=by
 cases hi:dm N y g a
 ·rw[aH ac];have d:=hide hi;go_enter func93,ntmps93;go_wp2_with fail;refine(pU a _ h).mono ?_;rintro e w1 ⟨rfl,b⟩
  rw[d.o];go_wp2;go_ret;exact⟨rfl,h.below b bY,c_.of b⟩
 ·rw[aJ rfl];obtain⟨f,i⟩:=jd hi h.hy h.hg;go_enter func93,ntmps93;go_wp2_with fail;refine(pU a _ h).mono ?_;rintro e w1 ⟨rfl,b⟩
  have c:=h.below b bY
  obtain⟨c0,c1,c2,c3,c4,c5,j⟩:=c.cells;have k:=c.word a.toNat aa;have l:=c.rN a.toNat;go_wp2;go_ret;exact⟨rfl,c.set a.toNat x,(c_.of b).trans (c_.rM _ _)⟩
theorem f6 {p q N O y g:Nat}{ws:List Int}(a:Int)(w:aw)(h:At w p q N O y g ws):
 Calls prog 102 #[am p,ak a] w fun e w'=>e=.returned (.tuple #[ak (pk (ld N y g ws a)),ak (pf (ld N y g ws a)),ak (pc (ld N y g ws a))])/\Below w.heap.size w w':=by
 go_enter func102,ntmps102;go_wp2_with fail;refine(jr a _ h).mono ?_;rintro e w1 ⟨rfl,b⟩
 go_wp2_with fail;refine(By _ _).mono ?_;rintro e c ⟨rfl,rfl⟩
 go_wp2
 go_ret3
 exact⟨rfl,b⟩
theorem kj {p q N O y g:Nat}{ws:List Int}(w:aw)(h:At w p q N O y g ws):
 Calls prog 22 #[am p] w fun e w'=>e=.returned (.tuple #[ak y,ak g])/\Below w.heap.size w w':=by
 obtain⟨c0,c1,c2,c3,c4,c5,b⟩:=h.cells;exact rV
theorem me {p q N O y g:Nat}{ws:List Int}(w:aw)(h:At w p q N O y g ws):
 Calls prog 86 #[am p] w fun e w'=>e=.returned (.tuple #[ak 0,ak N])/\Below w.heap.size w w':=by
 obtain⟨c0,c1,c2,c3,c4,c5,b⟩:=h.cells;exact rV
theorem vL {p q N O y g:Nat}{ws:List Int}(w:aw)(h:At w p q N O y g ws):
 Calls prog 114 #[am p] w fun e w'=>e=.returned (.tuple #[])/\At w' p q N O 0 g ws/\c_ p q w w':=by
 obtain⟨c0,c1,c2,c3,c4,c5,b⟩:=h.cells;have c:=h.frozen 3;go_wp2;go_end0;exact⟨rfl,h.vl 0 (aX _),c_.oh _ _⟩
theorem BF {p q N O y g:Nat}{ws:List Int}(n:Int)(w:aw)(h:At w p q N O y g ws)(h0:0<=n)(b:n<=O):
 Calls prog 163 #[am p,ak n] w fun e w'=>e=.returned (.tuple #[])/\At w' p q N O y n.toNat ws/\c_ p q w w':=by
 obtain⟨n,rfl⟩:=Int.eq_ofNat_of_zero_le h0;obtain⟨c0,c1,c2,c3,c4,c5,c⟩:=h.cells;have d:=h.frozen 6;go_wp2;go_end0;exact⟨rfl,h.vm n aa,c_.oh _ _⟩
theorem BG {p q N O y g:Nat}{ws:List Int}(n:Int)(w:aw)(h:At w p q N O y g ws)(h0:0<=n)(j:n<=(N:Int)-y):
 Calls prog 90 #[.pointer (some ⟨p,1,none⟩),ak n] w fun e w'=>e=.returned (.tuple #[ak y,.bool true])/\At w' p q N O (y+n.toNat) g ws/\c_ p q w w':=by
 obtain⟨n,rfl⟩:=Int.eq_ofNat_of_zero_le h0;obtain⟨c0,c1,c2,c3,c4,c5,c⟩:=h.cells;have k1:=h.hN';have k:=h.hy;go_enter func90,ntmps90;go_wp2_with fail;refine(ol 0 N y _ aa aa aa aa).mono ?_;rintro e w1 ⟨rfl,d⟩
 have f:=h.below d bY
 obtain⟨c0,c1,c2,c3,c4,c5,c⟩:=f.cells;go_wp2_with fail;refine(lA 0 N y _ aa aa aa aa).mono ?_;rintro e l ⟨rfl,i⟩
 have b:=f.below i bY
 obtain⟨c0,c1,c2,c3,c4,c5,c⟩:=b.cells;have m:=b.frozen 3;go_wp2_with fail;go_ret2;exact⟨ac,b.vl (y+n) aa,((c_.of d).trans (c_.of i)).trans (c_.oh _ _)⟩
theorem BH {p q N O y g:Nat}{ws:List Int}(n:Int)(w:aw)(h:At w p q N O y g ws)(h0:(N:Int)-y<n):
 Calls prog 90 #[.pointer (some ⟨p,1,none⟩),ak n] w fun e w'=>e=.returned (.tuple #[ak 0,.bool false])/\Below w.heap.size w w':=by
 obtain⟨c0,c1,c2,c3,c4,c5,c⟩:=h.cells;have k1:=h.hN';have d:=h.hy;go_enter func90,ntmps90;go_wp2_with fail;refine(ol 0 N y _ aa aa aa aa).mono ?_;rintro e w1 ⟨rfl,b⟩
 go_wp2;go_ret2;exact⟨rfl,b⟩
theorem BI {p q N O y g:Nat}{ws:List Int}(n:Int)(w:aw)(h:At w p q N O y g ws)(h0:0<=n)(j:n<=(O:Int)-g):
 Calls prog 90 #[.pointer (some ⟨p,4,none⟩),ak n] w fun e w'=>e=.returned (.tuple #[ak (N+g:Nat),.bool true])/\At w' p q N O y (g+n.toNat) ws/\c_ p q w w':=by
 obtain⟨n,rfl⟩:=Int.eq_ofNat_of_zero_le h0;obtain⟨c0,c1,c2,c3,c4,c5,c⟩:=h.cells;have k1:=h.hN';have k:=h.hg;have l:=h.hO;go_enter func90,ntmps90;go_wp2_with fail;refine(ol N O g _ aa aa aa aa).mono ?_;rintro e w1 ⟨rfl,d⟩
 have f:=h.below d bY
 obtain⟨c0,c1,c2,c3,c4,c5,c⟩:=f.cells;go_wp2_with fail;refine(lA N O g _ aa aa aa aa).mono ?_;rintro e m ⟨rfl,i⟩
 have b:=f.below i bY
 obtain⟨c0,c1,c2,c3,c4,c5,c⟩:=b.cells;have o:=b.frozen 6;go_wp2_with fail;go_ret2;exact⟨ac,b.vm (g+n) aa,((c_.of d).trans (c_.of i)).trans (c_.oh _ _)⟩
theorem BJ {p q N O y g:Nat}{ws:List Int}(n:Int)(w:aw)(h:At w p q N O y g ws)(h0:(O:Int)-g<n):
 Calls prog 90 #[.pointer (some ⟨p,4,none⟩),ak n] w fun e w'=>e=.returned (.tuple #[ak 0,.bool false])/\Below w.heap.size w w':=by
 obtain⟨c0,c1,c2,c3,c4,c5,c⟩:=h.cells;have d:=h.hg;have f:=h.hO;go_enter func90,ntmps90;go_wp2_with fail;refine(ol N O g _ aa aa aa aa).mono ?_;rintro e w1 ⟨rfl,b⟩
 go_wp2;go_ret2;exact⟨rfl,b⟩
theorem om {p q N O y g:Nat}{ws:List Int}(w:aw)(h:At w p q N O y g ws):
 Calls prog 105 #[am p] w fun e w'=>e=.returned (.tuple #[ak ((N:Int)-y),ak ((O:Int)-g)])/\Below w.heap.size w w':=by
 obtain⟨c0,c1,c2,c3,c4,c5,f⟩:=h.cells;have k1:=h.hN';have i:=h.hg;have j:=h.hO;have k:=h.hy;go_enter func105,ntmps105;go_wp2_with fail
 go_region_with (go_at_call 169;refine(ol _ _ _ _ aa aa aa aa).mono ?_;rintro e w1 ⟨rfl,b⟩;have d:At w1 p q N O y g ws:=(by first|exact h.drew.below b bY|exact d.below b bY);have c:Below w.heap.size w w1:=(by first|exact(aE _ w).drew.trans b|exact c.trans (b.mono c.size));obtain⟨c0,c1,c2,c3,c4,c5,f⟩:=d.cells)
 all_goals
  go_wp2_with fail;go_ret2;exact⟨rfl,c⟩
theorem vM:(prog.info? 2).map (fun i=>(i.zero,i.size,i.bytes))=some (some (ak 0),1,8):=ah
theorem vN {w:aw}{b k n:Nat}(h:w.ownsRow b 2 1 (.slice (an k) n n) n (madeCells (Value.int .i64 0).cells (n*1)).toList):
 w.heap[k]?=some (.cells ((List.replicate n (0:Int)).map (Value.int .i64)).toArray 2 (0,0)):=by
 exact vH
theorem rW {w:aw}{k:Nat}(o:Obj)(h:w.heap.size=k):(w.alloc o).heap[k]?=some o:=by subst h;exact aN _ _
theorem BK {w w1:aw}{a b:Value}{t:TypeId}(hg:(w.alloc (.cells #[a,b] t)).grownBy w1 none):
 w1.cell? (ao w.heap.size 0)=some a/\w1.cell? (ao w.heap.size 1)=some b/\w1.frozen? (ao w.heap.size 0)=false/\w1.frozen? (ao w.heap.size 1)=false/\w.heap.size<w1.heap.size:=by
 have hb:=hg.block w.heap.size ac ac;have hz:=hg.size;rw[(aN _ _)] at hb;refine⟨?_,?_,?_,?_,by simp at hz;omega⟩<;>simp[World.cell?,World.frozen?,hb]
theorem BL (n o:Int)(w:aw)(h0:16<=n)(l:n<=256)(d:0<=o)(m:o<=1024):
 Calls prog 85 #[ak n,ak o] w fun e w'=>∃p q,e=.returned (.tuple #[am p,.agg #[ak 0,ak 0]])/\At w' p q n.toNat o.toNat 0 0 (List.replicate (n.toNat+o.toNat) 0)/\w.heap.size<=p/\w.heap.size<=q/\Below w.heap.size w w':=by
 obtain⟨n,rfl⟩:=Int.eq_ofNat_of_zero_le (show 0<=n by omega)
 obtain⟨o,rfl⟩:=Int.eq_ofNat_of_zero_le d;simp only [Int.toNat_natCast];obtain⟨f,hi,g,i,j⟩:=info_parts vM;go_enter func85,ntmps85;go_wp2_with (at_make;refine wpList_make_full _ rfl _ _ 53 rfl w.heap.size 2 f (ak 0) 1 underlying53 hi g i .i64 .i64 _ _ (n+o) rfl rfl aa aa (by rw[j];omega) (by unfold maxLen;omega) ac ?_;intro w1 k c;obtain⟨c0,c1,s,t,hz⟩:=BK c)
 have b:=vN k;simp only [World.size_alloc] at b;have u:=lt_of_some b;refine bz (v:=.tuple #[am w1.heap.size,.agg #[ak 0,ak 0]]) (by simp[results,results85,go_sem,c0,c1,hz]) rfl ⟨w1.heap.size,w.heap.size+1,rfl,⟨?_,?_,ac,aa,aa,aa,aa,aa⟩,aa,aa,?_⟩
 ·exact rW _ (by simp[World.setCell])
 ·refine(a4 _ _ _ (by simp[World.setCell];omega)).trans ?_;rw[aP _ _ _ _ ac,aP _ _ _ _ ac];exact b
 ·refine Below.alloc (Below.setCell (Below.setCell ?_ ?_ _) ?_ _) ?_ _
  ·exact(bZ.alloc bY _).grown c ac (fun _ h=>by cases h)
  ·exact aD _
  ·exact aD _
  ·simp[World.setCell];omega
theorem BM (n o:Int)(w:aw)(h:n<16\/256<n\/o<0\/1024<o):
 Calls prog 85 #[ak n,ak o] w fun e w'=>e=.returned (.tuple #[.pointer none,.agg #[ak 1,ak (-1)]])/\Below w.heap.size w w':=by
 by_cases b:n<16
 ·go_enter func85,ntmps85;exact rS
 by_cases c:256<n
 ·go_enter func85,ntmps85;exact rS
 by_cases d:o<0
 ·go_enter func85,ntmps85;exact rS
 have f:1024<o:=aa;go_enter func85,ntmps85;go_wp2_with fail;exact bz (v:=.tuple #[.pointer none,.agg #[ak 1,ak (-1)]]) (by simp[results,results85,go_sem]) rfl ⟨rfl,bZ.alloc bY _⟩
def fp (ws:List Int)(y:Nat)(hd:Int):Nat->List Int
 |0=>ws.set y hd
 |k+1=>(fp ws y hd k).set (y+1+k) 2
theorem bw (n:Int):Go.IntKind.i64.wrap n = (n + 9223372036854775808) % 18446744073709551616 - 9223372036854775808:=IntKind.wrap_i64 ..
theorem BN {p q N O y g:Nat}{ws:List Int}(k f:Int)(w:aw)(h:At w p q N O y g ws)(hk:hc k f=0)(s:f+1<=(N:Int)-y):
 Calls prog 41 #[am p,ak k,ak f] w fun e w'=>e=.returned (ak y)/\At w' p q N O (y+1+f.toNat) g (fp ws y (hw k f) f.toNat)/\c_ p q w w':=by
 obtain⟨_,_,o,t⟩:=iH k f hk;obtain⟨f,rfl⟩:=Int.eq_ofNat_of_zero_le o;simp only [Int.toNat_natCast];have H:ay (hc k f=0):=hk;clear hk;have k1:=h.hN';have u:=h.hy;have v:=h.hO;have x:=h.hg;go_enter func41,ntmps41;go_wp2_with fail;refine(og k f _).mono ?_;rintro e w1 ⟨rfl,rfl⟩
 rw[H.o];obtain⟨c0,c1,c2,c3,c4,c5,d⟩:=h.cells;go_wp2_with fail;refine(BG (1+f) _ h aa aa).mono ?_;rintro e B ⟨rfl,b,s2⟩
 rw[show(1+(f:Int)).toNat=1+f by omega] at b;obtain⟨c0,c1,c2,c3,c4,c5,d⟩:=b.cells;have l:=b.word y aa;have m:=b.rN y;have b1:(y:Int)<((N+O:Nat):Int):=aa;go_wp2_with fail
 go_loopw [39] (fun i wr=>∃j:Nat,j<=f/\i=ak j/\At wr p q N O (y+(1+f)) g (fp ws y (hw k f) j)/\c_ p q w1 wr) (fun i _=>f-(intOf i).toNat)
 case atStart=>exact⟨0,aX _,rfl,b.set y _,s2.trans (c_.rM _ _)⟩
 case round=>
  obtain⟨j,F,rfl,c,n⟩:=hrel;clear c0 c1 c2 c3 c4 c5 d l m;obtain⟨c0,c1,c2,c3,c4,c5,d⟩:=c.cells;by_cases S:j<f
  ·have l:=c.word (y+1+j) aa;have m:=c.rN (y+1+j)
   have b2:(y:Int)+1+j<((N+O:Nat):Int):=aa;go_wp2_with fail;have b3:(0:Int)<=(y:Int)+1+j:=aa;have b4:((y:Int)+1+j).toNat=y+1+j:=aa;have b5:(y:Int)+1+j<(N:Int)+O:=aa;have b6:IntKind.i64.wrap ((y:Int)+1)=(y:Int)+1:=by rw[bw];omega
   have W:IntKind.i64.wrap ((y:Int)+1+j)=(y:Int)+1+j:=by rw[bw];omega
   go_region_with (go_at_call 47;refine(rL _).mono ?_;rintro e w3 ⟨rfl,rfl⟩)
   all_goals
    go_wp2_with fail;go_roundw
    case rel=>exact⟨j+1,aa,aj,c.drew.set _ _,n.drew.trans (c_.rM _ _)⟩
    case measure=>simp[intOf];omega
  ·go_wp2_with fail;go_ret;have e:j=f:=aa;subst e;exact⟨rfl,by rw[Nat.add_assoc];exact c,n⟩
theorem BO {p q N O y g:Nat}{ws:List Int}(k f:Int)(w:aw)(h:At w p q N O y g ws)(hk:hc k f≠0\/(N:Int)-y<f+1):
 Calls prog 41 #[am p,ak k,ak f] w fun e w'=>e=.returned (ak (-1))/\Below w.heap.size w w':=by
 by_cases c:hc k f=0
 ·obtain⟨_,_,b,d⟩:=iH k f c;go_enter func41,ntmps41;go_wp2_with fail;refine(og k f _).mono ?_;rintro e w1 ⟨rfl,rfl⟩
  rw[(hide c).o];obtain⟨c0,c1,c2,c3,c4,c5,i⟩:=h.cells;go_wp2_with fail;refine(BH (1+f) _ h aa).mono ?_;rintro e j ⟨rfl,hb⟩
  go_wp2;go_ret;exact⟨rfl,hb⟩
 ·go_enter func41,ntmps41;go_wp2_with fail;refine(og k f _).mono ?_;rintro e w1 ⟨rfl,rfl⟩
  go_wp2;go_ret;exact⟨rfl,aE _ _⟩
theorem BP {p q N O y g:Nat}{ws:List Int}(a n:Int)(w:aw)(h:At w p q N O y g ws)(h0:0<=a)(b:0<=n)(c:a+n<=(N:Int)+O):
 Calls prog 220 #[am p,ak a,ak n] w fun e w'=>e=.returned (.bool true)/\w'=w:=by
 obtain⟨c0,c1,c2,c3,c4,c5,d⟩:=h.cells;have k1:=h.hN';have f:=h.hO;go_wp2;go_ret;exact⟨by simp;omega,rfl⟩
def ni (w w':aw)(g:Nat)(c:List Value)(d:Nat)(b:List Value):Prop:=
 (b=[]/\w'=w)\/w'=w.setRow g (splice c d b).toArray
theorem pV {P:Program}{ops:Array Oper}{o:Oper}{a:Act}{w:aw}{K:Act->aw->Prop}{Q:Exit->Act->aw->Prop}{E:Prop}(N:o.guard=none)(u s:Operand)(c m d:TypeId)
 (x:o.op=.call {callee:=.builtin .copy,args:=#[u,s],argTypes:=#[c,m]})(B:P.underlying c=some (.slice d))(F:(P.info? d).map (·.size)=some 1)
 (n sp:Option Addr)(e p f q:Nat)(hd:a.eval u=.slice n e p)(hs:a.eval s=.slice sp f q)
 (g i:Nat)(k:List Value)(t:TypeId)(hg:w.heap[g]?=some (.cells k.toArray t (0,0)))(b:List Value)(S:b.length=Nat.min f e)
 (W:0<b.length->n=some ⟨g,i,none⟩/\∃l,sp=some l/\∀j v,b[j]?=some v->w.cell? (l.add j)=some v)
 (ab:i+b.length<=k.length)(ad:∀v∈b,v.oneCell'=true)
 (h:∀w',ni w w' g k i b->K (a.put o.dst (goInt b.length)) w'):
 if Region.wanted o (yielded ops a.tmps)=true then Oper.wp P o a w K Q else E:=by
 rw[aJ (show Region.wanted o (yielded ops a.tmps)=true by simp[Region.wanted,N])];rcases Nat.eq_zero_or_pos b.length with h0|h0
 ·have ag:=List.eq_nil_of_length_eq_zero h0;subst ag;unfold Oper.wp;simp[execOp,x,resolve,invoke,builtin,hd,hs,(run_copy_none (P:=P) w c m o.type d n sp e p f q B F aa),Result.andThen];exact h w (aL ⟨rfl,rfl⟩)
 ·obtain⟨ai,l,al,ap⟩:=W h0;subst ai al;unfold Oper.wp;simp[execOp,x,resolve,invoke,builtin,hd,hs,(run_copy_row (P:=P) w c m o.type d g i e p l f q k.toArray t b B F hg S ap (by simpa using ab) ad),Result.andThen];exact h _ (aK (by simp[splice]))
theorem rX:(prog.info? 2).map (·.size)=some 1:=ah
theorem oo (l:List Int):∀v∈l.map (Value.int .i64),v.oneCell'=true:=by intro v b;obtain⟨x,_,rfl⟩:=List.mem_map.1 b;rfl
theorem rY (ws b:List Int)(t:Nat):splice (ws.map (Value.int .i64)) t (b.map (Value.int .i64))=(splice ws t b).map (Value.int .i64):=by simp[splice,List.map_take,List.map_drop]
theorem At.moved {w w':aw}{p q N O y g:Nat}{ws b:List Int}{t:Nat}(h:At w p q N O y g ws)(hm:ni w w' q (ws.map (Value.int .i64)) t (b.map (Value.int .i64)))(c:t+b.length<=N+O):
 At w' p q N O y g (splice ws t b)/\c_ p q w w':=by
 rcases hm with⟨e,rfl⟩|rfl
 ·have d:b=[]:=by simpa using e
  subst d;have f:splice ws t []=ws:=by simp[splice]
  rw[f];exact⟨h,c_.refl _ _ _⟩
 ·rw[rY];exact⟨h.row (by rw[length_splice _ _ _ ((h.hl▸c))];exact h.hl),c_.Bz _⟩
theorem bv {α:Type _}{β:Type _}{f:α -> β}{l:List α}{i:Nat}:(List.map f l)[i]? = Option.map f l[i]?:=List.getElem?_map ..
theorem At.src {w:aw}{p q N O y g:Nat}{ws:List Int}(h:At w p q N O y g ws)(f n:Nat)(i:f+n<=N+O)(j:Nat)(v:Value)(c:(((ws.drop f).take n).map (Value.int .i64))[j]?=some v):
 w.cell? ((⟨q,f,none⟩:Addr).add j)=some v:=by
 rw[bv] at c;obtain⟨x,b,rfl⟩:=Option.map_eq_some_iff.1 c;have d:=(List.getElem?_eq_some_iff.1 b).1;have e:j<n:=by simp at d;omega
 have:=h.word (f+j) aa;rw[show((⟨q,f,none⟩:Addr).add j)=⟨q,f+j,none⟩ by simp[Addr.add],this];rw[List.getElem?_take_of_lt e,List.getElem?_drop] at b;simp[List.getD_eq_getElem?_getD,b]
theorem aU {α:Type _}{β:Type _}{«as»:List α}(f:α -> β):(List.map f «as»).length = «as».length:=List.length_map ..
theorem vO {p q N O y g:Nat}{ws:List Int}(t f n:Nat)(w:aw)(b:At w p q N O y g ws)(F:t+n<=N+O)(l:f+n<=N+O):
 Calls prog 162 #[am p,ak t,ak f,ak n] w fun e w'=>e=.returned (.tuple #[])/\At w' p q N O y g (splice ws t ((ws.drop f).take n))/\c_ p q w w':=by
 obtain⟨c0,c1,c2,c3,c4,c5,S⟩:=b.cells;have k1:=b.hN';have W:=b.hO;have hl:=b.hl;have b1:IntKind.i64.wrap ((t:Int)+n)=(t:Int)+n:=by rw[bw];omega
 have b2:IntKind.i64.wrap ((f:Int)+n)=(f:Int)+n:=by rw[bw];omega
 have b3:(t:Int)+n<=(N:Int)+O:=aa;have b4:(f:Int)+n<=(N:Int)+O:=aa;have b5:((t:Int)+n).toNat=t+n:=aa;have b6:((f:Int)+n).toNat=f+n:=aa;have ab:(0:Int)<=(t:Int)+n:=aa;have ad:(0:Int)<=(f:Int)+n:=aa;have c:((ws.drop f).take n).length=n:=by simp;omega
 have m:ay ((((ws.drop f).take n).map (Value.int .i64)).length=Nat.min n n):=by show _=_;rw[aU,c];simp
 have o:ay (0<(((ws.drop f).take n).map (Value.int .i64)).length->(if N+O=t then some (⟨q,0,none⟩:Addr) else some ⟨q,t,none⟩)=some ⟨q,t,none⟩/\∃d,(if N+O=f then some (⟨q,0,none⟩:Addr) else some ⟨q,f,none⟩)=some d/\∀j v,(((ws.drop f).take n).map (Value.int .i64))[j]?=some v->w.drew.cell? (d.add j)=some v):=by intro s;rw[aU,c] at s;rw[aH aa,aH aa];exact⟨rfl,_,rfl,fun j v u=>b.drew.src f n l j v u⟩
 have x:ay (t+(((ws.drop f).take n).map (Value.int .i64)).length<=(ws.map (Value.int .i64)).length):=by show _<=_;rw[aU,aU,c];omega
 clear c hl;go_enter func162,ntmps162;go_wp2_with (go_at_call 220;refine(BP _ _ _ b ?_ ?_ ?_).mono ?_;omega;omega;omega;rintro e w1 ⟨rfl,hw⟩;have hw:=hw.symm;subst hw)
 go_region_law (refine pV rfl (.tmp 26) (.tmp 35) 53 53 2 rfl underlying53 rX (if N+O=t then an q else some ⟨q,t,none⟩) (if N+O=f then an q else some ⟨q,f,none⟩) n (N+O-t) n (N+O-f) ?_ ?_ q t (ws.map (Value.int .i64)) 2 b.drew.hq (((ws.drop f).take n).map (Value.int .i64)) m.o o.o x.o (oo _) ?_;(first|rfl|simp[Act.eval,Act.put]);(first|rfl|simp[Act.eval,Act.put]);intro ag i;obtain⟨k,B⟩:=b.drew.moved i (by simp;omega);clear i)
 all_goals go_wp2_with fail
 all_goals
  go_end0;refine⟨rfl,?_,(c_.refl _ _ _).drew.trans B⟩
  first
   |exact k
   |(
    have e:t=f:=aa;subst e;exact k)
theorem pW (x:Int)(h:pc x=0):0<=pf x/\pf x<=12:=by have:=iH _ _ (Bj x h).1;omega
theorem BQ:pc 0=7:=by decide+kernel
theorem vP {N y g:Nat}{ws:List Int}{a:Int}(h:pc (ld N y g ws a)=0):dm N y g a=true:=by
 cases hi:dm N y g a
 ·have e:ld N y g ws a=0:=by simp[ld,hi]
  rw[e,BQ] at h;omega
 ·rfl
def gg (N y g:Nat)(a:Int):Int:=if hB 0 y a=true then(y:Int) else(N:Int)+g
theorem cells3 {w w1:aw}{a b c:Value}{t:TypeId}(hb:Below (w.alloc (.cells #[a,b,c] t)).heap.size (w.alloc (.cells #[a,b,c] t)) w1):
 w1.cell? (ao w.heap.size 0)=some a/\w1.cell? (ao w.heap.size 1)=some b/\w1.cell? (ao w.heap.size 2)=some c/\w1.frozen? (ao w.heap.size 0)=false/\w1.frozen? (ao w.heap.size 1)=false/\w1.frozen? (ao w.heap.size 2)=false/\w.heap.size<w1.heap.size:=by
 obtain⟨hc,d⟩:=m7 hb;have hz:=hb.size;refine⟨?_,?_,?_,?_,?_,?_,by simp at hz;omega⟩
 ·rw[hc _ _ ac];simp[go_sem]
 ·rw[hc _ _ ac];simp[go_sem]
 ·rw[hc _ _ ac];simp[go_sem]
 ·rw[d _ _ ac];simp[go_sem]
 ·rw[d _ _ ac];simp[go_sem]
 ·rw[d _ _ ac];simp[go_sem]
theorem BR {p q N O y g:Nat}{ws:List Int}(a:Int)(w:aw)(h:At w p q N O y g ws)(hy:hB 0 y a=true):
 Calls prog 221 #[am p,ak a] w fun e w'=>e=.returned (.agg #[ak 0,ak N,ak y])/\Below w.heap.size w w':=by
 go_enter func221,ntmps221;go_wp2_with fail;refine(l9 a _ (h.alloc _)).mono ?_;rintro e w1 ⟨rfl,hb1⟩
 rw[(hide hy).o];exact vI
theorem BS {p q N O y g:Nat}{ws:List Int}(a:Int)(w:aw)(h:At w p q N O y g ws)(hy:hB 0 y a=false):
 Calls prog 221 #[am p,ak a] w fun e w'=>e=.returned (.agg #[ak N,ak O,ak g])/\Below w.heap.size w w':=by
 have b:=hide hy;clear hy;go_enter func221,ntmps221;go_wp2_with fail;refine(l9 a _ (h.alloc _)).mono ?_;rintro e w1 ⟨rfl,hb1⟩
 rw[b.o];exact vI
theorem rZ {p q N O y g:Nat}{ws:List Int}(a:Int)(w:aw)(h:At w p q N O y g ws):∃b s u:Int,0<=b/\b<=100000/\0<=u/\u<=100000/\b+u=gg N y g a/\
 Calls prog 221 #[am p,ak a] w fun e w'=>e=.returned (.agg #[ak b,ak s,ak u])/\Below w.heap.size w w':=by
 have k1:=h.hN';have c:=h.hy;have d:=h.hO;have f:=h.hg;cases hy:hB 0 y a
 ·exact⟨N,O,g,aa,aa,aa,aa,by simp[gg,hy],BS a w h hy⟩
 ·exact⟨0,N,y,aa,aa,aa,aa,by simp[gg,hy],BR a w h hy⟩
theorem BU {N O y g:Nat}{a:Int}(hN:N<=256)(hO:O<=1024)(hy:y<=N)(hg:g<=O):0<=gg N y g a/\gg N y g a<=1280:=by unfold gg;split<;>omega
theorem BV {p q N O y g:Nat}{ws:List Int}(a:Int)(w:aw)(h:At w p q N O y g ws)(hp:pc (ld N y g ws a)=0)(t:1+pf (ld N y g ws a)<=gg N y g a-a)(hg:1+pf (ld N y g ws a)<=(O:Int)-g):
 Calls prog 165 #[am p,ak a] w fun e w'=>e=.returned (ak (N+g:Nat))/\At w' p q N O y (g+(1+(pf (ld N y g ws a)).toNat)) (splice ws (N+g) ((ws.drop a.toNat).take (1+(pf (ld N y g ws a)).toNat)))/\c_ p q w w':=by
 obtain⟨d,v⟩:=pW _ hp;obtain⟨x,ax⟩:=jd (vP hp) h.hy h.hg;have B:=h.hy;have F:=h.hO;have S:=h.hg;have k5:=@BU N O y g a h.hN' F B S;have k6:gg N y g a<=(N:Int)+O:=by unfold gg;split<;>omega
 have W:=hide hp;clear hp;obtain⟨a,rfl⟩:=Int.eq_ofNat_of_zero_le x;rw[Int.toNat_natCast];obtain⟨n,c⟩:=Int.eq_ofNat_of_zero_le d;have ab:=hide c;rw[c] at t hg v d⊢;clear c;rw[Int.toNat_natCast];go_enter func165,ntmps165;go_wp2_with fail;refine(f6 a _ h).mono ?_;rintro e w1 ⟨rfl,f⟩
 rw[W.o,ab.o];have i:=h.below f bY
 go_wp2_with fail;obtain⟨b,s,u,ad,ag,ai,al,j,hc⟩:=rZ a w1 i;refine hc.mono ?_;rintro e aB ⟨rfl,k⟩
 clear hc;go_wp2_with fail;refine(lA b s u _ ad ag ai al).mono ?_;rintro e w3 ⟨rfl,l⟩
 have ap:=hide j;clear j;rw[ap.o];have m:=(i.below k bY).below l bY
 obtain⟨c0,c1,c2,c3,c4,c5,aF⟩:=m.cells;go_wp2_with fail;refine(BI (1+n) _ m aa aa).mono ?_;rintro e aR ⟨rfl,o,s4⟩
 rw[show(1+(n:Int)).toNat=1+n by omega] at o;go_wp2_with fail;rw[show(1+(n:Int))=((1+n:Nat):Int) by omega];refine(vO (N+g) a (1+n) _ o aa aa).mono ?_;rintro e aT ⟨rfl,ar,s5⟩
 go_wp2_with fail;go_ret;exact⟨rfl,ar,(((c_.of f).trans (c_.of k)).trans (c_.of l)).trans (s4.trans s5)⟩
theorem BW {p q N O y g:Nat}{ws:List Int}(a:Int)(w:aw)(h:At w p q N O y g ws)(v:pc (ld N y g ws a)≠0\/gg N y g a-a<1+pf (ld N y g ws a)\/(O:Int)-g<1+pf (ld N y g ws a)):
 Calls prog 165 #[am p,ak a] w fun e w'=>e=.returned (ak (-1))/\Below w.heap.size w w':=by
 by_cases hp:pc (ld N y g ws a)=0
 ·obtain⟨S,W⟩:=pW _ hp;have hi:=vP hp;obtain⟨ab,ad⟩:=jd hi h.hy h.hg;have k1:=h.hN';have ag:=h.hy;have ai:=h.hO;have al:=h.hg;have ap:gg N y g a-a<1+pf (ld N y g ws a)\/(O:Int)-g<1+pf (ld N y g ws a):=by
   rcases v with e|e
   ·exact absurd hp e
   ·exact e
  have o:=hide hp;by_cases ar:gg N y g a-a<1+pf (ld N y g ws a)
  ·go_enter func165,ntmps165;go_wp2_with fail;refine(f6 a _ h).mono ?_;rintro e w1 ⟨rfl,hb1⟩
   rw[o.o];have f:=h.below hb1 bY
   go_wp2_with fail;obtain⟨b,s,u,i,j,k,l,m,hc⟩:=rZ a w1 f;refine hc.mono ?_;rintro e x ⟨rfl,c⟩
   go_wp2_with fail;refine(lA b s u _ i j k l).mono ?_;rintro e w3 ⟨rfl,d⟩
   have n:=hide m;rw[n.o];go_wp2_with fail;go_ret;exact⟨rfl,(hb1.trans (c.mono hb1.size)).trans (d.mono (aS hb1.size c.size))⟩
  ·go_enter func165,ntmps165;go_wp2_with fail;refine(f6 a _ h).mono ?_;rintro e w1 ⟨rfl,hb1⟩
   rw[o.o];have f:=h.below hb1 bY
   go_wp2_with fail;obtain⟨b,s,u,i,j,k,l,m,hc⟩:=rZ a w1 f;refine hc.mono ?_;rintro e x ⟨rfl,c⟩
   have B:=f.below c bY
   go_wp2_with fail;refine(lA b s u _ i j k l).mono ?_;rintro e w3 ⟨rfl,d⟩
   have n:=hide m;rw[n.o];have t:=B.below d bY
   obtain⟨c0,c1,c2,c3,c4,c5,ax⟩:=t.cells;go_wp2_with fail;refine(BJ _ _ t aa).mono ?_;rintro e aB ⟨rfl,F⟩
   go_wp2_with fail;go_ret;exact⟨rfl,((hb1.trans (c.mono hb1.size)).trans (d.mono (aS hb1.size c.size))).trans (F.mono (aS hb1.size (aS c.size d.size)))⟩
 ·go_enter func165,ntmps165;go_wp2_with fail;refine(f6 a _ h).mono ?_;rintro e w1 ⟨rfl,hb1⟩
  exact lz
structure eQ (B c:Nat)(w w':aw):Prop where
 os:w'.os=w.os
 tape:w'.tape=w.tape
 output:w'.output=w.output
 size:w.heap.size<=w'.heap.size
 block:∀k,k<B->k≠c->w'.heap[k]?=w.heap[k]?
theorem eQ.refl (B c:Nat)(w:aw):eQ B c w w:=⟨rfl,rfl,rfl,aD _,fun _ _ _=>rfl⟩
theorem eQ.trans {B c:Nat}{a b d:aw}(h:eQ B c a b)(k:eQ B c b d):eQ B c a d:=
 ⟨k.os.trans h.os,k.tape.trans h.tape,k.output.trans h.output,aS h.size k.size,fun i hi e=>(k.block i hi e).trans (h.block i hi e)⟩
theorem eQ.of {B D c:Nat}{w w':aw}(h:Below D w w')(hD:B<=D):eQ B c w w':=⟨h.os,h.tape,h.output,h.size,fun k hk _=>h.block k aa⟩
theorem eQ.below {B D c:Nat}{w w':aw}(h:eQ B c w w')(hD:D<=B)(hc:D<=c):Below D w w':=⟨h.os,h.tape,h.output,h.size,fun k hk=>h.block k aa aa⟩
theorem ly {w w':aw}{base n:Nat}{e:TypeId}{v:Value}{l:List Value}(h:w.ownsRow base e 1 v n l)(hb:Below w.heap.size w w'):w'.ownsRow base e 1 v n l:=by
 obtain⟨f,c⟩:=h;refine⟨f,?_⟩
 rcases c with c|⟨b,g,i,j,k,d,r⟩
 ·exact aL c
 ·exact aK ⟨b,g,i,j,k,(hb.block b (lt_of_some d)).trans d,r⟩
theorem nh {w:aw}{base base' n:Nat}{e:TypeId}{v:Value}{l:List Value}(h:w.ownsRow base e 1 v n l)(hb:base'<=base):w.ownsRow base' e 1 v n l:=by
 obtain⟨d,c⟩:=h;refine⟨d,?_⟩
 rcases c with c|⟨b,f,g,i,j,r⟩
 ·exact aL c
 ·exact aK ⟨b,f,g,i,aa,r⟩
theorem vQ {w w':aw}{base B c n:Nat}{e:TypeId}{v:Value}{l:List Value}(h:w.ownsRow base e 1 v n l)(hs:eQ B c w w')(hB:w.heap.size<=B)(hc:c<base):w'.ownsRow base e 1 v n l:=by
 obtain⟨g,d⟩:=h;refine⟨g,?_⟩
 rcases d with d|⟨b,i,j,k,m,f,r⟩
 ·exact aL d
 ·exact aK ⟨b,i,j,k,m,(hs.block b (by have:=lt_of_some f;omega) aa).trans f,r⟩
theorem jQ:(prog.info? 3).map (fun i=>(i.zero,i.size,i.bytes))=some (some (ak 0),1,8):=ah
theorem vR {w:aw}{base n c:Nat}{e:TypeId}{v:Value}{l:List Value}(h:w.ownsRow base e 1 v n l)(hc:c<base):some c≠v.ownBlock:=by
 obtain⟨_,d⟩:=h;rcases d with⟨rfl,_⟩|⟨b,f,g,rfl,i,_⟩
 ·simp[Value.ownBlock]
 ·simp[Value.ownBlock];omega
theorem vS {w:aw}{base n:Nat}{e:TypeId}{v:Value}{l:List Value}(h:w.ownsRow base e 1 v n l):∀k,v.ownBlock=some k->base<=k:=by
 obtain⟨_,c⟩:=h;intro k hk;rcases c with⟨rfl,_⟩|⟨b,d,f,rfl,g,_⟩
 ·simp[Value.ownBlock] at hk
 ·simp[Value.ownBlock] at hk;omega
theorem vU {w:aw}{base n:Nat}{e:TypeId}{v:Value}{l:List Value}(h:w.ownsRow base e 1 v n l)(g:0<n):∃b c,v=.slice (an b) n c:=by
 obtain⟨_,d⟩:=h;rcases d with⟨_,d⟩|⟨b,c,i,f,_⟩
 ·omega
 ·exact⟨b,c,f⟩
def eH (N y g:Nat)(ws:List Int)(hi:Int):Nat->Int->List Int
 |0,_=>[]
 |k+1,a=>if a<hi then(if pc (ld N y g ws a)=0 then a::eH N y g ws hi k (a+(1+pf (ld N y g ws a))) else[]) else[]
theorem vG {N y g:Nat}{ws:List Int}{hi a:Int}(k:Nat)(h:hi<=a):eH N y g ws hi k a=[]:=by
 cases k with
 |zero=>rfl
 |succ k=>unfold eH;rw[aH aa]
theorem vV {N y g:Nat}{ws:List Int}{hi a:Int}(k:Nat)(h:pc (ld N y g ws a)≠0):eH N y g ws hi k a=[]:=by
 cases k with
 |zero=>rfl
 |succ k=>unfold eH;split<;>rfl
theorem vW {N y g:Nat}{ws:List Int}{hi a:Int}(k:Nat)(hk:hi-a<=k)(h:a<hi)(c:pc (ld N y g ws a)=0):
 ∃b,k=b+1/\eH N y g ws hi k a=a::eH N y g ws hi b (a+(1+pf (ld N y g ws a))):=by
 cases k with
 |zero=>omega
 |succ k=>exact⟨k,rfl,by rw[eH,aJ h,aJ c]⟩
theorem aC{w:World}{b o:Nat}{c:Array Value}{T:TypeId}(h:w.heap[b]?=some (.cells c T (0,0))):w.frozen? ⟨b,o,none⟩=false:=by simp[World.frozen?,h]
theorem BX (a:Int)(c base:Nat)(v:Value)(L:List Int)(w:aw)(hc:w.heap[c]?=some (.cells #[v] 74 (0,0)))(i:c<base)(hB:base<=w.heap.size)
 (f:w.ownsRow base 3 1 v L.length (L.map (Value.int .i64)))(S:L.length<=100000):
 Calls prog 196 #[ak a,am c] w fun e w'=>e=.returned (.tuple #[])/\∃g,w'.heap[c]?=some (.cells #[g] 74 (0,0))/\w'.ownsRow base 3 1 g (L++[a]).length ((L++[a]).map (Value.int .i64))/\eQ base c w w':=by
 obtain⟨o,hi,p,q,s⟩:=info_parts jQ;have cc:w.cell? (ao c 0)=some v:=aA hc
 have t:=hide hc;clear hc;have x:c<w.heap.size:=aa;go_enter func196,ntmps196;go_wp2_with (at_builtin;refine wpList_append_own _ rfl _ _ 74 rfl base 3 o _ 1 8 underlying74 hi p q s rfl ae _ L.length _ rfl (f.alloc _) ⟨w.heap.size,0,none⟩ 1 1 [ak a] rfl rfl ?_ ?_ ?_ ?_ ?_ ?_;(intro j u d;match j,d with|0,d=>(simp at d;subst d;simp[Addr.add]));(intro u l;simp at l;subst l;rfl);(unfold maxLen;omega);omega;(simp;omega);intro g w1 m n _;obtain⟨b1,gq,B⟩:=vU m (Nat.succ_pos _);subst B;have b:=(n.block c (by simp;omega) (vR f i)).trans ((a4 _ _ _ x).trans t.o);have W:w1.cell? (ao c 0)=some v:=aA b;have ab:w1.frozen? (ao c 0)=false:=aC b;have F:=hide b;clear b)
 go_end0;refine⟨rfl,.slice (an b1) (L.length+1) gq,?_,?_,?_⟩
 ·have b:=F.o;simp only [World.setCell,Array.getElem?_modify,if_true,b,Option.map_some];simp
 ·have:=ownsRow_setCell_below m (a:=⟨c,0,none⟩) i (.slice (an b1) (L.length+1) gq)
  simpa using this
 ·refine(eQ.of ((aE base w).alloc hB _) bY).trans (eQ.trans (eQ.of ((aE base _).grown n (by simp;omega) (vS f)) bY) ?_)
  exact⟨rfl,rfl,rfl,by simp[World.setCell],fun k _ N=>aP _ _ _ _ N⟩
theorem vX {p q N O y g:Nat}{ws:List Int}(b s u:Int)(c:Nat)(w:aw)(h:At w p q N O y g ws)(hc:w.heap[c]?=some (.cells #[.slice none 0 0] 74 (0,0)))(m:p≠c)(n:q≠c)
 (o:0<=b)(b1:b<=2000)(u0:0<=u)(aT:u<=2000):
 Calls prog 195 #[am p,.agg #[ak b,ak s,ak u],.func (.func 196) #[] #[am c]] w fun e w'=>e=.returned (.tuple #[])/\∃v,w'.heap[c]?=some (.cells #[v] 74 (0,0))/\w'.ownsRow w.heap.size 3 1 v (eH N y g ws (b+u) 2000 b).length ((eH N y g ws (b+u) 2000 b).map (Value.int .i64))/\eQ w.heap.size c w w':=by
 have lp:=h.eO;have x:=lt_of_some hc;have B:ay (_=_):=hc;clear hc;go_enter func195,ntmps195;go_wp2_with fail
 go_loopw [6] (fun i wr=>∃(a:Int)(L:List Int)(k:Nat)(v:Value),i=ak a/\b<=a/\a<=100000/\b+u-a<=k/\(L.length:Int)+b<=a/\L++eH N y g ws (b+u) k a=eH N y g ws (b+u) 2000 b/\wr.heap[c]?=some (.cells #[v] 74 (0,0))/\wr.ownsRow (w.heap.size+1) 3 1 v L.length (L.map (Value.int .i64))/\eQ (w.heap.size+1) c (w.alloc (.cells #[.int .i64 b,.int .i64 s,.int .i64 u] 120)) wr) (fun i _=>(b+u-intOf i).toNat)
 case atStart=>exact⟨b,[],2000,_,rfl,aa,aa,aa,ac,rfl,(a4 _ _ _ x).trans B.o,a6 _ _ _ _,eQ.refl _ _ _⟩
 case round=>
  obtain⟨a,L,k,v,rfl,a1,a2,F,aV,j,hc,hown,hS⟩:=hrel;have d:=hS.block w.heap.size aa aa;rw[aN] at d;have S:wr.cell? (ao w.heap.size 0)=some (ak b):=aA d
  have W:wr.cell? (ao w.heap.size 1)=some (ak s):=aA d
  have ab:wr.cell? (ao w.heap.size 2)=some (ak u):=aA d
  have ad:_:=(h.alloc _).same (hS.block p aa m) (hS.block q (by have:=h.eP;omega) n)
  have hsz:=hS.size;simp only [World.size_alloc] at hsz;have A5:ay (_=_):=j;have CC:ay (_=_):=hc;have a0:ay (_=_):=d;clear j hc d;go_wp2_with fail;refine(lA b s u _ o aa u0 aa).mono ?_;rintro e w1 ⟨rfl,hb1⟩
  clear S W ab;by_cases ag:a<b+u
  ·go_wp2_with fail;refine(f6 a _ (ad.below hb1 bY)).mono ?_;rintro e ai ⟨rfl,al⟩
   have el:_:=hb1.trans (al.mono hb1.size)
   by_cases hp:pc (ld N y g ws a)=0
   ·obtain⟨a3,bb⟩:=pW _ hp;obtain⟨ap,rfl,f⟩:=vW (N:=N) (y:=y) (g:=g) (ws:=ws) k F ag hp;have ar:ay (_=_):=hp;have E1:ay (_=_):=f;clear hp f;rw[ar.o];go_wp2_with fail;refine(BX a c (w.heap.size+1) v L ai ((el.block c (lt_of_some CC.o)).trans CC.o) aa (by have:=el.size;omega) (ly hown el) aa).mono ?_;rintro e w3 ⟨rfl,ax,l,aB,aF⟩
    have aR:ay (_=_):=l;clear l;go_wp2_with fail;go_roundw
    case rel=>exact⟨a+(1+pf (ld N y g ws a)),L++[a],ap,ax,rfl,aa,aa,aa,by simp;omega,by rw[<-A5.o,E1.o];simp,aR.o,aB,(hS.trans (eQ.of el hsz)).trans aF⟩
    case measure=>simp[intOf];omega
   ·have t:(pc (ld N y g ws a)!=0)=true:=by simpa using hp
    have f:=vV (N:=N) (y:=y) (g:=g) (ws:=ws) (hi:=b+u) k hp;have E1:ay (_=_):=f;clear hp f;exact vE
  ·go_wp2_with fail;exact vF
theorem BY (a:Int)(c base:Nat)(v:Value)(L:List Int)(w:aw)(hc:w.heap[c]?=some (.cells #[v] 74 (0,0)))(i:c<base)(hB:base<=w.heap.size)
 (f:w.ownsRow base 3 1 v L.length (L.map (Value.int .i64)))(S:L.length<=100000):
 Calls prog 197 #[ak a,am c] w fun e w'=>e=.returned (.tuple #[])/\∃g,w'.heap[c]?=some (.cells #[g] 74 (0,0))/\w'.ownsRow base 3 1 g (L++[a]).length ((L++[a]).map (Value.int .i64))/\eQ base c w w':=by
 obtain⟨o,hi,p,q,s⟩:=info_parts jQ;have cc:w.cell? (ao c 0)=some v:=aA hc
 have t:=hide hc;clear hc;have x:c<w.heap.size:=aa;go_enter func197,ntmps197;go_wp2_with (at_builtin;refine wpList_append_own _ rfl _ _ 74 rfl base 3 o (ak 0) 1 8 underlying74 hi p q s rfl ae _ L.length (L.map (Value.int .i64)) rfl (f.alloc _) ⟨w.heap.size,0,none⟩ 1 1 [ak a] rfl rfl ?_ ?_ ?_ ?_ ?_ ?_;(intro j u d;match j,d with|0,d=>(simp at d;subst d;simp[Addr.add]));(intro u l;simp at l;subst l;rfl);(unfold maxLen;omega);omega;(simp;omega);intro g w1 m n _;obtain⟨b1,gq,B⟩:=vU m (Nat.succ_pos _);subst B;have b:=(n.block c (by simp;omega) (vR f i)).trans ((a4 _ _ _ x).trans t.o);have W:w1.cell? (ao c 0)=some v:=aA b;have ab:w1.frozen? (ao c 0)=false:=aC b;have F:=hide b;clear b)
 go_end0;refine⟨rfl,.slice (an b1) (L.length+1) gq,?_,?_,?_⟩
 ·have b:=F.o;simp only [World.setCell,Array.getElem?_modify,if_true,b,Option.map_some];simp
 ·have:=ownsRow_setCell_below m (a:=⟨c,0,none⟩) i (.slice (an b1) (L.length+1) gq)
  simpa using this
 ·refine(eQ.of ((aE base w).alloc hB _) bY).trans (eQ.trans (eQ.of ((aE base _).grown n (by simp;omega) (vS f)) bY) ?_)
  exact⟨rfl,rfl,rfl,by simp[World.setCell],fun k _ N=>aP _ _ _ _ N⟩
theorem vY {p q N O y g:Nat}{ws:List Int}(b s u:Int)(c:Nat)(w:aw)(h:At w p q N O y g ws)(hc:w.heap[c]?=some (.cells #[.slice none 0 0] 74 (0,0)))(j:p≠c)(l:q≠c)
 (m:0<=b)(b1:b<=2000)(u0:0<=u)(ax:u<=2000):
 Calls prog 195 #[am p,.agg #[ak b,ak s,ak u],.func (.func 197) #[] #[am c]] w fun e w'=>e=.returned (.tuple #[])/\∃v,w'.heap[c]?=some (.cells #[v] 74 (0,0))/\w'.ownsRow w.heap.size 3 1 v (eH N y g ws (b+u) 2000 b).length ((eH N y g ws (b+u) 2000 b).map (Value.int .i64))/\eQ w.heap.size c w w':=by
 have lp:=h.eO;have n:=lt_of_some hc;have o:=hide hc;clear hc;go_enter func195,ntmps195;go_wp2_with fail
 go_loopw [6] (fun i wr=>∃(a:Int)(L:List Int)(k:Nat)(v:Value),i=ak a/\b<=a/\a<=100000/\b+u-a<=k/\(L.length:Int)+b<=a/\L++eH N y g ws (b+u) k a=eH N y g ws (b+u) 2000 b/\wr.heap[c]?=some (.cells #[v] 74 (0,0))/\wr.ownsRow (w.heap.size+1) 3 1 v L.length (L.map (Value.int .i64))/\eQ (w.heap.size+1) c (w.alloc (.cells #[.int .i64 b,.int .i64 s,.int .i64 u] 120)) wr) (fun i _=>(b+u-intOf i).toNat)
 exact⟨b,[],2000,_,rfl,aa,aa,aa,ac,rfl,(a4 _ _ _ n).trans o.o,a6 _ _ _ _,eQ.refl _ _ _⟩
 ·
   obtain⟨a,L,k,v,rfl,a1,a2,t,aB,x,hc,hown,hS⟩:=hrel;have d:=hS.block w.heap.size aa aa;rw[aN] at d;have aF:wr.cell? (ao w.heap.size 0)=some (ak b):=aA d
   have aR:wr.cell? (ao w.heap.size 1)=some (ak s):=aA d
   have aT:wr.cell? (ao w.heap.size 2)=some (ak u):=aA d
   have B:=(h.alloc _).same (hS.block p aa j) (hS.block q (by have:=h.eP;omega) l)
   have hsz:=hS.size;simp only [World.size_alloc] at hsz;have A5:=hide x;have CC:=hide hc;go_wp2_with fail;refine(lA b s u _ m aa u0 aa).mono ?_;rintro e w1 ⟨rfl,hb1⟩
   by_cases F:a<b+u
   ·go_wp2_with fail;refine(f6 a _ (B.below hb1 bY)).mono ?_;rintro e S ⟨rfl,W⟩
    have el:=hb1.trans (W.mono hb1.size)
    by_cases hp:pc (ld N y g ws a)=0
    ·obtain⟨aV,a0⟩:=pW _ hp;obtain⟨ab,rfl,f⟩:=vW (N:=N) (y:=y) (g:=g) (ws:=ws) k t F hp;have ad:=hide hp;have E1:=hide f;rw[ad.o];go_wp2_with fail;refine(BY a c (w.heap.size+1) v L S ((el.block c (lt_of_some CC.o)).trans CC.o) aa (by have:=el.size;omega) (ly hown el) aa).mono ?_;rintro e w3 ⟨rfl,ag,ai,al,ap⟩
     have ar:=hide ai;go_wp2_with fail;go_roundw;exact⟨a+(1+pf (ld N y g ws a)),L++[a],ab,ag,rfl,aa,aa,aa,by simp;omega,by rw[<-A5.o,E1.o];simp,ar.o,al,(hS.trans (eQ.of el hsz)).trans ap⟩
     simp[intOf];omega
    ·have f:=vV (N:=N) (y:=y) (g:=g) (ws:=ws) (hi:=b+u) k hp;have E1:=hide f;exact vE
   ·go_wp2_with fail;exact vF
def dW (N y g:Nat)(ws:List Int):List Int:=eH N y g ws y 2000 0
def dB (N y g:Nat)(ws:List Int):List Int:=eH N y g ws ((N:Int)+g) 2000 N
theorem pX {p q N O y g:Nat}{ws:List Int}(w:aw)(h:At w p q N O y g ws):
 Calls prog 129 #[am p] w fun e w'=>∃v1 v2,e=.returned (.tuple #[v1,v2])/\w'.ownsRow w.heap.size 3 1 v1 (dW N y g ws).length ((dW N y g ws).map (Value.int .i64))/\w'.ownsRow w.heap.size 3 1 v2 (dB N y g ws).length ((dB N y g ws).map (Value.int .i64))/\Below w.heap.size w w':=by
 obtain⟨c0,c1,c2,c3,c4,c5,f⟩:=h.cells;have lp:=h.eO;have u:=h.eP;have k1:=h.hN';have v:=h.hy;have x:=h.hO;have B:=h.hg;go_enter func129,ntmps129;go_wp2_with fail;refine(vX 0 N y w.heap.size _ ((h.alloc _).alloc _) ((a4 _ _ _ ac).trans (aN _ _)) aa aa aa aa aa aa).mono ?_;rintro e w1 ⟨rfl,v1,i,j,b⟩
 have k:=((h.alloc _).alloc _).same (b.block p (by simp;omega) aa) (b.block q (by simp;omega) aa)
 have c:=(b.block (w.heap.size+1) ac aa).trans (rW _ ac)
 have m:=hide i;have n:=hide c;have o:=b.size;simp only [World.size_alloc] at o;clear i c c0 c1 c2 c3 c4 c5 f;obtain⟨c0,c1,c2,c3,c4,c5,f⟩:=k.cells;go_wp2_with fail;refine(vY N O g (w.heap.size+1) _ k n.o aa aa aa aa aa aa).mono ?_;rintro e l ⟨rfl,v2,c,s,d⟩
 have F:l.cell? (ao w.heap.size 0)=some v1:=by have:=(d.block w.heap.size aa aa).trans m.o;simp[World.cell?,this]
 have S:l.cell? (ao (w.heap.size+1) 0)=some v2:=aA c
 have W:=d.size;clear c;go_wp2
 go_quiet (fail)
 go_wp2;go_ret2;simp only [World.size_alloc] at j b;have t:dW N y g ws=eH N y g ws (0+(y:Int)) 2000 0:=by rw[Int.zero_add];rfl
 refine⟨v1,v2,rfl,?_,?_,?_⟩
 ·rw[t];exact ly (nh (base:=w.heap.size+1+1) (vQ j d bY aa) aa) (below_drewN bZ _)
 ·exact ly (nh s aa) (below_drewN bZ _)
 ·exact below_drewN (((bZ.alloc bY _).alloc ac _).trans ((b.below aa bY).trans (d.below aa aa))) _
def B1:List Int:=fp (List.replicate 24 0) 0 33 2
def B2:List Int:=fp B1 3 194 12
theorem e16:gg 16 16 0 0=16:=by decide+kernel
theorem BZ (ws:List Int)(y:Nat)(hd:Int)(k:Nat):(fp ws y hd k).length=ws.length:=by
 induction k with
 |zero=>simp[fp]
 |succ k b=>simp[fp,b]
theorem kQ (l:List Int)(i j:Nat)(x:Int)(h:i<l.length):(l.set i x).getD j 0=if i=j then x else l.getD j 0:=by
 rw[aG,aG,List.getElem?_set];split
 ·rename_i e;subst e;simp
 ·rfl
theorem kR (ws:List Int)(y:Nat)(hd:Int)(k i:Nat)(h:y+k<ws.length):(fp ws y hd k).getD i 0=if i=y then hd else if y+1<=i/\i<y+1+k then 2 else ws.getD i 0:=by
 induction k with
 |zero=>
  rw[fp,kQ _ _ _ _ aa];by_cases e:y=i
  ·rw[aJ e,aJ e.symm]
  ·rw[aH e,aH (fun c=>e c.symm),aH aa]
 |succ k f=>
  rw[fp,kQ _ _ _ _ (by rw[BZ];omega),f aa];by_cases e:y+1+k=i
  ·rw[aJ e,aH aa,aJ aa]
  ·rw[aH e];by_cases b:i=y
   ·rw[aJ b,aJ b]
   ·rw[aH b,aH b];by_cases d:y+1<=i/\i<y+1+k
    ·rw[aJ d,aJ aa]
    ·rw[aH d,aH aa]
theorem B0 (y f:Nat):hB 0 ((y+1+f:Nat):Int) y=true:=by simp[hB];omega
theorem vZ {N y g:Nat}{ws:List Int}(hd:Int)(f:Nat)(h:y+f<ws.length):ld N (y+1+f) g (fp ws y hd f) y=hd:=by
 have hi:dm N (y+1+f) g y=true:=by unfold dm;rw[B0];rfl
 unfold ld;rw[aJ hi,Int.toNat_natCast,kR _ _ _ _ _ h,aJ rfl]
def hC (N y:Nat)(k f:Int):Bool:=decide (hc k f=0/\f+1<=(N:Int)-y)
def ih (N O y g:Nat)(ws:List Int)(a:Int):Bool:=decide (pc (ld N y g ws a)=0/\1+pf (ld N y g ws a)<=gg N y g a-a/\1+pf (ld N y g ws a)<=(O:Int)-g)
theorem oq {N y:Nat}{k f:Int}(h:hC N y k f=true):hc k f=0/\f+1<=(N:Int)-y:=by simpa[hC] using h
theorem B3 {N y:Nat}{k f:Int}(h:hC N y k f=false):hc k f≠0\/(N:Int)-y<f+1:=by
 have:¬(hc k f=0/\f+1<=(N:Int)-y):=by simpa[hC] using h
 by_cases c:hc k f=0
 ·exact aK aa
 ·exact aL c
theorem ot {N O y g:Nat}{ws:List Int}{a:Int}(h:ih N O y g ws a=true):pc (ld N y g ws a)=0/\1+pf (ld N y g ws a)<=gg N y g a-a/\1+pf (ld N y g ws a)<=(O:Int)-g:=by simpa[ih] using h
theorem B4 {N O y g:Nat}{ws:List Int}{a:Int}(h:ih N O y g ws a=false):pc (ld N y g ws a)≠0\/gg N y g a-a<1+pf (ld N y g ws a)\/(O:Int)-g<1+pf (ld N y g ws a):=by
 have:¬(pc (ld N y g ws a)=0/\1+pf (ld N y g ws a)<=gg N y g a-a/\1+pf (ld N y g ws a)<=(O:Int)-g):=by simpa[ih] using h
 by_cases c:pc (ld N y g ws a)=0
 ·exact aK aa
 ·exact aL c
def nk (N y:Nat)(k f:Int):Int:=if hC N y k f=true then(y:Int) else-1
def iC (N y:Nat)(k f:Int):Nat:=if hC N y k f=true then y+1+f.toNat else y
def eR (N y:Nat)(k f:Int)(ws:List Int):List Int:=if hC N y k f=true then fp ws y (hw k f) f.toNat else ws
def mf (N O y g:Nat)(ws:List Int)(a:Int):Int:=if ih N O y g ws a=true then((N+g:Nat):Int) else-1
def js (N O y g:Nat)(ws:List Int)(a:Int):Nat:=if ih N O y g ws a=true then g+(1+(pf (ld N y g ws a)).toNat) else g
def ju (N O y g:Nat)(ws:List Int)(a:Int):List Int:=if ih N O y g ws a=true then splice ws (N+g) ((ws.drop a.toNat).take (1+(pf (ld N y g ws a)).toNat)) else ws
theorem v4 {p q N O y g:Nat}{ws:List Int}(k f:Int)(w:aw)(h:At w p q N O y g ws):
 Calls prog 41 #[am p,ak k,ak f] w fun e w'=>e=.returned (ak (nk N y k f))/\At w' p q N O (iC N y k f) g (eR N y k f ws)/\c_ p q w w':=by
 unfold nk iC eR;cases hb:hC N y k f
 ·rw[aH ac,aH ac,aH ac];exact(BO k f w h (B3 hb)).mono fun e w' b=>⟨b.1,h.below b.2 bY,c_.of b.2⟩
 ·exact BN k f w h (oq hb).1 (oq hb).2
theorem v5 {p q N O y g:Nat}{ws:List Int}(a:Int)(w:aw)(h:At w p q N O y g ws):
 Calls prog 165 #[am p,ak a] w fun e w'=>e=.returned (ak (mf N O y g ws a))/\At w' p q N O y (js N O y g ws a) (ju N O y g ws a)/\c_ p q w w':=by
 unfold mf js ju;cases hb:ih N O y g ws a
 ·rw[aH ac,aH ac,aH ac];exact(BW a w h (B4 hb)).mono fun e w' b=>⟨b.1,h.below b.2 bY,c_.of b.2⟩
 ·exact BV a w h (ot hb).1 (ot hb).2.1 (ot hb).2.2
open Go.ChangeShapes Go.WideShapes Go.ChangeAt Go.RowKit Go.Joins Go.Deep W ch
section
variable {P:Program}(w:aw)
theorem B5 (base:Nat)(t ty e:TypeId)(i:TypeInfo)(z:Value)(size bytes:Nat)(ht:P.underlying t=some (.slice e))(hi:P.info? e=some i)(hz:i.zero=some z)
 (p:i.size=size)(q:i.bytes=bytes)(s:z.cells.size=size)(x:0<size)
 (v:Value)(n:Nat)(xs:List Value)(g:w.ownsRow base e size v n xs)
 (k:Option Addr)(m c:Nat)(f:List Value)(hl:f.length=m*size)(B:k=none->m=0/\c=0)(F:∀a,k=some a->∀j u,f[j]?=some u->w.cell? (a.add j)=some u)(N:∀u∈f,u.oneCell'=true)
 (S:n+m<=maxLen)(W:(n+m)*bytes<=140737488355328)(ab:base<=w.heap.size):
 ∃b d w',(Builtin.append_ #[t,t] ty #[v,.slice k m c]).run P w=.ok (.slice b (n+m) d) w'/\w'.ownsRow base e size (.slice b (n+m) d) (n+m) (xs++f)/\w.grownBy w' v.ownBlock/\((Value.slice b (n+m) d).ownBlock=v.ownBlock\/(Value.slice b (n+m) d).ownBlock=some w.heap.size):=by
 cases k with
 |some a=>
  obtain⟨al,w',l,o,ad,_,ag⟩:=run_append_own_at (P:=P) w base t ty e i z size bytes ht hi hz p q s x v n xs g a m c f hl (F a rfl) N S W ab;obtain⟨b,d,rfl⟩:=dU o;exact⟨b,d,w',l,o,ad,ag⟩
 |none=>
  obtain⟨rfl,rfl⟩:=B rfl;have ai:=List.eq_nil_of_length_eq_zero (by simpa using hl)
  subst ai;have l:=run_append_owned_none (P:=P) w base t ty e i size ht hi v n xs g;obtain⟨b,d,rfl⟩:=dU g;exact⟨b,d,w,l,by simpa using g,⟨rfl,rfl,rfl,aD _,fun _ _ _=>rfl⟩,aL rfl⟩
theorem v6 {o:Oper}{a:Act}{K:Act->aw->Prop}{Q:Exit->Act->aw->Prop}(s x:Operand)(t:TypeId)
 (k:o.op=.call {callee:=.builtin .append,args:=#[s,x],argTypes:=#[t,t]})
 (base:Nat)(e:TypeId)(i:TypeInfo)(z:Value)(size bytes:Nat)(ht:P.underlying t=some (.slice e))(hi:P.info? e=some i)(hz:i.zero=some z)
 (l:i.size=size)(p:i.bytes=bytes)(q:z.cells.size=size)(B:0<size)
 (v:Value)(n:Nat)(xs:List Value)(hs:a.eval s=v)(F:w.ownsRow base e size v n xs)
 (g:Option Addr)(m c:Nat)(f:List Value)(N:a.eval x=.slice g m c)(hl:f.length=m*size)(S:g=none->m=0/\c=0)(W:∀a,g=some a->∀j u,f[j]?=some u->w.cell? (a.add j)=some u)(ab:∀u∈f,u.oneCell'=true)
 (ad:n+m<=maxLen)(ag:(n+m)*bytes<=140737488355328)(ai:base<=w.heap.size)
 (h:∀b d w',w'.ownsRow base e size (.slice b (n+m) d) (n+m) (xs++f)->w.grownBy w' v.ownBlock->((Value.slice b (n+m) d).ownBlock=v.ownBlock\/(Value.slice b (n+m) d).ownBlock=some w.heap.size)->K (a.put o.dst (.slice b (n+m) d)) w'):o.wp P a w K Q:=by
 obtain⟨b,d,w',al,ap,ar,ax⟩:=B5 (P:=P) w base t o.type e i z size bytes ht hi hz l p q B v n xs F g m c f hl S W ab ad ag ai;unfold Oper.wp execOp;simp only [k,resolve,invoke,builtin,Sem.run_bind,Sem.run_pure,Result.andThen_ok,List.map_toArray,List.map_cons,List.map_nil,hs,N,al];exact h b d w' ap ar ax
theorem je {ops:Array Oper}{rest:List Oper}{o:Oper}{a:Act}{Q:Exit->Act->aw->Prop}(k:o.guard=none)(s x:Operand)(t:TypeId)
 (l:o.op=.call {callee:=.builtin .append,args:=#[s,x],argTypes:=#[t,t]})
 (base:Nat)(e:TypeId)(i:TypeInfo)(z:Value)(size bytes:Nat)(ht:P.underlying t=some (.slice e))(hi:P.info? e=some i)(hz:i.zero=some z)
 (p:i.size=size)(q:i.bytes=bytes)(B:z.cells.size=size)(F:0<size)
 (v:Value)(n:Nat)(xs:List Value)(hs:a.eval s=v)(N:w.ownsRow base e size v n xs)
 (g:Option Addr)(m c:Nat)(f:List Value)(S:a.eval x=.slice g m c)(hl:f.length=m*size)(W:g=none->m=0/\c=0)(ab:∀a,g=some a->∀j u,f[j]?=some u->w.cell? (a.add j)=some u)(ad:∀u∈f,u.oneCell'=true)
 (ag:n+m<=maxLen)(ai:(n+m)*bytes<=140737488355328)(al:base<=w.heap.size)
 (h:∀b d w',w'.ownsRow base e size (.slice b (n+m) d) (n+m) (xs++f)->w.grownBy w' v.ownBlock->((Value.slice b (n+m) d).ownBlock=v.ownBlock\/(Value.slice b (n+m) d).ownBlock=some w.heap.size)->wpList P ops Q rest (a.put o.dst (.slice b (n+m) d)) w'):wpList P ops Q (o::rest) a w:=
 wpList_plain k fun _ ap=>v6 w s x t l base e i z size bytes ht hi hz p q B F v n xs hs N g m c f S hl W ab ad ag ai al fun b d w' ar ax aB=>ap _ _ (h b d w' ar ax aB)
theorem pY {ops:Array Oper}{o:Oper}{a:Act}{K:Act->aw->Prop}{Q:Exit->Act->aw->Prop}{E:Prop}(k:o.guard=none)(s x:Operand)(t:TypeId)
 (l:o.op=.call {callee:=.builtin .append,args:=#[s,x],argTypes:=#[t,t]})
 (base:Nat)(e:TypeId)(i:TypeInfo)(z:Value)(size bytes:Nat)(ht:P.underlying t=some (.slice e))(hi:P.info? e=some i)(hz:i.zero=some z)
 (p:i.size=size)(q:i.bytes=bytes)(B:z.cells.size=size)(F:0<size)
 (v:Value)(n:Nat)(xs:List Value)(hs:a.eval s=v)(N:w.ownsRow base e size v n xs)
 (d:Option Addr)(m c:Nat)(b:List Value)(S:a.eval x=.slice d m c)(hl:b.length=m*size)(W:d=none->m=0/\c=0)(ab:∀a,d=some a->∀j u,b[j]?=some u->w.cell? (a.add j)=some u)(ad:∀u∈b,u.oneCell'=true)
 (ag:n+m<=maxLen)(ai:(n+m)*bytes<=140737488355328)(al:base<=w.heap.size)
 (h:∀f g w',w'.ownsRow base e size (.slice f (n+m) g) (n+m) (xs++b)->w.grownBy w' v.ownBlock->((Value.slice f (n+m) g).ownBlock=v.ownBlock\/(Value.slice f (n+m) g).ownBlock=some w.heap.size)->K (a.put o.dst (.slice f (n+m) g)) w'):
 if Region.wanted o (yielded ops a.tmps)=true then Oper.wp P o a w K Q else E:=by
 have hw:Region.wanted o (yielded ops a.tmps)=true:=by simp[Region.wanted,k]
 rw[aJ hw];exact v6 w s x t l base e i z size bytes ht hi hz p q B F v n xs hs N d m c b S hl W ab ad ag ai al h
end
theorem iI.below {w w':aw}{c:Option Addr}{l:List Int}(h:iI w c l)(hb:Below w.heap.size w w'):iI w' c l:=
 h.keep hb.size (fun hp z e=>by obtain⟨b,o,d,f,_⟩:=h hp;rw[e] at d;cases d;exact hb.block _ f)
theorem B6 (w:aw)(f:Option Addr)(l:List Int)(n:Nat)(v:Int)(h:iI w f l)(hm:l.length<=100000):
 Calls prog 225 #[.slice f l.length n,ak v] w fun e w'=>∃a:Int,e=.returned (ak a)/\decide (0<=a)=l.contains v/\Below w.heap.size w w':=by
 go_enter func225,ntmps225;go_wp2_with fail
 go_loopw [8] (fun iv wr=>∃j:Nat,j<=l.length/\iv=ak j/\ay (∀i,i<j->¬l.getD i 0=v)/\Below w.heap.size w wr) (fun iv _=>l.length-(intOf iv).toNat)
 exact⟨0,aX _,rfl,fun i h=>aa,aE _ _⟩
 ·
   obtain⟨j,q,rfl,g,hb⟩:=hrel;by_cases k:j<l.length
   ·obtain⟨s,t,o,x,hc⟩:=(hide h).o.below hb aa;have m:=hc j k;subst o;by_cases b:l.getD j 0=v
    ·have d:l.contains v=true:=by rw[List.contains_iff_mem,<-b,aG,aI k];exact a_ _
     rw[b] at m;clear hc;go_wp2;go_ret;exact⟨j,rfl,by rw[d];simp,hb⟩
    ·have p:ay (∀i,i<j+1->¬l.getD i 0=v):=fun i hi=>by
      by_cases c:i=j
      ·rw[c];exact b
      ·exact g.o i aa
     generalize l.getD j 0=u at m b;clear hc;go_wp2;go_roundw;exact⟨j+1,aa,aj,p,hb⟩
     simp[intOf];omega
   ·obtain rfl:j=l.length:=aa;have d:l.contains v=false:=by rw[Bool.eq_false_iff];intro hc;rw[List.contains_iff_mem] at hc;obtain⟨i,hi,e⟩:=List.mem_iff_getElem.1 hc;exact g.o i hi (by simp[List.getElem?_eq_getElem hi,e])
    go_wp2;go_ret;exact⟨-1,rfl,by rw[d];rfl,hb⟩
theorem v7 (w:aw)(b:Option Addr)(l:List Int)(c:Nat)(v:Int)(h:iI w b l)(hm:l.length<=100000):
 Calls prog 177 #[.slice b l.length c,ak v] w fun e w'=>e=.returned (.bool (l.contains v))/\Below w.heap.size w w':=by
 go_enter func177,ntmps177;go_wp2_with fail;refine(B6 w b l c v h hm).mono ?_;rintro e w1 ⟨a,rfl,ha,d⟩
 have f:=hide ha;clear ha;go_wp2;go_ret;exact⟨by rw[<-f.o];rfl,d⟩
def tB (N y g:Nat)(ws:List Int)(x:Int):Bool:=c7 x&&((dW N y g ws).contains (cj x)||(dB N y g ws).contains (cj x))
def jv (N y g:Nat)(ws:List Int)(x:Int):Int:=if tB N y g ws x=true then cj x else 0
theorem aM (w:aw)(a:Addr){u:Value}(h:w.cell? a = some u):a.block < w.heap.size:=by intros;apply World.block_lt_of_cell?<;>assumption
theorem B7 {pw p q N O y g:Nat}{ws:List Int}(x:Int)(w:aw)(hc:w.cell? (ao pw 0)=some (am p))(h:At w p q N O y g ws)(l:(dW N y g ws).length<=100000)(hO:(dB N y g ws).length<=100000):
 Calls prog 101 #[am pw,ak x] w fun e w'=>e=.returned (.tuple #[ak (jv N y g ws x),.bool (tB N y g ws x)])/\Below w.heap.size w w':=by
 have m:=hide h;have ig:=aM w _ hc;have P:=m9 x w;cases ha:c7 x
 ·have c:tB N y g ws x=false:=by simp[tB,ha]
  have d:jv N y g ws x=0:=by simp[jv,c]
  rw[c,d];rw[ha] at P;go_enter func101,ntmps101;exact rU
 ·rw[ha] at P;have c:tB N y g ws x=((dW N y g ws).contains (cj x)||(dB N y g ws).contains (cj x)):=by simp[tB,ha]
  have d:jv N y g ws x=if((dW N y g ws).contains (cj x)||(dB N y g ws).contains (cj x))=true then cj x else 0:=by unfold jv;rw[c]
  rw[c,d];generalize cj x=v at P;obtain⟨c1,f⟩:∃b,(dW N y g ws).contains v=b:=⟨_,rfl⟩
  obtain⟨c2,i⟩:∃b,(dB N y g ws).contains v=b:=⟨_,rfl⟩
  rw[f,i];have n:=hide f;have o:=hide i;have K:∀w1,Below w.heap.size w w1->Calls prog 129 #[am p] w1 fun e w'=>∃d1 f1 d2 f2,e=.returned (.tuple #[.slice d1 (dW N y g ws).length f1,.slice d2 (dB N y g ws).length f2])/\ay (∀w3,Below w'.heap.size w' w3->Calls prog 177 #[.slice d1 (dW N y g ws).length f1,ak v] w3 fun e w4=>e=.returned (.bool c1)/\Below w3.heap.size w3 w4)/\ay (∀w3,Below w'.heap.size w' w3->Calls prog 177 #[.slice d2 (dB N y g ws).length f2,ak v] w3 fun e w4=>e=.returned (.bool c2)/\Below w3.heap.size w3 w4)/\Below w1.heap.size w1 w':=fun w1 hb1=>by
   refine(pX w1 (m.o.below hb1 bY)).mono ?_;rintro e w2 ⟨v1,v2,rfl,j,k,hb2⟩
   obtain⟨d1,f1,rfl⟩:=dU j;obtain⟨d2,f2,rfl⟩:=dU k;refine⟨d1,f1,d2,f2,rfl,fun w3 hb3=>?_,fun w3 hb3=>?_,hb2⟩
   ·rw[<-n.o];exact v7 w3 d1 (dW N y g ws) f1 v ((gV j).below hb3) l
   ·rw[<-o.o];exact v7 w3 d2 (dB N y g ws) f2 v ((gV k).below hb3) hO
  have HK:=hide K;cases c1
  ·cases c2
   ·simp only [Bool.or_self,Bool.false_eq_true,if_false];exact vD
   ·simp only [Bool.false_or,if_true];exact vD
  ·simp only [Bool.true_or,if_true];go_enter func101,ntmps101;go_wp2_with fail;refine P.mono ?_;rintro e w1 ⟨rfl,hb1⟩
   have y1:=(hb1.cell (p:=ao pw 0) ig).trans hc;go_wp2_with fail;refine(HK.o w1 hb1).mono ?_;rintro e w2 ⟨d1,f1,d2,f2,rfl,L1,L2,hb2⟩
   have el:=hb1.trans (hb2.mono hb1.size)
   go_wp2_with fail;refine(L1.o w2 bZ).mono ?_;rintro e w3 ⟨rfl,hb3⟩
   have jq:=el.trans (hb3.mono el.size)
   go_wp2_with fail;go_ret2;exact⟨rfl,jq⟩
end Go.Proofs.YtpkjkjhanlbcoaaGreat
