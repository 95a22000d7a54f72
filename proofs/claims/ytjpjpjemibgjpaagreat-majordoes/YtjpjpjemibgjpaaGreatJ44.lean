import Derived.Test.YtjpjpjemibgjpaaGreatJ42
import Derived.Test.YtjpjpjemibgjpaaGreatJ37
import Derived.Test.YtjpjpjemibgjpaaGreatGr7
import Derived.Test.YtjpjpjemibgjpaaGreatJ02
import Derived.Test.YtjpjpjemibgjpaaGreatJ04
import Derived.Test.YtjpjpjemibgjpaaGreatJ07
import Derived.Test.YtjpjpjemibgjpaaGreatJ33
import Derived.Lib.SmallJoins
import Derived.Test.YtjpjpjemibgjpaaGreatJ01
import Derived.Deep.RegionWith
import Derived.Test.YtjpjpjemibgjpaaGreatJ00
import Derived.Test.YtjpjpjemibgjpaaGreatJ03
namespace Go.Proofs.YtjpjpjemibgjpaaGreat
set_option maxRecDepth 100000
set_option maxHeartbeats 4000000
open Tryz
open Go.RowKit W Kp bY
theorem BC {T:List cE}{wt:List bN}(c:gX T wt):∃g,e_ T wt g:=by
 classical
 refine⟨fun is=>(List.range is.length).map (fun i=>decide (∀X:Nat->Prop,eF T wt X->(∀k,b8 is k->X k)->X i)),fun is hl d=>?_⟩
 have key:∀i,b8 ((List.range is.length).map (fun i=>decide (∀X:Nat->Prop,eF T wt X->(∀k,b8 is k->X k)->X i))) i↔i<is.length/\∀X:Nat->Prop,eF T wt X->(∀k,b8 is k->X k)->X i:=by
  intro i;unfold b8;by_cases hi:i<is.length
  ·rw[iX (fun i=>decide (∀X:Nat->Prop,eF T wt X->(∀k,is.getD k false=true->X k)->X i)) (List.range is.length) i 0 false (by simpa using hi)];have e:(List.range is.length).getD i 0=i:=by rw[aj,List.getElem?_range hi];rfl
   rw[e];simp[hi]
  ·rw[aj,List.getElem?_eq_none (by simpa using hi)];simp[hi]
 refine⟨V,fun i hi=>(key i).2 ⟨?_,fun X _ a=>a i hi⟩,fun i hi f v j l=>?_,fun X a hs i hi=>((key i).1 hi).2 X a hs⟩
 ·unfold b8 at hi;by_cases h:i<is.length
  ·exact h
  ·rw[aj,List.getElem?_eq_none I] at hi;cases hi
 ·have b:∀X:Nat->Prop,eF T wt X->(∀k,b8 is k->X k)->X v.2.toNat:=fun X a hs=>a i hi (((key i).1 f).2 X a hs) v (j.mono (fun k hk=>((key k).1 hk).2 X a hs)) l;exact(key _).2 ⟨by rw[hl];exact(b (cv T) c.cls d).1,b⟩
structure et (c:ej)(S:bZ×b_)(j:Nat):Prop where
 rl:∃m Y G,cj c.a S.1 S.2 m Y G
 m:S.1.s.M.length<=j
 ix:S.1.r.length+S.1.q.length<=j
 t:S.2.T.length<=j
section
variable {c:ej}{F:Nat->Prop}{S:bZ×b_}{w:World}{j:Nat}
theorem et.lens (h:et c S j):S.2.rg.length+S.2.wt.length<=j:=by obtain⟨m,Y,G,a⟩:=h.rl;have b:=h.ix;rw[a.rg,a.wt,aE,aE] at b;exact b
theorem et.t12 (h:et c S j):∀t∈S.2.T,t.2.1.length<=12:=fun t ht=>by
 obtain⟨m,Y,G,a⟩:=h.rl;obtain⟨i,hi,e⟩:=List.mem_iff_getElem.1 ht;have:=a.tl i;rw[aj,am hi,e] at this
 exact this
theorem et.rb (h:et c S j)(g:j<=10000):jD S.2:=by
 have k:=h.lens;have l:=h.t;have b:=h.t12;obtain⟨m,Y,G,d⟩:=h.rl;refine⟨fun i hi h0=>?_,b,I,I,I⟩
 have f:=(d.root hi).2;unfold b_.th at h0⊢;split at h0
 ·rename_i e;have a:(S.2.rs.getD i (0,0)).1=3:=by simpa using e
  obtain⟨q0,q1⟩:=f.t a;have:=q1.1;simp only [a] at*;split
  ·omega
  ·omega
 ·omega
theorem et.qt (h:et c S j)(b:j<=1000):iJ S.2:=by have d:=h.lens;have e:=h.t;obtain⟨m,Y,G,a⟩:=h.rl;exact a.qt I I I
theorem et.BD (h:et c S j):∃g,e_ S.2.T S.2.wt g:=by obtain⟨m,Y,G,a⟩:=h.rl;exact BC a.iv
theorem et.start (c:ej)(n o:Nat):et c (e0 n o) 0:=⟨⟨_,_,_,cj.start c.a n o⟩,ak _,ak _,ak _⟩
theorem BE (c:ej)(S:bZ×b_)(b a B C:Int):(dZ c S b a B C).2.T.length<=S.2.T.length+1:=by
 unfold dZ;split
 ·show(S.2.fr c.bS (bV C) a B).T.length<=_;unfold b_.fr;split<;>simp
 split
 ·unfold kW;dsimp only;split<;>simp[b_.sT]
 split
 ·unfold jE;dsimp only;split<;>simp
 split
 ·unfold jC;dsimp only;split<;>simp
 split
 ·simp
 split
 ·unfold ir;dsimp only;split<;>simp
 ·omega
theorem et.do (h:et c S j)(d:cG c.a S.1.s)(hm:c.bS=c.a.N)(a b B C:Int):jF c S a b B C=true/\et c (dZ c S a b B C) (j+1):=by obtain⟨m,Y,G,f⟩:=h.rl;obtain⟨e,g,i,k⟩:=f.do d hm a b B C;obtain⟨l1,l2⟩:=uf c S a b B C;have l:=BE c S a b B C;have n:=h.m;have o:=h.ix;have p:=h.t;exact⟨e,⟨g,i,G,k⟩,I,I,I⟩
theorem vi (g:List Bool->List Bool)(s:b_)(bT:Int)(a:Bool):(s.cut g bT a).T.length=s.T.length:=by
 unfold b_.cut;split
 ·rfl
 ·exact iH _ _ _
theorem et.cut (h:et c S j)(a:cG c.a S.1.s){g:List Bool->List Bool}(hg:e_ S.2.T S.2.wt g):S.1.code c.a=S.2.g9 g c.a.O false/\et c (S.1.cut c.a,S.2.cut g c.a.O false) (j+1)/\(S.1.code c.a=0->(S.1.cut c.a).s.M=[]):=by
 obtain⟨m,Y,G,b⟩:=h.rl;have l1:=AI c.a S.1;have l2:=vi g S.2 c.a.O false;have f:=h.m;have i:=h.ix;have k:=h.t;refine⟨b.Bz a hg,⟨b.cut a hg,?_,by dsimp only;omega,by dsimp only;omega⟩,fun e=>?_⟩
 ·dsimp only;unfold bZ.cut;split
  ·omega
  ·exact aA _
 ·unfold bZ.code at e;unfold bZ.cut;split at e
  ·cases e
  ·rename_i d;rw[ao d]
theorem et.cW (h:et c S j)(a:cG c.a S.1.s){g:List Bool->List Bool}(hg:e_ S.2.T S.2.wt g):S.1.gG c.a=S.2.g9 g c.a.O true/\et c (S.1.cW c.a,S.2.cut g c.a.O true) (j+1)/\(S.1.gG c.a=0->(S.1.cW c.a).s.M=[])/\(S.1.e5 c.a=false->∃F,hK (S.1.k5 c.a) (S.1.cC c.a) F/\F 0 (S.1.k5 c.a,0)):=by
 obtain⟨m,Y,G,b⟩:=h.rl;have l1:=Bf c.a S.1;have l2:=vi g S.2 c.a.O true;have f:=h.m;have i:=h.ix;have k:=h.t;obtain⟨g1,_,g3⟩:=b.kv.cW a;refine⟨b.gG a hg,⟨b.cW a hg,?_,by dsimp only;omega,by dsimp only;omega⟩,fun e=>?_,g1⟩
 ·dsimp only;omega
 ·unfold bZ.gG at e;unfold bZ.cW;split at e
  ·cases e
  ·rename_i d;rw[ao d];rfl
theorem BF {k:bZ}(l:(ce c).J F (k,S.2) w)(hD:et c S j)(q:j<=1000){g:List Bool->List Bool}(hg:e_ S.2.T S.2.wt g)(d:c.bT=c.a.O)(x:c.a.O<=1024)(a:Bool):
 Calls prog 34 #[af c.rp,.bool a] w fun e w'=>∃f,e=.returned (ae (S.2.g9 g c.a.O a))/\(ce c).J f (k,S.2.cut g c.a.O a) w'/\bM F w f w':=by
 obtain⟨A,i,B,s⟩:=hx l;rw[d] at i;have m:=hD.qt q;by_cases b:a=false/\(c.a.O:Int)-(d8 S.2.T).2<(d8 S.2.T).1
 ·obtain⟨rfl,b⟩:=b;have n:S.2.cF g c.a.O false=true:=by unfold b_.cF;simp[b]
  refine(xG i m I I b).mono ?_;rintro e w' ⟨rfl,o⟩
  refine⟨F,?_,?_,bM.of o⟩
  ·unfold b_.g9;rw[aq n]
  ·have e:S.2.cut g c.a.O false=S.2:=by unfold b_.cut;rw[aq n]
   rw[e];exact(ce c).below l o
 ·refine(BB i m I I a (fun e c=>b ⟨e,c⟩) _ hg).mono ?_;rintro e w' ⟨f,rfl,p,t⟩
  rw[<-d] at p;obtain⟨u,j2,v⟩:=s _ _ _ p t;exact⟨u,rfl,by rw[<-d];exact j2,v⟩
end
theorem vj (a b:Option Addr)(g cb:Nat)(l:List (Int×Int))(w:World)(hm:l.length<=100000)(ha:cS w a l)(c:cS w b l):
 Calls prog 46 #[.slice a l.length g,.slice b l.length cb] w fun e w'=>e=.returned (.bool true)/\Below w.heap.size w w':=by
 have i:Hid (cS w a l):=ha;have k:Hid (cS w b l):=c;clear ha c;go_enter func46,ntmps46;go_wp2_with fail
 go_loopw [5] (fun iv wr=>∃j:Nat,j<=l.length/\iv=ae j/\Below w.heap.size w wr) (fun iv _=>l.length-(intOf iv).toNat)
 case atStart=>exact⟨0,aA _,rfl,Below.refl _ _⟩
 case round=>
  obtain⟨j,t,rfl,c⟩:=hrel;by_cases d:j<l.length
  ·obtain⟨b0,x,m,A,hc⟩:=(i.out.below c) I;obtain⟨n,o⟩:=hc j d;subst m;obtain⟨b2,B,p,C,f⟩:=(k.out.below c) I;obtain⟨q,s⟩:=f j d;subst p;clear hc f;generalize (l.getD j (0,0)).1=u at n q;generalize (l.getD j (0,0)).2=v at o s;have j0:(0:Int)<=(j:Int):=I;have D:(j:Int)<(l.length:Int):=I;go_wp2_with fail
   go_quiet (fail)
   go_wp2_with fail;go_roundw
   case rel=>exact⟨j+1,I,ac,by first|exact below_drewN c _|exact c.drew|exact c⟩
   case measure=>simp[intOf];omega
  ·obtain rfl:j=l.length:=I;go_wp2_with fail;go_ret;exact⟨rfl,c⟩
theorem Ln.at {w:World}{d:Option Addr}{a:List (Int×List (Int×Int))}(h:Ln w d a){i:Nat}(hi:i<a.length):∃b o f fc,d=some ⟨b,o,none⟩/\b<w.heap.size/\w.cell? (ah b (o+i*2))=some (ae (a.getD i (0,[])).1)/\w.cell? (ah b (o+i*2+1))=some (.slice f (a.getD i (0,[])).2.length fc)/\cS w f (a.getD i (0,[])).2:=by
 obtain⟨m,g,j,k⟩:=h;have hl:m.length=a.length:=by rw[<-g];simp[gt]
 obtain⟨b,o,e,l,hc⟩:=k I;obtain⟨x,c⟩:∃x,m[i]?=some x:=⟨_,am I⟩
 have en:a.getD i (0,[])=(x.1,x.2.2.2):=by subst g;rw[aj,gt,aX,c];rfl
 rw[en];exact⟨b,o,_,_,e,l,(hc i _ c).1,(hc i _ c).2,j _ (List.mem_of_getElem? c)⟩
theorem BG (r1 f n1 c:Option Addr)(c1 c2 g i:Nat)(vs:List (Int×Int))(a:List (Int×List (Int×Int)))(w:World)(hm:vs.length<=100000)(hl:a.length<=100000)(C:∀nd∈a,nd.2.length<=100000)(D:cS w r1 vs)(E:cS w f vs)(F:Ln w n1 a)(G:Ln w c a):
 Calls prog 17 #[.agg #[.slice r1 vs.length c1,.slice n1 a.length g],.agg #[.slice f vs.length c2,.slice c a.length i]] w fun e w'=>e=.returned (.bool true)/\Below w.heap.size w w':=by
 have m:=((Below.refl w.heap.size w).alloc bJ (.cells #[.slice r1 vs.length c1,.slice n1 a.length g] 60)).alloc V (.cells #[.slice f vs.length c2,.slice c a.length i] 60)
 have k0:((w.alloc (.cells #[.slice r1 vs.length c1,.slice n1 a.length g] 60)).alloc (.cells #[.slice f vs.length c2,.slice c a.length i] 60)).cell? (ah w.heap.size 1)=some (.slice n1 a.length g):=by simp[go_sem]
 have k1:((w.alloc (.cells #[.slice r1 vs.length c1,.slice n1 a.length g] 60)).alloc (.cells #[.slice f vs.length c2,.slice c a.length i] 60)).cell? (ah (w.heap.size+1) 1)=some (.slice c a.length i):=by simp[go_sem]
 have H:((w.alloc (.cells #[.slice r1 vs.length c1,.slice n1 a.length g] 60)).alloc (.cells #[.slice f vs.length c2,.slice c a.length i] 60)).heap.size=w.heap.size+2:=V;have P:=vj r1 f c1 c2 vs _ hm (D.below m) (E.below m)
 have ad:Hid (∀w',Below w.heap.size w w'->Ln w' n1 a):=fun w' b=>F.below b;have ai:Hid (∀w',Below w.heap.size w w'->Ln w' c a):=fun w' b=>G.below b;have al:Hid (∀nd∈a,nd.2.length<=100000):=C;clear D E F G C;go_enter func17,ntmps17;go_wp2_with fail;refine P.mono ?_;clear P;rintro e w1 ⟨rfl,k⟩
 have ar:=m.trans (k.mono I)
 have ax:=k.size;rw[H] at ax;have J:=(k.cell (p:=ah w.heap.size 1) (by show w.heap.size<_;omega)).trans k0;have K:=(k.cell (p:=ah (w.heap.size+1) 1) (by show w.heap.size+1<_;omega)).trans k1;clear m k0 k1 H k;go_wp2_with fail
 go_loopw [5] (fun iv wr=>∃j:Nat,j<=a.length/\iv=ae j/\Below w1.heap.size w1 wr) (fun iv _=>a.length-(intOf iv).toNat)
 case atStart=>exact⟨0,aA _,rfl,Below.refl _ _⟩
 case round=>
  obtain⟨j,a1,rfl,b⟩:=hrel;have aB:=b.size;have u:=ar.trans (b.mono I)
  have v:=(b.cell (p:=ah w.heap.size 1) (by show w.heap.size<_;omega)).trans J;have y1:=(b.cell (p:=ah (w.heap.size+1) 1) (by show w.heap.size+1<_;omega)).trans K;have aF:w.heap.size<wr.heap.size:=I;have aR:w.heap.size+1<wr.heap.size:=I;by_cases n:j<a.length
  ·obtain⟨b1,o1,L,M,aT,l1,o,q,x⟩:=(ad.out wr u).at n;obtain⟨b2,l,N,O,aV,l2,s,t,A⟩:=(ai.out wr u).at n;subst aT aV;have Q:(a.getD j (0,[])).2.length<=100000:=al.out _ (by rw[aj,am n];exact aK n)
   generalize (a.getD j (0,[])).1=kd at o s;generalize (a.getD j (0,[])).2=B at q x t A Q;have j0:(0:Int)<=(j:Int):=I;have a2:(j:Int)<(a.length:Int):=I;have hd:=(Below.refl wr.heap.size wr).drew;have P:=vj L N M O B wr.drew Q (x.below hd) (A.below hd)
   clear x A J K;go_wp2_with fail
   go_region_held3 (fun w'=>w'.cell? (ah w.heap.size 1)=some (.slice (some ⟨b1,o1,none⟩) a.length g)/\w'.cell? (ah (w.heap.size+1) 1)=some (.slice (some ⟨b2,l,none⟩) a.length i)/\w'.cell? (ah b1 (o1+j*2))=some (ae kd)/\w'.cell? (ah b1 (o1+j*2+1))=some (.slice L B.length M)/\w'.cell? (ah b2 (l+j*2))=some (ae kd)/\w'.cell? (ah b2 (l+j*2+1))=some (.slice N B.length O)) (first|exact⟨v,y1,o,q,s,t⟩|exact⟨u0,R,S,U,W,X⟩|go_keep)
    (first|(go_at_call 46;refine P.mono ?_;rintro e w3 ⟨rfl,Y⟩;have d:Below wr.heap.size wr w3:=hd.trans Y;have u0:=(d.cell (p:=ah w.heap.size 1) aF).trans v;have R:=(d.cell (p:=ah (w.heap.size+1) 1) aR).trans y1;have S:=(d.cell (p:=ah b1 (o1+j*2)) l1).trans o;have U:=(d.cell (p:=ah b1 (o1+j*2+1)) l1).trans q;have W:=(d.cell (p:=ah b2 (l+j*2)) l2).trans s;have X:=(d.cell (p:=ah b2 (l+j*2+1)) l2).trans t))
   have a0:Below w1.heap.size w1 w3:=b.trans (d.mono aB)
   clear P u0 R S U W X v y1 o q s t d Y hd;go_wp2_with fail;go_roundw
   case rel=>exact⟨j+1,I,ac,a0⟩
   case measure=>simp[intOf];omega
  ·obtain rfl:j=a.length:=I;go_wp2_with fail;go_ret;exact⟨rfl,u⟩
section
variable {c:ej}{F:Nat->Prop}{S:bZ×b_}{w:World}{j:Nat}
theorem BH (h:(ce c).J F S w)(hD:et c S j)(u:j<=1000):
 Calls prog 19 #[af c.rp] w fun e w'=>∃a d b f,e=.returned (.agg #[.slice a 12 d,.slice b (c_ c.a.N S.1.s.y S.1.s.g S.1.s.ws S.1.q S.1.s.rs).2.2.length f])/\cS w' a (c_ c.a.N S.1.s.y S.1.s.g S.1.s.ws S.1.q S.1.s.rs).1/\Ln w' b (c_ c.a.N S.1.s.y S.1.s.g S.1.s.ws S.1.q S.1.s.rs).2.2/\Below w.heap.size w w':=by
 have o:=k4 h;obtain⟨x,k,_⟩:=hx h;have l1:=hD.lens;have l2:=hD.t;obtain⟨m,Y,G,g⟩:=hD.rl;obtain⟨v1,v2⟩:=g.view o I;obtain⟨c1,_,_,_,p,_,rl,hc⟩:=fT k;have n:(12:Nat)=S.2.rs.length:=rl.symm;have hl:cS w (ag c.rb) S.2.rs:=fun _=>⟨c.rb,0,rfl,p,fun i hi=>by obtain⟨q0,q1,_⟩:=hc i I;rw[Nat.zero_add];exact⟨q0,q1⟩⟩
 have P:=ig.xY (l:=S.2.rs) (rc:=12) (pi k) (by rw[<-n];exact c1) hl I (g.BA I I) (fun v q=>(g.rv v q).vq I)
 rw[<-n] at P;refine P.mono ?_;rintro e w' ⟨a,d,b,A,f,rfl,hp,s,rfl,t⟩
 rw[v1,v2];exact⟨a,d,b,f,rfl,hp.1,s.ln,t⟩
theorem BI (h:(ce c).J F S w)(hD:et c S j)(ax:j<=1000):
 Calls prog 35 #[af c.pb] w fun e w'=>e=.returned (.bool true)/\Below w.heap.size w w':=by
 have a:=k4 h;have l1:=hD.lens;have l2:=hD.t;have aB:=hD.ix;have us:d8 S.2.T=((S.1.s.y:Int),(S.1.s.g:Int)):=by obtain⟨m,Y,G,aF⟩:=hD.rl;exact aF.us a
 obtain⟨E,bl,aR⟩:=z2 c.a.N S.1.s.y S.1.s.g S.1.s.ws S.1.q S.1.s.rs;rw[a.r1] at E;have H:=uJ h;have J:Hid (∀w',Below w.heap.size w w'->Calls prog 16 #[af c.rp] w' fun e b=>e=.returned (.tuple #[ae S.1.s.y,ae S.1.s.g])/\Below w'.heap.size w' b):=fun w' k=>by
  obtain⟨bn,aT,_⟩:=hx ((ce c).below h k)
  have P:=mh aT hD.t12 I;rw[us] at P;exact P
 have K:Hid (∀w',Below w.heap.size w w'->Calls prog 18 #[af c.a.pw] w' fun e b=>∃d q f A s,e=.returned (.agg #[.slice d 12 q,.slice f A s])/\cS b d (c_ c.a.N S.1.s.y S.1.s.g S.1.s.ws S.1.q S.1.s.rs).1/\Ln b f (c_ c.a.N S.1.s.y S.1.s.g S.1.s.ws S.1.q S.1.s.rs).2.2/\A=(c_ c.a.N S.1.s.y S.1.s.g S.1.s.ws S.1.q S.1.s.rs).2.2.length/\Below w'.heap.size w' b):=fun w' k=>uK ((ce c).below h k) I;have aV:Hid (∀w',Below w.heap.size w w'->Calls prog 19 #[af c.rp] w' fun e b=>∃d q f s,e=.returned (.agg #[.slice d 12 q,.slice f (c_ c.a.N S.1.s.y S.1.s.g S.1.s.ws S.1.q S.1.s.rs).2.2.length s])/\cS b d (c_ c.a.N S.1.s.y S.1.s.g S.1.s.ws S.1.q S.1.s.rs).1/\Ln b f (c_ c.a.N S.1.s.y S.1.s.g S.1.s.ws S.1.q S.1.s.rs).2.2/\Below w'.heap.size w' b):=fun w' k=>BH ((ce c).below h k) hD ax;have o:Hid (∀w',Below w.heap.size w w'->w'.cell? (ah c.pb 0)=some (af c.a.pw)/\w'.cell? (ah c.pb 1)=some (af c.rp)/\w'.cell? (ah c.a.pw 0)=some (af c.a.p)):=fun w' k=>by
  obtain⟨q0,q1,a0,_⟩:=dF ((ce c).below h k)
  exact⟨q0,q1,a0⟩
 obtain⟨a1,a2,a3⟩:=o.out w bK
 generalize c_ c.a.N S.1.s.y S.1.s.g S.1.s.ws S.1.q S.1.s.rs=R at*;obtain⟨vs,ms,u⟩:=R;dsimp only at*;generalize S.1.s.y=y at*;generalize S.1.s.g=g at*;have bo:S.1.q.length<=1000:=I;clear a us hD h l1 l2 aB;go_enter func35,ntmps35;go_wp2_with fail;refine H.mono ?_;clear H;rintro e w1 ⟨rfl,v⟩
 have L:=J.out w1 v;obtain⟨bb,y1,bd⟩:=o.out w1 v;have B:Hid (Below w.heap.size w w1):=v;clear v J a1 a2 a3;go_wp2_with fail;refine L.mono ?_;clear L;rintro e i ⟨rfl,M⟩
 have a:=B.out.trans (M.mono B.out.size)
 obtain⟨z0,bp,_⟩:=o.out i a;have C:=(Below.refl i.heap.size i).drew;have N:=K.out i.drew (a.trans (C.mono a.size))
 have t:Hid (Below w.heap.size w i/\Below i.heap.size i i.drew):=⟨a,C⟩
 have br:(0:Int)=0:=rfl;have bs:((y:Int)==(y:Int))=true:=V;have bx:((g:Int)==(g:Int))=true:=V;clear M a bb y1 bd B C K;go_wp2_with fail
 go_region_held3 (fun w'=>w'.cell? (ah c.pb 0)=some (af c.a.pw)/\w'.cell? (ah c.pb 1)=some (af c.rp)) (go_keep)
  (first
    |(go_at_call 18;refine N.mono ?_;clear N;rintro e w3 ⟨d,q,f,A,s,rfl,O,Q,rfl,U⟩;have p:Hid (Below w.heap.size w w3/\cS w3 d vs/\Ln w3 f u):=⟨(t.out.1.trans (t.out.2.mono t.out.1.size)).trans (U.mono (az t.out.1.size t.out.2.size)),O,Q⟩;obtain⟨t0,bL,_⟩:=o.out w3 p.out.1;clear O Q U)
    |(go_at_call 19;refine(aV.out w3 p.out.1).mono ?_;rintro e l ⟨r3,be,W,bg,rfl,X,ad,x⟩;have n:Hid (Below w.heap.size w l/\cS l d vs/\Ln l f u/\cS l r3 vs/\Ln l W u):=⟨p.out.1.trans (x.mono p.out.1.size),p.out.2.1.below x,p.out.2.2.below x,X,ad⟩;obtain⟨bM,t3,_⟩:=o.out l n.out.1;clear X ad x)
    |(go_at_call 17;have D:=BG d r3 f W q be s bg vs u l I I (fun nd bi=>by have:=aR nd bi;omega) n.out.2.1 n.out.2.2.2.1 n.out.2.2.1 n.out.2.2.2.2;rw[E] at D;refine D.mono ?_;clear D;rintro e ai ⟨rfl,al⟩;have ar:Hid (Below w.heap.size w ai):=n.out.1.trans (al.mono n.out.1.size);obtain⟨bN,bO,_⟩:=o.out ai ar.out;clear al))
 all_goals
  go_wp2_with fail;go_ret;exact⟨rfl,ar.out⟩
end
section
variable {c:ej}{F:Nat->Prop}{S:bZ×b_}{w:World}{j:Nat}
theorem vk (h:(ce c).J F S w)(hD:et c S j)(al:j<=900)(W:c.bT=c.a.O)(X:c.a.O<=1024)(l:Bool):
 Calls prog 9 #[af c.pb,.bool l] w fun e w'=>∃(cd:Int)(b:bZ×b_)(a:Nat->Prop),e=.returned (.tuple #[ae cd,.bool true])/\(ce c).J a b w'/\et c b (j+1)/\bM F w a w':=by
 have q:=k4 h;obtain⟨g,hg⟩:=hD.BD;have ar:=hD.ix;have G:Hid (∀a b w',(ce c).J a b w'->w'.cell? (ah c.pb 0)=some (af c.a.pw)/\w'.cell? (ah c.pb 1)=some (af c.rp)):=fun a b w' f=>⟨(n3 f).1,(n3 f).2.1⟩
 have s:Hid (∀d a w',(ce c).J a (d,S.2) w'->Calls prog 34 #[af c.rp,.bool l] w' fun e m=>∃H,e=.returned (ae (S.2.g9 g c.a.O l))/\(ce c).J H (d,S.2.cut g c.a.O l) m/\bM a w' H m):=fun d a w' f=>BF (S:=S) f hD I hg W X l;have J:Hid (∀b a w',et c b (j+1)->(ce c).J a b w'->Calls prog 35 #[af c.pb] w' fun e m=>e=.returned (.bool true)/\Below w'.heap.size w' m):=fun b a w' Y f=>BI f Y I;have K:Hid (∀a b w',(ce c).J a b w'->w'.cell? (ah c.pb 0)=some (af c.a.pw)/\w'.cell? (ah c.a.pw 1)=some (af c.a.pc)/\Calls prog 36 #[af c.a.pc] w' fun e m=>e=.returned (ae b.1.s.M.length)/\m=w'):=fun a b w' f=>by obtain⟨_,⟨ct,i⟩,_,c1,ad⟩:=A8 f;exact⟨ad,c1,wV w' i⟩
 obtain⟨q0,q1⟩:=G.out _ _ _ h;cases l
 case' false=>
  have t:=A6 h I;obtain⟨u,hN,hM⟩:=hD.cut q hg;generalize S.1.cut c.a=d at*;generalize i:S.1.code c.a=cd at*
 case' true=>
  obtain⟨u,hN,hM,L⟩:=hD.cW q hg;have t:=uM h I L;clear L;generalize S.1.cW c.a=d at*;generalize i:S.1.gG c.a=cd at*
 all_goals
  rw[<-u] at s;have x:Hid (et c (d,S.2.cut g c.a.O _) (j+1)):=hN;generalize S.2.cut g c.a.O _=o at*;clear u hN q hD i hg
  as_aux_lemma=>
  go_enter func9,ntmps9;go_wp2_with fail;refine t.mono ?_;clear t;rintro e M ⟨N,rfl,cC,O⟩
  have P:=s.out _ N M cC;obtain⟨z0,ai⟩:=G.out _ _ _ cC;have Q:Hid (bM F w N M):=O;clear cC O s q0 q1;go_wp2_with fail;refine P.mono ?_;clear P;rintro e A ⟨k,rfl,B,R⟩
  have C:Hid ((ce c).J k (d,o) A/\bM F w k A):=⟨B,Q.out.trans R⟩
  have U:=J.out _ k A x.out B;clear B R J z0 ai Q;have ax:(cd==cd)=true:=V;go_wp2_with fail;refine U.mono ?_;clear U;rintro e D ⟨rfl,E⟩
  have n:Hid ((ce c).J k (d,o) D/\bM F w k D):=⟨(ce c).below C.out.1 E,C.out.2.below E⟩
  obtain⟨u0,aB,p⟩:=K.out k _ D n.out.1;clear E C K;by_cases i:cd=0
  ·rw[hM i] at p;clear hM;subst i;go_wp2_with fail;refine p.mono ?_;clear p;rintro e aF ⟨rfl,rfl⟩
   go_wp2_with fail;refine aW (v:=.tuple #[ae 0,.bool true]) (by simp[results,results9,go_sem]) rfl ?_;exact⟨0,(d,o),k,rfl,n.out.1,x.out,n.out.2⟩
  ·have aR:(cd !=0)=true:=by simpa using i
   clear p;go_wp2_with fail;refine aW (v:=.tuple #[ae cd,.bool true]) (by simp[results,results9,go_sem]) rfl ?_;exact⟨cd,(d,o),k,rfl,n.out.1,x.out,n.out.2⟩
end
def oF:bZ:=⟨⟨3,0,dR 16 0 1 2 (List.replicate 24 0),[],(tw 2 12).set 0 (ew 3 0)⟩,[],[]⟩
theorem BJ:((e0 16 8).2.h3 16 1 2==decide (0<=eh 16 0 1 2))=true:=by decide+kernel
theorem qG:bV 0=0:=by decide+kernel
theorem vl:dU 16 0 1 2=3/\eh 16 0 1 2=0:=by decide+kernel
theorem BK (x y:Value)(w:World):Sem.run prog (Instr.field 60 (.agg #[x,y]) 1) w=.ok y w:=by unfold Instr.field;simp[go_sem];rfl
theorem BL:(((e0 16 8).2.fr 16 0 1 2).h3 16 1 2==decide (0<=eh 16 oF.s.y 1 2))=true:=by decide+kernel
theorem qH (w:World):Calls prog 5 #[] w fun e w'=>e=.returned (.bool true)/\Below w.heap.size w w':=by
 go_enter func5,ntmps5;go_wp2_with fail;refine(ub 16 8 w I I I).mono ?_;rintro e w1 ⟨c,aB,rfl,v,⟨k1,K,q,aF⟩,g1,b1⟩
 have L:=jd.start c 16 8;have M:=je.start c.a 16 8;have x:=k4 v;have D:=p7 v ((fM.start 16 8).rb Z Z Z) (by rw[q];decide) (by rw[q];decide) Z Z Z 0 1 2 0;have B1:=L.do x 0 1 2 0;have s:=M.do (c:=c) (S:=e0 16 8) x 0 1 2 0 (fun _=>ap rfl)
 have t:jF c (e0 16 8) 0 1 2 0=true:=by unfold jF;rw[aq rfl,q,k1];exact BJ
 have n:(dZ c (e0 16 8) 0 1 2 0).1=oF:=by unfold dZ;rw[aq rfl];unfold i_;dsimp only;rw[k1];show(⟨⟨dU 16 0 1 2,0,dR 16 0 1 2 (List.replicate (16+8) 0),[],if 0<=eh 16 0 1 2 then(tw 2 12).set (bV 0) (ew 3 (eh 16 0 1 2)) else tw 2 12⟩,[],[]⟩:bZ)=oF;rw[vl.1,vl.2,qG];rfl
 have A:(dZ c (e0 16 8) 0 1 2 0).2=(e0 16 8).2.fr 16 0 1 2:=by unfold dZ;rw[aq rfl];unfold i_;dsimp only;rw[q,qG];rfl
 rw[t] at D;generalize N:dZ c (e0 16 8) 0 1 2 0=l at D B1 s;rw[N] at n A;have O:Hid ((∀b,aB b->w.heap.size<=b)/\Below w.heap.size w w1/\l.1=oF/\l.2=(e0 16 8).2.fr 16 0 1 2/\c.a.N=16/\c.a.O=8/\c.bS=16/\jd c l 1/\je c.a l.1):=⟨g1,b1,n,A,k1,K,q,B1,s⟩
 clear v g1 b1 N t n A k1 K q aF L M x B1 s;go_wp2_with fail;refine D.mono ?_;clear D;rintro e aR ⟨Q,rfl,j2,B⟩
 obtain⟨f,a,g,R,i,j,k,B1,s⟩:=O.out;have C:=k4 j2;have D:=p7 j2 (B1.rb I) (by rw[k];decide) (by rw[k];decide) (by have:=B1.m;omega) (by have:=B1.ix;omega) (by have:=B1.ix;omega) 0 1 2 0;have B2:=B1.do C 0 1 2 0;have m:=s.do (c:=c) (S:=l) C 0 1 2 0 (fun _=>ap rfl)
 have t:jF c l 0 1 2 0=true:=by unfold jF;rw[aq rfl,k,i,g,R];exact BL
 have n:(dZ c l 0 1 2 0).1=h5:=by unfold dZ;rw[aq rfl];unfold i_;dsimp only;rw[i,g];show(⟨⟨dU 16 3 1 2,0,dR 16 3 1 2 (dR 16 0 1 2 (List.replicate 24 0)),[],if 0<=eh 16 3 1 2 then((tw 2 12).set 0 (ew 3 0)).set (bV 0) (ew 3 (eh 16 3 1 2)) else(tw 2 12).set 0 (ew 3 0)⟩,[],[]⟩:bZ)=h5;rw[uN.1,uN.2,qG];rfl
 rw[t] at D;generalize U:dZ c l 0 1 2 0=d at D B2 m;rw[U] at n;have b2:=a.trans (B.fr.below a.size f)
 have g2:∀b,Q b->w.heap.size<=b:=fun b o=>(B.sub b o).elim (f b) (fun o=>az a.size o)
 obtain⟨E,_⟩:=dF j2;have W:Hid ((∀b,Q b->w.heap.size<=b)/\Below w.heap.size w aR/\d.1=h5/\c.a.N=16/\c.a.O=8/\jd c d 2/\je c.a d.1):=⟨g2,b2,n,i,j,B2,m⟩
 clear j2 B f a g R i j k B1 s C B2 m t n U b2 g2 O;go_wp2_with fail;refine D.mono ?_;clear D;rintro e w3 ⟨X,rfl,b7,t3⟩
 obtain⟨f,a,g,i,j,B2,m⟩:=W.out;have Y:=k4 b7;obtain⟨g1,g2,g3,aT,F,G⟩:=Ba m Y;have P:=uM b7 (by rw[m.r,m.q];decide) g1;rw[i,g,Bb,j] at G;rw[i,g] at F;have u:d.1.gG c.a=0/\(d.1.cW c.a).s.y=0/\(d.1.cW c.a).s.g=3:=by
  rw[g];rcases G with⟨q1,aV,q3,_⟩|⟨_,_,_,bg⟩
  ·exact⟨q1,aV,q3⟩
  ·omega
 rw[u.1] at P;have b3:=a.trans (t3.fr.below a.size f)
 have ad:∀b,X b->w.heap.size<=b:=fun b o=>(t3.sub b o).elim (f b) (fun o=>az a.size o)
 obtain⟨E,_⟩:=dF b7;have H:Hid ((∀b,X b->w.heap.size<=b)/\Below w.heap.size w w3/\(d.1.cW c.a).s.y=0/\(d.1.cW c.a).s.g=3/\(d.1.cW c.a).q=[]/\(c_ c.a.N (d.1.cW c.a).s.y (d.1.cW c.a).s.g (d.1.cW c.a).s.ws (d.1.cW c.a).q (d.1.cW c.a).s.rs).2.2.length=1):=⟨ad,b3,u.2.1,u.2.2,g2.q,by rw[g,i,F];exact Bd⟩
 clear b7 t3 f a g i j B2 m Y g1 g2 g3 aT F G u ad b3 W;generalize d.1.cW c.a=p at P H;go_wp2_with fail;refine P.mono ?_;clear P;rintro e ai ⟨a0,rfl,b9,al⟩
 obtain⟨f,a,g,i,j,k⟩:=H.out;have b4:=a.trans (al.fr.below a.size f)
 have P:=uJ b9;dsimp only at P;rw[g,i] at P;obtain⟨E,_,ar,_⟩:=dF b9;have ax:Hid ((ce c).J a0 (p,d.2) ai/\Below w.heap.size w ai/\p.q=[]/\(c_ c.a.N p.s.y p.s.g p.s.ws p.q p.s.rs).2.2.length=1):=⟨b9,b4,j,k⟩
 clear b9 al f a g i j k b4 H;go_wp2_with fail;refine P.mono ?_;clear P;rintro e a1 ⟨rfl,b5⟩
 obtain⟨f,a,j,k⟩:=ax.out;have cC:=(ce c).below f b5;have b6:=a.trans (b5.mono a.size)
 have P:=uK cC (by dsimp only;rw[j];decide)
 dsimp only at P;rw[k] at P;obtain⟨E,_⟩:=dF cC;have J:Hid (Below w.heap.size w a1):=b6;clear f a j k cC b5 b6 ax;go_wp2_with fail;refine P.mono ?_;clear P;rintro e a2 ⟨a3,ar,bb,bi,bd,rfl,_,_,rfl,b5⟩
 have be:Hid (Below w.heap.size w a2):=J.out.trans (b5.mono J.out.size)
 clear b5 J;have bl:=BK (.slice a3 12 ar) (.slice bb 1 bd)
 go_wp2_with fail;go_ret;exact⟨rfl,be.out⟩
open Go.ChangeShapes Go.WideShapes Go.ChangeAt Go.RowKit Go.Joins Go.Deep W bY
theorem vm:prog.cellsOf 31=4:=ab
theorem BM:prog.cellsOf 3=1:=ab
abbrev S4:=Int×Int×Int×Int
def lg (a:Int):Prop:=-9223372036854775808<=a/\a<=9223372036854775807
def L4 (w:World)(a:Option Addr)(l:List S4):Prop:=
 0<l.length->∃b o,a=some ⟨b,o,none⟩/\b<w.heap.size/\∀i,i<l.length->(w.cell? (ah b (o+i*4))=some (ae (l.getD i (0,0,0,0)).1)/\w.cell? (ah b (o+i*4+1))=some (ae (l.getD i (0,0,0,0)).2.1)/\w.cell? (ah b (o+i*4+2))=some (ae (l.getD i (0,0,0,0)).2.2.1)/\w.cell? (ah b (o+i*4+3))=some (ae (l.getD i (0,0,0,0)).2.2.2))/\
  lg (l.getD i (0,0,0,0)).2.1/\lg (l.getD i (0,0,0,0)).2.2.2
theorem trod_struct4 {H:Type}{enc:TypeId×Value->H}{P:Program}{w:World}{base:Nat}{b:Nat->Bool}{c:Bool}{t:TypeId}{d e f g:Field}{m:Nat}{a:List Value}{x:DataW H×List MemPlace}(ht:P.underlying t=some (.struct #[d,e,f,g]))(h:DataW.trod enc P w base b c m t a=some x):
 ∃j y1 k l n,a.length=P.cellsOf t/\DataW.trod enc P w base b c n d.type ((a.drop d.offset).take (P.cellsOf d.type))=some j/\
  DataW.trod enc P w base b c n e.type ((a.drop e.offset).take (P.cellsOf e.type))=some y1/\DataW.trod enc P w base b c n f.type ((a.drop f.offset).take (P.cellsOf f.type))=some k/\
  DataW.trod enc P w base b c n g.type ((a.drop g.offset).take (P.cellsOf g.type))=some l:=by
 obtain⟨xs,n,_,rfl,hl,o,i⟩:=DataW.trod_struct ht h
 match xs,o with
 |[j,y1,k,l],_=>exact⟨j,y1,k,l,n,hl,by simpa using i 0 d rfl,by simpa using i 1 e rfl,by simpa using i 2 f rfl,by simpa using i 3 g rfl⟩
theorem BN {c:Type}{a:List c}(h:a.length=4):∃c0 c1 c2 b,a=[c0,c1,c2,b]:=by
 match a,h with
 |[c0,c1,c2,b],_=>exact⟨c0,c1,c2,b,rfl⟩
theorem vo {a:Int}(h:(Lit.int .i64 a).wf=true):lg a:=by
 have:IntKind.i64.min<=a/\a<=9223372036854775807:=by simpa[Lit.wf] using h
 exact⟨this.1,this.2⟩
theorem BO {H:Type}{enc:TypeId×Value->H}{W:World}{sp:Nat->Bool}{j:Bool}{k:Nat}{e:List Value}{x:DataW H×List MemPlace}
 (l:DataW.trod enc prog W 0 sp j k 31 e=some x):∃d a b c:Int,e=[.int .i64 d,.int .i64 a,.int .i64 b,.int .i64 c]/\lg a/\lg c:=by
 obtain⟨q,y1,s,t,n,hl,t0,m,o,t3⟩:=trod_struct4 Tryz.underlying31 l;rw[vm] at hl;obtain⟨c0,c1,c2,u,rfl⟩:=BN hl;obtain⟨d,f,_⟩:=DataW.trod_int Tryz.underlying3 t0;obtain⟨a,ea,_,wa⟩:=DataW.trod_int Tryz.underlying3 m;obtain⟨b,g,_⟩:=DataW.trod_int Tryz.underlying3 o;obtain⟨c,i,_,p⟩:=DataW.trod_int Tryz.underlying3 t3;simp[BM] at f ea g i;exact⟨d,a,b,c,by rw[f,ea,g,i],vo wa,vo p⟩
theorem BP {H:Type}{enc:TypeId×Value->H}{W:World}{sp:Nat->Bool}{t:Bool}{u len v:Nat}{f:Option Addr}{x:DataW H×List MemPlace}
 (w:DataW.trod enc prog W 0 sp t u 22 [.slice f len v]=some x):∃l:List S4,l.length=len/\L4 W f l:=by
 rcases open_slice Tryz.underlying22 w with⟨d,_⟩|⟨z,l,c,m,n,D,K,d,L,hl,hm,A,_,B⟩
 ·simp at d;obtain⟨rfl,rfl,rfl⟩:=d;exact⟨[],rfl,fun h=>by simp at h⟩
 ·simp at d;obtain⟨rfl,rfl,rfl⟩:=d;have M:len<=m:=by rw[A];split<;>omega
  have key:∀i,i<len->∃s:S4,(W.cell? (z.add (i*4))=some (ae s.1)/\W.cell? (z.add (i*4+1))=some (ae s.2.1)/\W.cell? (z.add (i*4+2))=some (ae s.2.2.1)/\W.cell? (z.add (i*4+3))=some (ae s.2.2.2))/\lg s.2.1/\lg s.2.2.2:=by
   intro i hi;obtain⟨N,g,C⟩:=B i I;rw[vm] at g;obtain⟨_,_,e⟩:=World.cells?_some g;obtain⟨E,a,b,c,rfl,ha,hc⟩:=BO C;refine⟨(E,a,b,c),⟨?_,?_,?_,?_⟩,ha,hc⟩
   ·have:=e 0 I;rw[add_add] at this;simpa using this
   ·have:=e 1 I;rw[add_add] at this;simpa using this
   ·have:=e 2 I;rw[add_add] at this;simpa using this
   ·have:=e 3 I;rw[add_add] at this;simpa using this
  obtain⟨S,k⟩:=choose_lt key;refine⟨(List.range len).map S,V,fun hp=>?_⟩
  simp only [List.length_map,List.length_range] at hp⊢;obtain⟨b,o,F⟩:=z;have h0:=(k 0 hp).1.1;have G:F=none:=by simpa[Addr.add] using World.cell?_spot h0
  subst G;refine⟨b,o,rfl,au W (⟨b,o,none⟩:Addr) (by simpa[Addr.add] using h0),fun i hi=>?_⟩
  obtain⟨⟨k0,k1,p,q⟩,k5⟩:=k i hi;have ea:∀j,(⟨b,o,none⟩:Addr).add j=⟨b,o+j,none⟩:=fun j=>by simp[Addr.add]
  rw[ea] at k0 k1 p q;have J:((List.range len).map S).getD i (0,0,0,0)=S i:=by simp[hi]
  rw[J];exact⟨⟨k0,by rw[Nat.add_assoc];exact k1,by rw[Nat.add_assoc];exact p,by rw[Nat.add_assoc];exact q⟩,k5⟩
open Go.RowKit W
theorem BQ (c a:Int)(w:World):
 Calls prog 22 #[ae c,ae a] w fun e w'=>e=.returned (.agg #[ae c,ae a])/\Below w.heap.size w w':=by
 go_enter func22,ntmps22;go_wp2_with fail;exact aW (v:=.agg #[ae c,ae a]) (by simp[results,results22,go_sem]) rfl ⟨rfl,bK.alloc bJ _⟩
theorem BR (n o:Int)(w:World)(h:n<16\/256<n\/o<0\/1024<o):
 Calls prog 7 #[ae n,ae o] w fun e w'=>e=.returned (.agg #[ae 1,ae (-1)])/\Below w.heap.size w w':=by
 have f:∀(R:Ending->World->Prop),(∀w1,Below (w.alloc (.cells #[.int .i64 0,.int .i64 0] 28)).heap.size (w.alloc (.cells #[.int .i64 0,.int .i64 0] 28)) w1->R (.returned (.agg #[ae 1,ae (-1)])) w1)->Calls prog 22 #[ae 1,ae (-1)] (w.alloc (.cells #[.int .i64 0,.int .i64 0] 28)) R:=by
  intro R g;refine(BQ 1 (-1) _).mono ?_;rintro e w1 ⟨rfl,a⟩
  exact g w1 a
 by_cases i:n<16
 ·go_enter func7,ntmps7;go_wp2_with fail;refine f _ ?_;intro w1 a;obtain⟨c0,c1,hz⟩:=m6 a;obtain⟨_,b⟩:=jL a;have c:=b w.heap.size 0 V;have d:=b w.heap.size 1 V;simp[go_sem] at c d;go_wp2_with fail;exact aW (v:=.agg #[ae 1,ae (-1)]) (by simp[results,results7,go_sem,c0,c1]) rfl ⟨rfl,(((bK.alloc bJ _).trans (a.mono V)).setCell bJ _).setCell bJ _⟩
 by_cases j:256<n
 ·go_enter func7,ntmps7;go_wp2_with fail;refine f _ ?_;intro w1 a;obtain⟨c0,c1,hz⟩:=m6 a;obtain⟨_,b⟩:=jL a;have c:=b w.heap.size 0 V;have d:=b w.heap.size 1 V;simp[go_sem] at c d;go_wp2_with fail;exact aW (v:=.agg #[ae 1,ae (-1)]) (by simp[results,results7,go_sem,c0,c1]) rfl ⟨rfl,(((bK.alloc bJ _).trans (a.mono V)).setCell bJ _).setCell bJ _⟩
 by_cases k:o<0
 ·go_enter func7,ntmps7;go_wp2_with fail;refine f _ ?_;intro w1 a;obtain⟨c0,c1,hz⟩:=m6 a;obtain⟨_,b⟩:=jL a;have c:=b w.heap.size 0 V;have d:=b w.heap.size 1 V;simp[go_sem] at c d;go_wp2_with fail;exact aW (v:=.agg #[ae 1,ae (-1)]) (by simp[results,results7,go_sem,c0,c1]) rfl ⟨rfl,(((bK.alloc bJ _).trans (a.mono V)).setCell bJ _).setCell bJ _⟩
 have l:1024<o:=I;go_enter func7,ntmps7;go_wp2_with fail;refine f _ ?_;intro w1 a;obtain⟨c0,c1,hz⟩:=m6 a;obtain⟨_,b⟩:=jL a;have c:=b w.heap.size 0 V;have d:=b w.heap.size 1 V;simp[go_sem] at c d;go_wp2_with fail;exact aW (v:=.agg #[ae 1,ae (-1)]) (by simp[results,results7,go_sem,c0,c1]) rfl ⟨rfl,(((bK.alloc bJ _).trans (a.mono V)).setCell bJ _).setCell bJ _⟩
end Go.Proofs.YtjpjpjemibgjpaaGreat
