import Derived.Test.YtpkjkjhanlbcoaaGreatJ18
namespace Go.Proofs.YtpkjkjhanlbcoaaGreat
set_option maxRecDepth 100000
set_option maxHeartbeats 8000000
open Tryz
open Go.RowKit W Kp ck
theorem AJ {P:Prop}(h:P:=by
 generalize (ey s.T).1=yn at*;generalize (ey s.T).2=od at*;go_enter func238,ntmps238;go_wp2_with fail;refine P.mono ?_;clear P;rintro e w1 ⟨rfl,hb⟩
 obtain⟨d0,d1⟩:=HC.o w1 hb;have P:=HP.o w1 hb;clear HC hb HP;go_wp2_with fail;refine P.mono ?_;rintro e w2 ⟨F',rfl,hj,ht⟩
 have HJ:=c7 hj ht;go_wp2_with fail;go_ret;exact⟨F',rfl,HJ.o⟩):P:=h
theorem AK {P:Prop}(h:P:=by have l1:=hR2.nE.lt;have l2:=hR2.lt;exact⟨hR2.same ((hb3.block _ (by simp;omega)).trans (aS _ _ _ l1)) ((hb3.block _ (by simp;omega)).trans (aS _ _ _ l2)),b3.trans (hb3.mono b3.size),hlt⟩):P:=h
theorem uK {P:Prop}(h:P:=by rw[World.cell?_drew,aY _ _ _ _ ac];exact h):P:=h
theorem uL {P:Prop}(h:P:=by
 rintro e w' ⟨F',rfl,hj,ht⟩
 exact⟨F',rfl,hj,(cg.of hb).trans ht⟩):P:=h
theorem uM (k:Int)(ad:Option Addr)(n cp:Nat)(hn:n<=100000)(w:az):Calls prog 210 #[.agg #[ak k,.slice ad n cp]] w fun e w'=>e=.returned (ak (1+n))/\Below w.heap.size w w':=by exact kl
theorem AL {w:az}{b9 fw:Nat}(c4:w.cell? (av b9 4)=some (ak fw))(x:Int):Calls prog 203 #[aq b9,ak x] w fun e w'=>e=.returned (.bool (decide (x<fw)))/\w'=w:=by go_wp2;go_ret;exact⟨rfl,rfl⟩
section
variable {b9:Nat}{ch b_:Int}{l:gU}{s:cn}{w:az}
theorem uN (h:dN b9 ch b_ l s w)(ab:∀i,(s.T.getD i t0).2.1.length<=12)(bg:s.T.length<=10000):
 Calls prog 137 #[aq b9] w fun e w'=>e=.returned (.tuple #[ak (ey s.T).1,ak (ey s.T).2])/\Below w.heap.size w w':=by
 rw[IM];obtain⟨_,_,c2,_,c4,_,_,_,a1⟩:=h.cells;obtain⟨w1,cnt,ag,m,gr,sz⟩:=h.g2.mp.range (t:=184) (e:=220) underlying184;have a2:∀i,0<=jm s.T i/\jm s.T i<=13:=fun i=>by
  have:=ab i;unfold jm;split
  ·omega
  ·split
   ·omega
   ·omega
 have a3:∀i,0<=jn s.T i/\jn s.T i<=13:=fun i=>by
  have:=ab i;unfold jn;split
  ·omega
  ·split
   ·omega
   ·omega
 have B:=gM a2 a3 ab;have z:∀f:Nat->Int,(∀i,(s.T.getD i t0).2.2.2=true->f i=0)->eS (gJ (fun x=>(ib s.T l.fm x).isSome) f) s.T.length=0:=fun f ba=>by
  rw[<-uI s.T.length];refine nI _ (fun i hi=>?_)
  unfold gJ;by_cases ha:cz s.T i
  ·exact aK (by dsimp only;rw[jk ⟨aa,by simpa using ha⟩];rfl)
  ·refine(aI (by dsimp only;rw[lR (fun c=>ha (by simpa using c.2))];simp)).trans (ba i ?_)
   cases e:(s.T.getD i t0).2.2.2
   ·exact absurd ⟨hi,e⟩ ha
   ·rfl
 have ai:=z (jm s.T) (fun i e=>by unfold jm;rw[aK e])
 have al:=z (jn s.T) (fun i e=>by unfold jn;rw[aK e])
 have ar:=iT (b8.grown gr b7 (fun j am=>by cases am)) m ai al;have bb:=hide h;go_enter func137,ntmps137;go_wp2
 go_loopw [4,5] (fun y o wr=>∃(left:Int->Bool)(c:Nat),y=ak (eS (gJ left (jm s.T)) s.T.length)/\o=ak (eS (gJ left (jn s.T)) s.T.length)/\gC wr l.mb w.heap.size l.n (ib s.T l.fm) left c/\Below w.heap.size w wr) (fun _ _ wr=>wr.rangeLeft l.mb w.heap.size)
 ·obtain⟨b,r,ai,al⟩:=ar.o;exact⟨_,cnt,by rw[ai],by rw[al],r,b⟩
 ·
   clear ar ag;obtain⟨left,c,rfl,rfl,m,hb⟩:=hrel;have mb:=rF left B.o.1 s.T.length;have nb:=rF left B.o.2.1 s.T.length;rcases m.next 0 with⟨h0,hl,ag⟩|⟨x,v,F,N,aB,S,ag,hR2,hlt,bd,bi,bl⟩
   ·have q:eS (gJ left (jm s.T)) s.T.length=eS (jm s.T) s.T.length:=nI _ (fun i _=>by unfold gJ;rw[hl,aI ae])
    have be:eS (gJ left (jn s.T)) s.T.length=eS (jn s.T) s.T.length:=nI _ (fun i _=>by unfold gJ;rw[hl,aI ae])
    rw[q,be];have d:=hide hb;clear hb m hl;go_wp2;go_ret2;exact⟨rfl,d.o⟩
   ·have an:0<=x/\cz s.T x.toNat:=by
     by_cases c:0<=x/\cz s.T x.toNat
     ·exact c
     ·rw[lR c] at S;cases S
    obtain⟨i,rfl⟩:=Int.eq_ofNat_of_zero_le an.1;have u:cz s.T i:=by simpa using an.2
    rw[jk an] at S;have hv:=(Option.some.inj S).symm;dsimp only [ga,eL] at hv;rw[Int.toNat_natCast] at hv;subst hv;have s1:=uJ left (jm s.T) i s.T.length u.1 aB;have s2:=uJ left (jn s.T) i s.T.length u.1 aB;have bn:=rF (fun y=>left y&&!(y==(i:Int))) B.o.1 s.T.length;have bo:=B.o.2.2 i;have aF:=bb.o.g2.fw i u;have b2:=hb.grown bd hb.size (fun j am=>by cases am;exact aG _)
    have b3:=b2.alloc b2.size (.cells #[.int .i64 (s.T.getD i t0).1,.slice (l.fm i).1 (s.T.getD i t0).2.1.length (l.fm i).2] 220)
    have P:=AL ((b3.cell (p:=av b9 4) a1).trans c4) i;have aR:aA (∀g,Below (F.alloc (.cells #[.int .i64 (s.T.getD i t0).1,.slice (l.fm i).1 (s.T.getD i t0).2.1.length (l.fm i).2] 220)).heap.size (F.alloc (.cells #[.int .i64 (s.T.getD i t0).1,.slice (l.fm i).1 (s.T.getD i t0).2.1.length (l.fm i).2] 220)) g->gC g l.mb w.heap.size l.n (ib s.T l.fm) (fun y=>left y&&!(y==(i:Int))) N/\Below w.heap.size w g/\N<c):=fun g hb3=>by exact AK
    have aV:=hide m.left_eq;have W:aA (∀w,Calls prog 210 #[.agg #[ak (s.T.getD i t0).1,.slice (l.fm i).1 (s.T.getD i t0).2.1.length (l.fm i).2]] w fun e w'=>e=.returned (ak (1+(s.T.getD i t0).2.1.length))/\Below w.heap.size w w'):=fun w=>uM _ _ _ _ aa w;have y1:jm s.T i=if i<l.fw then 0 else 1+((s.T.getD i t0).2.1.length:Int):=by unfold jm;rw[u.2,aF];simp
    have o1:jn s.T i=if i<l.fw then 1+((s.T.getD i t0).2.1.length:Int) else 0:=by unfold jn;rw[u.2,aF];simp
    rw[y1] at s1;rw[o1] at s2;have k:=c7 s1 s2;generalize eS (gJ left (jm s.T)) s.T.length=Y at*;generalize eS (gJ left (jn s.T)) s.T.length=O at*;generalize (s.T.getD i t0).2.1.length=n at*;generalize (s.T.getD i t0).1=kd at*;generalize (l.fm i).1=ad at*;generalize (l.fm i).2=cp at*;by_cases ho:i<l.fw
    ·have q:decide ((i:Int)<(l.fw:Int))=true:=by simp;exact ho
     rw[q] at P;rw[aK ho,aK ho] at k;go_wp2_with fail;refine P.mono ?_;clear P;rintro e g ⟨rfl,rfl⟩
     have a0:=W.o (F.alloc (.cells #[.int .i64 kd,.slice ad n cp] 220))
     go_wp2_with fail;refine a0.mono ?_;clear a0;rintro e ao ⟨rfl,ap⟩
     have d:=hide (aR.o ao ap)
     go_wp2;go_roundw;exact⟨_,N,by rw[k.o.1];simp,by rw[k.o.2],d.o.1,d.o.2.1⟩
     rw[d.o.1.left_eq,aV.o];exact d.o.2.2
    ·have q:decide ((i:Int)<(l.fw:Int))=false:=by simp;omega
     rw[q] at P;rw[aI ho,aI ho] at k;go_wp2_with fail;refine P.mono ?_;rintro e g ⟨rfl,rfl⟩
     go_wp2_with fail;refine(W.o (F.alloc (.cells #[.int .i64 kd,.slice ad n cp] 220))).mono ?_;rintro e ao ⟨rfl,ap⟩
     have d:=hide (aR.o ao ap)
     go_wp2;go_roundw;exact⟨_,N,by rw[k.o.1],by rw[k.o.2];simp,d.o.1,d.o.2.1⟩
     rw[d.o.1.left_eq,aV.o];exact d.o.2.2
end
section
variable {c:Cp}{own:Nat->Nat}{vt:Value}{n1 n2:Nat}{hm:Int->Option Addr×Nat}{st:dA}{w w':az}{is:List Bool}
def kM (T:List cI)(A:List Bool)(i:Nat):Int:=if A.getD i false=true then 1+(T.getD i t0).2.1.length else 0
theorem IN (hg:ic c)(h:cY c own vt n1 n2 hm st w)(F:st.A.length=c.s.T.length):
 Calls prog 235 #[aq c.cp] w fun e w'=>e=.returned (ak (iN c.s.T st.A c.s.T.length))/\Below w.heap.size w w':=by
 rw[AI];have N:(fun i=>if st.A.getD i false=true then 1+((c.s.T.getD i t0).2.1.length:Int) else 0)=kM c.s.T st.A:=rfl;rw[N];obtain⟨_,c1,_,_,_,aF⟩:=h.cells;have aR:=hg.t;obtain⟨w1,cnt,o,d,gr,sz⟩:=h.am.range (t:=184) (e:=220) underlying184;have ab:∀i,0<=kM c.s.T st.A i/\kM c.s.T st.A i<=13:=fun i=>by
  have:=hg.iv.tl i;unfold kM;split
  ·omega
  ·omega
 have z:eS (gJ (fun x=>(e4 c.s.T c.l.fm st.A x).isSome) (kM c.s.T st.A)) c.s.T.length=0:=by
  rw[<-uI c.s.T.length];refine nI _ (fun i hi=>?_)
  have ea:(e4 c.s.T c.l.fm st.A (i:Int)).isSome=st.A.getD i false:=by rw[uC aa,cV,Int.toNat_natCast]
  unfold gJ kM;cases hb:st.A.getD i false
  ·exact(aI (by dsimp only;rw[ea,hb];decide)).trans (aI ae)
  ·exact aK (by dsimp only;rw[ea,hb])
 have p:=gM ab hg.iv.tl F;have S:=gM (b8.grown gr b7 (fun j q=>by cases q)) d z;clear h hg F d gr ab z N;go_enter func235,ntmps235;go_wp2
 go_loopw [3] (fun y wr=>∃(left:Int->Bool)(k:Nat),y=ak (eS (gJ left (kM c.s.T st.A)) c.s.T.length)/\gC wr c.ab w.heap.size n1 (e4 c.s.T c.l.fm st.A) left k/\Below w.heap.size w wr) (fun _ wr=>wr.rangeLeft c.ab w.heap.size)
 ·obtain⟨b,r,an⟩:=S.o;exact⟨_,cnt,by rw[an],r,b⟩
 ·
   clear S o;obtain⟨left,k,rfl,d,hb⟩:=hrel;have mb:=rF left p.o.1 c.s.T.length;rcases d.next 0 with⟨h0,hl,o⟩|⟨x,v,s,u,W,f,o,hR2,hlt,ag,aV,a0⟩
   ·rw[(nI _ (fun i _=>by unfold gJ;rw[hl,aI ae]))];have g:=hide hb;clear hb d hl;go_wp2;go_ret;exact⟨rfl,g.o⟩
   ·have l:0<=x/\st.A.getD x.toNat false=true:=by
     unfold e4 at f;split at f
     ·assumption
     ·cases f
    obtain⟨i,rfl⟩:=Int.eq_ofNat_of_zero_le l.1;have B:st.A.getD i false=true:=by simpa using l.2
    have ao:i<c.s.T.length:=by rw[<-p.o.2.2];exact cw.lt B
    have hv:v=ga c.s.T c.l.fm i:=by unfold e4 at f;rw[aK l] at f;exact(Option.some.inj f).symm
    dsimp only [ga,eL] at hv;subst hv;have s1:=uJ left (kM c.s.T st.A) i c.s.T.length ao W;have a1:=p.o.2.1 i;have b2:=hb.grown ag hb.size (fun j q=>by cases q;exact aG _)
    have b3:=b2.alloc b2.size (.cells #[.int .i64 (c.s.T.getD i t0).1,.slice (c.l.fm i).1 (c.s.T.getD i t0).2.1.length (c.l.fm i).2] 220)
    have ai:aA (∀m,Below (s.alloc (.cells #[.int .i64 (c.s.T.getD i t0).1,.slice (c.l.fm i).1 (c.s.T.getD i t0).2.1.length (c.l.fm i).2] 220)).heap.size (s.alloc (.cells #[.int .i64 (c.s.T.getD i t0).1,.slice (c.l.fm i).1 (c.s.T.getD i t0).2.1.length (c.l.fm i).2] 220)) m->gC m c.ab w.heap.size n1 (e4 c.s.T c.l.fm st.A) (fun y=>left y&&!(y==(i:Int))) u/\Below w.heap.size w m/\u<k):=fun m hb3=>by exact AK
    have ap:=hide d.left_eq;have al:=uM (c.s.T.getD i t0).1 (c.l.fm i).1 (c.s.T.getD i t0).2.1.length (c.l.fm i).2 aa (s.alloc (.cells #[.int .i64 (c.s.T.getD i t0).1,.slice (c.l.fm i).1 (c.s.T.getD i t0).2.1.length (c.l.fm i).2] 220))
    rw[show kM c.s.T st.A i=1+((c.s.T.getD i t0).2.1.length:Int) from by unfold kM;rw[aK B]] at s1;have ar:=hide s1;clear d hb W f hR2 ag l b2 b3 B s1;generalize eS (gJ left (kM c.s.T st.A)) c.s.T.length=Y at*;generalize (c.s.T.getD i t0).2.1.length=n at*;generalize (c.s.T.getD i t0).1=kd at*;generalize (c.l.fm i).1=ad at*;generalize (c.l.fm i).2=cp at*;go_wp2_with fail;refine al.mono ?_;clear al;rintro e aB ⟨rfl,am⟩
    have g:=hide (ai.o aB am)
    clear am ai;go_wp2;go_roundw;exact⟨_,u,by rw[ar.o],g.o.1,g.o.2.1⟩
    rw[g.o.1.left_eq,ap.o];exact g.o.2.2
theorem gn.mark {T:List cI}{wt:List ce}{s:dA}(h:gn T wt is s)(c:eX T wt)(v:Int×Int)(hv:v.1=3->0<=v.2/\cz T v.2.toNat)(d:v.1=3->cw is v.2.toNat):gn T wt is (d_ s v):=
 ⟨h.mi.mark c v hv (fun b X _ hb=>hb _ (d b)),by rw[(nD s v).1,(nD s v).2];exact h.hl,by rw[Am s v (fun b=>by rw[h.mi.len];exact(hv b).2.1),(nD s v).2];exact h.mm⟩
theorem gn.marks {T:List cI}{wt:List ce}(c:eX T wt):∀(l:List (Int×Int))(s:dA),gn T wt is s->(∀v∈l,v.1=3->0<=v.2/\cz T v.2.toNat)->(∀v∈l,v.1=3->cw is v.2.toNat)->gn T wt is (dv s l)
 |[],_,h,_,_=>h
 |v::l,s,h,hv,d=>gn.marks c l (d_ s v) (h.mark c v (hv v ac) (d v ac)) (fun u b=>hv u (aX _ b)) (fun u b=>d u (aX _ b))
end
structure rG (c:Cp)(f:Nat)(b d:Array Value)(sb:Int->Bool):Prop where
 IP:dS f
 ca:∀(x:Int)(w:az),(∀k,k<c.w0.heap.size->w.heap[k]?=c.w0.heap[k]?)->Calls prog f (b.push (ak x)++d) w fun e w'=>e=.returned (.bool (sb x))/\Below w.heap.size w w'
structure AM (c:Cp)(sb:Int->Bool)(is:List Bool):Prop where
 st:∀i:Nat,cz c.s.T i->sb i=true->cw is i
 rt:∀v∈c.s.rs,v.1=3->cw is v.2.toNat
 up:∀i:Nat,cw is i->(cz c.s.T i/\sb i=true)\/∃v∈c.s.rs,v.1=3/\v.2.toNat=i
 rv:∀v∈c.s.rs,v.1=3->0<=v.2/\cz c.s.T v.2.toNat
section
variable {c:Cp}{own own':Nat->Nat}{vt cS:Value}{n1 n2 n1' ee:Nat}{hm hm':Int->Option Addr×Nat}{st:dA}{w w':az}{is:List Bool}{sb:Int->Bool}
theorem IQ {w:az}{b:Nat}{l:List _}(h:w.heap[b]?=some (.cells (ev l).toArray 97 (0,0))):dz w (au b) l:=fun _=>by
 refine⟨b,0,rfl,lt_of_some h,fun i hi=>?_⟩
 obtain⟨c,d⟩:=nZ l i hi;constructor
 ·simp[World.cell?,h];simpa using c
 ·simp[World.cell?,h];simpa using d
theorem IR (hg:ic c)(h:cY c own vt n1 n2 hm st w)(dw:gn c.s.T c.s.wt is st){f:Nat}{b S:Array Value}(hs:rG c f b S sb)(hi:AM c sb is):
 Calls prog 233 #[aq c.cp,.func (.func f) b S] w fun e w'=>∃own' cS n1' ee hm' d,e=.returned (.tuple #[])/\cY c own' cS n1' ee hm' d w'/\eH own w own' w'/\gn c.s.T c.s.wt is d/\d.td=[]/\∀k,cw is k->cw d.A k:=by
 have b3:=hs.IP;unfold dS at b3;obtain⟨c0,_,_,_,_,cg⟩:=h.cells;have gv:=h.gv hg.g;obtain⟨_,_,g2,_,_,_,_,_,ch⟩:=gv.cells;obtain⟨w1,b4,bl,ad,gr,sz⟩:=gv.g2.mp.range (t:=184) (e:=220) underlying184;have bn:=b8.grown gr b7 (fun j ag=>by cases ag)
 have bo:=gM hg hs hi;have aF:=iT ad bn (h.below bn) dw;have an:aA (c.l.mb<c.w0.heap.size/\own w.heap.size=0/\c.w0.heap.size<=w.heap.size):=⟨hg.g.g2.mp.lt,by
  cases e:own w.heap.size
  ·rfl
  ·exact absurd (h.lt w.heap.size (by rw[e];omega)).2 aa,h.sz⟩
 go_enter func233,ntmps233;go_wp2_with fail
 go_loopw [4] (fun _ wr=>∃(left:Int->Bool)(k:Nat)(own':Nat->Nat)(cS:Value)(n1':Nat)(d:dA),aA (gC wr c.l.mb w.heap.size c.l.n (ib c.s.T c.l.fm) left k/\cY c own' cS n1' n2 hm d wr/\eH own w own' wr/\own' w.heap.size=0/\gn c.s.T c.s.wt is d/\∀i:Nat,cz c.s.T i->left i=false->sb i=true->cw d.A i)) (fun _ wr=>wr.rangeLeft c.l.mb w.heap.size)
 ·obtain⟨r,_,g,dw⟩:=aF.o;exact⟨_,b4,own,vt,n1,st,r,g,eH.of aF.o.2.1,an.o.2.1,dw,fun i hi h0 _=>by rw[jk ⟨aa,by simpa using hi⟩] at h0;cases h0⟩
 ·
   obtain⟨left,k,own',cS,n1',d,bp⟩:=hrel;obtain⟨ad,g,t,ho,dw,hd⟩:=bp.o;obtain⟨hg,hs,hi⟩:=bo.o;rcases ad.next 0 with⟨h0,hl,bl⟩|⟨x,v,m,ao,ci,ap,bl,p,b5,b6,cj,ck⟩
   ·
     have gv:=g.gv hg.g;obtain⟨cl,_,_,_,_,_⟩:=g.cells;obtain⟨_,_,_,_,_,_,cm,_,_⟩:=gv.cells;have rl:=gv.g4.rl;have P:=mE hg.g hg.t dw.mi.len g (au c.l.rb) 12 c.s.rs ⟨IQ gv.g4.rt,fun _ z e S=>by
      cases e;have aR:=hg.g.lt c.l.rb (by rw[hg.g.g4.ro];decide)
      have aV:=(g.lt c.l.rb (by dsimp only at S;omega)).1;omega⟩ hi.rv aa
     rw[rl] at P;have b9:aA (∀o B F m,cY c o B F n2 hm (dv d c.s.rs) m->fI own' wr o m->Calls prog 246 #[aq c.cp] m fun e w'=>∃own' cS n1' ee hm' d,e=.returned (.tuple #[])/\cY c own' cS n1' ee hm' d w'/\eH own w own' w'/\gn c.s.T c.s.wt is d/\d.td=[]/\∀k,cw is k->cw d.A k):=fun o B F m g2 a0=>by
      refine(AF hg g2 (dw.marks (s:=d) hg.iv c.s.rs hi.rv hi.rt)).mono ?_;rintro e w' ⟨a1,a2,a3,ba,bb,bd,rfl,g3,t3,sp⟩
      refine⟨a1,a2,a3,ba,bb,bd,rfl,g3,(t.trans a0.tk).trans t3,sp.dw,sp.td,fun i hk=>sp.up i ?_⟩
      rcases hi.up i hk with⟨aR,aV⟩|⟨v,hv,be,e⟩
      ·exact kK _ _ (hd i aR (hl _) aV)
      ·rw[<-e];exact uv d c.s.rs (fun v hv be=>by rw[dw.mi.len];exact(hi.rv v hv be).2.1) v hv be
     clear ad g t dw hd hg hs hi gv hl bp bo an aF rl ho;go_wp2_with fail;refine P.mono ?_;rintro e m ⟨o,B,F,rfl,g2,a0⟩
     have P:=b9.o o B F m g2 a0;go_wp2_with fail;refine P.mono ?_;rintro e l ⟨a1,a2,a3,ba,bb,bd,rfl,q⟩
     have W:=hide q;go_wp2_with fail;go_end0;exact⟨a1,a2,a3,ba,bb,bd,rfl,W.o⟩
   ·have ai:0<=x/\cz c.s.T x.toNat:=by
     by_cases e:0<=x/\cz c.s.T x.toNat
     ·exact e
     ·rw[lR e] at ap;cases ap
    obtain⟨i,rfl⟩:=Int.eq_ofNat_of_zero_le ai.1;have br:cz c.s.T i:=by simpa using ai.2
    have hz:=an.o.2.2;have bg:Fr (fun b=>b=w.heap.size) wr m:=(Fr.refl _ wr).grown b6 (fun j e=>aM (by cases e;rfl))
    have al:cY c own' cS n1' n2 hm d m:=g.keep bg.size (fun b hb=>bg.block b (hb.elim (fun e=>aO e g.sz) (fun e=>(g.lt b e).2)) (fun e=>by
     subst e;rcases hb with e|e
     ·omega
     ·exact e ho))
    have bs:eH own w own' m:=⟨t.fr.trans bg (fun b e=>aL (by rw[e];exact aG _)),t.nw⟩
    have P:=hs.ca i m (fun k hk=>al.ol k hk)
    have ar:=c7 ad.left_eq b5;have bt:aA (∀l,Below m.heap.size m l->sb i=false->gC l c.l.mb w.heap.size c.l.n (ib c.s.T c.l.fm) (fun y=>left y&&!(y==(i:Int))) ao/\cY c own' cS n1' n2 hm d l/\eH own w own' l/\own' w.heap.size=0/\gn c.s.T c.s.wt is d/\∀j:Nat,cz c.s.T j->(left j&&!((j:Int)==(i:Int)))=false->sb j=true->cw d.A j):=fun l n N=>by
     refine⟨p.same (n.block _ p.nE.lt) (n.block _ p.lt),al.below n,bs.trans (eH.of n),ho,dw,fun j ag h0 am=>?_⟩
     by_cases e:j=i
     ·subst e;rw[N] at am;cases am
     ·refine hd j ag ?_ am;rwa [show((j:Int)==(i:Int))=false from by simp;omega,Bool.not_false,Bool.and_true] at h0
    have ca:aA (∀l,Below m.heap.size m l->sb i=true->Calls prog 245 #[aq c.cp,.slice (au l.heap.size) 1 1] (l.alloc (.cells #[.int .i64 3,.int .i64 i] 97)) fun e w'=>∃o B F,e=.returned (.tuple #[])/\
     gC w' c.l.mb w.heap.size c.l.n (ib c.s.T c.l.fm) (fun y=>left y&&!(y==(i:Int))) ao/\cY c o B F n2 hm (d_ d (3,i)) w'/\eH own w o w'/\o w.heap.size=0/\gn c.s.T c.s.wt is (d_ d (3,i))/\∀j:Nat,cz c.s.T j->(left j&&!((j:Int)==(i:Int)))=false->sb j=true->cw (d_ d (3,i)).A j):=fun l n N=>by
     have ab:=n.alloc n.size (.cells #[.int .i64 3,.int .i64 i] 97)
     refine(mE hg.g hg.t dw.mi.len (al.below ab) (au l.heap.size) 1 [(3,(i:Int))] (jN.one (al.below n) (3,(i:Int))) (fun u bx _=>by simp at bx;rw[bx];exact ai) ac).mono ?_;rintro e w' ⟨o,B,F,rfl,g5,aB⟩
     have bi:=ab.size;refine⟨o,B,F,rfl,p.same ((aB.fr.block _ (aO p.nE.lt bi) (fun S=>?_)).trans (ab.block _ p.nE.lt)) ((aB.fr.block _ (aO p.lt bi) (fun S=>?_)).trans (ab.block _ p.lt)),g5,(bs.trans (eH.of ab)).trans aB.tk,?_,dw.mark hg.iv (3,(i:Int)) (fun _=>ai) (fun _=>by simpa using hi.st i br N),fun j ag h0 am=>?_⟩
     ·have aR:=(al.lt c.l.mb aa).1;have aV:=an.o.1;omega
     ·rw[ho] at S;omega
     ·rw[aB.old _ (aO p.lt bi)];exact ho
     ·by_cases e:j=i
      ·subst e;exact uu d (3,(j:Int)) rfl (by rw[dw.mi.len];simpa using br.1)
      ·refine pL _ _ (hd j ag ?_ am)
       rwa [show((j:Int)==(i:Int))=false from by simp;omega,Bool.not_false,Bool.and_true] at h0
    obtain⟨b0,b1,b2,vc,cb⟩:∃b0 b1 b2 vc,v=.agg #[ak b0,.slice b1 b2 vc]:=by rw[jk ai] at ap;exact⟨_,_,_,_,(Option.some.inj ap).symm⟩
    subst cb;cases N:sb i
    ·rw[N] at P;have cn:=bt;go_wp2_with fail;refine P.mono ?_;rintro e l ⟨rfl,n⟩
     have W:=hide (bt.o l n N)
     go_wp2_with fail;go_roundw;exact⟨_,ao,own',cS,n1',d,W⟩
     rw[W.o.1.left_eq,ar.o.1];exact ar.o.2
    ·rw[N] at P;go_wp2_with fail;refine P.mono ?_;rintro e l ⟨rfl,n⟩
     go_wp2_with fail;refine(oG i l).mono ?_;rintro e cc ⟨rfl,ab⟩
     go_wp2_with fail;refine(ca.o cc (n.trans (ab.mono n.size)) N).mono ?_;rintro e co ⟨cd,ce,cf,rfl,q⟩
     have W:=hide q;go_wp2_with fail;go_roundw;exact⟨_,ao,cd,ce,cf,_,W⟩
     rw[W.o.1.left_eq,ar.o.1];exact ar.o.2
end
def jy (c:Cp)(bx:Nat):dx (List Bool) where
 J F A w:=∃b st,(rB c).J b st w/\st.A=A/\st.td=[]/\gn c.s.T c.s.wt A st/\w.heap[bx]?=some (.cells #[aq c.cp] 249 (0,0))/\¬b bx/\∀k,F k↔b k\/k=bx
 lt:=by
  rintro F A w ⟨b,st,h,_,_,_,hb,_,d⟩ k hk;rcases(d k).1 hk with e|e
  ·exact(rB c).lt h k e
  ·rw[e];exact lt_of_some hb
 keep:=by rintro F A w w' ⟨b,st,h,f,g,dw,hb,hn,d⟩ hs hk;exact⟨b,st,(rB c).keep h hs (fun k i=>hk k ((d k).2 (aM i))),f,g,dw,(hk bx ((d bx).2 (aL rfl))).trans hb,hn,d⟩
def mG (c:Cp)(x:Int):Prop:=0<=x/\cz c.s.T x.toNat
theorem IS:dS 247:=gw func247 ah rfl
theorem IT:dS 248:=gw func248 ah rfl
theorem IU:dS 249:=gw func249 ah rfl
section
variable {c:Cp}{own:Nat->Nat}{vt:Value}{n1 n2:Nat}{hm:Int->Option Addr×Nat}{st:dA}{w w':az}{bx:Nat}{g:List Bool->List Bool}
theorem IV (hg:ic c):kq (jy c bx) (mG c) 247 #[aq c.cp] #[] cV:=by
 rintro F A w x ⟨b,d⟩ ⟨e,st,⟨own,vt,n1,n2,hm,h,_⟩,rfl,_⟩
 exact Il h x b (by have:=d.1;have:=hg.t;omega)
theorem IW:lz (jy c bx) (mG c) 249 #[] #[] (fun _ x=>x):=by rintro F A w x _ _;go_wp2;go_ret;exact⟨rfl,aH _ _⟩
theorem IX (l:dL c.s.T c.s.wt g){A:List Bool}{st b:dA}(d:gn c.s.T c.s.wt A st)(f:st.A=A){x:Int}(i:mG c x)(sp:AD c.s.T c.s.wt (A.set x.toNat true) (d_ st (3,x)) b):b.A=fG g A x/\gn c.s.T c.s.wt (fG g A x) b:=by
 have hl:A.length=c.s.T.length:=by rw[<-f];exact d.mi.len
 have hi:∀k,cw (A.set x.toNat true) k↔x.toNat=k\/cw A k:=fun k=>by
  unfold cw;rw[nA _ _ _ (by rw[hl];exact i.2.1)];split
  ·exact⟨fun _=>aM ‹_›,fun _=>rfl⟩
  ·exact⟨aL,fun c=>c.resolve_left ‹_›⟩
 have hd:=sp.dw.mi.done sp.td (by rw[bf];exact hl) (fun k hk=>sp.up k (by
  rcases(hi k).1 hk with e|e
  ·rw[<-e];exact uu st (3,x) rfl (by rw[d.mi.len];exact i.2.1)
  ·exact pL _ _ (by rw[f];exact e)))
 have m:=l (A.set x.toNat true) (by rw[bf];exact hl) (fun k hk=>by
  rcases(hi k).1 hk with e|e
  ·rw[<-e];exact i.2
  ·exact d.mi.al k (by rw[f];exact e))
 have j:b.A=fG g A x:=hd.uniq m;exact⟨j,⟨sp.dw.mi.base (fun k hk=>by rw[<-j];exact hk),sp.dw.hl,sp.dw.mm⟩⟩
theorem IY (hg:ic c)(ab:dL c.s.T c.s.wt g):n7 (jy c bx) (mG c) 248 #[] #[aq bx] (fun A x=>(x,fG g A x)):=by
 rintro F A w x i ⟨ad,st,⟨own,vt,n1,n2,hm,h,l⟩,m,a0,dw,hb,hn,n⟩
 show Calls prog 248 #[ak x,aq bx] w _;have ag:own bx=0:=by
  cases e:own bx
  ·rfl
  ·exact absurd ((l bx).2 (aL (by rw[e];omega))) hn
 have lb:=lt_of_some hb;have a1:_:=fun d=>hn ((l bx).2 (aM d))
 have v:w.cell? (av bx 0)=some (aq c.cp):=aD hb
 have ai:gn c.s.T c.s.wt (A.set x.toNat true) (d_ st (3,x)):=by
  have hl:A.length=c.s.T.length:=by rw[<-m];exact dw.mi.len
  refine gn.mark ⟨dw.mi.base (fun k hk=>Al (by rw[<-m];exact hk)),dw.hl,dw.mm⟩ hg.iv (3,x) (fun _=>i) (fun _=>?_)
  unfold cw;rw[nA _ _ _ (by rw[hl];exact i.2.1),aK rfl]
 have al:aA (∀w1,Below w.heap.size w w1->Calls prog 245 #[aq c.cp,.slice (au w1.heap.size) 1 1] (w1.alloc (.cells #[.int .i64 3,.int .i64 x] 97)) fun e w'=>e=.returned (.tuple #[])/\w'.cell? (av bx 0)=some (aq c.cp)/\
  aA (Calls prog 246 #[aq c.cp] w' fun e o=>e=.returned (.tuple #[])/\∃j,(jy c bx).J j (fG g A x) o/\Fr F w o/\∀k,j k->F k\/w.heap.size<=k)):=fun w1 f=>by
  have B:=f.alloc f.size (.cells #[.int .i64 3,.int .i64 x] 97)
  refine(mE hg.g hg.t dw.mi.len (h.below B) (au w1.heap.size) 1 [(3,x)] (jN.one (h.below f) (3,x)) (fun u N _=>by simp at N;rw[N];exact i) ac).mono ?_;rintro e w' ⟨a2,a3,ba,rfl,g5,am⟩
  have S:=(fI.of B (fun b hb=>(h.lt b hb).2)).trans am;have an:=S.fr.block bx lb (fun d=>by omega)
  refine⟨rfl,(aQ (a:=⟨bx,0,none⟩) an).trans v,?_⟩
  refine(AF hg g5 ai).mono ?_;rintro e o ⟨bb,bd,be,bg,bi,ao,rfl,g3,t3,sp⟩
  obtain⟨q1,s⟩:=IX ab dw m i sp;have tk:=S.tk.trans t3;obtain⟨W,ap,t⟩:=Ir (F:=ad) g3 l tk.fr tk.nw;have ar:=tk.fr.block bx lb (fun d=>d ag)
  have aB:_:=fun d=>(t.sub bx d).elim hn (fun d=>by omega)
  exact⟨rfl,fun k=>W k\/k=bx,⟨W,ao,ap,q1,sp.td,s,ar.trans hb,aB,fun _=>Iff.rfl⟩,t.fr.mono (fun k d=>(n k).2 (aM d)),fun k d=>d.elim (fun d=>(t.sub k d).imp (fun d=>(n k).2 (aM d)) id) (fun d=>aM ((n k).2 (aL d)))⟩
 go_enter func248,ntmps248;go_wp2_with fail
 go_region_held3 (fun w'=>w'.cell? (av bx 0)=some (aq c.cp)) (go_keep)
  (first
    |(go_at_call 239;refine(oG x _).mono ?_;rintro e w1 ⟨rfl,f⟩;have b1:=(f.cell (p:=av bx 0) lb).trans v;have aF:=hide ((aH _ w).drew.trans (f.mono b7)))
    |(go_at_call 245;refine(al.o w1 aF.o).mono ?_;rintro e bl ⟨rfl,b2,aR⟩))
 all_goals
  have P:=aR.o;go_wp2_with fail;refine P.mono ?_;rintro e bn ⟨rfl,q⟩
  have aV:=hide q;go_wp2_with fail;go_ret;obtain⟨j,q1,s,q3⟩:=aV.o;exact⟨j,rfl,q1,s,q3⟩
end
structure nJ {σ:Type}(lk:σ->ce->Bool×σ)(g:List Bool->List Bool)(pe:ce->ce)(R:List ce)(ρ:σ->List Bool->List ce->Prop):Prop where
 no:∀t L C e,ρ t L C->e∈R->cV L e.1=false->lk t (pe e)=(false,t)
 yes:∀t L C e,ρ t L C->e∈R->cV L e.1=true->(lk t (pe e)).1=true/\ρ (lk t (pe e)).2 (fG g L e.2) (C++[e])
section
variable {σ:Type}{lk:σ->ce->Bool×σ}{g:List Bool->List Bool}{pe:ce->ce}{R:List ce}{ρ:σ->List Bool->List ce->Prop}
theorem nJ.pass (h:nJ lk g pe R ρ):∀(l:List ce)(t:σ)(L:List Bool)(C D A:List ce),(∀e∈l,e∈R)->ρ t L C->
 ρ ((l.map pe).foldl (eB lk) (A,D.map pe,t)).2.2 (ck.pass cV (fG g) l L C D).1 (ck.pass cV (fG g) l L C D).2.1/\((l.map pe).foldl (eB lk) (A,D.map pe,t)).2.1=(ck.pass cV (fG g) l L C D).2.2.map pe/\
 ((l.map pe).foldl (eB lk) (A,D.map pe,t)).1.length+C.length=A.length+(ck.pass cV (fG g) l L C D).2.1.length
 |[],t,L,C,D,A,_,hr=>⟨hr,rfl,rfl⟩
 |e::l,t,L,C,D,A,hl,hr=>by
  have he:=hl e ac;rw[List.map_cons,a9];cases c:cV L e.1
  ·have b:eB lk (A,D.map pe,t) (pe e)=(A,(D++[e]).map pe,t):=by unfold eB;rw[h.no t L C e hr he c,List.map_append];rfl
   rw[b,ck.pass,c,aI ac];exact h.pass l t L C (D++[e]) A (fun x d=>hl x (aX _ d)) hr
  ·obtain⟨y1,f⟩:=h.yes t L C e hr he c;have b:eB lk (A,D.map pe,t) (pe e)=(A++[pe e],D.map pe,(lk t (pe e)).2):=by unfold eB;rw[aK y1]
   rw[b,ck.pass,c,aK rfl];obtain⟨i,j,k⟩:=h.pass l _ _ _ D _ (fun x d=>hl x (aX _ d)) f;refine⟨i,j,?_⟩
   simp only [List.length_append,List.length_cons,List.length_nil] at k;omega
theorem uO {σ:Type}(is:σ->Int->Bool)(kp:σ->Int->σ)(e:ce):∀(l:List ce)(s:σ)(C D:List ce),e∈(ck.pass is kp l s C D).2.2->e∈D\/e∈l
 |[],_,_,_,h=>aM h
 |x::l,s,C,D,h=>by
  rw[ck.pass] at h;split at h
  ·exact(uO is kp e l _ _ _ h).imp id (aX _)
  ·rcases uO is kp e l _ _ _ h with b|b
   ·rcases List.mem_append.1 b with b|b
    ·exact aM b
    ·exact aL (by rw[List.mem_singleton.1 b];simp)
   ·exact aL (aX _ b)
theorem AN {σ:Type}(is:σ->Int->Bool)(kp:σ->Int->σ)(l:List ce)(s:σ)(C:List ce)(e:ce)(h:e∈(ck.pass is kp l s C []).2.2):e∈l:=
 (uO is kp e l s C [] h).resolve_left ac
theorem nJ.turns (h:nJ lk g pe R ρ):∀(n:Nat)(D:List ce)(t:σ)(L:List Bool)(C:List ce),(∀e∈D,e∈R)->ρ t L C->
 ρ (eK lk n t (D.map pe)).1 (ck.turns cV (fG g) n D L C).1 (ck.turns cV (fG g) n D L C).2.1/\(eK lk n t (D.map pe)).2=(ck.turns cV (fG g) n D L C).2.2.map pe
 |0,D,t,L,C,_,hr=>⟨hr,rfl⟩
 |n+1,D,t,L,C,f,hr=>by
  obtain⟨b,d,i⟩:=h.pass D t L C [] [] f hr;have b:=b;have d:(pts lk t (D.map pe)).2.1=(ck.pass cV (fG g) D L C []).2.2.map pe:=d;have i:(pts lk t (D.map pe)).1.length+C.length=0+(ck.pass cV (fG g) D L C []).2.1.length:=i;by_cases c:(pts lk t (D.map pe)).1.length=0
  ·rw[l4 _ _ _ _ c,Cb aa];exact⟨b,d⟩
  ·rw[l5 _ _ _ _ c,Ca aa,d];exact h.turns n _ _ _ _ (fun e he=>f e (AN _ _ D L C e he)) b
end
theorem rH {d:Type}(lk:d->ce->Bool×d):∀(n k:Nat)(t:d)(b:List ce),b.length<n->b.length<k->eK lk n t b=eK lk k t b
 |0,_,_,_,h,_=>absurd h aa
 |_+1,0,_,_,_,h=>absurd h aa
 |n+1,k+1,t,b,e,f=>by
  have hl:=oV lk t b;by_cases c:(pts lk t b).1.length=0
  ·rw[l4 _ _ _ _ c,l4 _ _ _ _ c]
  ·rw[l5 _ _ _ _ c,l5 _ _ _ _ c];exact rH lk n k _ _ aa aa
theorem lS {b d:Type}(f:b->d)(p:d->Bool)(q:b->Bool):∀l:List b,(∀x∈l,p (f x)=q x)->(l.map f).filter p=(l.filter q).map f
 |[],_=>rfl
 |x::l,h=>by
  have e:=lS f p q l (fun y hy=>h y (aX _ hy))
  have g:=h x ac;rw[List.map_cons];cases c:q x
  ·rw[List.filter_cons_of_neg (by rw[g,c];simp),List.filter_cons_of_neg (by rw[c];simp),e]
  ·rw[List.filter_cons_of_pos (by rw[g,c]),List.filter_cons_of_pos c,List.map_cons,e]
section
variable {c:Cp}{bx p:Nat}{vr:Value}{g:List Bool->List Bool}{A:List Bool}{q r:List ce}
abbrev nK (s:List Bool×List ce)(x:Int):Bool:=cV s.1 x
abbrev nL (g:List Bool->List Bool)(s:List Bool×List ce)(x:Int):Int×(List Bool×List ce):=(x,(fG g s.1 x,s.2))
abbrev uP (_:List Bool×List ce)(x:Int):Int:=x
def fY (g:List Bool->List Bool)(A:List Bool)(r:List ce):List Bool×List ce×List ce:=turns cV (fG g) (r.length+1) (r.filter (fun e=>!cV A e.2)) A []
theorem IZ (q:List ce):nJ (cm (df (jy c bx) p vr) nK (nL g)) g id r (fun t L C=>t=(L,q++C)) where
 no:=by rintro t L C e rfl _ h;exact m4 h
 yes:=by
  rintro t L C e rfl _ h;have b:=m5 (o:=df (jy c bx) p vr) (is:=nK) (kp:=nL g) (s:=(L,q++C)) h;refine⟨by rw[id,b],?_⟩
  rw[id,b];show(fG g L e.2,(q++C)++[(e.1,e.2)])=_;rw[bw]
theorem rI:fE (df (jy c bx) p vr) nK (nL g) (A,q) r=((fY g A r).1,q++(fY g A r).2.1):=by have h:=((IZ (c:=c) (bx:=bx) (p:=p) (vr:=vr) (g:=g) q).turns (r.length+1) (r.filter (fun e=>!cV A e.2)) (A,q) A [] (fun e he=>(List.mem_filter.1 he).1) (by simp_all)).1;rw[List.map_id] at h;refine Eq.trans ?_ h;show(eK _ ((r.filter (fun e=>!cV A e.2)).length+1) (A,q) (r.filter (fun e=>!cV A e.2))).1=_;have hl:=bA (fun e:ce=>!cV A e.2) r;rw[rH (cm (df (jy c bx) p vr) nK (nL g)) _ (r.length+1) _ _ (Nat.lt_succ_self _) aa]
theorem I0:eV (df (jy c bx) p vr) nK (nL g) uP (A,q) r=r.filter (fun e=>cV A e.2&&cV (fY g A r).1 e.1):=by
 unfold eV;rw[rI,List.filter_filter,List.map_id'']
 ·congr 1
  funext e
  rw[Bool.and_comm]
 ·exact fun _=>rfl
theorem I1:eW (df (jy c bx) p vr) nK (nL g) uP (A,q) r=(q++(fY g A r).2.1).filter (fun e=>cV (fY g A r).1 e.1):=by unfold eW;rw[rI];rw[List.map_id'' (fun _=>rfl)];rfl
theorem I2 (e:ce)(h:e∈(fY g A r).2.1):e∈r:=by have b:=vW (is:=cV) (kp:=fG g) e (r.length+1) (r.filter (fun e=>!cV A e.2)) A [];have c:=List.count_pos_iff.2 h;unfold fY at c;rw[List.count_nil] at b;have d:0<(r.filter (fun e=>!cV A e.2)).count e:=aa;exact(List.mem_filter.1 (List.count_pos_iff.1 d)).1
end
section
variable {c:Cp}{own own':Nat->Nat}{vt cS:Value}{n1 n2 n1' ee:Nat}{hm hm':Int->Option Addr×Nat}{st:dA}{w w':az}{g:List Bool->List Bool}
theorem I3 (hg:ic c)(ai:dL c.s.T c.s.wt g)(hv:fQ c.s)(h:cY c own vt n1 n2 hm st w)(dw:gn c.s.T c.s.wt st.A st)(al:st.td=[]):
 Calls prog 234 #[aq c.cp] w fun e w'=>∃own' cS n1' ee hm' f p a1 k1 a2 i,e=.returned (aq p)/\cY c own' cS n1' ee hm' f w'/\f.A=(fY g st.A c.s.rg).1/\f.td=[]/\gn c.s.T c.s.wt f.A f/\eH own w own' w'/\
  fF w' p a1 k1 a2 i (c.s.rg.filter (fun e=>cV st.A e.2&&cV (fY g st.A c.s.rg).1 e.1)) ((c.s.wt++(fY g st.A c.s.rg).2.1).filter (fun e=>cV (fY g st.A c.s.rg).1 e.1))/\
  (w.heap.size<=p/\own' p=0)/\(∀k,some k=(Value.slice a1 (c.s.rg.filter (fun e=>cV st.A e.2&&cV (fY g st.A c.s.rg).1 e.1)).length k1).ownBlock->w.heap.size<=k/\own' k=0/\some k≠(Value.slice a2 ((c.s.wt++(fY g st.A c.s.rg).2.1).filter (fun e=>cV (fY g st.A c.s.rg).1 e.1)).length i).ownBlock)/\
  (∀k,some k=(Value.slice a2 ((c.s.wt++(fY g st.A c.s.rg).2.1).filter (fun e=>cV (fY g st.A c.s.rg).1 e.1)).length i).ownBlock->w.heap.size<=k/\own' k=0):=by
 have b1:=aw w (.cells #[.pointer (some ⟨c.cp,0,none⟩)] 249)
 obtain⟨c0,_,_,_,_,bx⟩:=h.cells;have gv:=h.gv hg.g;obtain⟨_,_,_,_,_,g5,_,_,b0⟩:=gv.cells;have P:=za _ c.l.bp c.l.a0 c.l.a1 c.l.k0 c.l.k1 c.s.rg c.s.wt ((h.below b1).gv hg.g).g3.sd (aU hv.gl ae) (aU hv.wl ae)
 have am:own w.heap.size=0:=by
  cases e:own w.heap.size
  ·rfl
  ·exact absurd (h.lt w.heap.size (by rw[e];omega)).2 aa
 have N:aA (∀w1 p u k0 b1 k1,Below w.heap.size w w1->w1.heap[w.heap.size]?=some (.cells #[aq c.cp] 249 (0,0))->w.heap.size+1<=p->fF w1 p u k0 b1 k1 c.s.rg c.s.wt->(∀z,u=some z->w.heap.size+1<=z.block)->(∀z,b1=some z->w.heap.size+1<=z.block)->(∀k,some k=(Value.slice u c.s.rg.length k0).ownBlock->some k≠(Value.slice b1 c.s.wt.length k1).ownBlock)->
  Calls prog 78 #[aq p,.agg #[.func (.func 247) #[aq c.cp] #[],.func (.func 248) #[] #[aq w.heap.size],.func (.func 249) #[] #[]]] w1 fun e w'=>∃own' cS n1' ee hm' f a1 k1 a2 i,e=.returned (.tuple #[])/\cY c own' cS n1' ee hm' f w'/\f.A=(fY g st.A c.s.rg).1/\f.td=[]/\gn c.s.T c.s.wt f.A f/\eH own w own' w'/\
   fF w' p a1 k1 a2 i (c.s.rg.filter (fun e=>cV st.A e.2&&cV (fY g st.A c.s.rg).1 e.1)) ((c.s.wt++(fY g st.A c.s.rg).2.1).filter (fun e=>cV (fY g st.A c.s.rg).1 e.1))/\
   (w.heap.size<=p/\own' p=0)/\(∀k,some k=(Value.slice a1 (c.s.rg.filter (fun e=>cV st.A e.2&&cV (fY g st.A c.s.rg).1 e.1)).length k1).ownBlock->w.heap.size<=k/\own' k=0/\some k≠(Value.slice a2 ((c.s.wt++(fY g st.A c.s.rg).2.1).filter (fun e=>cV (fY g st.A c.s.rg).1 e.1)).length i).ownBlock)/\
   (∀k,some k=(Value.slice a2 ((c.s.wt++(fY g st.A c.s.rg).2.1).filter (fun e=>cV (fY g st.A c.s.rg).1 e.1)).length i).ownBlock->w.heap.size<=k/\own' k=0)):=by
  intro w1 p s k0 n k1 hb o hp l b2 an b3;have v:∀k,((k<c.w0.heap.size\/own k≠0)\/k=w.heap.size)->k<w.heap.size+1:=fun k hk=>by
   have hz:=h.sz;rcases hk with(d|d)|d
   ·omega
   ·have:=(h.lt k d).2;omega
   ·omega
  have nq:∀k,some k=(Value.slice n c.s.wt.length k1).ownBlock->w.heap.size+1<=k:=fun k e=>by
   cases n with
   |none=>cases e
   |some z=>cases e;exact an z rfl
  have ao:(jy c w.heap.size).J (fun k=>(k<c.w0.heap.size\/own k≠0)\/k=w.heap.size) st.A w1:=⟨fun k=>k<c.w0.heap.size\/own k≠0,st,⟨own,vt,n1,n2,hm,h.below hb,fun _=>Iff.rfl⟩,rfl,al,dw,o,fun d=>by
   have hz:=h.sz;rcases d with d|d
   ·omega
   ·exact d am,fun _=>Iff.rfl⟩
  have ap:(df (jy c w.heap.size) p (.slice s c.s.rg.length k0)).J (fun k=>((k<c.w0.heap.size\/own k≠0)\/k=w.heap.size)\/k=p\/some k=(Value.slice n c.s.wt.length k1).ownBlock) (st.A,c.s.wt) w1:=⟨_,n,k1,ao,l.blk,l.q0,fun k d=>aM d,aL (aM rfl),fun d=>by have:=v p d;omega,fun k e=>⟨aL (aL e),fun d=>by have m:=v k d;have ar:=nq k e;omega⟩,fun k d=>by
   have hz:=hb.size;have b4:=lt_of_some o;rcases d with d|d|d
   ·have:=v k d;omega
   ·rw[d];exact lt_of_some l.blk
   ·exact(cu l.q0 k d).2⟩
  have S:∀e∈c.s.rg,mG c e.1/\mG c e.2:=fun e he=>⟨(hv.gv e he).1,(hv.gv e he).2⟩
  have P:=ql (df (jy c w.heap.size) p (.slice s c.s.rg.length k0)) (mG c) ⟨247,#[aq c.cp],#[]⟩ ⟨248,#[],#[aq w.heap.size]⟩ ⟨249,#[],#[]⟩ nK (nL g) uP
   (qm (jy c w.heap.size) p _ (mG c) _ _ _ cV (fun A x=>(x,fG g A x)) (fun _ x=>x) IS IT IU (IV hg) (IY hg ai) IW) c.s.rg s k0 rfl (aU hv.gl ae) S _ (st.A,c.s.wt) w1 (by
     rw[rI];intro e he;rcases List.mem_append.1 he with he|he
     ·exact⟨hv.wg e he,hg.iv.wv e he⟩
     ·exact S e (I2 e he)) (by have m:=hv.gl;have ar:=hv.wl;show c.s.wt.length+_<=_;omega) ap (hZ l.r0)
  rw[I0,I1,rI] at P;refine P.mono ?_;rintro e w' ⟨a1,aB,a2,aF,W,b5,rfl,⟨aR,b6,b9,⟨ca,f,⟨own',cS,n1',ee,hm',aV,a0⟩,ab,a3,ba,cb,cc,bb⟩,_,_,bd,_,np,_,_⟩,same,be,bg,ad,ag,fr,bi,bl,bn,bo⟩
  have t:∀b,b<c.w0.heap.size\/own' b≠0->W b/\b≠p:=fun b j=>by
   have m:aR b:=(bb b).2 (aM ((a0 b).2 j))
   exact⟨bd b m,fun e=>np (by rw[<-e];exact m)⟩
  have B:cY c own' cS n1' ee hm' f w':=aV.keep be (fun b j=>same b (t b j).1 (t b j).2)
  have z0:∀b,¬W b->own' b=0:=fun b j=>by
   cases e:own' b
   ·rfl
   ·exact absurd (t b (aL (by rw[e];omega))).1 j
  have bp:own' p=0:=by
   cases e:own' p
   ·rfl
   ·exact absurd rfl (t p (aL (by rw[e];omega))).2
  have br:=hb.size;have tk:eH own w own' w':=by
   refine⟨⟨fr.os.trans hb.os,fr.tape.trans hb.tape,fr.output.trans hb.output,aU br fr.size,fun k hk hn=>?_⟩,fun b j=>?_⟩
   ·by_cases F:k<c.w0.heap.size
    ·exact(B.ol k F).trans (h.ol k F).symm
    ·refine(fr.block k aa (fun d=>?_)).trans (hb.block k hk)
     rcases d with((d|d)|d)|d|d
     ·exact F d
     ·exact hn d
     ·omega
     ·omega
     ·have:=nq k d;omega
   ·rcases bi b (t b (aL j)).1 with d|d
    ·rcases d with((d|d)|d)|d|d
     ·have:=(B.lt b j).1;omega
     ·exact aM d
     ·exact aL aa
     ·exact aL aa
     ·have:=nq b d;exact aL aa
    ·exact aL aa
  refine⟨own',cS,n1',ee,hm',f,a1,aB,a2,aF,rfl,B,ab,a3,by rw[ab];exact ba,tk,⟨bg,e8 ad (fun _ _=>a4 _),e8 ag (fun _ _=>a4 _)⟩,⟨aa,bp⟩,fun k e=>⟨?_,z0 k (bl k e),bo k e⟩,fun k e=>⟨?_,z0 k (bn k e)⟩⟩
  ·have:=(cu ad k e).1;omega
  ·have:=(cu ag k e).1;omega
 generalize (c.s.rg.filter (fun e=>cV st.A e.2&&cV (fY g st.A c.s.rg).1 e.1))=cd at*;generalize ((c.s.wt++(fY g st.A c.s.rg).2.1).filter (fun e=>cV (fY g st.A c.s.rg).1 e.1))=ce at*;go_enter func234,ntmps234;go_wp2_with fail;refine P.mono ?_;rintro e w1 ⟨p,s,k0,n,k1,rfl,hp,l,h0,m,hn,hb⟩
 have o:=(hb.block w.heap.size ac).trans (aP w (.cells #[.pointer (some ⟨c.cp,0,none⟩)] 249))
 have hz:(w.alloc (.cells #[.pointer (some ⟨c.cp,0,none⟩)] 249)).heap.size=w.heap.size+1:=ac;rw[hz] at hp h0 m;have cf:w1.cell? (av w.heap.size 0)=some (aq c.cp):=aD o
 have P:=N.o w1 p s k0 n k1 (b1.trans (hb.mono b1.size)) o hp l h0 m hn;clear hb l h0 m hn o b1 N;go_wp2_with fail;refine P.mono ?_;rintro e cg ⟨own',cS,n1',ee,hm',f,a1,bs,a2,i,rfl,q⟩
 have bt:aA (_):=q;go_wp2_with fail;go_ret;exact⟨own',cS,n1',ee,hm',f,p,a1,bs,a2,i,rfl,bt.o⟩
end
section
variable {T:List cI}{A:List Bool}{fm:Fm}
theorem AO (i:Nat):(gj A T T.length).getD i t0=if i<T.length then fH A i (T.getD i t0) else t0:=by
 by_cases hi:i<T.length
 ·rw[rh A T T.length i b7 hi,aK hi,aK hi]
 ·rw[aI hi,aJ,List.getElem?_eq_none (by rw[jK];omega)];rfl
theorem pT (c:gH T A)(i:Nat):cz (gj A T T.length) i↔cw A i:=by
 unfold cz;rw[jK,AO];constructor
 ·rintro⟨d,b⟩
  rw[aK d] at b;unfold fH at b;split at b
  ·assumption
  ·cases b
 ·intro h;have hi:=c.al i h;refine⟨hi.1,?_⟩
  rw[aK hi.1];unfold fH;rw[aK (show A.getD i false=true from h)];exact hi.2
theorem rJ (b:gH T A){i:Nat}(h:cw A i):(gj A T T.length).getD i t0=((T.getD i t0).1,i0 A (T.getD i t0),true,(T.getD i t0).2.2.2):=by rw[AO,aK (b.al i h).1];unfold fH;rw[aK (show A.getD i false=true from h)];rfl
theorem uQ (hB:pR T A){i:Nat}(h:cw A i):(i0 A (T.getD i t0)).length=(T.getD i t0).2.1.length:=by
 unfold i0;split
 ·rename_i e;rw[hB.l2 i h (aL e.1)];rfl
 ·split
  ·rename_i e;rw[hB.l2 i h (aM e.1)];rfl
  ·rfl
theorem I4 (b:gH T A)(hB:pR T A):ib (gj A T T.length) fm=e4 T fm A:=by
 funext x
 by_cases h:0<=x/\cw A x.toNat
 ·rw[jk ⟨h.1,(pT b _).2 h.2⟩];unfold e4;rw[aK (show 0<=x/\A.getD x.toNat false=true from h)];dsimp only [ga,eL];rw[rJ b h.2];rw[uQ hB h.2]
 ·rw[lR (fun c=>h ⟨c.1,(pT b _).1 c.2⟩)];unfold e4;rw[aI (show¬(0<=x/\A.getD x.toNat false=true) from h)]
end
section
variable {b9:Nat}{ch b_:Int}{l:gU}{s:cn}{w w':az}{A:List Bool}{ab p n1:Nat}{a1 a2:Option Addr}{k1 k2:Nat}{r q:List ce}
theorem dN.cut (h:dN b9 ch b_ l s w)(d:gH s.T A)(hB:pR s.T A)(hz:w.heap.size<=w'.heap.size)(hk:∀b,l.own b=4->w'.heap[b]?=w.heap[b]?)
 (hb:w'.heap[b9]?=some (.cells #[ak ch,ak b_,.map (some ab),ak s.T.length,ak s.T.length,aq p,.slice (au l.rb) 12 12] 187 (0,0)))
 (hM:eF w' ab n1 (e4 s.T l.fm A))(hn:n1<=s.T.length)(hr:∀i,cw A i->w'.ownsRow 0 97 2 (eL s.T l.fm i) (s.T.getD i t0).2.1.length (ev (i0 A (s.T.getD i t0))))(f:fF w' p a1 k1 a2 k2 r q)
 (n0:w.heap.size<=ab/\w.heap.size<=p)(N:∀k,some k=(Value.slice a1 r.length k1).ownBlock->w.heap.size<=k)(nq:∀k,some k=(Value.slice a2 q.length k2).ownBlock->w.heap.size<=k)(S:∀k,some k=(Value.slice a1 r.length k1).ownBlock->some k≠(Value.slice a2 q.length k2).ownBlock):
 ∃t,dN b9 ch b_ t {T:=gj A s.T s.T.length,rs:=s.rs,rg:=r,wt:=q} w'/\∀b,t.own b≠0->l.own b≠0\/w.heap.size<=b:=by
 have W:p≠ab:=fun e=>by obtain⟨ad,k,hm⟩:=hM.blk;have g:=f.blk;rw[e,hm] at g;cases g
 have u:∀b n (v:Value)(x:List Value),w'.ownsRow b 103 2 v n x->∀k,some k=v.ownBlock->k≠ab/\k≠p:=fun b n v x B k e=>by
  obtain⟨ai,hc⟩:=fp B k e;refine⟨fun j=>?_,f.np B k e⟩
  obtain⟨ad,am,hm⟩:=hM.blk;rw[j,hm] at hc;cases hc
 have he:∀b,l.own b≠0->(if w.heap.size<=b then(if b=ab then 2 else if b=p then 3 else if some b=(Value.slice a1 r.length k1).ownBlock then 5 else if some b=(Value.slice a2 q.length k2).ownBlock then 6 else 0) else l.own b)=l.own b:=fun b hb=>aI (by have:=h.lt b hb;omega)
 refine⟨{own:=fun b=>if w.heap.size<=b then(if b=ab then 2 else if b=p then 3 else if some b=(Value.slice a1 r.length k1).ownBlock then 5 else if some b=(Value.slice a2 q.length k2).ownBlock then 6 else 0) else l.own b,mb:=ab,bp:=p,rb:=l.rb,fm:=l.fm,fw:=s.T.length,n:=n1,a0:=a1,k0:=k1,a1:=a2,k1:=k2},?_,fun b c=>?_⟩
 ·refine {blk:=?_,bo:=(he b9 (by rw[h.bo];decide)).trans h.bo,g2:=?_,g3:=?_,g4:=?_,lt:=fun b c=>?_}
  ·rw[hb,jK]
  ·refine {mp:=?_,mn:=by rw[jK];exact hn,dw:=?_,fl:=fun i hi=>?_,e3:=fun i hi k e=>?_,fw:=fun i hi=>?_,al:=by rw[jK];exact aG _}
   ·dsimp only;rw[I4 d hB];exact hM
   ·show(if _ then _ else _)=_;rw[aK n0.1,aK rfl]
   ·have hi:=(pT d i).1 hi;have g:=hr i hi;dsimp only [eL] at g⊢;rw[rJ d hi];dsimp only;rw[uQ hB hi];exact g
   ·have hi:=(pT d i).1 hi;dsimp only [eL] at e;rw[rJ d hi] at e;rw[uQ hB hi] at e;have F:=h.g2.e3 i (d.al i hi) k e;exact(he k (by rw[F];omega)).trans F
   ·have hi:=(pT d i).1 hi;rw[rJ d hi];have:=(d.al i hi).1;simp[this]
  ·refine {sd:=f,so:=?_,ro:=fun k e=>?_,mB:=fun k e=>?_}
   ·show(if _ then _ else _)=_;rw[aK n0.2,aI W,aK rfl]
   ·obtain⟨m,o⟩:=u _ _ _ _ f.r0 k e;show(if _ then _ else _)=_;rw[aK (N k e),aI m,aI o,aK e]
   ·obtain⟨m,o⟩:=u _ _ _ _ f.q0 k e;show(if _ then _ else _)=_;rw[aK (nq k e),aI m,aI o,aI (fun j=>S k j e),aK e]
  ·exact {rt:=(hk _ h.g4.ro).trans h.g4.rt,rl:=h.g4.rl,ro:=(he _ (by rw[h.g4.ro];decide)).trans h.g4.ro}
  ·dsimp only at c;split at c
   ·split at c
    ·rename_i e;rw[e];exact hM.lt
    ·split at c
     ·rename_i e;rw[e];exact lt_of_some f.blk
     ·split at c
      ·rename_i e;exact(cu f.r0 b e).2
      ·split at c
       ·rename_i e;exact(cu f.q0 b e).2
       ·exact absurd rfl c
   ·exact aO (h.lt b c) hz
 ·dsimp only at c;split at c
  ·exact aL ‹_›
  ·exact aM c
end
section
variable {b9:Nat}{ch b_:Int}{l:gU}{F:Nat->Prop}{s:cn}{w:az}{g:List Bool->List Bool}
abbrev lU (w:az)(b9:Nat)(ch b_:Int)(l:gU)(s:cn):Cp:=⟨w,b9,ch,b_,l,s,w.heap.size+1+1,w.heap.size,w.heap.size+1⟩
abbrev I5 (s:cn):dA:=⟨List.replicate s.T.length false,[],fun _=>[],0⟩
def mH (w:az)(b:Nat):Nat:=if b=w.heap.size then 2 else if b=w.heap.size+1 then 4 else if b=w.heap.size+1+1 then 1 else 0
theorem rK:∀n,cnt (List.replicate n false)=n
 |0=>rfl
 |n+1=>by
  have:=rK n;unfold cnt at this⊢
  rw[List.replicate_succ];simp at this⊢
theorem cY.start (w:az)(b9:Nat)(ch b_:Int)(l:gU)(s:cn):
 cY (lU w b9 ch b_ l s) (mH w) (.slice none 0 0) 0 0 (fun _=>(none,0)) (I5 s) (((w.alloc (.map #[] 0)).alloc (.map #[] 0)).alloc (.cells #[.pointer (some ⟨b9,0,none⟩),.map (some w.heap.size),.slice none 0 0,.map (some (w.heap.size+1))] 252)):=by
 have d:Below w.heap.size w (((w.alloc (.map #[] 0)).alloc (.map #[] 0)).alloc (.cells #[.pointer (some ⟨b9,0,none⟩),.map (some w.heap.size),.slice none 0 0,.map (some (w.heap.size+1))] 252)):=((b8.alloc b7 _).alloc ac _).alloc (by simp;omega) _;have m1:=(eF.made w)
 have f:=(eF.made (w.alloc (.map #[] 0)))
 have hz:(w.alloc (.map #[] 0)).heap.size=w.heap.size+1:=ac;rw[hz] at f;have ea:(fun _=>none)=e4 s.T l.fm (List.replicate s.T.length false):=by
  funext x
  unfold e4;rw[aI];rintro⟨_,h⟩
  rw[aJ,List.getElem?_replicate] at h;split at h<;>cases h
 have g:(fun _=>none)=hdF (fun _=>[]) (fun _=>(none,0)):=rfl;refine {ol:=fun k hk=>d.block k hk,sz:=d.size,cb:=uz w _ _ _,co:=?_,am:=?_,ao:=?_,an:=?_,tr:=⟨rfl,aM ⟨rfl,rfl⟩⟩,tw:=fun k e=>(by cases e),tn:=?_,hq:=?_,ho:=?_,hn:=aG _,hr:=fun x c=>absurd rfl c,hro:=fun x c=>absurd rfl c,lt:=fun b hb=>?_}
 ·show mH w (w.heap.size+1+1)=1;unfold mH;rw[aI aa,aI aa,aK rfl]
 ·show eF _ w.heap.size 0 (e4 s.T l.fm (List.replicate s.T.length false))
  rw[<-ea];exact m1.same ((aS _ _ _ (by simp;omega)).trans (aS _ _ _ ac))
 ·show mH w w.heap.size=2;unfold mH;rw[aK rfl]
 ·show 0+cnt (List.replicate s.T.length false)<=s.T.length;rw[rK];omega
 ·show 0+cnt (List.replicate s.T.length false)<=s.T.length;rw[rK];omega
 ·show eF _ (w.heap.size+1) 0 (hdF (fun _=>[]) (fun _=>(none,0)))
  rw[<-g];exact f.same (aS _ _ _ ac)
 ·show mH w (w.heap.size+1)=4;unfold mH;rw[aI aa,aK rfl]
 ·unfold mH at hb;show w.heap.size<=b/\_;simp;split at hb
  ·omega
  ·split at hb
   ·omega
   ·split at hb
    ·omega
    ·exact absurd rfl hb
theorem I6 (h:dN b9 ch b_ l s w)(hv:fQ s):ic (lU w b9 ch b_ l s):=⟨h,hv.tl,hv.iv,aU hv.wl ae⟩
theorem I7 (hv:fQ s){A:List Bool}(d:gH s.T A):pR s.T A:=⟨fun i hi hk=>hv.iv.fl i (d.al i hi) hk,fun i hi c=>by
 have hl:0<(s.T.getD i t0).2.1.length:=by
  cases hq:(s.T.getD i t0).2.1 with
  |nil=>rw[hq] at c;cases c
  |cons _ _=>simp
 obtain⟨a,b⟩:=hv.iv.fv i (d.al i hi) _ (getD_in hl) c;have:=b.1;have:=hv.tl;exact⟨a,aa⟩⟩
def rL (s:cn)(mj:Bool)(b:Int->Bool):Prop:=∀i:Nat,cz s.T i->(b i=true↔(s.T.getD i t0).2.2.1=true/\mj=false)
theorem I8 (hv:fQ s){mj:Bool}{d:Int->Bool}(hs:rL s mj d):AM (lU w b9 ch b_ l s) d (kh s.T s.rs mj) where
 st:=fun i hi h=>(kI _ _ _ _).2 ⟨hi.1,aM ⟨((hs i hi).1 h).1,hi.2,((hs i hi).1 h).2⟩⟩
 rt:=fun v e f=>(kI _ _ _ _).2 ⟨(hv.rv v e f).2.1,aL ⟨v,e,f,rfl⟩⟩
 up:=fun i hi=>by
  obtain⟨g,j⟩:=(kI _ _ _ _).1 hi;rcases j with⟨a,b,c⟩|c
  ·exact aM ⟨⟨g,b⟩,(hs i ⟨g,b⟩).2 ⟨a,c⟩⟩
  ·exact aL c
 rv:=hv.rv
def cnf (g:List Bool->List Bool)(s:cn)(b_:Int)(mj:Bool):Bool:=decide (b_<iN s.T (s.cR g mj).1 s.T.length)
def cn.i1 (g:List Bool->List Bool)(s:cn)(mj:Bool):cn:=
 {T:=gj (s.cR g mj).1 s.T s.T.length,rs:=s.rs,rg:=s.rg.filter (fun e=>cV (s.c0 g mj) e.2&&cV (s.cR g mj).1 e.1),wt:=(s.wt++(s.cR g mj).2.1).filter (fun e=>cV (s.cR g mj).1 e.1)}
theorem I9 {w:az}{b9 ab p mk:Nat}{ch b_:Int}{m b r:Value}{n a:Nat}(h:w.heap[b9]?=some (.cells #[ak ch,ak b_,m,ak n,ak a,b,r] 187 (0,0))):
 (((w.setCell ⟨b9,2,none⟩ (.map (some ab))).setCell ⟨b9,5,none⟩ (.pointer (some ⟨p,0,none⟩))).setCell ⟨b9,4,none⟩ (.int .i64 mk)).heap[b9]?=some (.cells #[ak ch,ak b_,.map (some ab),ak n,ak mk,aq p,r] 187 (0,0)):=by
 simp only [World.setCell,Array.getElem?_modify,if_true,h,Option.map_some];rfl
theorem oH {w:az}{b9 b o c:Nat}{v x:Value}(hn:b9≠b)(h:w.cell? (av b c)=some x):(w.setCell ⟨b9,o,none⟩ v).drew.cell? (av b c)=some x:=by rw[World.cell?_drew,World.cell?_setCell_far _ _ _ _ hn];exact h
theorem uR {w:az}{b9:Nat}{v x:Value}(h:w.cell? (av b9 3)=some x):(w.setCell ⟨b9,2,none⟩ v).drew.cell? (av b9 3)=some x:=by exact uK
theorem AP {w:az}{b9:Nat}{v x:Value}(h:w.cell? (av b9 3)=some x):(w.setCell ⟨b9,5,none⟩ v).drew.cell? (av b9 3)=some x:=by exact uK
theorem I_ {w:az}{b9:Nat}{v x:Value}(h:w.cell? (av b9 3)=some x):(w.setCell ⟨b9,4,none⟩ v).drew.cell? (av b9 3)=some x:=by exact uK
theorem AQ (h:dN b9 ch b_ l s w)(ce:∀b,F b↔l.own b≠0)(hv:fQ s)(b1:dL s.T s.wt g)(mj:Bool){f:Nat}{b ap:Array Value}{cf:Int->Bool}(hs:rG (lU w b9 ch b_ l s) f b ap cf)(hy:rL s mj cf):
 Calls prog 202 #[aq b9,.func (.func f) b ap] w fun e w'=>∃N,e=.returned (ak (if cnf g s b_ mj=true then 3 else 0))/\(cE b9 ch b_ l.rb).J N (if cnf g s b_ mj=true then s else s.i1 g mj) w'/\cg F w N w':=by
 have cW:=@run_makeMap prog;have hg:=I6 h hv;have ci:=cY.start w b9 ch b_ l s;have P:=IR hg ci ⟨eZ.start s.T s.wt (kh s.T s.rs mj),fun _=>aG _,by show 0+(0+cnt (List.replicate s.T.length false))<=s.T.length;rw[rK];omega⟩ hs (I8 hv hy)
 have bg:=hv.first mj;have cj:aA (∀bi bl bn bo bp n (w1:az),cY (lU w b9 ch b_ l s) bi bl bn bo bp n w1->gn s.T s.wt (kh s.T s.rs mj) n->n.td=[]->(∀k,cw (kh s.T s.rs mj) k->cw n.A k)->
  Calls prog 234 #[aq (w.heap.size+1+1)] w1 fun e w'=>∃al cS b2 b3 b4 ar p a1 k1 a2 S,e=.returned (aq p)/\aA (cY (lU w b9 ch b_ l s) al cS b2 b3 b4 ar w'/\ar.A=(s.cR g mj).1/\gH s.T ar.A/\fF w' p a1 k1 a2 S (s.i1 g mj).rg (s.i1 g mj).wt/\w.heap.size<=p/\al p=0/\
   (∀k,some k=(Value.slice a1 (s.i1 g mj).rg.length k1).ownBlock->w.heap.size<=k/\al k=0/\some k≠(Value.slice a2 (s.i1 g mj).wt.length S).ownBlock)/\(∀k,some k=(Value.slice a2 (s.i1 g mj).wt.length S).ownBlock->w.heap.size<=k/\al k=0)/\(w'.os=w1.os/\w'.tape=w1.tape/\w'.output=w1.output))):=fun bi bl bn bo bp n w1 c1 W aB br=>by
  have ck:n.A=s.c0 g mj:=(W.mi.done aB bg.len br).uniq (b1 _ bg.len bg.al)
  refine(I3 hg b1 hv c1 ⟨W.mi.base (fun _ h=>h),W.hl,W.mm⟩ aB).mono ?_;rintro e w' ⟨al,cS,b2,b3,b4,ar,p,a1,k1,a2,S,rfl,c2,aF,cl,cm,tk,am,⟨hp,co⟩,hr,hq⟩
  have cl:fY g n.A s.rg=s.cR g mj:=by rw[ck];rfl
  have z:=c1.sz;dsimp only at z aF am hr hq;rw[cl] at aF am hr hq;rw[ck] at am hr;exact⟨al,cS,b2,b3,b4,ar,p,a1,k1,a2,S,rfl,c2,aF,⟨cm.mi.len,cm.mi.al⟩,am,aa,co,fun k e=>⟨by have:=(hr k e).1;omega,(hr k e).2⟩,fun k e=>⟨by have:=(hq k e).1;omega,(hq k e).2⟩,tk.fr.os,tk.fr.tape,tk.fr.output⟩
 have cX:=h.cells.2.2.2.2.2.2.2.2;have aR:aA (∀b,F b↔l.own b≠0):=ce;have j:aA (dN b9 ch b_ l s w/\fQ s/\ic (lU w b9 ch b_ l s)):=⟨h,hv,hg⟩
 generalize cq:(if cnf g s b_ mj=true then(3:Int) else 0)=cd;generalize cr:(if cnf g s b_ mj=true then s else s.i1 g mj)=sd;have q:aA ((if cnf g s b_ mj=true then(3:Int) else 0)=cd/\(if cnf g s b_ mj=true then s else s.i1 g mj)=sd):=⟨cq,cr⟩
 clear h ce hv b1 hs hy hg ci bg cq cr;go_enter func202,ntmps202;go_wp2_with fail;refine P.mono ?_;clear P;rintro e w1 ⟨bi,bl,bn,bo,bp,n,rfl,c1,bs,W,aB,br⟩
 have P:=cj.o bi bl bn bo bp n w1 c1 W aB br;have t:aA (w1.os=w.os/\w1.tape=w.tape/\w1.output=w.output):=⟨bs.fr.os,bs.fr.tape,bs.fr.output⟩
 clear c1 bs W aB br cj;go_wp2_with fail;refine P.mono ?_;clear P;rintro e ad ⟨cZ,c0,cI,c4,c5,cs,p,a1,k1,a2,S,rfl,m⟩
 have ct:iN s.T cs.A s.T.length=iN s.T (s.cR g mj).1 s.T.length:=by rw[m.o.2.1]
 have P:=IN j.o.2.2 (m.o.1.below (aH _ ad).drew) m.o.2.2.1.len;have cv:=m.o.1.gv j.o.2.2.g;obtain⟨_,aV,_,_,_,_,_,_,b5⟩:=cv.cells;dsimp only at aV P b5;rw[ct] at P;have c6:=Aj s.T (s.cR g mj).1 j.o.2.1.iv.tl s.T.length;have c7:=j.o.2.1.tl;have bt:aA (cnf g s b_ mj=decide (b_<iN s.T (s.cR g mj).1 s.T.length)):=rfl;generalize iN s.T (s.cR g mj).1 s.T.length=cJ at*;clear cv ct;by_cases cx:b_<cJ
 ·have a0:cnf g s b_ mj=true:=by rw[bt.o,bm cx]
  have a3:aA (cd=3/\sd=s):=by rw[a0] at q;exact⟨q.o.1.symm,q.o.2.symm⟩
  have ba:aA (∀c,Below ad.heap.size ad c->(cE b9 ch b_ l.rb).J F s c/\cg F w F c):=fun c hb=>by have c3:=m.o.1.below hb;have o:=m.o.2.2.2.2.2.2.2.2;refine⟨⟨l,c3.gv j.o.2.2.g,rfl,aR.o⟩,⟨⟨hb.os.trans (o.1.trans t.o.1),hb.tape.trans (o.2.1.trans t.o.2.1),hb.output.trans (o.2.2.trans t.o.2.2),c3.sz,fun k hk _=>c3.ol k hk⟩,fun _ h=>aM h⟩⟩
  clear bt a0 m t j aR q;go_wp2_with fail
  go_region_held3 (fun w'=>w'.cell? (av b9 1)=some (ak b_)) (go_keep)
   (first|(go_at_call 235;refine P.mono ?_;clear P;rintro e c ⟨rfl,ag⟩;have b6:=(ag.cell (p:=av b9 1) b5).trans aV;have cy:aA (_):=ba.o c (((aH _ ad).drew).trans (ag.mono b7));clear ag ba))
  all_goals
   clear aV b6;go_wp2_with fail;go_ret;exact⟨F,by rw[a3.o.1];rfl,by rw[a3.o.2];exact cy.o.1,cy.o.2⟩
 ·have a0:cnf g s b_ mj=false:=by rw[bt.o,bB cx]
  have a3:aA (cd=0/\sd=s.i1 g mj):=by rw[a0] at q;exact⟨q.o.1.symm,q.o.2.symm⟩
  have ba:aA (∀c,Below ad.heap.size ad c->Calls prog 236 #[aq (w.heap.size+1+1)] c fun e d=>e=.returned (.tuple #[])/\d.cell? (av (w.heap.size+1+1) 1)=some (.map (some w.heap.size))/\
   d.heap[b9]?=some (.cells #[ak ch,ak b_,.map (some l.mb),ak s.T.length,ak l.fw,aq l.bp,.slice (au l.rb) 12 12] 187 (0,0))/\
   aA (∀u,Fr (fun k=>k=b9) d u->u.heap[b9]?=some (.cells #[ak ch,ak b_,.map (some w.heap.size),ak s.T.length,ak s.T.length,aq p,.slice (au l.rb) 12 12] 187 (0,0))->∃N,(cE b9 ch b_ l.rb).J N (s.i1 g mj) u/\cg F w N u)):=fun c hb=>by
   have c3:=m.o.1.below hb;obtain⟨c8,aF,bb,am,hp,co,hr,hq,o⟩:=m.o;have hv:=j.o.2.1;have h:=j.o.1;have ca:=c3.gv j.o.2.2.g;have lw:∀b,l.own b≠0->b<w.heap.size:=h.lt;have z0:∀b,w.heap.size<=b->l.own b=0:=fun b v=>by
    cases e:l.own b
    ·rfl
    ·exact absurd (lw b (by rw[e];omega)) aa
   have hB:=I7 hv bb;refine(In (fm:=l.fm) (lab:=l.own) (cp:=w.heap.size+1+1) (ab:=w.heap.size) (n1:=cI) ⟨c3.cells.2.1,c3.am,fun i hi=>ca.g2.fl i (bb.al i hi),fun i hi k e=>h.g2.e3 i (bb.al i hi) k e,z0 _ aa,z0 _ b7⟩ hB (fun b v=>aO (lw b v) c3.sz) (fun i hi=>by have:=(bb.al i hi).1;omega)).mono ?_;rintro e d ⟨rfl,an,x⟩
   have cK:d.heap[b9]?=c.heap[b9]?:=x.block b9 (lt_of_some ca.blk) (fun ap=>by have:=h.bo;omega)
   refine⟨rfl,an.c1,cK.trans ca.blk,fun u B cz=>?_⟩
   have cA:∀b,w.heap.size<=b->b≠b9:=fun b v e=>by omega
   have k5:∀b,b<c.heap.size->b≠b9->¬10<=l.own b->u.heap[b]?=c.heap[b]?:=fun b v hn cM=>(B.block b (aO v x.size) hn).trans (x.block b v cM)
   have cb:∀b,w.heap.size<=b->b<c.heap.size->u.heap[b]?=c.heap[b]?:=fun b bx cc=>k5 b cc (cA b bx) (by rw[z0 b bx];omega)
   have b0:=am.below hb;have cN:fF u p a1 k1 a2 S (s.i1 g mj).rg (s.i1 g mj).wt:=b0.keep (cb p hp (lt_of_some b0.blk)) (fun k e=>cb k (hr k e).1 (cu b0.r0 k e).2) (fun k e=>cb k (hq k e).1 (cu b0.q0 k e).2)
   obtain⟨cB,g1,g2⟩:=h.cut bb hB (aU c3.sz (aU x.size B.size)) (fun b cO=>(k5 b (aO (lw b aa) c3.sz) (fun e=>by have:=h.bo;rw[e] at cO;omega) aa).trans (c3.ol b (lw b aa))) cz
    (an.hM.same (B.block _ an.hM.lt (cA _ b7))) (by have:=c3.an;dsimp only at this;omega) (fun i hi=>cL (an.row i hi) (fun k e=>B.block k (cu (an.row i hi) k e).2 (fun ap=>by have bx:=an.lb i hi k e;have cc:=h.bo;rw[ap,cc] at bx;omega))) cN ⟨aG _,hp⟩ (fun k e=>(hr k e).1) (fun k e=>(hq k e).1) (fun k e=>(hr k e).2.2)
   have cP:({T:=gj cs.A s.T s.T.length,rs:=s.rs,rg:=(s.i1 g mj).rg,wt:=(s.i1 g mj).wt}:cn)=s.i1 g mj:=by rw[aF];rfl
   rw[cP] at g1;refine⟨fun b=>cB.own b≠0,⟨cB,g1,g1.Ia (by simp[World.cell?,cz]),fun _=>Iff.rfl⟩,⟨⟨B.os.trans (x.os.trans (hb.os.trans (o.1.trans t.o.1))),B.tape.trans (x.tape.trans (hb.tape.trans (o.2.1.trans t.o.2.1))),B.output.trans (x.output.trans (hb.output.trans (o.2.2.trans t.o.2.2))),aU c3.sz (aU x.size B.size),fun k hk hn=>?_⟩,fun b v=>(g2 b v).imp (aR.o b).2 id⟩⟩
   have cQ:l.own k=0:=by
    cases e:l.own k
    ·rfl
    ·exact absurd ((aR.o k).2 (by rw[e];omega)) hn
   exact(k5 k (aO hk c3.sz) (fun e=>by have:=h.bo;rw[e] at cQ;omega) aa).trans (c3.ol k hk)
  clear bt a0 m t j aR q;go_wp2_with fail
  go_region_held3 (fun w'=>w'.cell? (av b9 1)=some (ak b_)) (go_keep)
   (first|(go_at_call 235;refine P.mono ?_;clear P;rintro e c ⟨rfl,ag⟩;have b6:=(ag.cell (p:=av b9 1) b5).trans aV;have cC:=ba.o c (((aH _ ad).drew).trans (ag.mono b7));clear ag ba))
  all_goals
   clear aV b6;go_wp2_with fail;refine cC.mono ?_;clear cC;rintro e d ⟨rfl,bd,ai,cD⟩
   have cF:aA (_=_):=ai;have cR:d.cell? (av b9 2)=some (.map (some l.mb)):=aD ai
   have be:d.cell? (av b9 3)=some (ak s.T.length):=aD ai
   have cT:d.cell? (av b9 4)=some (ak l.fw):=aD ai
   have cU:d.cell? (av b9 5)=some (aq l.bp):=aD ai
   have cV:∀o,d.frozen? (av b9 o)=false:=fun o=>by simp[World.frozen?,ai]
   have ao:b9≠w.heap.size+1+1:=aa;clear ai;go_wp2_with fail
   go_region_held3 (fun w'=>w'.cell? (av (w.heap.size+1+1) 1)=some (.map (some w.heap.size))/\w'.cell? (av b9 3)=some (ak s.T.length)) (first|exact⟨bd,be⟩|exact⟨oH ao bd,uR be⟩|exact⟨oH ao (oH ao bd),AP (uR be)⟩|exact⟨oH ao (oH ao (oH ao bd)),I_ (AP (uR be))⟩|(go_keep;done)) (fail)
   all_goals
    clear ‹_/\_›;obtain⟨N,dI,cG⟩:=cD.o _ (((((Fr.refl (fun k=>k=b9) d).set b9 2 _ rfl).set b9 5 _ rfl).set b9 4 _ rfl).drew) (I9 cF.o)
    have cH:aA (_):=And.intro dI cG;clear dI cG cD cF bd cR be cT cU cV;go_wp2_with fail;go_ret;exact⟨N,by rw[a3.o.1];rfl,by rw[a3.o.2];exact cH.o.1,cH.o.2⟩
end
theorem Ja (x:Int)(w:az):Calls prog 204 #[ak x] w fun e w'=>e=.returned (.bool false)/\Below w.heap.size w w':=by go_wp2;go_ret;exact⟨rfl,aH _ _⟩
section
variable {b9 rb:Nat}{ch b_:Int}{l:gU}{F:Nat->Prop}{s:cn}{w:az}{g:List Bool->List Bool}
theorem Jb:rG (lU w b9 ch b_ l s) 204 #[] #[] (fun _=>false):=
 ⟨gw func204 ah rfl,fun x w' _=>Ja x w'⟩
theorem Jd (h:dN b9 ch b_ l s w):rG (lU w b9 ch b_ l s) 203 #[aq b9] #[] (fun x=>decide (x<l.fw)):=
 ⟨gw func203 ah rfl,fun x w' hk=>by
  have c:=h.cells;have e:=hk b9 c.2.2.2.2.2.2.2.2;refine(AL (fw:=l.fw) ?_ x).mono ?_
  ·have:=c.2.2.2.2.1;simp only [World.cell?] at this⊢
   rw[e];exact this
  ·rintro e b ⟨rfl,rfl⟩
   exact⟨rfl,aH _ _⟩⟩
theorem Je:rL s true (fun _=>false):=fun _ _=>⟨fun h=>(by cases h),fun h=>(by cases h.2)⟩
theorem Jf (h:dN b9 ch b_ l s w):rL s false (fun x=>decide (x<l.fw)):=fun i hi=>by rw[h.g2.fw i hi];simp
theorem Jg {mj:Bool}(h:s.cF g b_ mj=true):s.g9 g b_ mj=3/\s.cut g b_ mj=s:=by unfold cn.g9 cn.cut;rw[aK h,aK h];exact⟨rfl,rfl⟩
theorem AR {mj:Bool}(h:mj=true\/¬(b_-(ey s.T).2<(ey s.T).1)):s.g9 g b_ mj=(if cnf g s b_ mj=true then 3 else 0)/\s.cut g b_ mj=(if cnf g s b_ mj=true then s else s.i1 g mj):=by
 have e:s.cF g b_ mj=cnf g s b_ mj:=by
  unfold cn.cF cnf;rcases h with h|h
  ·rw[h];simp
  ·rw[bB h];simp
 unfold cn.g9 cn.cut cn.i1;rw[e];exact⟨rfl,rfl⟩
theorem AS (h:(cE b9 ch b_ rb).J F s w)(hv:fQ s)(c:dL s.T s.wt g):
 Calls prog 135 #[aq b9] w fun e w'=>∃b,e=.returned (ak (s.g9 g b_ true))/\(cE b9 ch b_ rb).J b (s.cut g b_ true) w'/\cg F w b w':=by
 obtain⟨l,hg,d,f⟩:=h;have P:=AQ hg f hv c true Jb Je;rw[d] at P;obtain⟨i,j⟩:=AR (aM rfl)
 rw[<-i,<-j] at P;clear hg d f hv c i j;go_enter func135,ntmps135;go_wp2_with fail;refine P.mono ?_;rintro e w1 ⟨b,rfl,k,ht⟩
 go_wp2;go_ret;exact⟨b,rfl,(c7 k ht).o⟩
theorem AT (h:(cE b9 ch b_ rb).J F s w)(hv:fQ s)(j:dL s.T s.wt g)(g0:-1000000<=b_)(g1:b_<=1000000):
 Calls prog 134 #[aq b9] w fun e w'=>∃F',e=.returned (ak (s.g9 g b_ false))/\(cE b9 ch b_ rb).J F' (s.cut g b_ false) w'/\cg F w F' w':=by
 obtain⟨l,hg,b,c⟩:=h;have P:=uN hg hv.iv.tl hv.tl;have bd:=yi s.T hv.t12;have B:=hv.tl;obtain⟨_,_,_,_,_,_,_,_,N⟩:=hg.cells;have d:aA (∀w1,Below w.heap.size w w1->_=_):=fun w1 hb=>(hg.below hb).cells.2.1;have p:aA (¬(b_-(ey s.T).2<(ey s.T).1)->∀w1,Below w.heap.size w w1->Calls prog 202 #[aq b9,.func (.func 203) #[aq b9] #[]] w1 fun e w'=>∃F',e=.returned (ak (s.g9 g b_ false))/\(cE b9 ch b_ rb).J F' (s.cut g b_ false) w'/\cg F w F' w'):=fun hn w1 hb=>by
  have f:=hg.below hb;have k:=AQ f c hv j false (Jd f) (Jf f)
  rw[b] at k;refine k.mono ?_;obtain⟨q,t⟩:=AR (s:=s) (b_:=b_) (g:=g) (mj:=false) (aL hn)
  rw[<-q,<-t];exact uL
 have u:aA (b_-(ey s.T).2<(ey s.T).1->s.g9 g b_ false=3/\s.cut g b_ false=s):=fun hn=>Jg (by unfold cn.cF;rw[bm hn];rfl)
 have i:aA (∀w1,Below w.heap.size w w1->(cE b9 ch b_ rb).J F s w1):=fun w1 hb=>⟨l,hg.below hb,b,c⟩
 generalize s.g9 g b_ false=cd at*;generalize s.cut g b_ false=sd at*;generalize (ey s.T).1=v at*;generalize (ey s.T).2=x at*;clear hg b c hv j;by_cases hn:b_-x<v
 ·have m:aA (cd=3/\sd=s):=u.o hn;go_enter func134,ntmps134;go_wp2_with fail;refine P.mono ?_;rintro e w1 ⟨rfl,hb⟩
  have c1:=d.o w1 hb;have n:aA ((cE b9 ch b_ rb).J F s w1/\cg F w F w1):=⟨i.o w1 hb,cg.of hb⟩
  go_wp2_with fail;go_ret;exact⟨F,by rw[m.o.1];rfl,by rw[m.o.2];exact n.o.1,n.o.2⟩
 ·have o:=hide (p.o hn)
  go_enter func134,ntmps134;go_wp2_with fail;refine P.mono ?_;rintro e w1 ⟨rfl,hb⟩
  have c1:=d.o w1 hb;have P:=o.o w1 hb;clear d hb o;go_wp2_with fail;refine P.mono ?_;rintro e S ⟨F',rfl,hj,ht⟩
  have i:=c7 hj ht;go_wp2_with fail;go_ret;exact⟨F',rfl,i.o⟩
theorem Jh {g:eM}{m:Int}(h:(cE b9 ch b_ rb).J F s w)(hv:fQ s)(b:dL s.T s.wt (g s.T s.wt))(g0:-1000000<=b_)(g1:b_<=1000000)(i:-1000000<=ch)(m1:ch<=1000000):
 Calls prog 238 #[aq b9,ak m] w fun e w'=>∃F',e=.returned (ak (s.room g ch b_ m).1)/\(cE b9 ch b_ rb).J F' (s.room g ch b_ m).2 w'/\cg F w F' w':=by
 obtain⟨l,hg,c,d⟩:=h;have P:=uN hg hv.iv.tl hv.tl;have bd:=yi s.T hv.t12;have j:=hv.tl;obtain⟨_,_,_,_,_,_,_,_,k⟩:=hg.cells;have HC:aA (∀w1,Below w.heap.size w w1->w1.cell? (av b9 0)=some (ak ch)/\w1.cell? (av b9 1)=some (ak b_)):=fun w1 hb=>⟨(hg.below hb).cells.1,(hg.below hb).cells.2.1⟩
 have HJ:aA (∀w1,Below w.heap.size w w1->(cE b9 ch b_ rb).J F s w1):=fun w1 hb=>⟨l,hg.below hb,c,d⟩
 by_cases c1:m<=ch-(ey s.T).1
 ·have e:s.room g ch b_ m=(0,s):=aK c1;rw[e];generalize (ey s.T).1=yn at*;generalize (ey s.T).2=od at*;go_enter func238,ntmps238;go_wp2_with fail;refine P.mono ?_;rintro e w1 ⟨rfl,hb⟩
  obtain⟨d0,d1⟩:=HC.o w1 hb;have f:aA ((cE b9 ch b_ rb).J F s w1/\cg F w F w1):=⟨HJ.o w1 hb,cg.of hb⟩
  go_wp2_with fail;go_ret;exact⟨F,rfl,f.o⟩
 ·by_cases c2:b_-(ey s.T).2<(ey s.T).1
  ·have e:s.room g ch b_ m=(s.g9 (g s.T s.wt) b_ true,s.cut (g s.T s.wt) b_ true):=by unfold cn.room;rw[aI c1,bm c2]
   rw[e];have HP:aA (∀w1,Below w.heap.size w w1->Calls prog 135 #[aq b9] w1 fun e w'=>∃F',e=.returned (ak (s.g9 (g s.T s.wt) b_ true))/\(cE b9 ch b_ rb).J F' (s.cut (g s.T s.wt) b_ true) w'/\cg F w F' w'):=fun w1 hb=>by refine(AS (HJ.o w1 hb) hv b).mono ?_;exact uL
   generalize s.g9 (g s.T s.wt) b_ true=cd at*;generalize s.cut (g s.T s.wt) b_ true=sd at*;exact AJ
  ·have e:s.room g ch b_ m=(s.g9 (g s.T s.wt) b_ false,s.cut (g s.T s.wt) b_ false):=by unfold cn.room;rw[aI c1,bB c2]
   rw[e];have HP:aA (∀w1,Below w.heap.size w w1->Calls prog 134 #[aq b9] w1 fun e w'=>∃F',e=.returned (ak (s.g9 (g s.T s.wt) b_ false))/\(cE b9 ch b_ rb).J F' (s.cut (g s.T s.wt) b_ false) w'/\cg F w F' w'):=fun w1 hb=>by refine(AT (HJ.o w1 hb) hv b g0 g1).mono ?_;exact uL
   generalize s.g9 (g s.T s.wt) b_ false=cd at*;generalize s.cut (g s.T s.wt) b_ false=sd at*;exact AJ
end
end Go.Proofs.YtpkjkjhanlbcoaaGreat
