import Derived.Test.YtpkjkjhanlbcoaaGreatJ35
namespace Go.Proofs.YtpkjkjhanlbcoaaGreat
set_option maxRecDepth 100000
set_option maxHeartbeats 4000000
open Tryz
open Go.RowKit W Kp cf
section
variable {c:Cp}{own own':Nat->Nat}{vt cM:Value}{n1 n2 n1' d6:Nat}{hm hm':Int->Option Addr×Nat}{st:dw}{w w':ax}{is:List Bool}
def kz (T:List cD)(A:List Bool)(i:Nat):Int:=if A.getD i false=true then 1+(T.getD i t0).2.1.length else 0
theorem Iq (hg:hL c)(h:cU c own vt n1 n2 hm st w)(B:st.A.length=c.s.T.length):
 Calls prog 235 #[aj c.cp] w fun e w'=>e=.returned (ah (iE c.s.T st.A c.s.T.length))/\aw w w':=by
 rw[Al];have C:(fun i=>if st.A.getD i false=true then 1+((c.s.T.getD i t0).2.1.length:Int) else 0)=kz c.s.T st.A:=rfl;rw[C];obtain⟨_,c1,_,_,_,O⟩:=h.cells;have Q:=hg.t;obtain⟨w1,cnt,o,d,gr,sz⟩:=h.am.range (t:=184) (e:=220) Tryz.underlying184;have ab:∀i,0<=kz c.s.T st.A i/\kz c.s.T st.A i<=13:=fun i=>by
  have:=hg.iv.tl i;unfold kz;split
  ·omega
  ·omega
 have z:eK (gu (fun x=>(eS c.s.T c.l.fm st.A x).isSome) (kz c.s.T st.A)) c.s.T.length=0:=by
  rw[<-ut c.s.T.length];refine ns _ (fun i hi=>?_)
  have ea:(eS c.s.T c.l.fm st.A (i:Int)).isSome=st.A.getD i false:=by rw[ul V,cL,Int.toNat_natCast]
  unfold gu kz;cases hb:st.A.getD i false
  ·exact(aG (by dsimp only;rw[ea,hb];decide)).trans (aG aa)
  ·exact aI (by dsimp only;rw[ea,hb])
 have p:=g6 ab hg.iv.tl B;have D:=g6 (bX.grown gr bW (fun j q=>by cases q)) d z;clear h hg B d gr ab z C;go_enter func235,ntmps235;go_wp2
 go_loopw [3] (fun y wr=>∃(left:Int->Bool)(k:Nat),y=ah (eK (gu left (kz c.s.T st.A)) c.s.T.length)/\gf wr c.ab w.heap.size n1 (eS c.s.T c.l.fm st.A) left k/\aw w wr) (fun _ wr=>wr.rangeLeft c.ab w.heap.size)
 ·obtain⟨b,r,J⟩:=D.out;exact⟨_,cnt,by rw[J],r,b⟩
 ·
   clear D o;obtain⟨left,k,rfl,d,hb⟩:=hrel;have mb:=ri left p.out.1 c.s.T.length;rcases d.next 0 with⟨h0,hl,o⟩|⟨x,v,s,u,E,f,o,hR2,hlt,F,R,S⟩
   ·rw[(ns _ (fun i _=>by unfold gu;rw[hl,aG aa]))];have g:=hide hb;clear hb d hl;go_wp2;go_ret;exact⟨rfl,g.out⟩
   ·have l:0<=x/\st.A.getD x.toNat false=true:=by
     unfold eS at f;split at f
     ·assumption
     ·cases f
    obtain⟨i,rfl⟩:=Int.eq_ofNat_of_zero_le l.1;have A:st.A.getD i false=true:=by simpa using l.2
    have K:i<c.s.T.length:=by rw[<-p.out.2.2];exact ct.lt A
    have hv:v=fW c.s.T c.l.fm i:=by unfold eS at f;rw[aI l] at f;exact(Option.some.inj f).symm
    dsimp only [fW,eD] at hv;subst hv;have s1:=uu left (kz c.s.T st.A) i c.s.T.length K E;have U:=p.out.2.1 i;have b2:=hb.grown F hb.size (fun j q=>by cases q;exact aD _)
    have b3:=b2.alloc b2.size (.cells #[.int .i64 (c.s.T.getD i t0).1,.slice (c.l.fm i).1 (c.s.T.getD i t0).2.1.length (c.l.fm i).2] 220)
    have G:ay (∀m,Below (s.alloc (.cells #[.int .i64 (c.s.T.getD i t0).1,.slice (c.l.fm i).1 (c.s.T.getD i t0).2.1.length (c.l.fm i).2] 220)).heap.size (s.alloc (.cells #[.int .i64 (c.s.T.getD i t0).1,.slice (c.l.fm i).1 (c.s.T.getD i t0).2.1.length (c.l.fm i).2] 220)) m->gf m c.ab w.heap.size n1 (eS c.s.T c.l.fm st.A) (fun y=>left y&&!(y==(i:Int))) u/\aw w m/\u<k):=fun m hb3=>by exact Ae
    have L:=hide d.left_eq;have H:=uv (c.s.T.getD i t0).1 (c.l.fm i).1 (c.s.T.getD i t0).2.1.length (c.l.fm i).2 V (s.alloc (.cells #[.int .i64 (c.s.T.getD i t0).1,.slice (c.l.fm i).1 (c.s.T.getD i t0).2.1.length (c.l.fm i).2] 220))
    rw[show kz c.s.T st.A i=1+((c.s.T.getD i t0).2.1.length:Int) from by unfold kz;rw[aI A]] at s1;have M:=hide s1;clear d hb E f hR2 F l b2 b3 A s1;generalize eK (gu left (kz c.s.T st.A)) c.s.T.length=Y at*;generalize (c.s.T.getD i t0).2.1.length=n at*;generalize (c.s.T.getD i t0).1=kd at*;generalize (c.l.fm i).1=ad at*;generalize (c.l.fm i).2=cp at*;go_wp2_with fail;refine H.mono ?_;clear H;rintro e N ⟨rfl,I⟩
    have g:=hide (G.out N I)
    clear I G;go_wp2;go_roundw;exact⟨_,u,by rw[M.out],g.out.1,g.out.2.1⟩
    rw[g.out.1.left_eq,L.out];exact g.out.2.2
theorem f7.mark {T:List cD}{wt:List b7}{s:dw}(h:f7 T wt is s)(c:e4 T wt)(v:Int×Int)(hv:v.1=3->0<=v.2/\cv T v.2.toNat)(d:v.1=3->ct is v.2.toNat):f7 T wt is (dZ s v):=
 ⟨h.mi.mark c v hv (fun b X _ hb=>hb _ (d b)),by rw[(nk s v).1,(nk s v).2];exact h.hl,by rw[zX s v (fun b=>by rw[h.mi.len];exact(hv b).2.1),(nk s v).2];exact h.mm⟩
theorem f7.marks {T:List cD}{wt:List b7}(d:e4 T wt):∀(l:List (Int×Int))(s:dw),f7 T wt is s->(∀v∈l,v.1=3->0<=v.2/\cv T v.2.toNat)->(∀v∈l,v.1=3->ct is v.2.toNat)->f7 T wt is (dm s l)
 |[],_,h,_,_=>h
 |v::l,s,h,hv,e=>f7.marks d l (dZ s v) (h.mark d v (hv v Z) (e v Z)) (fun b c=>hv b (aO _ c)) (fun b c=>e b (aO _ c))
end
structure rj (c:Cp)(f:Nat)(b d:Array Value)(sb:Int->Bool):Prop where
 Ir:dN f
 ca:∀(x:Int)(w:ax),(∀k,k<c.w0.heap.size->w.heap[k]?=c.w0.heap[k]?)->Calls prog f (b.push (ah x)++d) w fun e w'=>e=.returned (.bool (sb x))/\aw w w'
structure An (c:Cp)(sb:Int->Bool)(is:List Bool):Prop where
 st:∀i:Nat,cv c.s.T i->sb i=true->ct is i
 rt:∀v∈c.s.rs,v.1=3->ct is v.2.toNat
 up:∀i:Nat,ct is i->(cv c.s.T i/\sb i=true)\/∃v∈c.s.rs,v.1=3/\v.2.toNat=i
 rv:∀v∈c.s.rs,v.1=3->0<=v.2/\cv c.s.T v.2.toNat
section
variable {c:Cp}{own own':Nat->Nat}{vt cM:Value}{n1 n2 n1' d6:Nat}{hm hm':Int->Option Addr×Nat}{st:dw}{w w':ax}{is:List Bool}{sb:Int->Bool}
theorem Is {w:ax}{b:Nat}{l:List _}(h:w.heap[b]?=some (.cells (ev l).toArray 97 (0,0))):dv w (ak b) l:=fun _=>by
 refine⟨b,0,rfl,lt_of_some h,fun i hi=>?_⟩
 obtain⟨c,d⟩:=nN l i hi;constructor
 ·simp[World.cell?,h];simpa using c
 ·simp[World.cell?,h];simpa using d
theorem It (hg:hL c)(h:cU c own vt n1 n2 hm st w)(dp:f7 c.s.T c.s.wt is st){f:Nat}{b C:Array Value}(hs:rj c f b C sb)(hi:An c sb is):
 Calls prog 233 #[aj c.cp,.func (.func f) b C] w fun e w'=>∃own' cM n1' d6 hm' d,e=.returned (.tuple #[])/\cU c own' cM n1' d6 hm' d w'/\et own w own' w'/\f7 c.s.T c.s.wt is d/\d.td=[]/\∀k,ct is k->ct d.A k:=by
 have bb:=hs.Ir;unfold dN at bb;obtain⟨c0,_,_,_,_,bt⟩:=h.cells;have gv:=h.gv hg.g;obtain⟨_,_,g2,_,_,_,_,_,bx⟩:=gv.cells;obtain⟨w1,bd,an,F,gr,sz⟩:=gv.g2.mp.range (t:=184) (e:=220) Tryz.underlying184;have ao:=bX.grown gr bW (fun j G=>by cases G)
 have ap:=g6 hg hs hi;have Q:=jr F ao (h.below ao) dp;have K:ay (c.l.mb<c.w0.heap.size/\own w.heap.size=0/\c.w0.heap.size<=w.heap.size):=⟨hg.g.g2.mp.lt,by
  cases e:own w.heap.size
  ·rfl
  ·exact absurd (h.lt w.heap.size (by rw[e];omega)).2 V,h.sz⟩
 go_enter func233,ntmps233;go_wp2_with fail
 go_loopw [4] (fun _ wr=>∃(left:Int->Bool)(k:Nat)(own':Nat->Nat)(cM:Value)(n1':Nat)(d:dw),ay (gf wr c.l.mb w.heap.size c.l.n (hJ c.s.T c.l.fm) left k/\cU c own' cM n1' n2 hm d wr/\et own w own' wr/\own' w.heap.size=0/\f7 c.s.T c.s.wt is d/\∀i:Nat,cv c.s.T i->left i=false->sb i=true->ct d.A i)) (fun _ wr=>wr.rangeLeft c.l.mb w.heap.size)
 ·obtain⟨r,_,g,dp⟩:=Q.out;exact⟨_,bd,own,vt,n1,st,r,g,et.of Q.out.2.1,K.out.2.1,dp,fun i hi h0 _=>by rw[jb ⟨V,by simpa using hi⟩] at h0;cases h0⟩
 ·
   obtain⟨left,k,own',cM,n1',d,ar⟩:=hrel;obtain⟨F,g,t,ho,dp,hd⟩:=ar.out;obtain⟨hg,hs,hi⟩:=ap.out;rcases F.next 0 with⟨h0,hl,an⟩|⟨x,v,m,L,bY,M,an,p,be,bg,bZ,b0⟩
   ·
     have gv:=g.gv hg.g;obtain⟨b1,_,_,_,_,_⟩:=g.cells;obtain⟨_,_,_,_,_,_,b2,_,_⟩:=gv.cells;have rl:=gv.g4.rl;have P:=mx hg.g hg.t dp.mi.len g (ak c.l.rb) 12 c.s.rs ⟨Is gv.g4.rt,fun _ z e C=>by
      cases e;have R:=hg.g.lt c.l.rb (by rw[hg.g.g4.ro];decide)
      have S:=(g.lt c.l.rb (by dsimp only at C;omega)).1;omega⟩ hi.rv V
     rw[rl] at P;have bi:ay (∀o u A m,cU c o u A n2 hm (dm d c.s.rs) m->fA own' wr o m->Calls prog 246 #[aj c.cp] m fun e w'=>∃own' cM n1' d6 hm' d,e=.returned (.tuple #[])/\cU c own' cM n1' d6 hm' d w'/\et own w own' w'/\f7 c.s.T c.s.wt is d/\d.td=[]/\∀k,ct is k->ct d.A k):=fun o u A m g2 U=>by
      refine(Ai hg g2 (dp.marks (s:=d) hg.iv c.s.rs hi.rv hi.rt)).mono ?_;rintro e w' ⟨W,X,Y,ab,ad,ag,rfl,g3,t3,sp⟩
      refine⟨W,X,Y,ab,ad,ag,rfl,g3,(t.trans U.tk).trans t3,sp.dp,sp.td,fun i hk=>sp.up i ?_⟩
      rcases hi.up i hk with⟨R,S⟩|⟨v,hv,ai,e⟩
      ·exact kw _ _ (hd i R (hl _) S)
      ·rw[<-e];exact ud d c.s.rs (fun v hv ai=>by rw[dp.mi.len];exact(hi.rv v hv ai).2.1) v hv ai
     clear F g t dp hd hg hs hi gv hl ar ap K Q rl ho;go_wp2_with fail;refine P.mono ?_;rintro e m ⟨o,u,A,rfl,g2,U⟩
     have P:=bi.out o u A m g2 U;go_wp2_with fail;refine P.mono ?_;rintro e l ⟨W,X,Y,ab,ad,ag,rfl,q⟩
     have D:=hide q;go_wp2_with fail;go_end0;exact⟨W,X,Y,ab,ad,ag,rfl,D.out⟩
   ·have H:0<=x/\cv c.s.T x.toNat:=by
     by_cases e:0<=x/\cv c.s.T x.toNat
     ·exact e
     ·rw[lH e] at M;cases M
    obtain⟨i,rfl⟩:=Int.eq_ofNat_of_zero_le H.1;have aB:cv c.s.T i:=by simpa using H.2
    have hz:=K.out.2.2;have al:Fr (fun b=>b=w.heap.size) wr m:=(Fr.refl _ wr).grown bg (fun j e=>aK (by cases e;rfl))
    have I:cU c own' cM n1' n2 hm d m:=g.keep al.size (fun b hb=>al.block b (hb.elim (fun e=>aM e g.sz) (fun e=>(g.lt b e).2)) (fun e=>by
     subst e;rcases hb with e|e
     ·omega
     ·exact e ho))
    have aF:et own w own' m:=⟨t.fr.trans al (fun b e=>aJ (by rw[e];exact aD _)),t.nw⟩
    have P:=hs.ca i m (fun k hk=>I.ol k hk)
    have N:=dq F.left_eq be;have aR:ay (∀l,aw m l->sb i=false->gf l c.l.mb w.heap.size c.l.n (hJ c.s.T c.l.fm) (fun y=>left y&&!(y==(i:Int))) L/\cU c own' cM n1' n2 hm d l/\et own w own' l/\own' w.heap.size=0/\f7 c.s.T c.s.wt is d/\∀j:Nat,cv c.s.T j->(left j&&!((j:Int)==(i:Int)))=false->sb j=true->ct d.A j):=fun l n B=>by
     refine⟨p.same (n.block _ p.nl.lt) (n.block _ p.lt),I.below n,aF.trans (et.of n),ho,dp,fun j G h0 J=>?_⟩
     by_cases e:j=i
     ·subst e;rw[B] at J;cases J
     ·refine hd j G ?_ J;rwa [show((j:Int)==(i:Int))=false from by simp;omega,Bool.not_false,Bool.and_true] at h0
    have bl:ay (∀l,aw m l->sb i=true->Calls prog 245 #[aj c.cp,.slice (ak l.heap.size) 1 1] (l.alloc (.cells #[.int .i64 3,.int .i64 i] 97)) fun e w'=>∃o u A,e=.returned (.tuple #[])/\
     gf w' c.l.mb w.heap.size c.l.n (hJ c.s.T c.l.fm) (fun y=>left y&&!(y==(i:Int))) L/\cU c o u A n2 hm (dZ d (3,i)) w'/\et own w o w'/\o w.heap.size=0/\f7 c.s.T c.s.wt is (dZ d (3,i))/\∀j:Nat,cv c.s.T j->(left j&&!((j:Int)==(i:Int)))=false->sb j=true->ct (dZ d (3,i)).A j):=fun l n B=>by
     have E:=n.alloc n.size (.cells #[.int .i64 3,.int .i64 i] 97)
     refine(mx hg.g hg.t dp.mi.len (I.below E) (ak l.heap.size) 1 [(3,(i:Int))] (jH.one (I.below n) (3,(i:Int))) (fun b3 aV _=>by simp at aV;rw[aV];exact H) Z).mono ?_;rintro e w' ⟨o,u,A,rfl,g5,O⟩
     have am:=E.size;refine⟨o,u,A,rfl,p.same ((O.fr.block _ (aM p.nl.lt am) (fun C=>?_)).trans (E.block _ p.nl.lt)) ((O.fr.block _ (aM p.lt am) (fun C=>?_)).trans (E.block _ p.lt)),g5,(aF.trans (et.of E)).trans O.tk,?_,dp.mark hg.iv (3,(i:Int)) (fun _=>H) (fun _=>by simpa using hi.st i aB B),fun j G h0 J=>?_⟩
     ·have R:=(I.lt c.l.mb V).1;have S:=K.out.1;omega
     ·rw[ho] at C;omega
     ·rw[O.old _ (aM p.lt am)];exact ho
     ·by_cases e:j=i
      ·subst e;exact uc d (3,(j:Int)) rfl (by rw[dp.mi.len];simpa using aB.1)
      ·refine ni _ _ (hd j G ?_ J)
       rwa [show((j:Int)==(i:Int))=false from by simp;omega,Bool.not_false,Bool.and_true] at h0
    obtain⟨a0,a1,a2,vc,bn⟩:∃a0 a1 a2 vc,v=.agg #[ah a0,.slice a1 a2 vc]:=by rw[jb H] at M;exact⟨_,_,_,_,(Option.some.inj M).symm⟩
    subst bn;cases B:sb i
    ·rw[B] at P;have b4:=aR;go_wp2_with fail;refine P.mono ?_;rintro e l ⟨rfl,n⟩
     have D:=hide (aR.out l n B)
     go_wp2_with fail;go_roundw;exact⟨_,L,own',cM,n1',d,D⟩
     rw[D.out.1.left_eq,N.out.1];exact N.out.2
    ·rw[B] at P;go_wp2_with fail;refine P.mono ?_;rintro e l ⟨rfl,n⟩
     go_wp2_with fail;refine(ow i l).mono ?_;rintro e bo ⟨rfl,E⟩
     go_wp2_with fail;refine(bl.out bo (n.trans (E.mono n.size)) B).mono ?_;rintro e b5 ⟨bp,br,bs,rfl,q⟩
     have D:=hide q;go_wp2_with fail;go_roundw;exact⟨_,L,bp,br,bs,_,D⟩
     rw[D.out.1.left_eq,N.out.1];exact N.out.2
end
def jn (c:Cp)(bx:Nat):dr (List Bool) where
 J F A w:=∃b st,(rd c).J b st w/\st.A=A/\st.td=[]/\f7 c.s.T c.s.wt A st/\w.heap[bx]?=some (.cells #[aj c.cp] 249 (0,0))/\¬b bx/\∀k,F k↔b k\/k=bx
 lt:=by
  rintro F A w ⟨b,st,h,_,_,_,hb,_,d⟩ k hk;rcases(d k).1 hk with e|e
  ·exact(rd c).lt h k e
  ·rw[e];exact lt_of_some hb
 keep:=by rintro F A w w' ⟨b,st,h,f,g,dp,hb,hn,d⟩ hs hk;exact⟨b,st,(rd c).keep h hs (fun k i=>hk k ((d k).2 (aK i))),f,g,dp,(hk bx ((d bx).2 (aJ rfl))).trans hb,hn,d⟩
def mz (c:Cp)(x:Int):Prop:=0<=x/\cv c.s.T x.toNat
theorem Iu:dN 247:=f_ func247 ae rfl
theorem Iv:dN 248:=f_ func248 ae rfl
theorem Iw:dN 249:=f_ func249 ae rfl
section
variable {c:Cp}{own own':Nat->Nat}{vt cM:Value}{n1 n2 n1' d6:Nat}{hm hm':Int->Option Addr×Nat}{st:dw}{w w':ax}{is:List Bool}{bx:Nat}{g:List Bool->List Bool}
theorem Ix (hg:hL c):j9 (jn c bx) (mz c) 247 #[aj c.cp] #[] cL:=by
 rintro F A w x ⟨b,d⟩ ⟨e,st,⟨own,vt,n1,n2,hm,h,_⟩,rfl,_⟩
 exact HX h x b (by have:=d.1;have:=hg.t;omega)
theorem Iy:k7 (jn c bx) (mz c) 249 #[] #[] (fun _ x=>x):=by rintro F A w x _ _;go_wp2;go_ret;exact⟨rfl,aH _ _⟩
theorem Iz (l:dR c.s.T c.s.wt g){A:List Bool}{st b:dw}(d:f7 c.s.T c.s.wt A st)(f:st.A=A){x:Int}(i:mz c x)(sp:Ag c.s.T c.s.wt (A.set x.toNat true) (dZ st (3,x)) b):b.A=fw g A x/\f7 c.s.T c.s.wt (fw g A x) b:=by
 have hl:A.length=c.s.T.length:=by rw[<-f];exact d.mi.len
 have hi:∀k,ct (A.set x.toNat true) k↔x.toNat=k\/ct A k:=fun k=>by
  unfold ct;rw[i9 _ _ _ (by rw[hl];exact i.2.1)];split
  ·exact⟨fun _=>aK ‹_›,fun _=>rfl⟩
  ·exact⟨aJ,fun c=>c.resolve_left ‹_›⟩
 have hd:=sp.dp.mi.done sp.td (by rw[a4];exact hl) (fun k hk=>sp.up k (by
  rcases(hi k).1 hk with e|e
  ·rw[<-e];exact uc st (3,x) rfl (by rw[d.mi.len];exact i.2.1)
  ·exact ni _ _ (by rw[f];exact e)))
 have m:=l (A.set x.toNat true) (by rw[a4];exact hl) (fun k hk=>by
  rcases(hi k).1 hk with e|e
  ·rw[<-e];exact i.2
  ·exact d.mi.al k (by rw[f];exact e))
 have j:b.A=fw g A x:=hd.uniq m;exact⟨j,⟨sp.dp.mi.base (fun k hk=>by rw[<-j];exact hk),sp.dp.hl,sp.dp.mm⟩⟩
theorem IA (hg:hL c)(E:dR c.s.T c.s.wt g):nU (jn c bx) (mz c) 248 #[] #[aj bx] (fun A x=>(x,fw g A x)):=by
 rintro F A w x i ⟨G,st,⟨own,vt,n1,n2,hm,h,l⟩,m,W,dp,hb,hn,n⟩
 show Calls prog 248 #[ah x,aj bx] w _;have H:own bx=0:=by
  cases e:own bx
  ·rfl
  ·exact absurd ((l bx).2 (aJ (by rw[e];omega))) hn
 have lb:=lt_of_some hb;have X:_:=fun d=>hn ((l bx).2 (aK d))
 have u:w.cell? (aq bx 0)=some (aj c.cp):=by simp[World.cell?,hb]
 have I:f7 c.s.T c.s.wt (A.set x.toNat true) (dZ st (3,x)):=by
  have hl:A.length=c.s.T.length:=by rw[<-m];exact dp.mi.len
  refine f7.mark ⟨dp.mi.base (fun k hk=>zW (by rw[<-m];exact hk)),dp.hl,dp.mm⟩ hg.iv (3,x) (fun _=>i) (fun _=>?_)
  unfold ct;rw[i9 _ _ _ (by rw[hl];exact i.2.1),aI rfl]
 have J:ay (∀w1,aw w w1->Calls prog 245 #[aj c.cp,.slice (ak w1.heap.size) 1 1] (w1.alloc (.cells #[.int .i64 3,.int .i64 x] 97)) fun e w'=>e=.returned (.tuple #[])/\w'.cell? (aq bx 0)=some (aj c.cp)/\
  ay (Calls prog 246 #[aj c.cp] w' fun e o=>e=.returned (.tuple #[])/\∃j,(jn c bx).J j (fw g A x) o/\Fr F w o/\∀k,j k->F k\/w.heap.size<=k)):=fun w1 f=>by
  have v:=f.alloc f.size (.cells #[.int .i64 3,.int .i64 x] 97)
  refine(mx hg.g hg.t dp.mi.len (h.below v) (ak w1.heap.size) 1 [(3,x)] (jH.one (h.below f) (3,x)) (fun Y B _=>by simp at B;rw[B];exact i) Z).mono ?_;rintro e w' ⟨ab,ad,ag,rfl,g5,K⟩
  have C:=(fA.of v (fun b hb=>(h.lt b hb).2)).trans K;have L:=C.fr.block bx lb (fun d=>by omega)
  refine⟨rfl,(aP (a:=⟨bx,0,none⟩) L).trans u,?_⟩
  refine(Ai hg g5 I).mono ?_;rintro e o ⟨ai,al,am,an,ao,M,rfl,g3,t3,sp⟩
  obtain⟨q1,s⟩:=Iz E dp m i sp;have tk:=C.tk.trans t3;obtain⟨D,N,t⟩:=H3 (F:=G) g3 l tk.fr tk.nw;have O:=tk.fr.block bx lb (fun d=>d H)
  have Q:_:=fun d=>(t.sub bx d).elim hn (fun d=>by omega)
  exact⟨rfl,fun k=>D k\/k=bx,⟨D,M,N,q1,sp.td,s,O.trans hb,Q,fun _=>Iff.rfl⟩,t.fr.mono (fun k d=>(n k).2 (aK d)),fun k d=>d.elim (fun d=>(t.sub k d).imp (fun d=>(n k).2 (aK d)) id) (fun d=>aK ((n k).2 (aJ d)))⟩
 go_enter func248,ntmps248;go_wp2_with fail
 go_region_held3 (fun w'=>w'.cell? (aq bx 0)=some (aj c.cp)) (go_keep)
  (first
    |(go_at_call 239;refine(ow x _).mono ?_;rintro e w1 ⟨rfl,f⟩;have b1:=(f.cell (p:=aq bx 0) lb).trans u;have R:=hide ((aH _ w).drew.trans (f.mono bW)))
    |(go_at_call 245;refine(J.out w1 R.out).mono ?_;rintro e ap ⟨rfl,b2,S⟩))
 all_goals
  have P:=S.out;go_wp2_with fail;refine P.mono ?_;rintro e ar ⟨rfl,q⟩
  have U:=hide q;go_wp2_with fail;go_ret;obtain⟨j,q1,s,q3⟩:=U.out;exact⟨j,rfl,q1,s,q3⟩
end
structure nt {σ:Type}(lk:σ->b7->Bool×σ)(g:List Bool->List Bool)(pe:b7->b7)(R:List b7)(ρ:σ->List Bool->List b7->Prop):Prop where
 no:∀t L C e,ρ t L C->e∈R->cL L e.1=false->lk t (pe e)=(false,t)
 yes:∀t L C e,ρ t L C->e∈R->cL L e.1=true->(lk t (pe e)).1=true/\ρ (lk t (pe e)).2 (fw g L e.2) (C++[e])
section
variable {σ:Type}{lk:σ->b7->Bool×σ}{g:List Bool->List Bool}{pe:b7->b7}{R:List b7}{ρ:σ->List Bool->List b7->Prop}
theorem nt.pass (h:nt lk g pe R ρ):∀(l:List b7)(t:σ)(L:List Bool)(C D A:List b7),(∀e∈l,e∈R)->ρ t L C->
 ρ ((l.map pe).foldl (eh lk) (A,D.map pe,t)).2.2 (cf.pass cL (fw g) l L C D).1 (cf.pass cL (fw g) l L C D).2.1/\((l.map pe).foldl (eh lk) (A,D.map pe,t)).2.1=(cf.pass cL (fw g) l L C D).2.2.map pe/\
 ((l.map pe).foldl (eh lk) (A,D.map pe,t)).1.length+C.length=A.length+(cf.pass cL (fw g) l L C D).2.1.length
 |[],t,L,C,D,A,_,hr=>⟨hr,rfl,rfl⟩
 |e::l,t,L,C,D,A,hl,hr=>by
  have he:=hl e Z;rw[List.map_cons,a8];cases c:cL L e.1
  ·have b:eh lk (A,D.map pe,t) (pe e)=(A,(D++[e]).map pe,t):=by unfold eh;rw[h.no t L C e hr he c,List.map_append];rfl
   rw[b,cf.pass,c,aG Z];exact h.pass l t L C (D++[e]) A (fun x d=>hl x (aO _ d)) hr
  ·obtain⟨y1,f⟩:=h.yes t L C e hr he c;have b:eh lk (A,D.map pe,t) (pe e)=(A++[pe e],D.map pe,(lk t (pe e)).2):=by unfold eh;rw[aI y1]
   rw[b,cf.pass,c,aI rfl];obtain⟨i,j,k⟩:=h.pass l _ _ _ D _ (fun x d=>hl x (aO _ d)) f;refine⟨i,j,?_⟩
   simp only [List.length_append,List.length_cons,List.length_nil] at k;omega
theorem ux {σ:Type}(is:σ->Int->Bool)(kp:σ->Int->σ)(e:b7):∀(l:List b7)(s:σ)(C D:List b7),e∈(cf.pass is kp l s C D).2.2->e∈D\/e∈l
 |[],_,_,_,h=>aK h
 |x::l,s,C,D,h=>by
  rw[cf.pass] at h;split at h
  ·exact(ux is kp e l _ _ _ h).imp id (aO _)
  ·rcases ux is kp e l _ _ _ h with b|b
   ·rcases List.mem_append.1 b with b|b
    ·exact aK b
    ·exact aJ (by rw[List.mem_singleton.1 b];simp)
   ·exact aJ (aO _ b)
theorem Ao {σ:Type}(is:σ->Int->Bool)(kp:σ->Int->σ)(l:List b7)(s:σ)(C:List b7)(e:b7)(h:e∈(cf.pass is kp l s C []).2.2):e∈l:=
 (ux is kp e l s C [] h).resolve_left Z
theorem nt.turns (h:nt lk g pe R ρ):∀(n:Nat)(D:List b7)(t:σ)(L:List Bool)(C:List b7),(∀e∈D,e∈R)->ρ t L C->
 ρ (eB lk n t (D.map pe)).1 (cf.turns cL (fw g) n D L C).1 (cf.turns cL (fw g) n D L C).2.1/\(eB lk n t (D.map pe)).2=(cf.turns cL (fw g) n D L C).2.2.map pe
 |0,D,t,L,C,_,hr=>⟨hr,rfl⟩
 |n+1,D,t,L,C,f,hr=>by
  obtain⟨b,d,i⟩:=h.pass D t L C [] [] f hr;have b:=b;have d:(pts lk t (D.map pe)).2.1=(cf.pass cL (fw g) D L C []).2.2.map pe:=d;have i:(pts lk t (D.map pe)).1.length+C.length=0+(cf.pass cL (fw g) D L C []).2.1.length:=i;by_cases c:(pts lk t (D.map pe)).1.length=0
  ·rw[lR _ _ _ _ c,BO V];exact⟨b,d⟩
  ·rw[lS _ _ _ _ c,BN V,d];exact h.turns n _ _ _ _ (fun e he=>f e (Ao _ _ D L C e he)) b
end
theorem rk {d:Type}(lk:d->b7->Bool×d):∀(n k:Nat)(t:d)(b:List b7),b.length<n->b.length<k->eB lk n t b=eB lk k t b
 |0,_,_,_,h,_=>absurd h V
 |_+1,0,_,_,_,h=>absurd h V
 |n+1,k+1,t,b,e,f=>by
  have hl:=oL lk t b;by_cases c:(pts lk t b).1.length=0
  ·rw[lR _ _ _ _ c,lR _ _ _ _ c]
  ·rw[lS _ _ _ _ c,lS _ _ _ _ c];exact rk lk n k _ _ V V
theorem lI {b d:Type}(f:b->d)(p:d->Bool)(q:b->Bool):∀l:List b,(∀x∈l,p (f x)=q x)->(l.map f).filter p=(l.filter q).map f
 |[],_=>rfl
 |x::l,h=>by
  have e:=lI f p q l (fun y hy=>h y (aO _ hy))
  have g:=h x Z;rw[List.map_cons];cases c:q x
  ·rw[List.filter_cons_of_neg (by rw[g,c];simp),List.filter_cons_of_neg (by rw[c];simp),e]
  ·rw[List.filter_cons_of_pos (by rw[g,c]),List.filter_cons_of_pos c,List.map_cons,e]
section
variable {c:Cp}{bx p:Nat}{vr:Value}{g:List Bool->List Bool}{A:List Bool}{q r:List b7}
abbrev nu (s:List Bool×List b7)(x:Int):Bool:=cL s.1 x
abbrev ny (g:List Bool->List Bool)(s:List Bool×List b7)(x:Int):Int×(List Bool×List b7):=(x,(fw g s.1 x,s.2))
abbrev uy (_:List Bool×List b7)(x:Int):Int:=x
def fO (g:List Bool->List Bool)(A:List Bool)(r:List b7):List Bool×List b7×List b7:=turns cL (fw g) (r.length+1) (r.filter (fun e=>!cL A e.2)) A []
theorem IB (q:List b7):nt (cm (c7 (jn c bx) p vr) nu (ny g)) g id r (fun t L C=>t=(L,q++C)) where
 no:=by rintro t L C e rfl _ h;exact mS h
 yes:=by
  rintro t L C e rfl _ h;have b:=mT (o:=c7 (jn c bx) p vr) (is:=nu) (kp:=ny g) (s:=(L,q++C)) h;refine⟨by rw[id,b],?_⟩
  rw[id,b];show(fw g L e.2,(q++C)++[(e.1,e.2)])=_;rw[ba]
theorem rn:ft (c7 (jn c bx) p vr) nu (ny g) (A,q) r=((fO g A r).1,q++(fO g A r).2.1):=by have h:=((IB (c:=c) (bx:=bx) (p:=p) (vr:=vr) (g:=g) q).turns (r.length+1) (r.filter (fun e=>!cL A e.2)) (A,q) A [] (fun e he=>(List.mem_filter.1 he).1) (by rw[List.append_nil])).1;rw[List.map_id] at h;refine Eq.trans ?_ h;show(eB _ ((r.filter (fun e=>!cL A e.2)).length+1) (A,q) (r.filter (fun e=>!cL A e.2))).1=_;have hl:=bm (fun e:b7=>!cL A e.2) r;rw[rk (cm (c7 (jn c bx) p vr) nu (ny g)) _ (r.length+1) _ _ (Nat.lt_succ_self _) V]
theorem IC:eO (c7 (jn c bx) p vr) nu (ny g) uy (A,q) r=r.filter (fun e=>cL A e.2&&cL (fO g A r).1 e.1):=by
 unfold eO;rw[rn,List.filter_filter,List.map_id'']
 ·congr 1
  funext e
  rw[Bool.and_comm]
 ·exact fun _=>rfl
theorem ID:eP (c7 (jn c bx) p vr) nu (ny g) uy (A,q) r=(q++(fO g A r).2.1).filter (fun e=>cL (fO g A r).1 e.1):=by unfold eP;rw[rn];rw[List.map_id'' (fun _=>rfl)];rfl
theorem IE (e:b7)(h:e∈(fO g A r).2.1):e∈r:=by have b:=vv (is:=cL) (kp:=fw g) e (r.length+1) (r.filter (fun e=>!cL A e.2)) A [];have c:=List.count_pos_iff.2 h;unfold fO at c;rw[List.count_nil] at b;have d:0<(r.filter (fun e=>!cL A e.2)).count e:=V;exact(List.mem_filter.1 (List.count_pos_iff.1 d)).1
end
section
variable {c:Cp}{own own':Nat->Nat}{vt cM:Value}{n1 n2 n1' d6:Nat}{hm hm':Int->Option Addr×Nat}{st:dw}{w w':ax}{is:List Bool}{g:List Bool->List Bool}
theorem IF (hg:hL c)(J:dR c.s.T c.s.wt g)(hv:fH c.s)(h:cU c own vt n1 n2 hm st w)(dp:f7 c.s.T c.s.wt st.A st)(K:st.td=[]):
 Calls prog 234 #[aj c.cp] w fun e w'=>∃own' cM n1' d6 hm' f p a1 k1 a2 i,e=.returned (aj p)/\cU c own' cM n1' d6 hm' f w'/\f.A=(fO g st.A c.s.rg).1/\f.td=[]/\f7 c.s.T c.s.wt f.A f/\et own w own' w'/\
  fu w' p a1 k1 a2 i (c.s.rg.filter (fun e=>cL st.A e.2&&cL (fO g st.A c.s.rg).1 e.1)) ((c.s.wt++(fO g st.A c.s.rg).2.1).filter (fun e=>cL (fO g st.A c.s.rg).1 e.1))/\
  (w.heap.size<=p/\own' p=0)/\(∀k,some k=(Value.slice a1 (c.s.rg.filter (fun e=>cL st.A e.2&&cL (fO g st.A c.s.rg).1 e.1)).length k1).ownBlock->w.heap.size<=k/\own' k=0/\some k≠(Value.slice a2 ((c.s.wt++(fO g st.A c.s.rg).2.1).filter (fun e=>cL (fO g st.A c.s.rg).1 e.1)).length i).ownBlock)/\
  (∀k,some k=(Value.slice a2 ((c.s.wt++(fO g st.A c.s.rg).2.1).filter (fun e=>cL (fO g st.A c.s.rg).1 e.1)).length i).ownBlock->w.heap.size<=k/\own' k=0):=by
 have b1:=au w (.cells #[.pointer (some ⟨c.cp,0,none⟩)] 249)
 obtain⟨c0,_,_,_,_,aV⟩:=h.cells;have gv:=h.gv hg.g;obtain⟨_,_,_,_,_,g5,_,_,a0⟩:=gv.cells;have P:=yH _ c.l.bp c.l.a0 c.l.a1 c.l.k0 c.l.k1 c.s.rg c.s.wt ((h.below b1).gv hg.g).g3.sd (aT hv.gl aa) (aT hv.wl aa)
 have L:own w.heap.size=0:=by
  cases e:own w.heap.size
  ·rfl
  ·exact absurd (h.lt w.heap.size (by rw[e];omega)).2 V
 have D:ay (∀w1 p u k0 b1 k1,aw w w1->w1.heap[w.heap.size]?=some (.cells #[aj c.cp] 249 (0,0))->w.heap.size+1<=p->fu w1 p u k0 b1 k1 c.s.rg c.s.wt->(∀z,u=some z->w.heap.size+1<=z.block)->(∀z,b1=some z->w.heap.size+1<=z.block)->(∀k,some k=(Value.slice u c.s.rg.length k0).ownBlock->some k≠(Value.slice b1 c.s.wt.length k1).ownBlock)->
  Calls prog 78 #[aj p,.agg #[.func (.func 247) #[aj c.cp] #[],.func (.func 248) #[] #[aj w.heap.size],.func (.func 249) #[] #[]]] w1 fun e w'=>∃own' cM n1' d6 hm' f a1 k1 a2 i,e=.returned (.tuple #[])/\cU c own' cM n1' d6 hm' f w'/\f.A=(fO g st.A c.s.rg).1/\f.td=[]/\f7 c.s.T c.s.wt f.A f/\et own w own' w'/\
   fu w' p a1 k1 a2 i (c.s.rg.filter (fun e=>cL st.A e.2&&cL (fO g st.A c.s.rg).1 e.1)) ((c.s.wt++(fO g st.A c.s.rg).2.1).filter (fun e=>cL (fO g st.A c.s.rg).1 e.1))/\
   (w.heap.size<=p/\own' p=0)/\(∀k,some k=(Value.slice a1 (c.s.rg.filter (fun e=>cL st.A e.2&&cL (fO g st.A c.s.rg).1 e.1)).length k1).ownBlock->w.heap.size<=k/\own' k=0/\some k≠(Value.slice a2 ((c.s.wt++(fO g st.A c.s.rg).2.1).filter (fun e=>cL (fO g st.A c.s.rg).1 e.1)).length i).ownBlock)/\
   (∀k,some k=(Value.slice a2 ((c.s.wt++(fO g st.A c.s.rg).2.1).filter (fun e=>cL (fO g st.A c.s.rg).1 e.1)).length i).ownBlock->w.heap.size<=k/\own' k=0)):=by
  intro w1 p s k0 n k1 hb o hp l bb M bd;have v:∀k,((k<c.w0.heap.size\/own k≠0)\/k=w.heap.size)->k<w.heap.size+1:=fun k hk=>by
   have hz:=h.sz;rcases hk with(d|d)|d
   ·omega
   ·have:=(h.lt k d).2;omega
   ·omega
  have nq:∀k,some k=(Value.slice n c.s.wt.length k1).ownBlock->w.heap.size+1<=k:=fun k e=>by
   cases n with
   |none=>cases e
   |some z=>cases e;exact M z rfl
  have N:(jn c w.heap.size).J (fun k=>(k<c.w0.heap.size\/own k≠0)\/k=w.heap.size) st.A w1:=⟨fun k=>k<c.w0.heap.size\/own k≠0,st,⟨own,vt,n1,n2,hm,h.below hb,fun _=>Iff.rfl⟩,rfl,K,dp,o,fun d=>by
   have hz:=h.sz;rcases d with d|d
   ·omega
   ·exact d L,fun _=>Iff.rfl⟩
  have O:(c7 (jn c w.heap.size) p (.slice s c.s.rg.length k0)).J (fun k=>((k<c.w0.heap.size\/own k≠0)\/k=w.heap.size)\/k=p\/some k=(Value.slice n c.s.wt.length k1).ownBlock) (st.A,c.s.wt) w1:=⟨_,n,k1,N,l.blk,l.q0,fun k d=>aK d,aJ (aK rfl),fun d=>by have:=v p d;omega,fun k e=>⟨aJ (aJ e),fun d=>by have m:=v k d;have Q:=nq k e;omega⟩,fun k d=>by
   have hz:=hb.size;have be:=lt_of_some o;rcases d with d|d|d
   ·have:=v k d;omega
   ·rw[d];exact lt_of_some l.blk
   ·exact(cn l.q0 k d).2⟩
  have E:∀e∈c.s.rg,mz c e.1/\mz c e.2:=fun e he=>⟨(hv.gv e he).1,(hv.gv e he).2⟩
  have P:=p9 (c7 (jn c w.heap.size) p (.slice s c.s.rg.length k0)) (mz c) ⟨247,#[aj c.cp],#[]⟩ ⟨248,#[],#[aj w.heap.size]⟩ ⟨249,#[],#[]⟩ nu (ny g) uy
   (p_ (jn c w.heap.size) p _ (mz c) _ _ _ cL (fun A x=>(x,fw g A x)) (fun _ x=>x) Iu Iv Iw (Ix hg) (IA hg J) Iy) c.s.rg s k0 rfl (aT hv.gl aa) E _ (st.A,c.s.wt) w1 (by
     rw[rn];intro e he;rcases List.mem_append.1 he with he|he
     ·exact⟨hv.wg e he,hg.iv.wv e he⟩
     ·exact E e (IE e he)) (by have m:=hv.gl;have Q:=hv.wl;show c.s.wt.length+_<=_;omega) O (g7 l.r0)
  rw[IC,ID,rn] at P;refine P.mono ?_;rintro e w' ⟨a1,R,a2,S,F,bg,rfl,⟨U,bi,bl,⟨bn,f,⟨own',cM,n1',d6,hm',W,X⟩,G,Y,ab,bo,bp,ad⟩,_,_,ag,_,np,_,_⟩,same,ai,al,H,I,fr,am,an,ao,ap⟩
  have t:∀b,b<c.w0.heap.size\/own' b≠0->F b/\b≠p:=fun b j=>by
   have m:U b:=(ad b).2 (aK ((X b).2 j))
   exact⟨ag b m,fun e=>np (by rw[<-e];exact m)⟩
  have B:cU c own' cM n1' d6 hm' f w':=W.keep ai (fun b j=>same b (t b j).1 (t b j).2)
  have z0:∀b,¬F b->own' b=0:=fun b j=>by
   cases e:own' b
   ·rfl
   ·exact absurd (t b (aJ (by rw[e];omega))).1 j
  have ar:own' p=0:=by
   cases e:own' p
   ·rfl
   ·exact absurd rfl (t p (aJ (by rw[e];omega))).2
  have aB:=hb.size;have tk:et own w own' w':=by
   refine⟨⟨fr.os.trans hb.os,fr.tape.trans hb.tape,fr.output.trans hb.output,aT aB fr.size,fun k hk hn=>?_⟩,fun b j=>?_⟩
   ·by_cases C:k<c.w0.heap.size
    ·exact(B.ol k C).trans (h.ol k C).symm
    ·refine(fr.block k V (fun d=>?_)).trans (hb.block k hk)
     rcases d with((d|d)|d)|d|d
     ·exact C d
     ·exact hn d
     ·omega
     ·omega
     ·have:=nq k d;omega
   ·rcases am b (t b (aJ j)).1 with d|d
    ·rcases d with((d|d)|d)|d|d
     ·have:=(B.lt b j).1;omega
     ·exact aK d
     ·exact aJ V
     ·exact aJ V
     ·have:=nq b d;exact aJ V
    ·exact aJ V
  refine⟨own',cM,n1',d6,hm',f,a1,R,a2,S,rfl,B,G,Y,by rw[G];exact ab,tk,⟨al,eT H (fun _ _=>aZ _),eT I (fun _ _=>aZ _)⟩,⟨V,ar⟩,fun k e=>⟨?_,z0 k (an k e),ap k e⟩,fun k e=>⟨?_,z0 k (ao k e)⟩⟩
  ·have:=(cn H k e).1;omega
  ·have:=(cn I k e).1;omega
 generalize (c.s.rg.filter (fun e=>cL st.A e.2&&cL (fO g st.A c.s.rg).1 e.1))=br at*;generalize ((c.s.wt++(fO g st.A c.s.rg).2.1).filter (fun e=>cL (fO g st.A c.s.rg).1 e.1))=bs at*;go_enter func234,ntmps234;go_wp2_with fail;refine P.mono ?_;rintro e w1 ⟨p,s,k0,n,k1,rfl,hp,l,h0,m,hn,hb⟩
 have o:=(hb.block w.heap.size Z).trans (aN w (.cells #[.pointer (some ⟨c.cp,0,none⟩)] 249))
 have hz:(w.alloc (.cells #[.pointer (some ⟨c.cp,0,none⟩)] 249)).heap.size=w.heap.size+1:=Z;rw[hz] at hp h0 m;have bt:w1.cell? (aq w.heap.size 0)=some (aj c.cp):=by simp[World.cell?,o]
 have P:=D.out w1 p s k0 n k1 (b1.trans (hb.mono b1.size)) o hp l h0 m hn;clear hb l h0 m hn o b1 D;go_wp2_with fail;refine P.mono ?_;rintro e bx ⟨own',cM,n1',d6,hm',f,a1,aF,a2,i,rfl,q⟩
 have aR:ay (_):=q;go_wp2_with fail;go_ret;exact⟨own',cM,n1',d6,hm',f,p,a1,aF,a2,i,rfl,aR.out⟩
end
section
variable {T:List cD}{A:List Bool}{fm:Fm}
theorem Ap (i:Nat):(f6 A T T.length).getD i t0=if i<T.length then fz A i (T.getD i t0) else t0:=by
 by_cases hi:i<T.length
 ·rw[qV A T T.length i bW hi,aI hi,aI hi]
 ·rw[aG hi,aE,List.getElem?_eq_none (by rw[jD];omega)];rfl
theorem pL (c:gD T A)(i:Nat):cv (f6 A T T.length) i↔ct A i:=by
 unfold cv;rw[jD,Ap];constructor
 ·rintro⟨d,b⟩
  rw[aI d] at b;unfold fz at b;split at b
  ·assumption
  ·cases b
 ·intro h;have hi:=c.al i h;refine⟨hi.1,?_⟩
  rw[aI hi.1];unfold fz;rw[aI (show A.getD i false=true from h)];exact hi.2
theorem ru (b:gD T A){i:Nat}(h:ct A i):(f6 A T T.length).getD i t0=((T.getD i t0).1,iS A (T.getD i t0),true,(T.getD i t0).2.2.2):=by rw[Ap,aI (b.al i h).1];unfold fz;rw[aI (show A.getD i false=true from h)];rfl
theorem uz (hB:pJ T A){i:Nat}(h:ct A i):(iS A (T.getD i t0)).length=(T.getD i t0).2.1.length:=by
 unfold iS;split
 ·rename_i e;rw[hB.l2 i h (aJ e.1)];rfl
 ·split
  ·rename_i e;rw[hB.l2 i h (aK e.1)];rfl
  ·rfl
theorem IG (b:gD T A)(hB:pJ T A):hJ (f6 A T T.length) fm=eS T fm A:=by
 funext x
 by_cases h:0<=x/\ct A x.toNat
 ·rw[jb ⟨h.1,(pL b _).2 h.2⟩];unfold eS;rw[aI (show 0<=x/\A.getD x.toNat false=true from h)];dsimp only [fW,eD];rw[ru b h.2];rw[uz hB h.2]
 ·rw[lH (fun c=>h ⟨c.1,(pL b _).1 c.2⟩)];unfold eS;rw[aG (show¬(0<=x/\A.getD x.toNat false=true) from h)]
end
section
variable {bY:Nat}{b_ bZ:Int}{l:gF}{s:ck}{w w':ax}{A:List Bool}{ab p n1:Nat}{a1 a2:Option Addr}{k1 k2:Nat}{r q:List b7}
theorem dS.cut (h:dS bY b_ bZ l s w)(d:gD s.T A)(hB:pJ s.T A)(hz:w.heap.size<=w'.heap.size)(hk:∀b,l.own b=4->w'.heap[b]?=w.heap[b]?)
 (hb:w'.heap[bY]?=some (.cells #[ah b_,ah bZ,.map (some ab),ah s.T.length,ah s.T.length,aj p,.slice (ak l.rb) 12 12] 187 (0,0)))
 (hM:es w' ab n1 (eS s.T l.fm A))(hn:n1<=s.T.length)(hr:∀i,ct A i->w'.ownsRow 0 97 2 (eD s.T l.fm i) (s.T.getD i t0).2.1.length (ev (iS A (s.T.getD i t0))))(f:fu w' p a1 k1 a2 k2 r q)
 (n0:w.heap.size<=ab/\w.heap.size<=p)(D:∀k,some k=(Value.slice a1 r.length k1).ownBlock->w.heap.size<=k)(nq:∀k,some k=(Value.slice a2 q.length k2).ownBlock->w.heap.size<=k)(E:∀k,some k=(Value.slice a1 r.length k1).ownBlock->some k≠(Value.slice a2 q.length k2).ownBlock):
 ∃t,dS bY b_ bZ t {T:=f6 A s.T s.T.length,rs:=s.rs,rg:=r,wt:=q} w'/\∀b,t.own b≠0->l.own b≠0\/w.heap.size<=b:=by
 have F:p≠ab:=fun e=>by obtain⟨G,k,hm⟩:=hM.blk;have g:=f.blk;rw[e,hm] at g;cases g
 have u:∀b n (v:Value)(x:List Value),w'.ownsRow b 103 2 v n x->∀k,some k=v.ownBlock->k≠ab/\k≠p:=fun b n v x B k e=>by
  obtain⟨H,hc⟩:=e5 B k e;refine⟨fun j=>?_,f.np B k e⟩
  obtain⟨G,I,hm⟩:=hM.blk;rw[j,hm] at hc;cases hc
 have he:∀b,l.own b≠0->(if w.heap.size<=b then(if b=ab then 2 else if b=p then 3 else if some b=(Value.slice a1 r.length k1).ownBlock then 5 else if some b=(Value.slice a2 q.length k2).ownBlock then 6 else 0) else l.own b)=l.own b:=fun b hb=>aG (by have:=h.lt b hb;omega)
 refine⟨{own:=fun b=>if w.heap.size<=b then(if b=ab then 2 else if b=p then 3 else if some b=(Value.slice a1 r.length k1).ownBlock then 5 else if some b=(Value.slice a2 q.length k2).ownBlock then 6 else 0) else l.own b,mb:=ab,bp:=p,rb:=l.rb,fm:=l.fm,fe:=s.T.length,n:=n1,a0:=a1,k0:=k1,a1:=a2,k1:=k2},?_,fun b c=>?_⟩
 ·refine {blk:=?_,bo:=(he bY (by rw[h.bo];decide)).trans h.bo,g2:=?_,g3:=?_,g4:=?_,lt:=fun b c=>?_}
  ·rw[hb,jD]
  ·refine {mp:=?_,mn:=by rw[jD];exact hn,dp:=?_,fl:=fun i hi=>?_,eR:=fun i hi k e=>?_,fe:=fun i hi=>?_,al:=by rw[jD];exact aD _}
   ·dsimp only;rw[IG d hB];exact hM
   ·show(if _ then _ else _)=_;rw[aI n0.1,aI rfl]
   ·have hi:=(pL d i).1 hi;have g:=hr i hi;dsimp only [eD] at g⊢;rw[ru d hi];dsimp only;rw[uz hB hi];exact g
   ·have hi:=(pL d i).1 hi;dsimp only [eD] at e;rw[ru d hi] at e;rw[uz hB hi] at e;have C:=h.g2.eR i (d.al i hi) k e;exact(he k (by rw[C];omega)).trans C
   ·have hi:=(pL d i).1 hi;rw[ru d hi];have:=(d.al i hi).1;simp[this]
  ·refine {sd:=f,so:=?_,ro:=fun k e=>?_,mf:=fun k e=>?_}
   ·show(if _ then _ else _)=_;rw[aI n0.2,aG F,aI rfl]
   ·obtain⟨m,o⟩:=u _ _ _ _ f.r0 k e;show(if _ then _ else _)=_;rw[aI (D k e),aG m,aG o,aI e]
   ·obtain⟨m,o⟩:=u _ _ _ _ f.q0 k e;show(if _ then _ else _)=_;rw[aI (nq k e),aG m,aG o,aG (fun j=>E k j e),aI e]
  ·exact {rt:=(hk _ h.g4.ro).trans h.g4.rt,rl:=h.g4.rl,ro:=(he _ (by rw[h.g4.ro];decide)).trans h.g4.ro}
  ·dsimp only at c;split at c
   ·split at c
    ·rename_i e;rw[e];exact hM.lt
    ·split at c
     ·rename_i e;rw[e];exact lt_of_some f.blk
     ·split at c
      ·rename_i e;exact(cn f.r0 b e).2
      ·split at c
       ·rename_i e;exact(cn f.q0 b e).2
       ·exact absurd rfl c
   ·exact aM (h.lt b c) hz
 ·dsimp only at c;split at c
  ·exact aJ ‹_›
  ·exact aK c
end
end Go.Proofs.YtpkjkjhanlbcoaaGreat
