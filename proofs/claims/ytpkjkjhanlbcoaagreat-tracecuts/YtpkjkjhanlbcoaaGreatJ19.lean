import Derived.Test.YtpkjkjhanlbcoaaGreatJ18
open Array renaming size->I
open Bool renaming and_true->CW,false->K,not_false->Mg,true->D
open Go renaming Addr->bG,Calls->J,Value->bD
open Go.Ending renaming returned->E
open Go.IntKind renaming i64->Q
open Go.Obj renaming cells->R
open Go.Proofs.Tryz renaming prog->O
open Go.RowKit renaming Below->C
open Go.Value renaming agg->bF,int->U,ownBlock->Nh,pointer->bJ,slice->H,tuple->a8
open Go.World renaming alloc->bj,cell?->V,heap->G,ownsRow->aC,setCell->ay
open Iff renaming rfl->iy
open Int renaming eq_ofNat_of_zero_le->bH,toNat->M,toNat_natCast->bI
open List renaming count_pos_iff->MJ,getD->X,getElem?_eq_none->lg,length->L,length_singleton->hW,mem_filter->bM,replicate->Ni
open Option renaming none->M9,some->Z
open Option.some renaming inj->qo
namespace Go.Proofs.YtpkjkjhanlbcoaaGreat
set_option maxRecDepth 100000
set_option maxHeartbeats 8000000
open Tryz
open Go.RowKit W Kp cq
theorem Bz {P:Prop}(h:P:=by
 generalize (eI s.T).1=yn at*;generalize (eI s.T).2=od at*;go_enter func238,ntmps238;go_wp2_with fail;refine P.mono ?_;clear P;rintro e w1 ⟨rfl,hb⟩
 obtain⟨d0,d1⟩:=HC.o w1 hb;have P:=HP.o w1 hb;clear HC hb HP;go_wp2_with fail;refine P.mono ?_;rintro e w2 ⟨F',rfl,hj,ht⟩
 have HJ:=c8 hj ht;go_wp2_with fail;go_ret;exact⟨F',rfl,HJ.o⟩):P:=h
theorem BA {P:Prop}(h:P:=by have l1:=hR2.nZ.lt;have l2:=hR2.lt;exact⟨hR2.same ((hb3.block _ (by simp;omega)).trans (aS _ _ _ l1)) ((hb3.block _ (by simp;omega)).trans (aS _ _ _ l2)),b3.trans (hb3.mono b3.size),hlt⟩):P:=h
theorem vA {P:Prop}(h:P:=by rw[World.cell?_drew,aY _ _ _ _ ac];exact h):P:=h
theorem vB {P:Prop}(h:P:=by
 rintro e w' ⟨F',rfl,hj,ht⟩
 exact⟨F',rfl,hj,(ch.of hb).trans ht⟩):P:=h
theorem vC (k:Int)(ad:Option bG)(n cp:Nat)(hn:n<=100000)(w:az):J O 210 #[bF #[ak k,H ad n cp]] w fun e w'=>e=E (ak (1+n))/\C (I (G w)) w w':=by exact kH
theorem BB {w:az}{ce fM:Nat}(c4:V w (av ce 4)=Z (ak fM))(x:Int):J O 203 #[aq ce,ak x] w fun e w'=>e=E (.bool (decide (x<fM)))/\w'=w:=by go_wp2;go_ret;exact⟨rfl,rfl⟩
section
variable {ce:Nat}{cj b_:Int}{l:hP}{s:cn}{w:az}
theorem vD (h:dS ce cj b_ l s w)(ab:∀i,L (X s.T i t0).2.1<=12)(be:L s.T<=10000):
 J prog 137 #[aq ce] w fun e w'=>e=E (a8 #[ak (eI s.T).1,ak (eI s.T).2])/\C (I (G w)) w w':=by
 rw[JP];obtain⟨_,_,c2,_,c4,_,_,_,a1⟩:=h.cells;obtain⟨w1,cnt,ag,m,gr,sz⟩:=h.g2.mp.range (t:=184) (e:=220) underlying184;have a2:∀i,0<=jH s.T i/\jH s.T i<=13:=fun i=>by
  have:=ab i;unfold jH;split
  ·omega
  ·split
   ·omega
   ·omega
 have a3:∀i,0<=jI s.T i/\jI s.T i<=13:=fun i=>by
  have:=ab i;unfold jI;split
  ·omega
  ·split
   ·omega
   ·omega
 have B:=g_ a2 a3 ab;have z:∀f:Nat->Int,(∀i,(X s.T i t0).2.2.2=D->f i=0)->e7 (g7 (fun x=>(iC s.T l.fm x).isSome) f) (L s.T)=0:=fun f a4=>by
  rw[<-vy (L s.T)];refine n3 _ (fun i hi=>?_)
  unfold g7;by_cases ha:cA s.T i
  ·exact aJ (by dsimp only;rw[jG ⟨aa,by simpa using ha⟩];rfl)
  ·refine(aI (by dsimp only;rw[mr (fun c=>ha (by simpa using c.2))];simp)).trans (a4 i ?_)
   cases e:(X s.T i t0).2.2.2
   ·exact absurd ⟨hi,e⟩ ha
   ·rfl
 have ai:=z (jH s.T) (fun i e=>by unfold jH;rw[aJ e])
 have al:=z (jI s.T) (fun i e=>by unfold jI;rw[aJ e])
 have ar:=ja (b9.grown gr b8 (fun j am=>by cases am)) m ai al;have ba:=hide h;go_enter func137,ntmps137;go_wp2
 go_loopw [4,5] (fun y o wr=>∃(left:Int->Bool)(c:Nat),y=ak (e7 (g7 left (jH s.T)) (L s.T))/\o=ak (e7 (g7 left (jI s.T)) (L s.T))/\gS wr l.mb (I (G w)) l.n (iC s.T l.fm) left c/\C (I (G w)) w wr) (fun _ _ wr=>wr.rangeLeft l.mb (I (G w)))
 ·obtain⟨b,r,ai,al⟩:=ar.o;exact⟨_,cnt,by rw[ai],by rw[al],r,b⟩
 ·
   clear ar ag;obtain⟨left,c,rfl,rfl,m,hb⟩:=hrel;have mb:=sf left B.o.1 (L s.T);have nb:=sf left B.o.2.1 (L s.T);rcases m.next 0 with⟨h0,hl,ag⟩|⟨x,v,F,N,aB,S,ag,hR2,hlt,bb,bg,bi⟩
   ·have q:e7 (g7 left (jH s.T)) (L s.T)=e7 (jH s.T) (L s.T):=n3 _ (fun i _=>by unfold g7;rw[hl,aI ae])
    have bd:e7 (g7 left (jI s.T)) (L s.T)=e7 (jI s.T) (L s.T):=n3 _ (fun i _=>by unfold g7;rw[hl,aI ae])
    rw[q,bd];have d:=hide hb;clear hb m hl;go_wp2;go_ret2;exact⟨rfl,d.o⟩
   ·have an:0<=x/\cA s.T (M x):=by
     by_cases c:0<=x/\cA s.T (M x)
     ·exact c
     ·rw[mr c] at S;cases S
    obtain⟨i,rfl⟩:=bH an.1;have u:cA s.T i:=by simpa using an.2
    rw[jG an] at S;have hv:=(qo S).symm;dsimp only [gA,eV] at hv;rw[bI] at hv;subst hv;have s1:=vz left (jH s.T) i (L s.T) u.1 aB;have s2:=vz left (jI s.T) i (L s.T) u.1 aB;have bl:=sf (fun y=>left y&&!(y==(i:Int))) B.o.1 (L s.T);have bn:=B.o.2.2 i;have aF:=ba.o.g2.fM i u;have b2:=hb.grown bb hb.size (fun j am=>by cases am;exact aG _)
    have b3:=b2.alloc b2.size (R #[U Q (X s.T i t0).1,H (l.fm i).1 (L (X s.T i t0).2.1) (l.fm i).2] 220)
    have P:=BB ((b3.cell (p:=av ce 4) a1).trans c4) i;have aR:aA (∀g,C (I (G (bj F (R #[U Q (X s.T i t0).1,H (l.fm i).1 (L (X s.T i t0).2.1) (l.fm i).2] 220)))) (bj F (R #[U Q (X s.T i t0).1,H (l.fm i).1 (L (X s.T i t0).2.1) (l.fm i).2] 220)) g->gS g l.mb (I (G w)) l.n (iC s.T l.fm) (fun y=>left y&&!(y==(i:Int))) N/\C (I (G w)) w g/\N<c):=fun g hb3=>by exact BA
    have aV:=hide m.left_eq;have W:aA (∀w,J prog 210 #[bF #[ak (X s.T i t0).1,H (l.fm i).1 (L (X s.T i t0).2.1) (l.fm i).2]] w fun e w'=>e=E (ak (1+L (X s.T i t0).2.1))/\C (I (G w)) w w'):=fun w=>vC _ _ _ _ aa w;have y1:jH s.T i=if i<l.fM then 0 else 1+(L (X s.T i t0).2.1:Int):=by unfold jH;rw[u.2,aF];simp
    have o1:jI s.T i=if i<l.fM then 1+(L (X s.T i t0).2.1:Int) else 0:=by unfold jI;rw[u.2,aF];simp
    rw[y1] at s1;rw[o1] at s2;have k:=c8 s1 s2;generalize e7 (g7 left (jH s.T)) (L s.T)=Y at*;generalize e7 (g7 left (jI s.T)) (L s.T)=O at*;generalize L (X s.T i t0).2.1=n at*;generalize (X s.T i t0).1=kd at*;generalize (l.fm i).1=ad at*;generalize (l.fm i).2=cp at*;by_cases ho:i<l.fM
    ·have q:decide ((i:Int)<(l.fM:Int))=D:=by simp;exact ho
     rw[q] at P;rw[aJ ho,aJ ho] at k;go_wp2_with fail;refine P.mono ?_;clear P;rintro e g ⟨rfl,rfl⟩
     have a0:=W.o (bj F (R #[U Q kd,H ad n cp] 220))
     go_wp2_with fail;refine a0.mono ?_;clear a0;rintro e ao ⟨rfl,ap⟩
     have d:=hide (aR.o ao ap)
     go_wp2;go_roundw;exact⟨_,N,by rw[k.o.1];simp,by rw[k.o.2],d.o.1,d.o.2.1⟩
     rw[d.o.1.left_eq,aV.o];exact d.o.2.2
    ·have q:decide ((i:Int)<(l.fM:Int))=K:=by simp;omega
     rw[q] at P;rw[aI ho,aI ho] at k;go_wp2_with fail;refine P.mono ?_;rintro e g ⟨rfl,rfl⟩
     go_wp2_with fail;refine(W.o (bj F (R #[U Q kd,H ad n cp] 220))).mono ?_;rintro e ao ⟨rfl,ap⟩
     have d:=hide (aR.o ao ap)
     go_wp2;go_roundw;exact⟨_,N,by rw[k.o.1],by rw[k.o.2];simp,d.o.1,d.o.2.1⟩
     rw[d.o.1.left_eq,aV.o];exact d.o.2.2
end
section
variable {c:Cp}{own:Nat->Nat}{vt:bD}{n1 n2:Nat}{hm:Int->Option bG×Nat}{st:dE}{w w':az}{is:List Bool}
def k8 (T:List cJ)(A:List Bool)(i:Nat):Int:=if X A i K=D then 1+L (X T i t0).2.1 else 0
theorem JQ (hg:iD c)(h:cZ c own vt n1 n2 hm st w)(F:L st.A=L c.s.T):
 J O 235 #[aq c.cp] w fun e w'=>e=E (ak (iV c.s.T st.A (L c.s.T)))/\C (I (G w)) w w':=by
 rw[By];have N:(fun i=>if X st.A i K=D then 1+(L (X c.s.T i t0).2.1:Int) else 0)=k8 c.s.T st.A:=rfl;rw[N];obtain⟨_,c1,_,_,_,aF⟩:=h.cells;have aR:=hg.t;obtain⟨w1,cnt,o,d,gr,sz⟩:=h.am.range (t:=184) (e:=220) underlying184;have ab:∀i,0<=k8 c.s.T st.A i/\k8 c.s.T st.A i<=13:=fun i=>by
  have:=hg.iv.tl i;unfold k8;split
  ·omega
  ·omega
 have z:e7 (g7 (fun x=>(fi c.s.T c.l.fm st.A x).isSome) (k8 c.s.T st.A)) (L c.s.T)=0:=by
  rw[<-vy (L c.s.T)];refine n3 _ (fun i hi=>?_)
  have ea:(fi c.s.T c.l.fm st.A (i:Int)).isSome=X st.A i K:=by rw[vm aa,cW,bI]
  unfold g7 k8;cases hb:X st.A i K
  ·exact(aI (by dsimp only;rw[ea,hb];decide)).trans (aI ae)
  ·exact aJ (by dsimp only;rw[ea,hb])
 have p:=g_ ab hg.iv.tl F;have S:=g_ (b9.grown gr b8 (fun j q=>by cases q)) d z;clear h hg F d gr ab z N;go_enter func235,ntmps235;go_wp2
 go_loopw [3] (fun y wr=>∃(left:Int->Bool)(k:Nat),y=ak (e7 (g7 left (k8 c.s.T st.A)) (L c.s.T))/\gS wr c.ab (I (G w)) n1 (fi c.s.T c.l.fm st.A) left k/\C (I (G w)) w wr) (fun _ wr=>wr.rangeLeft c.ab (I (G w)))
 ·obtain⟨b,r,an⟩:=S.o;exact⟨_,cnt,by rw[an],r,b⟩
 ·
   clear S o;obtain⟨left,k,rfl,d,hb⟩:=hrel;have mb:=sf left p.o.1 (L c.s.T);rcases d.next 0 with⟨h0,hl,o⟩|⟨x,v,s,u,W,f,o,hR2,hlt,ag,aV,a0⟩
   ·rw[(n3 _ (fun i _=>by unfold g7;rw[hl,aI ae]))];have g:=hide hb;clear hb d hl;go_wp2;go_ret;exact⟨rfl,g.o⟩
   ·have l:0<=x/\X st.A (M x) K=D:=by
     unfold fi at f;split at f
     ·assumption
     ·cases f
    obtain⟨i,rfl⟩:=bH l.1;have B:X st.A i K=D:=by simpa using l.2
    have ao:i<L c.s.T:=by rw[<-p.o.2.2];exact cx.lt B
    have hv:v=gA c.s.T c.l.fm i:=by unfold fi at f;rw[aJ l] at f;exact(qo f).symm
    dsimp only [gA,eV] at hv;subst hv;have s1:=vz left (k8 c.s.T st.A) i (L c.s.T) ao W;have a1:=p.o.2.1 i;have b2:=hb.grown ag hb.size (fun j q=>by cases q;exact aG _)
    have b3:=b2.alloc b2.size (R #[U Q (X c.s.T i t0).1,H (c.l.fm i).1 (L (X c.s.T i t0).2.1) (c.l.fm i).2] 220)
    have ai:aA (∀m,C (I (G (bj s (R #[U Q (X c.s.T i t0).1,H (c.l.fm i).1 (L (X c.s.T i t0).2.1) (c.l.fm i).2] 220)))) (bj s (R #[U Q (X c.s.T i t0).1,H (c.l.fm i).1 (L (X c.s.T i t0).2.1) (c.l.fm i).2] 220)) m->gS m c.ab (I (G w)) n1 (fi c.s.T c.l.fm st.A) (fun y=>left y&&!(y==(i:Int))) u/\C (I (G w)) w m/\u<k):=fun m hb3=>by exact BA
    have ap:=hide d.left_eq;have al:=vC (X c.s.T i t0).1 (c.l.fm i).1 (L (X c.s.T i t0).2.1) (c.l.fm i).2 aa (bj s (R #[U Q (X c.s.T i t0).1,H (c.l.fm i).1 (L (X c.s.T i t0).2.1) (c.l.fm i).2] 220))
    rw[show k8 c.s.T st.A i=1+(L (X c.s.T i t0).2.1:Int) from by unfold k8;rw[aJ B]] at s1;have ar:=hide s1;clear d hb W f hR2 ag l b2 b3 B s1;generalize e7 (g7 left (k8 c.s.T st.A)) (L c.s.T)=Y at*;generalize L (X c.s.T i t0).2.1=n at*;generalize (X c.s.T i t0).1=kd at*;generalize (c.l.fm i).1=ad at*;generalize (c.l.fm i).2=cp at*;go_wp2_with fail;refine al.mono ?_;clear al;rintro e aB ⟨rfl,am⟩
    have g:=hide (ai.o aB am)
    clear am ai;go_wp2;go_roundw;exact⟨_,u,by rw[ar.o],g.o.1,g.o.2.1⟩
    rw[g.o.1.left_eq,ap.o];exact g.o.2.2
theorem gI.mark {T:List cJ}{wt:List cf}{s:dE}(h:gI T wt is s)(c:ey T wt)(v:Int×Int)(hv:v.1=3->0<=v.2/\cA T (M v.2))(d:v.1=3->cx is (M v.2)):gI T wt is (ej s v):=
 ⟨h.mi.mark c v hv (fun b X _ hb=>hb _ (d b)),by rw[(nY s v).1,(nY s v).2];exact h.hl,by rw[Ba s v (fun b=>by rw[h.mi.len];exact(hv b).2.1),(nY s v).2];exact h.mm⟩
theorem gI.marks {T:List cJ}{wt:List cf}(c:ey T wt):∀(l:List (Int×Int))(s:dE),gI T wt is s->(∀v∈l,v.1=3->0<=v.2/\cA T (M v.2))->(∀v∈l,v.1=3->cx is (M v.2))->gI T wt is (dy s l)
 |[],_,h,_,_=>h
 |v::l,s,h,hv,d=>gI.marks c l (ej s v) (h.mark c v (hv v ac) (d v ac)) (fun u b=>hv u (aW _ b)) (fun u b=>d u (aW _ b))
end
structure sg (c:Cp)(f:Nat)(b d:Array bD)(sb:Int->Bool):Prop where
 JR:dV f
 ca:∀(x:Int)(w:az),(∀k,k<I (G c.w0)->w.heap[k]?=c.w0.heap[k]?)->J O f (b.push (ak x)++d) w fun e w'=>e=E (.bool (sb x))/\C (I (G w)) w w'
structure BC (c:Cp)(sb:Int->Bool)(is:List Bool):Prop where
 st:∀i:Nat,cA c.s.T i->sb i=D->cx is i
 rt:∀v∈c.s.rs,v.1=3->cx is (M v.2)
 up:∀i:Nat,cx is i->(cA c.s.T i/\sb i=D)\/∃v∈c.s.rs,v.1=3/\M v.2=i
 rv:∀v∈c.s.rs,v.1=3->0<=v.2/\cA c.s.T (M v.2)
section
variable {c:Cp}{own own':Nat->Nat}{vt cT:bD}{n1 n2 n1' et:Nat}{hm hm':Int->Option bG×Nat}{st:dE}{w w':az}{is:List Bool}{sb:Int->Bool}
theorem JS {w:az}{b:Nat}{l:List _}(h:w.heap[b]?=Z (R (ev l).toArray 97 (0,0))):dA w (au b) l:=fun _=>by
 refine⟨b,0,rfl,lt_of_some h,fun i hi=>?_⟩
 obtain⟨c,d⟩:=oo l i hi;constructor
 ·simp[World.cell?,h];simpa using c
 ·simp[World.cell?,h];simpa using d
theorem JT (hg:iD c)(h:cZ c own vt n1 n2 hm st w)(dz:gI c.s.T c.s.wt is st){f:Nat}{b S:Array bD}(hs:sg c f b S sb)(hi:BC c sb is):
 J O 233 #[aq c.cp,.func (.func f) b S] w fun e w'=>∃own' cT n1' et hm' d,e=E (a8 #[])/\cZ c own' cT n1' et hm' d w'/\eR own w own' w'/\gI c.s.T c.s.wt is d/\d.td=[]/\∀k,cx is k->cx d.A k:=by
 have b2:=hs.JR;unfold dV at b2;obtain⟨c0,_,_,_,_,cg⟩:=h.cells;have gv:=h.gv hg.g;obtain⟨_,_,g2,_,_,_,_,_,ch⟩:=gv.cells;obtain⟨w1,b3,bi,ad,gr,sz⟩:=gv.g2.mp.range (t:=184) (e:=220) underlying184;have bl:=b9.grown gr b8 (fun j ag=>by cases ag)
 have bn:=g_ hg hs hi;have aF:=ja ad bl (h.below bl) dz;have an:aA (c.l.mb<I (G c.w0)/\own (I (G w))=0/\I (G c.w0)<=I (G w)):=⟨hg.g.g2.mp.lt,by
  cases e:own (I (G w))
  ·rfl
  ·exact absurd (h.lt (I (G w)) (by rw[e];omega)).2 aa,h.sz⟩
 go_enter func233,ntmps233;go_wp2_with fail
 go_loopw [4] (fun _ wr=>∃(left:Int->Bool)(k:Nat)(own':Nat->Nat)(cT:bD)(n1':Nat)(d:dE),aA (gS wr c.l.mb (I (G w)) c.l.n (iC c.s.T c.l.fm) left k/\cZ c own' cT n1' n2 hm d wr/\eR own w own' wr/\own' (I (G w))=0/\gI c.s.T c.s.wt is d/\∀i:Nat,cA c.s.T i->left i=K->sb i=D->cx d.A i)) (fun _ wr=>wr.rangeLeft c.l.mb (I (G w)))
 ·obtain⟨r,_,g,dz⟩:=aF.o;exact⟨_,b3,own,vt,n1,st,r,g,eR.of aF.o.2.1,an.o.2.1,dz,fun i hi h0 _=>by rw[jG ⟨aa,by simpa using hi⟩] at h0;cases h0⟩
 ·
   obtain⟨left,k,own',cT,n1',d,bo⟩:=hrel;obtain⟨ad,g,t,ho,dz,hd⟩:=bo.o;obtain⟨hg,hs,hi⟩:=bn.o;rcases ad.next 0 with⟨h0,hl,bi⟩|⟨x,v,m,ao,ci,ap,bi,p,b4,b5,cj,ck⟩
   ·
     have gv:=g.gv hg.g;obtain⟨cl,_,_,_,_,_⟩:=g.cells;obtain⟨_,_,_,_,_,_,cm,_,_⟩:=gv.cells;have rl:=gv.g4.rl;have P:=mW hg.g hg.t dz.mi.len g (au c.l.rb) 12 c.s.rs ⟨JS gv.g4.rt,fun _ z e S=>by
      cases e;have aR:=hg.g.lt c.l.rb (by rw[hg.g.g4.ro];decide)
      have aV:=(g.lt c.l.rb (by dsimp only at S;omega)).1;omega⟩ hi.rv aa
     rw[rl] at P;have b6:aA (∀o B F m,cZ c o B F n2 hm (dy d c.s.rs) m->fV own' wr o m->J O 246 #[aq c.cp] m fun e w'=>∃own' cT n1' et hm' d,e=E (a8 #[])/\cZ c own' cT n1' et hm' d w'/\eR own w own' w'/\gI c.s.T c.s.wt is d/\d.td=[]/\∀k,cx is k->cx d.A k):=fun o B F m g2 a0=>by
      refine(Bv hg g2 (dz.marks (s:=d) hg.iv c.s.rs hi.rv hi.rt)).mono ?_;rintro e w' ⟨a1,a2,a3,a4,ba,bb,rfl,g3,t3,sp⟩
      refine⟨a1,a2,a3,a4,ba,bb,rfl,g3,(t.trans a0.tk).trans t3,sp.dz,sp.td,fun i hk=>sp.up i ?_⟩
      rcases hi.up i hk with⟨aR,aV⟩|⟨v,hv,bd,e⟩
      ·exact kZ _ _ (hd i aR (hl _) aV)
      ·rw[<-e];exact vf d c.s.rs (fun v hv bd=>by rw[dz.mi.len];exact(hi.rv v hv bd).2.1) v hv bd
     clear ad g t dz hd hg hs hi gv hl bo bn an aF rl ho;go_wp2_with fail;refine P.mono ?_;rintro e m ⟨o,B,F,rfl,g2,a0⟩
     have P:=b6.o o B F m g2 a0;go_wp2_with fail;refine P.mono ?_;rintro e l ⟨a1,a2,a3,a4,ba,bb,rfl,q⟩
     have W:=hide q;go_wp2_with fail;go_end0;exact⟨a1,a2,a3,a4,ba,bb,rfl,W.o⟩
   ·have ai:0<=x/\cA c.s.T (M x):=by
     by_cases e:0<=x/\cA c.s.T (M x)
     ·exact e
     ·rw[mr e] at ap;cases ap
    obtain⟨i,rfl⟩:=bH ai.1;have bp:cA c.s.T i:=by simpa using ai.2
    have hz:=an.o.2.2;have be:Fr (fun b=>b=I (G w)) wr m:=(Fr.refl _ wr).grown b5 (fun j e=>aM (by cases e;rfl))
    have al:cZ c own' cT n1' n2 hm d m:=g.keep be.size (fun b hb=>be.block b (hb.elim (fun e=>aO e g.sz) (fun e=>(g.lt b e).2)) (fun e=>by
     subst e;rcases hb with e|e
     ·omega
     ·exact e ho))
    have br:eR own w own' m:=⟨t.fr.trans be (fun b e=>aK (by rw[e];exact aG _)),t.nw⟩
    have P:=hs.ca i m (fun k hk=>al.ol k hk)
    have ar:=c8 ad.left_eq b4;have bs:aA (∀l,C (I (G m)) m l->sb i=K->gS l c.l.mb (I (G w)) c.l.n (iC c.s.T c.l.fm) (fun y=>left y&&!(y==(i:Int))) ao/\cZ c own' cT n1' n2 hm d l/\eR own w own' l/\own' (I (G w))=0/\gI c.s.T c.s.wt is d/\∀j:Nat,cA c.s.T j->(left j&&!((j:Int)==(i:Int)))=K->sb j=D->cx d.A j):=fun l n N=>by
     refine⟨p.same (n.block _ p.nZ.lt) (n.block _ p.lt),al.below n,br.trans (eR.of n),ho,dz,fun j ag h0 am=>?_⟩
     by_cases e:j=i
     ·subst e;rw[N] at am;cases am
     ·refine hd j ag ?_ am;rwa [show((j:Int)==(i:Int))=K from by simp;omega,Mg,CW] at h0
    have ca:aA (∀l,C (I (G m)) m l->sb i=D->J O 245 #[aq c.cp,H (au (I (G l))) 1 1] (bj l (R #[U Q 3,U Q i] 97)) fun e w'=>∃o B F,e=E (a8 #[])/\
     gS w' c.l.mb (I (G w)) c.l.n (iC c.s.T c.l.fm) (fun y=>left y&&!(y==(i:Int))) ao/\cZ c o B F n2 hm (ej d (3,i)) w'/\eR own w o w'/\o (I (G w))=0/\gI c.s.T c.s.wt is (ej d (3,i))/\∀j:Nat,cA c.s.T j->(left j&&!((j:Int)==(i:Int)))=K->sb j=D->cx (ej d (3,i)).A j):=fun l n N=>by
     have ab:=n.alloc n.size (R #[U Q 3,U Q i] 97)
     refine(mW hg.g hg.t dz.mi.len (al.below ab) (au (I (G l))) 1 [(3,(i:Int))] (j9.one (al.below n) (3,(i:Int))) (fun u bt _=>by simp at bt;rw[bt];exact ai) ac).mono ?_;rintro e w' ⟨o,B,F,rfl,g5,aB⟩
     have bg:=ab.size;refine⟨o,B,F,rfl,p.same ((aB.fr.block _ (aO p.nZ.lt bg) (fun S=>?_)).trans (ab.block _ p.nZ.lt)) ((aB.fr.block _ (aO p.lt bg) (fun S=>?_)).trans (ab.block _ p.lt)),g5,(br.trans (eR.of ab)).trans aB.tk,?_,dz.mark hg.iv (3,(i:Int)) (fun _=>ai) (fun _=>by simpa using hi.st i bp N),fun j ag h0 am=>?_⟩
     ·have aR:=(al.lt c.l.mb aa).1;have aV:=an.o.1;omega
     ·rw[ho] at S;omega
     ·rw[aB.old _ (aO p.lt bg)];exact ho
     ·by_cases e:j=i
      ·subst e;exact vd d (3,(j:Int)) rfl (by rw[dz.mi.len];simpa using bp.1)
      ·refine qd _ _ (hd j ag ?_ am)
       rwa [show((j:Int)==(i:Int))=K from by simp;omega,Mg,CW] at h0
    obtain⟨bx,b0,b1,vc,cb⟩:∃bx b0 b1 vc,v=bF #[ak bx,H b0 b1 vc]:=by rw[jG ai] at ap;exact⟨_,_,_,_,(qo ap).symm⟩
    subst cb;cases N:sb i
    ·rw[N] at P;have cn:=bs;go_wp2_with fail;refine P.mono ?_;rintro e l ⟨rfl,n⟩
     have W:=hide (bs.o l n N)
     go_wp2_with fail;go_roundw;exact⟨_,ao,own',cT,n1',d,W⟩
     rw[W.o.1.left_eq,ar.o.1];exact ar.o.2
    ·rw[N] at P;go_wp2_with fail;refine P.mono ?_;rintro e l ⟨rfl,n⟩
     go_wp2_with fail;refine(o4 i l).mono ?_;rintro e cc ⟨rfl,ab⟩
     go_wp2_with fail;refine(ca.o cc (n.trans (ab.mono n.size)) N).mono ?_;rintro e co ⟨cd,ce,cf,rfl,q⟩
     have W:=hide q;go_wp2_with fail;go_roundw;exact⟨_,ao,cd,ce,cf,_,W⟩
     rw[W.o.1.left_eq,ar.o.1];exact ar.o.2
end
def jR (c:Cp)(bx:Nat):dC (List Bool) where
 J F A w:=∃b st,(r_ c).J b st w/\st.A=A/\st.td=[]/\gI c.s.T c.s.wt A st/\w.heap[bx]?=Z (R #[aq c.cp] 249 (0,0))/\¬b bx/\∀k,F k↔b k\/k=bx
 lt:=by
  rintro F A w ⟨b,st,h,_,_,_,hb,_,d⟩ k hk;rcases(d k).1 hk with e|e
  ·exact(r_ c).lt h k e
  ·rw[e];exact lt_of_some hb
 keep:=by rintro F A w w' ⟨b,st,h,f,g,dz,hb,hn,d⟩ hs hk;exact⟨b,st,(r_ c).keep h hs (fun k i=>hk k ((d k).2 (aM i))),f,g,dz,(hk bx ((d bx).2 (aK rfl))).trans hb,hn,d⟩
def mY (c:Cp)(x:Int):Prop:=0<=x/\cA c.s.T (M x)
theorem JU:dV 247:=gM func247 ah rfl
theorem JV:dV 248:=gM func248 ah rfl
theorem JW:dV 249:=gM func249 ah rfl
section
variable {c:Cp}{own:Nat->Nat}{vt:bD}{n1 n2:Nat}{hm:Int->Option bG×Nat}{st:dE}{w w':az}{bx:Nat}{g:List Bool->List Bool}
theorem JX (hg:iD c):kJ (jR c bx) (mY c) 247 #[aq c.cp] #[] cW:=by
 rintro F A w x ⟨b,d⟩ ⟨e,st,⟨own,vt,n1,n2,hm,h,_⟩,rfl,_⟩
 exact Jj h x b (by have:=d.1;have:=hg.t;omega)
theorem JY:lP (jR c bx) (mY c) 249 #[] #[] (fun _ x=>x):=by rintro F A w x _ _;go_wp2;go_ret;exact⟨rfl,aH _ _⟩
theorem JZ (l:dB c.s.T c.s.wt g){A:List Bool}{st b:dE}(d:gI c.s.T c.s.wt A st)(f:st.A=A){x:Int}(i:mY c x)(sp:Bt c.s.T c.s.wt (A.set (M x) D) (ej st (3,x)) b):b.A=fR g A x/\gI c.s.T c.s.wt (fR g A x) b:=by
 have hl:L A=L c.s.T:=by rw[<-f];exact d.mi.len
 have hi:∀k,cx (A.set (M x) D) k↔M x=k\/cx A k:=fun k=>by
  unfold cx;rw[nk _ _ _ (by rw[hl];exact i.2.1)];split
  ·exact⟨fun _=>aM ‹_›,fun _=>rfl⟩
  ·exact⟨aK,fun c=>c.resolve_left ‹_›⟩
 have hd:=sp.dz.mi.done sp.td (by rw[bh];exact hl) (fun k hk=>sp.up k (by
  rcases(hi k).1 hk with e|e
  ·rw[<-e];exact vd st (3,x) rfl (by rw[d.mi.len];exact i.2.1)
  ·exact qd _ _ (by rw[f];exact e)))
 have m:=l (A.set (M x) D) (by rw[bh];exact hl) (fun k hk=>by
  rcases(hi k).1 hk with e|e
  ·rw[<-e];exact i.2
  ·exact d.mi.al k (by rw[f];exact e))
 have j:b.A=fR g A x:=hd.uniq m;exact⟨j,⟨sp.dz.mi.base (fun k hk=>by rw[<-j];exact hk),sp.dz.hl,sp.dz.mm⟩⟩
theorem J0 (hg:iD c)(ab:dB c.s.T c.s.wt g):ou (jR c bx) (mY c) 248 #[] #[aq bx] (fun A x=>(x,fR g A x)):=by
 rintro F A w x i ⟨ad,st,⟨own,vt,n1,n2,hm,h,l⟩,m,a0,dz,hb,hn,n⟩
 show Calls O 248 #[ak x,aq bx] w _;have ag:own bx=0:=by
  cases e:own bx
  ·rfl
  ·exact absurd ((l bx).2 (aK (by rw[e];omega))) hn
 have lb:=lt_of_some hb;have a1:_:=fun d=>hn ((l bx).2 (aM d))
 have v:V w (av bx 0)=Z (aq c.cp):=aD hb
 have ai:gI c.s.T c.s.wt (A.set (M x) D) (ej st (3,x)):=by
  have hl:L A=L c.s.T:=by rw[<-m];exact dz.mi.len
  refine gI.mark ⟨dz.mi.base (fun k hk=>A_ (by rw[<-m];exact hk)),dz.hl,dz.mm⟩ hg.iv (3,x) (fun _=>i) (fun _=>?_)
  unfold cx;rw[nk _ _ _ (by rw[hl];exact i.2.1),aJ rfl]
 have al:aA (∀w1,C (I (G w)) w w1->Calls O 245 #[aq c.cp,H (au (I (G w1))) 1 1] (bj w1 (R #[U Q 3,U Q x] 97)) fun e w'=>e=E (a8 #[])/\V w' (av bx 0)=Z (aq c.cp)/\
  aA (Calls O 246 #[aq c.cp] w' fun e o=>e=E (a8 #[])/\∃j,(jR c bx).J j (fR g A x) o/\Fr F w o/\∀k,j k->F k\/I (G w)<=k)):=fun w1 f=>by
  have B:=f.alloc f.size (R #[U Q 3,U Q x] 97)
  refine(mW hg.g hg.t dz.mi.len (h.below B) (au (I (G w1))) 1 [(3,x)] (j9.one (h.below f) (3,x)) (fun u N _=>by simp at N;rw[N];exact i) ac).mono ?_;rintro e w' ⟨a2,a3,a4,rfl,g5,am⟩
  have S:=(fV.of B (fun b hb=>(h.lt b hb).2)).trans am;have an:=S.fr.block bx lb (fun d=>by omega)
  refine⟨rfl,(aQ (a:=⟨bx,0,M9⟩) an).trans v,?_⟩
  refine(Bv hg g5 ai).mono ?_;rintro e o ⟨ba,bb,bd,be,bg,ao,rfl,g3,t3,sp⟩
  obtain⟨q1,s⟩:=JZ ab dz m i sp;have tk:=S.tk.trans t3;obtain⟨W,ap,t⟩:=Jt (F:=ad) g3 l tk.fr tk.nw;have ar:=tk.fr.block bx lb (fun d=>d ag)
  have aB:_:=fun d=>(t.sub bx d).elim hn (fun d=>by omega)
  exact⟨rfl,fun k=>W k\/k=bx,⟨W,ao,ap,q1,sp.td,s,ar.trans hb,aB,fun _=>iy⟩,t.fr.mono (fun k d=>(n k).2 (aM d)),fun k d=>d.elim (fun d=>(t.sub k d).imp (fun d=>(n k).2 (aM d)) id) (fun d=>aM ((n k).2 (aK d)))⟩
 go_enter func248,ntmps248;go_wp2_with fail
 go_region_held3 (fun w'=>V w' (av bx 0)=Z (aq c.cp)) (go_keep)
  (first
    |(go_at_call 239;refine(o4 x _).mono ?_;rintro e w1 ⟨rfl,f⟩;have b1:=(f.cell (p:=av bx 0) lb).trans v;have aF:=hide ((aH _ w).drew.trans (f.mono b8)))
    |(go_at_call 245;refine(al.o w1 aF.o).mono ?_;rintro e bi ⟨rfl,b2,aR⟩))
 all_goals
  have P:=aR.o;go_wp2_with fail;refine P.mono ?_;rintro e bl ⟨rfl,q⟩
  have aV:=hide q;go_wp2_with fail;go_ret;obtain⟨j,q1,s,q3⟩:=aV.o;exact⟨j,rfl,q1,s,q3⟩
end
section
variable {c:Cp}{bx p:Nat}{vr:bD}{g:List Bool->List Bool}{A:List Bool}{q r:List cf}
abbrev n5 (s:List Bool×List cf)(x:Int):Bool:=cW s.1 x
abbrev n6 (g:List Bool->List Bool)(s:List Bool×List cf)(x:Int):Int×(List Bool×List cf):=(x,(fR g s.1 x,s.2))
abbrev vE (_:List Bool×List cf)(x:Int):Int:=x
def gj (g:List Bool->List Bool)(A:List Bool)(r:List cf):List Bool×List cf×List cf:=turns cW (fR g) (L r+1) (r.filter (fun e=>!cW A e.2)) A []
theorem J3 (q:List cf):nm (cm (di (jR c bx) p vr) n5 (n6 g)) g id r (fun t L C=>t=(L,q++C)) where
 no:=by rintro t L C e rfl _ h;exact nc h
 yes:=by
  rintro t L C e rfl _ h;have b:=nf (o:=di (jR c bx) p vr) (is:=n5) (kp:=n6 g) (s:=(L,q++C)) h;refine⟨by rw[id,b],?_⟩
  rw[id,b];show(fR g L e.2,(q++C)++[(e.1,e.2)])=_;rw[bw]
theorem si:fQ (di (jR c bx) p vr) n5 (n6 g) (A,q) r=((gj g A r).1,q++(gj g A r).2.1):=by have h:=((J3 (c:=c) (bx:=bx) (p:=p) (vr:=vr) (g:=g) q).turns (L r+1) (r.filter (fun e=>!cW A e.2)) (A,q) A [] (fun e he=>(bM.1 he).1) (by simp_all)).1;rw[List.map_id] at h;refine Eq.trans ?_ h;show(eT _ (L (r.filter (fun e=>!cW A e.2))+1) (A,q) (r.filter (fun e=>!cW A e.2))).1=_;have hl:=bm (fun e:cf=>!cW A e.2) r;rw[qF (cm (di (jR c bx) p vr) n5 (n6 g)) _ (L r+1) _ _ (Nat.lt_succ_self _) aa]
theorem J4:e9 (di (jR c bx) p vr) n5 (n6 g) vE (A,q) r=r.filter (fun e=>cW A e.2&&cW (gj g A r).1 e.1):=by
 unfold e9;rw[si,List.filter_filter,List.map_id'']
 ·congr 1
  funext e
  rw[Bool.and_comm]
 ·exact fun _=>rfl
theorem J5:e_ (di (jR c bx) p vr) n5 (n6 g) vE (A,q) r=(q++(gj g A r).2.1).filter (fun e=>cW (gj g A r).1 e.1):=by unfold e_;rw[si];rw[List.map_id'' (fun _=>rfl)];rfl
theorem J6 (e:cf)(h:e∈(gj g A r).2.1):e∈r:=by have b:=wM (is:=cW) (kp:=fR g) e (L r+1) (r.filter (fun e=>!cW A e.2)) A [];have c:=MJ.2 h;unfold gj at c;rw[List.count_nil] at b;have d:0<(r.filter (fun e=>!cW A e.2)).count e:=aa;exact(bM.1 (MJ.1 d)).1
end
section
variable {c:Cp}{own own':Nat->Nat}{vt cT:bD}{n1 n2 n1' et:Nat}{hm hm':Int->Option bG×Nat}{st:dE}{w w':az}{g:List Bool->List Bool}
theorem J7 (hg:iD c)(ai:dB c.s.T c.s.wt g)(hv:fK c.s)(h:cZ c own vt n1 n2 hm st w)(dz:gI c.s.T c.s.wt st.A st)(al:st.td=[]):
 Calls O 234 #[aq c.cp] w fun e w'=>∃own' cT n1' et hm' f p a1 k1 a2 i,e=E (aq p)/\cZ c own' cT n1' et hm' f w'/\f.A=(gj g st.A c.s.rg).1/\f.td=[]/\gI c.s.T c.s.wt f.A f/\eR own w own' w'/\
  fU w' p a1 k1 a2 i (c.s.rg.filter (fun e=>cW st.A e.2&&cW (gj g st.A c.s.rg).1 e.1)) ((c.s.wt++(gj g st.A c.s.rg).2.1).filter (fun e=>cW (gj g st.A c.s.rg).1 e.1))/\
  (I (G w)<=p/\own' p=0)/\(∀k,Z k=Nh (Value.slice a1 (L (c.s.rg.filter (fun e=>cW st.A e.2&&cW (gj g st.A c.s.rg).1 e.1))) k1)->I (G w)<=k/\own' k=0/\Z k≠Nh (Value.slice a2 (L ((c.s.wt++(gj g st.A c.s.rg).2.1).filter (fun e=>cW (gj g st.A c.s.rg).1 e.1))) i))/\
  (∀k,Z k=Nh (Value.slice a2 (L ((c.s.wt++(gj g st.A c.s.rg).2.1).filter (fun e=>cW (gj g st.A c.s.rg).1 e.1))) i)->I (G w)<=k/\own' k=0):=by
 have b1:=aw w (R #[bJ (Z ⟨c.cp,0,M9⟩)] 249)
 obtain⟨c0,_,_,_,_,bt⟩:=h.cells;have gv:=h.gv hg.g;obtain⟨_,_,_,_,_,g5,_,_,bx⟩:=gv.cells;have P:=z5 _ c.l.bp c.l.a0 c.l.a1 c.l.k0 c.l.k1 c.s.rg c.s.wt ((h.below b1).gv hg.g).g3.sd (aU hv.gl ae) (aU hv.wl ae)
 have am:own (I (G w))=0:=by
  cases e:own (I (G w))
  ·rfl
  ·exact absurd (h.lt (I (G w)) (by rw[e];omega)).2 aa
 have N:aA (∀w1 p u k0 b1 k1,C (I (G w)) w w1->w1.heap[I (G w)]?=Z (R #[aq c.cp] 249 (0,0))->I (G w)+1<=p->fU w1 p u k0 b1 k1 c.s.rg c.s.wt->(∀z,u=Z z->I (G w)+1<=z.block)->(∀z,b1=Z z->I (G w)+1<=z.block)->(∀k,Z k=Nh (Value.slice u (L c.s.rg) k0)->Z k≠Nh (Value.slice b1 (L c.s.wt) k1))->
  Calls O 78 #[aq p,bF #[.func (.func 247) #[aq c.cp] #[],.func (.func 248) #[] #[aq (I (G w))],.func (.func 249) #[] #[]]] w1 fun e w'=>∃own' cT n1' et hm' f a1 k1 a2 i,e=E (a8 #[])/\cZ c own' cT n1' et hm' f w'/\f.A=(gj g st.A c.s.rg).1/\f.td=[]/\gI c.s.T c.s.wt f.A f/\eR own w own' w'/\
   fU w' p a1 k1 a2 i (c.s.rg.filter (fun e=>cW st.A e.2&&cW (gj g st.A c.s.rg).1 e.1)) ((c.s.wt++(gj g st.A c.s.rg).2.1).filter (fun e=>cW (gj g st.A c.s.rg).1 e.1))/\
   (I (G w)<=p/\own' p=0)/\(∀k,Z k=Nh (Value.slice a1 (L (c.s.rg.filter (fun e=>cW st.A e.2&&cW (gj g st.A c.s.rg).1 e.1))) k1)->I (G w)<=k/\own' k=0/\Z k≠Nh (Value.slice a2 (L ((c.s.wt++(gj g st.A c.s.rg).2.1).filter (fun e=>cW (gj g st.A c.s.rg).1 e.1))) i))/\
   (∀k,Z k=Nh (Value.slice a2 (L ((c.s.wt++(gj g st.A c.s.rg).2.1).filter (fun e=>cW (gj g st.A c.s.rg).1 e.1))) i)->I (G w)<=k/\own' k=0)):=by
  intro w1 p s k0 n k1 hb o hp l b0 an b2;have v:∀k,((k<I (G c.w0)\/own k≠0)\/k=I (G w))->k<I (G w)+1:=fun k hk=>by
   have hz:=h.sz;rcases hk with(d|d)|d
   ·omega
   ·have:=(h.lt k d).2;omega
   ·omega
  have nq:∀k,Z k=Nh (Value.slice n (L c.s.wt) k1)->I (G w)+1<=k:=fun k e=>by
   cases n with
   |none=>cases e
   |some z=>cases e;exact an z rfl
  have ao:(jR c (I (G w))).J (fun k=>(k<I (G c.w0)\/own k≠0)\/k=I (G w)) st.A w1:=⟨fun k=>k<I (G c.w0)\/own k≠0,st,⟨own,vt,n1,n2,hm,h.below hb,fun _=>iy⟩,rfl,al,dz,o,fun d=>by
   have hz:=h.sz;rcases d with d|d
   ·omega
   ·exact d am,fun _=>iy⟩
  have ap:(di (jR c (I (G w))) p (H s (L c.s.rg) k0)).J (fun k=>((k<I (G c.w0)\/own k≠0)\/k=I (G w))\/k=p\/Z k=Nh (Value.slice n (L c.s.wt) k1)) (st.A,c.s.wt) w1:=⟨_,n,k1,ao,l.blk,l.q0,fun k d=>aM d,aK (aM rfl),fun d=>by have:=v p d;omega,fun k e=>⟨aK (aK e),fun d=>by have m:=v k d;have ar:=nq k e;omega⟩,fun k d=>by
   have hz:=hb.size;have b3:=lt_of_some o;rcases d with d|d|d
   ·have:=v k d;omega
   ·rw[d];exact lt_of_some l.blk
   ·exact(cv l.q0 k d).2⟩
  have S:∀e∈c.s.rg,mY c e.1/\mY c e.2:=fun e he=>⟨(hv.gv e he).1,(hv.gv e he).2⟩
  have P:=qS (di (jR c (I (G w))) p (H s (L c.s.rg) k0)) (mY c) ⟨247,#[aq c.cp],#[]⟩ ⟨248,#[],#[aq (I (G w))]⟩ ⟨249,#[],#[]⟩ n5 (n6 g) vE
   (qT (jR c (I (G w))) p _ (mY c) _ _ _ cW (fun A x=>(x,fR g A x)) (fun _ x=>x) JU JV JW (JX hg) (J0 hg ai) JY) c.s.rg s k0 rfl (aU hv.gl ae) S _ (st.A,c.s.wt) w1 (by
     rw[si];intro e he;rcases List.mem_append.1 he with he|he
     ·exact⟨hv.wg e he,hg.iv.wv e he⟩
     ·exact S e (J6 e he)) (by have m:=hv.gl;have ar:=hv.wl;show L c.s.wt+_<=_;omega) ap (it l.r0)
  rw[J4,J5,si] at P;refine P.mono ?_;rintro e w' ⟨a1,aB,a2,aF,W,b4,rfl,⟨aR,b5,b6,⟨ca,f,⟨own',cT,n1',et,hm',aV,a0⟩,ab,a3,a4,cb,cc,ba⟩,_,_,bb,_,np,_,_⟩,same,bd,be,ad,ag,fr,bg,bi,bl,bn⟩
  have t:∀b,b<I (G c.w0)\/own' b≠0->W b/\b≠p:=fun b j=>by
   have m:aR b:=(ba b).2 (aM ((a0 b).2 j))
   exact⟨bb b m,fun e=>np (by rw[<-e];exact m)⟩
  have B:cZ c own' cT n1' et hm' f w':=aV.keep bd (fun b j=>same b (t b j).1 (t b j).2)
  have z0:∀b,¬W b->own' b=0:=fun b j=>by
   cases e:own' b
   ·rfl
   ·exact absurd (t b (aK (by rw[e];omega))).1 j
  have bo:own' p=0:=by
   cases e:own' p
   ·rfl
   ·exact absurd rfl (t p (aK (by rw[e];omega))).2
  have bp:=hb.size;have tk:eR own w own' w':=by
   refine⟨⟨fr.os.trans hb.os,fr.tape.trans hb.tape,fr.output.trans hb.output,aU bp fr.size,fun k hk hn=>?_⟩,fun b j=>?_⟩
   ·by_cases F:k<I (G c.w0)
    ·exact(B.ol k F).trans (h.ol k F).symm
    ·refine(fr.block k aa (fun d=>?_)).trans (hb.block k hk)
     rcases d with((d|d)|d)|d|d
     ·exact F d
     ·exact hn d
     ·omega
     ·omega
     ·have:=nq k d;omega
   ·rcases bg b (t b (aK j)).1 with d|d
    ·rcases d with((d|d)|d)|d|d
     ·have:=(B.lt b j).1;omega
     ·exact aM d
     ·exact aK aa
     ·exact aK aa
     ·have:=nq b d;exact aK aa
    ·exact aK aa
  refine⟨own',cT,n1',et,hm',f,a1,aB,a2,aF,rfl,B,ab,a3,by rw[ab];exact a4,tk,⟨be,fq ad (fun _ _=>a5 _),fq ag (fun _ _=>a5 _)⟩,⟨aa,bo⟩,fun k e=>⟨?_,z0 k (bi k e),bn k e⟩,fun k e=>⟨?_,z0 k (bl k e)⟩⟩
  ·have:=(cv ad k e).1;omega
  ·have:=(cv ag k e).1;omega
 generalize (c.s.rg.filter (fun e=>cW st.A e.2&&cW (gj g st.A c.s.rg).1 e.1))=cd at*;generalize ((c.s.wt++(gj g st.A c.s.rg).2.1).filter (fun e=>cW (gj g st.A c.s.rg).1 e.1))=ce at*;go_enter func234,ntmps234;go_wp2_with fail;refine P.mono ?_;rintro e w1 ⟨p,s,k0,n,k1,rfl,hp,l,h0,m,hn,hb⟩
 have o:=(hb.block (I (G w)) ac).trans (aP w (R #[bJ (Z ⟨c.cp,0,M9⟩)] 249))
 have hz:I (G (bj w (R #[bJ (Z ⟨c.cp,0,M9⟩)] 249)))=I (G w)+1:=ac;rw[hz] at hp h0 m;have cf:V w1 (av (I (G w)) 0)=Z (aq c.cp):=aD o
 have P:=N.o w1 p s k0 n k1 (b1.trans (hb.mono b1.size)) o hp l h0 m hn;clear hb l h0 m hn o b1 N;go_wp2_with fail;refine P.mono ?_;rintro e cg ⟨own',cT,n1',et,hm',f,a1,br,a2,i,rfl,q⟩
 have bs:aA (_):=q;go_wp2_with fail;go_ret;exact⟨own',cT,n1',et,hm',f,p,a1,br,a2,i,rfl,bs.o⟩
end
section
variable {T:List cJ}{A:List Bool}{fm:Fm}
theorem BD (i:Nat):X (gy A T (L T)) i t0=if i<L T then fJ A i (X T i t0) else t0:=by
 by_cases hi:i<L T
 ·rw[qE A T (L T) i b8 hi,aJ hi,aJ hi]
 ·rw[aI hi,aL,lg (by rw[jK];omega)];rfl
theorem qk (c:gW T A)(i:Nat):cA (gy A T (L T)) i↔cx A i:=by
 unfold cA;rw[jK,BD];constructor
 ·rintro⟨d,b⟩
  rw[aJ d] at b;unfold fJ at b;split at b
  ·assumption
  ·cases b
 ·intro h;have hi:=c.al i h;refine⟨hi.1,?_⟩
  rw[aJ hi.1];unfold fJ;rw[aJ (show X A i K=D from h)];exact hi.2
theorem sj (b:gW T A){i:Nat}(h:cx A i):X (gy A T (L T)) i t0=((X T i t0).1,jk A (X T i t0),D,(X T i t0).2.2.2):=by rw[BD,aJ (b.al i h).1];unfold fJ;rw[aJ (show X A i K=D from h)];rfl
theorem vF (hB:qi T A){i:Nat}(h:cx A i):L (jk A (X T i t0))=L (X T i t0).2.1:=by
 unfold jk;split
 ·rename_i e;rw[hB.l2 i h (aK e.1)];rfl
 ·split
  ·rename_i e;rw[hB.l2 i h (aM e.1)];rfl
  ·rfl
theorem J8 (b:gW T A)(hB:qi T A):iC (gy A T (L T)) fm=fi T fm A:=by
 funext x
 by_cases h:0<=x/\cx A (M x)
 ·rw[jG ⟨h.1,(qk b _).2 h.2⟩];unfold fi;rw[aJ (show 0<=x/\X A (M x) K=D from h)];dsimp only [gA,eV];rw[sj b h.2];rw[vF hB h.2]
 ·rw[mr (fun c=>h ⟨c.1,(qk b _).1 c.2⟩)];unfold fi;rw[aI (show¬(0<=x/\X A (M x) K=D) from h)]
end
section
variable {ce:Nat}{cj b_:Int}{l:hP}{s:cn}{w w':az}{A:List Bool}{ab p n1:Nat}{a1 a2:Option bG}{k1 k2:Nat}{r q:List cf}
theorem dS.cut (h:dS ce cj b_ l s w)(d:gW s.T A)(hB:qi s.T A)(hz:I (G w)<=I (G w'))(hk:∀b,l.own b=4->w'.heap[b]?=w.heap[b]?)
 (hb:w'.heap[ce]?=Z (R #[ak cj,ak b_,.map (Z ab),ak (L s.T),ak (L s.T),aq p,H (au l.rb) 12 12] 187 (0,0)))
 (hM:eQ w' ab n1 (fi s.T l.fm A))(hn:n1<=L s.T)(hr:∀i,cx A i->aC w' 0 97 2 (eV s.T l.fm i) (L (X s.T i t0).2.1) (ev (jk A (X s.T i t0))))(f:fU w' p a1 k1 a2 k2 r q)
 (n0:I (G w)<=ab/\I (G w)<=p)(N:∀k,Z k=Nh (Value.slice a1 (L r) k1)->I (G w)<=k)(nq:∀k,Z k=Nh (Value.slice a2 (L q) k2)->I (G w)<=k)(S:∀k,Z k=Nh (Value.slice a1 (L r) k1)->Z k≠Nh (Value.slice a2 (L q) k2)):
 ∃t,dS ce cj b_ t {T:=gy A s.T (L s.T),rs:=s.rs,rg:=r,wt:=q} w'/\∀b,t.own b≠0->l.own b≠0\/I (G w)<=b:=by
 have W:p≠ab:=fun e=>by obtain⟨ad,k,hm⟩:=hM.blk;have g:=f.blk;rw[e,hm] at g;cases g
 have u:∀b n (v:bD)(x:List bD),aC w' b 103 2 v n x->∀k,Z k=Nh v->k≠ab/\k≠p:=fun b n v x B k e=>by
  obtain⟨ai,hc⟩:=fF B k e;refine⟨fun j=>?_,f.np B k e⟩
  obtain⟨ad,am,hm⟩:=hM.blk;rw[j,hm] at hc;cases hc
 have he:∀b,l.own b≠0->(if I (G w)<=b then(if b=ab then 2 else if b=p then 3 else if Z b=Nh (Value.slice a1 (L r) k1) then 5 else if Z b=Nh (Value.slice a2 (L q) k2) then 6 else 0) else l.own b)=l.own b:=fun b hb=>aI (by have:=h.lt b hb;omega)
 refine⟨{own:=fun b=>if I (G w)<=b then(if b=ab then 2 else if b=p then 3 else if Z b=Nh (Value.slice a1 (L r) k1) then 5 else if Z b=Nh (Value.slice a2 (L q) k2) then 6 else 0) else l.own b,mb:=ab,bp:=p,rb:=l.rb,fm:=l.fm,fM:=L s.T,n:=n1,a0:=a1,k0:=k1,a1:=a2,k1:=k2},?_,fun b c=>?_⟩
 ·refine {blk:=?_,bo:=(he ce (by rw[h.bo];decide)).trans h.bo,g2:=?_,g3:=?_,g4:=?_,lt:=fun b c=>?_}
  ·rw[hb,jK]
  ·refine {mp:=?_,mn:=by rw[jK];exact hn,dz:=?_,fl:=fun i hi=>?_,fg:=fun i hi k e=>?_,fM:=fun i hi=>?_,al:=by rw[jK];exact aG _}
   ·dsimp only;rw[J8 d hB];exact hM
   ·show(if _ then _ else _)=_;rw[aJ n0.1,aJ rfl]
   ·have hi:=(qk d i).1 hi;have g:=hr i hi;dsimp only [eV] at g⊢;rw[sj d hi];dsimp only;rw[vF hB hi];exact g
   ·have hi:=(qk d i).1 hi;dsimp only [eV] at e;rw[sj d hi] at e;rw[vF hB hi] at e;have F:=h.g2.fg i (d.al i hi) k e;exact(he k (by rw[F];omega)).trans F
   ·have hi:=(qk d i).1 hi;rw[sj d hi];have:=(d.al i hi).1;simp[this]
  ·refine {sd:=f,so:=?_,ro:=fun k e=>?_,mT:=fun k e=>?_}
   ·show(if _ then _ else _)=_;rw[aJ n0.2,aI W,aJ rfl]
   ·obtain⟨m,o⟩:=u _ _ _ _ f.r0 k e;show(if _ then _ else _)=_;rw[aJ (N k e),aI m,aI o,aJ e]
   ·obtain⟨m,o⟩:=u _ _ _ _ f.q0 k e;show(if _ then _ else _)=_;rw[aJ (nq k e),aI m,aI o,aI (fun j=>S k j e),aJ e]
  ·exact {rt:=(hk _ h.g4.ro).trans h.g4.rt,rl:=h.g4.rl,ro:=(he _ (by rw[h.g4.ro];decide)).trans h.g4.ro}
  ·dsimp only at c;split at c
   ·split at c
    ·rename_i e;rw[e];exact hM.lt
    ·split at c
     ·rename_i e;rw[e];exact lt_of_some f.blk
     ·split at c
      ·rename_i e;exact(cv f.r0 b e).2
      ·split at c
       ·rename_i e;exact(cv f.q0 b e).2
       ·exact absurd rfl c
   ·exact aO (h.lt b c) hz
 ·dsimp only at c;split at c
  ·exact aK ‹_›
  ·exact aM c
end
section
variable {ce:Nat}{cj b_:Int}{l:hP}{F:Nat->Prop}{s:cn}{w:az}{g:List Bool->List Bool}
abbrev mv (w:az)(ce:Nat)(cj b_:Int)(l:hP)(s:cn):Cp:=⟨w,ce,cj,b_,l,s,I (G w)+1+1,I (G w),I (G w)+1⟩
abbrev J9 (s:cn):dE:=⟨Ni (L s.T) K,[],fun _=>[],0⟩
def mZ (w:az)(b:Nat):Nat:=if b=I (G w) then 2 else if b=I (G w)+1 then 4 else if b=I (G w)+1+1 then 1 else 0
theorem sk:∀n,cnt (Ni n K)=n
 |0=>rfl
 |n+1=>by
  have:=sk n;unfold cnt at this⊢
  rw[List.replicate_succ];simp at this⊢
theorem cZ.start (w:az)(ce:Nat)(cj b_:Int)(l:hP)(s:cn):
 cZ (mv w ce cj b_ l s) (mZ w) (H M9 0 0) 0 0 (fun _=>(M9,0)) (J9 s) (bj (bj (bj w (.map #[] 0)) (.map #[] 0)) (R #[bJ (Z ⟨ce,0,M9⟩),.map (Z (I (G w))),H M9 0 0,.map (Z (I (G w)+1))] 252)):=by
 have d:C (I (G w)) w (bj (bj (bj w (.map #[] 0)) (.map #[] 0)) (R #[bJ (Z ⟨ce,0,M9⟩),.map (Z (I (G w))),H M9 0 0,.map (Z (I (G w)+1))] 252)):=((b9.alloc b8 _).alloc ac _).alloc (by simp;omega) _;have m1:=(eQ.made w)
 have f:=(eQ.made (bj w (.map #[] 0)))
 have hz:I (G (bj w (.map #[] 0)))=I (G w)+1:=ac;rw[hz] at f;have ea:(fun _=>M9)=fi s.T l.fm (Ni (L s.T) K):=by
  funext x
  unfold fi;rw[aI];rintro⟨_,h⟩
  rw[aL,List.getElem?_replicate] at h;split at h<;>cases h
 have g:(fun _=>M9)=hdF (fun _=>[]) (fun _=>(M9,0)):=rfl;refine {ol:=fun k hk=>d.block k hk,sz:=d.size,cb:=vi w _ _ _,co:=?_,am:=?_,ao:=?_,an:=?_,tr:=⟨rfl,aM ⟨rfl,rfl⟩⟩,tw:=fun k e=>(by cases e),tn:=?_,hq:=?_,ho:=?_,hn:=aG _,hr:=fun x c=>absurd rfl c,hro:=fun x c=>absurd rfl c,lt:=fun b hb=>?_}
 ·show mZ w (I (G w)+1+1)=1;unfold mZ;rw[aI aa,aI aa,aJ rfl]
 ·show eQ _ (I (G w)) 0 (fi s.T l.fm (Ni (L s.T) K))
  rw[<-ea];exact m1.same ((aS _ _ _ (by simp;omega)).trans (aS _ _ _ ac))
 ·show mZ w (I (G w))=2;unfold mZ;rw[aJ rfl]
 ·show 0+cnt (Ni (L s.T) K)<=L s.T;rw[sk];omega
 ·show 0+cnt (Ni (L s.T) K)<=L s.T;rw[sk];omega
 ·show eQ _ (I (G w)+1) 0 (hdF (fun _=>[]) (fun _=>(M9,0)))
  rw[<-g];exact f.same (aS _ _ _ ac)
 ·show mZ w (I (G w)+1)=4;unfold mZ;rw[aI aa,aJ rfl]
 ·unfold mZ at hb;show I (G w)<=b/\_;simp;split at hb
  ·omega
  ·split at hb
   ·omega
   ·split at hb
    ·omega
    ·exact absurd rfl hb
theorem J_ (h:dS ce cj b_ l s w)(hv:fK s):iD (mv w ce cj b_ l s):=⟨h,hv.tl,hv.iv,aU hv.wl ae⟩
theorem Ka (hv:fK s){A:List Bool}(d:gW s.T A):qi s.T A:=⟨fun i hi hk=>hv.iv.fl i (d.al i hi) hk,fun i hi c=>by
 have hl:0<L (X s.T i t0).2.1:=by
  cases hq:(X s.T i t0).2.1 with
  |nil=>rw[hq] at c;cases c
  |cons _ _=>simp
 obtain⟨a,b⟩:=hv.iv.fv i (d.al i hi) _ (getD_in hl) c;have:=b.1;have:=hv.tl;exact⟨a,aa⟩⟩
def sq (s:cn)(mj:Bool)(b:Int->Bool):Prop:=∀i:Nat,cA s.T i->(b i=D↔(X s.T i t0).2.2.1=D/\mj=K)
theorem Kb (hv:fK s){mj:Bool}{d:Int->Bool}(hs:sq s mj d):BC (mv w ce cj b_ l s) d (kc s.T s.rs mj) where
 st:=fun i hi h=>(kK _ _ _ _).2 ⟨hi.1,aM ⟨((hs i hi).1 h).1,hi.2,((hs i hi).1 h).2⟩⟩
 rt:=fun v e f=>(kK _ _ _ _).2 ⟨(hv.rv v e f).2.1,aK ⟨v,e,f,rfl⟩⟩
 up:=fun i hi=>by
  obtain⟨g,j⟩:=(kK _ _ _ _).1 hi;rcases j with⟨a,b,c⟩|c
  ·exact aM ⟨⟨g,b⟩,(hs i ⟨g,b⟩).2 ⟨a,c⟩⟩
  ·exact aK c
 rv:=hv.rv
def cnf (g:List Bool->List Bool)(s:cn)(b_:Int)(mj:Bool):Bool:=decide (b_<iV s.T (s.cR g mj).1 (L s.T))
def cn.jm (g:List Bool->List Bool)(s:cn)(mj:Bool):cn:=
 {T:=gy (s.cR g mj).1 s.T (L s.T),rs:=s.rs,rg:=s.rg.filter (fun e=>cW (s.c0 g mj) e.2&&cW (s.cR g mj).1 e.1),wt:=(s.wt++(s.cR g mj).2.1).filter (fun e=>cW (s.cR g mj).1 e.1)}
theorem Kc {w:az}{ce ab p mk:Nat}{cj b_:Int}{m b r:bD}{n a:Nat}(h:w.heap[ce]?=Z (R #[ak cj,ak b_,m,ak n,ak a,b,r] 187 (0,0))):
 (ay (ay (ay w ⟨ce,2,M9⟩ (.map (Z ab))) ⟨ce,5,M9⟩ (bJ (Z ⟨p,0,M9⟩))) ⟨ce,4,M9⟩ (U Q mk)).heap[ce]?=Z (R #[ak cj,ak b_,.map (Z ab),ak n,ak mk,aq p,r] 187 (0,0)):=by
 simp only [World.setCell,Array.getElem?_modify,if_true,h,Option.map_some];rfl
theorem o5 {w:az}{ce b o o':Nat}{v x:bD}(hn:ce≠b)(h:V w (av b o')=Z x):V (ay w ⟨ce,o,M9⟩ v).drew (av b o')=Z x:=by rw[World.cell?_drew,World.cell?_setCell_far _ _ _ _ hn];exact h
theorem vI {w:az}{ce:Nat}{v x:bD}(h:V w (av ce 3)=Z x):V (ay w ⟨ce,2,M9⟩ v).drew (av ce 3)=Z x:=by exact vA
theorem BE {w:az}{ce:Nat}{v x:bD}(h:V w (av ce 3)=Z x):V (ay w ⟨ce,5,M9⟩ v).drew (av ce 3)=Z x:=by exact vA
theorem Kd {w:az}{ce:Nat}{v x:bD}(h:V w (av ce 3)=Z x):V (ay w ⟨ce,4,M9⟩ v).drew (av ce 3)=Z x:=by exact vA
theorem BF (h:dS ce cj b_ l s w)(cc:∀b,F b↔l.own b≠0)(hv:fK s)(b0:dB s.T s.wt g)(mj:Bool){f:Nat}{b ap:Array bD}{cf:Int->Bool}(hs:sg (mv w ce cj b_ l s) f b ap cf)(hy:sq s mj cf):
 Calls O 202 #[aq ce,.func (.func f) b ap] w fun e w'=>∃N,e=E (ak (if cnf g s b_ mj=D then 3 else 0))/\(cG ce cj b_ l.rb).J N (if cnf g s b_ mj=D then s else s.jm g mj) w'/\ch F w N w':=by
 have cW:=@run_makeMap O;have hg:=J_ h hv;have cg:=cZ.start w ce cj b_ l s;have P:=JT hg cg ⟨ff.start s.T s.wt (kc s.T s.rs mj),fun _=>aG _,by show 0+(0+cnt (Ni (L s.T) K))<=L s.T;rw[sk];omega⟩ hs (Kb hv hy)
 have be:=hv.first mj;have ci:aA (∀bg bi bl bn bo n (w1:az),cZ (mv w ce cj b_ l s) bg bi bl bn bo n w1->gI s.T s.wt (kc s.T s.rs mj) n->n.td=[]->(∀k,cx (kc s.T s.rs mj) k->cx n.A k)->
  Calls O 234 #[aq (I (G w)+1+1)] w1 fun e w'=>∃al cT b1 b2 b3 ar p a1 k1 a2 S,e=E (aq p)/\aA (cZ (mv w ce cj b_ l s) al cT b1 b2 b3 ar w'/\ar.A=(s.cR g mj).1/\gW s.T ar.A/\fU w' p a1 k1 a2 S (s.jm g mj).rg (s.jm g mj).wt/\I (G w)<=p/\al p=0/\
   (∀k,Z k=Nh (Value.slice a1 (L (s.jm g mj).rg) k1)->I (G w)<=k/\al k=0/\Z k≠Nh (Value.slice a2 (L (s.jm g mj).wt) S))/\(∀k,Z k=Nh (Value.slice a2 (L (s.jm g mj).wt) S)->I (G w)<=k/\al k=0)/\(w'.os=w1.os/\w'.tape=w1.tape/\w'.output=w1.output))):=fun bg bi bl bn bo n w1 c1 W aB bp=>by
  have ck:n.A=s.c0 g mj:=(W.mi.done aB be.len bp).uniq (b0 _ be.len be.al)
  refine(J7 hg b0 hv c1 ⟨W.mi.base (fun _ h=>h),W.hl,W.mm⟩ aB).mono ?_;rintro e w' ⟨al,cT,b1,b2,b3,ar,p,a1,k1,a2,S,rfl,c2,aF,cl,cm,tk,am,⟨hp,co⟩,hr,hq⟩
  have cl:gj g n.A s.rg=s.cR g mj:=by rw[ck];rfl
  have z:=c1.sz;dsimp only at z aF am hr hq;rw[cl] at aF am hr hq;rw[ck] at am hr;exact⟨al,cT,b1,b2,b3,ar,p,a1,k1,a2,S,rfl,c2,aF,⟨cm.mi.len,cm.mi.al⟩,am,aa,co,fun k e=>⟨by have:=(hr k e).1;omega,(hr k e).2⟩,fun k e=>⟨by have:=(hq k e).1;omega,(hq k e).2⟩,tk.fr.os,tk.fr.tape,tk.fr.output⟩
 have cX:=h.cells.2.2.2.2.2.2.2.2;have aR:aA (∀b,F b↔l.own b≠0):=cc;have j:aA (dS ce cj b_ l s w/\fK s/\iD (mv w ce cj b_ l s)):=⟨h,hv,hg⟩
 generalize cq:(if cnf g s b_ mj=D then(3:Int) else 0)=cd;generalize cr:(if cnf g s b_ mj=D then s else s.jm g mj)=sd;have q:aA ((if cnf g s b_ mj=D then(3:Int) else 0)=cd/\(if cnf g s b_ mj=D then s else s.jm g mj)=sd):=⟨cq,cr⟩
 clear h cc hv b0 hs hy hg cg be cq cr;go_enter func202,ntmps202;go_wp2_with fail;refine P.mono ?_;clear P;rintro e w1 ⟨bg,bi,bl,bn,bo,n,rfl,c1,br,W,aB,bp⟩
 have P:=ci.o bg bi bl bn bo n w1 c1 W aB bp;have t:aA (w1.os=w.os/\w1.tape=w.tape/\w1.output=w.output):=⟨br.fr.os,br.fr.tape,br.fr.output⟩
 clear c1 br W aB bp ci;go_wp2_with fail;refine P.mono ?_;clear P;rintro e ad ⟨cY,c0,cI,c4,c5,cs,p,a1,k1,a2,S,rfl,m⟩
 have ct:iV s.T cs.A (L s.T)=iV s.T (s.cR g mj).1 (L s.T):=by rw[m.o.2.1]
 have P:=JQ j.o.2.2 (m.o.1.below (aH _ ad).drew) m.o.2.2.1.len;have cu:=m.o.1.gv j.o.2.2.g;obtain⟨_,aV,_,_,_,_,_,_,b4⟩:=cu.cells;dsimp only at aV P b4;rw[ct] at P;have c6:=xn s.T (s.cR g mj).1 j.o.2.1.iv.tl (L s.T);have c7:=j.o.2.1.tl;have bs:aA (cnf g s b_ mj=decide (b_<iV s.T (s.cR g mj).1 (L s.T))):=rfl;generalize iV s.T (s.cR g mj).1 (L s.T)=cJ at*;clear cu ct;by_cases cw:b_<cJ
 ·have a0:cnf g s b_ mj=D:=by rw[bs.o,bv cw]
  have a3:aA (cd=3/\sd=s):=by rw[a0] at q;exact⟨q.o.1.symm,q.o.2.symm⟩
  have a4:aA (∀c,C (I (G ad)) ad c->(cG ce cj b_ l.rb).J F s c/\ch F w F c):=fun c hb=>by have c3:=m.o.1.below hb;have o:=m.o.2.2.2.2.2.2.2.2;refine⟨⟨l,c3.gv j.o.2.2.g,rfl,aR.o⟩,⟨⟨hb.os.trans (o.1.trans t.o.1),hb.tape.trans (o.2.1.trans t.o.2.1),hb.output.trans (o.2.2.trans t.o.2.2),c3.sz,fun k hk _=>c3.ol k hk⟩,fun _ h=>aM h⟩⟩
  clear bs a0 m t j aR q;go_wp2_with fail
  go_region_held3 (fun w'=>V w' (av ce 1)=Z (ak b_)) (go_keep)
   (first|(go_at_call 235;refine P.mono ?_;clear P;rintro e c ⟨rfl,ag⟩;have b5:=(ag.cell (p:=av ce 1) b4).trans aV;have cy:aA (_):=a4.o c (((aH _ ad).drew).trans (ag.mono b8));clear ag a4))
  all_goals
   clear aV b5;go_wp2_with fail;go_ret;exact⟨F,by rw[a3.o.1];rfl,by rw[a3.o.2];exact cy.o.1,cy.o.2⟩
 ·have a0:cnf g s b_ mj=K:=by rw[bs.o,bC cw]
  have a3:aA (cd=0/\sd=s.jm g mj):=by rw[a0] at q;exact⟨q.o.1.symm,q.o.2.symm⟩
  have a4:aA (∀c,C (I (G ad)) ad c->Calls O 236 #[aq (I (G w)+1+1)] c fun e d=>e=E (a8 #[])/\V d (av (I (G w)+1+1) 1)=Z (.map (Z (I (G w))))/\
   d.heap[ce]?=Z (R #[ak cj,ak b_,.map (Z l.mb),ak (L s.T),ak l.fM,aq l.bp,H (au l.rb) 12 12] 187 (0,0))/\
   aA (∀u,Fr (fun k=>k=ce) d u->u.heap[ce]?=Z (R #[ak cj,ak b_,.map (Z (I (G w))),ak (L s.T),ak (L s.T),aq p,H (au l.rb) 12 12] 187 (0,0))->∃N,(cG ce cj b_ l.rb).J N (s.jm g mj) u/\ch F w N u)):=fun c hb=>by
   have c3:=m.o.1.below hb;obtain⟨c8,aF,ba,am,hp,co,hr,hq,o⟩:=m.o;have hv:=j.o.2.1;have h:=j.o.1;have b6:=c3.gv j.o.2.2.g;have lw:∀b,l.own b≠0->b<I (G w):=h.lt;have z0:∀b,I (G w)<=b->l.own b=0:=fun b v=>by
    cases e:l.own b
    ·rfl
    ·exact absurd (lw b (by rw[e];omega)) aa
   have hB:=Ka hv ba;refine(Jn (fm:=l.fm) (lab:=l.own) (cp:=I (G w)+1+1) (ab:=I (G w)) (n1:=cI) ⟨c3.cells.2.1,c3.am,fun i hi=>b6.g2.fl i (ba.al i hi),fun i hi k e=>h.g2.fg i (ba.al i hi) k e,z0 _ aa,z0 _ b8⟩ hB (fun b v=>aO (lw b v) c3.sz) (fun i hi=>by have:=(ba.al i hi).1;omega)).mono ?_;rintro e d ⟨rfl,an,x⟩
   have cK:d.heap[ce]?=c.heap[ce]?:=x.block ce (lt_of_some b6.blk) (fun ap=>by have:=h.bo;omega)
   refine⟨rfl,an.c1,cK.trans b6.blk,fun u B cz=>?_⟩
   have cA:∀b,I (G w)<=b->b≠ce:=fun b v e=>by omega
   have k5:∀b,b<I (G c)->b≠ce->¬10<=l.own b->u.heap[b]?=c.heap[b]?:=fun b v hn cL=>(B.block b (aO v x.size) hn).trans (x.block b v cL)
   have ca:∀b,I (G w)<=b->b<I (G c)->u.heap[b]?=c.heap[b]?:=fun b bt cb=>k5 b cb (cA b bt) (by rw[z0 b bt];omega)
   have bx:=am.below hb;have cN:fU u p a1 k1 a2 S (s.jm g mj).rg (s.jm g mj).wt:=bx.keep (ca p hp (lt_of_some bx.blk)) (fun k e=>ca k (hr k e).1 (cv bx.r0 k e).2) (fun k e=>ca k (hq k e).1 (cv bx.q0 k e).2)
   obtain⟨cB,g1,g2⟩:=h.cut ba hB (aU c3.sz (aU x.size B.size)) (fun b cO=>(k5 b (aO (lw b aa) c3.sz) (fun e=>by have:=h.bo;rw[e] at cO;omega) aa).trans (c3.ol b (lw b aa))) cz
    (an.hM.same (B.block _ an.hM.lt (cA _ b8))) (by have:=c3.an;dsimp only at this;omega) (fun i hi=>cM (an.row i hi) (fun k e=>B.block k (cv (an.row i hi) k e).2 (fun ap=>by have bt:=an.lb i hi k e;have cb:=h.bo;rw[ap,cb] at bt;omega))) cN ⟨aG _,hp⟩ (fun k e=>(hr k e).1) (fun k e=>(hq k e).1) (fun k e=>(hr k e).2.2)
   have cP:({T:=gy cs.A s.T (L s.T),rs:=s.rs,rg:=(s.jm g mj).rg,wt:=(s.jm g mj).wt}:cn)=s.jm g mj:=by rw[aF];rfl
   rw[cP] at g1;refine⟨fun b=>cB.own b≠0,⟨cB,g1,g1.I9 (by simp[World.cell?,cz]),fun _=>iy⟩,⟨⟨B.os.trans (x.os.trans (hb.os.trans (o.1.trans t.o.1))),B.tape.trans (x.tape.trans (hb.tape.trans (o.2.1.trans t.o.2.1))),B.output.trans (x.output.trans (hb.output.trans (o.2.2.trans t.o.2.2))),aU c3.sz (aU x.size B.size),fun k hk hn=>?_⟩,fun b v=>(g2 b v).imp (aR.o b).2 id⟩⟩
   have cQ:l.own k=0:=by
    cases e:l.own k
    ·rfl
    ·exact absurd ((aR.o k).2 (by rw[e];omega)) hn
   exact(k5 k (aO hk c3.sz) (fun e=>by have:=h.bo;rw[e] at cQ;omega) aa).trans (c3.ol k hk)
  clear bs a0 m t j aR q;go_wp2_with fail
  go_region_held3 (fun w'=>V w' (av ce 1)=Z (ak b_)) (go_keep)
   (first|(go_at_call 235;refine P.mono ?_;clear P;rintro e c ⟨rfl,ag⟩;have b5:=(ag.cell (p:=av ce 1) b4).trans aV;have cC:=a4.o c (((aH _ ad).drew).trans (ag.mono b8));clear ag a4))
  all_goals
   clear aV b5;go_wp2_with fail;refine cC.mono ?_;clear cC;rintro e d ⟨rfl,bb,ai,cD⟩
   have cE:aA (_=_):=ai;have cR:V d (av ce 2)=Z (.map (Z l.mb)):=aD ai
   have bd:V d (av ce 3)=Z (ak (L s.T)):=aD ai
   have cS:V d (av ce 4)=Z (ak l.fM):=aD ai
   have cU:V d (av ce 5)=Z (aq l.bp):=aD ai
   have cV:∀o,d.frozen? (av ce o)=K:=fun o=>by simp[World.frozen?,ai]
   have ao:ce≠I (G w)+1+1:=aa;clear ai;go_wp2_with fail
   go_region_held3 (fun w'=>V w' (av (I (G w)+1+1) 1)=Z (.map (Z (I (G w))))/\V w' (av ce 3)=Z (ak (L s.T))) (first|exact⟨bb,bd⟩|exact⟨o5 ao bb,vI bd⟩|exact⟨o5 ao (o5 ao bb),BE (vI bd)⟩|exact⟨o5 ao (o5 ao (o5 ao bb)),Kd (BE (vI bd))⟩|(go_keep;done)) (fail)
   all_goals
    clear ‹_/\_›;obtain⟨N,dN,cF⟩:=cD.o _ (((((Fr.refl (fun k=>k=ce) d).set ce 2 _ rfl).set ce 5 _ rfl).set ce 4 _ rfl).drew) (Kc cE.o)
    have cH:aA (_):=And.intro dN cF;clear dN cF cD cE bb cR bd cS cU cV;go_wp2_with fail;go_ret;exact⟨N,by rw[a3.o.1];rfl,by rw[a3.o.2];exact cH.o.1,cH.o.2⟩
end
theorem Ke (x:Int)(w:az):J O 204 #[ak x] w fun e w'=>e=E (.bool K)/\C (I (G w)) w w':=by go_wp2;go_ret;exact⟨rfl,aH _ _⟩
section
variable {ce rb:Nat}{cj b_:Int}{l:hP}{F:Nat->Prop}{s:cn}{w:az}{g:List Bool->List Bool}
theorem Kh:sg (mv w ce cj b_ l s) 204 #[] #[] (fun _=>K):=
 ⟨gM func204 ah rfl,fun x w' _=>Ke x w'⟩
theorem Ki (h:dS ce cj b_ l s w):sg (mv w ce cj b_ l s) 203 #[aq ce] #[] (fun x=>decide (x<l.fM)):=
 ⟨gM func203 ah rfl,fun x w' hk=>by
  have c:=h.cells;have e:=hk ce c.2.2.2.2.2.2.2.2;refine(BB (fM:=l.fM) ?_ x).mono ?_
  ·have:=c.2.2.2.2.1;simp only [World.cell?] at this⊢
   rw[e];exact this
  ·rintro e b ⟨rfl,rfl⟩
   exact⟨rfl,aH _ _⟩⟩
theorem Kj:sq s D (fun _=>K):=fun _ _=>⟨fun h=>(by cases h),fun h=>(by cases h.2)⟩
theorem Kk (h:dS ce cj b_ l s w):sq s K (fun x=>decide (x<l.fM)):=fun i hi=>by rw[h.g2.fM i hi];simp
theorem Kl {mj:Bool}(h:s.cF g b_ mj=D):s.hC g b_ mj=3/\s.cut g b_ mj=s:=by unfold cn.hC cn.cut;rw[aJ h,aJ h];exact⟨rfl,rfl⟩
theorem BG {mj:Bool}(h:mj=D\/¬(b_-(eI s.T).2<(eI s.T).1)):s.hC g b_ mj=(if cnf g s b_ mj=D then 3 else 0)/\s.cut g b_ mj=(if cnf g s b_ mj=D then s else s.jm g mj):=by
 have e:s.cF g b_ mj=cnf g s b_ mj:=by
  unfold cn.cF cnf;rcases h with h|h
  ·rw[h];simp
  ·rw[bC h];simp
 unfold cn.hC cn.cut cn.jm;rw[e];exact⟨rfl,rfl⟩
theorem BH (h:(cG ce cj b_ rb).J F s w)(hv:fK s)(c:dB s.T s.wt g):
 Calls O 135 #[aq ce] w fun e w'=>∃b,e=E (ak (s.hC g b_ D))/\(cG ce cj b_ rb).J b (s.cut g b_ D) w'/\ch F w b w':=by
 obtain⟨l,hg,d,f⟩:=h;have P:=BF hg f hv c D Kh Kj;rw[d] at P;obtain⟨i,j⟩:=BG (aM rfl)
 rw[<-i,<-j] at P;clear hg d f hv c i j;go_enter func135,ntmps135;go_wp2_with fail;refine P.mono ?_;rintro e w1 ⟨b,rfl,k,ht⟩
 go_wp2;go_ret;exact⟨b,rfl,(c8 k ht).o⟩
theorem BI (h:(cG ce cj b_ rb).J F s w)(hv:fK s)(j:dB s.T s.wt g)(g0:-1000000<=b_)(g1:b_<=1000000):
 Calls O 134 #[aq ce] w fun e w'=>∃F',e=E (ak (s.hC g b_ K))/\(cG ce cj b_ rb).J F' (s.cut g b_ K) w'/\ch F w F' w':=by
 obtain⟨l,hg,b,c⟩:=h;have P:=vD hg hv.iv.tl hv.tl;have bd:=xm s.T hv.t12;have B:=hv.tl;obtain⟨_,_,_,_,_,_,_,_,N⟩:=hg.cells;have d:aA (∀w1,C (I (G w)) w w1->_=_):=fun w1 hb=>(hg.below hb).cells.2.1;have p:aA (¬(b_-(eI s.T).2<(eI s.T).1)->∀w1,C (I (G w)) w w1->Calls O 202 #[aq ce,.func (.func 203) #[aq ce] #[]] w1 fun e w'=>∃F',e=E (ak (s.hC g b_ K))/\(cG ce cj b_ rb).J F' (s.cut g b_ K) w'/\ch F w F' w'):=fun hn w1 hb=>by
  have f:=hg.below hb;have k:=BF f c hv j K (Ki f) (Kk f)
  rw[b] at k;refine k.mono ?_;obtain⟨q,t⟩:=BG (s:=s) (b_:=b_) (g:=g) (mj:=K) (aK hn)
  rw[<-q,<-t];exact vB
 have u:aA (b_-(eI s.T).2<(eI s.T).1->s.hC g b_ K=3/\s.cut g b_ K=s):=fun hn=>Kl (by unfold cn.cF;rw[bv hn];rfl)
 have i:aA (∀w1,C (I (G w)) w w1->(cG ce cj b_ rb).J F s w1):=fun w1 hb=>⟨l,hg.below hb,b,c⟩
 generalize s.hC g b_ K=cd at*;generalize s.cut g b_ K=sd at*;generalize (eI s.T).1=v at*;generalize (eI s.T).2=x at*;clear hg b c hv j;by_cases hn:b_-x<v
 ·have m:aA (cd=3/\sd=s):=u.o hn;go_enter func134,ntmps134;go_wp2_with fail;refine P.mono ?_;rintro e w1 ⟨rfl,hb⟩
  have c1:=d.o w1 hb;have n:aA ((cG ce cj b_ rb).J F s w1/\ch F w F w1):=⟨i.o w1 hb,ch.of hb⟩
  go_wp2_with fail;go_ret;exact⟨F,by rw[m.o.1];rfl,by rw[m.o.2];exact n.o.1,n.o.2⟩
 ·have o:=hide (p.o hn)
  go_enter func134,ntmps134;go_wp2_with fail;refine P.mono ?_;rintro e w1 ⟨rfl,hb⟩
  have c1:=d.o w1 hb;have P:=o.o w1 hb;clear d hb o;go_wp2_with fail;refine P.mono ?_;rintro e S ⟨F',rfl,hj,ht⟩
  have i:=c8 hj ht;go_wp2_with fail;go_ret;exact⟨F',rfl,i.o⟩
theorem Km {g:eg}{m:Int}(h:(cG ce cj b_ rb).J F s w)(hv:fK s)(b:dB s.T s.wt (g s.T s.wt))(g0:-1000000<=b_)(g1:b_<=1000000)(i:-1000000<=cj)(m1:cj<=1000000):
 Calls O 238 #[aq ce,ak m] w fun e w'=>∃F',e=E (ak (s.room g cj b_ m).1)/\(cG ce cj b_ rb).J F' (s.room g cj b_ m).2 w'/\ch F w F' w':=by
 obtain⟨l,hg,c,d⟩:=h;have P:=vD hg hv.iv.tl hv.tl;have bd:=xm s.T hv.t12;have j:=hv.tl;obtain⟨_,_,_,_,_,_,_,_,k⟩:=hg.cells;have HC:aA (∀w1,C (I (G w)) w w1->V w1 (av ce 0)=Z (ak cj)/\V w1 (av ce 1)=Z (ak b_)):=fun w1 hb=>⟨(hg.below hb).cells.1,(hg.below hb).cells.2.1⟩
 have HJ:aA (∀w1,C (I (G w)) w w1->(cG ce cj b_ rb).J F s w1):=fun w1 hb=>⟨l,hg.below hb,c,d⟩
 by_cases c1:m<=cj-(eI s.T).1
 ·have e:s.room g cj b_ m=(0,s):=aJ c1;rw[e];generalize (eI s.T).1=yn at*;generalize (eI s.T).2=od at*;go_enter func238,ntmps238;go_wp2_with fail;refine P.mono ?_;rintro e w1 ⟨rfl,hb⟩
  obtain⟨d0,d1⟩:=HC.o w1 hb;have f:aA ((cG ce cj b_ rb).J F s w1/\ch F w F w1):=⟨HJ.o w1 hb,ch.of hb⟩
  go_wp2_with fail;go_ret;exact⟨F,rfl,f.o⟩
 ·by_cases c2:b_-(eI s.T).2<(eI s.T).1
  ·have e:s.room g cj b_ m=(s.hC (g s.T s.wt) b_ D,s.cut (g s.T s.wt) b_ D):=by unfold cn.room;rw[aI c1,bv c2]
   rw[e];have HP:aA (∀w1,C (I (G w)) w w1->Calls O 135 #[aq ce] w1 fun e w'=>∃F',e=E (ak (s.hC (g s.T s.wt) b_ D))/\(cG ce cj b_ rb).J F' (s.cut (g s.T s.wt) b_ D) w'/\ch F w F' w'):=fun w1 hb=>by refine(BH (HJ.o w1 hb) hv b).mono ?_;exact vB
   generalize s.hC (g s.T s.wt) b_ D=cd at*;generalize s.cut (g s.T s.wt) b_ D=sd at*;exact Bz
  ·have e:s.room g cj b_ m=(s.hC (g s.T s.wt) b_ K,s.cut (g s.T s.wt) b_ K):=by unfold cn.room;rw[aI c1,bC c2]
   rw[e];have HP:aA (∀w1,C (I (G w)) w w1->Calls O 134 #[aq ce] w1 fun e w'=>∃F',e=E (ak (s.hC (g s.T s.wt) b_ K))/\(cG ce cj b_ rb).J F' (s.cut (g s.T s.wt) b_ K) w'/\ch F w F' w'):=fun w1 hb=>by refine(BI (HJ.o w1 hb) hv b g0 g1).mono ?_;exact vB
   generalize s.hC (g s.T s.wt) b_ K=cd at*;generalize s.cut (g s.T s.wt) b_ K=sd at*;exact Bz
end
theorem Kn (w:az):aC (bj w (R #[] 97)) (I (G w)) 97 2 (H (au (I (G w))) 0 0) 0 []:=
 ⟨rfl,aK ⟨I (G w),0,#[],rfl,aG _,aP _ _,aG _,a5 _,rfl,rfl⟩⟩
theorem sr:(prog.info? 97).map (fun i=>(i.zero,i.size,i.bytes))=Z (Z (bF #[ak 0,ak 0]),2,16):=ah
theorem Ko (w:az)(ad:Option bG)(l:List (Int×Int))(cap:Nat)(h:iU w ad l cap)(hm:L l<=100000):
 J O 237 #[H ad (L l) cap] w fun e w'=>∃a1 c1,e=E (H a1 (L l) c1)/\aC w' (I (G w)) 97 2 (H a1 (L l) c1) (L l) (ev l)/\C (I (G w)) w w':=by
 obtain⟨d,hi,f,g,i⟩:=info_parts sr;have o:∀(w:az)(a:Option bG)(n c:Nat),_=_:=fun w a n c=>Lib.run_eql_slice_nil w _ _ a n c 0 0 underlying57;have j:=hide h.lp;cases ad with
 |none=>
  have hl:=List.eq_nil_of_length_eq_zero (h.nil rfl).1;subst hl;go_enter func237,ntmps237;go_wp2;go_ret;exact⟨M9,0,rfl,bf _ _ _ _,aH _ _⟩
 |some a=>
  clear h;go_enter func237,ntmps237;go_wp2_with (at_builtin;refine wpList_append_own _ rfl _ _ 57 rfl (I (G w)) 97 d _ 2 16 underlying57 hi f g i rfl ae _ 0 [] rfl (Kn w) a (L l) cap (ev l) rfl (lh l) ((j.o.below (b9.alloc b8 _)).cells a rfl) (ot l) ?_ ?_ ?_ ?_;(unfold maxLen;omega);omega;(simp);intro v w1 b m _)
  rw[List.nil_append,Nat.zero_add] at b;obtain⟨a1,c1,rfl⟩:=eZ b;go_wp2;go_ret;exact⟨a1,c1,rfl,b,(b9.alloc b8 _).grown m ac (fun k e=>by cases e;exact aG _)⟩
section
variable {ce:Nat}{cj b_:Int}{l:hP}{s:cn}{w w':az}
theorem BJ (T:List cJ)(t:cJ)(i:Nat):X (T++[t]) i t0=if i=L T then t else X T i t0:=by
 rw[aL,aL,List.getElem?_append];by_cases h:i<L T
 ·rw[aJ h,aI aa]
 ·rw[aI h];by_cases e:i=L T
  ·subst e;simp
  ·rw[aI e,lg (by simp;omega),lg aa]
theorem o6 (T:List cJ)(k:Int)(fl:List _)(i:Nat):cA (T++[(k,fl,K,K)]) i↔cA T i\/i=L T:=by
 unfold cA;rw[BJ,a7,hW];by_cases e:i=L T
 ·simp_all
 ·rw[aI e];exact⟨fun h=>aM ⟨aa,h.2⟩,fun h=>h.elim (fun h=>⟨aa,h.2⟩) (fun h=>absurd h e)⟩
theorem dS.new (h:dS ce cj b_ l s w){kd:Int}{fl:List _}{a:Option bG}{cp:Nat}(hs:I (G w)<=I (G w'))(hk:∀b,l.own b≠0->l.own b≠1->l.own b≠2->w'.heap[b]?=w.heap[b]?)
 (hb:w'.heap[ce]?=Z (R #[ak cj,ak b_,.map (Z l.mb),ak (L s.T+1:Nat),ak l.fM,aq l.bp,H (au l.rb) 12 12] 187 (0,0)))
 (hM:eQ w' l.mb (l.n+1) (j8 (iC s.T l.fm) (L s.T) (bF #[ak kd,H a (L fl) cp])))(q:aC w' 0 97 2 (H a (L fl) cp) (L fl) (ev fl))
 (hn:∀k,Z k=Nh (Value.slice a (L fl) cp)->l.own k=0):
 ∃o,dS ce cj b_ o (s.put kd fl) w'/\(∀b,o.own b≠0->l.own b≠0\/Z b=Nh (Value.slice a (L fl) cp))/\o.rb=l.rb:=by
 have ho:∀b,l.own b≠0->(if Z b=Nh (Value.slice a (L fl) cp) then 10+L s.T else l.own b)=l.own b:=fun b hb=>aI (fun e=>hb (hn b e))
 have ne:∀i,cA s.T i->i≠L s.T:=fun i hi e=>by have:=hi.1;omega
 have g:∀i,i≠L s.T->X (s.T++[(kd,fl,K,K)]) i t0=X s.T i t0:=fun i e=>by rw[BJ,aI e]
 have j:X (s.T++[(kd,fl,K,K)]) (L s.T) t0=(kd,fl,K,K):=by simp_all
 have t:j8 (iC s.T l.fm) (L s.T) (bF #[ak kd,H a (L fl) cp])=iC (s.T++[(kd,fl,K,K)]) (fun i=>if i=L s.T then(a,cp) else l.fm i):=by
  funext x
  unfold j8;by_cases e:x=L s.T
  ·rw[aJ e,jG ⟨aa,(o6 _ _ _ _).2 (aK aa)⟩];have m:M x=L s.T:=aa;dsimp only [gA,eV];rw[m,j,aJ rfl]
  ·rw[aI e];by_cases f:0<=x/\cA s.T (M x)
   ·have m:=ne _ f.2;rw[jG f,jG ⟨f.1,(o6 _ _ _ _).2 (aM f.2)⟩];dsimp only [gA,eV];rw[g _ m,aI m]
   ·rw[mr f,mr (fun c=>by
     rcases(o6 _ _ _ _).1 c.2 with d|d
     ·simp_all
     ·exact e aa)]
 refine⟨{l with own:=fun b=>if Z b=Nh (Value.slice a (L fl) cp) then 10+L s.T else l.own b,fm:=fun i=>if i=L s.T then(a,cp) else l.fm i,n:=l.n+1},?_,fun b hb=>?_,rfl⟩
 ·refine {blk:=?_,bo:=(ho _ (by rw[h.bo];decide)).trans h.bo,g2:=?_,g3:=?_,g4:=?_,lt:=fun b p=>?_}
  ·show _=Z (Obj.cells #[_,_,_,ak (L (s.T++[(kd,fl,K,K)]):Nat),_,_,_] _ _)
   rw[a7,hW];exact hb
  ·refine {mp:=?_,mn:=?_,dz:=(ho _ (by rw[h.g2.dz];decide)).trans h.g2.dz,fl:=fun i hi=>?_,fg:=fun i hi k e=>?_,fM:=fun i hi=>?_,al:=?_}
   ·show eQ w' l.mb (l.n+1) (iC (s.T++[(kd,fl,K,K)]) _)
    rw[<-t];exact hM
   ·have:=h.g2.mn;show l.n+1<=L (s.T++[(kd,fl,K,K)]);rw[a7,hW];omega
   ·rcases(o6 _ _ _ _).1 hi with d|d
    ·dsimp only [eV,cn.put];rw[g i (ne i d),aI (ne i d)];exact cM (h.g2.fl i d) (fun k e=>hk k (by rw[h.g2.fg i d k e];omega) (by rw[h.g2.fg i d k e];omega) (by rw[h.g2.fg i d k e];omega))
    ·dsimp only [eV,cn.put];rw[d,j,aJ rfl];exact q
   ·rcases(o6 _ _ _ _).1 hi with d|d
    ·dsimp only [eV,cn.put] at e;rw[g i (ne i d),aI (ne i d)] at e;have:=h.g2.fg i d k e;exact(ho k (by rw[this];omega)).trans this
    ·dsimp only [eV,cn.put] at e;rw[d,j,aJ rfl] at e;show(if _ then _ else _)=_;rw[aJ e,d]
   ·rcases(o6 _ _ _ _).1 hi with d|d
    ·dsimp only [cn.put];rw[g i (ne i d)];exact h.g2.fM i d
    ·have:=h.g2.al;dsimp only [cn.put];rw[d,j];simp;exact this
   ·have:=h.g2.al;show l.fM<=L (s.T++[(kd,fl,K,K)]);rw[a7,hW];omega
  ·have z:=h.g3.keep (fun b hb=>hk b aa aa aa)
   exact {sd:=z.sd,so:=(ho _ (by rw[z.so];decide)).trans z.so,ro:=fun k e=>(ho k (by rw[z.ro k e];decide)).trans (z.ro k e),mT:=fun k e=>(ho k (by rw[z.mT k e];decide)).trans (z.mT k e)}
  ·have z:=h.g4.keep (fun b hb=>hk b aa aa aa)
   exact {rt:=z.rt,rl:=z.rl,ro:=(ho _ (by rw[z.ro];decide)).trans z.ro}
  ·dsimp only at p;split at p
   ·rename_i e;exact(cv q b e).2
   ·exact aO (h.lt b p) hs
 ·dsimp only at hb;split at hb
  ·simp_all
  ·exact aM hb
end
end Go.Proofs.YtpkjkjhanlbcoaaGreat
