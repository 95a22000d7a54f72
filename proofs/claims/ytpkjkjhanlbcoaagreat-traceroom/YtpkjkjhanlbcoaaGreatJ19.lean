import Derived.Test.YtpkjkjhanlbcoaaGreatJ18
open Array renaming size->I
open Bool renaming and_true->Cy,false->K,not_false->L6,true->D
open Go renaming Addr->bI,Calls->J,Value->bj
open Go.Ending renaming returned->R
open Go.IntKind renaming i64->Q
open Go.Obj renaming cells->E
open Go.Proofs.Tryz renaming prog->O
open Go.RowKit renaming Below->C
open Go.Value renaming agg->bF,int->U,ownBlock->MP,pointer->bL,slice->H,tuple->a6
open Go.World renaming alloc->bE,cell?->V,heap->G,ownsRow->aC,setCell->ay
open Iff renaming rfl->iy
open Int renaming eq_ofNat_of_zero_le->bG,toNat->M,toNat_natCast->bH
open List renaming count_pos_iff->Mg,getD->X,getElem?_eq_none->kr,length->L,length_singleton->k3,mem_filter->bM,replicate->MQ
open Option renaming none->MH,some->Z
open Option.some renaming inj->p4
namespace Go.Proofs.YtpkjkjhanlbcoaaGreat
set_option maxRecDepth 100000
set_option maxHeartbeats 8000000
open Tryz
open Go.RowKit W Kp cq
theorem A_ {P:Prop}(h:P:=by
 generalize (eD s.T).1=yn at*;generalize (eD s.T).2=od at*;go_enter func238,ntmps238;go_wp2_with fail;refine P.mono ?_;clear P;rintro e w1 ⟨rfl,hb⟩
 obtain⟨d0,d1⟩:=HC.o w1 hb;have P:=HP.o w1 hb;clear HC hb HP;go_wp2_with fail;refine P.mono ?_;rintro e w2 ⟨F',rfl,hj,ht⟩
 have HJ:=c8 hj ht;go_wp2_with fail;go_ret;exact⟨F',rfl,HJ.o⟩):P:=h
theorem Ba {P:Prop}(h:P:=by have l1:=hR2.nQ.lt;have l2:=hR2.lt;exact⟨hR2.same ((hb3.block _ (by simp;omega)).trans (aS _ _ _ l1)) ((hb3.block _ (by simp;omega)).trans (aS _ _ _ l2)),b3.trans (hb3.mono b3.size),hlt⟩):P:=h
theorem vk {P:Prop}(h:P:=by rw[World.cell?_drew,aY _ _ _ _ ac];exact h):P:=h
theorem vl {P:Prop}(h:P:=by
 rintro e w' ⟨F',rfl,hj,ht⟩
 exact⟨F',rfl,hj,(ch.of hb).trans ht⟩):P:=h
theorem vm (k:Int)(ad:Option bI)(n cp:Nat)(hn:n<=100000)(w:az):J O 210 #[bF #[ak k,H ad n cp]] w fun e w'=>e=R (ak (1+n))/\C (I (G w)) w w':=by exact kA
theorem Bb {w:az}{ce fF:Nat}(c4:V w (av ce 4)=Z (ak fF))(x:Int):J O 203 #[aq ce,ak x] w fun e w'=>e=R (.bool (decide (x<fF)))/\w'=w:=by go_wp2;go_ret;exact⟨rfl,rfl⟩
section
variable {ce:Nat}{cj b_:Int}{l:hD}{s:cn}{w:az}
theorem vo (h:dQ ce cj b_ l s w)(ab:∀i,L (X s.T i t0).2.1<=12)(be:L s.T<=10000):
 J prog 137 #[aq ce] w fun e w'=>e=R (a6 #[ak (eD s.T).1,ak (eD s.T).2])/\C (I (G w)) w w':=by
 rw[Jp];obtain⟨_,_,c2,_,c4,_,_,_,a1⟩:=h.cells;obtain⟨w1,cnt,ag,m,gr,sz⟩:=h.g2.mp.range (t:=184) (e:=220) underlying184;have a2:∀i,0<=jB s.T i/\jB s.T i<=13:=fun i=>by
  have:=ab i;unfold jB;split
  ·omega
  ·split
   ·omega
   ·omega
 have a3:∀i,0<=jC s.T i/\jC s.T i<=13:=fun i=>by
  have:=ab i;unfold jC;split
  ·omega
  ·split
   ·omega
   ·omega
 have B:=gY a2 a3 ab;have z:∀f:Nat->Int,(∀i,(X s.T i t0).2.2.2=D->f i=0)->eZ (gV (fun x=>(it s.T l.fm x).isSome) f) (L s.T)=0:=fun f a4=>by
  rw[<-vi (L s.T)];refine nR _ (fun i hi=>?_)
  unfold gV;by_cases ha:cA s.T i
  ·exact aJ (by dsimp only;rw[jA ⟨aa,by simpa using ha⟩];rfl)
  ·refine(aI (by dsimp only;rw[l7 (fun c=>ha (by simpa using c.2))];simp)).trans (a4 i ?_)
   cases e:(X s.T i t0).2.2.2
   ·exact absurd ⟨hi,e⟩ ha
   ·rfl
 have ai:=z (jB s.T) (fun i e=>by unfold jB;rw[aJ e])
 have al:=z (jC s.T) (fun i e=>by unfold jC;rw[aJ e])
 have ar:=i4 (b9.grown gr b8 (fun j am=>by cases am)) m ai al;have ba:=hide h;go_enter func137,ntmps137;go_wp2
 go_loopw [4,5] (fun y o wr=>∃(left:Int->Bool)(c:Nat),y=ak (eZ (gV left (jB s.T)) (L s.T))/\o=ak (eZ (gV left (jC s.T)) (L s.T))/\gL wr l.mb (I (G w)) l.n (it s.T l.fm) left c/\C (I (G w)) w wr) (fun _ _ wr=>wr.rangeLeft l.mb (I (G w)))
 ·obtain⟨b,r,ai,al⟩:=ar.o;exact⟨_,cnt,by rw[ai],by rw[al],r,b⟩
 ·
   clear ar ag;obtain⟨left,c,rfl,rfl,m,hb⟩:=hrel;have mb:=rZ left B.o.1 (L s.T);have nb:=rZ left B.o.2.1 (L s.T);rcases m.next 0 with⟨h0,hl,ag⟩|⟨x,v,F,N,aB,S,ag,hR2,hlt,bb,bg,bi⟩
   ·have q:eZ (gV left (jB s.T)) (L s.T)=eZ (jB s.T) (L s.T):=nR _ (fun i _=>by unfold gV;rw[hl,aI ae])
    have bd:eZ (gV left (jC s.T)) (L s.T)=eZ (jC s.T) (L s.T):=nR _ (fun i _=>by unfold gV;rw[hl,aI ae])
    rw[q,bd];have d:=hide hb;clear hb m hl;go_wp2;go_ret2;exact⟨rfl,d.o⟩
   ·have an:0<=x/\cA s.T (M x):=by
     by_cases c:0<=x/\cA s.T (M x)
     ·exact c
     ·rw[l7 c] at S;cases S
    obtain⟨i,rfl⟩:=bG an.1;have u:cA s.T i:=by simpa using an.2
    rw[jA an] at S;have hv:=(p4 S).symm;dsimp only [gm,eR] at hv;rw[bH] at hv;subst hv;have s1:=vj left (jB s.T) i (L s.T) u.1 aB;have s2:=vj left (jC s.T) i (L s.T) u.1 aB;have bl:=rZ (fun y=>left y&&!(y==(i:Int))) B.o.1 (L s.T);have bn:=B.o.2.2 i;have aF:=ba.o.g2.fF i u;have b2:=hb.grown bb hb.size (fun j am=>by cases am;exact aG _)
    have b3:=b2.alloc b2.size (E #[U Q (X s.T i t0).1,H (l.fm i).1 (L (X s.T i t0).2.1) (l.fm i).2] 220)
    have P:=Bb ((b3.cell (p:=av ce 4) a1).trans c4) i;have aR:aA (∀g,C (I (G (bE F (E #[U Q (X s.T i t0).1,H (l.fm i).1 (L (X s.T i t0).2.1) (l.fm i).2] 220)))) (bE F (E #[U Q (X s.T i t0).1,H (l.fm i).1 (L (X s.T i t0).2.1) (l.fm i).2] 220)) g->gL g l.mb (I (G w)) l.n (it s.T l.fm) (fun y=>left y&&!(y==(i:Int))) N/\C (I (G w)) w g/\N<c):=fun g hb3=>by exact Ba
    have aV:=hide m.left_eq;have W:aA (∀w,J prog 210 #[bF #[ak (X s.T i t0).1,H (l.fm i).1 (L (X s.T i t0).2.1) (l.fm i).2]] w fun e w'=>e=R (ak (1+L (X s.T i t0).2.1))/\C (I (G w)) w w'):=fun w=>vm _ _ _ _ aa w;have y1:jB s.T i=if i<l.fF then 0 else 1+(L (X s.T i t0).2.1:Int):=by unfold jB;rw[u.2,aF];simp
    have o1:jC s.T i=if i<l.fF then 1+(L (X s.T i t0).2.1:Int) else 0:=by unfold jC;rw[u.2,aF];simp
    rw[y1] at s1;rw[o1] at s2;have k:=c8 s1 s2;generalize eZ (gV left (jB s.T)) (L s.T)=Y at*;generalize eZ (gV left (jC s.T)) (L s.T)=O at*;generalize L (X s.T i t0).2.1=n at*;generalize (X s.T i t0).1=kd at*;generalize (l.fm i).1=ad at*;generalize (l.fm i).2=cp at*;by_cases ho:i<l.fF
    ·have q:decide ((i:Int)<(l.fF:Int))=D:=by simp;exact ho
     rw[q] at P;rw[aJ ho,aJ ho] at k;go_wp2_with fail;refine P.mono ?_;clear P;rintro e g ⟨rfl,rfl⟩
     have a0:=W.o (bE F (E #[U Q kd,H ad n cp] 220))
     go_wp2_with fail;refine a0.mono ?_;clear a0;rintro e ao ⟨rfl,ap⟩
     have d:=hide (aR.o ao ap)
     go_wp2;go_roundw;exact⟨_,N,by rw[k.o.1];simp,by rw[k.o.2],d.o.1,d.o.2.1⟩
     rw[d.o.1.left_eq,aV.o];exact d.o.2.2
    ·have q:decide ((i:Int)<(l.fF:Int))=K:=by simp;omega
     rw[q] at P;rw[aI ho,aI ho] at k;go_wp2_with fail;refine P.mono ?_;rintro e g ⟨rfl,rfl⟩
     go_wp2_with fail;refine(W.o (bE F (E #[U Q kd,H ad n cp] 220))).mono ?_;rintro e ao ⟨rfl,ap⟩
     have d:=hide (aR.o ao ap)
     go_wp2;go_roundw;exact⟨_,N,by rw[k.o.1],by rw[k.o.2];simp,d.o.1,d.o.2.1⟩
     rw[d.o.1.left_eq,aV.o];exact d.o.2.2
end
section
variable {c:Cp}{own:Nat->Nat}{vt:bj}{n1 n2:Nat}{hm:Int->Option bI×Nat}{st:dD}{w w':az}{is:List Bool}
def kV (T:List cJ)(A:List Bool)(i:Nat):Int:=if X A i K=D then 1+L (X T i t0).2.1 else 0
theorem Jq (hg:iu c)(h:cZ c own vt n1 n2 hm st w)(F:L st.A=L c.s.T):
 J O 235 #[aq c.cp] w fun e w'=>e=R (ak (iQ c.s.T st.A (L c.s.T)))/\C (I (G w)) w w':=by
 rw[A9];have N:(fun i=>if X st.A i K=D then 1+(L (X c.s.T i t0).2.1:Int) else 0)=kV c.s.T st.A:=rfl;rw[N];obtain⟨_,c1,_,_,_,aF⟩:=h.cells;have aR:=hg.t;obtain⟨w1,cnt,o,d,gr,sz⟩:=h.am.range (t:=184) (e:=220) underlying184;have ab:∀i,0<=kV c.s.T st.A i/\kV c.s.T st.A i<=13:=fun i=>by
  have:=hg.iv.tl i;unfold kV;split
  ·omega
  ·omega
 have z:eZ (gV (fun x=>(e9 c.s.T c.l.fm st.A x).isSome) (kV c.s.T st.A)) (L c.s.T)=0:=by
  rw[<-vi (L c.s.T)];refine nR _ (fun i hi=>?_)
  have ea:(e9 c.s.T c.l.fm st.A (i:Int)).isSome=X st.A i K:=by rw[uZ aa,cW,bH]
  unfold gV kV;cases hb:X st.A i K
  ·exact(aI (by dsimp only;rw[ea,hb];decide)).trans (aI ae)
  ·exact aJ (by dsimp only;rw[ea,hb])
 have p:=gY ab hg.iv.tl F;have S:=gY (b9.grown gr b8 (fun j q=>by cases q)) d z;clear h hg F d gr ab z N;go_enter func235,ntmps235;go_wp2
 go_loopw [3] (fun y wr=>∃(left:Int->Bool)(k:Nat),y=ak (eZ (gV left (kV c.s.T st.A)) (L c.s.T))/\gL wr c.ab (I (G w)) n1 (e9 c.s.T c.l.fm st.A) left k/\C (I (G w)) w wr) (fun _ wr=>wr.rangeLeft c.ab (I (G w)))
 ·obtain⟨b,r,an⟩:=S.o;exact⟨_,cnt,by rw[an],r,b⟩
 ·
   clear S o;obtain⟨left,k,rfl,d,hb⟩:=hrel;have mb:=rZ left p.o.1 (L c.s.T);rcases d.next 0 with⟨h0,hl,o⟩|⟨x,v,s,u,W,f,o,hR2,hlt,ag,aV,a0⟩
   ·rw[(nR _ (fun i _=>by unfold gV;rw[hl,aI ae]))];have g:=hide hb;clear hb d hl;go_wp2;go_ret;exact⟨rfl,g.o⟩
   ·have l:0<=x/\X st.A (M x) K=D:=by
     unfold e9 at f;split at f
     ·assumption
     ·cases f
    obtain⟨i,rfl⟩:=bG l.1;have B:X st.A i K=D:=by simpa using l.2
    have ao:i<L c.s.T:=by rw[<-p.o.2.2];exact cx.lt B
    have hv:v=gm c.s.T c.l.fm i:=by unfold e9 at f;rw[aJ l] at f;exact(p4 f).symm
    dsimp only [gm,eR] at hv;subst hv;have s1:=vj left (kV c.s.T st.A) i (L c.s.T) ao W;have a1:=p.o.2.1 i;have b2:=hb.grown ag hb.size (fun j q=>by cases q;exact aG _)
    have b3:=b2.alloc b2.size (E #[U Q (X c.s.T i t0).1,H (c.l.fm i).1 (L (X c.s.T i t0).2.1) (c.l.fm i).2] 220)
    have ai:aA (∀m,C (I (G (bE s (E #[U Q (X c.s.T i t0).1,H (c.l.fm i).1 (L (X c.s.T i t0).2.1) (c.l.fm i).2] 220)))) (bE s (E #[U Q (X c.s.T i t0).1,H (c.l.fm i).1 (L (X c.s.T i t0).2.1) (c.l.fm i).2] 220)) m->gL m c.ab (I (G w)) n1 (e9 c.s.T c.l.fm st.A) (fun y=>left y&&!(y==(i:Int))) u/\C (I (G w)) w m/\u<k):=fun m hb3=>by exact Ba
    have ap:=hide d.left_eq;have al:=vm (X c.s.T i t0).1 (c.l.fm i).1 (L (X c.s.T i t0).2.1) (c.l.fm i).2 aa (bE s (E #[U Q (X c.s.T i t0).1,H (c.l.fm i).1 (L (X c.s.T i t0).2.1) (c.l.fm i).2] 220))
    rw[show kV c.s.T st.A i=1+(L (X c.s.T i t0).2.1:Int) from by unfold kV;rw[aJ B]] at s1;have ar:=hide s1;clear d hb W f hR2 ag l b2 b3 B s1;generalize eZ (gV left (kV c.s.T st.A)) (L c.s.T)=Y at*;generalize L (X c.s.T i t0).2.1=n at*;generalize (X c.s.T i t0).1=kd at*;generalize (c.l.fm i).1=ad at*;generalize (c.l.fm i).2=cp at*;go_wp2_with fail;refine al.mono ?_;clear al;rintro e aB ⟨rfl,am⟩
    have g:=hide (ai.o aB am)
    clear am ai;go_wp2;go_roundw;exact⟨_,u,by rw[ar.o],g.o.1,g.o.2.1⟩
    rw[g.o.1.left_eq,ap.o];exact g.o.2.2
theorem gB.mark {T:List cJ}{wt:List cf}{s:dD}(h:gB T wt is s)(c:em T wt)(v:Int×Int)(hv:v.1=3->0<=v.2/\cA T (M v.2))(d:v.1=3->cx is (M v.2)):gB T wt is (ef s v):=
 ⟨h.mi.mark c v hv (fun b X _ hb=>hb _ (d b)),by rw[(nP s v).1,(nP s v).2];exact h.hl,by rw[AN s v (fun b=>by rw[h.mi.len];exact(hv b).2.1),(nP s v).2];exact h.mm⟩
theorem gB.marks {T:List cJ}{wt:List cf}(c:em T wt):∀(l:List (Int×Int))(s:dD),gB T wt is s->(∀v∈l,v.1=3->0<=v.2/\cA T (M v.2))->(∀v∈l,v.1=3->cx is (M v.2))->gB T wt is (dx s l)
 |[],_,h,_,_=>h
 |v::l,s,h,hv,d=>gB.marks c l (ef s v) (h.mark c v (hv v ac) (d v ac)) (fun u b=>hv u (aW _ b)) (fun u b=>d u (aW _ b))
end
structure r5 (c:Cp)(f:Nat)(b d:Array bj)(sb:Int->Bool):Prop where
 Jr:dT f
 ca:∀(x:Int)(w:az),(∀k,k<I (G c.w0)->w.heap[k]?=c.w0.heap[k]?)->J O f (b.push (ak x)++d) w fun e w'=>e=R (.bool (sb x))/\C (I (G w)) w w'
structure Bd (c:Cp)(sb:Int->Bool)(is:List Bool):Prop where
 st:∀i:Nat,cA c.s.T i->sb i=D->cx is i
 rt:∀v∈c.s.rs,v.1=3->cx is (M v.2)
 up:∀i:Nat,cx is i->(cA c.s.T i/\sb i=D)\/∃v∈c.s.rs,v.1=3/\M v.2=i
 rv:∀v∈c.s.rs,v.1=3->0<=v.2/\cA c.s.T (M v.2)
section
variable {c:Cp}{own own':Nat->Nat}{vt cT:bj}{n1 n2 n1' el:Nat}{hm hm':Int->Option bI×Nat}{st:dD}{w w':az}{is:List Bool}{sb:Int->Bool}
theorem Jt {w:az}{b:Nat}{l:List _}(h:w.heap[b]?=Z (E (ev l).toArray 97 (0,0))):dC w (au b) l:=fun _=>by
 refine⟨b,0,rfl,lt_of_some h,fun i hi=>?_⟩
 obtain⟨c,d⟩:=ob l i hi;constructor
 ·simp[World.cell?,h];simpa using c
 ·simp[World.cell?,h];simpa using d
theorem Ju (hg:iu c)(h:cZ c own vt n1 n2 hm st w)(dy:gB c.s.T c.s.wt is st){f:Nat}{b S:Array bj}(hs:r5 c f b S sb)(hi:Bd c sb is):
 J O 233 #[aq c.cp,.func (.func f) b S] w fun e w'=>∃own' cT n1' el hm' d,e=R (a6 #[])/\cZ c own' cT n1' el hm' d w'/\eN own w own' w'/\gB c.s.T c.s.wt is d/\d.td=[]/\∀k,cx is k->cx d.A k:=by
 have b2:=hs.Jr;unfold dT at b2;obtain⟨c0,_,_,_,_,cg⟩:=h.cells;have gv:=h.gv hg.g;obtain⟨_,_,g2,_,_,_,_,_,ch⟩:=gv.cells;obtain⟨w1,b3,bi,ad,gr,sz⟩:=gv.g2.mp.range (t:=184) (e:=220) underlying184;have bl:=b9.grown gr b8 (fun j ag=>by cases ag)
 have bn:=gY hg hs hi;have aF:=i4 ad bl (h.below bl) dy;have an:aA (c.l.mb<I (G c.w0)/\own (I (G w))=0/\I (G c.w0)<=I (G w)):=⟨hg.g.g2.mp.lt,by
  cases e:own (I (G w))
  ·rfl
  ·exact absurd (h.lt (I (G w)) (by rw[e];omega)).2 aa,h.sz⟩
 go_enter func233,ntmps233;go_wp2_with fail
 go_loopw [4] (fun _ wr=>∃(left:Int->Bool)(k:Nat)(own':Nat->Nat)(cT:bj)(n1':Nat)(d:dD),aA (gL wr c.l.mb (I (G w)) c.l.n (it c.s.T c.l.fm) left k/\cZ c own' cT n1' n2 hm d wr/\eN own w own' wr/\own' (I (G w))=0/\gB c.s.T c.s.wt is d/\∀i:Nat,cA c.s.T i->left i=K->sb i=D->cx d.A i)) (fun _ wr=>wr.rangeLeft c.l.mb (I (G w)))
 ·obtain⟨r,_,g,dy⟩:=aF.o;exact⟨_,b3,own,vt,n1,st,r,g,eN.of aF.o.2.1,an.o.2.1,dy,fun i hi h0 _=>by rw[jA ⟨aa,by simpa using hi⟩] at h0;cases h0⟩
 ·
   obtain⟨left,k,own',cT,n1',d,bo⟩:=hrel;obtain⟨ad,g,t,ho,dy,hd⟩:=bo.o;obtain⟨hg,hs,hi⟩:=bn.o;rcases ad.next 0 with⟨h0,hl,bi⟩|⟨x,v,m,ao,ci,ap,bi,p,b4,b5,cj,ck⟩
   ·
     have gv:=g.gv hg.g;obtain⟨cl,_,_,_,_,_⟩:=g.cells;obtain⟨_,_,_,_,_,_,cm,_,_⟩:=gv.cells;have rl:=gv.g4.rl;have P:=mP hg.g hg.t dy.mi.len g (au c.l.rb) 12 c.s.rs ⟨Jt gv.g4.rt,fun _ z e S=>by
      cases e;have aR:=hg.g.lt c.l.rb (by rw[hg.g.g4.ro];decide)
      have aV:=(g.lt c.l.rb (by dsimp only at S;omega)).1;omega⟩ hi.rv aa
     rw[rl] at P;have b6:aA (∀o B F m,cZ c o B F n2 hm (dx d c.s.rs) m->fO own' wr o m->J O 246 #[aq c.cp] m fun e w'=>∃own' cT n1' el hm' d,e=R (a6 #[])/\cZ c own' cT n1' el hm' d w'/\eN own w own' w'/\gB c.s.T c.s.wt is d/\d.td=[]/\∀k,cx is k->cx d.A k):=fun o B F m g2 a0=>by
      refine(A6 hg g2 (dy.marks (s:=d) hg.iv c.s.rs hi.rv hi.rt)).mono ?_;rintro e w' ⟨a1,a2,a3,a4,ba,bb,rfl,g3,t3,sp⟩
      refine⟨a1,a2,a3,a4,ba,bb,rfl,g3,(t.trans a0.tk).trans t3,sp.dy,sp.td,fun i hk=>sp.up i ?_⟩
      rcases hi.up i hk with⟨aR,aV⟩|⟨v,hv,bd,e⟩
      ·exact kT _ _ (hd i aR (hl _) aV)
      ·rw[<-e];exact uS d c.s.rs (fun v hv bd=>by rw[dy.mi.len];exact(hi.rv v hv bd).2.1) v hv bd
     clear ad g t dy hd hg hs hi gv hl bo bn an aF rl ho;go_wp2_with fail;refine P.mono ?_;rintro e m ⟨o,B,F,rfl,g2,a0⟩
     have P:=b6.o o B F m g2 a0;go_wp2_with fail;refine P.mono ?_;rintro e l ⟨a1,a2,a3,a4,ba,bb,rfl,q⟩
     have W:=hide q;go_wp2_with fail;go_end0;exact⟨a1,a2,a3,a4,ba,bb,rfl,W.o⟩
   ·have ai:0<=x/\cA c.s.T (M x):=by
     by_cases e:0<=x/\cA c.s.T (M x)
     ·exact e
     ·rw[l7 e] at ap;cases ap
    obtain⟨i,rfl⟩:=bG ai.1;have bp:cA c.s.T i:=by simpa using ai.2
    have hz:=an.o.2.2;have be:Fr (fun b=>b=I (G w)) wr m:=(Fr.refl _ wr).grown b5 (fun j e=>aM (by cases e;rfl))
    have al:cZ c own' cT n1' n2 hm d m:=g.keep be.size (fun b hb=>be.block b (hb.elim (fun e=>aO e g.sz) (fun e=>(g.lt b e).2)) (fun e=>by
     subst e;rcases hb with e|e
     ·omega
     ·exact e ho))
    have br:eN own w own' m:=⟨t.fr.trans be (fun b e=>aK (by rw[e];exact aG _)),t.nw⟩
    have P:=hs.ca i m (fun k hk=>al.ol k hk)
    have ar:=c8 ad.left_eq b4;have bs:aA (∀l,C (I (G m)) m l->sb i=K->gL l c.l.mb (I (G w)) c.l.n (it c.s.T c.l.fm) (fun y=>left y&&!(y==(i:Int))) ao/\cZ c own' cT n1' n2 hm d l/\eN own w own' l/\own' (I (G w))=0/\gB c.s.T c.s.wt is d/\∀j:Nat,cA c.s.T j->(left j&&!((j:Int)==(i:Int)))=K->sb j=D->cx d.A j):=fun l n N=>by
     refine⟨p.same (n.block _ p.nQ.lt) (n.block _ p.lt),al.below n,br.trans (eN.of n),ho,dy,fun j ag h0 am=>?_⟩
     by_cases e:j=i
     ·subst e;rw[N] at am;cases am
     ·refine hd j ag ?_ am;rwa [show((j:Int)==(i:Int))=K from by simp;omega,L6,Cy] at h0
    have ca:aA (∀l,C (I (G m)) m l->sb i=D->J O 245 #[aq c.cp,H (au (I (G l))) 1 1] (bE l (E #[U Q 3,U Q i] 97)) fun e w'=>∃o B F,e=R (a6 #[])/\
     gL w' c.l.mb (I (G w)) c.l.n (it c.s.T c.l.fm) (fun y=>left y&&!(y==(i:Int))) ao/\cZ c o B F n2 hm (ef d (3,i)) w'/\eN own w o w'/\o (I (G w))=0/\gB c.s.T c.s.wt is (ef d (3,i))/\∀j:Nat,cA c.s.T j->(left j&&!((j:Int)==(i:Int)))=K->sb j=D->cx (ef d (3,i)).A j):=fun l n N=>by
     have ab:=n.alloc n.size (E #[U Q 3,U Q i] 97)
     refine(mP hg.g hg.t dy.mi.len (al.below ab) (au (I (G l))) 1 [(3,(i:Int))] (jY.one (al.below n) (3,(i:Int))) (fun u bt _=>by simp at bt;rw[bt];exact ai) ac).mono ?_;rintro e w' ⟨o,B,F,rfl,g5,aB⟩
     have bg:=ab.size;refine⟨o,B,F,rfl,p.same ((aB.fr.block _ (aO p.nQ.lt bg) (fun S=>?_)).trans (ab.block _ p.nQ.lt)) ((aB.fr.block _ (aO p.lt bg) (fun S=>?_)).trans (ab.block _ p.lt)),g5,(br.trans (eN.of ab)).trans aB.tk,?_,dy.mark hg.iv (3,(i:Int)) (fun _=>ai) (fun _=>by simpa using hi.st i bp N),fun j ag h0 am=>?_⟩
     ·have aR:=(al.lt c.l.mb aa).1;have aV:=an.o.1;omega
     ·rw[ho] at S;omega
     ·rw[aB.old _ (aO p.lt bg)];exact ho
     ·by_cases e:j=i
      ·subst e;exact uR d (3,(j:Int)) rfl (by rw[dy.mi.len];simpa using bp.1)
      ·refine p6 _ _ (hd j ag ?_ am)
       rwa [show((j:Int)==(i:Int))=K from by simp;omega,L6,Cy] at h0
    obtain⟨bx,b0,b1,vc,cb⟩:∃bx b0 b1 vc,v=bF #[ak bx,H b0 b1 vc]:=by rw[jA ai] at ap;exact⟨_,_,_,_,(p4 ap).symm⟩
    subst cb;cases N:sb i
    ·rw[N] at P;have cn:=bs;go_wp2_with fail;refine P.mono ?_;rintro e l ⟨rfl,n⟩
     have W:=hide (bs.o l n N)
     go_wp2_with fail;go_roundw;exact⟨_,ao,own',cT,n1',d,W⟩
     rw[W.o.1.left_eq,ar.o.1];exact ar.o.2
    ·rw[N] at P;go_wp2_with fail;refine P.mono ?_;rintro e l ⟨rfl,n⟩
     go_wp2_with fail;refine(oT i l).mono ?_;rintro e cc ⟨rfl,ab⟩
     go_wp2_with fail;refine(ca.o cc (n.trans (ab.mono n.size)) N).mono ?_;rintro e co ⟨cd,ce,cf,rfl,q⟩
     have W:=hide q;go_wp2_with fail;go_roundw;exact⟨_,ao,cd,ce,cf,_,W⟩
     rw[W.o.1.left_eq,ar.o.1];exact ar.o.2
end
def jM (c:Cp)(bx:Nat):dA (List Bool) where
 J F A w:=∃b st,(rV c).J b st w/\st.A=A/\st.td=[]/\gB c.s.T c.s.wt A st/\w.heap[bx]?=Z (E #[aq c.cp] 249 (0,0))/\¬b bx/\∀k,F k↔b k\/k=bx
 lt:=by
  rintro F A w ⟨b,st,h,_,_,_,hb,_,d⟩ k hk;rcases(d k).1 hk with e|e
  ·exact(rV c).lt h k e
  ·rw[e];exact lt_of_some hb
 keep:=by rintro F A w w' ⟨b,st,h,f,g,dy,hb,hn,d⟩ hs hk;exact⟨b,st,(rV c).keep h hs (fun k i=>hk k ((d k).2 (aM i))),f,g,dy,(hk bx ((d bx).2 (aK rfl))).trans hb,hn,d⟩
def mR (c:Cp)(x:Int):Prop:=0<=x/\cA c.s.T (M x)
theorem Jv:dT 247:=gF func247 ah rfl
theorem Jw:dT 248:=gF func248 ah rfl
theorem Jx:dT 249:=gF func249 ah rfl
section
variable {c:Cp}{own:Nat->Nat}{vt:bj}{n1 n2:Nat}{hm:Int->Option bI×Nat}{st:dD}{w w':az}{bx:Nat}{g:List Bool->List Bool}
theorem Jy (hg:iu c):kC (jM c bx) (mR c) 247 #[aq c.cp] #[] cW:=by
 rintro F A w x ⟨b,d⟩ ⟨e,st,⟨own,vt,n1,n2,hm,h,_⟩,rfl,_⟩
 exact IV h x b (by have:=d.1;have:=hg.t;omega)
theorem Jz:lJ (jM c bx) (mR c) 249 #[] #[] (fun _ x=>x):=by rintro F A w x _ _;go_wp2;go_ret;exact⟨rfl,aH _ _⟩
theorem JA (l:dz c.s.T c.s.wt g){A:List Bool}{st b:dD}(d:gB c.s.T c.s.wt A st)(f:st.A=A){x:Int}(i:mR c x)(sp:A3 c.s.T c.s.wt (A.set (M x) D) (ef st (3,x)) b):b.A=fK g A x/\gB c.s.T c.s.wt (fK g A x) b:=by
 have hl:L A=L c.s.T:=by rw[<-f];exact d.mi.len
 have hi:∀k,cx (A.set (M x) D) k↔M x=k\/cx A k:=fun k=>by
  unfold cx;rw[m_ _ _ _ (by rw[hl];exact i.2.1)];split
  ·exact⟨fun _=>aM ‹_›,fun _=>rfl⟩
  ·exact⟨aK,fun c=>c.resolve_left ‹_›⟩
 have hd:=sp.dy.mi.done sp.td (by rw[bh];exact hl) (fun k hk=>sp.up k (by
  rcases(hi k).1 hk with e|e
  ·rw[<-e];exact uR st (3,x) rfl (by rw[d.mi.len];exact i.2.1)
  ·exact p6 _ _ (by rw[f];exact e)))
 have m:=l (A.set (M x) D) (by rw[bh];exact hl) (fun k hk=>by
  rcases(hi k).1 hk with e|e
  ·rw[<-e];exact i.2
  ·exact d.mi.al k (by rw[f];exact e))
 have j:b.A=fK g A x:=hd.uniq m;exact⟨j,⟨sp.dy.mi.base (fun k hk=>by rw[<-j];exact hk),sp.dy.hl,sp.dy.mm⟩⟩
theorem JB (hg:iu c)(ab:dz c.s.T c.s.wt g):og (jM c bx) (mR c) 248 #[] #[aq bx] (fun A x=>(x,fK g A x)):=by
 rintro F A w x i ⟨ad,st,⟨own,vt,n1,n2,hm,h,l⟩,m,a0,dy,hb,hn,n⟩
 show Calls O 248 #[ak x,aq bx] w _;have ag:own bx=0:=by
  cases e:own bx
  ·rfl
  ·exact absurd ((l bx).2 (aK (by rw[e];omega))) hn
 have lb:=lt_of_some hb;have a1:_:=fun d=>hn ((l bx).2 (aM d))
 have v:V w (av bx 0)=Z (aq c.cp):=aD hb
 have ai:gB c.s.T c.s.wt (A.set (M x) D) (ef st (3,x)):=by
  have hl:L A=L c.s.T:=by rw[<-m];exact dy.mi.len
  refine gB.mark ⟨dy.mi.base (fun k hk=>AM (by rw[<-m];exact hk)),dy.hl,dy.mm⟩ hg.iv (3,x) (fun _=>i) (fun _=>?_)
  unfold cx;rw[m_ _ _ _ (by rw[hl];exact i.2.1),aJ rfl]
 have al:aA (∀w1,C (I (G w)) w w1->Calls O 245 #[aq c.cp,H (au (I (G w1))) 1 1] (bE w1 (E #[U Q 3,U Q x] 97)) fun e w'=>e=R (a6 #[])/\V w' (av bx 0)=Z (aq c.cp)/\
  aA (Calls O 246 #[aq c.cp] w' fun e o=>e=R (a6 #[])/\∃j,(jM c bx).J j (fK g A x) o/\Fr F w o/\∀k,j k->F k\/I (G w)<=k)):=fun w1 f=>by
  have B:=f.alloc f.size (E #[U Q 3,U Q x] 97)
  refine(mP hg.g hg.t dy.mi.len (h.below B) (au (I (G w1))) 1 [(3,x)] (jY.one (h.below f) (3,x)) (fun u N _=>by simp at N;rw[N];exact i) ac).mono ?_;rintro e w' ⟨a2,a3,a4,rfl,g5,am⟩
  have S:=(fO.of B (fun b hb=>(h.lt b hb).2)).trans am;have an:=S.fr.block bx lb (fun d=>by omega)
  refine⟨rfl,(aQ (a:=⟨bx,0,MH⟩) an).trans v,?_⟩
  refine(A6 hg g5 ai).mono ?_;rintro e o ⟨ba,bb,bd,be,bg,ao,rfl,g3,t3,sp⟩
  obtain⟨q1,s⟩:=JA ab dy m i sp;have tk:=S.tk.trans t3;obtain⟨W,ap,t⟩:=I1 (F:=ad) g3 l tk.fr tk.nw;have ar:=tk.fr.block bx lb (fun d=>d ag)
  have aB:_:=fun d=>(t.sub bx d).elim hn (fun d=>by omega)
  exact⟨rfl,fun k=>W k\/k=bx,⟨W,ao,ap,q1,sp.td,s,ar.trans hb,aB,fun _=>iy⟩,t.fr.mono (fun k d=>(n k).2 (aM d)),fun k d=>d.elim (fun d=>(t.sub k d).imp (fun d=>(n k).2 (aM d)) id) (fun d=>aM ((n k).2 (aK d)))⟩
 go_enter func248,ntmps248;go_wp2_with fail
 go_region_held3 (fun w'=>V w' (av bx 0)=Z (aq c.cp)) (go_keep)
  (first
    |(go_at_call 239;refine(oT x _).mono ?_;rintro e w1 ⟨rfl,f⟩;have b1:=(f.cell (p:=av bx 0) lb).trans v;have aF:=hide ((aH _ w).drew.trans (f.mono b8)))
    |(go_at_call 245;refine(al.o w1 aF.o).mono ?_;rintro e bi ⟨rfl,b2,aR⟩))
 all_goals
  have P:=aR.o;go_wp2_with fail;refine P.mono ?_;rintro e bl ⟨rfl,q⟩
  have aV:=hide q;go_wp2_with fail;go_ret;obtain⟨j,q1,s,q3⟩:=aV.o;exact⟨j,rfl,q1,s,q3⟩
end
section
variable {c:Cp}{bx p:Nat}{vr:bj}{g:List Bool->List Bool}{A:List Bool}{q r:List cf}
abbrev nT (s:List Bool×List cf)(x:Int):Bool:=cW s.1 x
abbrev nU (g:List Bool->List Bool)(s:List Bool×List cf)(x:Int):Int×(List Bool×List cf):=(x,(fK g s.1 x,s.2))
abbrev vp (_:List Bool×List cf)(x:Int):Int:=x
def f8 (g:List Bool->List Bool)(A:List Bool)(r:List cf):List Bool×List cf×List cf:=turns cW (fK g) (L r+1) (r.filter (fun e=>!cW A e.2)) A []
theorem JC (q:List cf):nc (cm (dh (jM c bx) p vr) nT (nU g)) g id r (fun t L C=>t=(L,q++C)) where
 no:=by rintro t L C e rfl _ h;exact m5 h
 yes:=by
  rintro t L C e rfl _ h;have b:=m6 (o:=dh (jM c bx) p vr) (is:=nT) (kp:=nU g) (s:=(L,q++C)) h;refine⟨by rw[id,b],?_⟩
  rw[id,b];show(fK g L e.2,(q++C)++[(e.1,e.2)])=_;rw[bA]
theorem r6:fJ (dh (jM c bx) p vr) nT (nU g) (A,q) r=((f8 g A r).1,q++(f8 g A r).2.1):=by have h:=((JC (c:=c) (bx:=bx) (p:=p) (vr:=vr) (g:=g) q).turns (L r+1) (r.filter (fun e=>!cW A e.2)) (A,q) A [] (fun e he=>(bM.1 he).1) (by simp_all)).1;rw[List.map_id] at h;refine Eq.trans ?_ h;show(eP _ (L (r.filter (fun e=>!cW A e.2))+1) (A,q) (r.filter (fun e=>!cW A e.2))).1=_;have hl:=bu (fun e:cf=>!cW A e.2) r;rw[qx (cm (dh (jM c bx) p vr) nT (nU g)) _ (L r+1) _ _ (Nat.lt_succ_self _) aa]
theorem JD:e3 (dh (jM c bx) p vr) nT (nU g) vp (A,q) r=r.filter (fun e=>cW A e.2&&cW (f8 g A r).1 e.1):=by
 unfold e3;rw[r6,List.filter_filter,List.map_id'']
 ·congr 1
  funext e
  rw[Bool.and_comm]
 ·exact fun _=>rfl
theorem JE:e4 (dh (jM c bx) p vr) nT (nU g) vp (A,q) r=(q++(f8 g A r).2.1).filter (fun e=>cW (f8 g A r).1 e.1):=by unfold e4;rw[r6];rw[List.map_id'' (fun _=>rfl)];rfl
theorem JF (e:cf)(h:e∈(f8 g A r).2.1):e∈r:=by have b:=wh (is:=cW) (kp:=fK g) e (L r+1) (r.filter (fun e=>!cW A e.2)) A [];have c:=Mg.2 h;unfold f8 at c;rw[List.count_nil] at b;have d:0<(r.filter (fun e=>!cW A e.2)).count e:=aa;exact(bM.1 (Mg.1 d)).1
end
section
variable {c:Cp}{own own':Nat->Nat}{vt cT:bj}{n1 n2 n1' el:Nat}{hm hm':Int->Option bI×Nat}{st:dD}{w w':az}{g:List Bool->List Bool}
theorem JG (hg:iu c)(ai:dz c.s.T c.s.wt g)(hv:fD c.s)(h:cZ c own vt n1 n2 hm st w)(dy:gB c.s.T c.s.wt st.A st)(al:st.td=[]):
 Calls O 234 #[aq c.cp] w fun e w'=>∃own' cT n1' el hm' f p a1 k1 a2 i,e=R (aq p)/\cZ c own' cT n1' el hm' f w'/\f.A=(f8 g st.A c.s.rg).1/\f.td=[]/\gB c.s.T c.s.wt f.A f/\eN own w own' w'/\
  fN w' p a1 k1 a2 i (c.s.rg.filter (fun e=>cW st.A e.2&&cW (f8 g st.A c.s.rg).1 e.1)) ((c.s.wt++(f8 g st.A c.s.rg).2.1).filter (fun e=>cW (f8 g st.A c.s.rg).1 e.1))/\
  (I (G w)<=p/\own' p=0)/\(∀k,Z k=MP (Value.slice a1 (L (c.s.rg.filter (fun e=>cW st.A e.2&&cW (f8 g st.A c.s.rg).1 e.1))) k1)->I (G w)<=k/\own' k=0/\Z k≠MP (Value.slice a2 (L ((c.s.wt++(f8 g st.A c.s.rg).2.1).filter (fun e=>cW (f8 g st.A c.s.rg).1 e.1))) i))/\
  (∀k,Z k=MP (Value.slice a2 (L ((c.s.wt++(f8 g st.A c.s.rg).2.1).filter (fun e=>cW (f8 g st.A c.s.rg).1 e.1))) i)->I (G w)<=k/\own' k=0):=by
 have b1:=aw w (E #[bL (Z ⟨c.cp,0,MH⟩)] 249)
 obtain⟨c0,_,_,_,_,bt⟩:=h.cells;have gv:=h.gv hg.g;obtain⟨_,_,_,_,_,g5,_,_,bx⟩:=gv.cells;have P:=zF _ c.l.bp c.l.a0 c.l.a1 c.l.k0 c.l.k1 c.s.rg c.s.wt ((h.below b1).gv hg.g).g3.sd (aU hv.gl ae) (aU hv.wl ae)
 have am:own (I (G w))=0:=by
  cases e:own (I (G w))
  ·rfl
  ·exact absurd (h.lt (I (G w)) (by rw[e];omega)).2 aa
 have N:aA (∀w1 p u k0 b1 k1,C (I (G w)) w w1->w1.heap[I (G w)]?=Z (E #[aq c.cp] 249 (0,0))->I (G w)+1<=p->fN w1 p u k0 b1 k1 c.s.rg c.s.wt->(∀z,u=Z z->I (G w)+1<=z.block)->(∀z,b1=Z z->I (G w)+1<=z.block)->(∀k,Z k=MP (Value.slice u (L c.s.rg) k0)->Z k≠MP (Value.slice b1 (L c.s.wt) k1))->
  Calls O 78 #[aq p,bF #[.func (.func 247) #[aq c.cp] #[],.func (.func 248) #[] #[aq (I (G w))],.func (.func 249) #[] #[]]] w1 fun e w'=>∃own' cT n1' el hm' f a1 k1 a2 i,e=R (a6 #[])/\cZ c own' cT n1' el hm' f w'/\f.A=(f8 g st.A c.s.rg).1/\f.td=[]/\gB c.s.T c.s.wt f.A f/\eN own w own' w'/\
   fN w' p a1 k1 a2 i (c.s.rg.filter (fun e=>cW st.A e.2&&cW (f8 g st.A c.s.rg).1 e.1)) ((c.s.wt++(f8 g st.A c.s.rg).2.1).filter (fun e=>cW (f8 g st.A c.s.rg).1 e.1))/\
   (I (G w)<=p/\own' p=0)/\(∀k,Z k=MP (Value.slice a1 (L (c.s.rg.filter (fun e=>cW st.A e.2&&cW (f8 g st.A c.s.rg).1 e.1))) k1)->I (G w)<=k/\own' k=0/\Z k≠MP (Value.slice a2 (L ((c.s.wt++(f8 g st.A c.s.rg).2.1).filter (fun e=>cW (f8 g st.A c.s.rg).1 e.1))) i))/\
   (∀k,Z k=MP (Value.slice a2 (L ((c.s.wt++(f8 g st.A c.s.rg).2.1).filter (fun e=>cW (f8 g st.A c.s.rg).1 e.1))) i)->I (G w)<=k/\own' k=0)):=by
  intro w1 p s k0 n k1 hb o hp l b0 an b2;have v:∀k,((k<I (G c.w0)\/own k≠0)\/k=I (G w))->k<I (G w)+1:=fun k hk=>by
   have hz:=h.sz;rcases hk with(d|d)|d
   ·omega
   ·have:=(h.lt k d).2;omega
   ·omega
  have nq:∀k,Z k=MP (Value.slice n (L c.s.wt) k1)->I (G w)+1<=k:=fun k e=>by
   cases n with
   |none=>cases e
   |some z=>cases e;exact an z rfl
  have ao:(jM c (I (G w))).J (fun k=>(k<I (G c.w0)\/own k≠0)\/k=I (G w)) st.A w1:=⟨fun k=>k<I (G c.w0)\/own k≠0,st,⟨own,vt,n1,n2,hm,h.below hb,fun _=>iy⟩,rfl,al,dy,o,fun d=>by
   have hz:=h.sz;rcases d with d|d
   ·omega
   ·exact d am,fun _=>iy⟩
  have ap:(dh (jM c (I (G w))) p (H s (L c.s.rg) k0)).J (fun k=>((k<I (G c.w0)\/own k≠0)\/k=I (G w))\/k=p\/Z k=MP (Value.slice n (L c.s.wt) k1)) (st.A,c.s.wt) w1:=⟨_,n,k1,ao,l.blk,l.q0,fun k d=>aM d,aK (aM rfl),fun d=>by have:=v p d;omega,fun k e=>⟨aK (aK e),fun d=>by have m:=v k d;have ar:=nq k e;omega⟩,fun k d=>by
   have hz:=hb.size;have b3:=lt_of_some o;rcases d with d|d|d
   ·have:=v k d;omega
   ·rw[d];exact lt_of_some l.blk
   ·exact(cv l.q0 k d).2⟩
  have S:∀e∈c.s.rg,mR c e.1/\mR c e.2:=fun e he=>⟨(hv.gv e he).1,(hv.gv e he).2⟩
  have P:=qK (dh (jM c (I (G w))) p (H s (L c.s.rg) k0)) (mR c) ⟨247,#[aq c.cp],#[]⟩ ⟨248,#[],#[aq (I (G w))]⟩ ⟨249,#[],#[]⟩ nT (nU g) vp
   (qL (jM c (I (G w))) p _ (mR c) _ _ _ cW (fun A x=>(x,fK g A x)) (fun _ x=>x) Jv Jw Jx (Jy hg) (JB hg ai) Jz) c.s.rg s k0 rfl (aU hv.gl ae) S _ (st.A,c.s.wt) w1 (by
     rw[r6];intro e he;rcases List.mem_append.1 he with he|he
     ·exact⟨hv.wg e he,hg.iv.wv e he⟩
     ·exact S e (JF e he)) (by have m:=hv.gl;have ar:=hv.wl;show L c.s.wt+_<=_;omega) ap (ik l.r0)
  rw[JD,JE,r6] at P;refine P.mono ?_;rintro e w' ⟨a1,aB,a2,aF,W,b4,rfl,⟨aR,b5,b6,⟨ca,f,⟨own',cT,n1',el,hm',aV,a0⟩,ab,a3,a4,cb,cc,ba⟩,_,_,bb,_,np,_,_⟩,same,bd,be,ad,ag,fr,bg,bi,bl,bn⟩
  have t:∀b,b<I (G c.w0)\/own' b≠0->W b/\b≠p:=fun b j=>by
   have m:aR b:=(ba b).2 (aM ((a0 b).2 j))
   exact⟨bb b m,fun e=>np (by rw[<-e];exact m)⟩
  have B:cZ c own' cT n1' el hm' f w':=aV.keep bd (fun b j=>same b (t b j).1 (t b j).2)
  have z0:∀b,¬W b->own' b=0:=fun b j=>by
   cases e:own' b
   ·rfl
   ·exact absurd (t b (aK (by rw[e];omega))).1 j
  have bo:own' p=0:=by
   cases e:own' p
   ·rfl
   ·exact absurd rfl (t p (aK (by rw[e];omega))).2
  have bp:=hb.size;have tk:eN own w own' w':=by
   refine⟨⟨fr.os.trans hb.os,fr.tape.trans hb.tape,fr.output.trans hb.output,aU bp fr.size,fun k hk hn=>?_⟩,fun b j=>?_⟩
   ·by_cases F:k<I (G c.w0)
    ·exact(B.ol k F).trans (h.ol k F).symm
    ·refine(fr.block k aa (fun d=>?_)).trans (hb.block k hk)
     rcases d with((d|d)|d)|d|d
     ·exact F d
     ·exact hn d
     ·omega
     ·omega
     ·have:=nq k d;omega
   ·rcases bg b (t b (aK j)).1 with d|d
    ·rcases d with((d|d)|d)|d|d
     ·have:=(B.lt b j).1;omega
     ·exact aM d
     ·exact aK aa
     ·exact aK aa
     ·have:=nq b d;exact aK aa
    ·exact aK aa
  refine⟨own',cT,n1',el,hm',f,a1,aB,a2,aF,rfl,B,ab,a3,by rw[ab];exact a4,tk,⟨be,ff ad (fun _ _=>a5 _),ff ag (fun _ _=>a5 _)⟩,⟨aa,bo⟩,fun k e=>⟨?_,z0 k (bi k e),bn k e⟩,fun k e=>⟨?_,z0 k (bl k e)⟩⟩
  ·have:=(cv ad k e).1;omega
  ·have:=(cv ag k e).1;omega
 generalize (c.s.rg.filter (fun e=>cW st.A e.2&&cW (f8 g st.A c.s.rg).1 e.1))=cd at*;generalize ((c.s.wt++(f8 g st.A c.s.rg).2.1).filter (fun e=>cW (f8 g st.A c.s.rg).1 e.1))=ce at*;go_enter func234,ntmps234;go_wp2_with fail;refine P.mono ?_;rintro e w1 ⟨p,s,k0,n,k1,rfl,hp,l,h0,m,hn,hb⟩
 have o:=(hb.block (I (G w)) ac).trans (aP w (E #[bL (Z ⟨c.cp,0,MH⟩)] 249))
 have hz:I (G (bE w (E #[bL (Z ⟨c.cp,0,MH⟩)] 249)))=I (G w)+1:=ac;rw[hz] at hp h0 m;have cf:V w1 (av (I (G w)) 0)=Z (aq c.cp):=aD o
 have P:=N.o w1 p s k0 n k1 (b1.trans (hb.mono b1.size)) o hp l h0 m hn;clear hb l h0 m hn o b1 N;go_wp2_with fail;refine P.mono ?_;rintro e cg ⟨own',cT,n1',el,hm',f,a1,br,a2,i,rfl,q⟩
 have bs:aA (_):=q;go_wp2_with fail;go_ret;exact⟨own',cT,n1',el,hm',f,p,a1,br,a2,i,rfl,bs.o⟩
end
section
variable {T:List cJ}{A:List Bool}{fm:Fm}
theorem Be (i:Nat):X (gh A T (L T)) i t0=if i<L T then fC A i (X T i t0) else t0:=by
 by_cases hi:i<L T
 ·rw[qw A T (L T) i b8 hi,aJ hi,aJ hi]
 ·rw[aI hi,aL,kr (by rw[jF];omega)];rfl
theorem qc (c:gP T A)(i:Nat):cA (gh A T (L T)) i↔cx A i:=by
 unfold cA;rw[jF,Be];constructor
 ·rintro⟨d,b⟩
  rw[aJ d] at b;unfold fC at b;split at b
  ·assumption
  ·cases b
 ·intro h;have hi:=c.al i h;refine⟨hi.1,?_⟩
  rw[aJ hi.1];unfold fC;rw[aJ (show X A i K=D from h)];exact hi.2
theorem r7 (b:gP T A){i:Nat}(h:cx A i):X (gh A T (L T)) i t0=((X T i t0).1,jc A (X T i t0),D,(X T i t0).2.2.2):=by rw[Be,aJ (b.al i h).1];unfold fC;rw[aJ (show X A i K=D from h)];rfl
theorem vu (hB:qa T A){i:Nat}(h:cx A i):L (jc A (X T i t0))=L (X T i t0).2.1:=by
 unfold jc;split
 ·rename_i e;rw[hB.l2 i h (aK e.1)];rfl
 ·split
  ·rename_i e;rw[hB.l2 i h (aM e.1)];rfl
  ·rfl
theorem JH (b:gP T A)(hB:qa T A):it (gh A T (L T)) fm=e9 T fm A:=by
 funext x
 by_cases h:0<=x/\cx A (M x)
 ·rw[jA ⟨h.1,(qc b _).2 h.2⟩];unfold e9;rw[aJ (show 0<=x/\X A (M x) K=D from h)];dsimp only [gm,eR];rw[r7 b h.2];rw[vu hB h.2]
 ·rw[l7 (fun c=>h ⟨c.1,(qc b _).1 c.2⟩)];unfold e9;rw[aI (show¬(0<=x/\X A (M x) K=D) from h)]
end
section
variable {ce:Nat}{cj b_:Int}{l:hD}{s:cn}{w w':az}{A:List Bool}{ab p n1:Nat}{a1 a2:Option bI}{k1 k2:Nat}{r q:List cf}
theorem dQ.cut (h:dQ ce cj b_ l s w)(d:gP s.T A)(hB:qa s.T A)(hz:I (G w)<=I (G w'))(hk:∀b,l.own b=4->w'.heap[b]?=w.heap[b]?)
 (hb:w'.heap[ce]?=Z (E #[ak cj,ak b_,.map (Z ab),ak (L s.T),ak (L s.T),aq p,H (au l.rb) 12 12] 187 (0,0)))
 (hM:eM w' ab n1 (e9 s.T l.fm A))(hn:n1<=L s.T)(hr:∀i,cx A i->aC w' 0 97 2 (eR s.T l.fm i) (L (X s.T i t0).2.1) (ev (jc A (X s.T i t0))))(f:fN w' p a1 k1 a2 k2 r q)
 (n0:I (G w)<=ab/\I (G w)<=p)(N:∀k,Z k=MP (Value.slice a1 (L r) k1)->I (G w)<=k)(nq:∀k,Z k=MP (Value.slice a2 (L q) k2)->I (G w)<=k)(S:∀k,Z k=MP (Value.slice a1 (L r) k1)->Z k≠MP (Value.slice a2 (L q) k2)):
 ∃t,dQ ce cj b_ t {T:=gh A s.T (L s.T),rs:=s.rs,rg:=r,wt:=q} w'/\∀b,t.own b≠0->l.own b≠0\/I (G w)<=b:=by
 have W:p≠ab:=fun e=>by obtain⟨ad,k,hm⟩:=hM.blk;have g:=f.blk;rw[e,hm] at g;cases g
 have u:∀b n (v:bj)(x:List bj),aC w' b 103 2 v n x->∀k,Z k=MP v->k≠ab/\k≠p:=fun b n v x B k e=>by
  obtain⟨ai,hc⟩:=fw B k e;refine⟨fun j=>?_,f.np B k e⟩
  obtain⟨ad,am,hm⟩:=hM.blk;rw[j,hm] at hc;cases hc
 have he:∀b,l.own b≠0->(if I (G w)<=b then(if b=ab then 2 else if b=p then 3 else if Z b=MP (Value.slice a1 (L r) k1) then 5 else if Z b=MP (Value.slice a2 (L q) k2) then 6 else 0) else l.own b)=l.own b:=fun b hb=>aI (by have:=h.lt b hb;omega)
 refine⟨{own:=fun b=>if I (G w)<=b then(if b=ab then 2 else if b=p then 3 else if Z b=MP (Value.slice a1 (L r) k1) then 5 else if Z b=MP (Value.slice a2 (L q) k2) then 6 else 0) else l.own b,mb:=ab,bp:=p,rb:=l.rb,fm:=l.fm,fF:=L s.T,n:=n1,a0:=a1,k0:=k1,a1:=a2,k1:=k2},?_,fun b c=>?_⟩
 ·refine {blk:=?_,bo:=(he ce (by rw[h.bo];decide)).trans h.bo,g2:=?_,g3:=?_,g4:=?_,lt:=fun b c=>?_}
  ·rw[hb,jF]
  ·refine {mp:=?_,mn:=by rw[jF];exact hn,dy:=?_,fl:=fun i hi=>?_,e8:=fun i hi k e=>?_,fF:=fun i hi=>?_,al:=by rw[jF];exact aG _}
   ·dsimp only;rw[JH d hB];exact hM
   ·show(if _ then _ else _)=_;rw[aJ n0.1,aJ rfl]
   ·have hi:=(qc d i).1 hi;have g:=hr i hi;dsimp only [eR] at g⊢;rw[r7 d hi];dsimp only;rw[vu hB hi];exact g
   ·have hi:=(qc d i).1 hi;dsimp only [eR] at e;rw[r7 d hi] at e;rw[vu hB hi] at e;have F:=h.g2.e8 i (d.al i hi) k e;exact(he k (by rw[F];omega)).trans F
   ·have hi:=(qc d i).1 hi;rw[r7 d hi];have:=(d.al i hi).1;simp[this]
  ·refine {sd:=f,so:=?_,ro:=fun k e=>?_,mM:=fun k e=>?_}
   ·show(if _ then _ else _)=_;rw[aJ n0.2,aI W,aJ rfl]
   ·obtain⟨m,o⟩:=u _ _ _ _ f.r0 k e;show(if _ then _ else _)=_;rw[aJ (N k e),aI m,aI o,aJ e]
   ·obtain⟨m,o⟩:=u _ _ _ _ f.q0 k e;show(if _ then _ else _)=_;rw[aJ (nq k e),aI m,aI o,aI (fun j=>S k j e),aJ e]
  ·exact {rt:=(hk _ h.g4.ro).trans h.g4.rt,rl:=h.g4.rl,ro:=(he _ (by rw[h.g4.ro];decide)).trans h.g4.ro}
  ·dsimp only at c;split at c
   ·split at c
    ·rename_i e;rw[e];exact hM.lt
    ·split at c
     ·rename_i e;rw[e];exact lt_of_some f.blk
     ·split at c
      ·rename_i e;exact(cv f.r0 b e).2
      ·split at c
       ·rename_i e;exact(cv f.q0 b e).2
       ·exact absurd rfl c
   ·exact aO (h.lt b c) hz
 ·dsimp only at c;split at c
  ·exact aK ‹_›
  ·exact aM c
end
section
variable {ce:Nat}{cj b_:Int}{l:hD}{F:Nat->Prop}{s:cn}{w:az}{g:List Bool->List Bool}
abbrev l8 (w:az)(ce:Nat)(cj b_:Int)(l:hD)(s:cn):Cp:=⟨w,ce,cj,b_,l,s,I (G w)+1+1,I (G w),I (G w)+1⟩
abbrev JJ (s:cn):dD:=⟨MQ (L s.T) K,[],fun _=>[],0⟩
def mS (w:az)(b:Nat):Nat:=if b=I (G w) then 2 else if b=I (G w)+1 then 4 else if b=I (G w)+1+1 then 1 else 0
theorem r8:∀n,cnt (MQ n K)=n
 |0=>rfl
 |n+1=>by
  have:=r8 n;unfold cnt at this⊢
  rw[List.replicate_succ];simp at this⊢
theorem cZ.start (w:az)(ce:Nat)(cj b_:Int)(l:hD)(s:cn):
 cZ (l8 w ce cj b_ l s) (mS w) (H MH 0 0) 0 0 (fun _=>(MH,0)) (JJ s) (bE (bE (bE w (.map #[] 0)) (.map #[] 0)) (E #[bL (Z ⟨ce,0,MH⟩),.map (Z (I (G w))),H MH 0 0,.map (Z (I (G w)+1))] 252)):=by
 have d:C (I (G w)) w (bE (bE (bE w (.map #[] 0)) (.map #[] 0)) (E #[bL (Z ⟨ce,0,MH⟩),.map (Z (I (G w))),H MH 0 0,.map (Z (I (G w)+1))] 252)):=((b9.alloc b8 _).alloc ac _).alloc (by simp;omega) _;have m1:=(eM.made w)
 have f:=(eM.made (bE w (.map #[] 0)))
 have hz:I (G (bE w (.map #[] 0)))=I (G w)+1:=ac;rw[hz] at f;have ea:(fun _=>MH)=e9 s.T l.fm (MQ (L s.T) K):=by
  funext x
  unfold e9;rw[aI];rintro⟨_,h⟩
  rw[aL,List.getElem?_replicate] at h;split at h<;>cases h
 have g:(fun _=>MH)=hdF (fun _=>[]) (fun _=>(MH,0)):=rfl;refine {ol:=fun k hk=>d.block k hk,sz:=d.size,cb:=uW w _ _ _,co:=?_,am:=?_,ao:=?_,an:=?_,tr:=⟨rfl,aM ⟨rfl,rfl⟩⟩,tw:=fun k e=>(by cases e),tn:=?_,hq:=?_,ho:=?_,hn:=aG _,hr:=fun x c=>absurd rfl c,hro:=fun x c=>absurd rfl c,lt:=fun b hb=>?_}
 ·show mS w (I (G w)+1+1)=1;unfold mS;rw[aI aa,aI aa,aJ rfl]
 ·show eM _ (I (G w)) 0 (e9 s.T l.fm (MQ (L s.T) K))
  rw[<-ea];exact m1.same ((aS _ _ _ (by simp;omega)).trans (aS _ _ _ ac))
 ·show mS w (I (G w))=2;unfold mS;rw[aJ rfl]
 ·show 0+cnt (MQ (L s.T) K)<=L s.T;rw[r8];omega
 ·show 0+cnt (MQ (L s.T) K)<=L s.T;rw[r8];omega
 ·show eM _ (I (G w)+1) 0 (hdF (fun _=>[]) (fun _=>(MH,0)))
  rw[<-g];exact f.same (aS _ _ _ ac)
 ·show mS w (I (G w)+1)=4;unfold mS;rw[aI aa,aJ rfl]
 ·unfold mS at hb;show I (G w)<=b/\_;simp;split at hb
  ·omega
  ·split at hb
   ·omega
   ·split at hb
    ·omega
    ·exact absurd rfl hb
theorem JK (h:dQ ce cj b_ l s w)(hv:fD s):iu (l8 w ce cj b_ l s):=⟨h,hv.tl,hv.iv,aU hv.wl ae⟩
theorem JL (hv:fD s){A:List Bool}(d:gP s.T A):qa s.T A:=⟨fun i hi hk=>hv.iv.fl i (d.al i hi) hk,fun i hi c=>by
 have hl:0<L (X s.T i t0).2.1:=by
  cases hq:(X s.T i t0).2.1 with
  |nil=>rw[hq] at c;cases c
  |cons _ _=>simp
 obtain⟨a,b⟩:=hv.iv.fv i (d.al i hi) _ (getD_in hl) c;have:=b.1;have:=hv.tl;exact⟨a,aa⟩⟩
def r9 (s:cn)(mj:Bool)(b:Int->Bool):Prop:=∀i:Nat,cA s.T i->(b i=D↔(X s.T i t0).2.2.1=D/\mj=K)
theorem JM (hv:fD s){mj:Bool}{d:Int->Bool}(hs:r9 s mj d):Bd (l8 w ce cj b_ l s) d (j7 s.T s.rs mj) where
 st:=fun i hi h=>(kD _ _ _ _).2 ⟨hi.1,aM ⟨((hs i hi).1 h).1,hi.2,((hs i hi).1 h).2⟩⟩
 rt:=fun v e f=>(kD _ _ _ _).2 ⟨(hv.rv v e f).2.1,aK ⟨v,e,f,rfl⟩⟩
 up:=fun i hi=>by
  obtain⟨g,j⟩:=(kD _ _ _ _).1 hi;rcases j with⟨a,b,c⟩|c
  ·exact aM ⟨⟨g,b⟩,(hs i ⟨g,b⟩).2 ⟨a,c⟩⟩
  ·exact aK c
 rv:=hv.rv
def cnf (g:List Bool->List Bool)(s:cn)(b_:Int)(mj:Bool):Bool:=decide (b_<iQ s.T (s.cR g mj).1 (L s.T))
def cn.jd (g:List Bool->List Bool)(s:cn)(mj:Bool):cn:=
 {T:=gh (s.cR g mj).1 s.T (L s.T),rs:=s.rs,rg:=s.rg.filter (fun e=>cW (s.c0 g mj) e.2&&cW (s.cR g mj).1 e.1),wt:=(s.wt++(s.cR g mj).2.1).filter (fun e=>cW (s.cR g mj).1 e.1)}
theorem JN {w:az}{ce ab p mk:Nat}{cj b_:Int}{m b r:bj}{n a:Nat}(h:w.heap[ce]?=Z (E #[ak cj,ak b_,m,ak n,ak a,b,r] 187 (0,0))):
 (ay (ay (ay w ⟨ce,2,MH⟩ (.map (Z ab))) ⟨ce,5,MH⟩ (bL (Z ⟨p,0,MH⟩))) ⟨ce,4,MH⟩ (U Q mk)).heap[ce]?=Z (E #[ak cj,ak b_,.map (Z ab),ak n,ak mk,aq p,r] 187 (0,0)):=by
 simp only [World.setCell,Array.getElem?_modify,if_true,h,Option.map_some];rfl
theorem oU {w:az}{ce b o o':Nat}{v x:bj}(hn:ce≠b)(h:V w (av b o')=Z x):V (ay w ⟨ce,o,MH⟩ v).drew (av b o')=Z x:=by rw[World.cell?_drew,World.cell?_setCell_far _ _ _ _ hn];exact h
theorem vv {w:az}{ce:Nat}{v x:bj}(h:V w (av ce 3)=Z x):V (ay w ⟨ce,2,MH⟩ v).drew (av ce 3)=Z x:=by exact vk
theorem Bf {w:az}{ce:Nat}{v x:bj}(h:V w (av ce 3)=Z x):V (ay w ⟨ce,5,MH⟩ v).drew (av ce 3)=Z x:=by exact vk
theorem JO {w:az}{ce:Nat}{v x:bj}(h:V w (av ce 3)=Z x):V (ay w ⟨ce,4,MH⟩ v).drew (av ce 3)=Z x:=by exact vk
theorem Bg (h:dQ ce cj b_ l s w)(cc:∀b,F b↔l.own b≠0)(hv:fD s)(b0:dz s.T s.wt g)(mj:Bool){f:Nat}{b ap:Array bj}{cf:Int->Bool}(hs:r5 (l8 w ce cj b_ l s) f b ap cf)(hy:r9 s mj cf):
 Calls O 202 #[aq ce,.func (.func f) b ap] w fun e w'=>∃N,e=R (ak (if cnf g s b_ mj=D then 3 else 0))/\(cG ce cj b_ l.rb).J N (if cnf g s b_ mj=D then s else s.jd g mj) w'/\ch F w N w':=by
 have cW:=@run_makeMap O;have hg:=JK h hv;have cg:=cZ.start w ce cj b_ l s;have P:=Ju hg cg ⟨e7.start s.T s.wt (j7 s.T s.rs mj),fun _=>aG _,by show 0+(0+cnt (MQ (L s.T) K))<=L s.T;rw[r8];omega⟩ hs (JM hv hy)
 have be:=hv.first mj;have ci:aA (∀bg bi bl bn bo n (w1:az),cZ (l8 w ce cj b_ l s) bg bi bl bn bo n w1->gB s.T s.wt (j7 s.T s.rs mj) n->n.td=[]->(∀k,cx (j7 s.T s.rs mj) k->cx n.A k)->
  Calls O 234 #[aq (I (G w)+1+1)] w1 fun e w'=>∃al cT b1 b2 b3 ar p a1 k1 a2 S,e=R (aq p)/\aA (cZ (l8 w ce cj b_ l s) al cT b1 b2 b3 ar w'/\ar.A=(s.cR g mj).1/\gP s.T ar.A/\fN w' p a1 k1 a2 S (s.jd g mj).rg (s.jd g mj).wt/\I (G w)<=p/\al p=0/\
   (∀k,Z k=MP (Value.slice a1 (L (s.jd g mj).rg) k1)->I (G w)<=k/\al k=0/\Z k≠MP (Value.slice a2 (L (s.jd g mj).wt) S))/\(∀k,Z k=MP (Value.slice a2 (L (s.jd g mj).wt) S)->I (G w)<=k/\al k=0)/\(w'.os=w1.os/\w'.tape=w1.tape/\w'.output=w1.output))):=fun bg bi bl bn bo n w1 c1 W aB bp=>by
  have ck:n.A=s.c0 g mj:=(W.mi.done aB be.len bp).uniq (b0 _ be.len be.al)
  refine(JG hg b0 hv c1 ⟨W.mi.base (fun _ h=>h),W.hl,W.mm⟩ aB).mono ?_;rintro e w' ⟨al,cT,b1,b2,b3,ar,p,a1,k1,a2,S,rfl,c2,aF,cl,cm,tk,am,⟨hp,co⟩,hr,hq⟩
  have cl:f8 g n.A s.rg=s.cR g mj:=by rw[ck];rfl
  have z:=c1.sz;dsimp only at z aF am hr hq;rw[cl] at aF am hr hq;rw[ck] at am hr;exact⟨al,cT,b1,b2,b3,ar,p,a1,k1,a2,S,rfl,c2,aF,⟨cm.mi.len,cm.mi.al⟩,am,aa,co,fun k e=>⟨by have:=(hr k e).1;omega,(hr k e).2⟩,fun k e=>⟨by have:=(hq k e).1;omega,(hq k e).2⟩,tk.fr.os,tk.fr.tape,tk.fr.output⟩
 have cX:=h.cells.2.2.2.2.2.2.2.2;have aR:aA (∀b,F b↔l.own b≠0):=cc;have j:aA (dQ ce cj b_ l s w/\fD s/\iu (l8 w ce cj b_ l s)):=⟨h,hv,hg⟩
 generalize cq:(if cnf g s b_ mj=D then(3:Int) else 0)=cd;generalize cr:(if cnf g s b_ mj=D then s else s.jd g mj)=sd;have q:aA ((if cnf g s b_ mj=D then(3:Int) else 0)=cd/\(if cnf g s b_ mj=D then s else s.jd g mj)=sd):=⟨cq,cr⟩
 clear h cc hv b0 hs hy hg cg be cq cr;go_enter func202,ntmps202;go_wp2_with fail;refine P.mono ?_;clear P;rintro e w1 ⟨bg,bi,bl,bn,bo,n,rfl,c1,br,W,aB,bp⟩
 have P:=ci.o bg bi bl bn bo n w1 c1 W aB bp;have t:aA (w1.os=w.os/\w1.tape=w.tape/\w1.output=w.output):=⟨br.fr.os,br.fr.tape,br.fr.output⟩
 clear c1 br W aB bp ci;go_wp2_with fail;refine P.mono ?_;clear P;rintro e ad ⟨cY,c0,cI,c4,c5,cs,p,a1,k1,a2,S,rfl,m⟩
 have ct:iQ s.T cs.A (L s.T)=iQ s.T (s.cR g mj).1 (L s.T):=by rw[m.o.2.1]
 have P:=Jq j.o.2.2 (m.o.1.below (aH _ ad).drew) m.o.2.2.1.len;have cu:=m.o.1.gv j.o.2.2.g;obtain⟨_,aV,_,_,_,_,_,_,b4⟩:=cu.cells;dsimp only at aV P b4;rw[ct] at P;have c6:=wV s.T (s.cR g mj).1 j.o.2.1.iv.tl (L s.T);have c7:=j.o.2.1.tl;have bs:aA (cnf g s b_ mj=decide (b_<iQ s.T (s.cR g mj).1 (L s.T))):=rfl;generalize iQ s.T (s.cR g mj).1 (L s.T)=cJ at*;clear cu ct;by_cases cw:b_<cJ
 ·have a0:cnf g s b_ mj=D:=by rw[bs.o,bq cw]
  have a3:aA (cd=3/\sd=s):=by rw[a0] at q;exact⟨q.o.1.symm,q.o.2.symm⟩
  have a4:aA (∀c,C (I (G ad)) ad c->(cG ce cj b_ l.rb).J F s c/\ch F w F c):=fun c hb=>by have c3:=m.o.1.below hb;have o:=m.o.2.2.2.2.2.2.2.2;refine⟨⟨l,c3.gv j.o.2.2.g,rfl,aR.o⟩,⟨⟨hb.os.trans (o.1.trans t.o.1),hb.tape.trans (o.2.1.trans t.o.2.1),hb.output.trans (o.2.2.trans t.o.2.2),c3.sz,fun k hk _=>c3.ol k hk⟩,fun _ h=>aM h⟩⟩
  clear bs a0 m t j aR q;go_wp2_with fail
  go_region_held3 (fun w'=>V w' (av ce 1)=Z (ak b_)) (go_keep)
   (first|(go_at_call 235;refine P.mono ?_;clear P;rintro e c ⟨rfl,ag⟩;have b5:=(ag.cell (p:=av ce 1) b4).trans aV;have cy:aA (_):=a4.o c (((aH _ ad).drew).trans (ag.mono b8));clear ag a4))
  all_goals
   clear aV b5;go_wp2_with fail;go_ret;exact⟨F,by rw[a3.o.1];rfl,by rw[a3.o.2];exact cy.o.1,cy.o.2⟩
 ·have a0:cnf g s b_ mj=K:=by rw[bs.o,bB cw]
  have a3:aA (cd=0/\sd=s.jd g mj):=by rw[a0] at q;exact⟨q.o.1.symm,q.o.2.symm⟩
  have a4:aA (∀c,C (I (G ad)) ad c->Calls O 236 #[aq (I (G w)+1+1)] c fun e d=>e=R (a6 #[])/\V d (av (I (G w)+1+1) 1)=Z (.map (Z (I (G w))))/\
   d.heap[ce]?=Z (E #[ak cj,ak b_,.map (Z l.mb),ak (L s.T),ak l.fF,aq l.bp,H (au l.rb) 12 12] 187 (0,0))/\
   aA (∀u,Fr (fun k=>k=ce) d u->u.heap[ce]?=Z (E #[ak cj,ak b_,.map (Z (I (G w))),ak (L s.T),ak (L s.T),aq p,H (au l.rb) 12 12] 187 (0,0))->∃N,(cG ce cj b_ l.rb).J N (s.jd g mj) u/\ch F w N u)):=fun c hb=>by
   have c3:=m.o.1.below hb;obtain⟨c8,aF,ba,am,hp,co,hr,hq,o⟩:=m.o;have hv:=j.o.2.1;have h:=j.o.1;have b6:=c3.gv j.o.2.2.g;have lw:∀b,l.own b≠0->b<I (G w):=h.lt;have z0:∀b,I (G w)<=b->l.own b=0:=fun b v=>by
    cases e:l.own b
    ·rfl
    ·exact absurd (lw b (by rw[e];omega)) aa
   have hB:=JL hv ba;refine(IX (fm:=l.fm) (lab:=l.own) (cp:=I (G w)+1+1) (ab:=I (G w)) (n1:=cI) ⟨c3.cells.2.1,c3.am,fun i hi=>b6.g2.fl i (ba.al i hi),fun i hi k e=>h.g2.e8 i (ba.al i hi) k e,z0 _ aa,z0 _ b8⟩ hB (fun b v=>aO (lw b v) c3.sz) (fun i hi=>by have:=(ba.al i hi).1;omega)).mono ?_;rintro e d ⟨rfl,an,x⟩
   have cK:d.heap[ce]?=c.heap[ce]?:=x.block ce (lt_of_some b6.blk) (fun ap=>by have:=h.bo;omega)
   refine⟨rfl,an.c1,cK.trans b6.blk,fun u B cz=>?_⟩
   have cA:∀b,I (G w)<=b->b≠ce:=fun b v e=>by omega
   have k5:∀b,b<I (G c)->b≠ce->¬10<=l.own b->u.heap[b]?=c.heap[b]?:=fun b v hn cL=>(B.block b (aO v x.size) hn).trans (x.block b v cL)
   have ca:∀b,I (G w)<=b->b<I (G c)->u.heap[b]?=c.heap[b]?:=fun b bt cb=>k5 b cb (cA b bt) (by rw[z0 b bt];omega)
   have bx:=am.below hb;have cN:fN u p a1 k1 a2 S (s.jd g mj).rg (s.jd g mj).wt:=bx.keep (ca p hp (lt_of_some bx.blk)) (fun k e=>ca k (hr k e).1 (cv bx.r0 k e).2) (fun k e=>ca k (hq k e).1 (cv bx.q0 k e).2)
   obtain⟨cB,g1,g2⟩:=h.cut ba hB (aU c3.sz (aU x.size B.size)) (fun b cO=>(k5 b (aO (lw b aa) c3.sz) (fun e=>by have:=h.bo;rw[e] at cO;omega) aa).trans (c3.ol b (lw b aa))) cz
    (an.hM.same (B.block _ an.hM.lt (cA _ b8))) (by have:=c3.an;dsimp only at this;omega) (fun i hi=>cM (an.row i hi) (fun k e=>B.block k (cv (an.row i hi) k e).2 (fun ap=>by have bt:=an.lb i hi k e;have cb:=h.bo;rw[ap,cb] at bt;omega))) cN ⟨aG _,hp⟩ (fun k e=>(hr k e).1) (fun k e=>(hq k e).1) (fun k e=>(hr k e).2.2)
   have cP:({T:=gh cs.A s.T (L s.T),rs:=s.rs,rg:=(s.jd g mj).rg,wt:=(s.jd g mj).wt}:cn)=s.jd g mj:=by rw[aF];rfl
   rw[cP] at g1;refine⟨fun b=>cB.own b≠0,⟨cB,g1,g1.IK (by simp[World.cell?,cz]),fun _=>iy⟩,⟨⟨B.os.trans (x.os.trans (hb.os.trans (o.1.trans t.o.1))),B.tape.trans (x.tape.trans (hb.tape.trans (o.2.1.trans t.o.2.1))),B.output.trans (x.output.trans (hb.output.trans (o.2.2.trans t.o.2.2))),aU c3.sz (aU x.size B.size),fun k hk hn=>?_⟩,fun b v=>(g2 b v).imp (aR.o b).2 id⟩⟩
   have cQ:l.own k=0:=by
    cases e:l.own k
    ·rfl
    ·exact absurd ((aR.o k).2 (by rw[e];omega)) hn
   exact(k5 k (aO hk c3.sz) (fun e=>by have:=h.bo;rw[e] at cQ;omega) aa).trans (c3.ol k hk)
  clear bs a0 m t j aR q;go_wp2_with fail
  go_region_held3 (fun w'=>V w' (av ce 1)=Z (ak b_)) (go_keep)
   (first|(go_at_call 235;refine P.mono ?_;clear P;rintro e c ⟨rfl,ag⟩;have b5:=(ag.cell (p:=av ce 1) b4).trans aV;have cC:=a4.o c (((aH _ ad).drew).trans (ag.mono b8));clear ag a4))
  all_goals
   clear aV b5;go_wp2_with fail;refine cC.mono ?_;clear cC;rintro e d ⟨rfl,bb,ai,cD⟩
   have cE:aA (_=_):=ai;have cR:V d (av ce 2)=Z (.map (Z l.mb)):=aD ai
   have bd:V d (av ce 3)=Z (ak (L s.T)):=aD ai
   have cS:V d (av ce 4)=Z (ak l.fF):=aD ai
   have cU:V d (av ce 5)=Z (aq l.bp):=aD ai
   have cV:∀o,d.frozen? (av ce o)=K:=fun o=>by simp[World.frozen?,ai]
   have ao:ce≠I (G w)+1+1:=aa;clear ai;go_wp2_with fail
   go_region_held3 (fun w'=>V w' (av (I (G w)+1+1) 1)=Z (.map (Z (I (G w))))/\V w' (av ce 3)=Z (ak (L s.T))) (first|exact⟨bb,bd⟩|exact⟨oU ao bb,vv bd⟩|exact⟨oU ao (oU ao bb),Bf (vv bd)⟩|exact⟨oU ao (oU ao (oU ao bb)),JO (Bf (vv bd))⟩|(go_keep;done)) (fail)
   all_goals
    clear ‹_/\_›;obtain⟨N,dM,cF⟩:=cD.o _ (((((Fr.refl (fun k=>k=ce) d).set ce 2 _ rfl).set ce 5 _ rfl).set ce 4 _ rfl).drew) (JN cE.o)
    have cH:aA (_):=And.intro dM cF;clear dM cF cD cE bb cR bd cS cU cV;go_wp2_with fail;go_ret;exact⟨N,by rw[a3.o.1];rfl,by rw[a3.o.2];exact cH.o.1,cH.o.2⟩
end
theorem JP (x:Int)(w:az):J O 204 #[ak x] w fun e w'=>e=R (.bool K)/\C (I (G w)) w w':=by go_wp2;go_ret;exact⟨rfl,aH _ _⟩
section
variable {ce rb:Nat}{cj b_:Int}{l:hD}{F:Nat->Prop}{s:cn}{w:az}{g:List Bool->List Bool}
theorem JQ:r5 (l8 w ce cj b_ l s) 204 #[] #[] (fun _=>K):=
 ⟨gF func204 ah rfl,fun x w' _=>JP x w'⟩
theorem JR (h:dQ ce cj b_ l s w):r5 (l8 w ce cj b_ l s) 203 #[aq ce] #[] (fun x=>decide (x<l.fF)):=
 ⟨gF func203 ah rfl,fun x w' hk=>by
  have c:=h.cells;have e:=hk ce c.2.2.2.2.2.2.2.2;refine(Bb (fF:=l.fF) ?_ x).mono ?_
  ·have:=c.2.2.2.2.1;simp only [World.cell?] at this⊢
   rw[e];exact this
  ·rintro e b ⟨rfl,rfl⟩
   exact⟨rfl,aH _ _⟩⟩
theorem JS:r9 s D (fun _=>K):=fun _ _=>⟨fun h=>(by cases h),fun h=>(by cases h.2)⟩
theorem JT (h:dQ ce cj b_ l s w):r9 s K (fun x=>decide (x<l.fF)):=fun i hi=>by rw[h.g2.fF i hi];simp
theorem JU {mj:Bool}(h:s.cF g b_ mj=D):s.gZ g b_ mj=3/\s.cut g b_ mj=s:=by unfold cn.gZ cn.cut;rw[aJ h,aJ h];exact⟨rfl,rfl⟩
theorem Bh {mj:Bool}(h:mj=D\/¬(b_-(eD s.T).2<(eD s.T).1)):s.gZ g b_ mj=(if cnf g s b_ mj=D then 3 else 0)/\s.cut g b_ mj=(if cnf g s b_ mj=D then s else s.jd g mj):=by
 have e:s.cF g b_ mj=cnf g s b_ mj:=by
  unfold cn.cF cnf;rcases h with h|h
  ·rw[h];simp
  ·rw[bB h];simp
 unfold cn.gZ cn.cut cn.jd;rw[e];exact⟨rfl,rfl⟩
theorem Bj (h:(cG ce cj b_ rb).J F s w)(hv:fD s)(c:dz s.T s.wt g):
 Calls O 135 #[aq ce] w fun e w'=>∃b,e=R (ak (s.gZ g b_ D))/\(cG ce cj b_ rb).J b (s.cut g b_ D) w'/\ch F w b w':=by
 obtain⟨l,hg,d,f⟩:=h;have P:=Bg hg f hv c D JQ JS;rw[d] at P;obtain⟨i,j⟩:=Bh (aM rfl)
 rw[<-i,<-j] at P;clear hg d f hv c i j;go_enter func135,ntmps135;go_wp2_with fail;refine P.mono ?_;rintro e w1 ⟨b,rfl,k,ht⟩
 go_wp2;go_ret;exact⟨b,rfl,(c8 k ht).o⟩
theorem Bk (h:(cG ce cj b_ rb).J F s w)(hv:fD s)(j:dz s.T s.wt g)(g0:-1000000<=b_)(g1:b_<=1000000):
 Calls O 134 #[aq ce] w fun e w'=>∃F',e=R (ak (s.gZ g b_ K))/\(cG ce cj b_ rb).J F' (s.cut g b_ K) w'/\ch F w F' w':=by
 obtain⟨l,hg,b,c⟩:=h;have P:=vo hg hv.iv.tl hv.tl;have bd:=wU s.T hv.t12;have B:=hv.tl;obtain⟨_,_,_,_,_,_,_,_,N⟩:=hg.cells;have d:aA (∀w1,C (I (G w)) w w1->_=_):=fun w1 hb=>(hg.below hb).cells.2.1;have p:aA (¬(b_-(eD s.T).2<(eD s.T).1)->∀w1,C (I (G w)) w w1->Calls O 202 #[aq ce,.func (.func 203) #[aq ce] #[]] w1 fun e w'=>∃F',e=R (ak (s.gZ g b_ K))/\(cG ce cj b_ rb).J F' (s.cut g b_ K) w'/\ch F w F' w'):=fun hn w1 hb=>by
  have f:=hg.below hb;have k:=Bg f c hv j K (JR f) (JT f)
  rw[b] at k;refine k.mono ?_;obtain⟨q,t⟩:=Bh (s:=s) (b_:=b_) (g:=g) (mj:=K) (aK hn)
  rw[<-q,<-t];exact vl
 have u:aA (b_-(eD s.T).2<(eD s.T).1->s.gZ g b_ K=3/\s.cut g b_ K=s):=fun hn=>JU (by unfold cn.cF;rw[bq hn];rfl)
 have i:aA (∀w1,C (I (G w)) w w1->(cG ce cj b_ rb).J F s w1):=fun w1 hb=>⟨l,hg.below hb,b,c⟩
 generalize s.gZ g b_ K=cd at*;generalize s.cut g b_ K=sd at*;generalize (eD s.T).1=v at*;generalize (eD s.T).2=x at*;clear hg b c hv j;by_cases hn:b_-x<v
 ·have m:aA (cd=3/\sd=s):=u.o hn;go_enter func134,ntmps134;go_wp2_with fail;refine P.mono ?_;rintro e w1 ⟨rfl,hb⟩
  have c1:=d.o w1 hb;have n:aA ((cG ce cj b_ rb).J F s w1/\ch F w F w1):=⟨i.o w1 hb,ch.of hb⟩
  go_wp2_with fail;go_ret;exact⟨F,by rw[m.o.1];rfl,by rw[m.o.2];exact n.o.1,n.o.2⟩
 ·have o:=hide (p.o hn)
  go_enter func134,ntmps134;go_wp2_with fail;refine P.mono ?_;rintro e w1 ⟨rfl,hb⟩
  have c1:=d.o w1 hb;have P:=o.o w1 hb;clear d hb o;go_wp2_with fail;refine P.mono ?_;rintro e S ⟨F',rfl,hj,ht⟩
  have i:=c8 hj ht;go_wp2_with fail;go_ret;exact⟨F',rfl,i.o⟩
theorem JV {g:eg}{m:Int}(h:(cG ce cj b_ rb).J F s w)(hv:fD s)(b:dz s.T s.wt (g s.T s.wt))(g0:-1000000<=b_)(g1:b_<=1000000)(i:-1000000<=cj)(m1:cj<=1000000):
 Calls O 238 #[aq ce,ak m] w fun e w'=>∃F',e=R (ak (s.room g cj b_ m).1)/\(cG ce cj b_ rb).J F' (s.room g cj b_ m).2 w'/\ch F w F' w':=by
 obtain⟨l,hg,c,d⟩:=h;have P:=vo hg hv.iv.tl hv.tl;have bd:=wU s.T hv.t12;have j:=hv.tl;obtain⟨_,_,_,_,_,_,_,_,k⟩:=hg.cells;have HC:aA (∀w1,C (I (G w)) w w1->V w1 (av ce 0)=Z (ak cj)/\V w1 (av ce 1)=Z (ak b_)):=fun w1 hb=>⟨(hg.below hb).cells.1,(hg.below hb).cells.2.1⟩
 have HJ:aA (∀w1,C (I (G w)) w w1->(cG ce cj b_ rb).J F s w1):=fun w1 hb=>⟨l,hg.below hb,c,d⟩
 by_cases c1:m<=cj-(eD s.T).1
 ·have e:s.room g cj b_ m=(0,s):=aJ c1;rw[e];generalize (eD s.T).1=yn at*;generalize (eD s.T).2=od at*;go_enter func238,ntmps238;go_wp2_with fail;refine P.mono ?_;rintro e w1 ⟨rfl,hb⟩
  obtain⟨d0,d1⟩:=HC.o w1 hb;have f:aA ((cG ce cj b_ rb).J F s w1/\ch F w F w1):=⟨HJ.o w1 hb,ch.of hb⟩
  go_wp2_with fail;go_ret;exact⟨F,rfl,f.o⟩
 ·by_cases c2:b_-(eD s.T).2<(eD s.T).1
  ·have e:s.room g cj b_ m=(s.gZ (g s.T s.wt) b_ D,s.cut (g s.T s.wt) b_ D):=by unfold cn.room;rw[aI c1,bq c2]
   rw[e];have HP:aA (∀w1,C (I (G w)) w w1->Calls O 135 #[aq ce] w1 fun e w'=>∃F',e=R (ak (s.gZ (g s.T s.wt) b_ D))/\(cG ce cj b_ rb).J F' (s.cut (g s.T s.wt) b_ D) w'/\ch F w F' w'):=fun w1 hb=>by refine(Bj (HJ.o w1 hb) hv b).mono ?_;exact vl
   generalize s.gZ (g s.T s.wt) b_ D=cd at*;generalize s.cut (g s.T s.wt) b_ D=sd at*;exact A_
  ·have e:s.room g cj b_ m=(s.gZ (g s.T s.wt) b_ K,s.cut (g s.T s.wt) b_ K):=by unfold cn.room;rw[aI c1,bB c2]
   rw[e];have HP:aA (∀w1,C (I (G w)) w w1->Calls O 134 #[aq ce] w1 fun e w'=>∃F',e=R (ak (s.gZ (g s.T s.wt) b_ K))/\(cG ce cj b_ rb).J F' (s.cut (g s.T s.wt) b_ K) w'/\ch F w F' w'):=fun w1 hb=>by refine(Bk (HJ.o w1 hb) hv b g0 g1).mono ?_;exact vl
   generalize s.gZ (g s.T s.wt) b_ K=cd at*;generalize s.cut (g s.T s.wt) b_ K=sd at*;exact A_
end
theorem JW (w:az):aC (bE w (E #[] 97)) (I (G w)) 97 2 (H (au (I (G w))) 0 0) 0 []:=
 ⟨rfl,aK ⟨I (G w),0,#[],rfl,aG _,aP _ _,aG _,a5 _,rfl,rfl⟩⟩
theorem r_:(prog.info? 97).map (fun i=>(i.zero,i.size,i.bytes))=Z (Z (bF #[ak 0,ak 0]),2,16):=ah
theorem JX (w:az)(ad:Option bI)(l:List (Int×Int))(cap:Nat)(h:iP w ad l cap)(hm:L l<=100000):
 J O 237 #[H ad (L l) cap] w fun e w'=>∃a1 c1,e=R (H a1 (L l) c1)/\aC w' (I (G w)) 97 2 (H a1 (L l) c1) (L l) (ev l)/\C (I (G w)) w w':=by
 obtain⟨d,hi,f,g,i⟩:=info_parts r_;have o:∀(w:az)(a:Option bI)(n c:Nat),_=_:=fun w a n c=>Lib.run_eql_slice_nil w _ _ a n c 0 0 underlying57;have j:=hide h.lp;cases ad with
 |none=>
  have hl:=List.eq_nil_of_length_eq_zero (h.nil rfl).1;subst hl;go_enter func237,ntmps237;go_wp2;go_ret;exact⟨MH,0,rfl,bf _ _ _ _,aH _ _⟩
 |some a=>
  clear h;go_enter func237,ntmps237;go_wp2_with (at_builtin;refine wpList_append_own _ rfl _ _ 57 rfl (I (G w)) 97 d _ 2 16 underlying57 hi f g i rfl ae _ 0 [] rfl (JW w) a (L l) cap (ev l) rfl (kZ l) ((j.o.below (b9.alloc b8 _)).cells a rfl) (oe l) ?_ ?_ ?_ ?_;(unfold maxLen;omega);omega;(simp);intro v w1 b m _)
  rw[List.nil_append,Nat.zero_add] at b;obtain⟨a1,c1,rfl⟩:=eT b;go_wp2;go_ret;exact⟨a1,c1,rfl,b,(b9.alloc b8 _).grown m ac (fun k e=>by cases e;exact aG _)⟩
section
variable {ce:Nat}{cj b_:Int}{l:hD}{s:cn}{w w':az}
theorem Bl (T:List cJ)(t:cJ)(i:Nat):X (T++[t]) i t0=if i=L T then t else X T i t0:=by
 rw[aL,aL,List.getElem?_append];by_cases h:i<L T
 ·rw[aJ h,aI aa]
 ·rw[aI h];by_cases e:i=L T
  ·subst e;simp
  ·rw[aI e,kr (by simp;omega),kr aa]
theorem oV (T:List cJ)(k:Int)(fl:List _)(i:Nat):cA (T++[(k,fl,K,K)]) i↔cA T i\/i=L T:=by
 unfold cA;rw[Bl,a8,k3];by_cases e:i=L T
 ·simp_all
 ·rw[aI e];exact⟨fun h=>aM ⟨aa,h.2⟩,fun h=>h.elim (fun h=>⟨aa,h.2⟩) (fun h=>absurd h e)⟩
theorem dQ.new (h:dQ ce cj b_ l s w){kd:Int}{fl:List _}{a:Option bI}{cp:Nat}(hs:I (G w)<=I (G w'))(hk:∀b,l.own b≠0->l.own b≠1->l.own b≠2->w'.heap[b]?=w.heap[b]?)
 (hb:w'.heap[ce]?=Z (E #[ak cj,ak b_,.map (Z l.mb),ak (L s.T+1:Nat),ak l.fF,aq l.bp,H (au l.rb) 12 12] 187 (0,0)))
 (hM:eM w' l.mb (l.n+1) (jX (it s.T l.fm) (L s.T) (bF #[ak kd,H a (L fl) cp])))(q:aC w' 0 97 2 (H a (L fl) cp) (L fl) (ev fl))
 (hn:∀k,Z k=MP (Value.slice a (L fl) cp)->l.own k=0):
 ∃o,dQ ce cj b_ o (s.put kd fl) w'/\(∀b,o.own b≠0->l.own b≠0\/Z b=MP (Value.slice a (L fl) cp))/\o.rb=l.rb:=by
 have ho:∀b,l.own b≠0->(if Z b=MP (Value.slice a (L fl) cp) then 10+L s.T else l.own b)=l.own b:=fun b hb=>aI (fun e=>hb (hn b e))
 have ne:∀i,cA s.T i->i≠L s.T:=fun i hi e=>by have:=hi.1;omega
 have g:∀i,i≠L s.T->X (s.T++[(kd,fl,K,K)]) i t0=X s.T i t0:=fun i e=>by rw[Bl,aI e]
 have j:X (s.T++[(kd,fl,K,K)]) (L s.T) t0=(kd,fl,K,K):=by simp_all
 have t:jX (it s.T l.fm) (L s.T) (bF #[ak kd,H a (L fl) cp])=it (s.T++[(kd,fl,K,K)]) (fun i=>if i=L s.T then(a,cp) else l.fm i):=by
  funext x
  unfold jX;by_cases e:x=L s.T
  ·rw[aJ e,jA ⟨aa,(oV _ _ _ _).2 (aK aa)⟩];have m:M x=L s.T:=aa;dsimp only [gm,eR];rw[m,j,aJ rfl]
  ·rw[aI e];by_cases f:0<=x/\cA s.T (M x)
   ·have m:=ne _ f.2;rw[jA f,jA ⟨f.1,(oV _ _ _ _).2 (aM f.2)⟩];dsimp only [gm,eR];rw[g _ m,aI m]
   ·rw[l7 f,l7 (fun c=>by
     rcases(oV _ _ _ _).1 c.2 with d|d
     ·simp_all
     ·exact e aa)]
 refine⟨{l with own:=fun b=>if Z b=MP (Value.slice a (L fl) cp) then 10+L s.T else l.own b,fm:=fun i=>if i=L s.T then(a,cp) else l.fm i,n:=l.n+1},?_,fun b hb=>?_,rfl⟩
 ·refine {blk:=?_,bo:=(ho _ (by rw[h.bo];decide)).trans h.bo,g2:=?_,g3:=?_,g4:=?_,lt:=fun b p=>?_}
  ·show _=Z (Obj.cells #[_,_,_,ak (L (s.T++[(kd,fl,K,K)]):Nat),_,_,_] _ _)
   rw[a8,k3];exact hb
  ·refine {mp:=?_,mn:=?_,dy:=(ho _ (by rw[h.g2.dy];decide)).trans h.g2.dy,fl:=fun i hi=>?_,e8:=fun i hi k e=>?_,fF:=fun i hi=>?_,al:=?_}
   ·show eM w' l.mb (l.n+1) (it (s.T++[(kd,fl,K,K)]) _)
    rw[<-t];exact hM
   ·have:=h.g2.mn;show l.n+1<=L (s.T++[(kd,fl,K,K)]);rw[a8,k3];omega
   ·rcases(oV _ _ _ _).1 hi with d|d
    ·dsimp only [eR,cn.put];rw[g i (ne i d),aI (ne i d)];exact cM (h.g2.fl i d) (fun k e=>hk k (by rw[h.g2.e8 i d k e];omega) (by rw[h.g2.e8 i d k e];omega) (by rw[h.g2.e8 i d k e];omega))
    ·dsimp only [eR,cn.put];rw[d,j,aJ rfl];exact q
   ·rcases(oV _ _ _ _).1 hi with d|d
    ·dsimp only [eR,cn.put] at e;rw[g i (ne i d),aI (ne i d)] at e;have:=h.g2.e8 i d k e;exact(ho k (by rw[this];omega)).trans this
    ·dsimp only [eR,cn.put] at e;rw[d,j,aJ rfl] at e;show(if _ then _ else _)=_;rw[aJ e,d]
   ·rcases(oV _ _ _ _).1 hi with d|d
    ·dsimp only [cn.put];rw[g i (ne i d)];exact h.g2.fF i d
    ·have:=h.g2.al;dsimp only [cn.put];rw[d,j];simp;exact this
   ·have:=h.g2.al;show l.fF<=L (s.T++[(kd,fl,K,K)]);rw[a8,k3];omega
  ·have z:=h.g3.keep (fun b hb=>hk b aa aa aa)
   exact {sd:=z.sd,so:=(ho _ (by rw[z.so];decide)).trans z.so,ro:=fun k e=>(ho k (by rw[z.ro k e];decide)).trans (z.ro k e),mM:=fun k e=>(ho k (by rw[z.mM k e];decide)).trans (z.mM k e)}
  ·have z:=h.g4.keep (fun b hb=>hk b aa aa aa)
   exact {rt:=z.rt,rl:=z.rl,ro:=(ho _ (by rw[z.ro];decide)).trans z.ro}
  ·dsimp only at p;split at p
   ·rename_i e;exact(cv q b e).2
   ·exact aO (h.lt b p) hs
 ·dsimp only at hb;split at hb
  ·simp_all
  ·exact aM hb
end
end Go.Proofs.YtpkjkjhanlbcoaaGreat
