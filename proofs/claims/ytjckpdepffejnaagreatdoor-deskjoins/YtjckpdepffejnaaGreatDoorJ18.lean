import Derived.Test.YtjckpdepffejnaaGreatDoorJ17
open Array renaming size->I
open Bool renaming and_true->Gc,false->O4,true->O5
open Classical renaming byContradiction->fo
open Go renaming Addr->bB,Calls->M,Value->a7
open Go.Ending renaming returned->Q
open Go.IntKind renaming i64->OW
open Go.Obj renaming cells->E
open Go.Proofs.Tryz renaming prog->J
open Go.RowKit renaming Below->O
open Go.Value renaming agg->bz,bool->bA,int->U,ownBlock->O9,pointer->bq,slice->Z,tuple->ay
open Go.World renaming alloc->bu,cell?->V,heap->G,setCell->O8
open Iff renaming rfl->gp
open Int renaming eq_ofNat_of_zero_le->bC,le_refl->wI,toNat->K,toNat_natCast->bD
open List renaming getD->X,length->L,length_set->lG
open Nat renaming le_succ->jl
open Option renaming none->O0,some->H
open Option.some renaming inj->kg
namespace Go.Proofs.YtjckpdepffejnaaGreatDoor
set_option maxRecDepth 100000
set_option maxHeartbeats 4000000
open Tryz
open Go.RowKit W Kp ch
theorem B4 {P:Prop}(h:P:=by have l1:=hR2.oK.lt;have l2:=hR2.lt;exact⟨hR2.same ((hb3.block _ (by simp;omega)).trans (aU _ _ _ l1)) ((hb3.block _ (by simp;omega)).trans (aU _ _ _ l2)),b3.trans (hb3.mono b3.size),hlt⟩):P:=h
section
variable {b7 rb:Nat}{ce grow:Int}{l:ik}{F:Nat->Prop}{s:ck}{w w':az}
theorem dr.set2 {d:Type}(o:dr d){t:d}{b:Nat}(h:o.J F t w)(hn:¬F b)(v1 v2:a7):o.J F t (O8 (O8 w ⟨b,0,O0⟩ v1) ⟨b,1,O0⟩ v2):=
 o.fr h (((Fr.refl (λk=>k=b) w).set b _ _ rfl).set b _ _ rfl) (λk hk c=>hn (by rw[<-c];exact hk))
theorem b9.set2 {d:Nat->Prop}{b:Nat}(t:b9 F w d w')(hb:I (G w)<=b)(v1 v2:a7):b9 F w d (O8 (O8 w' ⟨b,0,O0⟩ v1) ⟨b,1,O0⟩ v2):=
 ⟨t.fr.trans (((Fr.refl (λk=>k=b) w').set b _ _ rfl).set b _ _ rfl) (λk c=>aI (by rw[c];exact hb)),t.sub⟩
theorem KH (h:(cG b7 ce grow rb).J F s w)(t d:Int×Int)(ht:t.1=3->0<=t.2/\cz s.T (K t.2))(hd:d.1=3->0<=d.2/\cz s.T (K d.2))(N:L s.T<=10000)(h0:L s.rg<=90000)(ai:L s.wt<=90000):
 M prog 131 #[aq b7,bz #[ak t.1,ak t.2],bz #[ak d.1,ak d.2]] w λe w'=>∃g,e=Q (ak (s.reg t d).1)/\(cG b7 ce grow rb).J g (s.reg t d).2 w'/\b9 F w g w':=by
 obtain⟨al,b⟩:=t;obtain⟨i,f⟩:=d;have b1:O (I (G w)) w (bu (bu w (E #[U OW al,U OW b] 139)) (E #[U OW i,U OW f] 139)):=(bZ.alloc bY _).alloc ac _;have S:aA ((cG b7 ce grow rb).J F s w):=h;have u:aA (∀w1,O (I (G w)) w w1->M prog 203 #[aq b7,bz #[ak i,ak f]] w1 λe w'=>e=Q (bA (jy s.T (i,f)))/\O (I (G w1)) w1 w'):=λw1 hb=>by obtain⟨l,h,aV,a0⟩:=S.o;exact BO (h.below hb) (i,f) hd N
 have o:aA (∀w1,O (I (G w)) w w1->∃bp,V w1 (av b7 5)=H (aq bp)/\M prog 167 #[aq bp,bz #[ak f,ak b]] w1 λe w'=>∃g,e=Q (bA (!kV (L s.rg+L s.wt)))/\
  (cG b7 ce grow rb).J g (if 24<=L s.rg+L s.wt then s else {s with rg:=s.rg++[(f,b)]}) w'/\b9 F w g w'/\∀a:bB,a.block=b7\/(I (G w)<=a.block/\a.block<I (G w1))->V w' a=V w1 a):=λw1 hb=>by
  obtain⟨bp,x,P⟩:=KF ((cG b7 ce grow rb).below S.o hb) f b h0 ai;refine⟨bp,x,P.mono ?_⟩
  rintro e w' ⟨g,rfl,j,t,hg⟩
  refine⟨g,rfl,j,(b9.of hb).trans t,λa ha=>aS ?_⟩
  rcases ha with e|⟨a1,a2⟩
  ·rw[e];exact hg
  ·exact t.fr.block _ a2 (λc=>by have:=(cG b7 ce grow rb).lt S.o _ c;omega)
 unfold ck.reg;by_cases an:al=3
 ·subst an;have P:M prog 202 #[aq b7,bz #[ak 3,ak b]] (bu (bu w (E #[U OW 3,U OW b] 139)) (E #[U OW i,U OW f] 139)) λe w'=>∃k ad n c,e=Q (ay #[bz #[ak k,Z ad n c],bA O5])/\O (I (G w)) w (bu w' (E #[U OW k,Z ad n c] 271))/\
   (bu w' (E #[U OW k,Z ad n c] 271)).heap[I (G w)]?=H (E #[ak 3,ak b] 139 (0,0))/\(bu w' (E #[U OW k,Z ad n c] 271)).heap[I (G w)+1]?=H (E #[ak i,ak f] 139 (0,0)):=by
   obtain⟨l,h,aV,a0⟩:=h;refine(tc (h.below b1) b (ht rfl) N).mono ?_;rintro e w' ⟨rfl,hb⟩
   have ap:=b1.trans (hb.mono b1.size)
   have v:=(hb.block (I (G w)) (by simp;omega)).trans ((aU _ _ _ ac).trans (aO w (E #[U OW 3,U OW b] 139)))
   have p:=(hb.block (I (G w)+1) ac).trans (jz w (E #[U OW 3,U OW b] 139) (E #[U OW i,U OW f] 139))
   exact⟨_,_,_,_,rfl,ap.alloc ap.size _,(aU _ _ _ (cj v)).trans v,(aU _ _ _ (cj p)).trans p⟩
  cases hg:jy s.T (i,f)
  ·rw[aJ (λc=>by cases c.2)];rw[hg] at u;clear h ht hd N h0 ai o hg;go_enter func131,ntmps131;go_wp2_with fail;refine P.mono ?_;clear P;rintro e w1 ⟨k,ad,n,c,rfl,hb,v,p⟩
   have W:=u.o _ hb;obtain⟨q0,q1,_,_⟩:=dt p;have q:aA (_):=hb;clear hb u v p b1;go_wp2_with fail;refine W.mono ?_;clear W;rintro e am ⟨rfl,m⟩
   have m:=q.o.trans (m.mono q.o.size)
   have ab:aA ((cG b7 ce grow rb).J F s am/\b9 F w F am):=⟨(cG b7 ce grow rb).below S.o m,b9.of m⟩
   clear m q0 q1;go_wp2_with fail;go_ret;exact⟨F,rfl,ab.o.1,ab.o.2⟩
  ·rw[aN ⟨rfl,rfl⟩];rw[hg] at u;have key:∀(fb:Bool)(cd:Int)(s2:ck),(cd=if fb=O5 then 3 else 0)->aA (∀w1,O (I (G w)) w w1->∃bp,V w1 (av b7 5)=H (aq bp)/\M prog 167 #[aq bp,bz #[ak f,ak b]] w1 λe w'=>∃g,e=Q (bA (!fb))/\(cG b7 ce grow rb).J g s2 w'/\b9 F w g w'/\∀a:bB,a.block=b7\/(I (G w)<=a.block/\a.block<I (G w1))->V w' a=V w1 a)->
    M prog 131 #[aq b7,bz #[ak 3,ak b],bz #[ak i,ak f]] w λe w'=>∃g,e=Q (ak cd)/\(cG b7 ce grow rb).J g s2 w'/\b9 F w g w':=by
    intro fb cd s2 bb o;clear h ht hd N h0 ai hg;cases fb<;>subst bb
    all_goals
     go_enter func131,ntmps131;go_wp2_with fail;refine P.mono ?_;clear P;rintro e w1 ⟨k,ad,n,c,rfl,hb,v,p⟩
     have W:=u.o _ hb;obtain⟨q0,q1,_,_⟩:=dt p;have q:aA (_):=hb;have ag:aA (_/\_):=⟨v,p⟩
     clear hb u v p b1;go_wp2_with fail;refine W.mono ?_;clear W;rintro e am ⟨rfl,m⟩
     have ar:=q.o.trans (m.mono q.o.size)
     obtain⟨bp,x,aB⟩:=o.o _ ar.drew;obtain⟨_,y1,_,l1⟩:=dt ((m.block _ (cj ag.o.1)).trans ag.o.1)
     obtain⟨_,aF,_,l2⟩:=dt ((m.block _ (cj ag.o.2)).trans ag.o.2)
     have x:V am (av b7 5)=H (aq bp):=x;clear m ar q0 q1 ag o;go_wp2_with fail
     go_region_held3 (λw'=>V w' (av b7 5)=H (aq bp)/\V w' (av (I (G w)) 1)=H (ak b)/\V w' (av (I (G w)+1) 1)=H (ak f)) (go_keep)
      (first|(go_at_call 167;refine aB.mono ?_;clear aB;rintro e aR ⟨ao,rfl,cI,t3,k3⟩;have ab:aA ((cG b7 ce grow rb).J ao s2 aR/\b9 F w ao aR):=⟨cI,t3⟩;have bd:=(k3 ⟨b7,5,O0⟩ (aK rfl)).trans x;have be:=(k3 ⟨I (G w),1,O0⟩ (aI ⟨aG _,l1⟩)).trans y1;have bg:=(k3 ⟨I (G w)+1,1,O0⟩ (aI ⟨jl _,l2⟩)).trans aF;clear cI t3 x y1 aF k3))
     all_goals
      go_wp2_with fail;go_ret;exact⟨rfl,ao,ab.o.1,ab.o.2⟩
   by_cases B:24<=L s.rg+L s.wt
   ·rw[aN B];simp only [if_pos B,sk B] at o;exact key O5 3 s rfl o
   ·rw[aJ B];simp only [if_neg B,sq B] at o;exact key O4 0 _ rfl o
 ·rw[aJ (λc=>an c.1)];have P:=wN (b7:=b7) (w:=bu (bu w (E #[U OW al,U OW b] 139)) (E #[U OW i,U OW f] 139)) (al,b) an;clear h ht hd N h0 ai u o;go_enter func131,ntmps131;go_wp2_with fail;refine P.mono ?_;clear P;rintro e w1 ⟨rfl,hb⟩
  have q:aA (O (I (G w)) w w1):=b1.trans (hb.mono b1.size)
  clear hb b1;go_wp2_with fail;go_ret;have hb:=q.o.alloc q.o.size (E #[U OW 0,Z O0 0 0] 271)
  exact⟨F,rfl,(cG b7 ce grow rb).below S.o hb,b9.of hb⟩
theorem KI (h:(cG b7 ce grow rb).J F s w)(v:Int×Int)(hv:v.1=3->0<=v.2/\cz s.T (K v.2))(B:L s.T<=10000)(N:L s.wt<=90000):
 M prog 210 #[aq b7,bz #[ak v.1,ak v.2]] w λe w'=>∃d,e=Q (ay #[bz #[ak (s.pop v).1.1,ak (s.pop v).1.2],ak (s.pop v).2.1])/\(cG b7 ce grow rb).J d (s.pop v).2.2 w'/\b9 F w d w':=by
 obtain⟨k,x⟩:=v;have b1:O (I (G w)) w (bu (bu w (E #[U OW k,U OW x] 139)) (E #[U OW 0,U OW 0] 139)):=(bZ.alloc bY _).alloc ac _;have S:aA ((cG b7 ce grow rb).J F s w):=h;have P:M prog 203 #[aq b7,bz #[ak k,ak x]] (bu (bu w (E #[U OW k,U OW x] 139)) (E #[U OW 0,U OW 0] 139)) λe w'=>e=Q (bA (jy s.T (k,x)))/\O (I (G w)) w w'/\
  w'.heap[I (G w)]?=H (E #[ak k,ak x] 139 (0,0))/\w'.heap[I (G w)+1]?=H (E #[ak 0,ak 0] 139 (0,0)):=by
  obtain⟨l,h,aV,a0⟩:=h;refine(BO (h.below b1) (k,x) hv B).mono ?_;rintro e w' ⟨rfl,hb⟩
  exact⟨rfl,b1.trans (hb.mono b1.size),(hb.block (I (G w)) (by simp;omega)).trans ((aU _ _ _ ac).trans (aO w _)),(hb.block (I (G w)+1) ac).trans (jz w _ _)⟩
 have f:aA (∀w1,O (I (G w)) w w1->∃bp,V w1 (av b7 5)=H (aq bp)/\M prog 281 #[aq bp,ak x] w1 λe w'=>∃d,e=Q (ay #[ak (if eh x s.wt<L s.wt then(X s.wt (eh x s.wt) (0,0)).2 else 0),bA (decide (eh x s.wt<L s.wt))])/\
  (cG b7 ce grow rb).J d (if eh x s.wt<L s.wt then {s with wt:=s.wt.take (eh x s.wt)++s.wt.drop (eh x s.wt+1)} else s) w'/\b9 F w1 d w'/\∀b,b=b7\/(I (G w)<=b/\b<I (G w1))->w'.heap[b]?=w1.heap[b]?):=λw1 hb=>by
  obtain⟨bp,n,P⟩:=KG ((cG b7 ce grow rb).below S.o hb) x N;refine⟨bp,n,P.mono ?_⟩
  rintro e w' ⟨d,rfl,j,t,hg⟩
  refine⟨d,rfl,j,t,λa ha=>?_⟩
  rcases ha with e|⟨a1,a2⟩
  ·rw[e];exact hg
  ·exact t.fr.block _ a2 (λc=>by have:=(cG b7 ce grow rb).lt S.o _ c;omega)
 unfold ck.pop;cases hg:jy s.T (k,x)
 ·rw[aJ ae];rw[hg] at P;clear h hv B N f hg b1;go_enter func210,ntmps210;go_wp2_with fail;refine P.mono ?_;clear P;rintro e w1 ⟨rfl,hb,p,o⟩
  obtain⟨W,ab,ad,lw⟩:=dt o;have m:aA (_=_):=o;have ag:aA (_):=hb;clear hb p o;go_wp2_with fail;obtain⟨r0,r1,_,_⟩:=dt (ib (v1:=ak 0) (v2:=ak 0) m.o)
  have hb:O (I (G w)) w (O8 (O8 w1 ⟨I (G w)+1,0,O0⟩ (U OW 0)) ⟨I (G w)+1,1,O0⟩ (U OW 0)):=(ag.o.setCell ac _).setCell ac _;exact a3 (v:=ay #[bz #[ak 0,ak 0],ak 2]) (by simp[results,results210,go_sem,r0,r1]) rfl ⟨F,rfl,(cG b7 ce grow rb).below S.o hb,b9.of hb⟩
 ·rw[aN rfl];rw[hg] at P;have key:∀(fb:Bool)(z:Int)(s2:ck),(∀w1,O (I (G w)) w w1->∃bp,V w1 (av b7 5)=H (aq bp)/\M prog 281 #[aq bp,ak x] w1 λe w'=>∃d,e=Q (ay #[ak z,bA fb])/\
   (cG b7 ce grow rb).J d s2 w'/\b9 F w1 d w'/\∀b,b=b7\/(I (G w)<=b/\b<I (G w1))->w'.heap[b]?=w1.heap[b]?)->
   M prog 210 #[aq b7,bz #[ak k,ak x]] w λe w'=>∃d,e=Q (ay #[bz #[ak (if fb=O5 then 3 else 0),ak (if fb=O5 then z else 0)],ak (if fb=O5 then 0 else 4)])/\(cG b7 ce grow rb).J d s2 w'/\b9 F w d w':=by
   intro fb z s2 f;have f:aA (∀w1,O (I (G w)) w w1->∃bp,V w1 (av b7 5)=H (aq bp)/\M prog 281 #[aq bp,ak x] w1 λe w'=>∃d,e=Q (ay #[ak z,bA fb])/\
    (cG b7 ce grow rb).J d s2 w'/\b9 F w1 d w'/\∀b,b=b7\/(I (G w)<=b/\b<I (G w1))->w'.heap[b]?=w1.heap[b]?):=f
   have ap:aA (∀b,F b->b<I (G w)):=λb hb=>(cG b7 ce grow rb).lt h b hb;clear h hv B N hg b1;rename_i ar aB;clear ar aB;cases fb
   all_goals
    go_enter func210,ntmps210;go_wp2_with fail;refine P.mono ?_;clear P;rintro e w1 ⟨rfl,hb,p,o⟩
    obtain⟨_,y1,_,l1⟩:=dt p;obtain⟨bp,n,al⟩:=f.o _ hb.drew;have n:V w1 (av b7 5)=H (aq bp):=n;have ag:aA (_):=hb;have q:aA (_=_):=o;clear hb p o f;go_wp2_with fail
    go_region_held3 (λw'=>V w' (av b7 5)=H (aq bp)/\V w' (av (I (G w)) 1)=H (ak x)) (go_keep)
     (first|(go_at_call 281;refine al.mono ?_;clear al;rintro e am ⟨i,rfl,cI,t3,k3⟩;have an:¬i (I (G w)+1):=(λc=>(t3.sub _ c).elim (λc=>by have:=ap.o _ c;omega) (λc=>by have:=cj q.o;have c:I (G w1)<=_:=c;omega));have g:aA ((cG b7 ce grow rb).J i s2 am/\b9 F w i am/\¬i (I (G w)+1)):=⟨cI,(b9.of ag.o.drew).trans t3,an⟩;have aF:=(aS (a:=⟨b7,5,O0⟩) (k3 b7 (aK rfl))).trans n;have aR:=(aS (a:=⟨I (G w),1,O0⟩) (k3 (I (G w)) (aI ⟨aG _,l1⟩))).trans y1;have ai:=(k3 (I (G w)+1) (aI ⟨jl _,cj q.o⟩)).trans q.o;obtain⟨W,ab,ad,lw⟩:=dt ai;have m:aA (_=_):=ai;clear cI t3 n y1 k3 ai an))
    all_goals
     clear aF aR q;go_wp2_with fail
     first
      |(
       obtain⟨r0,r1,_,_⟩:=dt (ib (v1:=ak 0) (v2:=ak 0) m.o)
       exact a3 (v:=ay #[bz #[ak 0,ak 0],ak 4]) (by simp[results,results210,go_sem,r0,r1]) rfl ⟨rfl,i,dr.set2 _ g.o.1 g.o.2.2 _ _,g.o.2.1.set2 (jl _) _ _⟩)
      |(
       refine(pO _ _).mono ?_;rintro e ao ⟨rfl,u⟩
       have m:aA (_=_):=(u.block _ lw).trans m.o;have g:aA ((cG b7 ce grow rb).J i s2 ao/\b9 F w i ao/\¬i (I (G w)+1)):=⟨(cG b7 ce grow rb).below g.o.1 u,g.o.2.1.below u,g.o.2.2⟩
       clear u W ab ad lw;obtain⟨W,ab,ad,lw⟩:=dt m.o;go_wp2_with fail;obtain⟨r0,r1,_,_⟩:=dt (ib (v1:=ak 3) (v2:=ak z) m.o)
       exact a3 (v:=ay #[bz #[ak 3,ak z],ak 0]) (by simp[results,results210,go_sem,r0,r1]) rfl ⟨rfl,i,dr.set2 _ g.o.1 g.o.2.2 _ _,g.o.2.1.set2 (jl _) _ _⟩)
  have f:=f.o;by_cases hi:eh x s.wt<L s.wt
  ·rw[aN hi];simp only [if_pos hi,decide_eq_true hi] at f;exact key O5 _ _ f
  ·rw[aJ hi];simp only [if_neg hi,decide_eq_false hi] at f;exact key O4 _ _ f
theorem KJ (h:(cG b7 ce grow rb).J F s w)(v y:Int×Int)(i:Int)(hv:v.1=3->0<=v.2/\cz s.T (K v.2))(m:L s.T<=10000)(B:∀i,L (X s.T i t0).2.1<=12):
 M prog 132 #[aq b7,bz #[ak v.1,ak v.2],ak i,bz #[ak y.1,ak y.2]] w λe w'=>∃f,e=Q (ak (s.set v i y).1)/\(cG b7 ce grow rb).J f (s.set v i y).2 w'/\b9 F w f w':=by
 obtain⟨l,h,u,o⟩:=h;have no:∀c:Int,c≠0->s.fc v i=c->(∀w',O (I (G w)) w w'->M prog 204 #[aq b7,bz #[ak v.1,ak v.2],ak i] w' λe N=>e=Q (ay #[bz #[ak 0,ak 0],ak c])/\O (I (G w')) w' N)->
  M prog 132 #[aq b7,bz #[ak v.1,ak v.2],ak i,bz #[ak y.1,ak y.2]] w λe w'=>∃f,e=Q (ak (s.set v i y).1)/\(cG b7 ce grow rb).J f (s.set v i y).2 w'/\b9 F w f w':=λc hc p P=>by
  refine(Kb v y i c hc P).mono ?_;rintro e w' ⟨rfl,hb⟩
  unfold ck.set;rw[p,aJ hc];exact⟨F,rfl,⟨l,h.below hb,u,o⟩,b9.of hb⟩
 by_cases q:v.1=3/\(X s.T (K v.2) t0).1≠5
 ·obtain⟨d,j⟩:=q;have hd:lN s.T v=O5:=k_.2 ⟨d,j⟩
  have t:=hv d;clear hv;obtain⟨k,x⟩:=v;dsimp only at d j t no⊢;subst d;by_cases hi:i<0\/(L (X s.T (K x) t0).2.1:Int)<=i
  ·exact no 1 ae (by unfold ck.fc;rw[aN hd,aN hi]) (λw' hb=>BR (h.below hb) x i t m j hi)
  ·have p:s.fc (3,x) i=0:=by unfold ck.fc;rw[aN hd,aJ hi]
   obtain⟨n,rfl⟩:=bC (a:=i) aa;have hn:n<L (X s.T (K x) t0).2.1:=aa;refine(Ka h x n y t m j hn (aL hn (B _))).mono ?_;rintro e w' ⟨rfl,g,fr⟩
   unfold ck.set;rw[p,aN rfl];exact⟨F,rfl,⟨l,g,u,o⟩,fr.mono (λb hb=>(o b).2 hb),λb hb=>aK hb⟩
 ·exact no 2 ae (by unfold ck.fc;rw[aJ (λc=>q (k_.1 c))]) (λw' hb=>BQ (h.below hb) v i hv m (λd=>fo (λc=>q ⟨d,c⟩)))
end
def fg (f:Nat->Int):Nat->Int
 |0=>0
 |n+1=>fg f n+f n
theorem oM {f g:Nat->Int}:∀n,(∀i,i<n->f i=g i)->fg f n=fg g n
 |0,_=>rfl
 |n+1,h=>by rw[fg,fg,oM n (λi hi=>h i aa),h n aa]
theorem wV:∀n,fg (λ_=>0) n=0
 |0=>rfl
 |n+1=>by rw[fg,wV n];rfl
theorem B5 {f g:Nat->Int}{k:Nat}(b:∀i,i≠k->f i=g i):∀n,k<n->fg g n=fg f n+(g k-f k)
 |0,h=>by omega
 |n+1,h=>by
  rw[fg,fg];by_cases e:k=n
  ·grind [oM]
  ·rw[B5 b n aa,b n aa];omega
theorem B6 {f:Nat->Int}(h:∀i,0<=f i/\f i<=13):∀n,0<=fg f n/\fg f n<=13*n
 |0=>⟨wI _,wI _⟩
 |n+1=>by
  have b:=B6 h n
  grind [fg]
def jU (T:List cH)(i:Nat):Int:=if(X T i t0).2.2.2=O5 then 0 else if(X T i t0).2.2.1=O5 then 0 else 1+L (X T i t0).2.1
def jV (T:List cH)(i:Nat):Int:=if(X T i t0).2.2.2=O5 then 0 else if(X T i t0).2.2.1=O5 then 1+L (X T i t0).2.1 else 0
theorem KK (T:List cH):ei T=(fg (jU T) (L T),fg (jV T) (L T)):=by
 have key:∀n,n<=L T->ei (T.take n)=(fg (jU T) n,fg (jV T) n):=λn=>by
  induction n with
  |zero=>intro _;rfl
  |succ n b=>
   intro hn;have e:T.take (n+1)=T.take n++[X T n t0]:=by grind [List.take_add_one]
   rw[e,zS,b aa,fg,fg];unfold mc jU jV
   grind
 grind
theorem B7 (T:List cH)(L:List Bool):∀n,jg T L n=fg (λi=>if X L i O4=O5 then 1+(X T i t0).2.1.length else 0) n
 |0=>rfl
 |n+1=>by
  rw[fg,<-B7 T L n,jg]
  grind
def iN (left:Int->Bool)(f:Nat->Int)(i:Nat):Int:=if left i=O5 then 0 else f i
theorem wW (left:Int->Bool)(f:Nat->Int)(k n:Nat)(hk:k<n)(hl:left k=O5):fg (iN (λy=>left y&&!(y==(k:Int))) f) n=fg (iN left f) n+f k:=by grind [B5,iN]
theorem tt {f:Nat->Int}(left:Int->Bool)(h:∀i,0<=f i/\f i<=13)(n:Nat):0<=fg (iN left f) n/\fg (iN left f) n<=13*n:=B6 (by grind [iN]) n
theorem wX (k:Int)(ad:Option bB)(n cp:Nat)(hn:n<=100000)(w:az):M J 213 #[bz #[ak k,Z ad n cp]] w λe w'=>e=Q (ak (1+n))/\O (I (G w)) w w':=by exact ll
theorem B8 {w:az}{b7 fY:Nat}(b:V w (av b7 4)=H (ak fY))(x:Int):M J 206 #[aq b7,ak x] w λe w'=>e=Q (bA (decide (x<fY)))/\w'=w:=by go_wp2;go_ret;exact⟨rfl,rfl⟩
section
variable {b7:Nat}{ce grow:Int}{l:ik}{s:ck}{w:az}
theorem wY (h:dO b7 ce grow l s w)(ab:∀i,L (X s.T i t0).2.1<=12)(bn:L s.T<=10000):
 M J 136 #[aq b7] w λe w'=>e=Q (ay #[ak (ei s.T).1,ak (ei s.T).2])/\Below (I (G w)) w w':=by
 rw[KK];obtain⟨_,_,c2,_,a1,_,_,_,a2⟩:=h.cells;obtain⟨w1,cnt,ag,m,gr,sz⟩:=h.g2.mp.range (t:=194) (e:=271) underlying194;have bb:∀i,0<=jU s.T i/\jU s.T i<=13:=λi=>by
  have:=ab i;unfold jU;split
  ·omega
  ·split
   ·omega
   ·omega
 have bd:∀i,0<=jV s.T i/\jV s.T i<=13:=λi=>by
  have:=ab i;unfold jV;split
  ·omega
  ·split
   ·omega
   ·omega
 have B:=ge bb bd ab;have z:∀f:Nat->Int,(∀i,(X s.T i t0).2.2.2=O5->f i=0)->fg (iN (λx=>(iU s.T l.fm x).isSome) f) (L s.T)=0:=λf be=>by
  rw[<-wV (L s.T)];refine oM _ (λi hi=>?_)
  unfold iN;by_cases ha:cz s.T i
  ·exact aN (by dsimp only;rw[ki ⟨aa,by simpa using ha⟩];rfl)
  ·refine(aJ (by dsimp only;rw[nF (λc=>ha (by simpa using c.2))];simp)).trans (be i ?_)
   cases e:(X s.T i t0).2.2.2
   ·exact absurd ⟨hi,e⟩ ha
   ·rfl
 have ai:=z (jU s.T) (λi e=>by unfold jU;rw[aN e])
 have al:=z (jV s.T) (λi e=>by unfold jV;rw[aN e])
 have ar:=jm (bZ.grown gr bY (λj am=>by cases am)) m ai al;have bg:=cg h;go_enter func136,ntmps136;go_wp2
 go_loopw [4,5] (λy o wr=>∃(left:Int->Bool)(c:Nat),y=ak (fg (iN left (jU s.T)) (L s.T))/\o=ak (fg (iN left (jV s.T)) (L s.T))/\hV wr l.mb (I (G w)) l.n (iU s.T l.fm) left c/\Below (I (G w)) w wr) (λ_ _ wr=>wr.rangeLeft l.mb (I (G w)))
 ·obtain⟨b,r,ai,al⟩:=ar.o;exact⟨_,cnt,by rw[ai],by rw[al],r,b⟩
 ·
   clear ar ag;obtain⟨left,c,rfl,rfl,m,hb⟩:=hrel;have mb:=tt left B.o.1 (L s.T);have nb:=tt left B.o.2.1 (L s.T);rcases m.next 0 with⟨h0,hl,ag⟩|⟨x,v,F,N,aB,S,ag,hR2,hlt,bi,bo,bp⟩
   ·have q:fg (iN left (jU s.T)) (L s.T)=fg (jU s.T) (L s.T):=oM _ (λi _=>by unfold iN;rw[hl,aJ ae])
    have bl:fg (iN left (jV s.T)) (L s.T)=fg (jV s.T) (L s.T):=oM _ (λi _=>by unfold iN;rw[hl,aJ ae])
    rw[q,bl];have d:=cg hb;clear hb m hl;go_wp2;go_ret2;exact⟨rfl,d.o⟩
   ·have an:0<=x/\cz s.T (K x):=by
     by_cases c:0<=x/\cz s.T (K x)
     ·exact c
     ·rw[nF c] at S;cases S
    obtain⟨i,rfl⟩:=bC an.1;have u:cz s.T i:=by simpa using an.2
    rw[ki an] at S;have hv:=(kg S).symm;dsimp only [gX,ff] at hv;rw[bD] at hv;subst hv;have s1:=wW left (jU s.T) i (L s.T) u.1 aB;have s2:=wW left (jV s.T) i (L s.T) u.1 aB;have br:=tt (λy=>left y&&!(y==(i:Int))) B.o.1 (L s.T);have bs:=B.o.2.2 i;have aF:=bg.o.g2.fY i u;have b2:=hb.grown bi hb.size (λj am=>by cases am;exact aG _)
    have b3:=b2.alloc b2.size (E #[U OW (X s.T i t0).1,Z (l.fm i).1 (L (X s.T i t0).2.1) (l.fm i).2] 271)
    have P:=B8 ((b3.cell (p:=av b7 4) a2).trans a1) i;have aR:aA (∀g,Below (I (G (bu F (E #[U OW (X s.T i t0).1,Z (l.fm i).1 (L (X s.T i t0).2.1) (l.fm i).2] 271)))) (bu F (E #[U OW (X s.T i t0).1,Z (l.fm i).1 (L (X s.T i t0).2.1) (l.fm i).2] 271)) g->hV g l.mb (I (G w)) l.n (iU s.T l.fm) (λy=>left y&&!(y==(i:Int))) N/\Below (I (G w)) w g/\N<c):=λg hb3=>by exact B4
    have aV:=cg m.left_eq;have W:aA (∀w,M J 213 #[bz #[ak (X s.T i t0).1,Z (l.fm i).1 (L (X s.T i t0).2.1) (l.fm i).2]] w λe w'=>e=Q (ak (1+L (X s.T i t0).2.1))/\Below (I (G w)) w w'):=λw=>wX _ _ _ _ aa w;have y1:jU s.T i=if i<l.fY then 0 else 1+(L (X s.T i t0).2.1:Int):=by unfold jU;rw[u.2,aF];simp
    have o1:jV s.T i=if i<l.fY then 1+(L (X s.T i t0).2.1:Int) else 0:=by unfold jV;rw[u.2,aF];simp
    rw[y1] at s1;rw[o1] at s2;have k:=cU s1 s2;generalize fg (iN left (jU s.T)) (L s.T)=Y at*;generalize fg (iN left (jV s.T)) (L s.T)=O at*;generalize L (X s.T i t0).2.1=n at*;generalize (X s.T i t0).1=kd at*;generalize (l.fm i).1=ad at*;generalize (l.fm i).2=cp at*;by_cases ho:i<l.fY
    ·have q:decide ((i:Int)<(l.fY:Int))=O5:=by simp;exact ho
     rw[q] at P;rw[aN ho,aN ho] at k;go_wp2_with fail;refine P.mono ?_;clear P;rintro e g ⟨rfl,rfl⟩
     have a0:=W.o (bu F (E #[U OW kd,Z ad n cp] 271))
     go_wp2_with fail;refine a0.mono ?_;clear a0;rintro e ao ⟨rfl,ap⟩
     have d:=cg (aR.o ao ap)
     go_wp2;go_roundw;exact⟨_,N,by rw[k.o.1];simp,by rw[k.o.2],d.o.1,d.o.2.1⟩
     rw[d.o.1.left_eq,aV.o];exact d.o.2.2
    ·have q:decide ((i:Int)<(l.fY:Int))=O4:=by simp;omega
     rw[q] at P;rw[aJ ho,aJ ho] at k;go_wp2_with fail;refine P.mono ?_;rintro e g ⟨rfl,rfl⟩
     go_wp2_with fail;refine(W.o (bu F (E #[U OW kd,Z ad n cp] 271))).mono ?_;rintro e ao ⟨rfl,ap⟩
     have d:=cg (aR.o ao ap)
     go_wp2;go_roundw;exact⟨_,N,by rw[k.o.1],by rw[k.o.2];simp,d.o.1,d.o.2.1⟩
     rw[d.o.1.left_eq,aV.o];exact d.o.2.2
end
section
variable {c:Cp}{own:Nat->Nat}{vt:a7}{n1 n2:Nat}{hm:Int->Option bB×Nat}{st:dG}{w w':az}{is:List Bool}
def lP (T:List cH)(A:List Bool)(i:Nat):Int:=if X A i O4=O5 then 1+L (X T i t0).2.1 else 0
theorem KL (hg:iV c)(h:c7 c own vt n1 n2 hm st w)(hlen:L st.A=L c.s.T):
 M J 285 #[aq c.cp] w λe w'=>e=Q (ak (jg c.s.T st.A (L c.s.T)))/\O (I (G w)) w w':=by
 rw[B7];have B:(λi=>if X st.A i O4=O5 then 1+(L (X c.s.T i t0).2.1:Int) else 0)=lP c.s.T st.A:=rfl;rw[B];obtain⟨_,c1,_,_,_,ar⟩:=h.cells;have aB:=hg.t;obtain⟨w1,cnt,o,d,gr,sz⟩:=h.am.range (t:=194) (e:=271) underlying194;have ab:∀i,0<=lP c.s.T st.A i/\lP c.s.T st.A i<=13:=λi=>by
  have:=hg.iv.tl i;unfold lP;split
  ·omega
  ·omega
 have z:fg (iN (λx=>(fD c.s.T c.l.fm st.A x).isSome) (lP c.s.T st.A)) (L c.s.T)=0:=by
  rw[<-wV (L c.s.T)];refine oM _ (λi hi=>?_)
  have ea:(fD c.s.T c.l.fm st.A (i:Int)).isSome=X st.A i O4:=by rw[wP aa,cZ,bD]
  unfold iN lP;cases hb:X st.A i O4
  ·exact(aJ (by dsimp only;rw[ea,hb];decide)).trans (aJ ae)
  ·exact aN (by dsimp only;rw[ea,hb])
 have p:=ge ab hg.iv.tl hlen;have F:=ge (bZ.grown gr bY (λj q=>by cases q)) d z;clear h hg hlen d gr ab z B;go_enter func285,ntmps285;go_wp2
 go_loopw [3] (λy wr=>∃(left:Int->Bool)(k:Nat),y=ak (fg (iN left (lP c.s.T st.A)) (L c.s.T))/\hV wr c.ab (I (G w)) n1 (fD c.s.T c.l.fm st.A) left k/\O (I (G w)) w wr) (λ_ wr=>wr.rangeLeft c.ab (I (G w)))
 ·obtain⟨b,r,al⟩:=F.o;exact⟨_,cnt,by rw[al],r,b⟩
 ·
   clear F o;obtain⟨left,k,rfl,d,hb⟩:=hrel;have mb:=tt left p.o.1 (L c.s.T);rcases d.next 0 with⟨h0,hl,o⟩|⟨x,v,s,k2,N,f,o,hR2,hlt,S,aF,aR⟩
   ·rw[(oM _ (λi _=>by unfold iN;rw[hl,aJ ae]))];have g:=cg hb;clear hb d hl;go_wp2;go_ret;exact⟨rfl,g.o⟩
   ·have l:0<=x/\X st.A (K x) O4=O5:=by
     unfold fD at f;split at f
     ·assumption
     ·cases f
    obtain⟨i,rfl⟩:=bC l.1;have u:X st.A i O4=O5:=by simpa using l.2
    have am:i<L c.s.T:=by rw[<-p.o.2.2];exact cx.lt u
    have hv:v=gX c.s.T c.l.fm i:=by unfold fD at f;rw[aN l] at f;exact(kg f).symm
    dsimp only [gX,ff] at hv;subst hv;have s1:=wW left (lP c.s.T st.A) i (L c.s.T) am N;have aV:=p.o.2.1 i;have b2:=hb.grown S hb.size (λj q=>by cases q;exact aG _)
    have b3:=b2.alloc b2.size (E #[U OW (X c.s.T i t0).1,Z (c.l.fm i).1 (L (X c.s.T i t0).2.1) (c.l.fm i).2] 271)
    have W:aA (∀m,O (I (G (bu s (E #[U OW (X c.s.T i t0).1,Z (c.l.fm i).1 (L (X c.s.T i t0).2.1) (c.l.fm i).2] 271)))) (bu s (E #[U OW (X c.s.T i t0).1,Z (c.l.fm i).1 (L (X c.s.T i t0).2.1) (c.l.fm i).2] 271)) m->hV m c.ab (I (G w)) n1 (fD c.s.T c.l.fm st.A) (λy=>left y&&!(y==(i:Int))) k2/\O (I (G w)) w m/\k2<k):=λm hb3=>by exact B4
    have an:=cg d.left_eq;have ag:=wX (X c.s.T i t0).1 (c.l.fm i).1 (L (X c.s.T i t0).2.1) (c.l.fm i).2 aa (bu s (E #[U OW (X c.s.T i t0).1,Z (c.l.fm i).1 (L (X c.s.T i t0).2.1) (c.l.fm i).2] 271))
    rw[show lP c.s.T st.A i=1+(L (X c.s.T i t0).2.1:Int) from by unfold lP;rw[aN u]] at s1;have ao:=cg s1;clear d hb N f hR2 S l b2 b3 u s1;generalize fg (iN left (lP c.s.T st.A)) (L c.s.T)=Y at*;generalize L (X c.s.T i t0).2.1=n at*;generalize (X c.s.T i t0).1=kd at*;generalize (c.l.fm i).1=ad at*;generalize (c.l.fm i).2=cp at*;go_wp2_with fail;refine ag.mono ?_;clear ag;rintro e ap ⟨rfl,ai⟩
    have g:=cg (W.o ap ai)
    clear ai W;go_wp2;go_roundw;exact⟨_,k2,by rw[ao.o],g.o.1,g.o.2.1⟩
    rw[g.o.1.left_eq,an.o];exact g.o.2.2
theorem gZ.mark {T:List cH}{wt:List b8}{s:dG}(h:gZ T wt is s)(c:e6 T wt)(v:Int×Int)(hv:v.1=3->0<=v.2/\cz T (K v.2))(d:v.1=3->cx is (K v.2)):gZ T wt is (eF s v):=
 ⟨h.mi.mark c v hv (λb X _ hb=>hb _ (d b)),by rw[(oJ s v).1,(oJ s v).2];exact h.hl,by rw[BL s v (λb=>by rw[h.mi.len];exact(hv b).2.1),(oJ s v).2];exact h.mm⟩
theorem gZ.marks {T:List cH}{wt:List b8}(c:e6 T wt):∀(l:List (Int×Int))(s:dG),gZ T wt is s->(∀v∈l,v.1=3->0<=v.2/\cz T (K v.2))->(∀v∈l,v.1=3->cx is (K v.2))->gZ T wt is (dz s l)
 |[],_,h,_,_=>h
 |v::l,s,h,hv,d=>gZ.marks c l (eF s v) (h.mark c v (hv v ac) (d v ac)) (λu b=>hv u (bj _ b)) (λu b=>d u (bj _ b))
end
structure tu (c:Cp)(f:Nat)(b d:Array a7)(sb:Int->Bool):Prop where
 KM:ef f
 ca:∀(x:Int)(w:az),(∀k,k<I (G c.w0)->w.heap[k]?=c.w0.heap[k]?)->M J f (b.push (ak x)++d) w λe w'=>e=Q (bA (sb x))/\O (I (G w)) w w'
structure B9 (c:Cp)(sb:Int->Bool)(is:List Bool):Prop where
 st:∀i:Nat,cz c.s.T i->sb i=O5->cx is i
 rt:∀v∈c.s.rs,v.1=3->cx is (K v.2)
 up:∀i:Nat,cx is i->(cz c.s.T i/\sb i=O5)\/∃v∈c.s.rs,v.1=3/\K v.2=i
 rv:∀v∈c.s.rs,v.1=3->0<=v.2/\cz c.s.T (K v.2)
section
variable {c:Cp}{own own':Nat->Nat}{vt cV:a7}{n1 n2 n1' eI:Nat}{hm hm':Int->Option bB×Nat}{st:dG}{w w':az}{is:List Bool}{sb:Int->Bool}
theorem KN {w:az}{b:Nat}{l:List _}(h:w.heap[b]?=H (E (ev l).toArray 139 (0,0))):dQ w (au b) l:=λ_=>by
 refine⟨b,0,rfl,cj h,λi hi=>?_⟩
 obtain⟨c,d⟩:=o9 l i hi;constructor
 ·simp[World.cell?,h];simpa using c
 ·simp[World.cell?,h];simpa using d
theorem KO (hg:iV c)(h:c7 c own vt n1 n2 hm st w)(dy:gZ c.s.T c.s.wt is st){f:Nat}{b d:Array a7}(hs:tu c f b d sb)(hi:B9 c sb is):
 M J 283 #[aq c.cp,.func (.func f) b d] w λe w'=>∃own' cV n1' eI hm' l,e=Q (ay #[])/\c7 c own' cV n1' eI hm' l w'/\eW own w own' w'/\gZ c.s.T c.s.wt is l/\l.td=[]/\∀k,cx is k->cx l.A k:=by
 have b4:=hs.KM;unfold ef at b4;obtain⟨c0,_,_,_,_,cf⟩:=h.cells;have gv:=h.gv hg.g;obtain⟨_,_,g2,_,_,_,_,_,ch⟩:=gv.cells;obtain⟨w1,b5,bn,ad,gr,sz⟩:=gv.g2.mp.range (t:=194) (e:=271) underlying194;have bo:=bZ.grown gr bY (λj ag=>by cases ag)
 have bp:=ge hg hs hi;have aB:=jm ad bo (h.below bo) dy;have an:aA (c.l.mb<I (G c.w0)/\own (I (G w))=0/\I (G c.w0)<=I (G w)):=⟨hg.g.g2.mp.lt,by
  cases e:own (I (G w))
  ·rfl
  ·exact absurd (h.lt (I (G w)) (by rw[e];omega)).2 aa,h.sz⟩
 go_enter func283,ntmps283;go_wp2_with fail
 go_loopw [4] (λ_ wr=>∃(left:Int->Bool)(k:Nat)(own':Nat->Nat)(cV:a7)(n1':Nat)(l:dG),aA (hV wr c.l.mb (I (G w)) c.l.n (iU c.s.T c.l.fm) left k/\c7 c own' cV n1' n2 hm l wr/\eW own w own' wr/\own' (I (G w))=0/\gZ c.s.T c.s.wt is l/\∀i:Nat,cz c.s.T i->left i=O4->sb i=O5->cx l.A i)) (λ_ wr=>wr.rangeLeft c.l.mb (I (G w)))
 ·obtain⟨r,_,g,dy⟩:=aB.o;exact⟨_,b5,own,vt,n1,st,r,g,eW.of aB.o.2.1,an.o.2.1,dy,λi hi h0 _=>by rw[ki ⟨aa,by simpa using hi⟩] at h0;cases h0⟩
 ·
   obtain⟨left,k,own',cV,n1',l,br⟩:=hrel;obtain⟨ad,g,t,ho,dy,hd⟩:=br.o;obtain⟨hg,hs,hi⟩:=bp.o;rcases ad.next 0 with⟨h0,hl,bn⟩|⟨x,v,n,k2,ci,ao,bn,B,b6,b7,cj,ck⟩
   ·
     have gv:=g.gv hg.g;obtain⟨cl,_,_,_,_,_⟩:=g.cells;obtain⟨_,_,_,_,_,_,cm,_,_⟩:=gv.cells;have rl:=gv.g4.rl;have P:=nJ hg.g hg.t dy.mi.len g (au c.l.rb) 12 c.s.rs ⟨KN gv.g4.rt,λ_ z e d=>by
      cases e;have aF:=hg.g.lt c.l.rb (by rw[hg.g.g4.ro];decide)
      have aR:=(g.lt c.l.rb (by dsimp only at d;omega)).1;omega⟩ hi.rv aa
     rw[rl] at P;have b8:aA (∀p F N n,c7 c p F N n2 hm (dz l c.s.rs) n->gm own' wr p n->M J 315 #[aq c.cp] n λe w'=>∃own' cV n1' eI hm' l,e=Q (ay #[])/\c7 c own' cV n1' eI hm' l w'/\eW own w own' w'/\gZ c.s.T c.s.wt is l/\l.td=[]/\∀k,cx is k->cx l.A k):=λp F N n g2 aV=>by
      refine(B3 hg g2 (dy.marks (s:=l) hg.iv c.s.rs hi.rv hi.rt)).mono ?_;rintro e w' ⟨a0,a1,a2,bb,bd,be,rfl,g3,t3,sp⟩
      refine⟨a0,a1,a2,bb,bd,be,rfl,g3,(t.trans aV.tk).trans t3,sp.dy,sp.td,λi hk=>sp.up i ?_⟩
      rcases hi.up i hk with⟨aF,aR⟩|⟨v,hv,bg,e⟩
      ·exact mC _ _ (hd i aF (hl _) aR)
      ·rw[<-e];exact wJ l c.s.rs (λv hv bg=>by rw[dy.mi.len];exact(hi.rv v hv bg).2.1) v hv bg
     clear ad g t dy hd hg hs hi gv hl br bp an aB rl ho;go_wp2_with fail;refine P.mono ?_;rintro e n ⟨p,F,N,rfl,g2,aV⟩
     have P:=b8.o p F N n g2 aV;go_wp2_with fail;refine P.mono ?_;rintro e m ⟨a0,a1,a2,bb,bd,be,rfl,q⟩
     have W:=cg q;go_wp2_with fail;go_end0;exact⟨a0,a1,a2,bb,bd,be,rfl,W.o⟩
   ·have ai:0<=x/\cz c.s.T (K x):=by
     by_cases e:0<=x/\cz c.s.T (K x)
     ·exact e
     ·rw[nF e] at ao;cases ao
    obtain⟨i,rfl⟩:=bC ai.1;have bs:cz c.s.T i:=by simpa using ai.2
    have hz:=an.o.2.2;have bi:Fr (λb=>b=I (G w)) wr n:=(Fr.refl _ wr).grown b7 (λj e=>aK (by cases e;rfl))
    have al:c7 c own' cV n1' n2 hm l n:=g.keep bi.size (λb hb=>bi.block b (hb.elim (λe=>aL e g.sz) (λe=>(g.lt b e).2)) (λe=>by
     subst e;rcases hb with e|e
     ·omega
     ·exact e ho))
    have bt:eW own w own' n:=⟨t.fr.trans bi (λb e=>aI (by rw[e];exact aG _)),t.nw⟩
    have P:=hs.ca i n (λk hk=>al.ol k hk)
    have ap:=cU ad.left_eq b6;have bx:aA (∀m,O (I (G n)) n m->sb i=O4->hV m c.l.mb (I (G w)) c.l.n (iU c.s.T c.l.fm) (λy=>left y&&!(y==(i:Int))) k2/\c7 c own' cV n1' n2 hm l m/\eW own w own' m/\own' (I (G w))=0/\gZ c.s.T c.s.wt is l/\∀j:Nat,cz c.s.T j->(left j&&!((j:Int)==(i:Int)))=O4->sb j=O5->cx l.A j):=λm o S=>by
     refine⟨B.same (o.block _ B.oK.lt) (o.block _ B.lt),al.below o,bt.trans (eW.of o),ho,dy,λj ag h0 am=>?_⟩
     by_cases e:j=i
     ·subst e;rw[S] at am;cases am
     ·refine hd j ag ?_ am;rwa [show((j:Int)==(i:Int))=O4 from by simp;omega,Bool.not_false,Gc] at h0
    have b9:aA (∀m,O (I (G n)) n m->sb i=O5->M J 314 #[aq c.cp,Z (au (I (G m))) 1 1] (bu m (E #[U OW 3,U OW i] 139)) λe w'=>∃p F N,e=Q (ay #[])/\
     hV w' c.l.mb (I (G w)) c.l.n (iU c.s.T c.l.fm) (λy=>left y&&!(y==(i:Int))) k2/\c7 c p F N n2 hm (eF l (3,i)) w'/\eW own w p w'/\p (I (G w))=0/\gZ c.s.T c.s.wt is (eF l (3,i))/\∀j:Nat,cz c.s.T j->(left j&&!((j:Int)==(i:Int)))=O4->sb j=O5->cx (eF l (3,i)).A j):=λm o S=>by
     have ab:=o.alloc o.size (E #[U OW 3,U OW i] 139)
     refine(nJ hg.g hg.t dy.mi.len (al.below ab) (au (I (G m))) 1 [(3,(i:Int))] (kI.one (al.below o) (3,(i:Int))) (λu b0 _=>by simp at b0;rw[b0];exact ai) ac).mono ?_;rintro e w' ⟨p,F,N,rfl,g5,ar⟩
     have bl:=ab.size;refine⟨p,F,N,rfl,B.same ((ar.fr.block _ (aL B.oK.lt bl) (λd=>?_)).trans (ab.block _ B.oK.lt)) ((ar.fr.block _ (aL B.lt bl) (λd=>?_)).trans (ab.block _ B.lt)),g5,(bt.trans (eW.of ab)).trans ar.tk,?_,dy.mark hg.iv (3,(i:Int)) (λ_=>ai) (λ_=>by simpa using hi.st i bs S),λj ag h0 am=>?_⟩
     ·have aF:=(al.lt c.l.mb aa).1;have aR:=an.o.1;omega
     ·rw[ho] at d;omega
     ·rw[ar.old _ (aL B.lt bl)];exact ho
     ·by_cases e:j=i
      ·subst e;exact wH l (3,(j:Int)) rfl (by rw[dy.mi.len];simpa using bs.1)
      ·refine q9 _ _ (hd j ag ?_ am)
       rwa [show((j:Int)==(i:Int))=O4 from by simp;omega,Bool.not_false,Gc] at h0
    obtain⟨b1,b2,b3,vc,ca⟩:∃b1 b2 b3 vc,v=bz #[ak b1,Z b2 b3 vc]:=by rw[ki ai] at ao;exact⟨_,_,_,_,(kg ao).symm⟩
    subst ca;cases S:sb i
    ·rw[S] at P;have cn:=bx;go_wp2_with fail;refine P.mono ?_;rintro e m ⟨rfl,o⟩
     have W:=cg (bx.o m o S)
     go_wp2_with fail;go_roundw;exact⟨_,k2,own',cV,n1',l,W⟩
     rw[W.o.1.left_eq,ap.o.1];exact ap.o.2
    ·rw[S] at P;go_wp2_with fail;refine P.mono ?_;rintro e m ⟨rfl,o⟩
     go_wp2_with fail;refine(pO i m).mono ?_;rintro e cb ⟨rfl,ab⟩
     go_wp2_with fail;refine(b9.o cb (o.trans (ab.mono o.size)) S).mono ?_;rintro e co ⟨cc,cd,ce,rfl,q⟩
     have W:=cg q;go_wp2_with fail;go_roundw;exact⟨_,k2,cc,cd,ce,_,W⟩
     rw[W.o.1.left_eq,ap.o.1];exact ap.o.2
end
def kJ (c:Cp)(bx:Nat):dr (List Bool) where
 J F A w:=∃b st,(tf c).J b st w/\st.A=A/\st.td=[]/\gZ c.s.T c.s.wt A st/\w.heap[bx]?=H (E #[aq c.cp] 323 (0,0))/\¬b bx/\∀k,F k↔b k\/k=bx
 lt:=by
  rintro F A w ⟨b,st,h,_,_,_,hb,_,f⟩ k hk;rcases(f k).1 hk with e|e
  ·exact(tf c).lt h k e
  ·rw[e];exact cj hb
 keep:=by rintro F A w w' ⟨b,st,h,g,i,dy,hb,hn,f⟩ hs hk;exact⟨b,st,(tf c).keep h hs (λk d=>hk k ((f k).2 (aK d))),g,i,dy,(hk bx ((f bx).2 (aI rfl))).trans hb,hn,f⟩
def nL (c:Cp)(x:Int):Prop:=0<=x/\cz c.s.T (K x)
theorem KP:ef 316:=g9 func316 ah rfl
theorem KQ:ef 317:=g9 func317 ah rfl
theorem KR:ef 318:=g9 func318 ah rfl
section
variable {c:Cp}{own:Nat->Nat}{vt:a7}{n1 n2:Nat}{hm:Int->Option bB×Nat}{st:dG}{w w':az}{bx:Nat}{g:List Bool->List Bool}
theorem KT (hg:iV c):lu (kJ c bx) (nL c) 316 #[aq c.cp] #[] cZ:=by
 rintro F A w x ⟨b,d⟩ ⟨e,st,⟨own,vt,n1,n2,hm,h,_⟩,rfl,_⟩
 exact Kd h x b (by have:=d.1;have:=hg.t;omega)
theorem KU:mM (kJ c bx) (nL c) 318 #[] #[] (λ_ x=>x):=by rintro F A w x _ _;go_wp2;go_ret;exact⟨rfl,aH _ _⟩
theorem KV (l:dS c.s.T c.s.wt g){A:List Bool}{st b:dG}(d:gZ c.s.T c.s.wt A st)(f:st.A=A){x:Int}(i:nL c x)(sp:BZ c.s.T c.s.wt (A.set (K x) O5) (eF st (3,x)) b):b.A=gz g A x/\gZ c.s.T c.s.wt (gz g A x) b:=by
 have hl:L A=L c.s.T:=by rw[<-f];exact d.mi.len
 have hi:∀k,cx (A.set (K x) O5) k↔K x=k\/cx A k:=λk=>by
  unfold cx;rw[wD _ _ _ (by rw[hl];exact i.2.1)];split
  ·exact⟨λ_=>aK ‹_›,λ_=>rfl⟩
  ·exact⟨aI,λc=>c.resolve_left ‹_›⟩
 have hd:=sp.dy.mi.done sp.td (by rw[lG];exact hl) (λk hk=>sp.up k (by
  rcases(hi k).1 hk with e|e
  ·rw[<-e];exact wH st (3,x) rfl (by rw[d.mi.len];exact i.2.1)
  ·exact q9 _ _ (by rw[f];exact e)))
 have m:=l (A.set (K x) O5) (by rw[lG];exact hl) (λk hk=>by
  rcases(hi k).1 hk with e|e
  ·rw[<-e];exact i.2
  ·exact d.mi.al k (by rw[f];exact e))
 have j:b.A=gz g A x:=hd.uniq m;exact⟨j,⟨sp.dy.mi.base (λk hk=>by rw[<-j];exact hk),sp.dy.hl,sp.dy.mm⟩⟩
theorem KW (hg:iV c)(ab:dS c.s.T c.s.wt g):pd (kJ c bx) (nL c) 317 #[] #[aq bx] (λA x=>(x,gz g A x)):=by
 rintro F A w x i ⟨ad,st,⟨own,vt,n1,n2,hm,h,l⟩,m,a0,dy,hb,hn,n⟩
 show M prog 317 #[ak x,aq bx] w _;have ag:own bx=0:=by
  cases e:own bx
  ·rfl
  ·exact absurd ((l bx).2 (aI (by rw[e];omega))) hn
 have lb:=cj hb;have a1:_:=λd=>hn ((l bx).2 (aK d))
 have v:V w (av bx 0)=H (aq c.cp):=aD hb
 have ai:gZ c.s.T c.s.wt (A.set (K x) O5) (eF st (3,x)):=by
  have hl:L A=L c.s.T:=by rw[<-m];exact dy.mi.len
  refine gZ.mark ⟨dy.mi.base (λk hk=>BK (by rw[<-m];exact hk)),dy.hl,dy.mm⟩ hg.iv (3,x) (λ_=>i) (λ_=>?_)
  unfold cx;rw[wD _ _ _ (by rw[hl];exact i.2.1),aN rfl]
 have al:aA (∀w1,O (I (G w)) w w1->M prog 314 #[aq c.cp,Z (au (I (G w1))) 1 1] (bu w1 (E #[U OW 3,U OW x] 139)) λe w'=>e=Q (ay #[])/\V w' (av bx 0)=H (aq c.cp)/\
  aA (M prog 315 #[aq c.cp] w' λe o=>e=Q (ay #[])/\∃j,(kJ c bx).J j (gz g A x) o/\Fr F w o/\∀k,j k->F k\/I (G w)<=k)):=λw1 f=>by
  have B:=f.alloc f.size (E #[U OW 3,U OW x] 139)
  refine(nJ hg.g hg.t dy.mi.len (h.below B) (au (I (G w1))) 1 [(3,x)] (kI.one (h.below f) (3,x)) (λu N _=>by simp at N;rw[N];exact i) ac).mono ?_;rintro e w' ⟨a2,bb,bd,rfl,g5,am⟩
  have S:=(gm.of B (λb hb=>(h.lt b hb).2)).trans am;have an:=S.fr.block bx lb (λd=>by omega)
  refine⟨rfl,(aS (a:=⟨bx,0,O0⟩) an).trans v,?_⟩
  refine(B3 hg g5 ai).mono ?_;rintro e o ⟨be,bg,bi,bl,bn,ao,rfl,g3,t3,sp⟩
  obtain⟨q1,s⟩:=KV ab dy m i sp;have tk:=S.tk.trans t3;obtain⟨W,ap,t⟩:=Km (F:=ad) g3 l tk.fr tk.nw;have ar:=tk.fr.block bx lb (λd=>d ag)
  have aB:_:=λd=>(t.sub bx d).elim hn (λd=>by omega)
  exact⟨rfl,λk=>W k\/k=bx,⟨W,ao,ap,q1,sp.td,s,ar.trans hb,aB,λ_=>gp⟩,t.fr.mono (λk d=>(n k).2 (aK d)),λk d=>d.elim (λd=>(t.sub k d).imp (λd=>(n k).2 (aK d)) id) (λd=>aK ((n k).2 (aI d)))⟩
 go_enter func317,ntmps317;go_wp2_with fail
 go_region_held3 (λw'=>V w' (av bx 0)=H (aq c.cp)) (go_keep)
  (first
    |(go_at_call 289;refine(pO x _).mono ?_;rintro e w1 ⟨rfl,f⟩;have b1:=(f.cell (p:=av bx 0) lb).trans v;have aF:=cg ((aH _ w).drew.trans (f.mono bY)))
    |(go_at_call 314;refine(al.o w1 aF.o).mono ?_;rintro e bo ⟨rfl,b2,aR⟩))
 all_goals
  have P:=aR.o;go_wp2_with fail;refine P.mono ?_;rintro e bp ⟨rfl,q⟩
  have aV:=cg q;go_wp2_with fail;go_ret;obtain⟨j,q1,s,q3⟩:=aV.o;exact⟨j,rfl,q1,s,q3⟩
end
structure oN {σ:Type}(lk:σ->b8->Bool×σ)(g:List Bool->List Bool)(pe:b8->b8)(R:List b8)(ρ:σ->List Bool->List b8->Prop):Prop where
 no:∀t L C e,ρ t L C->e∈R->cZ L e.1=O4->lk t (pe e)=(O4,t)
 yes:∀t L C e,ρ t L C->e∈R->cZ L e.1=O5->(lk t (pe e)).1=O5/\ρ (lk t (pe e)).2 (gz g L e.2) (C++[e])
section
variable {σ:Type}{lk:σ->b8->Bool×σ}{g:List Bool->List Bool}{pe:b8->b8}{R:List b8}{ρ:σ->List Bool->List b8->Prop}
theorem oN.pass (h:oN lk g pe R ρ):∀(l:List b8)(t:σ)(L:List Bool)(C D A:List b8),(∀e∈l,e∈R)->ρ t L C->
 ρ ((l.map pe).foldl (eZ lk) (A,D.map pe,t)).2.2 (ch.pass cZ (gz g) l L C D).1 (ch.pass cZ (gz g) l L C D).2.1/\((l.map pe).foldl (eZ lk) (A,D.map pe,t)).2.1=(ch.pass cZ (gz g) l L C D).2.2.map pe/\
 ((l.map pe).foldl (eZ lk) (A,D.map pe,t)).1.length+C.length=A.length+(ch.pass cZ (gz g) l L C D).2.1.length
 |[],t,L,C,D,A,_,hr=>⟨hr,rfl,rfl⟩
 |e::l,t,L,C,D,A,hl,hr=>by
  have he:=hl e ac;rw[List.map_cons,a8];cases c:cZ L e.1
  ·have b:eZ lk (A,D.map pe,t) (pe e)=(A,(D++[e]).map pe,t):=by unfold eZ;rw[h.no t L C e hr he c,List.map_append];rfl
   rw[b,ch.pass,c,aJ ac];exact h.pass l t L C (D++[e]) A (by grind) hr
  ·obtain⟨y1,d⟩:=h.yes t L C e hr he c;have b:eZ lk (A,D.map pe,t) (pe e)=(A++[pe e],D.map pe,(lk t (pe e)).2):=by grind [eZ]
   rw[b,ch.pass,c,aN rfl];obtain⟨f,i,j⟩:=h.pass l _ _ _ D _ (by grind) d;refine⟨f,i,?_⟩
   grind
theorem wZ {σ:Type}(is:σ->Int->Bool)(kp:σ->Int->σ)(e:b8):∀(l:List b8)(s:σ)(C D:List b8),e∈(ch.pass is kp l s C D).2.2->e∈D\/e∈l
 |[],_,_,_,h=>aK h
 |x::l,s,C,D,h=>by
  rw[ch.pass] at h;split at h
  ·exact(wZ is kp e l _ _ _ h).imp id (by grind)
  ·rcases wZ is kp e l _ _ _ h with d|d
   all_goals grind
theorem B_ {σ:Type}(is:σ->Int->Bool)(kp:σ->Int->σ)(l:List b8)(s:σ)(C:List b8)(e:b8)(h:e∈(ch.pass is kp l s C []).2.2):e∈l:=
 (wZ is kp e l s C [] h).resolve_left ac
theorem oN.turns (h:oN lk g pe R ρ):∀(n:Nat)(D:List b8)(t:σ)(L:List Bool)(C:List b8),(∀e∈D,e∈R)->ρ t L C->
 ρ (e5 lk n t (D.map pe)).1 (ch.turns cZ (gz g) n D L C).1 (ch.turns cZ (gz g) n D L C).2.1/\(e5 lk n t (D.map pe)).2=(ch.turns cZ (gz g) n D L C).2.2.map pe
 |0,D,t,L,C,_,hr=>⟨hr,rfl⟩
 |n+1,D,t,L,C,hD,hr=>by
  obtain⟨b,d,f⟩:=h.pass D t L C [] [] hD hr;have b:=b;have d:(dF lk t (D.map pe)).2.1=(ch.pass cZ (gz g) D L C []).2.2.map pe:=d;have f:(dF lk t (D.map pe)).1.length+C.length=0+(ch.pass cZ (gz g) D L C []).2.1.length:=f;by_cases c:(dF lk t (D.map pe)).1.length=0
  ·rw[og _ _ _ _ c,D_ aa];exact⟨b,d⟩
  ·rw[nh _ _ _ _ c,D9 aa,d];exact h.turns n _ _ _ _ (λe he=>hD e (B_ _ _ D L C e he)) b
end
theorem tx {b:Type}(lk:b->b8->Bool×b):∀(n k:Nat)(t:b)(d:List b8),L d<n->L d<k->e5 lk n t d=e5 lk k t d
 |0,_,_,_,h,_=>aa
 |_+1,0,_,_,_,h=>aa
 |n+1,k+1,t,d,e,f=>by
  have hl:=qn lk t d;by_cases c:L (dF lk t d).1=0
  ·grind [og]
  ·rw[nh _ _ _ _ c,nh _ _ _ _ c];exact tx lk n k _ _ aa aa
theorem m5 {b c:Type}(f:b->c)(p:c->Bool)(q:b->Bool):∀l:List b,(∀x∈l,p (f x)=q x)->(l.map f).filter p=(l.filter q).map f
 |[],_=>rfl
 |x::l,h=>by
  have d:=m5 f p q l (by grind)
  grind
section
variable {c:Cp}{bx p:Nat}{vr:a7}{g:List Bool->List Bool}{A:List Bool}{q r:List b8}
abbrev pQ (s:List Bool×List b8)(x:Int):Bool:=cZ s.1 x
abbrev pR (g:List Bool->List Bool)(s:List Bool×List b8)(x:Int):Int×(List Bool×List b8):=(x,(gz g s.1 x,s.2))
abbrev w5 (_:List Bool×List b8)(x:Int):Int:=x
def gE (g:List Bool->List Bool)(A:List Bool)(r:List b8):List Bool×List b8×List b8:=turns cZ (gz g) (L r+1) (r.filter (λe=>!cZ A e.2)) A []
theorem KX (q:List b8):oN (cm (dj (kJ c bx) p vr) pQ (pR g)) g id r (λt L C=>t=(L,q++C)) where
 no:=by grind [oc]
 yes:=by simp_all [oe,dj]
theorem tz:gu (dj (kJ c bx) p vr) pQ (pR g) (A,q) r=((gE g A r).1,q++(gE g A r).2.1):=by have h:=((KX (c:=c) (bx:=bx) (p:=p) (vr:=vr) (g:=g) q).turns (L r+1) (r.filter (λe=>!cZ A e.2)) (A,q) A [] (λe he=>(List.mem_filter.1 he).1) (by simp_all)).1;rw[List.map_id] at h;refine Eq.trans ?_ h;show(e5 _ (L (r.filter (λe=>!cZ A e.2))+1) (A,q) (r.filter (λe=>!cZ A e.2))).1=_;have hl:=List.length_filter_le (λe:b8=>!cZ A e.2) r;rw[tx (cm (dj (kJ c bx) p vr) pQ (pR g)) _ (L r+1) _ _ aa aa]
theorem KY:fp (dj (kJ c bx) p vr) pQ (pR g) w5 (A,q) r=r.filter (λe=>cZ A e.2&&cZ (gE g A r).1 e.1):=by
 unfold fp;rw[tz,List.filter_filter,List.map_id'']
 ·congr 1
  funext e
  rw[Bool.and_comm]
 ·exact λ_=>rfl
theorem KZ:fq (dj (kJ c bx) p vr) pQ (pR g) w5 (A,q) r=(q++(gE g A r).2.1).filter (λe=>cZ (gE g A r).1 e.1):=by unfold fq;rw[tz];rw[List.map_id'' (by grind)];rfl
theorem K0 (e:b8)(h:e∈(gE g A r).2.1):e∈r:=by
 have b:=xX (is:=cZ) (kp:=gz g) e (L r+1) (r.filter (λe=>!cZ A e.2)) A []
 grind [List.count_pos_iff,gE]
end
section
variable {c:Cp}{own own':Nat->Nat}{vt cV:a7}{n1 n2 n1' eI:Nat}{hm hm':Int->Option bB×Nat}{st:dG}{w w':az}{g:List Bool->List Bool}
theorem K1 (hg:iV c)(ag:dS c.s.T c.s.wt g)(hv:fX c.s)(h:c7 c own vt n1 n2 hm st w)(dy:gZ c.s.T c.s.wt st.A st)(ai:st.td=[]):
 M prog 284 #[aq c.cp] w λe w'=>∃own' cV n1' eI hm' f p a1 k1 a2 k2,e=Q (aq p)/\c7 c own' cV n1' eI hm' f w'/\f.A=(gE g st.A c.s.rg).1/\f.td=[]/\gZ c.s.T c.s.wt f.A f/\eW own w own' w'/\
  fF w' p a1 k1 a2 k2 (c.s.rg.filter (λe=>cZ st.A e.2&&cZ (gE g st.A c.s.rg).1 e.1)) ((c.s.wt++(gE g st.A c.s.rg).2.1).filter (λe=>cZ (gE g st.A c.s.rg).1 e.1))/\
  (I (G w)<=p/\own' p=0)/\(∀k,H k=O9 (Value.slice a1 (L (c.s.rg.filter (λe=>cZ st.A e.2&&cZ (gE g st.A c.s.rg).1 e.1))) k1)->I (G w)<=k/\own' k=0/\H k≠O9 (Value.slice a2 (L ((c.s.wt++(gE g st.A c.s.rg).2.1).filter (λe=>cZ (gE g st.A c.s.rg).1 e.1))) k2))/\
  (∀k,H k=O9 (Value.slice a2 (L ((c.s.wt++(gE g st.A c.s.rg).2.1).filter (λe=>cZ (gE g st.A c.s.rg).1 e.1))) k2)->I (G w)<=k/\own' k=0):=by
 have b1:=aw w (E #[bq (H ⟨c.cp,0,O0⟩)] 323)
 obtain⟨c0,_,_,_,_,b0⟩:=h.cells;have gv:=h.gv hg.g;obtain⟨_,_,_,_,_,g5,_,_,b2⟩:=gv.cells;have P:=AD _ c.l.bp c.l.a0 c.l.a1 c.l.k0 c.l.k1 c.s.rg c.s.wt ((h.below b1).gv hg.g).g3.sd (aQ hv.gl ae) (aQ hv.wl ae)
 have al:own (I (G w))=0:=by
  cases e:own (I (G w))
  ·rfl
  ·exact absurd (h.lt (I (G w)) (by rw[e];omega)).2 aa
 have F:aA (∀w1 p t k0 b1 k1,O (I (G w)) w w1->w1.heap[I (G w)]?=H (E #[aq c.cp] 323 (0,0))->I (G w)+1<=p->fF w1 p t k0 b1 k1 c.s.rg c.s.wt->(∀z,t=H z->I (G w)+1<=z.block)->(∀z,b1=H z->I (G w)+1<=z.block)->(∀k,H k=O9 (Value.slice t (L c.s.rg) k0)->H k≠O9 (Value.slice b1 (L c.s.wt) k1))->
  M prog 179 #[aq p,bz #[.func (.func 316) #[aq c.cp] #[],.func (.func 317) #[] #[aq (I (G w))],.func (.func 318) #[] #[]]] w1 λe w'=>∃own' cV n1' eI hm' f a1 k1 a2 k2,e=Q (ay #[])/\c7 c own' cV n1' eI hm' f w'/\f.A=(gE g st.A c.s.rg).1/\f.td=[]/\gZ c.s.T c.s.wt f.A f/\eW own w own' w'/\
   fF w' p a1 k1 a2 k2 (c.s.rg.filter (λe=>cZ st.A e.2&&cZ (gE g st.A c.s.rg).1 e.1)) ((c.s.wt++(gE g st.A c.s.rg).2.1).filter (λe=>cZ (gE g st.A c.s.rg).1 e.1))/\
   (I (G w)<=p/\own' p=0)/\(∀k,H k=O9 (Value.slice a1 (L (c.s.rg.filter (λe=>cZ st.A e.2&&cZ (gE g st.A c.s.rg).1 e.1))) k1)->I (G w)<=k/\own' k=0/\H k≠O9 (Value.slice a2 (L ((c.s.wt++(gE g st.A c.s.rg).2.1).filter (λe=>cZ (gE g st.A c.s.rg).1 e.1))) k2))/\
   (∀k,H k=O9 (Value.slice a2 (L ((c.s.wt++(gE g st.A c.s.rg).2.1).filter (λe=>cZ (gE g st.A c.s.rg).1 e.1))) k2)->I (G w)<=k/\own' k=0)):=by
  intro w1 p o k0 m k1 hb n hp j b3 am b4;have u:∀k,((k<I (G c.w0)\/own k≠0)\/k=I (G w))->k<I (G w)+1:=λk hk=>by
   have hz:=h.sz;rcases hk with(d|d)|d
   ·omega
   ·have:=(h.lt k d).2;omega
   ·omega
  have nq:∀k,H k=O9 (Value.slice m (L c.s.wt) k1)->I (G w)+1<=k:=λk e=>by
   cases m with
   |none=>cases e
   |some z=>cases e;exact am z rfl
  have an:(kJ c (I (G w))).J (λk=>(k<I (G c.w0)\/own k≠0)\/k=I (G w)) st.A w1:=⟨λk=>k<I (G c.w0)\/own k≠0,st,⟨own,vt,n1,n2,hm,h.below hb,λ_=>gp⟩,rfl,ai,dy,n,λd=>by
   have hz:=h.sz;rcases d with d|d
   ·omega
   ·exact d al,λ_=>gp⟩
  have ao:(dj (kJ c (I (G w))) p (Z o (L c.s.rg) k0)).J (λk=>((k<I (G c.w0)\/own k≠0)\/k=I (G w))\/k=p\/H k=O9 (Value.slice m (L c.s.wt) k1)) (st.A,c.s.wt) w1:=⟨_,m,k1,an,j.cY,j.q0,λk d=>aK d,aI (aK rfl),λd=>by have:=u p d;omega,λk e=>⟨aI (aI e),λd=>by have l:=u k d;have ap:=nq k e;omega⟩,λk d=>by
   have hz:=hb.size;have b5:=cj n;rcases d with d|d|d
   ·have:=u k d;omega
   ·rw[d];exact cj j.cY
   ·exact(cu j.q0 k d).2⟩
  have N:∀e∈c.s.rg,nL c e.1/\nL c e.2:=λe he=>⟨(hv.gv e he).1,(hv.gv e he).2⟩
  have P:=rZ (dj (kJ c (I (G w))) p (Z o (L c.s.rg) k0)) (nL c) ⟨316,#[aq c.cp],#[]⟩ ⟨317,#[],#[aq (I (G w))]⟩ ⟨318,#[],#[]⟩ pQ (pR g) w5
   (r2 (kJ c (I (G w))) p _ (nL c) _ _ _ cZ (λA x=>(x,gz g A x)) (λ_ x=>x) KP KQ KR (KT hg) (KW hg ag) KU) c.s.rg o k0 rfl (aQ hv.gl ae) N _ (st.A,c.s.wt) w1 (by
     rw[tz];intro e he;rcases List.mem_append.1 he with he|he
     ·exact⟨hv.wg e he,hg.iv.wv e he⟩
     ·exact N e (K0 e he)) (by have l:=hv.gl;have ap:=hv.wl;show L c.s.wt+_<=_;omega) ao (iQ j.r0)
  rw[KY,KZ,tz] at P;refine P.mono ?_;rintro e w' ⟨a1,ar,a2,aB,S,b6,rfl,⟨aF,b7,b8,⟨b9,f,⟨own',cV,n1',eI,hm',aR,aV⟩,W,a0,bb,ca,cb,bd⟩,_,_,be,_,np,_,_⟩,same,bg,bi,ab,ad,fr,bl,bn,bo,bp⟩
  have s:∀b,b<I (G c.w0)\/own' b≠0->S b/\b≠p:=λb i=>by
   have l:aF b:=(bd b).2 (aK ((aV b).2 i))
   exact⟨be b l,λe=>np (by rw[<-e];exact l)⟩
  have v:c7 c own' cV n1' eI hm' f w':=aR.keep bg (λb i=>same b (s b i).1 (s b i).2)
  have z0:∀b,¬S b->own' b=0:=λb i=>by
   cases e:own' b
   ·rfl
   ·exact absurd (s b (aI (by rw[e];omega))).1 i
  have br:own' p=0:=by
   cases e:own' p
   ·rfl
   ·exact absurd rfl (s p (aI (by rw[e];omega))).2
  have bs:=hb.size;have tk:eW own w own' w':=by
   refine⟨⟨fr.os.trans hb.os,fr.tape.trans hb.tape,fr.output.trans hb.output,aQ bs fr.size,λk hk hn=>?_⟩,λb i=>?_⟩
   ·by_cases B:k<I (G c.w0)
    ·exact(v.ol k B).trans (h.ol k B).symm
    ·refine(fr.block k aa (λd=>?_)).trans (hb.block k hk)
     rcases d with((d|d)|d)|d|d
     ·exact B d
     ·exact hn d
     ·omega
     ·omega
     ·have:=nq k d;omega
   ·rcases bl b (s b (aI i)).1 with d|d
    ·rcases d with((d|d)|d)|d|d
     ·have:=(v.lt b i).1;omega
     ·exact aK d
     ·exact aI aa
     ·exact aI aa
     ·have:=nq b d;exact aI aa
    ·exact aI aa
  refine⟨own',cV,n1',eI,hm',f,a1,ar,a2,aB,rfl,v,W,a0,by rw[W];exact bb,tk,⟨bi,fA ab (λ_ _=>a4 _),fA ad (λ_ _=>a4 _)⟩,⟨aa,br⟩,λk e=>⟨?_,z0 k (bn k e),bp k e⟩,λk e=>⟨?_,z0 k (bo k e)⟩⟩
  ·have:=(cu ab k e).1;omega
  ·have:=(cu ad k e).1;omega
 generalize (c.s.rg.filter (λe=>cZ st.A e.2&&cZ (gE g st.A c.s.rg).1 e.1))=cc at*;generalize ((c.s.wt++(gE g st.A c.s.rg).2.1).filter (λe=>cZ (gE g st.A c.s.rg).1 e.1))=cd at*;go_enter func284,ntmps284;go_wp2_with fail;refine P.mono ?_;rintro e w1 ⟨p,o,k0,m,k1,rfl,hp,j,h0,l,hn,hb⟩
 have n:=(hb.block (I (G w)) ac).trans (aO w (E #[bq (H ⟨c.cp,0,O0⟩)] 323))
 have hz:I (G (bu w (E #[bq (H ⟨c.cp,0,O0⟩)] 323)))=I (G w)+1:=ac;rw[hz] at hp h0 l;have ce:V w1 (av (I (G w)) 0)=H (aq c.cp):=aD n
 have P:=F.o w1 p o k0 m k1 (b1.trans (hb.mono b1.size)) n hp j h0 l hn;clear hb j h0 l hn n b1 F;go_wp2_with fail;refine P.mono ?_;rintro e cf ⟨own',cV,n1',eI,hm',f,a1,bt,a2,k2,rfl,q⟩
 have bx:aA (_):=q;go_wp2_with fail;go_ret;exact⟨own',cV,n1',eI,hm',f,p,a1,bt,a2,k2,rfl,bx.o⟩
end
section
variable {T:List cH}{A:List Bool}{fm:Fm}
theorem Ca (i:Nat):X (gW A T (L T)) i t0=if i<L T then gj A i (X T i t0) else t0:=by
 by_cases hi:i<L T
 ·rw[sZ A T (L T) i aa hi,aN hi,aN hi]
 grind [kE]
theorem ri (c:hQ T A)(i:Nat):cz (gW A T (L T)) i↔cx A i:=by
 unfold cz;rw[kE,Ca];constructor
 ·rintro⟨d,b⟩
  rw[aN d] at b;unfold gj at b;split at b
  ·assumption
  grind
 ·intro h;have hi:=c.al i h;refine⟨hi.1,?_⟩
  rw[aN hi.1];unfold gj;rw[aN (show X A i O4=O5 from h)];exact hi.2
theorem tA (b:hQ T A){i:Nat}(h:cx A i):X (gW A T (L T)) i t0=((X T i t0).1,jA A (X T i t0),O5,(X T i t0).2.2.2):=by rw[Ca,aN (b.al i h).1];unfold gj;rw[aN (show X A i O4=O5 from h)];rfl
theorem w6 (hB:pP T A){i:Nat}(h:cx A i):L (jA A (X T i t0))=L (X T i t0).2.1:=by grind [pP.l2,jA]
theorem K2 (b:hQ T A)(hB:pP T A):iU (gW A T (L T)) fm=fD T fm A:=by
 funext x
 by_cases h:0<=x/\cx A (K x)
 ·rw[ki (by grind [ri])];unfold fD;rw[aN (show 0<=x/\X A (K x) O4=O5 from h)];dsimp only [gX,ff]
  grind [tA,w6]
 ·rw[nF (by grind [ri])];unfold fD;rw[aJ (by assumption)]
end
section
variable {b7:Nat}{ce grow:Int}{l:ik}{s:ck}{w w':az}{A:List Bool}{ab p n1:Nat}{a1 a2:Option bB}{k1 k2:Nat}{r q:List b8}
theorem dO.cut (h:dO b7 ce grow l s w)(c:hQ s.T A)(hB:pP s.T A)(hz:I (G w)<=I (G w'))(hk:∀b,l.own b=4->w'.heap[b]?=w.heap[b]?)
 (hb:w'.heap[b7]?=H (E #[ak ce,ak grow,.map (H ab),ak (L s.T),ak (L s.T),aq p,Z (au l.rb) 12 12] 200 (0,0)))
 (hM:eT w' ab n1 (fD s.T l.fm A))(hn:n1<=L s.T)(hr:∀i,cx A i->w'.ownsRow 0 139 2 (ff s.T l.fm i) (L (X s.T i t0).2.1) (ev (jA A (X s.T i t0))))(d:fF w' p a1 k1 a2 k2 r q)
 (n0:I (G w)<=ab/\I (G w)<=p)(u:∀k,H k=O9 (Value.slice a1 (L r) k1)->I (G w)<=k)(nq:∀k,H k=O9 (Value.slice a2 (L q) k2)->I (G w)<=k)(B:∀k,H k=O9 (Value.slice a1 (L r) k1)->H k≠O9 (Value.slice a2 (L q) k2)):
 ∃g,dO b7 ce grow g {T:=gW A s.T (L s.T),rs:=s.rs,rg:=r,wt:=q} w'/\∀b,g.own b≠0->l.own b≠0\/I (G w)<=b:=by
 have F:p≠ab:=λe=>by
  obtain⟨es,k,hm⟩:=hM.cY;have j:=d.cY
  grind
 have m:∀b n (v:a7)(x:List a7),w'.ownsRow b 247 2 v n x->∀k,H k=O9 v->k≠ab/\k≠p:=λb n v x N k e=>by grind [fI,eT.cY,fF.np]
 have he:∀b,l.own b≠0->(if I (G w)<=b then(if b=ab then 2 else if b=p then 3 else if H b=O9 (Value.slice a1 (L r) k1) then 5 else if H b=O9 (Value.slice a2 (L q) k2) then 6 else 0) else l.own b)=l.own b:=λb hb=>(by grind [lt])
 refine⟨{own:=λb=>if I (G w)<=b then(if b=ab then 2 else if b=p then 3 else if H b=O9 (Value.slice a1 (L r) k1) then 5 else if H b=O9 (Value.slice a2 (L q) k2) then 6 else 0) else l.own b,mb:=ab,bp:=p,rb:=l.rb,fm:=l.fm,fY:=L s.T,n:=n1,a0:=a1,k0:=k1,a1:=a2,k1:=k2},?_,λb f=>?_⟩
 ·refine {cY:=?_,bo:=(by grind [bo]),g2:=?_,g3:=?_,g4:=?_,lt:=λb f=>?_}
  ·rw[hb,kE]
  ·refine {mp:=?_,mn:=by grind [kE],dy:=?_,fl:=λi hi=>?_,fC:=λi hi k e=>?_,fY:=λi hi=>?_,al:=by simp_all [kE]}
   ·grind [K2]
   ·grind
   ·have hi:=(ri c i).1 hi;have j:=hr i hi;dsimp only [ff] at j⊢
    grind [tA,w6]
   ·have hi:=(ri c i).1 hi;dsimp only [ff] at e;rw[tA c hi] at e;rw[w6 hB hi] at e;have S:=h.g2.fC i (c.al i hi) k e
    grind
   ·have hi:=(ri c i).1 hi;rw[tA c hi];have:=(c.al i hi).1
    grind
  ·refine {sd:=d,so:=?_,ro:=λk e=>?_,nG:=λk e=>?_}
   ·grind
   ·obtain⟨o,t⟩:=m _ _ _ _ d.r0 k e
    grind
   ·obtain⟨o,t⟩:=m _ _ _ _ d.q0 k e
    grind
  ·exact {rt:=(by grind [G4.ro,g4,G4.rt]),rl:=h.g4.rl,ro:=(he _ (by rw[h.g4.ro];decide)).trans h.g4.ro}
  ·dsimp only at f;split at f
   ·split at f
    ·grind [eT.lt]
    ·split at f
     ·rename_i e;rw[e];exact cj d.cY
     ·split at f
      ·rename_i e;exact(cu d.r0 b e).2
      ·split at f
       ·rename_i e;exact(cu d.q0 b e).2
       omega
   omega
 grind
end
end Go.Proofs.YtjckpdepffejnaaGreatDoor
