import Derived.Test.YtpkjkjhanlbcoaaGreatJ20
open Array renaming getElem?_modify->bL,size->I
open Bool renaming false->K,true->Nc
open Eq renaming symm->CX
open Go renaming Addr->bG,Calls->J,Value->bD,info_parts->bV,maxLen->bW,wpList_append_own_at->bX
open Go.Ending renaming returned->E
open Go.IntKind renaming i64->Q
open Go.Obj renaming cells->M5
open Go.Proofs.Tryz renaming prog->O
open Go.RowKit renaming Below->C,intOf->bN
open Go.Value renaming agg->bF,int->U,ownBlock->Nh,pointer->bJ,slice->M0,tuple->a8
open Go.World renaming alloc->bj,cell?->V,frozen?->bO,heap->G,ownsRow->aC,setCell->ay
open Int renaming eq_ofNat_of_zero_le->bH,toNat->Na,toNat_natCast->bI
open List renaming contains->bR,getD->X,length->MZ,map_append->iB,mem_append->bE,mem_map->fo,mem_or_eq_of_mem_set->ko,replicate->A
open Nat renaming le_of_eq->tQ,le_of_lt->wI,succ_pos->j3,zero_add->b7
open Option renaming map_some->bS,none->Y,some->Z
namespace Go.Proofs.YtpkjkjhanlbcoaaGreat
set_option maxRecDepth 100000
set_option maxHeartbeats 4000000
open Tryz
open Go.RowKit W Kp cq
section
variable {ce rb:Nat}{cj b_:Int}{F:Nat->Prop}{s:cn}{w:az}
theorem KW (h:(cG ce cj b_ rb).J F s w)(R I n:Int)(A B:Nat)(i:A<12)(hB:B<12)(hc:d7 9 R A B n=0)(cd:Int)(j:cn)(q:j.rs=s.rs)
 (t:∀w',C w.heap.size w w'->Calls O 132 #[aq ce,bF #[ak (X s.rs A (0,0)).1,ak (X s.rs A (0,0)).2],bF #[ak (X s.rs B (0,0)).1,ak (X s.rs B (0,0)).2]] w' fun e u=>∃d,e=E (ak cd)/\(cG ce cj b_ rb).J d j u/\ch F w' d u):
 Calls O 68 #[aq ce,eb 9 R A B I n] w fun e w'=>∃v,e=E (ak cd)/\(cG ce cj b_ rb).J v j w'/\ch F w v w':=by
 have l:=aw w (cH 9 R A B I n)
 have m:=aP w (M5 #[U Q 9,U Q R,U Q (A:Int),U Q (B:Int),U Q I,U Q n] 44)
 have o:=jX 9 R A B I n (w.alloc (cH 9 R A B I n))
 rw[hc] at o;have gm:∀b,F b->b<w.heap.size:=fun b hb=>(cG ce cj b_ rb).lt h b hb;have x:aA (∀w1,C (w.alloc (cH 9 R A B I n)).heap.size (w.alloc (cH 9 R A B I n)) w1->(V w1 (av ce 6)=Z (M0 (au rb) 12 12)/\V w1 (av rb (A*2))=Z (ak (X s.rs A (0,0)).1)/\V w1 (av rb (A*2+1))=Z (ak (X s.rs A (0,0)).2)/\V w1 (av rb (B*2))=Z (ak (X s.rs B (0,0)).1)/\V w1 (av rb (B*2+1))=Z (ak (X s.rs B (0,0)).2)/\w1.heap[w.heap.size]?=Z (cH 9 R A B I n))/\
  Calls O 132 #[aq ce,bF #[ak (X s.rs A (0,0)).1,ak (X s.rs A (0,0)).2],bF #[ak (X s.rs B (0,0)).1,ak (X s.rs B (0,0)).2]] w1.drew fun e c=>∃d,e=E (ak cd)/\(V c (av ce 6)=Z (M0 (au rb) 12 12)/\V c (av rb (A*2))=Z (ak (X s.rs A (0,0)).1)/\V c (av rb (A*2+1))=Z (ak (X s.rs A (0,0)).2)/\V c (av rb (B*2))=Z (ak (X s.rs B (0,0)).1)/\V c (av rb (B*2+1))=Z (ak (X s.rs B (0,0)).2)/\V c (av w.heap.size 2)=Z (ak A)/\V c (av w.heap.size 3)=Z (ak B))/\aA ((cG ce cj b_ rb).J d j c/\ch F w d c)):=fun w1 hb=>by
  have p:C w.heap.size w w1:=l.trans (hb.mono l.size)
  have f:=(hb.block _ (lt_of_some m)).trans m;obtain⟨ao,rt,_,_⟩:=kD ((cG ce cj b_ rb).below h p)
  refine⟨⟨ao,(rt A i).1,(rt A i).2,(rt B hB).1,(rt B hB).2,f⟩,(t w1.drew p.drew).mono ?_⟩
  rintro e c ⟨d,rfl,N,tn⟩
  obtain⟨k,g,_,_⟩:=kD N;rw[q] at g;have ap:=(tn.fr.block w.heap.size (lt_of_some f) (fun ar=>by have:=gm _ ar;omega)).trans f;obtain⟨_,_,aB,aF,be,_⟩:=ez ap;exact⟨d,rfl,⟨k,(g A i).1,(g A i).2,(g B hB).1,(g B hB).2,aB,aF⟩,N,(ch.of p.drew).trans tn⟩
 generalize (X s.rs A (0,0)).1=a0 at*;generalize (X s.rs A (0,0)).2=a1 at*;generalize (X s.rs B (0,0)).1=aR at*;generalize (X s.rs B (0,0)).2=aV at*;have bg:(0:Int)<=(A:Int):=aa;have bi:(A:Int)<12:=aa;have bl:(0:Int)<=(B:Int):=aa;have bn:(B:Int)<12:=aa;clear h l m hc gm t q;go_enter func68,ntmps68;go_wp2_with fail;refine o.mono ?_;clear o;rintro e w1 ⟨rfl,S⟩
 obtain⟨⟨k1,a2,a3,a4,k5,f⟩,W⟩:=x.o w1 S;obtain⟨q0,q1,ba,q3,bb,bd⟩:=ez f;clear S f x q1 bd bb;go_wp2_with fail
 go_region_held3 (fun w'=>V w' (av ce 6)=Z (M0 (au rb) 12 12)/\V w' (av rb (A*2))=Z (ak a0)/\V w' (av rb (A*2+1))=Z (ak a1)/\V w' (av rb (B*2))=Z (ak aR)/\V w' (av rb (B*2+1))=Z (ak aV)/\V w' (av w.heap.size 2)=Z (ak A)/\V w' (av w.heap.size 3)=Z (ak B)) (first|exact⟨ab,ad,ag,ai,al,k,am⟩|(go_keep;done))
  (first|(go_at_call 132;refine W.mono ?_;clear W;rintro e c ⟨d,rfl,⟨ab,ad,ag,ai,al,k,am⟩,an⟩;clear k1 a2 a3 a4 k5 ba q3))
 all_goals
  clear ab ad ag ai al k am ‹_/\_›;go_wp2_with fail;go_ret;exact⟨d,rfl,an.o.1,an.o.2⟩
theorem KX (h:(cG ce cj b_ rb).J F s w)(R I n:Int)(A B:Nat)(i:A<12)(hB:B<12)(hc:d7 12 R A B n=0)(cd:Int)(j:cn)(q:j.rs=s.rs)
 (t:∀w',C w.heap.size w w'->Calls O 133 #[aq ce,bF #[ak (X s.rs A (0,0)).1,ak (X s.rs A (0,0)).2],ak I,bF #[ak (X s.rs B (0,0)).1,ak (X s.rs B (0,0)).2]] w' fun e u=>∃d,e=E (ak cd)/\(cG ce cj b_ rb).J d j u/\ch F w' d u):
 Calls O 68 #[aq ce,eb 12 R A B I n] w fun e w'=>∃v,e=E (ak cd)/\(cG ce cj b_ rb).J v j w'/\ch F w v w':=by
 have l:=aw w (cH 12 R A B I n)
 have m:=aP w (M5 #[U Q 12,U Q R,U Q (A:Int),U Q (B:Int),U Q I,U Q n] 44)
 have o:=jX 12 R A B I n (w.alloc (cH 12 R A B I n))
 rw[hc] at o;have gm:∀b,F b->b<w.heap.size:=fun b hb=>(cG ce cj b_ rb).lt h b hb;have x:aA (∀w1,C (w.alloc (cH 12 R A B I n)).heap.size (w.alloc (cH 12 R A B I n)) w1->(V w1 (av ce 6)=Z (M0 (au rb) 12 12)/\V w1 (av rb (A*2))=Z (ak (X s.rs A (0,0)).1)/\V w1 (av rb (A*2+1))=Z (ak (X s.rs A (0,0)).2)/\V w1 (av rb (B*2))=Z (ak (X s.rs B (0,0)).1)/\V w1 (av rb (B*2+1))=Z (ak (X s.rs B (0,0)).2)/\w1.heap[w.heap.size]?=Z (cH 12 R A B I n))/\
  Calls O 133 #[aq ce,bF #[ak (X s.rs A (0,0)).1,ak (X s.rs A (0,0)).2],ak I,bF #[ak (X s.rs B (0,0)).1,ak (X s.rs B (0,0)).2]] w1.drew fun e c=>∃d,e=E (ak cd)/\(V c (av ce 6)=Z (M0 (au rb) 12 12)/\V c (av rb (A*2))=Z (ak (X s.rs A (0,0)).1)/\V c (av rb (A*2+1))=Z (ak (X s.rs A (0,0)).2)/\V c (av rb (B*2))=Z (ak (X s.rs B (0,0)).1)/\V c (av rb (B*2+1))=Z (ak (X s.rs B (0,0)).2)/\V c (av w.heap.size 2)=Z (ak A)/\V c (av w.heap.size 3)=Z (ak B)/\V c (av w.heap.size 4)=Z (ak I))/\aA ((cG ce cj b_ rb).J d j c/\ch F w d c)):=fun w1 hb=>by
  have p:C w.heap.size w w1:=l.trans (hb.mono l.size)
  have f:=(hb.block _ (lt_of_some m)).trans m;obtain⟨ap,rt,_,_⟩:=kD ((cG ce cj b_ rb).below h p)
  refine⟨⟨ap,(rt A i).1,(rt A i).2,(rt B hB).1,(rt B hB).2,f⟩,(t w1.drew p.drew).mono ?_⟩
  rintro e c ⟨d,rfl,N,tn⟩
  obtain⟨k,g,_,_⟩:=kD N;rw[q] at g;have ar:=(tn.fr.block w.heap.size (lt_of_some f) (fun aB=>by have:=gm _ aB;omega)).trans f;obtain⟨_,_,aF,aR,aV,_⟩:=ez ar;exact⟨d,rfl,⟨k,(g A i).1,(g A i).2,(g B hB).1,(g B hB).2,aF,aR,aV⟩,N,(ch.of p.drew).trans tn⟩
 generalize (X s.rs A (0,0)).1=a0 at*;generalize (X s.rs A (0,0)).2=a1 at*;generalize (X s.rs B (0,0)).1=a2 at*;generalize (X s.rs B (0,0)).2=a3 at*;have bi:(0:Int)<=(A:Int):=aa;have bl:(A:Int)<12:=aa;have bn:(0:Int)<=(B:Int):=aa;have bo:(B:Int)<12:=aa;clear h l m hc gm t q;go_enter func68,ntmps68;go_wp2_with fail;refine o.mono ?_;clear o;rintro e w1 ⟨rfl,S⟩
 obtain⟨⟨k1,a4,ba,bb,k5,f⟩,W⟩:=x.o w1 S;obtain⟨q0,q1,bd,q3,be,bg⟩:=ez f;clear S f x q1 bg;go_wp2_with fail
 go_region_held3 (fun w'=>V w' (av ce 6)=Z (M0 (au rb) 12 12)/\V w' (av rb (A*2))=Z (ak a0)/\V w' (av rb (A*2+1))=Z (ak a1)/\V w' (av rb (B*2))=Z (ak a2)/\V w' (av rb (B*2+1))=Z (ak a3)/\V w' (av w.heap.size 2)=Z (ak A)/\V w' (av w.heap.size 3)=Z (ak B)/\V w' (av w.heap.size 4)=Z (ak I)) (first|exact⟨ab,ad,ag,ai,al,k,am,an⟩|(go_keep;done))
  (first|(go_at_call 133;refine W.mono ?_;clear W;rintro e c ⟨d,rfl,⟨ab,ad,ag,ai,al,k,am,an⟩,ao⟩;clear k1 a4 ba bb k5 bd q3 be))
 all_goals
  clear ab ad ag ai al k am an ‹_/\_›;go_wp2_with fail;go_ret;exact⟨d,rfl,ao.o.1,ao.o.2⟩
end
section
variable {ce rb:Nat}{cj b_:Int}{F:Nat->Prop}{w:az}
theorem KY (k R A B I n:Int)(hc:d7 k R A B n=0)(k1:k≠9)(N:k≠12)(S:k≠15)(W:k≠16)(v:Int×Int)(cd:Int)(ab:cd≠0)(d:cn)
 (q:∀w',C w.heap.size w w'->Calls O 136 #[aq ce,eb k R A B I n] w' fun e f=>∃b,e=E (a8 #[bF #[ak v.1,ak v.2],ak cd])/\(cG ce cj b_ rb).J b d f/\ch F w' b f):
 Calls O 68 #[aq ce,eb k R A B I n] w fun e w'=>∃g,e=E (ak cd)/\(cG ce cj b_ rb).J g d w'/\ch F w g w':=by
 obtain⟨v0,v1⟩:=v;have i:=aw w (cH k R A B I n)
 have j:=aP w (M5 #[U Q k,U Q R,U Q A,U Q B,U Q I,U Q n] 44)
 have l:=jX k R A B I n (w.alloc (cH k R A B I n))
 rw[hc] at l;have s:aA (∀w1,C (w.alloc (cH k R A B I n)).heap.size (w.alloc (cH k R A B I n)) w1->w1.heap[w.heap.size]?=Z (cH k R A B I n)/\Calls O 136 #[aq ce,eb k R A B I n] w1 fun e c=>∃b,e=E (a8 #[bF #[ak v0,ak v1],ak cd])/\aA ((cG ce cj b_ rb).J b d c/\ch F w b c)):=fun w1 hb=>by
  have m:C w.heap.size w w1:=i.trans (hb.mono i.size)
  refine⟨(hb.block _ (lt_of_some j)).trans j,(q w1 m).mono ?_⟩
  rintro e c ⟨b,rfl,t,tn⟩
  exact⟨b,rfl,t,(ch.of m).trans tn⟩
 go_enter func68,ntmps68;go_wp2_with fail;refine l.mono ?_;rintro e w1 ⟨rfl,u⟩
 obtain⟨x,P⟩:=s.o w1 u;obtain⟨q0,q1,ad,q3,ag,ai⟩:=ez x;go_wp2_with fail;refine P.mono ?_;rintro e c ⟨b,rfl,o⟩
 have p:aA ((cG ce cj b_ rb).J b d (bj c (M5 #[U Q v0,U Q v1] 97))/\ch F w b (bj c (M5 #[U Q v0,U Q v1] 97))):=⟨(cG ce cj b_ rb).below o.o.1 (b9.alloc b8 _),o.o.2.below (b9.alloc b8 _)⟩
 go_wp2_with fail;go_ret;exact⟨b,rfl,p.o.1,p.o.2⟩
end
section
variable {ce rb:Nat}{cj b_:Int}{F:Nat->Prop}{s:cn}{w:az}
theorem KZ (h:(cG ce cj b_ rb).J F s w){R:Nat}(v:Int×Int):
 (cG ce cj b_ rb).J F {s with rs:=s.rs.set R v} (ay (ay w ⟨rb,R*2,Y⟩ (U Q v.1)) ⟨rb,R*2+1,Y⟩ (U Q v.2))/\ch F w F (ay (ay w ⟨rb,R*2,Y⟩ (U Q v.1)) ⟨rb,R*2+1,Y⟩ (U Q v.2)):=by
 obtain⟨l,h,rfl,c⟩:=h;have fr:Fr (fun k=>k=l.rb) w (ay (ay w ⟨l.rb,R*2,Y⟩ (U Q v.1)) ⟨l.rb,R*2+1,Y⟩ (U Q v.2)):=((Fr.refl (fun k=>k=l.rb) w).set l.rb _ _ rfl).set l.rb _ _ rfl;have hk:∀b,l.own b≠0->l.own b≠4->_=_:=fun b h0 d=>fr.block b (h.lt b h0) (fun e=>d (by rw[e];exact h.g4.ro))
 refine⟨⟨l,?_,rfl,c⟩,fr.mono (fun b e=>by rw[e];exact(c _).2 (by rw[h.g4.ro];decide)),fun b hb=>aM hb⟩
 refine {blk:=(hk ce (by rw[h.bo];decide) (by rw[h.bo];decide)).trans h.blk,bo:=h.bo,g2:=h.g2.keep (fun b hb=>hk b aa aa),g3:=h.g3.keep (fun b hb=>hk b aa aa),g4:=⟨?_,?_,h.g4.ro⟩,lt:=fun b hb=>aO (h.lt b hb) fr.size}
 ·show _=Z _;rw[t_];simp only [World.setCell,bL,if_true,h.g4.rt,bS];simp
 ·rw[bh];exact h.g4.rl
theorem su {w:az}{b c o p q:Nat}{x v0 v1:bD}(hn:b≠c)(h:V w (av b o)=Z x):V (ay (ay w ⟨c,p,Y⟩ v0) ⟨c,q,Y⟩ v1) (av b o)=Z x:=by exact BK
theorem K0 (h:(cG ce cj b_ rb).J F s w)(k:Int)(R:Nat)(ad:R<12)(A B I n:Int)(hc:d7 k R A B n=0)(k1:k≠9)(a0:k≠12)(a1:k≠15)(a2:k≠16)(v:Int×Int)(g:cn)
 (i:∀w',C w.heap.size w w'->Calls O 136 #[aq ce,eb k R A B I n] w' fun e ag=>∃d,e=E (a8 #[bF #[ak v.1,ak v.2],ak 0])/\(cG ce cj b_ rb).J d g ag/\ch F w' d ag):
 Calls O 68 #[aq ce,eb k R A B I n] w fun e w'=>∃ai,e=E (ak 0)/\(cG ce cj b_ rb).J ai {g with rs:=g.rs.set R v} w'/\ch F w ai w':=by
 obtain⟨v0,v1⟩:=v;dsimp only at i;have j:=aw w (cH k R A B I n)
 have m:=aP w (M5 #[U Q k,U Q (R:Int),U Q A,U Q B,U Q I,U Q n] 44)
 have p:=jX k R A B I n (w.alloc (cH k R A B I n))
 rw[hc] at p;have gm:∀b,F b->b<w.heap.size:=fun b hb=>(cG ce cj b_ rb).lt h b hb;obtain⟨_,_,al,am⟩:=kD h;have bs:=gm _ am;have bt:=gm _ al;have an:aA (∀w1,C (w.alloc (cH k R A B I n)).heap.size (w.alloc (cH k R A B I n)) w1->w1.heap[w.heap.size]?=Z (cH k R A B I n)/\Calls O 136 #[aq ce,eb k R A B I n] w1 fun e c=>∃d,e=E (a8 #[bF #[ak v0,ak v1],ak 0])/\
  (V (bj c (M5 #[U Q v0,U Q v1] 97)) (av ce 6)=Z (M0 (au rb) 12 12)/\V (bj c (M5 #[U Q v0,U Q v1] 97)) (av w.heap.size 1)=Z (ak R)/\V (bj c (M5 #[U Q v0,U Q v1] 97)) (av c.heap.size 0)=Z (ak v0)/\V (bj c (M5 #[U Q v0,U Q v1] 97)) (av c.heap.size 1)=Z (ak v1))/\
  (∃ao y1,V (bj c (M5 #[U Q v0,U Q v1] 97)) (av rb (R*2))=Z (ak ao)/\V (bj c (M5 #[U Q v0,U Q v1] 97)) (av rb (R*2+1))=Z (ak y1))/\(∀o,bO (bj c (M5 #[U Q v0,U Q v1] 97)) (av rb o)=K)/\w.heap.size<c.heap.size/\
  aA ((cG ce cj b_ rb).J d g (bj c (M5 #[U Q v0,U Q v1] 97)).drew/\ch F w d (bj c (M5 #[U Q v0,U Q v1] 97)).drew)):=fun w1 hb=>by
  have ap:C w.heap.size w w1:=j.trans (hb.mono j.size)
  have f:=(hb.block _ (lt_of_some m)).trans m;refine⟨f,(i w1 ap).mono ?_⟩
  rintro e c ⟨d,rfl,a3,tn⟩
  have q:C c.heap.size c (bj c (M5 #[U Q v0,U Q v1] 97)):=b9.alloc b8 _;have t:=(cG ce cj b_ rb).below a3 q;obtain⟨a4,rt,_,_⟩:=kD t;have u:=(tn.fr.block w.heap.size (lt_of_some f) (fun ba=>by have:=gm _ ba;omega)).trans f;obtain⟨_,bb,_⟩:=ez ((q.block _ (lt_of_some u)).trans u)
  obtain⟨z0,bd,_,_⟩:=du (aP c (M5 #[U Q v0,U Q v1] 97))
  have x:∀o,bO (bj c (M5 #[U Q v0,U Q v1] 97)) (av rb o)=K:=by obtain⟨l,hl,rfl,_⟩:=t;intro o;simp[World.frozen?,hl.g4.rt]
  exact⟨d,rfl,⟨a4,bb,z0,bd⟩,⟨_,_,(rt R ad).1,(rt R ad).2⟩,x,lt_of_some u,(cG ce cj b_ rb).below t b9.drew,((ch.of ap).trans tn).below q.drew⟩
 have bx:(k==9)=K:=by simpa using k1
 have b0:(k==12)=K:=by simpa using a0
 have b1:(k==15)=K:=by simpa using a1
 have b2:(k==16)=K:=by simpa using a2
 have b3:(0:Int)<=(R:Int):=aa;have b4:(R:Int)<12:=aa;have be:w.heap.size≠rb:=aa;have ar:aA (ce≠rb):=by obtain⟨l,hl,rfl,_⟩:=h;intro e;have bg:=hl.bo;rw[e,hl.g4.ro] at bg;omega
 have bi:=ar.o;clear h j m hc i gm al am ar;go_enter func68,ntmps68;go_wp2_with fail;refine p.mono ?_;clear p;rintro e w1 ⟨rfl,aB⟩
 obtain⟨f,P⟩:=an.o w1 aB;obtain⟨q0,q1,bl,q3,bn,bo⟩:=ez f;clear aB f an;go_wp2_with fail;refine P.mono ?_;clear P;rintro e c ⟨d,rfl,⟨N,S,W,ab⟩,⟨ao,y1,bp,br⟩,x,lw,aF⟩
 clear q0 q1 bl q3 bn bo;have aR:c.heap.size≠rb:=aa;go_wp2_with fail
 go_region_held3 (fun w'=>V w' (av ce 6)=Z (M0 (au rb) 12 12)/\V w' (av w.heap.size 1)=Z (ak R)/\V w' (av c.heap.size 0)=Z (ak v0)/\V w' (av c.heap.size 1)=Z (ak v1)) (first|exact⟨N,S,W,ab⟩|exact⟨su bi N,su be S,su aR W,su aR ab⟩|(go_keep;done)) (fail)
 all_goals
  have aV:aA (_/\_):=KZ aF.o.1 (R:=R) (v0,v1)
  clear N S W ab bp br x;go_wp2_with fail;go_ret;exact⟨rfl,d,aV.o.1,aF.o.2.trans aV.o.2⟩
end
theorem K1 {k R A B n:Int}(hc:d7 k R A B n=0)(b:k≠9)(c:k≠12)(e:k≠15)(f:k≠16):dl k=1\/dl k=3\/dl k=7:=by exact A7
theorem K2 (s:cn)(t b:Int×Int):(s.reg t b).2.rs=s.rs:=by
 unfold cn.reg;split
 ·split<;>rfl
 ·rfl
theorem K3 (s:cn)(v:Int×Int)(I:Int)(y:Int×Int):(s.set v I y).2.rs=s.rs:=by unfold cn.set;dsimp only;split<;>rfl
theorem fK.root {s:cn}(hv:fK s)(i:Nat):(X s.rs i (0,0)).1=3->0<=(X s.rs i (0,0)).2/\cA s.T (Na (X s.rs i (0,0)).2):=fun b=>by
 by_cases c:i<MZ s.rs
 ·exact hv.rv _ (getD_in c) b
 ·rw[aL,List.getElem?_eq_none aa] at b;cases b
section
variable {ce rb:Nat}{cj b_:Int}{F:Nat->Prop}{s:cn}{w:az}{g:eg}
theorem K4 (h:(cG ce cj b_ rb).J F s w)(hv:fK s)(i:dB s.T s.wt (g s.T s.wt))(g0:-1000000<=b_)(g1:b_<=1000000)(q:-1000000<=cj)(m1:cj<=1000000)(k R A B I n:Int):
 Calls O 68 #[aq ce,eb k R A B I n] w fun e w'=>∃m,e=E (ak (s.fY g cj b_ k R A B I n).1)/\(cG ce cj b_ rb).J m (s.fY g cj b_ k R A B I n).2 w'/\ch F w m w':=by
 have tl:=hv.tl;have gl:=hv.gl;have wl:=hv.wl;unfold cn.fY;by_cases hc:d7 k R A B n=0
 ·rw[aJ hc];by_cases b:k=9
  ·rw[aJ b];subst b;have j:=lV hc ae;have l:=mD hc ae;obtain⟨A,rfl⟩:=bH j.1;obtain⟨B,rfl⟩:=bH l.1;rw[bI,bI];exact KW h R I n A B aa aa hc _ _ (K2 _ _ _) (fun w' hb=>JM ((cG ce cj b_ rb).below h hb) _ _ (hv.root A) (hv.root B) tl aa aa)
  rw[aI b];by_cases d:k=12
  ·rw[aJ d];subst d;have j:=lV hc ae;have l:=mD hc ae;obtain⟨A,rfl⟩:=bH j.1;obtain⟨B,rfl⟩:=bH l.1;rw[bI,bI];exact KX h R I n A B aa aa hc _ _ (K3 _ _ _ _) (fun w' hb=>JO ((cG ce cj b_ rb).below h hb) _ _ I (hv.root A) tl hv.iv.tl)
  rw[aI d];by_cases f:k=15
  ·rw[aJ f];exact BR k R A B I n (aM f) hc _ _ (fun _ w' hb=>BI ((cG ce cj b_ rb).below h hb) hv i g0 g1) (fun e=>by omega)
  rw[aI f];by_cases e16:k=16
  ·rw[aJ e16];exact BR k R A B I n (aK e16) hc _ _ (fun e=>by omega) (fun _ w' hb=>BH ((cG ce cj b_ rb).below h hb) hv i)
  rw[aI e16];have u:=xz hc (K1 hc b d f e16)
  obtain⟨R,rfl⟩:=bH u.1;rw[bI];have o:∀w',C w.heap.size w w'->_:=fun w' hb=>KU ((cG ce cj b_ rb).below h hb) hv i g0 g1 q m1 k R A B I n hc b d f e16;generalize s.rt g cj b_ k (Na A) (Na B) I n=t at*;obtain⟨v,cd,p⟩:=t;by_cases c:cd=0
  ·rw[aJ c];subst c;exact K0 h k R aa A B I n hc b d f e16 v p o
  ·rw[aI c];exact KY k R A B I n hc b d f e16 v cd c p o
 ·rw[aI hc];refine(KV k R A B I n hc).mono ?_;rintro e w' ⟨rfl,hb⟩
  exact⟨F,rfl,(cG ce cj b_ rb).below h hb,ch.of hb⟩
end
def n7:cn:=⟨[],A 12 (0,0),[],[]⟩
theorem K5 {w:az}{b:Nat}(h:w.heap[b]?=Z (.map #[] 0)):eQ w b 0 (fun _=>Y):=by obtain⟨D,⟨d,e,hb,r⟩,c⟩:=eQ.made w;rw[aP] at hb;cases hb;exact⟨D,⟨#[],0,h,r⟩,c⟩
theorem K6 (fm:Fm):iC [] fm=fun _=>Y:=by
 funext x
 refine mr (fun h=>?_)
 have:=h.2.1;simp at this
theorem K7 {w:az}{ce mb bp rb:Nat}{n o:Int}(hg:w.heap[ce]?=Z (M5 #[ak n,ak o,.map (Z mb),ak 0,ak 0,aq bp,M0 (au rb) 12 12] 187 (0,0)))
 (hm:w.heap[mb]?=Z (.map #[] 0))(hb:w.heap[bp]?=Z (M5 #[M0 Y 0 0,M0 Y 0 0] 153 (0,0)))(hr:w.heap[rb]?=Z (M5 (ev (A 12 (0,0))).toArray 97 (0,0))):
 (cG ce n o rb).J (fun b=>b=ce\/b=mb\/b=bp\/b=rb) n7 w:=by
 have n1:ce≠mb:=fun e=>by rw[e,hm] at hg;cases hg
 have c:ce≠bp:=fun e=>by rw[e,hb] at hg;simp at hg
 have d:ce≠rb:=fun e=>by rw[e,hr] at hg;simp at hg
 have n4:mb≠bp:=fun e=>by rw[e,hb] at hm;cases hm
 have f:mb≠rb:=fun e=>by rw[e,hr] at hm;cases hm
 have g:bp≠rb:=fun e=>by rw[e,hr] at hb;simp at hb
 have o1:∀b,(if b=ce then 1 else if b=mb then 2 else if b=bp then 3 else if b=rb then 4 else 0)≠(0:Nat)↔b=ce\/b=mb\/b=bp\/b=rb:=fun b=>by
  by_cases j:b=ce
  ·simp[j]
  ·by_cases l:b=mb
   ·simp[l,n1.symm]
   ·by_cases m:b=bp
    ·simp[m,c.symm,n4.symm]
    ·by_cases p:b=rb
     ·simp[p,d.symm,f.symm,g.symm]
     ·simp[j,l,m,p]
 refine⟨⟨fun b=>if b=ce then 1 else if b=mb then 2 else if b=bp then 3 else if b=rb then 4 else 0,mb,bp,rb,fun _=>(Y,0),0,0,Y,0,Y,0⟩,?_,rfl,fun b=>(o1 b).symm⟩
 refine {blk:=hg,bo:=by dsimp only;rw[aJ rfl],g2:=?_,g3:=?_,g4:=?_,lt:=fun b h=>?_}
 ·refine {mp:=?_,mn:=aG _,dz:=?_,fl:=fun i hi=>?_,fg:=fun i hi=>?_,fM:=fun i hi=>?_,al:=aG _}
  ·show eQ w mb 0 (iC [] _)
   rw[K6];exact K5 hm
  ·dsimp only;rw[aI n1.symm,aJ rfl]
  ·exact absurd hi.1 (by simp[n7])
  ·exact absurd hi.1 (by simp[n7])
  ·exact absurd hi.1 (by simp[n7])
 ·refine {sd:=⟨hb,bf _ _ _ _,bf _ _ _ _⟩,so:=?_,ro:=fun k e=>?_,mT:=fun k e=>?_}
  ·dsimp only;rw[aI c.symm,aI n4.symm,aJ rfl]
  ·cases e
  ·cases e
 ·refine {rt:=hr,rl:=by simp[n7],ro:=?_};dsimp only;rw[aI d.symm,aI f.symm,aI g.symm,aJ rfl]
 ·rcases(o1 b).1 h with e|e|e|e
  ·rw[e];exact lt_of_some hg
  ·rw[e];exact lt_of_some hm
  ·rw[e];exact lt_of_some hb
  ·rw[e];exact lt_of_some hr
theorem K8 (n o:Nat)(w:az)(h0:16<=n)(B:n<=256)(N:o<=1024):
 Calls O 67 #[ak n,ak o] w fun e w'=>∃ce rb F,e=E (a8 #[aq ce,bF #[ak 0,ak 0]])/\(cG ce n o rb).J F n7 w'/\(∀b,F b->I (G w)<=b)/\C (I (G w)) w w':=by
 have a1:=@run_makeMap O;have S:=aw w (M5 #[U Q 0,U Q 0] 28)
 have P:=I1 n o (bj w (M5 #[U Q 0,U Q 0] 28)) h0 B N;have W:=aP w (M5 #[U Q 0,U Q 0] 28)
 have an:I (G w)<I (G (bj w (M5 #[U Q 0,U Q 0] 28))):=ac;have ab:=hide S;clear S h0 B N;go_enter func67,ntmps67;go_wp2_with fail;generalize bj w (M5 #[U Q 0,U Q 0] 28)=w0 at*;generalize ao:I (G w)=fb at*;refine P.mono ?_;clear P;rintro e w1 ⟨hp,rfl,t⟩
 have u:=(t.block fb an).trans W;have ap:=hide (ab.o.trans (t.mono aa))
 have ar:=lt_of_some u;clear t W ab;have B1:=(((aw w1 (M5 #[U Q 0,U Q 0] 28)).alloc ac (.map #[] 0)).alloc (by simp;omega) (M5 #[M0 Y 0 0,M0 Y 0 0] 153)).alloc (by simp;omega) (M5 #[U Q 0,U Q 0] 97)
 have m1:(bj (bj (bj (bj w1 (M5 #[U Q 0,U Q 0] 28)) (.map #[] 0)) (M5 #[M0 Y 0 0,M0 Y 0 0] 153)) (M5 #[U Q 0,U Q 0] 97)).heap[I (G w1)+1]?=Z (.map #[] 0):=by rw[aS _ _ _ ac,aS _ _ _ ac];exact gH w1 _ _
 have f:(bj (bj (bj (bj w1 (M5 #[U Q 0,U Q 0] 28)) (.map #[] 0)) (M5 #[M0 Y 0 0,M0 Y 0 0] 153)) (M5 #[U Q 0,U Q 0] 97)).heap[I (G w1)+1+1]?=Z (M5 #[M0 Y 0 0,M0 Y 0 0] 153 (0,0)):=by
  rw[aS _ _ _ ac];have:=gH (bj w1 (M5 #[U Q 0,U Q 0] 28)) (.map #[] 0) (M5 #[M0 Y 0 0,M0 Y 0 0] 153)
  simpa using this
 have ad:(bj (bj (bj (bj w1 (M5 #[U Q 0,U Q 0] 28)) (.map #[] 0)) (M5 #[M0 Y 0 0,M0 Y 0 0] 153)) (M5 #[U Q 0,U Q 0] 97)).heap[I (G w1)+1+1+1]?=Z (M5 #[ak 0,ak 0] 97 (0,0)):=by
  have:=aP ((bj (bj (bj w1 (M5 #[U Q 0,U Q 0] 28)) (.map #[] 0)) (M5 #[M0 Y 0 0,M0 Y 0 0] 153))) (M5 #[U Q 0,U Q 0] 97)
  simpa using this
 have q:I (G (bj (bj (bj (bj w1 (M5 #[U Q 0,U Q 0] 28)) (.map #[] 0)) (M5 #[M0 Y 0 0,M0 Y 0 0] 153)) (M5 #[U Q 0,U Q 0] 97)))=I (G w1)+1+1+1+1:=ac;obtain⟨v0,v1,_,_⟩:=du ad;have ag:=BP _ (I (G w1)+1+1+1) 12 (0,0) ae v0 v1;have l:=(B1.block fb ar).trans u;have ai:=wW B1 m1 f l q;clear B1 m1 f ad v0 v1 u l q;go_wp2_with fail;generalize bj (bj (bj (bj w1 (M5 #[U Q 0,U Q 0] 28)) (.map #[] 0)) (M5 #[M0 Y 0 0,M0 Y 0 0] 153)) (M5 #[U Q 0,U Q 0] 97)=a2 at*;refine ag.mono ?_;clear ag;rintro e c ⟨nb,rfl,aB,al,g⟩
 obtain⟨B1,m1,f,l,q⟩:=ai.o;have i:=(g.block fb aa).trans l;have aF:aA (_/\_/\_/\I (G w1)+1+1<nb/\_/\_):=
  ⟨(g.block _ aa).trans m1,(g.block _ aa).trans f,al,aa,(ap.o.trans (B1.mono aa)).trans (g.mono aa),lt_of_some ((g.block _ aa).trans f)⟩
 have y0:V c (av fb 0)=Z (ak 0):=aD i
 have y1:V c (av fb 1)=Z (ak 0):=aD i
 have z0:bO c (av fb 0)=K:=aE i
 have a3:bO c (av fb 1)=K:=aE i
 have aR:=lt_of_some i;clear i g al aB B1 m1 f l q ai;go_wp2_with fail;obtain⟨d,hW1⟩:∃d,d=ay (ay c ⟨fb,0,Y⟩ (U Q 0)) ⟨fb,1,Y⟩ (U Q 0):=⟨_,rfl⟩
 rw[<-hW1];have v0:V d (av fb 0)=Z (ak 0):=by exact un
 have v1:V d (av fb 1)=Z (ak 0):=by rw[hW1];exact bc _ _ _ ((aY c ⟨fb,0,Y⟩ ⟨fb,1,Y⟩ _ ac).trans y1)
 have s:Fr (fun k=>k=fb) c d:=by rw[hW1];exact((Fr.refl (fun k=>k=fb) c).set fb 0 _ rfl).set fb 1 _ rfl
 have am:I (G d)=I (G c):=by rw[hW1];simp
 clear hW1;obtain⟨k1,aV,x,a4,k5,k6⟩:=aF.o;have j:=aw d (M5 #[U Q n,U Q o,.map (Z (I (G w1)+1)),U Q 0,U Q 0,bJ (Z ⟨I (G w1)+1+1,0,Y⟩),M0 (Z ⟨nb,0,Y⟩) 12 12] 187)
 have hg:=aP d (M5 #[U Q n,U Q o,.map (Z (I (G w1)+1)),U Q 0,U Q 0,bJ (Z ⟨I (G w1)+1+1,0,Y⟩),M0 (Z ⟨nb,0,Y⟩) 12 12] 187)
 rw[am] at hg;have g0:=(j.cell (p:=av fb 0) (by show fb<_;omega)).trans v0;have g1:=(j.cell (p:=av fb 1) (by show fb<_;omega)).trans v1;have J:=K7 hg ((j.block _ aa).trans ((s.block _ aa (fun e=>by have e:=e;omega)).trans k1)) ((j.block _ aa).trans ((s.block _ aa (fun e=>by have e:=e;omega)).trans aV)) ((j.block _ (by rw[am];exact lt_of_some x)).trans ((s.block _ (lt_of_some x) (fun e=>by have e:=e;omega)).trans x))
 have a0:=k5.trans (s.below (wI aR) (fun k e=>tQ (CX e)))
 refine a6 (v:=a8 #[aq (I (G c)),bF #[ak 0,ak 0]]) (by simp only [results,results67];simp[go_sem,g0,g1]) rfl ⟨I (G c),nb,_,rfl,J,fun b m=>?_,by rw[ao];exact a0.trans (j.mono aa)⟩
 rcases m with m|m|m|m<;>omega
structure fW (B:Nat)(w w':az):Prop where
 os:w'.os=w.os
 tape:w'.tape=w.tape
 output:w'.output=w.output
 size:I (G w)<=I (G w')
 low:∀k:Nat,k<I (G w)->k<B->w'.heap[k]?=w.heap[k]?
 df:∀(k:Nat) cs e m,w.heap[k]?=Z (Obj.cells cs e m)->e≠231->e≠107->w'.heap[k]?=w.heap[k]?
section
variable {B:Nat}{w w' w'':az}
theorem fW.refl (B:Nat)(w:az):fW B w w:=⟨rfl,rfl,rfl,aG _,fun _ _ _=>rfl,fun _ _ _ _ _ _ _=>rfl⟩
theorem fW.trans (h:fW B w w')(k:fW B w' w''):fW B w w'':=
 ⟨k.os.trans h.os,k.tape.trans h.tape,k.output.trans h.output,aU h.size k.size,fun i hi hb=>(k.low i (aO hi h.size) hb).trans (h.low i hi hb),fun i b e m hi c d=>(k.df i b e m (by grind [df]) c d).trans (by grind [df])⟩
theorem fW.of (h:C (I (G w)) w w'):fW B w w':=⟨h.os,h.tape,h.output,h.size,fun k hk _=>h.block k hk,fun k _ _ _ hi _ _=>h.block k (by grind)⟩
theorem fW.below (h:fW B w w')(hB:B<=I (G w)):C B w w':=⟨h.os,h.tape,h.output,h.size,fun k hk=>h.low k aa hk⟩
theorem fW.set {pk o:Nat}{b:Array bD}{m:Nat×Nat}{e:TypeId}{v:bD}(hp:w.heap[pk]?=Z (M5 b e m))(he:e=231\/e=107)(hB:B<=pk):fW B w (ay w ⟨pk,o,Y⟩ v):=
 ⟨rfl,rfl,rfl,by simp_all,fun k _ hk=>(by grind [aX]),fun k c d f hk g i=>(by grind [aX])⟩
theorem fW.grown {row:Option Nat}(g:w.grownBy w' row)(hr:∀k,row=Z k->B<=k/\∀b e m,w.heap[k]?=Z (M5 b e m)->e=231\/e=107):fW B w w':=
 ⟨g.os,g.tape,g.output,g.size,fun k hk hb=>(by grind [World.grownBy.block]),fun k b e m hk c d=>(by grind [World.grownBy.block])⟩
theorem fS.m0 {ad:Option bG}{l:List _}(h:fS w ad l)(k:fW B w w'):fS w' ad l:=by
 have hk:0<MZ l->∀b,ad=Z b->w'.heap[b.block]?=w.heap[b.block]?:=fun hp b e=>by
  obtain⟨c,d,f,g,hb⟩:=h.2 hp
  grind [fW.df]
 refine⟨h.1.keep k.size hk,fun hp=>?_⟩
 obtain⟨c,d,f,g,hb⟩:=h.2 hp
 grind
end
def f8 (w0 w:az)(m:List d6)(w':az)(b:List d6):Prop:=fW (I (G w0)) w w'/\∀k,fT b k->fT m k\/I (G w)<=k
theorem f8.refl (w0 w:az)(m:List d6):f8 w0 w m w m:=⟨fW.refl _ _,fun _ h=>aM h⟩
theorem f8.trans {w0 w w' b:az}{m d e:List d6}(h:f8 w0 w m w' d)(k:f8 w0 w' d b e):f8 w0 w m b e:=
 ⟨h.1.trans k.1,fun i hi=>(k.2 i hi).elim (h.2 i) (fun c=>aK (aU h.1.size c))⟩
theorem f8.of {w0 w w':az}{m:List d6}(h:C (I (G w)) w w'):f8 w0 w m w' m:=⟨fW.of h,fun _ h=>aM h⟩
theorem f8.new {w0 w w' b:az}{m c:List d6}{X:Nat->Prop}(h:f8 w0 w m w' c)(f:Fr X w' b)(j:∀k,X k->I (G w)<=k):f8 w0 w m b c:=
 ⟨⟨f.os.trans h.1.os,f.tape.trans h.1.tape,f.output.trans h.1.output,aU h.1.size f.size,fun k hk hb=>(f.block k (aO hk h.1.size) (by grind)).trans (h.1.low k hk hb),
  fun k d e mm hk g i=>(f.block k (aO (by grind) h.1.size) (by grind)).trans (h.1.df k d e mm hk g i)⟩,h.2⟩
def k9 (ms:List Int)(x:Int):Option Value:=if bR ms x=Nc then Z (ak (ms.idxOf x:Int)) else Y
theorem K9 {ms:List Int}{a:Int}(hn:a∉ms):j8 (k9 ms) a (ak (MZ ms))=k9 (ms++[a]):=by
 funext b
 unfold j8 k9
 grind
theorem BS {ms:List Int}{a:Int}(h:a∉ms):k9 ms a=Y:=by grind [k9]
theorem K_ {ms:List Int}{a:Int}(h:a∈ms):k9 ms a=Z (ak (ms.idxOf a:Int)):=by grind [k9]
structure fO (w0 w:az)(kb cu ce:Nat)(s:cX)(vn:bD)(m:List d6):Prop where
 blk:w.heap[kb]?=Z (M5 #[aq ce,.map (Z cu),vn] 231 (0,0))
 lo:I (G w0)<=kb/\I (G w0)<=cu
 mp:eQ w cu (MZ s.1) (k9 s.1)
 row:aC w (I (G w0)) 107 2 vn (MZ m) (nv m)
 nd:iG m=s.2
 fl:∀x∈m,fS w x.2.1 x.2.2.2
 eX:C (I (G w0)) w0 w
section
variable {w0 w w':az}{kb cu ce:Nat}{s:cX}{vn:bD}{m:List d6}
theorem fO.below (h:fO w0 w kb cu ce s vn m)(hb:C (I (G w)) w w'):fO w0 w' kb cu ce s vn m:=
 ⟨(by grind [blk,Below.block]),h.lo,h.mp.same (hb.block cu h.mp.lt),cM h.row (fun k hk=>hb.block k (cv h.row k hk).2),h.nd,fun x b=>(h.fl x b).m0 (fW.of (B:=0) hb),h.eX.trans (hb.mono h.eX.size)⟩
theorem fO.cells (h:fO w0 w kb cu ce s vn m):V w (av kb 0)=Z (aq ce)/\V w (av kb 1)=Z (.map (Z cu))/\V w (av kb 2)=Z vn/\kb<I (G w):=
 ⟨by simp[World.cell?,h.blk],by simp[World.cell?,h.blk],by simp[World.cell?,h.blk],lt_of_some h.blk⟩
theorem fO.len (h:fO w0 w kb cu ce s vn m):MZ m=MZ s.2:=by rw[<-h.nd];simp[iG]
theorem fO.fb (h:fO w0 w kb cu ce s vn m)(k:Nat)(hk:fT m k):k<I (G w):=by
 obtain⟨x,c,hl,o,e⟩:=hk;obtain⟨b,o',d,f,hb⟩:=(h.fl x c).2 hl
 grind
theorem fO.but {X:Nat->Prop}(h:fO w0 w kb cu ce s vn m)(f:Fr X w w')(g:∀k,k<I (G w)->X k->(∃d,w.heap[k]?=Z (M5 d 97 (0,0)))/\¬fT m k/\I (G w0)<=k):fO w0 w' kb cu ce s vn m:=by
 obtain⟨p,q,t⟩:=h.mp.blk;have n1:¬X kb:=fun c=>by
  obtain⟨⟨d,hc⟩,_⟩:=g kb (lt_of_some h.blk) c;rw[h.blk] at hc
  grind
 have u:¬X cu:=fun c=>by grind
 refine⟨(by grind [Fr.block,blk]),h.lo,h.mp.same (by grind [Fr.block]),cM h.row (fun k hk=>f.block k (cv h.row k hk).2 (fun c=>?_)),h.nd,fun x j=>?_,h.eX.trans ⟨f.os,f.tape,f.output,f.size,fun k hk=>f.block k (aO hk h.eX.size) (fun c=>by have:=(g k (aO hk h.eX.size) c).2.2;omega)⟩⟩
 ·obtain⟨⟨d,hc⟩,_⟩:=g k (cv h.row k hk).2 c;obtain⟨v,B⟩:=fF h.row k hk
  grind
 ·have hl:=h.fl x j;have hk:0<MZ x.2.2.2->∀b,x.2.1=Z b->w'.heap[b.block]?=w.heap[b.block]?:=fun hp b e=>by obtain⟨o,l,d,i,hb⟩:=hl.2 hp;have n:=e;rw[i] at n;cases n;exact f.block _ (by grind) (fun c=>(g _ (by grind) c).2.1 ⟨x,j,hp,l,i⟩)
  refine⟨hl.1.keep f.size hk,fun hp=>?_⟩
  obtain⟨o,l,d,i,hb⟩:=hl.2 hp
  grind
end
def hX (T:List cJ)(wt:List cf)(a:Int):List (Int×Int):=if(X T (Na a) t0).1=5 then(eK wt a).map (fun x=>((3:Int),x)) else(X T (Na a) t0).2.1
theorem La {T:List cJ}{wt:List cf}{a:Int}(b:(X T (Na a) t0).1=5->(X T (Na a) t0).2.1=[]):(hX T wt a).map ga=gb T wt a:=by
 unfold hX gb;by_cases c:(X T (Na a) t0).1=5
 ·rw[aJ c,aJ c,b c];simp[eK,ga]
 ·rw[aI c,aI c,List.append_nil]
section
variable {ce:Nat}{cj b_:Int}{l:hP}{s:cn}{w:az}
theorem Lb (h:dS ce cj b_ l s w)(ag:Nat)(hk:V w (av ag 0)=Z (aq ce))(a:Int)(ha:0<=a/\cA s.T (Na a))(bt:MZ s.T<=10000)(hw:MZ s.wt<=10000):
 J O 254 #[aq ag,ak a] w fun e w'=>∃ad cap,e=E (M0 ad (MZ (hX s.T s.wt a)) cap)/\fS w' ad (hX s.T s.wt a)/\C (I (G w)) w w':=by
 obtain⟨aF,hi,aR,aV,a0⟩:=bV sr;have al:a<10000:=by have:=ha.2.1;omega
 have L:=h.g2.mp.look (t:=184) (e:=220) underlying184 (mU w) (x:=a) ha.1 aa;rw[jG ha] at L;dsimp only [Option.getD_some,gA,eV] at L;obtain⟨_,_,c2,_,_,c5,_,_,bx⟩:=h.cells;have lk:=aT w _ hk;have ai:=fS.of (h.g2.fl (Na a) ha.2)
 have b1:=aw w (M5 #[U Q (X s.T (Na a) t0).1,M0 (l.fm (Na a)).1 (MZ (X s.T (Na a) t0).2.1) (l.fm (Na a)).2] 220)
 have am:=ai.m0 (fW.of (B:=0) b1)
 have g1:=h.below b1;have F:=t5 _ l.bp _ l.a1 l.k1 s.wt a g1.g3.sd.blk (it g1.g3.sd.q0) aa;have a1:=aU (pJ s.wt a) hw;by_cases g:(X s.T (Na a) t0).1=5
 ·have v:hX s.T s.wt a=(eK s.wt a).map (fun x=>((3:Int),x)):=by unfold hX;rw[aJ g]
  rw[v];rw[g] at L b1 F;have i:=hide b1;generalize (l.fm (Na a)).1=ad at*;generalize (l.fm (Na a)).2=cp at*;generalize MZ (X s.T (Na a) t0).2.1=n at*;generalize eK s.wt a=A at*;rw[aZ];go_enter func254,ntmps254;go_wp2_with fail;refine F.mono ?_;rintro e w1 ⟨b0,gN,rfl,a2,a3⟩
  have an:=hide (i.o.trans (a3.mono i.o.size))
  have a4:=hide (hZ a2)
  have s1:=an.o.size;go_wp2_with fail
  go_loopw [6,33] (fun tv iv wr=>∃(j:Nat)(c:Option bG)(d:Nat),j<=MZ A/\iv=ak j/\tv=M0 c j d/\aC wr (I (G w1)) 97 2 (M0 c j d) j (ev ((A.take j).map (fun x=>((3:Int),x))))/\C (I (G w1)) w1 wr) (fun _ iv _=>MZ A-Na (bN iv))
  exact⟨0,Y,0,a5 _,rfl,rfl,bf _ _ _ _,aH _ _⟩
  ·
    obtain⟨j,c,d,b,rfl,rfl,m,hb⟩:=hrel;by_cases ao:j<MZ A
    ·obtain⟨ba,o,bb,lb,bd⟩:=a4.o aa;have hc:=(hb.cell (p:=av ba (o+j)) lb).trans (bd j ao)
     have ap:aA (ev ((A.take (j+1)).map (fun x=>((3:Int),x)))=ev ((A.take j).map (fun x=>((3:Int),x)))++[ak 3,ak (X A j 0)]):=by show _=_;rw[g9 A j ao 0,iB,jp];rfl
     subst bb;have be:=hb.size;generalize X A j 0=y at*;generalize ev ((A.take j).map (fun x=>((3:Int),x)))=L at*;go_wp2_with fail;refine(o4 y wr).mono ?_;rintro e bg ⟨rfl,N⟩
     have S:=cM m (fun k e=>N.block k (cv m k e).2)
     have W:=hb.trans (N.mono be)
     have bi:=W.size;clear m hb N hc;go_wp2_with (at_builtin;refine bX _ rfl _ _ 57 rfl (I (G w1)) 97 aF (bF #[ak 0,ak 0]) 2 16 underlying57 hi aR aV a0 rfl ae (M0 c j d) j L rfl (fC S _) ⟨I (G bg),0,Y⟩ 1 1 [ak 3,ak y] rfl rfl ?_ ?_ ?_ ?_ ?_ ?_;(intro j u b;match j,b with|0,b=>(simp at b;subst b;simp[Addr.add])|1,b=>(simp at b;subst b;simp[Addr.add]));(intro u q;simp at q;rcases q with q|q<;>(subst q;rfl));(unfold bW;omega);omega;(simp;omega);intro b2 bl ab ar _ bn;obtain⟨b4,aB,bo⟩:=eW ab (j3 _);subst bo)
     have bp:aC bl (I (G w1)) 97 2 (M0 (au b4) (j+1) aB) (j+1) (ev ((A.take (j+1)).map (fun x=>((3:Int),x)))):=by rw[ap.o];exact ab
     have br:=(W.alloc bi _).grown ar (by simp;omega) (fun k e=>(cv S k e.symm).1)
     clear ab ar bn S W ap;go_wp2_with fail;go_roundw;exact⟨j+1,au b4,aB,aa,aj,rfl,bp,br⟩
     simp[bN];omega
    ·obtain rfl:j=MZ A:=aa;rw[bk] at m;go_wp2_with fail;go_ret;refine⟨c,d,rfl,?_,an.o.trans (hb.mono s1)⟩
     have bs:aC wr (I (G w1)) 97 2 (M0 c (MZ (A.map (fun x=>((3:Int),x)))) d) (MZ (A.map (fun x=>((3:Int),x)))) (ev (A.map (fun x=>((3:Int),x)))):=by rw[aZ];exact m
     exact fS.of bs
 ·have v:hX s.T s.wt a=(X s.T (Na a) t0).2.1:=by unfold hX;rw[aI g]
  rw[v];have k5:((X s.T (Na a) t0).1!=5)=Nc:=by simpa using g
  have i:=c8 am b1;clear v g ai am g1 b1 h ha F a1;generalize (X s.T (Na a) t0).2.1=f at*;generalize (l.fm (Na a)).1=ad at*;generalize (l.fm (Na a)).2=cp at*;generalize (X s.T (Na a) t0).1=kd at*;go_enter func254,ntmps254;go_wp2_with fail;go_ret;exact⟨ad,⟨cp,rfl⟩,i.o.1,i.o.2⟩
end
def ql (w0:az)(b cu ce:Nat)(T:List cJ)(M:cX->Int->cX)(n:Nat):Prop:=
 ∀(w:az)(s:cX)(d:bD)(m:List d6)(a:Int),fO w0 w b cu ce s d m->fB (tI (MZ T)) s->0<=a/\cA T (Na a)->a∉s.1->MZ T<=MZ s.1+n->
  J O 251 #[aq b,ak a] w fun e w'=>∃f c,e=E (ak (MZ s.1))/\fO w0 w' b cu ce (M s a) f c/\f8 w0 w m w' c
def m2 (s:cX)(a:Int):Int:=if bR s.1 a=Nc then(s.1.idxOf a:Int) else MZ s.1
def m3 (M:cX->Int->cX)(s:cX)(a:Int):cX:=if bR s.1 a=Nc then s else M s a
theorem Lc {T:List cJ}{M:cX->Int->cX}{s:cX}{v:Int×Int}(h:fz T v)(b:v.1=3):eL M (tI (MZ T)) s (ga v)=((3,m2 s v.2),m3 M s v.2):=by
 unfold m2 m3;cases hs:bR s.1 v.2
 ·rw[DM h b hs,aI ac,aI ac]
 ·rw[DL h b hs,aJ rfl,aJ rfl]
theorem Ld (w:az):(zeroValue 2).run O w=.ok (ak 0) w:=ah
section
variable {w0 w:az}{kb cu ce n:Nat}{T:List cJ}{kd:Int->Int}{sh:Int->List Int}{M:cX->Int->cX}{s:cX}{vn:bD}{m:List d6}
theorem Le (hM:ql w0 kb cu ce T M n)(h:fO w0 w kb cu ce s vn m)(ho:fB (tI (MZ T)) s)(hn:MZ T<=MZ s.1+n)(a:Int)(ha:0<=a/\cA T (Na a))(o:MZ T<=10000):
 J O 240 #[aq kb,ak a] w fun e w'=>∃d c,e=E (ak (m2 s a))/\fO w0 w' kb cu ce (m3 M s a) d c/\f8 w0 w m w' c:=by
 have H:=hide h;have k:=hide hM;obtain⟨c0,c1,c2,lk⟩:=h.cells;have al:a<10000:=by have:=ha.2.1;omega
 have L:=h.mp.look_ok (t:=229) (e:=2) underlying229 (Ld w) (x:=a) ha.1 aa;by_cases b:a∈s.1
 ·rw[K_ b] at L;have f:m2 s a=(s.1.idxOf a:Int):=by unfold m2;rw[aJ (by simpa using b)]
  have g:m3 M s a=s:=by unfold m3;rw[aJ (by simpa using b)]
  rw[f,g];generalize s.1.idxOf a=j at L⊢;go_enter func240,ntmps240;go_wp2;go_ret;exact⟨vn,m,rfl,H.o,f8.refl _ _ _⟩
 ·rw[BS b] at L;have f:m2 s a=MZ s.1:=by unfold m2;rw[aI (by simpa using b)]
  have g:m3 M s a=M s a:=by unfold m3;rw[aI (by simpa using b)]
  rw[f,g];have P:=k.o w s vn m a H.o ho ha b hn;generalize M s a=p at P⊢;generalize MZ s.1=j at P⊢;go_enter func240,ntmps240;go_wp2_with fail;refine P.mono ?_;rintro e w1 ⟨d,c,rfl,l,k1⟩
  have i:=c8 l k1;go_wp2;go_ret;exact⟨d,c,rfl,i.o.1,i.o.2⟩
theorem BU (hM:ql w0 kb cu ce T M n)(b2:lO (tI (MZ T)) kd sh n M)(h:fO w0 w kb cu ce s vn m)(ho:fB (tI (MZ T)) s)(hn:MZ T<=MZ s.1+n)(b3:MZ T<=10000)(l:List (Int×Int))(hq:∀v∈l,fz T v)(ad:Option bG)(cap:Nat)(hl:fS w ad l)(hm:MZ l<=100000):
 J O 211 #[aq kb,M0 ad (MZ l) cap] w fun e w'=>∃ci a0 a2 c2,e=E (M0 a2 (MZ l) c2)/\aC w' w.heap.size 97 2 (M0 a2 (MZ l) c2) (MZ l) (ev (dG M (tI (MZ T)) s (l.map ga)).1)/\fO w0 w' kb cu ce (dG M (tI (MZ T)) s (l.map ga)).2 ci a0/\f8 w0 w m w' a0/\(∀k,fT a0 k->Z k≠Nh (Value.slice a2 (MZ l) c2)):=by
 obtain⟨a1,hi,a3,a4,ba⟩:=bV sr;have cj:=hide hM;have ck:=hide b2;have cl:=hide hl;have ap:=hide h;have cm:=c8 ho hn;have cn:=hide hq;have co:=hide b3;clear hM b2 hl h ho hq hn b3;go_enter func211,ntmps211;go_wp2_with (at_make;refine wpList_make_own _ rfl _ _ 57 rfl w.heap.size 97 a1 (bF #[ak 0,ak 0]) 2 underlying57 hi a3 a4 Q Q _ (MZ l) rfl rfl rfl (by rw[ba];omega) (by unfold bW;omega) b8 ?_;intro w1 b5 b6)
 have bb:=(ax w).grown b6 b8 (fun k e=>by cases e)
 go_loopw [5,13] (fun tv iv wr=>∃(j:Nat)(i:List (Int×Int))(s1:cX)(ar:bD)(m1:List d6)(a2:Option bG)(c2:Nat),j<=MZ l/\iv=ak j/\aA (dG M (tI (MZ T)) s ((l.take j).map ga)=(i,s1))/\tv=M0 a2 j c2/\aC wr w.heap.size 97 2 (M0 a2 j c2) j (ev i)/\aA (fO w0 wr kb cu ce s1 ar m1)/\aA (f8 w0 w m wr m1)/\aA (∀k,fT m1 k->Z k≠Nh (Value.slice a2 j c2))/\aA (fB (tI (MZ T)) s1/\MZ T<=MZ s1.1+n)) (fun _ iv _=>MZ l-Na (bN iv))
 ·exact⟨0,[],s,vn,m,_,_,a5 _,rfl,rfl,rfl,b5,ap.o.below bb,f8.of bb,fun k hk e=>by have:=ap.o.fb k hk;simp[Value.ownBlock] at e;omega,cm.o⟩
 ·
   obtain⟨j,i,s1,ar,m1,a2,c2,b,rfl,bd,rfl,q,B,F,aB,N⟩:=hrel;clear b5 b6 bb;by_cases be:j<MZ l
   ·obtain⟨cE,cF,cp,cG,hc⟩:=(cl.o.m0 F.o.1).1 aa;obtain⟨cq,cr⟩:=hc j be;subst cp;clear hc;have aF:=cn.o _ (getD_in (x:=(0,0)) be)
    have o:=sL M (tI (MZ T)) s ((l.take j).map ga) (ga (X l j (0,0)))
    rw[bd.o] at o;have ca:(l.take (j+1)).map ga=(l.take j).map ga++[ga (X l j (0,0))]:=by rw[g9 l j be (0,0),iB];rfl
    rw[<-ca] at o;have G:=po ck.o N.o.1 (by rw[lS];exact N.o.2) (ga (X l j (0,0)))
    have S:aA (_/\MZ T<=MZ (eL M (tI (MZ T)) s1 (ga (X l j (0,0)))).2.1+n):=⟨G.ok,by have:=G.le;have:=N.o.2;omega⟩
    have o:=hide o;clear G ca;generalize X l j (0,0)=v at*;obtain⟨v0,v1⟩:=v;dsimp only at cq cr;have cH:IntKind.i64.wrap ((j:Int)+1)=(j:Int)+1:=by rw[bA];omega
    have d:=aw wr (M5 #[U Q v0,U Q v1] 97)
    have bg:=aP wr (M5 #[U Q v0,U Q v1] 97)
    have cI:=F.o.1.size;by_cases cb:v0=3
    ·subst cb;have aR:=Lc (M:=M) (s:=s1) aF rfl;rw[aR] at o S;dsimp only at o S;have P:=Le cj.o (B.o.below d) N.o.1 N.o.2 v1 (aF.2 rfl) co.o;clear aR aF;generalize m2 s1 v1=z at*;generalize m3 M s1 v1=s2 at*;go_wp2_with fail;refine P.mono ?_;rintro e f ⟨cs,W,rfl,ct,ab⟩
     have cc:=(ab.1.df _ _ _ _ bg ae ae).trans bg;obtain⟨cw,y1,cx,cy⟩:=du cc;have cd:=cM q (fun k hk=>by obtain⟨aV,ag⟩:=fF q k hk;have cf:=d.block k (cv q k hk).2;exact(ab.1.df k _ _ _ (cf.trans ag) ae ae).trans cf)
     have cg:aA (∀k,fT W k->_):=fun k hk e=>(ab.2 k hk).elim (fun c=>aB.o k c e) (fun c=>by have:=(cv q k e).2;simp at c;omega)
     have ch:f8 w0 wr m1 f W:=(f8.of d).trans ab;have cz:¬fT W wr.heap.size:=fun c=>(ab.2 _ c).elim (fun c=>by have:=B.o.fb _ c;omega) (fun c=>by simp at c;omega)
     have bi:Fr (fun k=>k=wr.heap.size) f (ay f ⟨wr.heap.size,1,Y⟩ (U Q z)):=(Fr.refl (fun k=>k=wr.heap.size) f).set wr.heap.size 1 _ rfl;have ai:=hide (ct.but bi (fun k _ e=>by have e:=e;rw[e];exact⟨⟨_,cc⟩,cz,by have:=B.o.eX.size;omega⟩))
     have bl:=hide (F.o.trans (ch.new bi (fun k e=>by have e:k=wr.heap.size:=e;omega)))
     have al:aC (ay f ⟨wr.heap.size,1,Y⟩ (U Q z)) w.heap.size 97 2 (M0 a2 j c2) j (ev i):=cM cd (fun k hk=>bi.block k (cv cd k hk).2 (fun c=>by have c:k=wr.heap.size:=c;have:=(cv q k hk).2;omega))
     have q0:V (ay f ⟨wr.heap.size,1,Y⟩ (U Q z)) (av wr.heap.size 0)=Z (ak 3):=(aY f ⟨wr.heap.size,1,Y⟩ ⟨wr.heap.size,0,Y⟩ _ ac).trans cw;have q1:V (ay f ⟨wr.heap.size,1,Y⟩ (U Q z)) (av wr.heap.size 1)=Z (ak z):=bc _ _ _ y1;have cA:(ay f ⟨wr.heap.size,1,Y⟩ (U Q z)).heap.size=f.heap.size:=by simp[World.setCell]
     have cB:=cx 1;have cC:=ch.1.size
     go_upto_region 7 with fail
     generalize ay f ⟨wr.heap.size,1,Y⟩ (U Q z)=t at*;have p:=hide al;have cJ:w.heap.size<=t.heap.size:=aa;clear y1 cB cy cA cC;go_wp2_with (at_builtin;refine bX _ rfl _ _ 57 rfl w.heap.size 97 a1 (bF #[U Q 0,U Q 0]) 2 16 underlying57 hi a3 a4 ba rfl ae (M0 a2 j c2) j (ev i) rfl (fC al _) ⟨t.heap.size,0,Y⟩ 1 1 [U Q 3,U Q z] rfl rfl ?_ ?_ ?_ ?_ ?_ ?_;(intro j u b;match j,b with|0,b=>(simp at b;subst b;simp[Addr.add])|1,b=>(simp at b;subst b;simp[Addr.add]));(intro u g;simp at g;rcases g with g|g<;>(subst g;rfl));(unfold bW;omega);omega;(simp;omega);intro cD bn am bo _ bp;obtain⟨b4,an,br⟩:=eW am (j3 _);subst br)
     have bs:aC bn w.heap.size 97 2 (M0 (au b4) (j+1) an) (j+1) (ev (i++[(3,z)])):=by rw[jp];simpa[ev] using am
     have d:=aw t (M5 #[U Q 3,U Q z] 97)
     have ao:=(Fr.refl _ _).grown bo (fun k e=>aM e.symm)
     have bt:=hide ((ai.o.below d).but ao (fun k _ e=>by obtain⟨aV,ag⟩:=fF p.o k e;exact⟨⟨aV,(d.block k (cv p.o k e).2).trans ag⟩,fun c=>cg.o k c e,aU ap.o.eX.size (cv p.o k e).1⟩))
     have bx:=hide ((bl.o.trans (f8.of d)).new ao (fun k e=>(cv p.o k e).1))
     have b0:=bp.imp id (fun e=>by simpa[Value.ownBlock] using e)
     have b1:aA (∀k,fT W k->Z k≠Z b4):=fun k hk e=>b0.elim (fun c=>cg.o k hk (e.trans c)) (fun c=>by have:=ai.o.fb k hk;simp at e;omega)
     go_wp2_with fail;go_roundw;exact⟨j+1,i++[(3,z)],s2,cs,W,au b4,an,aa,aj,o,rfl,bs,bt,bx,b1,S⟩
     simp[bN];omega
    ·have aR:=DK (M:=M) (s:=s1) aF cb;rw[aR] at o S;have ai:=hide (B.o.below d)
     have bl:=hide (F.o.trans (f8.of d))
     have al:=cM q (fun k hk=>d.block k (cv q k hk).2)
     obtain⟨q0,q1,_,_⟩:=du bg
     go_upto_region 7 with fail
     generalize bj wr (M5 #[U Q v0,U Q v1] 97)=t at*;have p:=hide al;go_wp2_with (at_builtin;refine bX _ rfl _ _ 57 rfl w.heap.size 97 a1 (bF #[U Q 0,U Q 0]) 2 16 underlying57 hi a3 a4 ba rfl ae (M0 a2 j c2) j (ev i) rfl (fC al _) ⟨t.heap.size,0,Y⟩ 1 1 [U Q v0,U Q v1] rfl rfl ?_ ?_ ?_ ?_ ?_ ?_;(intro j u b;match j,b with|0,b=>(simp at b;subst b;simp[Addr.add])|1,b=>(simp at b;subst b;simp[Addr.add]));(intro u g;simp at g;rcases g with g|g<;>(subst g;rfl));(unfold bW;omega);omega;(simp;omega);intro cD bn am bo _ bp;obtain⟨b4,an,br⟩:=eW am (j3 _);subst br)
     have bs:aC bn w.heap.size 97 2 (M0 (au b4) (j+1) an) (j+1) (ev (i++[(v0,v1)])):=by rw[jp];simpa[ev] using am
     have d:=aw t (M5 #[U Q v0,U Q v1] 97)
     have ao:=(Fr.refl _ _).grown bo (fun k e=>aM e.symm)
     have bt:=hide ((ai.o.below d).but ao (fun k _ e=>by obtain⟨aV,ag⟩:=fF p.o k e;exact⟨⟨aV,(d.block k (cv p.o k e).2).trans ag⟩,fun c=>aB.o k c e,aU ap.o.eX.size (cv p.o k e).1⟩))
     have bx:=hide ((bl.o.trans (f8.of d)).new ao (fun k e=>(cv p.o k e).1))
     have b0:=bp.imp id (fun e=>by simpa[Value.ownBlock] using e)
     have b1:aA (∀k,fT m1 k->Z k≠Z b4):=fun k hk e=>b0.elim (fun c=>aB.o k hk (e.trans c)) (fun c=>by have:=ai.o.fb k hk;simp at e;omega)
     go_wp2_with fail;go_roundw;exact⟨j+1,i++[(v0,v1)],s1,ar,m1,au b4,an,aa,aj,o,rfl,bs,bt,bx,b1,S⟩
     simp[bN];omega
   ·obtain rfl:j=MZ l:=aa;rw[bk] at bd;go_wp2_with fail;go_ret;rw[bd.o];exact⟨ar,m1,a2,c2,rfl,q,B.o,F.o,aB.o⟩
end
theorem Lf:(prog.info? 107).map (fun i=>(i.zero,i.size,i.bytes))=Z (Z (bF #[ak 0,M0 Y 0 0]),2,32):=ah
section
variable {w0 w w':az}{kb cu ce:Nat}{s:cX}{vn:bD}{m:List d6}
theorem fO.turned (h:fO w0 w kb cu ce s vn m)(f:Fr (fun k=>k=cu) w w'):fW (I (G w0)) w w'/\w'.heap[kb]?=Z (M5 #[aq ce,.map (Z cu),vn] 231 (0,0))/\aC w' (I (G w0)) 107 2 vn (MZ m) (nv m)/\(∀x∈m,fS w' x.2.1 x.2.2.2)/\C (I (G w0)) w0 w':=by
 obtain⟨g,i,hb⟩:=h.mp.blk;have hk:fW (I (G w0)) w w':=⟨f.os,f.tape,f.output,f.size,fun k hk hl=>f.block k hk (fun e=>by have e:=e;have:=h.lo.2;omega),fun k j e mm hk _ _=>f.block k (lt_of_some hk) (fun c=>by have c:=c;rw[c,hb] at hk;simp at hk)⟩
 refine⟨hk,(f.block kb (lt_of_some h.blk) (fun c=>?_)).trans h.blk,cM h.row (fun k e=>f.block k (cv h.row k e).2 (fun c=>?_)),fun x d=>(h.fl x d).m0 hk,h.eX.trans (hk.below h.eX.size)⟩
 ·have c:=c;have:=h.blk;rw[c,hb] at this
  simp at this
 ·obtain⟨l,b⟩:=fF h.row k e;rw[c,hb] at b;simp at b
end
theorem fO.grown {w0 w p f:az}{d cu ce:Nat}{ms:List Int}{q:List _}{l i:bD}{m:List d6}{kd:Int}
 (hk:w.heap[d]?=Z (M5 #[aq ce,.map (Z cu),l] 231 (0,0)))(lo:I (G w0)<=d/\I (G w0)<=cu)(hm:eQ w cu (MZ ms) (k9 ms))(hr:aC w (I (G w0)) 107 2 l (MZ m) (nv m))(s:iG m=q)(t:∀x∈m,fS w x.2.1 x.2.2.2)(hb:C (I (G w0)) w0 w)
 (g:C (I (G w)) w p)(h4:aC f (I (G w0)) 107 2 i (MZ m+1) (nv m++[ak kd,M0 Y 0 0]))(g4:p.grownBy f l.ownBlock):
 fO w0 (ay f ⟨d,2,Y⟩ i) d cu ce (ms,q++[(kd,[])]) i (m++[(kd,Y,0,[])])/\f8 w0 w m (ay f ⟨d,2,Y⟩ i) (m++[(kd,Y,0,[])])/\f.heap[d]?=Z (M5 #[aq ce,.map (Z cu),l] 231 (0,0)):=by
 obtain⟨F,N,j⟩:=hm.blk;have u:=(fW.of g).trans (fW.grown g4 (fun k e=>⟨(cv hr k e.symm).1,fun S ty mm hc=>by obtain⟨cur,ix⟩:=fF hr k e.symm;have:=(g.block k (lt_of_some ix)).trans ix;rw[this] at hc;simp at hc;exact aK hc.2.1.symm⟩))
 have hk4:=(g4.block d (aO (lt_of_some hk) g.size) (fun e=>by obtain⟨cur,ix⟩:=fF hr d e;rw[hk] at ix;simp at ix)).trans ((g.block d (lt_of_some hk)).trans hk)
 have n:fW (I (G w0)) w (ay f ⟨d,2,Y⟩ i):=u.trans (fW.set hk4 (aM rfl) lo.1)
 have v:cu≠d:=fun e=>by rw[e,hk] at j;simp at j
 have B:(nv (m++[(kd,Y,0,[])]:List d6))=nv m++[ak kd,M0 Y 0 0]:=by rw[xp];rfl
 refine⟨⟨?_,lo,?_,?_,?_,fun x b=>?_,hb.trans (n.below hb.size)⟩,⟨n,fun k hk=>?_⟩,hk4⟩
 ·simp only [World.setCell,bL,if_true,hk4,bS];rfl
 ·refine hm.same ((aX _ _ _ _ v).trans ((g4.block cu (aO (lt_of_some j) g.size) (fun e=>?_)).trans (g.block cu (lt_of_some j))))
  obtain⟨cur,ix⟩:=fF hr cu e;rw[j] at ix;simp at ix
 ·rw[B,a7];exact zl
 ·simp[iG] at s⊢;exact s
 ·rcases bE.1 b with b|b
  ·exact(t x b).m0 n
  ·simp at b;subst b;exact fS.nil
 ·obtain⟨x,b,hl,o,e⟩:=hk;rcases bE.1 b with b|b
  ·exact aM ⟨x,b,hl,o,e⟩
  ·simp at b;subst b;simp at hl
theorem fO.filled {w0 w:az}{j cu ce g cap len:Nat}{s:cX}{m:List d6}(h:fO w0 w j cu ce s (M0 (au g) len cap) m){i:Nat}{k0:Int}{v0:List _}(hi:s.2[i]?=Z (k0,v0)){base c2:Nat}{a2:Option bG}{b:List _}
 (hr:aC w base 97 2 (M0 a2 (MZ b) c2) (MZ b) (ev b)):
 fO w0 (ay w ⟨g,i*2+1,Y⟩ (M0 a2 (MZ b) c2)) j cu ce (s.1,s.2.set i (k0,b)) (M0 (au g) len cap) (m.set i (k0,a2,c2,b))/\fW (I (G w0)) w (ay w ⟨g,i*2+1,Y⟩ (M0 a2 (MZ b) c2))/\(∀k,fT (m.set i (k0,a2,c2,b)) k->fT m k\/base<=k):=by
 obtain⟨q,f⟩:=fF h.row g rfl;have d:fW (I (G w0)) w (ay w ⟨g,i*2+1,Y⟩ (M0 a2 (MZ b) c2)):=fW.set f (aK rfl) (cv h.row g rfl).1;obtain⟨x,hx,l⟩:∃x:d6,m[i]?=Z x/\(x.1,x.2.2.2)=(k0,v0):=by exact zm
 have n:x.1=k0:=congrArg Prod.fst l;have p:len=MZ m:=by
  rcases h.row.2 with⟨hv,_⟩|⟨t,u,v,hv,_⟩
  ·simp at hv
  ·simp at hv;exact hv.2.1
 refine⟨⟨(aX _ _ _ _ (fun c=>?_)).trans h.blk,h.lo,h.mp.same (aX _ _ _ _ (fun c=>?_)),?_,?_,fun y hy=>?_,h.eX.trans (d.below h.eX.size)⟩,d,fun k hk=>?_⟩
 ·have c:=c;have:=h.blk;rw[c,f] at this
  simp at this
 ·obtain⟨B,F,hb⟩:=h.mp.blk;rw[c,f] at hb;simp at hb
 ·rw[bh,<-n,ts m i x a2 c2 b hx];have:=h.row;rw[<-p] at this⊢
  exact nn this _ _
 ·rw[iG,List.map_set];show((iG m).set i (k0,b))=_;rw[h.nd]
 ·rcases List.mem_or_eq_of_mem_set hy with hy|hy
  ·exact(h.fl y hy).m0 d
  ·subst hy;exact(fS.of hr).m0 d
 ·obtain⟨y,hy,hl,o,e⟩:=hk;exact zk
theorem Lg {T:List cJ}{x:Int}(h:0<=x/\cA T (Na x))(b:MZ T<=10000):fz T (3,x):=by
 refine⟨?_,fun _=>h⟩
 have c:=h.2.1;rw[sU];unfold rc;rw[aI aa,aI aa]
theorem Lh {T:List cJ}{wt:List cf}(hv:ns T wt){a:Int}(ha:0<=a/\cA T (Na a)):∀v∈hX T wt a,fz T v:=fun v h=>by
 unfold hX at h;split at h
 ·obtain⟨x,b,rfl⟩:=fo.1 h;unfold eK at b;obtain⟨e,he,rfl⟩:=fo.1 b;exact Lg (hv.wv e (List.mem_filter.1 he).1).2 hv.l1
 ·exact hv.fv _ ha.2 v h
theorem Lj {T:List cJ}{wt:List cf}(hv:ns T wt)(a:Int):MZ (hX T wt a)<=20000:=by
 unfold hX;split
 ·rw[aZ];have b:=pJ wt a;have c:=hv.l2;omega
 ·have:=hv.tl (Na a);omega
section
variable {w0:az}{kb cu ce:Nat}{cj b_:Int}{l:hP}{S:cn}
theorem Lk (hg:dS ce cj b_ l S w0)(hv:ns S.T S.wt)(ab:∀i,cA S.T i->(X S.T i t0).1=5->(X S.T i t0).2.1=[])(n:Nat)(M:cX->Int->cX)(hM:ql w0 kb cu ce S.T M n)(aB:lO (tI (MZ S.T)) (gX S.T) (gb S.T S.wt) n M):
 ql w0 kb cu ce S.T (fun s a=>((dG M (tI (MZ S.T)) (s.1++[a],s.2++[(gX S.T a,[])]) (gb S.T S.wt a)).2.1,(dG M (tI (MZ S.T)) (s.1++[a],s.2++[(gX S.T a,[])]) (gb S.T S.wt a)).2.2.set (MZ s.1) (gX S.T a,(dG M (tI (MZ S.T)) (s.1++[a],s.2++[(gX S.T a,[])]) (gb S.T S.wt a)).1))) (n+1):=by
 intro w s cS m a h ho ha hn hl;obtain⟨cl,hi,cm,cn,co⟩:=bV Lf;have aF:a∈tI (MZ S.T):=nr.2 ⟨ha.1,by have:=ha.2.1;have:=ha.1;omega⟩
 have bl:=hv.l1;have cp:=ho.lt aF hn;rw[lS] at cp;have al:a<10000:=by have:=ha.2.1;omega
 have cq:MZ m=MZ s.1:=by rw[h.len,ho.len]
 have aR:=ho.more aF hn (gX S.T a,[])
 have ag:=og M (tI (MZ S.T)) (s.1++[a],s.2++[(gX S.T a,[])]) (gb S.T S.wt a)
 have G:=qy aB aR (by rw[lS];simp;omega) (gb S.T S.wt a)
 have bn:(dG M (tI (MZ S.T)) (s.1++[a],s.2++[(gX S.T a,[])]) (gb S.T S.wt a)).2.2[MZ s.1]?=Z (gX S.T a,[]):=by rw[G.old (MZ s.1) ac,List.getElem?_append_right (by rw[ho.len];exact aG _),ho.len];simp
 have cT:MZ s.1<MZ (dG M (tI (MZ S.T)) (s.1++[a],s.2++[(gX S.T a,[])]) (gb S.T S.wt a)).2.1:=by
  have:=G.le;simp at this
  omega
 have cr:MZ (dG M (tI (MZ S.T)) (s.1++[a],s.2++[(gX S.T a,[])]) (gb S.T S.wt a)).2.2=MZ (dG M (tI (MZ S.T)) (s.1++[a],s.2++[(gX S.T a,[])]) (gb S.T S.wt a)).2.1:=G.ok.len;have aV:=La (wt:=S.wt) (ab _ ha.2)
 have bo:MZ (hX S.T S.wt a)=MZ (gb S.T S.wt a):=by rw[<-aV,aZ]
 have bp:aA (∀(b:az)(br:bD)(a0:List d6)(ad:Option bG)(cap:Nat),fO w0 b kb cu ce (s.1++[a],s.2++[(gX S.T a,[])]) br a0->fS b ad (hX S.T S.wt a)->
  J O 211 #[aq kb,M0 ad (MZ (hX S.T S.wt a)) cap] b fun e w'=>∃cs a1 a2 c2,e=E (M0 a2 (MZ (hX S.T S.wt a)) c2)/\aC w' b.heap.size 97 2 (M0 a2 (MZ (hX S.T S.wt a)) c2) (MZ (hX S.T S.wt a)) (ev (dG M (tI (MZ S.T)) (s.1++[a],s.2++[(gX S.T a,[])]) (gb S.T S.wt a)).1)/\fO w0 w' kb cu ce (dG M (tI (MZ S.T)) (s.1++[a],s.2++[(gX S.T a,[])]) (gb S.T S.wt a)).2 cs a1/\f8 w0 b a0 w' a1/\(∀k,fT a1 k->Z k≠Nh (Value.slice a2 (MZ (hX S.T S.wt a)) c2))):=
  fun b br a0 ad cap ab ct=>by
   have P:=BU hM aB ab aR (by simp;omega) bl (hX S.T S.wt a) (Lh hv ha) ad cap ct (by have:=Lj hv a;omega)
   rw[aV] at P;exact P
 have bs:aA (∀w1,C w0.heap.size w0 w1->V w1 (av kb 0)=Z (aq ce)->J O 254 #[aq kb,ak a] w1 fun e w'=>∃ad cap,e=E (M0 ad (MZ (hX S.T S.wt a)) cap)/\fS w' ad (hX S.T S.wt a)/\C w1.heap.size w1 w'):=
  fun w1 hb hc=>Lb (hg.below hb) kb hc a ha bl hv.l2
 have a3:aA (∀w1,C w0.heap.size w0 w1->V w1 (av ce 2)=Z (.map (Z l.mb))/\(Instr.lookup 184 (.map (Z l.mb)) (ak a) K).run O w1=.ok (bF #[ak (gX S.T a),M0 (l.fm (Na a)).1 (MZ (X S.T (Na a) t0).2.1) (l.fm (Na a)).2]) w1/\ce<w1.heap.size):=fun w1 hb=>by have g1:=hg.below hb;obtain⟨_,_,c2,_,_,_,_,_,cv⟩:=g1.cells;have L:=g1.g2.mp.look (t:=184) (e:=220) underlying184 (mU w1) (x:=a) ha.1 aa;rw[jG ha] at L;exact⟨c2,L,cv⟩
 have cU:aA (ce<w0.heap.size):=hg.cells.2.2.2.2.2.2.2.2;obtain⟨w1,cw,a4,bt⟩:=h.mp.put (t:=229) (e:=2) underlying229 aa (x:=a) ha.1 aa (U Q (MZ s.1))
 rw[K9 hn] at a4;have bx:Fr (fun k=>k=cu) w w1:=(Fr.refl _ _).grown bt (fun k e=>aM (by cases e;rfl))
 have cx:=h.turned bx;have b0:aA (eQ w1 cu (MZ (s.1++[a])) (k9 (s.1++[a]))):=by rw[a7,List.length_singleton];exact a4
 have hlo:=h.lo;obtain⟨B,dO,cy⟩:=eZ h.row;subst cy;obtain⟨c0,c1,c2,lk⟩:=h.cells;have b1:aA (iG m=s.2):=h.nd;clear hM aB G aR hv hg a4 bt bx aV ab ha h ho aF hn hl;dsimp only;generalize dG M (tI (MZ S.T)) (s.1++[a],s.2++[(gX S.T a,[])]) (gb S.T S.wt a)=R at*;rw[<-bo] at ag;clear bo;generalize hX S.T S.wt a=cV at*;obtain⟨cW,cz⟩:=R;dsimp only at*;generalize gX S.T a=kd at*;generalize MZ (X S.T (Na a) t0).2.1=cB at*;generalize (l.fm (Na a)).1=cC at*;generalize (l.fm (Na a)).2=fc at*;generalize MZ s.1=L at*;subst cq;obtain⟨ba,d,bb,b2,F⟩:=cx;obtain⟨cD,G2,G3⟩:=a3.o w1 F;obtain⟨_,G4,_⟩:=a3.o w1.drew F.drew;have cE:(Instr.field 220 (bF #[ak kd,M0 cC cB fc]) 0).run O w1.drew=.ok (ak kd) w1.drew:=by first|rfl|kernel_rfl|simp[cY]
 have cF:V w1 (av kb 0)=Z (aq ce):=aD d
 have b3:V w1 (av kb 2)=Z (M0 B (MZ m) dO):=aD d
 have b5:bO w1 (av kb 2)=K:=aE d
 have bd:kb<w1.heap.size:=lt_of_some d;have o:aA (_/\_/\_/\_/\_):=⟨ba,d,bb,b2,F⟩
 have b6:aA (f8 w0 w m w1 m):=⟨ba,fun k h=>aM h⟩
 have ca:Z kb≠Nh (Value.slice B (MZ m) dO):=fun e=>by obtain⟨cZ,cb⟩:=fF bb kb e;rw[d] at cb;simp at cb
 have c3:w0.heap.size<=w1.heap.size:=F.size;clear ba d bb b2 F a3 G2;have N:=(aw w1 (M5 #[U Q kd,M0 Y 0 0] 107)).drew;have cc:aA (aC (bj w1 (M5 #[U Q kd,M0 Y 0 0] 107)).drew w0.heap.size 107 2 (M0 B (MZ m) dO) (MZ m) (nv m)):=cM (fC o.o.2.2.1 _) (fun _ _=>rfl)
 go_enter func251,ntmps251;go_wp2_with fail;clear cw c0 c1 c2 lk
 go_region_law (refine step_append_lies _ rfl (.tmp 22) (.tmp 34) 58 rfl w0.heap.size 107 cl (bF #[ak 0,M0 Y 0 0]) 2 32 underlying58 hi cm cn co rfl ae (M0 B (MZ m) dO) (MZ m) (nv m) (by simp[Act.eval]) cc.o ⟨w1.heap.size,0,Y⟩ 1 1 [ak kd,M0 Y 0 0] (by simp[Act.eval]) rfl ?_ ?_ ae (by unfold bW;omega) aa (by simp;omega) _ rfl ?_;(intro j u f;match j,f with|0,f=>(simp at f;subst f;simp[Addr.add])|1,f=>(simp at f;subst f;simp[Addr.add]));(intro u W;simp at W;rcases W with W|W<;>(subst W;rfl));intro b4 ai am cd an cG cH;have cI:=an.cell (a:=⟨kb,2,Y⟩) (v:=M0 B (MZ m) dO) ((N.cell (p:=av kb 2) bd).trans b3) ca;have cJ:bO am (av kb 2)=K:=(World.frozen?_of_block (a:=⟨kb,2,Y⟩) (an.block _ (aO bd N.size) ca)).trans ((N.frozen (p:=av kb 2) bd).trans b5))
 all_goals
  have cK:=fO.grown o.o.2.1 hlo b0.o o.o.2.2.1 b1.o o.o.2.2.2.1 o.o.2.2.2.2 N cd an;obtain⟨cf,cg,_⟩:=cK;have be:aA (f8 w0 w m (ay am ⟨kb,2,Y⟩ (M0 (Z ⟨b4,0,Y⟩) (MZ m+1) ai)) (m++[(kd,Y,0,[])])):=b6.o.trans cg;have ao:aA (fO w0 (ay am ⟨kb,2,Y⟩ (M0 (Z ⟨b4,0,Y⟩) (MZ m+1) ai)) kb cu ce (s.1++[a],s.2++[(kd,[])]) (M0 (au b4) (MZ m+1) ai) (m++[(kd,Y,0,[])])):=cf;clear cf cg b6 cc N o b0 b1 cd an cG cH cI cJ cF b3 b5 cD G3 G4 cE;go_wp2_with fail;generalize ay am ⟨kb,2,Y⟩ (M0 (Z ⟨b4,0,Y⟩) (MZ m+1) ai)=b at*;refine(bs.o b ao.o.eX ao.o.cells.1).mono ?_;clear bs;rintro e cL ⟨ad,cap,rfl,ch,ap⟩
  go_wp2_with fail;refine(bp.o cL _ _ ad cap (ao.o.below ap) ch).mono ?_;clear bp;rintro e cN ⟨c4,g,a2,c5,rfl,bg,q,ci,cO⟩
  have c6:MZ g=MZ cz.1:=q.len.trans cr;obtain⟨c7,c8,cP⟩:=eW q.row aa;subst cP;have c9:=q.cells.2.2.1;have cQ:MZ m<MZ g:=aa;obtain⟨bi,da⟩:=iW q.row ((py g (MZ m) _ (aN cQ)).2)
  rw[<-ag] at bg;have ar:aA (_/\_/\_):=q.filled bn bg;have ck:aA (f8 w0 w m cN g):=(be.o.trans (f8.of ap)).trans ci;have cR:=((be.o.trans (f8.of ap)).1).size;generalize (g[MZ m]).2.1=q1 at bi;generalize MZ (g[MZ m]).2.2.2=db at bi;generalize (g[MZ m]).2.2.1=q3 at bi;rw[ag] at ar;clear ch ap bg q ci cO be ao bn ag;go_wp2_with fail;go_ret;exact⟨_,_,rfl,ar.o.1,ck.o.1.trans ar.o.2.1,fun k hk=>(ar.o.2.2 k hk).elim (ck.o.2 k) (fun c=>aK (aU cR c))⟩
theorem BV (hg:dS ce cj b_ l S w0)(hv:ns S.T S.wt)(b:∀i,cA S.T i->(X S.T i t0).1=5->(X S.T i t0).2.1=[]):∀n,ql w0 kb cu ce S.T (met (tI (MZ S.T)) (gX S.T) (gb S.T S.wt) n) n
 |0=>fun w s d m a _ ho ha hn hl=>by have c:=ho.lt (nr.2 ⟨ha.1,by have:=ha.2.1;omega⟩) hn;rw[lS] at c;omega
 |n+1=>Lk hg hv b n _ (BV hg hv b n) (ka n)
end
section
variable {ce:Nat}{cj b_:Int}{l:hP}{S:cn}{w:az}
theorem Ll (hg:dS ce cj b_ l S w)(hv:ns S.T S.wt)(ar:∀i,cA S.T i->(X S.T i t0).1=5->(X S.T i t0).2.1=[])(hr:∀v∈S.rs,fz S.T v):
 J O 138 #[aq ce] w fun e w'=>∃aB bi f aF n,e=E (bF #[M0 aB 12 bi,M0 f aF n])/\jc w' (I (G w)) aB (dL.eh S.T S.wt S.rs).1/\iH w' (I (G w)) f (dL.eh S.T S.wt S.rs).2.2/\aF=MZ (dL.eh S.T S.wt S.rs).2.2/\C (I (G w)) w w':=by
 have ca:=@run_makeMap O;have ai:=aw w (M5 #[M0 Y 0 0,M0 Y 0 0] 60)
 have aR:=aP w (M5 #[M0 Y 0 0,M0 Y 0 0] 60)
 have u:=hg.below ai;have al:=hg.g4.rl;obtain⟨_,_,_,_,_,_,aV,_,bl⟩:=u.cells;have a0:fS (bj w (M5 #[M0 Y 0 0,M0 Y 0 0] 60)) (au l.rb) S.rs:=by
  have c:=u.g4.cells;refine⟨fun hp=>⟨l.rb,0,rfl,c.1,fun i hi=>?_⟩,fun hp=>⟨l.rb,0,_,rfl,u.g4.rt⟩⟩
  have:=c.2.2 i aa;rw[b7];exact⟨this.1,this.2.1⟩
 have a1:I (G w)<I (G (bj w (M5 #[M0 Y 0 0,M0 Y 0 0] 60))):=ac;have N:=eQ.made (bj w (M5 #[M0 Y 0 0,M0 Y 0 0] 60))
 have W:k9 []=fun _=>Y:=by
  funext x
  exact BS ac
 rw[<-W] at N;have b2:=((aH _ (bj w (M5 #[M0 Y 0 0,M0 Y 0 0] 60))).alloc b8 (.map #[] 0)).alloc ac (M5 #[bJ (Z ⟨ce,0,Y⟩),.map (Z (I (G w)+1)),M0 Y 0 0] 231)
 have am:=gH (bj w (M5 #[M0 Y 0 0,M0 Y 0 0] 60)) (.map #[] 0) (M5 #[bJ (Z ⟨ce,0,Y⟩),.map (Z (I (G w)+1)),M0 Y 0 0] 231)
 have ab:I (G (bj w (M5 #[M0 Y 0 0,M0 Y 0 0] 60)))=I (G w)+1:=ac;rw[ab] at N am;have a3:=N.same (w':=bj (bj (bj w (M5 #[M0 Y 0 0,M0 Y 0 0] 60)) (.map #[] 0)) (M5 #[bJ (Z ⟨ce,0,Y⟩),.map (Z (I (G w)+1)),M0 Y 0 0] 231)) (aS _ _ _ ac)
 have a4:aA (fO (bj w (M5 #[M0 Y 0 0,M0 Y 0 0] 60)) (bj (bj (bj w (M5 #[M0 Y 0 0,M0 Y 0 0] 60)) (.map #[] 0)) (M5 #[bJ (Z ⟨ce,0,Y⟩),.map (Z (I (G w)+1)),M0 Y 0 0] 231)) (I (G w)+1+1) (I (G w)+1) ce ([],[]) (M0 Y 0 0) []):=
  ⟨am,⟨by rw[ab];omega,by rw[ab];exact aG _⟩,a3,bf _ _ _ _,rfl,fun x g=>by simp at g,b2⟩
 have bn:=(b2.cell (p:=av ce 6) bl).trans aV;have an:I (G w)<=I (G (bj (bj (bj w (M5 #[M0 Y 0 0,M0 Y 0 0] 60)) (.map #[] 0)) (M5 #[bJ (Z ⟨ce,0,Y⟩),.map (Z (I (G w)+1)),M0 Y 0 0] 231))):=by simp;omega
 have ag:=BU (BV u hv ar (MZ S.T)) (ka _) a4.o (fB.start _) ac hv.l1 S.rs hr (au l.rb) 12 (a0.m0 (fW.of (B:=0) b2)) aa;have bo:aA (MZ (dL.eh S.T S.wt S.rs).1=12):=by show _=_;unfold dL.eh;rw[og,aZ];exact al
 change J _ _ _ _ (fun e w'=>∃bp ao a2 c2,e=E (M0 a2 (MZ S.rs) c2)/\aC w' _ 97 2 (M0 a2 (MZ S.rs) c2) (MZ S.rs) (ev (dL.eh S.T S.wt S.rs).1)/\fO _ w' _ _ ce (dL.eh S.T S.wt S.rs).2 bp ao/\f8 _ _ [] w' ao/\(∀k,fT ao k->Z k≠Nh (Value.slice a2 (MZ S.rs) c2))) at ag;rw[al] at ag;clear hg u hv ar hr a0 N a3 am W aV a4 al;generalize dL.eh S.T S.wt S.rs=R at*;obtain⟨cb,s⟩:=R;dsimp only at*;have ap:=hide ai;clear ai;go_enter func138,ntmps138;go_wp2_with fail;refine ag.mono ?_;clear ag;rintro e w2 ⟨cc,m,a2,c2,rfl,o,d,ba,_⟩
 obtain⟨f,n,br⟩:=eZ d.row;subst br;have cd:=d.cells.2.2.1;have bb:=ap.o.trans (d.eX.mono ap.o.size)
 have j:=(d.eX.block _ a1).trans aR;have y0:V w2 (av (I (G w)) 0)=Z (M0 Y 0 0):=aD j
 have y1:V w2 (av (I (G w)) 1)=Z (M0 Y 0 0):=aD j
 have cf:bO w2 (av (I (G w)) 0)=K:=aE j
 have cg:bO w2 (av (I (G w)) 1)=K:=aE j
 have l2:=lt_of_some j;have bs:=c8 d o;have bt:=hide d.len;have bx:=hide bb;have bd:=hide j;have b0:aA (∀k,fT m k->I (G w)<=k):=fun k hk=>(ba.2 k hk).elim (fun⟨x,g,_⟩=>by cases g) (fun b1=>aU an b1)
 have b3:=hide an;clear d o ba bb j aR bn ap b2 an ab a1;go_wp2_with fail;obtain⟨q,hW0⟩:∃q,q=ay (ay w2 ⟨I (G w),0,Y⟩ (M0 a2 12 c2)) ⟨I (G w),1,Y⟩ (M0 f (MZ m) n):=⟨_,rfl⟩
 rw[<-hW0];have g0:V q (av (I (G w)) 0)=Z (M0 a2 12 c2):=by exact l5
 have g1:V q (av (I (G w)) 1)=Z (M0 f (MZ m) n):=by exact A8
 have t:Fr (fun k=>k=I (G w)) w2 q:=by rw[hW0];exact((Fr.refl (fun k=>k=I (G w)) w2).set (I (G w)) 0 _ rfl).set (I (G w)) 1 _ rfl
 clear hW0;obtain⟨d,o⟩:=bs.o;have be:∀{ad:Option bG}{L:List (Int×Int)},fS w2 ad L->dA q ad L:=fun {ad L} h=>h.1.keep t.size (fun hp b e=>by
  obtain⟨b4,ch,ci,W,hb⟩:=h.2 hp;rw[W] at e;cases e;refine t.block _ (lt_of_some hb) (fun c=>?_)
  have c:b4=I (G w):=c;rw[c,bd.o] at hb;simp at hb)
 refine a6 (v:=bF #[M0 a2 12 c2,M0 f (MZ m) n]) (by simp[results,results138,go_sem,g0,g1]) rfl ⟨a2,c2,f,MZ m,n,rfl,⟨be (fS.of (by rw[bo.o];exact o)),fun hp=>?_⟩,⟨m,d.nd,fun x g=>be (d.fl x g),b0.o,fun hp=>?_⟩,bt.o,bx.o.trans (t.below (wI l2) (fun k e=>tQ (CX e)))⟩
 ·obtain⟨b,cap,e⟩:=eW o ae;cases e;exact⟨b,0,rfl,aU b3.o (cv o b rfl).1⟩
 obtain⟨b,cap,e⟩:=eW d.row hp;cases e;have b5:=(cv d.row b rfl).1;simp at b5;obtain⟨ck,F⟩:=fF d.row b rfl;have bg:b≠I (G w):=fun c=>by rw[c,bd.o] at F;simp at F
 refine⟨b,0,rfl,aa,aO (lt_of_some F) t.size,fun i x g=>?_⟩
 obtain⟨n1,b6⟩:=py m i x g;rw[b7];exact⟨(aQ (a:=⟨b,i*2,Y⟩) (t.block b (lt_of_some F) bg)).trans (iW d.row n1).1,(aQ (a:=⟨b,i*2+1,Y⟩) (t.block b (lt_of_some F) bg)).trans (iW d.row b6).1⟩
end
open Go.RowKit W
theorem Lm (c a:Int)(w:az):
 J O 39 #[ak c,ak a] w fun e w'=>e=E (bF #[ak c,ak a])/\C (I (G w)) w w':=by
 go_enter func39,ntmps39;go_wp2_with fail;exact a6 (v:=bF #[ak c,ak a]) (by simp[results,results39,go_sem]) rfl ⟨rfl,b9.alloc b8 _⟩
end Go.Proofs.YtpkjkjhanlbcoaaGreat
