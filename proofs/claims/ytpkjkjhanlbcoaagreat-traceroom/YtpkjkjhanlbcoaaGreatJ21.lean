import Derived.Test.YtpkjkjhanlbcoaaGreatJ20
open Array renaming getElem?_modify->bK,size->I
open Bool renaming false->K,true->ML
open Eq renaming symm->CB
open Go renaming Addr->bI,Calls->J,Value->bj,info_parts->bV,maxLen->bY,wpList_append_own_at->bW
open Go.Ending renaming returned->MD
open Go.IntKind renaming i64->Q
open Go.Obj renaming cells->E
open Go.Proofs.Tryz renaming prog->O
open Go.RowKit renaming Below->C,intOf->bN
open Go.Value renaming agg->bF,int->U,ownBlock->MP,pointer->bL,slice->My,tuple->a6
open Go.World renaming alloc->bE,cell?->V,frozen?->bO,heap->G,ownsRow->aC,setCell->ay
open Int renaming eq_ofNat_of_zero_le->bG,toNat->MJ,toNat_natCast->bH
open List renaming contains->bQ,getD->X,length->Mx,map_append->jw,mem_append->bD,mem_map->b7,mem_or_eq_of_mem_set->j4,replicate->A
open Nat renaming le_of_eq->tF,le_of_lt->yB,succ_pos->jl,zero_add->bZ
open Option renaming map_some->bR,none->Y,some->Z
namespace Go.Proofs.YtpkjkjhanlbcoaaGreat
set_option maxRecDepth 100000
set_option maxHeartbeats 4000000
open Tryz
open Go.RowKit W Kp cq
section
variable {ce rb:Nat}{cj b_:Int}{F:Nat->Prop}{s:cn}{w:az}
theorem Kw (h:(cG ce cj b_ rb).J F s w)(R I n:Int)(A B:Nat)(i:A<12)(hB:B<12)(hc:d5 9 R A B n=0)(cd:Int)(j:cn)(q:j.rs=s.rs)
 (t:∀w',C w.heap.size w w'->Calls O 132 #[aq ce,bF #[ak (X s.rs A (0,0)).1,ak (X s.rs A (0,0)).2],bF #[ak (X s.rs B (0,0)).1,ak (X s.rs B (0,0)).2]] w' fun e u=>∃d,e=MD (ak cd)/\(cG ce cj b_ rb).J d j u/\ch F w' d u):
 Calls O 68 #[aq ce,d_ 9 R A B I n] w fun e w'=>∃v,e=MD (ak cd)/\(cG ce cj b_ rb).J v j w'/\ch F w v w':=by
 have l:=aw w (cH 9 R A B I n)
 have m:=aP w (E #[U Q 9,U Q R,U Q (A:Int),U Q (B:Int),U Q I,U Q n] 44)
 have o:=jS 9 R A B I n (w.alloc (cH 9 R A B I n))
 rw[hc] at o;have f9:∀b,F b->b<w.heap.size:=fun b hb=>(cG ce cj b_ rb).lt h b hb;have x:aA (∀w1,C (w.alloc (cH 9 R A B I n)).heap.size (w.alloc (cH 9 R A B I n)) w1->(V w1 (av ce 6)=Z (My (au rb) 12 12)/\V w1 (av rb (A*2))=Z (ak (X s.rs A (0,0)).1)/\V w1 (av rb (A*2+1))=Z (ak (X s.rs A (0,0)).2)/\V w1 (av rb (B*2))=Z (ak (X s.rs B (0,0)).1)/\V w1 (av rb (B*2+1))=Z (ak (X s.rs B (0,0)).2)/\w1.heap[w.heap.size]?=Z (cH 9 R A B I n))/\
  Calls O 132 #[aq ce,bF #[ak (X s.rs A (0,0)).1,ak (X s.rs A (0,0)).2],bF #[ak (X s.rs B (0,0)).1,ak (X s.rs B (0,0)).2]] w1.drew fun e c=>∃d,e=MD (ak cd)/\(V c (av ce 6)=Z (My (au rb) 12 12)/\V c (av rb (A*2))=Z (ak (X s.rs A (0,0)).1)/\V c (av rb (A*2+1))=Z (ak (X s.rs A (0,0)).2)/\V c (av rb (B*2))=Z (ak (X s.rs B (0,0)).1)/\V c (av rb (B*2+1))=Z (ak (X s.rs B (0,0)).2)/\V c (av w.heap.size 2)=Z (ak A)/\V c (av w.heap.size 3)=Z (ak B))/\aA ((cG ce cj b_ rb).J d j c/\ch F w d c)):=fun w1 hb=>by
  have p:C w.heap.size w w1:=l.trans (hb.mono l.size)
  have f:=(hb.block _ (lt_of_some m)).trans m;obtain⟨ao,rt,_,_⟩:=kw ((cG ce cj b_ rb).below h p)
  refine⟨⟨ao,(rt A i).1,(rt A i).2,(rt B hB).1,(rt B hB).2,f⟩,(t w1.drew p.drew).mono ?_⟩
  rintro e c ⟨d,rfl,N,tn⟩
  obtain⟨k,g,_,_⟩:=kw N;rw[q] at g;have ap:=(tn.fr.block w.heap.size (lt_of_some f) (fun ar=>by have:=f9 _ ar;omega)).trans f;obtain⟨_,_,aB,aF,be,_⟩:=es ap;exact⟨d,rfl,⟨k,(g A i).1,(g A i).2,(g B hB).1,(g B hB).2,aB,aF⟩,N,(ch.of p.drew).trans tn⟩
 generalize (X s.rs A (0,0)).1=a0 at*;generalize (X s.rs A (0,0)).2=a1 at*;generalize (X s.rs B (0,0)).1=aR at*;generalize (X s.rs B (0,0)).2=aV at*;have bg:(0:Int)<=(A:Int):=aa;have bi:(A:Int)<12:=aa;have bl:(0:Int)<=(B:Int):=aa;have bn:(B:Int)<12:=aa;clear h l m hc f9 t q;go_enter func68,ntmps68;go_wp2_with fail;refine o.mono ?_;clear o;rintro e w1 ⟨rfl,S⟩
 obtain⟨⟨k1,a2,a3,a4,k5,f⟩,W⟩:=x.o w1 S;obtain⟨q0,q1,ba,q3,bb,bd⟩:=es f;clear S f x q1 bd bb;go_wp2_with fail
 go_region_held3 (fun w'=>V w' (av ce 6)=Z (My (au rb) 12 12)/\V w' (av rb (A*2))=Z (ak a0)/\V w' (av rb (A*2+1))=Z (ak a1)/\V w' (av rb (B*2))=Z (ak aR)/\V w' (av rb (B*2+1))=Z (ak aV)/\V w' (av w.heap.size 2)=Z (ak A)/\V w' (av w.heap.size 3)=Z (ak B)) (first|exact⟨ab,ad,ag,ai,al,k,am⟩|(go_keep;done))
  (first|(go_at_call 132;refine W.mono ?_;clear W;rintro e c ⟨d,rfl,⟨ab,ad,ag,ai,al,k,am⟩,an⟩;clear k1 a2 a3 a4 k5 ba q3))
 all_goals
  clear ab ad ag ai al k am ‹_/\_›;go_wp2_with fail;go_ret;exact⟨d,rfl,an.o.1,an.o.2⟩
theorem Kx (h:(cG ce cj b_ rb).J F s w)(R I n:Int)(A B:Nat)(i:A<12)(hB:B<12)(hc:d5 12 R A B n=0)(cd:Int)(j:cn)(q:j.rs=s.rs)
 (t:∀w',C w.heap.size w w'->Calls O 133 #[aq ce,bF #[ak (X s.rs A (0,0)).1,ak (X s.rs A (0,0)).2],ak I,bF #[ak (X s.rs B (0,0)).1,ak (X s.rs B (0,0)).2]] w' fun e u=>∃d,e=MD (ak cd)/\(cG ce cj b_ rb).J d j u/\ch F w' d u):
 Calls O 68 #[aq ce,d_ 12 R A B I n] w fun e w'=>∃v,e=MD (ak cd)/\(cG ce cj b_ rb).J v j w'/\ch F w v w':=by
 have l:=aw w (cH 12 R A B I n)
 have m:=aP w (E #[U Q 12,U Q R,U Q (A:Int),U Q (B:Int),U Q I,U Q n] 44)
 have o:=jS 12 R A B I n (w.alloc (cH 12 R A B I n))
 rw[hc] at o;have f9:∀b,F b->b<w.heap.size:=fun b hb=>(cG ce cj b_ rb).lt h b hb;have x:aA (∀w1,C (w.alloc (cH 12 R A B I n)).heap.size (w.alloc (cH 12 R A B I n)) w1->(V w1 (av ce 6)=Z (My (au rb) 12 12)/\V w1 (av rb (A*2))=Z (ak (X s.rs A (0,0)).1)/\V w1 (av rb (A*2+1))=Z (ak (X s.rs A (0,0)).2)/\V w1 (av rb (B*2))=Z (ak (X s.rs B (0,0)).1)/\V w1 (av rb (B*2+1))=Z (ak (X s.rs B (0,0)).2)/\w1.heap[w.heap.size]?=Z (cH 12 R A B I n))/\
  Calls O 133 #[aq ce,bF #[ak (X s.rs A (0,0)).1,ak (X s.rs A (0,0)).2],ak I,bF #[ak (X s.rs B (0,0)).1,ak (X s.rs B (0,0)).2]] w1.drew fun e c=>∃d,e=MD (ak cd)/\(V c (av ce 6)=Z (My (au rb) 12 12)/\V c (av rb (A*2))=Z (ak (X s.rs A (0,0)).1)/\V c (av rb (A*2+1))=Z (ak (X s.rs A (0,0)).2)/\V c (av rb (B*2))=Z (ak (X s.rs B (0,0)).1)/\V c (av rb (B*2+1))=Z (ak (X s.rs B (0,0)).2)/\V c (av w.heap.size 2)=Z (ak A)/\V c (av w.heap.size 3)=Z (ak B)/\V c (av w.heap.size 4)=Z (ak I))/\aA ((cG ce cj b_ rb).J d j c/\ch F w d c)):=fun w1 hb=>by
  have p:C w.heap.size w w1:=l.trans (hb.mono l.size)
  have f:=(hb.block _ (lt_of_some m)).trans m;obtain⟨ap,rt,_,_⟩:=kw ((cG ce cj b_ rb).below h p)
  refine⟨⟨ap,(rt A i).1,(rt A i).2,(rt B hB).1,(rt B hB).2,f⟩,(t w1.drew p.drew).mono ?_⟩
  rintro e c ⟨d,rfl,N,tn⟩
  obtain⟨k,g,_,_⟩:=kw N;rw[q] at g;have ar:=(tn.fr.block w.heap.size (lt_of_some f) (fun aB=>by have:=f9 _ aB;omega)).trans f;obtain⟨_,_,aF,aR,aV,_⟩:=es ar;exact⟨d,rfl,⟨k,(g A i).1,(g A i).2,(g B hB).1,(g B hB).2,aF,aR,aV⟩,N,(ch.of p.drew).trans tn⟩
 generalize (X s.rs A (0,0)).1=a0 at*;generalize (X s.rs A (0,0)).2=a1 at*;generalize (X s.rs B (0,0)).1=a2 at*;generalize (X s.rs B (0,0)).2=a3 at*;have bi:(0:Int)<=(A:Int):=aa;have bl:(A:Int)<12:=aa;have bn:(0:Int)<=(B:Int):=aa;have bo:(B:Int)<12:=aa;clear h l m hc f9 t q;go_enter func68,ntmps68;go_wp2_with fail;refine o.mono ?_;clear o;rintro e w1 ⟨rfl,S⟩
 obtain⟨⟨k1,a4,ba,bb,k5,f⟩,W⟩:=x.o w1 S;obtain⟨q0,q1,bd,q3,be,bg⟩:=es f;clear S f x q1 bg;go_wp2_with fail
 go_region_held3 (fun w'=>V w' (av ce 6)=Z (My (au rb) 12 12)/\V w' (av rb (A*2))=Z (ak a0)/\V w' (av rb (A*2+1))=Z (ak a1)/\V w' (av rb (B*2))=Z (ak a2)/\V w' (av rb (B*2+1))=Z (ak a3)/\V w' (av w.heap.size 2)=Z (ak A)/\V w' (av w.heap.size 3)=Z (ak B)/\V w' (av w.heap.size 4)=Z (ak I)) (first|exact⟨ab,ad,ag,ai,al,k,am,an⟩|(go_keep;done))
  (first|(go_at_call 133;refine W.mono ?_;clear W;rintro e c ⟨d,rfl,⟨ab,ad,ag,ai,al,k,am,an⟩,ao⟩;clear k1 a4 ba bb k5 bd q3 be))
 all_goals
  clear ab ad ag ai al k am an ‹_/\_›;go_wp2_with fail;go_ret;exact⟨d,rfl,ao.o.1,ao.o.2⟩
end
section
variable {ce rb:Nat}{cj b_:Int}{F:Nat->Prop}{w:az}
theorem Ky (k R A B I n:Int)(hc:d5 k R A B n=0)(k1:k≠9)(N:k≠12)(S:k≠15)(W:k≠16)(v:Int×Int)(cd:Int)(ab:cd≠0)(d:cn)
 (q:∀w',C w.heap.size w w'->Calls O 136 #[aq ce,d_ k R A B I n] w' fun e f=>∃b,e=MD (a6 #[bF #[ak v.1,ak v.2],ak cd])/\(cG ce cj b_ rb).J b d f/\ch F w' b f):
 Calls O 68 #[aq ce,d_ k R A B I n] w fun e w'=>∃g,e=MD (ak cd)/\(cG ce cj b_ rb).J g d w'/\ch F w g w':=by
 obtain⟨v0,v1⟩:=v;have i:=aw w (cH k R A B I n)
 have j:=aP w (E #[U Q k,U Q R,U Q A,U Q B,U Q I,U Q n] 44)
 have l:=jS k R A B I n (w.alloc (cH k R A B I n))
 rw[hc] at l;have s:aA (∀w1,C (w.alloc (cH k R A B I n)).heap.size (w.alloc (cH k R A B I n)) w1->w1.heap[w.heap.size]?=Z (cH k R A B I n)/\Calls O 136 #[aq ce,d_ k R A B I n] w1 fun e c=>∃b,e=MD (a6 #[bF #[ak v0,ak v1],ak cd])/\aA ((cG ce cj b_ rb).J b d c/\ch F w b c)):=fun w1 hb=>by
  have m:C w.heap.size w w1:=i.trans (hb.mono i.size)
  refine⟨(hb.block _ (lt_of_some j)).trans j,(q w1 m).mono ?_⟩
  rintro e c ⟨b,rfl,t,tn⟩
  exact⟨b,rfl,t,(ch.of m).trans tn⟩
 go_enter func68,ntmps68;go_wp2_with fail;refine l.mono ?_;rintro e w1 ⟨rfl,u⟩
 obtain⟨x,P⟩:=s.o w1 u;obtain⟨q0,q1,ad,q3,ag,ai⟩:=es x;go_wp2_with fail;refine P.mono ?_;rintro e c ⟨b,rfl,o⟩
 have p:aA ((cG ce cj b_ rb).J b d (bE c (E #[U Q v0,U Q v1] 97))/\ch F w b (bE c (E #[U Q v0,U Q v1] 97))):=⟨(cG ce cj b_ rb).below o.o.1 (b9.alloc b8 _),o.o.2.below (b9.alloc b8 _)⟩
 go_wp2_with fail;go_ret;exact⟨b,rfl,p.o.1,p.o.2⟩
end
section
variable {ce rb:Nat}{cj b_:Int}{F:Nat->Prop}{s:cn}{w:az}
theorem Kz (h:(cG ce cj b_ rb).J F s w){R:Nat}(v:Int×Int):
 (cG ce cj b_ rb).J F {s with rs:=s.rs.set R v} (ay (ay w ⟨rb,R*2,Y⟩ (U Q v.1)) ⟨rb,R*2+1,Y⟩ (U Q v.2))/\ch F w F (ay (ay w ⟨rb,R*2,Y⟩ (U Q v.1)) ⟨rb,R*2+1,Y⟩ (U Q v.2)):=by
 obtain⟨l,h,rfl,c⟩:=h;have fr:Fr (fun k=>k=l.rb) w (ay (ay w ⟨l.rb,R*2,Y⟩ (U Q v.1)) ⟨l.rb,R*2+1,Y⟩ (U Q v.2)):=((Fr.refl (fun k=>k=l.rb) w).set l.rb _ _ rfl).set l.rb _ _ rfl;have hk:∀b,l.own b≠0->l.own b≠4->_=_:=fun b h0 d=>fr.block b (h.lt b h0) (fun e=>d (by rw[e];exact h.g4.ro))
 refine⟨⟨l,?_,rfl,c⟩,fr.mono (fun b e=>by rw[e];exact(c _).2 (by rw[h.g4.ro];decide)),fun b hb=>aM hb⟩
 refine {blk:=(hk ce (by rw[h.bo];decide) (by rw[h.bo];decide)).trans h.blk,bo:=h.bo,g2:=h.g2.keep (fun b hb=>hk b aa aa),g3:=h.g3.keep (fun b hb=>hk b aa aa),g4:=⟨?_,?_,h.g4.ro⟩,lt:=fun b hb=>aO (h.lt b hb) fr.size}
 ·show _=Z _;rw[tY];simp only [World.setCell,bK,if_true,h.g4.rt,bR];simp
 ·rw[bh];exact h.g4.rl
theorem sc {w:az}{b c o p q:Nat}{x v0 v1:bj}(hn:b≠c)(h:V w (av b o)=Z x):V (ay (ay w ⟨c,p,Y⟩ v0) ⟨c,q,Y⟩ v1) (av b o)=Z x:=by exact Bm
theorem KB (h:(cG ce cj b_ rb).J F s w)(k:Int)(R:Nat)(ad:R<12)(A B I n:Int)(hc:d5 k R A B n=0)(k1:k≠9)(a0:k≠12)(a1:k≠15)(a2:k≠16)(v:Int×Int)(g:cn)
 (i:∀w',C w.heap.size w w'->Calls O 136 #[aq ce,d_ k R A B I n] w' fun e ag=>∃d,e=MD (a6 #[bF #[ak v.1,ak v.2],ak 0])/\(cG ce cj b_ rb).J d g ag/\ch F w' d ag):
 Calls O 68 #[aq ce,d_ k R A B I n] w fun e w'=>∃ai,e=MD (ak 0)/\(cG ce cj b_ rb).J ai {g with rs:=g.rs.set R v} w'/\ch F w ai w':=by
 obtain⟨v0,v1⟩:=v;dsimp only at i;have j:=aw w (cH k R A B I n)
 have m:=aP w (E #[U Q k,U Q (R:Int),U Q A,U Q B,U Q I,U Q n] 44)
 have p:=jS k R A B I n (w.alloc (cH k R A B I n))
 rw[hc] at p;have f9:∀b,F b->b<w.heap.size:=fun b hb=>(cG ce cj b_ rb).lt h b hb;obtain⟨_,_,al,am⟩:=kw h;have bs:=f9 _ am;have bt:=f9 _ al;have an:aA (∀w1,C (w.alloc (cH k R A B I n)).heap.size (w.alloc (cH k R A B I n)) w1->w1.heap[w.heap.size]?=Z (cH k R A B I n)/\Calls O 136 #[aq ce,d_ k R A B I n] w1 fun e c=>∃d,e=MD (a6 #[bF #[ak v0,ak v1],ak 0])/\
  (V (bE c (E #[U Q v0,U Q v1] 97)) (av ce 6)=Z (My (au rb) 12 12)/\V (bE c (E #[U Q v0,U Q v1] 97)) (av w.heap.size 1)=Z (ak R)/\V (bE c (E #[U Q v0,U Q v1] 97)) (av c.heap.size 0)=Z (ak v0)/\V (bE c (E #[U Q v0,U Q v1] 97)) (av c.heap.size 1)=Z (ak v1))/\
  (∃ao y1,V (bE c (E #[U Q v0,U Q v1] 97)) (av rb (R*2))=Z (ak ao)/\V (bE c (E #[U Q v0,U Q v1] 97)) (av rb (R*2+1))=Z (ak y1))/\(∀o,bO (bE c (E #[U Q v0,U Q v1] 97)) (av rb o)=K)/\w.heap.size<c.heap.size/\
  aA ((cG ce cj b_ rb).J d g (bE c (E #[U Q v0,U Q v1] 97)).drew/\ch F w d (bE c (E #[U Q v0,U Q v1] 97)).drew)):=fun w1 hb=>by
  have ap:C w.heap.size w w1:=j.trans (hb.mono j.size)
  have f:=(hb.block _ (lt_of_some m)).trans m;refine⟨f,(i w1 ap).mono ?_⟩
  rintro e c ⟨d,rfl,a3,tn⟩
  have q:C c.heap.size c (bE c (E #[U Q v0,U Q v1] 97)):=b9.alloc b8 _;have t:=(cG ce cj b_ rb).below a3 q;obtain⟨a4,rt,_,_⟩:=kw t;have u:=(tn.fr.block w.heap.size (lt_of_some f) (fun ba=>by have:=f9 _ ba;omega)).trans f;obtain⟨_,bb,_⟩:=es ((q.block _ (lt_of_some u)).trans u)
  obtain⟨z0,bd,_,_⟩:=dt (aP c (E #[U Q v0,U Q v1] 97))
  have x:∀o,bO (bE c (E #[U Q v0,U Q v1] 97)) (av rb o)=K:=by obtain⟨l,hl,rfl,_⟩:=t;intro o;simp[World.frozen?,hl.g4.rt]
  exact⟨d,rfl,⟨a4,bb,z0,bd⟩,⟨_,_,(rt R ad).1,(rt R ad).2⟩,x,lt_of_some u,(cG ce cj b_ rb).below t b9.drew,((ch.of ap).trans tn).below q.drew⟩
 have bx:(k==9)=K:=by simpa using k1
 have b0:(k==12)=K:=by simpa using a0
 have b1:(k==15)=K:=by simpa using a1
 have b2:(k==16)=K:=by simpa using a2
 have b3:(0:Int)<=(R:Int):=aa;have b4:(R:Int)<12:=aa;have be:w.heap.size≠rb:=aa;have ar:aA (ce≠rb):=by obtain⟨l,hl,rfl,_⟩:=h;intro e;have bg:=hl.bo;rw[e,hl.g4.ro] at bg;omega
 have bi:=ar.o;clear h j m hc i f9 al am ar;go_enter func68,ntmps68;go_wp2_with fail;refine p.mono ?_;clear p;rintro e w1 ⟨rfl,aB⟩
 obtain⟨f,P⟩:=an.o w1 aB;obtain⟨q0,q1,bl,q3,bn,bo⟩:=es f;clear aB f an;go_wp2_with fail;refine P.mono ?_;clear P;rintro e c ⟨d,rfl,⟨N,S,W,ab⟩,⟨ao,y1,bp,br⟩,x,lw,aF⟩
 clear q0 q1 bl q3 bn bo;have aR:c.heap.size≠rb:=aa;go_wp2_with fail
 go_region_held3 (fun w'=>V w' (av ce 6)=Z (My (au rb) 12 12)/\V w' (av w.heap.size 1)=Z (ak R)/\V w' (av c.heap.size 0)=Z (ak v0)/\V w' (av c.heap.size 1)=Z (ak v1)) (first|exact⟨N,S,W,ab⟩|exact⟨sc bi N,sc be S,sc aR W,sc aR ab⟩|(go_keep;done)) (fail)
 all_goals
  have aV:aA (_/\_):=Kz aF.o.1 (R:=R) (v0,v1)
  clear N S W ab bp br x;go_wp2_with fail;go_ret;exact⟨rfl,d,aV.o.1,aF.o.2.trans aV.o.2⟩
end
theorem KC {k R A B n:Int}(hc:d5 k R A B n=0)(b:k≠9)(c:k≠12)(e:k≠15)(f:k≠16):dj k=1\/dj k=3\/dj k=7:=by exact AJ
theorem KD (s:cn)(t b:Int×Int):(s.reg t b).2.rs=s.rs:=by
 unfold cn.reg;split
 ·split<;>rfl
 ·rfl
theorem KE (s:cn)(v:Int×Int)(I:Int)(y:Int×Int):(s.set v I y).2.rs=s.rs:=by unfold cn.set;dsimp only;split<;>rfl
theorem fD.root {s:cn}(hv:fD s)(i:Nat):(X s.rs i (0,0)).1=3->0<=(X s.rs i (0,0)).2/\cA s.T (MJ (X s.rs i (0,0)).2):=fun b=>by
 by_cases c:i<Mx s.rs
 ·exact hv.rv _ (getD_in c) b
 ·rw[aL,List.getElem?_eq_none aa] at b;cases b
section
variable {ce rb:Nat}{cj b_:Int}{F:Nat->Prop}{s:cn}{w:az}{g:eg}
theorem KF (h:(cG ce cj b_ rb).J F s w)(hv:fD s)(i:dz s.T s.wt (g s.T s.wt))(g0:-1000000<=b_)(g1:b_<=1000000)(q:-1000000<=cj)(m1:cj<=1000000)(k R A B I n:Int):
 Calls O 68 #[aq ce,d_ k R A B I n] w fun e w'=>∃m,e=MD (ak (s.fQ g cj b_ k R A B I n).1)/\(cG ce cj b_ rb).J m (s.fQ g cj b_ k R A B I n).2 w'/\ch F w m w':=by
 have tl:=hv.tl;have gl:=hv.gl;have wl:=hv.wl;unfold cn.fQ;by_cases hc:d5 k R A B n=0
 ·rw[aJ hc];by_cases b:k=9
  ·rw[aJ b];subst b;have j:=lO hc ae;have l:=mv hc ae;obtain⟨A,rfl⟩:=bG j.1;obtain⟨B,rfl⟩:=bG l.1;rw[bH,bH];exact Kw h R I n A B aa aa hc _ _ (KD _ _ _) (fun w' hb=>Jj ((cG ce cj b_ rb).below h hb) _ _ (hv.root A) (hv.root B) tl aa aa)
  rw[aI b];by_cases d:k=12
  ·rw[aJ d];subst d;have j:=lO hc ae;have l:=mv hc ae;obtain⟨A,rfl⟩:=bG j.1;obtain⟨B,rfl⟩:=bG l.1;rw[bH,bH];exact Kx h R I n A B aa aa hc _ _ (KE _ _ _ _) (fun w' hb=>Jn ((cG ce cj b_ rb).below h hb) _ _ I (hv.root A) tl hv.iv.tl)
  rw[aI d];by_cases f:k=15
  ·rw[aJ f];exact Bu k R A B I n (aM f) hc _ _ (fun _ w' hb=>Bk ((cG ce cj b_ rb).below h hb) hv i g0 g1) (fun e=>by omega)
  rw[aI f];by_cases e16:k=16
  ·rw[aJ e16];exact Bu k R A B I n (aK e16) hc _ _ (fun e=>by omega) (fun _ w' hb=>Bj ((cG ce cj b_ rb).below h hb) hv i)
  rw[aI e16];have u:=xd hc (KC hc b d f e16)
  obtain⟨R,rfl⟩:=bG u.1;rw[bH];have o:∀w',C w.heap.size w w'->_:=fun w' hb=>Kt ((cG ce cj b_ rb).below h hb) hv i g0 g1 q m1 k R A B I n hc b d f e16;generalize s.rt g cj b_ k (MJ A) (MJ B) I n=t at*;obtain⟨v,cd,p⟩:=t;by_cases c:cd=0
  ·rw[aJ c];subst c;exact KB h k R aa A B I n hc b d f e16 v p o
  ·rw[aI c];exact Ky k R A B I n hc b d f e16 v cd c p o
 ·rw[aI hc];refine(Ku k R A B I n hc).mono ?_;rintro e w' ⟨rfl,hb⟩
  exact⟨F,rfl,(cG ce cj b_ rb).below h hb,ch.of hb⟩
end
def nV:cn:=⟨[],A 12 (0,0),[],[]⟩
theorem KG {w:az}{b:Nat}(h:w.heap[b]?=Z (.map #[] 0)):eM w b 0 (fun _=>Y):=by obtain⟨D,⟨d,e,hb,r⟩,c⟩:=eM.made w;rw[aP] at hb;cases hb;exact⟨D,⟨#[],0,h,r⟩,c⟩
theorem KH (fm:Fm):it [] fm=fun _=>Y:=by
 funext x
 refine l7 (fun h=>?_)
 have:=h.2.1;simp at this
theorem KI {w:az}{ce mb bp rb:Nat}{n o:Int}(hg:w.heap[ce]?=Z (E #[ak n,ak o,.map (Z mb),ak 0,ak 0,aq bp,My (au rb) 12 12] 187 (0,0)))
 (hm:w.heap[mb]?=Z (.map #[] 0))(hb:w.heap[bp]?=Z (E #[My Y 0 0,My Y 0 0] 153 (0,0)))(hr:w.heap[rb]?=Z (E (ev (A 12 (0,0))).toArray 97 (0,0))):
 (cG ce n o rb).J (fun b=>b=ce\/b=mb\/b=bp\/b=rb) nV w:=by
 have n1:ce≠mb:=fun e=>by rw[e,hm] at hg;cases hg
 have c:ce≠bp:=fun e=>by rw[e,hb] at hg;simp at hg
 have d:ce≠rb:=fun e=>by rw[e,hr] at hg;simp at hg
 have n4:mb≠bp:=fun e=>by rw[e,hb] at hm;cases hm
 have f:mb≠rb:=fun e=>by rw[e,hr] at hm;cases hm
 have g:bp≠rb:=fun e=>by rw[e,hr] at hb;simp at hb
 have o1:∀b,(if b=ce then 1 else if b=mb then 2 else if b=bp then 3 else if b=rb then 4 else 0)≠(0:Nat)↔b=ce\/b=mb\/b=bp\/b=rb:=fun b=>by
  by_cases j:b=ce
  ·simp[j]
  ·by_cases l:b=mb
   ·simp[l,n1.symm]
   ·by_cases m:b=bp
    ·simp[m,c.symm,n4.symm]
    ·by_cases p:b=rb
     ·simp[p,d.symm,f.symm,g.symm]
     ·simp[j,l,m,p]
 refine⟨⟨fun b=>if b=ce then 1 else if b=mb then 2 else if b=bp then 3 else if b=rb then 4 else 0,mb,bp,rb,fun _=>(Y,0),0,0,Y,0,Y,0⟩,?_,rfl,fun b=>(o1 b).symm⟩
 refine {blk:=hg,bo:=by dsimp only;rw[aJ rfl],g2:=?_,g3:=?_,g4:=?_,lt:=fun b h=>?_}
 ·refine {mp:=?_,mn:=aG _,dy:=?_,fl:=fun i hi=>?_,e8:=fun i hi=>?_,fF:=fun i hi=>?_,al:=aG _}
  ·show eM w mb 0 (it [] _)
   rw[KH];exact KG hm
  ·dsimp only;rw[aI n1.symm,aJ rfl]
  ·exact absurd hi.1 (by simp[nV])
  ·exact absurd hi.1 (by simp[nV])
  ·exact absurd hi.1 (by simp[nV])
 ·refine {sd:=⟨hb,bf _ _ _ _,bf _ _ _ _⟩,so:=?_,ro:=fun k e=>?_,mM:=fun k e=>?_}
  ·dsimp only;rw[aI c.symm,aI n4.symm,aJ rfl]
  ·cases e
  ·cases e
 ·refine {rt:=hr,rl:=by simp[nV],ro:=?_};dsimp only;rw[aI d.symm,aI f.symm,aI g.symm,aJ rfl]
 ·rcases(o1 b).1 h with e|e|e|e
  ·rw[e];exact lt_of_some hg
  ·rw[e];exact lt_of_some hm
  ·rw[e];exact lt_of_some hb
  ·rw[e];exact lt_of_some hr
theorem KJ (n o:Nat)(w:az)(h0:16<=n)(B:n<=256)(N:o<=1024):
 Calls O 67 #[ak n,ak o] w fun e w'=>∃ce rb F,e=MD (a6 #[aq ce,bF #[ak 0,ak 0]])/\(cG ce n o rb).J F nV w'/\(∀b,F b->I (G w)<=b)/\C (I (G w)) w w':=by
 have a1:=@run_makeMap O;have S:=aw w (E #[U Q 0,U Q 0] 28)
 have P:=IC n o (bE w (E #[U Q 0,U Q 0] 28)) h0 B N;have W:=aP w (E #[U Q 0,U Q 0] 28)
 have an:I (G w)<I (G (bE w (E #[U Q 0,U Q 0] 28))):=ac;have ab:=hide S;clear S h0 B N;go_enter func67,ntmps67;go_wp2_with fail;generalize bE w (E #[U Q 0,U Q 0] 28)=w0 at*;generalize ao:I (G w)=fb at*;refine P.mono ?_;clear P;rintro e w1 ⟨hp,rfl,t⟩
 have u:=(t.block fb an).trans W;have ap:=hide (ab.o.trans (t.mono aa))
 have ar:=lt_of_some u;clear t W ab;have B1:=(((aw w1 (E #[U Q 0,U Q 0] 28)).alloc ac (.map #[] 0)).alloc (by simp;omega) (E #[My Y 0 0,My Y 0 0] 153)).alloc (by simp;omega) (E #[U Q 0,U Q 0] 97)
 have m1:(bE (bE (bE (bE w1 (E #[U Q 0,U Q 0] 28)) (.map #[] 0)) (E #[My Y 0 0,My Y 0 0] 153)) (E #[U Q 0,U Q 0] 97)).heap[I (G w1)+1]?=Z (.map #[] 0):=by rw[aS _ _ _ ac,aS _ _ _ ac];exact hZ w1 _ _
 have f:(bE (bE (bE (bE w1 (E #[U Q 0,U Q 0] 28)) (.map #[] 0)) (E #[My Y 0 0,My Y 0 0] 153)) (E #[U Q 0,U Q 0] 97)).heap[I (G w1)+1+1]?=Z (E #[My Y 0 0,My Y 0 0] 153 (0,0)):=by
  rw[aS _ _ _ ac];have:=hZ (bE w1 (E #[U Q 0,U Q 0] 28)) (.map #[] 0) (E #[My Y 0 0,My Y 0 0] 153)
  simpa using this
 have ad:(bE (bE (bE (bE w1 (E #[U Q 0,U Q 0] 28)) (.map #[] 0)) (E #[My Y 0 0,My Y 0 0] 153)) (E #[U Q 0,U Q 0] 97)).heap[I (G w1)+1+1+1]?=Z (E #[ak 0,ak 0] 97 (0,0)):=by
  have:=aP ((bE (bE (bE w1 (E #[U Q 0,U Q 0] 28)) (.map #[] 0)) (E #[My Y 0 0,My Y 0 0] 153))) (E #[U Q 0,U Q 0] 97)
  simpa using this
 have q:I (G (bE (bE (bE (bE w1 (E #[U Q 0,U Q 0] 28)) (.map #[] 0)) (E #[My Y 0 0,My Y 0 0] 153)) (E #[U Q 0,U Q 0] 97)))=I (G w1)+1+1+1+1:=ac;obtain⟨v0,v1,_,_⟩:=dt ad;have ag:=Br _ (I (G w1)+1+1+1) 12 (0,0) ae v0 v1;have l:=(B1.block fb ar).trans u;have ai:=wA B1 m1 f l q;clear B1 m1 f ad v0 v1 u l q;go_wp2_with fail;generalize bE (bE (bE (bE w1 (E #[U Q 0,U Q 0] 28)) (.map #[] 0)) (E #[My Y 0 0,My Y 0 0] 153)) (E #[U Q 0,U Q 0] 97)=a2 at*;refine ag.mono ?_;clear ag;rintro e c ⟨nb,rfl,aB,al,g⟩
 obtain⟨B1,m1,f,l,q⟩:=ai.o;have i:=(g.block fb aa).trans l;have aF:aA (_/\_/\_/\I (G w1)+1+1<nb/\_/\_):=
  ⟨(g.block _ aa).trans m1,(g.block _ aa).trans f,al,aa,(ap.o.trans (B1.mono aa)).trans (g.mono aa),lt_of_some ((g.block _ aa).trans f)⟩
 have y0:V c (av fb 0)=Z (ak 0):=aD i
 have y1:V c (av fb 1)=Z (ak 0):=aD i
 have z0:bO c (av fb 0)=K:=aE i
 have a3:bO c (av fb 1)=K:=aE i
 have aR:=lt_of_some i;clear i g al aB B1 m1 f l q ai;go_wp2_with fail;obtain⟨d,hW1⟩:∃d,d=ay (ay c ⟨fb,0,Y⟩ (U Q 0)) ⟨fb,1,Y⟩ (U Q 0):=⟨_,rfl⟩
 rw[<-hW1];have v0:V d (av fb 0)=Z (ak 0):=by exact ud
 have v1:V d (av fb 1)=Z (ak 0):=by rw[hW1];exact bc _ _ _ ((aY c ⟨fb,0,Y⟩ ⟨fb,1,Y⟩ _ ac).trans y1)
 have s:Fr (fun k=>k=fb) c d:=by rw[hW1];exact((Fr.refl (fun k=>k=fb) c).set fb 0 _ rfl).set fb 1 _ rfl
 have am:I (G d)=I (G c):=by rw[hW1];simp
 clear hW1;obtain⟨k1,aV,x,a4,k5,k6⟩:=aF.o;have j:=aw d (E #[U Q n,U Q o,.map (Z (I (G w1)+1)),U Q 0,U Q 0,bL (Z ⟨I (G w1)+1+1,0,Y⟩),My (Z ⟨nb,0,Y⟩) 12 12] 187)
 have hg:=aP d (E #[U Q n,U Q o,.map (Z (I (G w1)+1)),U Q 0,U Q 0,bL (Z ⟨I (G w1)+1+1,0,Y⟩),My (Z ⟨nb,0,Y⟩) 12 12] 187)
 rw[am] at hg;have g0:=(j.cell (p:=av fb 0) (by show fb<_;omega)).trans v0;have g1:=(j.cell (p:=av fb 1) (by show fb<_;omega)).trans v1;have J:=KI hg ((j.block _ aa).trans ((s.block _ aa (fun e=>by have e:=e;omega)).trans k1)) ((j.block _ aa).trans ((s.block _ aa (fun e=>by have e:=e;omega)).trans aV)) ((j.block _ (by rw[am];exact lt_of_some x)).trans ((s.block _ (lt_of_some x) (fun e=>by have e:=e;omega)).trans x))
 have a0:=k5.trans (s.below (yB aR) (fun k e=>tF (CB e)))
 refine a7 (v:=a6 #[aq (I (G c)),bF #[ak 0,ak 0]]) (by simp only [results,results67];simp[go_sem,g0,g1]) rfl ⟨I (G c),nb,_,rfl,J,fun b m=>?_,by rw[ao];exact a0.trans (j.mono aa)⟩
 rcases m with m|m|m|m<;>omega
structure fP (B:Nat)(w w':az):Prop where
 os:w'.os=w.os
 tape:w'.tape=w.tape
 output:w'.output=w.output
 size:I (G w)<=I (G w')
 low:∀k:Nat,k<I (G w)->k<B->w'.heap[k]?=w.heap[k]?
 iD:∀(k:Nat) cs e m,w.heap[k]?=Z (Obj.cells cs e m)->e≠231->e≠107->w'.heap[k]?=w.heap[k]?
section
variable {B:Nat}{w w' w'':az}
theorem fP.refl (B:Nat)(w:az):fP B w w:=⟨rfl,rfl,rfl,aG _,fun _ _ _=>rfl,fun _ _ _ _ _ _ _=>rfl⟩
theorem fP.trans (h:fP B w w')(k:fP B w' w''):fP B w w'':=
 ⟨k.os.trans h.os,k.tape.trans h.tape,k.output.trans h.output,aU h.size k.size,fun i hi hb=>(k.low i (aO hi h.size) hb).trans (h.low i hi hb),fun i b e m hi c d=>(k.iD i b e m (by grind [iD]) c d).trans (by grind [iD])⟩
theorem fP.of (h:C (I (G w)) w w'):fP B w w':=⟨h.os,h.tape,h.output,h.size,fun k hk _=>h.block k hk,fun k _ _ _ hi _ _=>h.block k (by grind)⟩
theorem fP.below (h:fP B w w')(hB:B<=I (G w)):C B w w':=⟨h.os,h.tape,h.output,h.size,fun k hk=>h.low k aa hk⟩
theorem fP.set {pk o:Nat}{b:Array bj}{m:Nat×Nat}{e:TypeId}{v:bj}(hp:w.heap[pk]?=Z (E b e m))(he:e=231\/e=107)(hB:B<=pk):fP B w (ay w ⟨pk,o,Y⟩ v):=
 ⟨rfl,rfl,rfl,by simp_all,fun k _ hk=>(by grind [aX]),fun k c d f hk g i=>(by grind [aX])⟩
theorem fP.grown {row:Option Nat}(g:w.grownBy w' row)(hr:∀k,row=Z k->B<=k/\∀b e m,w.heap[k]?=Z (E b e m)->e=231\/e=107):fP B w w':=
 ⟨g.os,g.tape,g.output,g.size,fun k hk hb=>(by grind [World.grownBy.block]),fun k b e m hk c d=>(by grind [World.grownBy.block])⟩
theorem fL.mT {ad:Option bI}{l:List _}(h:fL w ad l)(k:fP B w w'):fL w' ad l:=by
 have hk:0<Mx l->∀b,ad=Z b->w'.heap[b.block]?=w.heap[b.block]?:=fun hp b e=>by
  obtain⟨c,d,f,g,hb⟩:=h.2 hp
  grind [fP.iD]
 refine⟨h.1.keep k.size hk,fun hp=>?_⟩
 obtain⟨c,d,f,g,hb⟩:=h.2 hp
 grind
end
def fX (w0 w:az)(m:List dZ)(w':az)(b:List dZ):Prop:=fP (I (G w0)) w w'/\∀k,fM b k->fM m k\/I (G w)<=k
theorem fX.refl (w0 w:az)(m:List dZ):fX w0 w m w m:=⟨fP.refl _ _,fun _ h=>aM h⟩
theorem fX.trans {w0 w w' b:az}{m d e:List dZ}(h:fX w0 w m w' d)(k:fX w0 w' d b e):fX w0 w m b e:=
 ⟨h.1.trans k.1,fun i hi=>(k.2 i hi).elim (h.2 i) (fun c=>aK (aU h.1.size c))⟩
theorem fX.of {w0 w w':az}{m:List dZ}(h:C (I (G w)) w w'):fX w0 w m w' m:=⟨fP.of h,fun _ h=>aM h⟩
theorem fX.new {w0 w w' b:az}{m c:List dZ}{X:Nat->Prop}(h:fX w0 w m w' c)(f:Fr X w' b)(j:∀k,X k->I (G w)<=k):fX w0 w m b c:=
 ⟨⟨f.os.trans h.1.os,f.tape.trans h.1.tape,f.output.trans h.1.output,aU h.1.size f.size,fun k hk hb=>(f.block k (aO hk h.1.size) (by grind)).trans (h.1.low k hk hb),
  fun k d e mm hk g i=>(f.block k (aO (by grind) h.1.size) (by grind)).trans (h.1.iD k d e mm hk g i)⟩,h.2⟩
def kW (ms:List Int)(x:Int):Option Value:=if bQ ms x=ML then Z (ak (ms.idxOf x:Int)) else Y
theorem KK {ms:List Int}{a:Int}(hn:a∉ms):jX (kW ms) a (ak (Mx ms))=kW (ms++[a]):=by
 funext b
 unfold jX kW
 grind
theorem Bv {ms:List Int}{a:Int}(h:a∉ms):kW ms a=Y:=by grind [kW]
theorem KL {ms:List Int}{a:Int}(h:a∈ms):kW ms a=Z (ak (ms.idxOf a:Int)):=by grind [kW]
structure fH (w0 w:az)(kb cu ce:Nat)(s:cX)(vn:bj)(m:List dZ):Prop where
 blk:w.heap[kb]?=Z (E #[aq ce,.map (Z cu),vn] 231 (0,0))
 lo:I (G w0)<=kb/\I (G w0)<=cu
 mp:eM w cu (Mx s.1) (kW s.1)
 row:aC w (I (G w0)) 107 2 vn (Mx m) (nv m)
 nd:iA m=s.2
 fl:∀x∈m,fL w x.2.1 x.2.2.2
 eV:C (I (G w0)) w0 w
section
variable {w0 w w':az}{kb cu ce:Nat}{s:cX}{vn:bj}{m:List dZ}
theorem fH.below (h:fH w0 w kb cu ce s vn m)(hb:C (I (G w)) w w'):fH w0 w' kb cu ce s vn m:=
 ⟨(by grind [blk,Below.block]),h.lo,h.mp.same (hb.block cu h.mp.lt),cM h.row (fun k hk=>hb.block k (cv h.row k hk).2),h.nd,fun x b=>(h.fl x b).mT (fP.of (B:=0) hb),h.eV.trans (hb.mono h.eV.size)⟩
theorem fH.cells (h:fH w0 w kb cu ce s vn m):V w (av kb 0)=Z (aq ce)/\V w (av kb 1)=Z (.map (Z cu))/\V w (av kb 2)=Z vn/\kb<I (G w):=
 ⟨by simp[World.cell?,h.blk],by simp[World.cell?,h.blk],by simp[World.cell?,h.blk],lt_of_some h.blk⟩
theorem fH.len (h:fH w0 w kb cu ce s vn m):Mx m=Mx s.2:=by rw[<-h.nd];simp[iA]
theorem fH.fb (h:fH w0 w kb cu ce s vn m)(k:Nat)(hk:fM m k):k<I (G w):=by
 obtain⟨x,c,hl,o,e⟩:=hk;obtain⟨b,o',d,f,hb⟩:=(h.fl x c).2 hl
 grind
theorem fH.but {X:Nat->Prop}(h:fH w0 w kb cu ce s vn m)(f:Fr X w w')(g:∀k,k<I (G w)->X k->(∃d,w.heap[k]?=Z (E d 97 (0,0)))/\¬fM m k/\I (G w0)<=k):fH w0 w' kb cu ce s vn m:=by
 obtain⟨p,q,t⟩:=h.mp.blk;have n1:¬X kb:=fun c=>by
  obtain⟨⟨d,hc⟩,_⟩:=g kb (lt_of_some h.blk) c;rw[h.blk] at hc
  grind
 have u:¬X cu:=fun c=>by grind
 refine⟨(by grind [Fr.block,blk]),h.lo,h.mp.same (by grind [Fr.block]),cM h.row (fun k hk=>f.block k (cv h.row k hk).2 (fun c=>?_)),h.nd,fun x j=>?_,h.eV.trans ⟨f.os,f.tape,f.output,f.size,fun k hk=>f.block k (aO hk h.eV.size) (fun c=>by have:=(g k (aO hk h.eV.size) c).2.2;omega)⟩⟩
 ·obtain⟨⟨d,hc⟩,_⟩:=g k (cv h.row k hk).2 c;obtain⟨v,B⟩:=fw h.row k hk
  grind
 ·have hl:=h.fl x j;have hk:0<Mx x.2.2.2->∀b,x.2.1=Z b->w'.heap[b.block]?=w.heap[b.block]?:=fun hp b e=>by obtain⟨o,l,d,i,hb⟩:=hl.2 hp;have n:=e;rw[i] at n;cases n;exact f.block _ (by grind) (fun c=>(g _ (by grind) c).2.1 ⟨x,j,hp,l,i⟩)
  refine⟨hl.1.keep f.size hk,fun hp=>?_⟩
  obtain⟨o,l,d,i,hb⟩:=hl.2 hp
  grind
end
def hI (T:List cJ)(wt:List cf)(a:Int):List (Int×Int):=if(X T (MJ a) t0).1=5 then(eF wt a).map (fun x=>((3:Int),x)) else(X T (MJ a) t0).2.1
theorem KM {T:List cJ}{wt:List cf}{a:Int}(b:(X T (MJ a) t0).1=5->(X T (MJ a) t0).2.1=[]):(hI T wt a).map fZ=f3 T wt a:=by
 unfold hI f3;by_cases c:(X T (MJ a) t0).1=5
 ·rw[aJ c,aJ c,b c];simp[eF,fZ]
 ·rw[aI c,aI c,List.append_nil]
section
variable {ce:Nat}{cj b_:Int}{l:hD}{s:cn}{w:az}
theorem KN (h:dQ ce cj b_ l s w)(ag:Nat)(hk:V w (av ag 0)=Z (aq ce))(a:Int)(ha:0<=a/\cA s.T (MJ a))(bt:Mx s.T<=10000)(hw:Mx s.wt<=10000):
 J O 254 #[aq ag,ak a] w fun e w'=>∃ad cap,e=MD (My ad (Mx (hI s.T s.wt a)) cap)/\fL w' ad (hI s.T s.wt a)/\C (I (G w)) w w':=by
 obtain⟨aF,hi,aR,aV,a0⟩:=bV r_;have al:a<10000:=by have:=ha.2.1;omega
 have L:=h.g2.mp.look (t:=184) (e:=220) underlying184 (mN w) (x:=a) ha.1 aa;rw[jA ha] at L;dsimp only [Option.getD_some,gm,eR] at L;obtain⟨_,_,c2,_,_,c5,_,_,bx⟩:=h.cells;have lk:=aT w _ hk;have ai:=fL.of (h.g2.fl (MJ a) ha.2)
 have b1:=aw w (E #[U Q (X s.T (MJ a) t0).1,My (l.fm (MJ a)).1 (Mx (X s.T (MJ a) t0).2.1) (l.fm (MJ a)).2] 220)
 have am:=ai.mT (fP.of (B:=0) b1)
 have g1:=h.below b1;have F:=tP _ l.bp _ l.a1 l.k1 s.wt a g1.g3.sd.blk (ik g1.g3.sd.q0) aa;have a1:=aU (pB s.wt a) hw;by_cases g:(X s.T (MJ a) t0).1=5
 ·have v:hI s.T s.wt a=(eF s.wt a).map (fun x=>((3:Int),x)):=by unfold hI;rw[aJ g]
  rw[v];rw[g] at L b1 F;have i:=hide b1;generalize (l.fm (MJ a)).1=ad at*;generalize (l.fm (MJ a)).2=cp at*;generalize Mx (X s.T (MJ a) t0).2.1=n at*;generalize eF s.wt a=A at*;rw[aZ];go_enter func254,ntmps254;go_wp2_with fail;refine F.mono ?_;rintro e w1 ⟨b0,gG,rfl,a2,a3⟩
  have an:=hide (i.o.trans (a3.mono i.o.size))
  have a4:=hide (hK a2)
  have s1:=an.o.size;go_wp2_with fail
  go_loopw [6,33] (fun tv iv wr=>∃(j:Nat)(c:Option bI)(d:Nat),j<=Mx A/\iv=ak j/\tv=My c j d/\aC wr (I (G w1)) 97 2 (My c j d) j (ev ((A.take j).map (fun x=>((3:Int),x))))/\C (I (G w1)) w1 wr) (fun _ iv _=>Mx A-MJ (bN iv))
  exact⟨0,Y,0,a5 _,rfl,rfl,bf _ _ _ _,aH _ _⟩
  ·
    obtain⟨j,c,d,b,rfl,rfl,m,hb⟩:=hrel;by_cases ao:j<Mx A
    ·obtain⟨ba,o,bb,lb,bd⟩:=a4.o aa;have hc:=(hb.cell (p:=av ba (o+j)) lb).trans (bd j ao)
     have ap:aA (ev ((A.take (j+1)).map (fun x=>((3:Int),x)))=ev ((A.take j).map (fun x=>((3:Int),x)))++[ak 3,ak (X A j 0)]):=by show _=_;rw[gX A j ao 0,jw,jg];rfl
     subst bb;have be:=hb.size;generalize X A j 0=y at*;generalize ev ((A.take j).map (fun x=>((3:Int),x)))=L at*;go_wp2_with fail;refine(oT y wr).mono ?_;rintro e bg ⟨rfl,N⟩
     have S:=cM m (fun k e=>N.block k (cv m k e).2)
     have W:=hb.trans (N.mono be)
     have bi:=W.size;clear m hb N hc;go_wp2_with (at_builtin;refine bW _ rfl _ _ 57 rfl (I (G w1)) 97 aF (bF #[ak 0,ak 0]) 2 16 underlying57 hi aR aV a0 rfl ae (My c j d) j L rfl (ga S _) ⟨I (G bg),0,Y⟩ 1 1 [ak 3,ak y] rfl rfl ?_ ?_ ?_ ?_ ?_ ?_;(intro j u b;match j,b with|0,b=>(simp at b;subst b;simp[Addr.add])|1,b=>(simp at b;subst b;simp[Addr.add]));(intro u q;simp at q;rcases q with q|q<;>(subst q;rfl));(unfold bY;omega);omega;(simp;omega);intro b2 bl ab ar _ bn;obtain⟨b4,aB,bo⟩:=eS ab (jl _);subst bo)
     have bp:aC bl (I (G w1)) 97 2 (My (au b4) (j+1) aB) (j+1) (ev ((A.take (j+1)).map (fun x=>((3:Int),x)))):=by rw[ap.o];exact ab
     have br:=(W.alloc bi _).grown ar (by simp;omega) (fun k e=>(cv S k e.symm).1)
     clear ab ar bn S W ap;go_wp2_with fail;go_roundw;exact⟨j+1,au b4,aB,aa,aj,rfl,bp,br⟩
     simp[bN];omega
    ·obtain rfl:j=Mx A:=aa;rw[bv] at m;go_wp2_with fail;go_ret;refine⟨c,d,rfl,?_,an.o.trans (hb.mono s1)⟩
     have bs:aC wr (I (G w1)) 97 2 (My c (Mx (A.map (fun x=>((3:Int),x)))) d) (Mx (A.map (fun x=>((3:Int),x)))) (ev (A.map (fun x=>((3:Int),x)))):=by rw[aZ];exact m
     exact fL.of bs
 ·have v:hI s.T s.wt a=(X s.T (MJ a) t0).2.1:=by unfold hI;rw[aI g]
  rw[v];have k5:((X s.T (MJ a) t0).1!=5)=ML:=by simpa using g
  have i:=c8 am b1;clear v g ai am g1 b1 h ha F a1;generalize (X s.T (MJ a) t0).2.1=f at*;generalize (l.fm (MJ a)).1=ad at*;generalize (l.fm (MJ a)).2=cp at*;generalize (X s.T (MJ a) t0).1=kd at*;go_enter func254,ntmps254;go_wp2_with fail;go_ret;exact⟨ad,⟨cp,rfl⟩,i.o.1,i.o.2⟩
end
def qd (w0:az)(b cu ce:Nat)(T:List cJ)(M:cX->Int->cX)(n:Nat):Prop:=
 ∀(w:az)(s:cX)(d:bj)(m:List dZ)(a:Int),fH w0 w b cu ce s d m->ft (tI (Mx T)) s->0<=a/\cA T (MJ a)->a∉s.1->Mx T<=Mx s.1+n->
  J O 251 #[aq b,ak a] w fun e w'=>∃f c,e=MD (ak (Mx s.1))/\fH w0 w' b cu ce (M s a) f c/\fX w0 w m w' c
def mU (s:cX)(a:Int):Int:=if bQ s.1 a=ML then(s.1.idxOf a:Int) else Mx s.1
def mV (M:cX->Int->cX)(s:cX)(a:Int):cX:=if bQ s.1 a=ML then s else M s a
theorem KO {T:List cJ}{M:cX->Int->cX}{s:cX}{v:Int×Int}(h:fp T v)(b:v.1=3):eH M (tI (Mx T)) s (fZ v)=((3,mU s v.2),mV M s v.2):=by
 unfold mU mV;cases hs:bQ s.1 v.2
 ·rw[Dp h b hs,aI ac,aI ac]
 ·rw[Do h b hs,aJ rfl,aJ rfl]
theorem KP (w:az):(zeroValue 2).run O w=.ok (ak 0) w:=ah
section
variable {w0 w:az}{kb cu ce n:Nat}{T:List cJ}{kd:Int->Int}{sh:Int->List Int}{M:cX->Int->cX}{s:cX}{vn:bj}{m:List dZ}
theorem KQ (hM:qd w0 kb cu ce T M n)(h:fH w0 w kb cu ce s vn m)(ho:ft (tI (Mx T)) s)(hn:Mx T<=Mx s.1+n)(a:Int)(ha:0<=a/\cA T (MJ a))(o:Mx T<=10000):
 J O 240 #[aq kb,ak a] w fun e w'=>∃d c,e=MD (ak (mU s a))/\fH w0 w' kb cu ce (mV M s a) d c/\fX w0 w m w' c:=by
 have H:=hide h;have k:=hide hM;obtain⟨c0,c1,c2,lk⟩:=h.cells;have al:a<10000:=by have:=ha.2.1;omega
 have L:=h.mp.look_ok (t:=229) (e:=2) underlying229 (KP w) (x:=a) ha.1 aa;by_cases b:a∈s.1
 ·rw[KL b] at L;have f:mU s a=(s.1.idxOf a:Int):=by unfold mU;rw[aJ (by simpa using b)]
  have g:mV M s a=s:=by unfold mV;rw[aJ (by simpa using b)]
  rw[f,g];generalize s.1.idxOf a=j at L⊢;go_enter func240,ntmps240;go_wp2;go_ret;exact⟨vn,m,rfl,H.o,fX.refl _ _ _⟩
 ·rw[Bv b] at L;have f:mU s a=Mx s.1:=by unfold mU;rw[aI (by simpa using b)]
  have g:mV M s a=M s a:=by unfold mV;rw[aI (by simpa using b)]
  rw[f,g];have P:=k.o w s vn m a H.o ho ha b hn;generalize M s a=p at P⊢;generalize Mx s.1=j at P⊢;go_enter func240,ntmps240;go_wp2_with fail;refine P.mono ?_;rintro e w1 ⟨d,c,rfl,l,k1⟩
  have i:=c8 l k1;go_wp2;go_ret;exact⟨d,c,rfl,i.o.1,i.o.2⟩
theorem Bw (hM:qd w0 kb cu ce T M n)(b2:lI (tI (Mx T)) kd sh n M)(h:fH w0 w kb cu ce s vn m)(ho:ft (tI (Mx T)) s)(hn:Mx T<=Mx s.1+n)(b3:Mx T<=10000)(l:List (Int×Int))(hq:∀v∈l,fp T v)(ad:Option bI)(cap:Nat)(hl:fL w ad l)(hm:Mx l<=100000):
 J O 211 #[aq kb,My ad (Mx l) cap] w fun e w'=>∃ci a0 a2 c2,e=MD (My a2 (Mx l) c2)/\aC w' w.heap.size 97 2 (My a2 (Mx l) c2) (Mx l) (ev (dF M (tI (Mx T)) s (l.map fZ)).1)/\fH w0 w' kb cu ce (dF M (tI (Mx T)) s (l.map fZ)).2 ci a0/\fX w0 w m w' a0/\(∀k,fM a0 k->Z k≠MP (Value.slice a2 (Mx l) c2)):=by
 obtain⟨a1,hi,a3,a4,ba⟩:=bV r_;have cj:=hide hM;have ck:=hide b2;have cl:=hide hl;have ap:=hide h;have cm:=c8 ho hn;have cn:=hide hq;have co:=hide b3;clear hM b2 hl h ho hq hn b3;go_enter func211,ntmps211;go_wp2_with (at_make;refine wpList_make_own _ rfl _ _ 57 rfl w.heap.size 97 a1 (bF #[ak 0,ak 0]) 2 underlying57 hi a3 a4 Q Q _ (Mx l) rfl rfl rfl (by rw[ba];omega) (by unfold bY;omega) b8 ?_;intro w1 b5 b6)
 have bb:=(ax w).grown b6 b8 (fun k e=>by cases e)
 go_loopw [5,13] (fun tv iv wr=>∃(j:Nat)(i:List (Int×Int))(s1:cX)(ar:bj)(m1:List dZ)(a2:Option bI)(c2:Nat),j<=Mx l/\iv=ak j/\aA (dF M (tI (Mx T)) s ((l.take j).map fZ)=(i,s1))/\tv=My a2 j c2/\aC wr w.heap.size 97 2 (My a2 j c2) j (ev i)/\aA (fH w0 wr kb cu ce s1 ar m1)/\aA (fX w0 w m wr m1)/\aA (∀k,fM m1 k->Z k≠MP (Value.slice a2 j c2))/\aA (ft (tI (Mx T)) s1/\Mx T<=Mx s1.1+n)) (fun _ iv _=>Mx l-MJ (bN iv))
 ·exact⟨0,[],s,vn,m,_,_,a5 _,rfl,rfl,rfl,b5,ap.o.below bb,fX.of bb,fun k hk e=>by have:=ap.o.fb k hk;simp[Value.ownBlock] at e;omega,cm.o⟩
 ·
   obtain⟨j,i,s1,ar,m1,a2,c2,b,rfl,bd,rfl,q,B,F,aB,N⟩:=hrel;clear b5 b6 bb;by_cases be:j<Mx l
   ·obtain⟨cE,cF,cp,cG,hc⟩:=(cl.o.mT F.o.1).1 aa;obtain⟨cq,cr⟩:=hc j be;subst cp;clear hc;have aF:=cn.o _ (getD_in (x:=(0,0)) be)
    have o:=sD M (tI (Mx T)) s ((l.take j).map fZ) (fZ (X l j (0,0)))
    rw[bd.o] at o;have ca:(l.take (j+1)).map fZ=(l.take j).map fZ++[fZ (X l j (0,0))]:=by rw[gX l j be (0,0),jw];rfl
    rw[<-ca] at o;have G:=o9 ck.o N.o.1 (by rw[lM];exact N.o.2) (fZ (X l j (0,0)))
    have S:aA (_/\Mx T<=Mx (eH M (tI (Mx T)) s1 (fZ (X l j (0,0)))).2.1+n):=⟨G.ok,by have:=G.le;have:=N.o.2;omega⟩
    have o:=hide o;clear G ca;generalize X l j (0,0)=v at*;obtain⟨v0,v1⟩:=v;dsimp only at cq cr;have cH:IntKind.i64.wrap ((j:Int)+1)=(j:Int)+1:=by rw[bw];omega
    have d:=aw wr (E #[U Q v0,U Q v1] 97)
    have bg:=aP wr (E #[U Q v0,U Q v1] 97)
    have cI:=F.o.1.size;by_cases cb:v0=3
    ·subst cb;have aR:=KO (M:=M) (s:=s1) aF rfl;rw[aR] at o S;dsimp only at o S;have P:=KQ cj.o (B.o.below d) N.o.1 N.o.2 v1 (aF.2 rfl) co.o;clear aR aF;generalize mU s1 v1=z at*;generalize mV M s1 v1=s2 at*;go_wp2_with fail;refine P.mono ?_;rintro e f ⟨cs,W,rfl,ct,ab⟩
     have cc:=(ab.1.iD _ _ _ _ bg ae ae).trans bg;obtain⟨cw,y1,cx,cy⟩:=dt cc;have cd:=cM q (fun k hk=>by obtain⟨aV,ag⟩:=fw q k hk;have cf:=d.block k (cv q k hk).2;exact(ab.1.iD k _ _ _ (cf.trans ag) ae ae).trans cf)
     have cg:aA (∀k,fM W k->_):=fun k hk e=>(ab.2 k hk).elim (fun c=>aB.o k c e) (fun c=>by have:=(cv q k e).2;simp at c;omega)
     have ch:fX w0 wr m1 f W:=(fX.of d).trans ab;have cz:¬fM W wr.heap.size:=fun c=>(ab.2 _ c).elim (fun c=>by have:=B.o.fb _ c;omega) (fun c=>by simp at c;omega)
     have bi:Fr (fun k=>k=wr.heap.size) f (ay f ⟨wr.heap.size,1,Y⟩ (U Q z)):=(Fr.refl (fun k=>k=wr.heap.size) f).set wr.heap.size 1 _ rfl;have ai:=hide (ct.but bi (fun k _ e=>by have e:=e;rw[e];exact⟨⟨_,cc⟩,cz,by have:=B.o.eV.size;omega⟩))
     have bl:=hide (F.o.trans (ch.new bi (fun k e=>by have e:k=wr.heap.size:=e;omega)))
     have al:aC (ay f ⟨wr.heap.size,1,Y⟩ (U Q z)) w.heap.size 97 2 (My a2 j c2) j (ev i):=cM cd (fun k hk=>bi.block k (cv cd k hk).2 (fun c=>by have c:k=wr.heap.size:=c;have:=(cv q k hk).2;omega))
     have q0:V (ay f ⟨wr.heap.size,1,Y⟩ (U Q z)) (av wr.heap.size 0)=Z (ak 3):=(aY f ⟨wr.heap.size,1,Y⟩ ⟨wr.heap.size,0,Y⟩ _ ac).trans cw;have q1:V (ay f ⟨wr.heap.size,1,Y⟩ (U Q z)) (av wr.heap.size 1)=Z (ak z):=bc _ _ _ y1;have cA:(ay f ⟨wr.heap.size,1,Y⟩ (U Q z)).heap.size=f.heap.size:=by simp[World.setCell]
     have cB:=cx 1;have cC:=ch.1.size
     go_upto_region 7 with fail
     generalize ay f ⟨wr.heap.size,1,Y⟩ (U Q z)=t at*;have p:=hide al;have cJ:w.heap.size<=t.heap.size:=aa;clear y1 cB cy cA cC;go_wp2_with (at_builtin;refine bW _ rfl _ _ 57 rfl w.heap.size 97 a1 (bF #[U Q 0,U Q 0]) 2 16 underlying57 hi a3 a4 ba rfl ae (My a2 j c2) j (ev i) rfl (ga al _) ⟨t.heap.size,0,Y⟩ 1 1 [U Q 3,U Q z] rfl rfl ?_ ?_ ?_ ?_ ?_ ?_;(intro j u b;match j,b with|0,b=>(simp at b;subst b;simp[Addr.add])|1,b=>(simp at b;subst b;simp[Addr.add]));(intro u g;simp at g;rcases g with g|g<;>(subst g;rfl));(unfold bY;omega);omega;(simp;omega);intro cD bn am bo _ bp;obtain⟨b4,an,br⟩:=eS am (jl _);subst br)
     have bs:aC bn w.heap.size 97 2 (My (au b4) (j+1) an) (j+1) (ev (i++[(3,z)])):=by rw[jg];simpa[ev] using am
     have d:=aw t (E #[U Q 3,U Q z] 97)
     have ao:=(Fr.refl _ _).grown bo (fun k e=>aM e.symm)
     have bt:=hide ((ai.o.below d).but ao (fun k _ e=>by obtain⟨aV,ag⟩:=fw p.o k e;exact⟨⟨aV,(d.block k (cv p.o k e).2).trans ag⟩,fun c=>cg.o k c e,aU ap.o.eV.size (cv p.o k e).1⟩))
     have bx:=hide ((bl.o.trans (fX.of d)).new ao (fun k e=>(cv p.o k e).1))
     have b0:=bp.imp id (fun e=>by simpa[Value.ownBlock] using e)
     have b1:aA (∀k,fM W k->Z k≠Z b4):=fun k hk e=>b0.elim (fun c=>cg.o k hk (e.trans c)) (fun c=>by have:=ai.o.fb k hk;simp at e;omega)
     go_wp2_with fail;go_roundw;exact⟨j+1,i++[(3,z)],s2,cs,W,au b4,an,aa,aj,o,rfl,bs,bt,bx,b1,S⟩
     simp[bN];omega
    ·have aR:=Dl (M:=M) (s:=s1) aF cb;rw[aR] at o S;have ai:=hide (B.o.below d)
     have bl:=hide (F.o.trans (fX.of d))
     have al:=cM q (fun k hk=>d.block k (cv q k hk).2)
     obtain⟨q0,q1,_,_⟩:=dt bg
     go_upto_region 7 with fail
     generalize bE wr (E #[U Q v0,U Q v1] 97)=t at*;have p:=hide al;go_wp2_with (at_builtin;refine bW _ rfl _ _ 57 rfl w.heap.size 97 a1 (bF #[U Q 0,U Q 0]) 2 16 underlying57 hi a3 a4 ba rfl ae (My a2 j c2) j (ev i) rfl (ga al _) ⟨t.heap.size,0,Y⟩ 1 1 [U Q v0,U Q v1] rfl rfl ?_ ?_ ?_ ?_ ?_ ?_;(intro j u b;match j,b with|0,b=>(simp at b;subst b;simp[Addr.add])|1,b=>(simp at b;subst b;simp[Addr.add]));(intro u g;simp at g;rcases g with g|g<;>(subst g;rfl));(unfold bY;omega);omega;(simp;omega);intro cD bn am bo _ bp;obtain⟨b4,an,br⟩:=eS am (jl _);subst br)
     have bs:aC bn w.heap.size 97 2 (My (au b4) (j+1) an) (j+1) (ev (i++[(v0,v1)])):=by rw[jg];simpa[ev] using am
     have d:=aw t (E #[U Q v0,U Q v1] 97)
     have ao:=(Fr.refl _ _).grown bo (fun k e=>aM e.symm)
     have bt:=hide ((ai.o.below d).but ao (fun k _ e=>by obtain⟨aV,ag⟩:=fw p.o k e;exact⟨⟨aV,(d.block k (cv p.o k e).2).trans ag⟩,fun c=>aB.o k c e,aU ap.o.eV.size (cv p.o k e).1⟩))
     have bx:=hide ((bl.o.trans (fX.of d)).new ao (fun k e=>(cv p.o k e).1))
     have b0:=bp.imp id (fun e=>by simpa[Value.ownBlock] using e)
     have b1:aA (∀k,fM m1 k->Z k≠Z b4):=fun k hk e=>b0.elim (fun c=>aB.o k hk (e.trans c)) (fun c=>by have:=ai.o.fb k hk;simp at e;omega)
     go_wp2_with fail;go_roundw;exact⟨j+1,i++[(v0,v1)],s1,ar,m1,au b4,an,aa,aj,o,rfl,bs,bt,bx,b1,S⟩
     simp[bN];omega
   ·obtain rfl:j=Mx l:=aa;rw[bv] at bd;go_wp2_with fail;go_ret;rw[bd.o];exact⟨ar,m1,a2,c2,rfl,q,B.o,F.o,aB.o⟩
end
theorem KR:(prog.info? 107).map (fun i=>(i.zero,i.size,i.bytes))=Z (Z (bF #[ak 0,My Y 0 0]),2,32):=ah
section
variable {w0 w w':az}{kb cu ce:Nat}{s:cX}{vn:bj}{m:List dZ}
theorem fH.turned (h:fH w0 w kb cu ce s vn m)(f:Fr (fun k=>k=cu) w w'):fP (I (G w0)) w w'/\w'.heap[kb]?=Z (E #[aq ce,.map (Z cu),vn] 231 (0,0))/\aC w' (I (G w0)) 107 2 vn (Mx m) (nv m)/\(∀x∈m,fL w' x.2.1 x.2.2.2)/\C (I (G w0)) w0 w':=by
 obtain⟨g,i,hb⟩:=h.mp.blk;have hk:fP (I (G w0)) w w':=⟨f.os,f.tape,f.output,f.size,fun k hk hl=>f.block k hk (fun e=>by have e:=e;have:=h.lo.2;omega),fun k j e mm hk _ _=>f.block k (lt_of_some hk) (fun c=>by have c:=c;rw[c,hb] at hk;simp at hk)⟩
 refine⟨hk,(f.block kb (lt_of_some h.blk) (fun c=>?_)).trans h.blk,cM h.row (fun k e=>f.block k (cv h.row k e).2 (fun c=>?_)),fun x d=>(h.fl x d).mT hk,h.eV.trans (hk.below h.eV.size)⟩
 ·have c:=c;have:=h.blk;rw[c,hb] at this
  simp at this
 ·obtain⟨l,b⟩:=fw h.row k e;rw[c,hb] at b;simp at b
end
theorem fH.grown {w0 w p f:az}{d cu ce:Nat}{ms:List Int}{q:List _}{l i:bj}{m:List dZ}{kd:Int}
 (hk:w.heap[d]?=Z (E #[aq ce,.map (Z cu),l] 231 (0,0)))(lo:I (G w0)<=d/\I (G w0)<=cu)(hm:eM w cu (Mx ms) (kW ms))(hr:aC w (I (G w0)) 107 2 l (Mx m) (nv m))(s:iA m=q)(t:∀x∈m,fL w x.2.1 x.2.2.2)(hb:C (I (G w0)) w0 w)
 (g:C (I (G w)) w p)(h4:aC f (I (G w0)) 107 2 i (Mx m+1) (nv m++[ak kd,My Y 0 0]))(g4:p.grownBy f l.ownBlock):
 fH w0 (ay f ⟨d,2,Y⟩ i) d cu ce (ms,q++[(kd,[])]) i (m++[(kd,Y,0,[])])/\fX w0 w m (ay f ⟨d,2,Y⟩ i) (m++[(kd,Y,0,[])])/\f.heap[d]?=Z (E #[aq ce,.map (Z cu),l] 231 (0,0)):=by
 obtain⟨F,N,j⟩:=hm.blk;have u:=(fP.of g).trans (fP.grown g4 (fun k e=>⟨(cv hr k e.symm).1,fun S ty mm hc=>by obtain⟨cur,ip⟩:=fw hr k e.symm;have:=(g.block k (lt_of_some ip)).trans ip;rw[this] at hc;simp at hc;exact aK hc.2.1.symm⟩))
 have hk4:=(g4.block d (aO (lt_of_some hk) g.size) (fun e=>by obtain⟨cur,ip⟩:=fw hr d e;rw[hk] at ip;simp at ip)).trans ((g.block d (lt_of_some hk)).trans hk)
 have n:fP (I (G w0)) w (ay f ⟨d,2,Y⟩ i):=u.trans (fP.set hk4 (aM rfl) lo.1)
 have v:cu≠d:=fun e=>by rw[e,hk] at j;simp at j
 have B:(nv (m++[(kd,Y,0,[])]:List dZ))=nv m++[ak kd,My Y 0 0]:=by rw[wX];rfl
 refine⟨⟨?_,lo,?_,?_,?_,fun x b=>?_,hb.trans (n.below hb.size)⟩,⟨n,fun k hk=>?_⟩,hk4⟩
 ·simp only [World.setCell,bK,if_true,hk4,bR];rfl
 ·refine hm.same ((aX _ _ _ _ v).trans ((g4.block cu (aO (lt_of_some j) g.size) (fun e=>?_)).trans (g.block cu (lt_of_some j))))
  obtain⟨cur,ip⟩:=fw hr cu e;rw[j] at ip;simp at ip
 ·rw[B,a8];exact yU
 ·simp[iA] at s⊢;exact s
 ·rcases bD.1 b with b|b
  ·exact(t x b).mT n
  ·simp at b;subst b;exact fL.nil
 ·obtain⟨x,b,hl,o,e⟩:=hk;rcases bD.1 b with b|b
  ·exact aM ⟨x,b,hl,o,e⟩
  ·simp at b;subst b;simp at hl
theorem fH.filled {w0 w:az}{j cu ce g cap len:Nat}{s:cX}{m:List dZ}(h:fH w0 w j cu ce s (My (au g) len cap) m){i:Nat}{k0:Int}{v0:List _}(hi:s.2[i]?=Z (k0,v0)){base c2:Nat}{a2:Option bI}{b:List _}
 (hr:aC w base 97 2 (My a2 (Mx b) c2) (Mx b) (ev b)):
 fH w0 (ay w ⟨g,i*2+1,Y⟩ (My a2 (Mx b) c2)) j cu ce (s.1,s.2.set i (k0,b)) (My (au g) len cap) (m.set i (k0,a2,c2,b))/\fP (I (G w0)) w (ay w ⟨g,i*2+1,Y⟩ (My a2 (Mx b) c2))/\(∀k,fM (m.set i (k0,a2,c2,b)) k->fM m k\/base<=k):=by
 obtain⟨q,f⟩:=fw h.row g rfl;have d:fP (I (G w0)) w (ay w ⟨g,i*2+1,Y⟩ (My a2 (Mx b) c2)):=fP.set f (aK rfl) (cv h.row g rfl).1;obtain⟨x,hx,l⟩:∃x:dZ,m[i]?=Z x/\(x.1,x.2.2.2)=(k0,v0):=by exact yV
 have n:x.1=k0:=congrArg Prod.fst l;have p:len=Mx m:=by
  rcases h.row.2 with⟨hv,_⟩|⟨t,u,v,hv,_⟩
  ·simp at hv
  ·simp at hv;exact hv.2.1
 refine⟨⟨(aX _ _ _ _ (fun c=>?_)).trans h.blk,h.lo,h.mp.same (aX _ _ _ _ (fun c=>?_)),?_,?_,fun y hy=>?_,h.eV.trans (d.below h.eV.size)⟩,d,fun k hk=>?_⟩
 ·have c:=c;have:=h.blk;rw[c,f] at this
  simp at this
 ·obtain⟨B,F,hb⟩:=h.mp.blk;rw[c,f] at hb;simp at hb
 ·rw[bh,<-n,s8 m i x a2 c2 b hx];have:=h.row;rw[<-p] at this⊢
  exact nf this _ _
 ·rw[iA,List.map_set];show((iA m).set i (k0,b))=_;rw[h.nd]
 ·rcases List.mem_or_eq_of_mem_set hy with hy|hy
  ·exact(h.fl y hy).mT d
  ·subst hy;exact(fL.of hr).mT d
 ·obtain⟨y,hy,hl,o,e⟩:=hk;exact yT
theorem KT {T:List cJ}{x:Int}(h:0<=x/\cA T (MJ x))(b:Mx T<=10000):fp T (3,x):=by
 refine⟨?_,fun _=>h⟩
 have c:=h.2.1;rw[sJ];unfold rc;rw[aI aa,aI aa]
theorem KU {T:List cJ}{wt:List cf}(hv:nh T wt){a:Int}(ha:0<=a/\cA T (MJ a)):∀v∈hI T wt a,fp T v:=fun v h=>by
 unfold hI at h;split at h
 ·obtain⟨x,b,rfl⟩:=b7.1 h;unfold eF at b;obtain⟨e,he,rfl⟩:=b7.1 b;exact KT (hv.wv e (List.mem_filter.1 he).1).2 hv.l1
 ·exact hv.fv _ ha.2 v h
theorem KV {T:List cJ}{wt:List cf}(hv:nh T wt)(a:Int):Mx (hI T wt a)<=20000:=by
 unfold hI;split
 ·rw[aZ];have b:=pB wt a;have c:=hv.l2;omega
 ·have:=hv.tl (MJ a);omega
section
variable {w0:az}{kb cu ce:Nat}{cj b_:Int}{l:hD}{S:cn}
theorem KW (hg:dQ ce cj b_ l S w0)(hv:nh S.T S.wt)(ab:∀i,cA S.T i->(X S.T i t0).1=5->(X S.T i t0).2.1=[])(n:Nat)(M:cX->Int->cX)(hM:qd w0 kb cu ce S.T M n)(aB:lI (tI (Mx S.T)) (gQ S.T) (f3 S.T S.wt) n M):
 qd w0 kb cu ce S.T (fun s a=>((dF M (tI (Mx S.T)) (s.1++[a],s.2++[(gQ S.T a,[])]) (f3 S.T S.wt a)).2.1,(dF M (tI (Mx S.T)) (s.1++[a],s.2++[(gQ S.T a,[])]) (f3 S.T S.wt a)).2.2.set (Mx s.1) (gQ S.T a,(dF M (tI (Mx S.T)) (s.1++[a],s.2++[(gQ S.T a,[])]) (f3 S.T S.wt a)).1))) (n+1):=by
 intro w s cS m a h ho ha hn hl;obtain⟨cl,hi,cm,cn,co⟩:=bV KR;have aF:a∈tI (Mx S.T):=ng.2 ⟨ha.1,by have:=ha.2.1;have:=ha.1;omega⟩
 have bl:=hv.l1;have cp:=ho.lt aF hn;rw[lM] at cp;have al:a<10000:=by have:=ha.2.1;omega
 have cq:Mx m=Mx s.1:=by rw[h.len,ho.len]
 have aR:=ho.more aF hn (gQ S.T a,[])
 have ag:=n7 M (tI (Mx S.T)) (s.1++[a],s.2++[(gQ S.T a,[])]) (f3 S.T S.wt a)
 have G:=qq aB aR (by rw[lM];simp;omega) (f3 S.T S.wt a)
 have bn:(dF M (tI (Mx S.T)) (s.1++[a],s.2++[(gQ S.T a,[])]) (f3 S.T S.wt a)).2.2[Mx s.1]?=Z (gQ S.T a,[]):=by rw[G.old (Mx s.1) ac,List.getElem?_append_right (by rw[ho.len];exact aG _),ho.len];simp
 have cT:Mx s.1<Mx (dF M (tI (Mx S.T)) (s.1++[a],s.2++[(gQ S.T a,[])]) (f3 S.T S.wt a)).2.1:=by
  have:=G.le;simp at this
  omega
 have cr:Mx (dF M (tI (Mx S.T)) (s.1++[a],s.2++[(gQ S.T a,[])]) (f3 S.T S.wt a)).2.2=Mx (dF M (tI (Mx S.T)) (s.1++[a],s.2++[(gQ S.T a,[])]) (f3 S.T S.wt a)).2.1:=G.ok.len;have aV:=KM (wt:=S.wt) (ab _ ha.2)
 have bo:Mx (hI S.T S.wt a)=Mx (f3 S.T S.wt a):=by rw[<-aV,aZ]
 have bp:aA (∀(b:az)(br:bj)(a0:List dZ)(ad:Option bI)(cap:Nat),fH w0 b kb cu ce (s.1++[a],s.2++[(gQ S.T a,[])]) br a0->fL b ad (hI S.T S.wt a)->
  J O 211 #[aq kb,My ad (Mx (hI S.T S.wt a)) cap] b fun e w'=>∃cs a1 a2 c2,e=MD (My a2 (Mx (hI S.T S.wt a)) c2)/\aC w' b.heap.size 97 2 (My a2 (Mx (hI S.T S.wt a)) c2) (Mx (hI S.T S.wt a)) (ev (dF M (tI (Mx S.T)) (s.1++[a],s.2++[(gQ S.T a,[])]) (f3 S.T S.wt a)).1)/\fH w0 w' kb cu ce (dF M (tI (Mx S.T)) (s.1++[a],s.2++[(gQ S.T a,[])]) (f3 S.T S.wt a)).2 cs a1/\fX w0 b a0 w' a1/\(∀k,fM a1 k->Z k≠MP (Value.slice a2 (Mx (hI S.T S.wt a)) c2))):=
  fun b br a0 ad cap ab ct=>by
   have P:=Bw hM aB ab aR (by simp;omega) bl (hI S.T S.wt a) (KU hv ha) ad cap ct (by have:=KV hv a;omega)
   rw[aV] at P;exact P
 have bs:aA (∀w1,C w0.heap.size w0 w1->V w1 (av kb 0)=Z (aq ce)->J O 254 #[aq kb,ak a] w1 fun e w'=>∃ad cap,e=MD (My ad (Mx (hI S.T S.wt a)) cap)/\fL w' ad (hI S.T S.wt a)/\C w1.heap.size w1 w'):=
  fun w1 hb hc=>KN (hg.below hb) kb hc a ha bl hv.l2
 have a3:aA (∀w1,C w0.heap.size w0 w1->V w1 (av ce 2)=Z (.map (Z l.mb))/\(Instr.lookup 184 (.map (Z l.mb)) (ak a) K).run O w1=.ok (bF #[ak (gQ S.T a),My (l.fm (MJ a)).1 (Mx (X S.T (MJ a) t0).2.1) (l.fm (MJ a)).2]) w1/\ce<w1.heap.size):=fun w1 hb=>by have g1:=hg.below hb;obtain⟨_,_,c2,_,_,_,_,_,cv⟩:=g1.cells;have L:=g1.g2.mp.look (t:=184) (e:=220) underlying184 (mN w1) (x:=a) ha.1 aa;rw[jA ha] at L;exact⟨c2,L,cv⟩
 have cU:aA (ce<w0.heap.size):=hg.cells.2.2.2.2.2.2.2.2;obtain⟨w1,cw,a4,bt⟩:=h.mp.put (t:=229) (e:=2) underlying229 aa (x:=a) ha.1 aa (U Q (Mx s.1))
 rw[KK hn] at a4;have bx:Fr (fun k=>k=cu) w w1:=(Fr.refl _ _).grown bt (fun k e=>aM (by cases e;rfl))
 have cx:=h.turned bx;have b0:aA (eM w1 cu (Mx (s.1++[a])) (kW (s.1++[a]))):=by rw[a8,List.length_singleton];exact a4
 have hlo:=h.lo;obtain⟨B,dN,cy⟩:=eT h.row;subst cy;obtain⟨c0,c1,c2,lk⟩:=h.cells;have b1:aA (iA m=s.2):=h.nd;clear hM aB G aR hv hg a4 bt bx aV ab ha h ho aF hn hl;dsimp only;generalize dF M (tI (Mx S.T)) (s.1++[a],s.2++[(gQ S.T a,[])]) (f3 S.T S.wt a)=R at*;rw[<-bo] at ag;clear bo;generalize hI S.T S.wt a=cV at*;obtain⟨cW,cz⟩:=R;dsimp only at*;generalize gQ S.T a=kd at*;generalize Mx (X S.T (MJ a) t0).2.1=cB at*;generalize (l.fm (MJ a)).1=cC at*;generalize (l.fm (MJ a)).2=fc at*;generalize Mx s.1=L at*;subst cq;obtain⟨ba,d,bb,b2,F⟩:=cx;obtain⟨cD,G2,G3⟩:=a3.o w1 F;obtain⟨_,G4,_⟩:=a3.o w1.drew F.drew;have cE:(Instr.field 220 (bF #[ak kd,My cC cB fc]) 0).run O w1.drew=.ok (ak kd) w1.drew:=by first|rfl|kernel_rfl|simp[cY]
 have cF:V w1 (av kb 0)=Z (aq ce):=aD d
 have b3:V w1 (av kb 2)=Z (My B (Mx m) dN):=aD d
 have b5:bO w1 (av kb 2)=K:=aE d
 have bd:kb<w1.heap.size:=lt_of_some d;have o:aA (_/\_/\_/\_/\_):=⟨ba,d,bb,b2,F⟩
 have b6:aA (fX w0 w m w1 m):=⟨ba,fun k h=>aM h⟩
 have ca:Z kb≠MP (Value.slice B (Mx m) dN):=fun e=>by obtain⟨cZ,cb⟩:=fw bb kb e;rw[d] at cb;simp at cb
 have c3:w0.heap.size<=w1.heap.size:=F.size;clear ba d bb b2 F a3 G2;have N:=(aw w1 (E #[U Q kd,My Y 0 0] 107)).drew;have cc:aA (aC (bE w1 (E #[U Q kd,My Y 0 0] 107)).drew w0.heap.size 107 2 (My B (Mx m) dN) (Mx m) (nv m)):=cM (ga o.o.2.2.1 _) (fun _ _=>rfl)
 go_enter func251,ntmps251;go_wp2_with fail;clear cw c0 c1 c2 lk
 go_region_law (refine step_append_lies _ rfl (.tmp 22) (.tmp 34) 58 rfl w0.heap.size 107 cl (bF #[ak 0,My Y 0 0]) 2 32 underlying58 hi cm cn co rfl ae (My B (Mx m) dN) (Mx m) (nv m) (by simp[Act.eval]) cc.o ⟨w1.heap.size,0,Y⟩ 1 1 [ak kd,My Y 0 0] (by simp[Act.eval]) rfl ?_ ?_ ae (by unfold bY;omega) aa (by simp;omega) _ rfl ?_;(intro j u f;match j,f with|0,f=>(simp at f;subst f;simp[Addr.add])|1,f=>(simp at f;subst f;simp[Addr.add]));(intro u W;simp at W;rcases W with W|W<;>(subst W;rfl));intro b4 ai am cd an cG cH;have cI:=an.cell (a:=⟨kb,2,Y⟩) (v:=My B (Mx m) dN) ((N.cell (p:=av kb 2) bd).trans b3) ca;have cJ:bO am (av kb 2)=K:=(World.frozen?_of_block (a:=⟨kb,2,Y⟩) (an.block _ (aO bd N.size) ca)).trans ((N.frozen (p:=av kb 2) bd).trans b5))
 all_goals
  have cK:=fH.grown o.o.2.1 hlo b0.o o.o.2.2.1 b1.o o.o.2.2.2.1 o.o.2.2.2.2 N cd an;obtain⟨cf,cg,_⟩:=cK;have be:aA (fX w0 w m (ay am ⟨kb,2,Y⟩ (My (Z ⟨b4,0,Y⟩) (Mx m+1) ai)) (m++[(kd,Y,0,[])])):=b6.o.trans cg;have ao:aA (fH w0 (ay am ⟨kb,2,Y⟩ (My (Z ⟨b4,0,Y⟩) (Mx m+1) ai)) kb cu ce (s.1++[a],s.2++[(kd,[])]) (My (au b4) (Mx m+1) ai) (m++[(kd,Y,0,[])])):=cf;clear cf cg b6 cc N o b0 b1 cd an cG cH cI cJ cF b3 b5 cD G3 G4 cE;go_wp2_with fail;generalize ay am ⟨kb,2,Y⟩ (My (Z ⟨b4,0,Y⟩) (Mx m+1) ai)=b at*;refine(bs.o b ao.o.eV ao.o.cells.1).mono ?_;clear bs;rintro e cL ⟨ad,cap,rfl,ch,ap⟩
  go_wp2_with fail;refine(bp.o cL _ _ ad cap (ao.o.below ap) ch).mono ?_;clear bp;rintro e cN ⟨c4,g,a2,c5,rfl,bg,q,ci,cO⟩
  have c6:Mx g=Mx cz.1:=q.len.trans cr;obtain⟨c7,c8,cP⟩:=eS q.row aa;subst cP;have c9:=q.cells.2.2.1;have cQ:Mx m<Mx g:=aa;obtain⟨bi,da⟩:=iR q.row ((pm g (Mx m) _ (aN cQ)).2)
  rw[<-ag] at bg;have ar:aA (_/\_/\_):=q.filled bn bg;have ck:aA (fX w0 w m cN g):=(be.o.trans (fX.of ap)).trans ci;have cR:=((be.o.trans (fX.of ap)).1).size;generalize (g[Mx m]).2.1=q1 at bi;generalize Mx (g[Mx m]).2.2.2=db at bi;generalize (g[Mx m]).2.2.1=q3 at bi;rw[ag] at ar;clear ch ap bg q ci cO be ao bn ag;go_wp2_with fail;go_ret;exact⟨_,_,rfl,ar.o.1,ck.o.1.trans ar.o.2.1,fun k hk=>(ar.o.2.2 k hk).elim (ck.o.2 k) (fun c=>aK (aU cR c))⟩
theorem Bx (hg:dQ ce cj b_ l S w0)(hv:nh S.T S.wt)(b:∀i,cA S.T i->(X S.T i t0).1=5->(X S.T i t0).2.1=[]):∀n,qd w0 kb cu ce S.T (met (tI (Mx S.T)) (gQ S.T) (f3 S.T S.wt) n) n
 |0=>fun w s d m a _ ho ha hn hl=>by have c:=ho.lt (ng.2 ⟨ha.1,by have:=ha.2.1;omega⟩) hn;rw[lM] at c;omega
 |n+1=>KW hg hv b n _ (Bx hg hv b n) (j6 n)
end
section
variable {ce:Nat}{cj b_:Int}{l:hD}{S:cn}{w:az}
theorem KX (hg:dQ ce cj b_ l S w)(hv:nh S.T S.wt)(ar:∀i,cA S.T i->(X S.T i t0).1=5->(X S.T i t0).2.1=[])(hr:∀v∈S.rs,fp S.T v):
 J O 138 #[aq ce] w fun e w'=>∃aB bi f aF n,e=MD (bF #[My aB 12 bi,My f aF n])/\jp w' (I (G w)) aB (dK.ee S.T S.wt S.rs).1/\i6 w' (I (G w)) f (dK.ee S.T S.wt S.rs).2.2/\aF=Mx (dK.ee S.T S.wt S.rs).2.2/\C (I (G w)) w w':=by
 have ca:=@run_makeMap O;have ai:=aw w (E #[My Y 0 0,My Y 0 0] 60)
 have aR:=aP w (E #[My Y 0 0,My Y 0 0] 60)
 have u:=hg.below ai;have al:=hg.g4.rl;obtain⟨_,_,_,_,_,_,aV,_,bl⟩:=u.cells;have a0:fL (bE w (E #[My Y 0 0,My Y 0 0] 60)) (au l.rb) S.rs:=by
  have c:=u.g4.cells;refine⟨fun hp=>⟨l.rb,0,rfl,c.1,fun i hi=>?_⟩,fun hp=>⟨l.rb,0,_,rfl,u.g4.rt⟩⟩
  have:=c.2.2 i aa;rw[bZ];exact⟨this.1,this.2.1⟩
 have a1:I (G w)<I (G (bE w (E #[My Y 0 0,My Y 0 0] 60))):=ac;have N:=eM.made (bE w (E #[My Y 0 0,My Y 0 0] 60))
 have W:kW []=fun _=>Y:=by
  funext x
  exact Bv ac
 rw[<-W] at N;have b2:=((aH _ (bE w (E #[My Y 0 0,My Y 0 0] 60))).alloc b8 (.map #[] 0)).alloc ac (E #[bL (Z ⟨ce,0,Y⟩),.map (Z (I (G w)+1)),My Y 0 0] 231)
 have am:=hZ (bE w (E #[My Y 0 0,My Y 0 0] 60)) (.map #[] 0) (E #[bL (Z ⟨ce,0,Y⟩),.map (Z (I (G w)+1)),My Y 0 0] 231)
 have ab:I (G (bE w (E #[My Y 0 0,My Y 0 0] 60)))=I (G w)+1:=ac;rw[ab] at N am;have a3:=N.same (w':=bE (bE (bE w (E #[My Y 0 0,My Y 0 0] 60)) (.map #[] 0)) (E #[bL (Z ⟨ce,0,Y⟩),.map (Z (I (G w)+1)),My Y 0 0] 231)) (aS _ _ _ ac)
 have a4:aA (fH (bE w (E #[My Y 0 0,My Y 0 0] 60)) (bE (bE (bE w (E #[My Y 0 0,My Y 0 0] 60)) (.map #[] 0)) (E #[bL (Z ⟨ce,0,Y⟩),.map (Z (I (G w)+1)),My Y 0 0] 231)) (I (G w)+1+1) (I (G w)+1) ce ([],[]) (My Y 0 0) []):=
  ⟨am,⟨by rw[ab];omega,by rw[ab];exact aG _⟩,a3,bf _ _ _ _,rfl,fun x g=>by simp at g,b2⟩
 have bn:=(b2.cell (p:=av ce 6) bl).trans aV;have an:I (G w)<=I (G (bE (bE (bE w (E #[My Y 0 0,My Y 0 0] 60)) (.map #[] 0)) (E #[bL (Z ⟨ce,0,Y⟩),.map (Z (I (G w)+1)),My Y 0 0] 231))):=by simp;omega
 have ag:=Bw (Bx u hv ar (Mx S.T)) (j6 _) a4.o (ft.start _) ac hv.l1 S.rs hr (au l.rb) 12 (a0.mT (fP.of (B:=0) b2)) aa;have bo:aA (Mx (dK.ee S.T S.wt S.rs).1=12):=by show _=_;unfold dK.ee;rw[n7,aZ];exact al
 change J _ _ _ _ (fun e w'=>∃bp ao a2 c2,e=MD (My a2 (Mx S.rs) c2)/\aC w' _ 97 2 (My a2 (Mx S.rs) c2) (Mx S.rs) (ev (dK.ee S.T S.wt S.rs).1)/\fH _ w' _ _ ce (dK.ee S.T S.wt S.rs).2 bp ao/\fX _ _ [] w' ao/\(∀k,fM ao k->Z k≠MP (Value.slice a2 (Mx S.rs) c2))) at ag;rw[al] at ag;clear hg u hv ar hr a0 N a3 am W aV a4 al;generalize dK.ee S.T S.wt S.rs=R at*;obtain⟨cb,s⟩:=R;dsimp only at*;have ap:=hide ai;clear ai;go_enter func138,ntmps138;go_wp2_with fail;refine ag.mono ?_;clear ag;rintro e w2 ⟨cc,m,a2,c2,rfl,o,d,ba,_⟩
 obtain⟨f,n,br⟩:=eT d.row;subst br;have cd:=d.cells.2.2.1;have bb:=ap.o.trans (d.eV.mono ap.o.size)
 have j:=(d.eV.block _ a1).trans aR;have y0:V w2 (av (I (G w)) 0)=Z (My Y 0 0):=aD j
 have y1:V w2 (av (I (G w)) 1)=Z (My Y 0 0):=aD j
 have cf:bO w2 (av (I (G w)) 0)=K:=aE j
 have cg:bO w2 (av (I (G w)) 1)=K:=aE j
 have l2:=lt_of_some j;have bs:=c8 d o;have bt:=hide d.len;have bx:=hide bb;have bd:=hide j;have b0:aA (∀k,fM m k->I (G w)<=k):=fun k hk=>(ba.2 k hk).elim (fun⟨x,g,_⟩=>by cases g) (fun b1=>aU an b1)
 have b3:=hide an;clear d o ba bb j aR bn ap b2 an ab a1;go_wp2_with fail;obtain⟨q,hW0⟩:∃q,q=ay (ay w2 ⟨I (G w),0,Y⟩ (My a2 12 c2)) ⟨I (G w),1,Y⟩ (My f (Mx m) n):=⟨_,rfl⟩
 rw[<-hW0];have g0:V q (av (I (G w)) 0)=Z (My a2 12 c2):=by exact oz
 have g1:V q (av (I (G w)) 1)=Z (My f (Mx m) n):=by exact AK
 have t:Fr (fun k=>k=I (G w)) w2 q:=by rw[hW0];exact((Fr.refl (fun k=>k=I (G w)) w2).set (I (G w)) 0 _ rfl).set (I (G w)) 1 _ rfl
 clear hW0;obtain⟨d,o⟩:=bs.o;have be:∀{ad:Option bI}{L:List (Int×Int)},fL w2 ad L->dC q ad L:=fun {ad L} h=>h.1.keep t.size (fun hp b e=>by
  obtain⟨b4,ch,ci,W,hb⟩:=h.2 hp;rw[W] at e;cases e;refine t.block _ (lt_of_some hb) (fun c=>?_)
  have c:b4=I (G w):=c;rw[c,bd.o] at hb;simp at hb)
 refine a7 (v:=bF #[My a2 12 c2,My f (Mx m) n]) (by simp[results,results138,go_sem,g0,g1]) rfl ⟨a2,c2,f,Mx m,n,rfl,⟨be (fL.of (by rw[bo.o];exact o)),fun hp=>?_⟩,⟨m,d.nd,fun x g=>be (d.fl x g),b0.o,fun hp=>?_⟩,bt.o,bx.o.trans (t.below (yB l2) (fun k e=>tF (CB e)))⟩
 ·obtain⟨b,cap,e⟩:=eS o ae;cases e;exact⟨b,0,rfl,aU b3.o (cv o b rfl).1⟩
 obtain⟨b,cap,e⟩:=eS d.row hp;cases e;have b5:=(cv d.row b rfl).1;simp at b5;obtain⟨ck,F⟩:=fw d.row b rfl;have bg:b≠I (G w):=fun c=>by rw[c,bd.o] at F;simp at F
 refine⟨b,0,rfl,aa,aO (lt_of_some F) t.size,fun i x g=>?_⟩
 obtain⟨n1,b6⟩:=pm m i x g;rw[bZ];exact⟨(aQ (a:=⟨b,i*2,Y⟩) (t.block b (lt_of_some F) bg)).trans (iR d.row n1).1,(aQ (a:=⟨b,i*2+1,Y⟩) (t.block b (lt_of_some F) bg)).trans (iR d.row b6).1⟩
end
open Go.RowKit W
theorem KY (c a:Int)(w:az):
 J O 39 #[ak c,ak a] w fun e w'=>e=MD (bF #[ak c,ak a])/\C (I (G w)) w w':=by
 go_enter func39,ntmps39;go_wp2_with fail;exact a7 (v:=bF #[ak c,ak a]) (by simp[results,results39,go_sem]) rfl ⟨rfl,b9.alloc b8 _⟩
end Go.Proofs.YtpkjkjhanlbcoaaGreat
