import Derived.Test.YtpkjkjhanlbcoaaGreatJ39
namespace Go.Proofs.YtpkjkjhanlbcoaaGreat
set_option maxRecDepth 100000
set_option maxHeartbeats 4000000
open Tryz
open Go.RowKit W Kp cf
section
variable {bY rb:Nat}{b_ bZ:Int}{F:Nat->Prop}{s:ck}{w:ax}
theorem Ju (h:(cx bY b_ bZ rb).J F s w)(R I n:Int)(A B:Nat)(i:A<12)(hB:B<12)(hc:dJ 9 R A B n=0)(cd:Int)(j:ck)(q:j.rs=s.rs)
 (t:∀w',aw w w'->Calls prog 132 #[aj bY,.agg #[ah (s.rs.getD A (0,0)).1,ah (s.rs.getD A (0,0)).2],.agg #[ah (s.rs.getD B (0,0)).1,ah (s.rs.getD B (0,0)).2]] w' fun e u=>∃d,e=.returned (ah cd)/\(cx bY b_ bZ rb).J d j u/\b8 F w' d u):
 Calls prog 68 #[aj bY,dK 9 R A B I n] w fun e w'=>∃v,e=.returned (ah cd)/\(cx bY b_ bZ rb).J v j w'/\b8 F w v w':=by
 have l:=au w (cz 9 R A B I n)
 have m:=aN w (.cells #[.int .i64 9,.int .i64 R,.int .i64 (A:Int),.int .i64 (B:Int),.int .i64 I,.int .i64 n] 44)
 have o:=jx 9 R A B I n (w.alloc (cz 9 R A B I n))
 rw[hc] at o;have fS:∀b,F b->b<w.heap.size:=fun b hb=>(cx bY b_ bZ rb).lt h b hb;have x:ay (∀w1,Below (w.alloc (cz 9 R A B I n)).heap.size (w.alloc (cz 9 R A B I n)) w1->(w1.cell? (aq bY 6)=some (.slice (ak rb) 12 12)/\w1.cell? (aq rb (A*2))=some (ah (s.rs.getD A (0,0)).1)/\w1.cell? (aq rb (A*2+1))=some (ah (s.rs.getD A (0,0)).2)/\w1.cell? (aq rb (B*2))=some (ah (s.rs.getD B (0,0)).1)/\w1.cell? (aq rb (B*2+1))=some (ah (s.rs.getD B (0,0)).2)/\w1.heap[w.heap.size]?=some (cz 9 R A B I n))/\
  Calls prog 132 #[aj bY,.agg #[ah (s.rs.getD A (0,0)).1,ah (s.rs.getD A (0,0)).2],.agg #[ah (s.rs.getD B (0,0)).1,ah (s.rs.getD B (0,0)).2]] w1.drew fun e c=>∃d,e=.returned (ah cd)/\(c.cell? (aq bY 6)=some (.slice (ak rb) 12 12)/\c.cell? (aq rb (A*2))=some (ah (s.rs.getD A (0,0)).1)/\c.cell? (aq rb (A*2+1))=some (ah (s.rs.getD A (0,0)).2)/\c.cell? (aq rb (B*2))=some (ah (s.rs.getD B (0,0)).1)/\c.cell? (aq rb (B*2+1))=some (ah (s.rs.getD B (0,0)).2)/\c.cell? (aq w.heap.size 2)=some (ah A)/\c.cell? (aq w.heap.size 3)=some (ah B))/\ay ((cx bY b_ bZ rb).J d j c/\b8 F w d c)):=fun w1 hb=>by
  have p:aw w w1:=l.trans (hb.mono l.size)
  have f:=(hb.block _ (lt_of_some m)).trans m;obtain⟨O,rt,_,_⟩:=jY ((cx bY b_ bZ rb).below h p)
  refine⟨⟨O,(rt A i).1,(rt A i).2,(rt B hB).1,(rt B hB).2,f⟩,(t w1.drew p.drew).mono ?_⟩
  rintro e c ⟨d,rfl,C,tn⟩
  obtain⟨k,g,_,_⟩:=jY C;rw[q] at g;have P:=(tn.fr.block w.heap.size (lt_of_some f) (fun Q=>by have:=fS _ Q;omega)).trans f;obtain⟨_,_,S,U,am,_⟩:=eu P;exact⟨d,rfl,⟨k,(g A i).1,(g A i).2,(g B hB).1,(g B hB).2,S,U⟩,C,(b8.of p.drew).trans tn⟩
 generalize (s.rs.getD A (0,0)).1=a0 at*;generalize (s.rs.getD A (0,0)).2=a1 at*;generalize (s.rs.getD B (0,0)).1=W at*;generalize (s.rs.getD B (0,0)).2=X at*;have an:(0:Int)<=(A:Int):=V;have ao:(A:Int)<12:=V;have ap:(0:Int)<=(B:Int):=V;have ar:(B:Int)<12:=V;clear h l m hc fS t q;go_enter func68,ntmps68;go_wp2_with fail;refine o.mono ?_;clear o;rintro e w1 ⟨rfl,D⟩
 obtain⟨⟨k1,Y,ab,ad,k5,f⟩,E⟩:=x.out w1 D;obtain⟨q0,q1,ag,q3,ai,al⟩:=eu f;clear D f x q1 al ai;go_wp2_with fail
 go_region_held3 (fun w'=>w'.cell? (aq bY 6)=some (.slice (ak rb) 12 12)/\w'.cell? (aq rb (A*2))=some (ah a0)/\w'.cell? (aq rb (A*2+1))=some (ah a1)/\w'.cell? (aq rb (B*2))=some (ah W)/\w'.cell? (aq rb (B*2+1))=some (ah X)/\w'.cell? (aq w.heap.size 2)=some (ah A)/\w'.cell? (aq w.heap.size 3)=some (ah B)) (first|exact⟨G,H,J,K,L,k,M⟩|(go_keep;done))
  (first|(go_at_call 132;refine E.mono ?_;clear E;rintro e c ⟨d,rfl,⟨G,H,J,K,L,k,M⟩,N⟩;clear k1 Y ab ad k5 ag q3))
 all_goals
  clear G H J K L k M ‹_/\_›;go_wp2_with fail;go_ret;exact⟨d,rfl,N.out.1,N.out.2⟩
theorem Jv (h:(cx bY b_ bZ rb).J F s w)(R I n:Int)(A B:Nat)(i:A<12)(hB:B<12)(hc:dJ 12 R A B n=0)(cd:Int)(j:ck)(q:j.rs=s.rs)
 (t:∀w',aw w w'->Calls prog 133 #[aj bY,.agg #[ah (s.rs.getD A (0,0)).1,ah (s.rs.getD A (0,0)).2],ah I,.agg #[ah (s.rs.getD B (0,0)).1,ah (s.rs.getD B (0,0)).2]] w' fun e u=>∃d,e=.returned (ah cd)/\(cx bY b_ bZ rb).J d j u/\b8 F w' d u):
 Calls prog 68 #[aj bY,dK 12 R A B I n] w fun e w'=>∃v,e=.returned (ah cd)/\(cx bY b_ bZ rb).J v j w'/\b8 F w v w':=by
 have l:=au w (cz 12 R A B I n)
 have m:=aN w (.cells #[.int .i64 12,.int .i64 R,.int .i64 (A:Int),.int .i64 (B:Int),.int .i64 I,.int .i64 n] 44)
 have o:=jx 12 R A B I n (w.alloc (cz 12 R A B I n))
 rw[hc] at o;have fS:∀b,F b->b<w.heap.size:=fun b hb=>(cx bY b_ bZ rb).lt h b hb;have x:ay (∀w1,Below (w.alloc (cz 12 R A B I n)).heap.size (w.alloc (cz 12 R A B I n)) w1->(w1.cell? (aq bY 6)=some (.slice (ak rb) 12 12)/\w1.cell? (aq rb (A*2))=some (ah (s.rs.getD A (0,0)).1)/\w1.cell? (aq rb (A*2+1))=some (ah (s.rs.getD A (0,0)).2)/\w1.cell? (aq rb (B*2))=some (ah (s.rs.getD B (0,0)).1)/\w1.cell? (aq rb (B*2+1))=some (ah (s.rs.getD B (0,0)).2)/\w1.heap[w.heap.size]?=some (cz 12 R A B I n))/\
  Calls prog 133 #[aj bY,.agg #[ah (s.rs.getD A (0,0)).1,ah (s.rs.getD A (0,0)).2],ah I,.agg #[ah (s.rs.getD B (0,0)).1,ah (s.rs.getD B (0,0)).2]] w1.drew fun e c=>∃d,e=.returned (ah cd)/\(c.cell? (aq bY 6)=some (.slice (ak rb) 12 12)/\c.cell? (aq rb (A*2))=some (ah (s.rs.getD A (0,0)).1)/\c.cell? (aq rb (A*2+1))=some (ah (s.rs.getD A (0,0)).2)/\c.cell? (aq rb (B*2))=some (ah (s.rs.getD B (0,0)).1)/\c.cell? (aq rb (B*2+1))=some (ah (s.rs.getD B (0,0)).2)/\c.cell? (aq w.heap.size 2)=some (ah A)/\c.cell? (aq w.heap.size 3)=some (ah B)/\c.cell? (aq w.heap.size 4)=some (ah I))/\ay ((cx bY b_ bZ rb).J d j c/\b8 F w d c)):=fun w1 hb=>by
  have p:aw w w1:=l.trans (hb.mono l.size)
  have f:=(hb.block _ (lt_of_some m)).trans m;obtain⟨P,rt,_,_⟩:=jY ((cx bY b_ bZ rb).below h p)
  refine⟨⟨P,(rt A i).1,(rt A i).2,(rt B hB).1,(rt B hB).2,f⟩,(t w1.drew p.drew).mono ?_⟩
  rintro e c ⟨d,rfl,C,tn⟩
  obtain⟨k,g,_,_⟩:=jY C;rw[q] at g;have Q:=(tn.fr.block w.heap.size (lt_of_some f) (fun S=>by have:=fS _ S;omega)).trans f;obtain⟨_,_,U,W,X,_⟩:=eu Q;exact⟨d,rfl,⟨k,(g A i).1,(g A i).2,(g B hB).1,(g B hB).2,U,W,X⟩,C,(b8.of p.drew).trans tn⟩
 generalize (s.rs.getD A (0,0)).1=a0 at*;generalize (s.rs.getD A (0,0)).2=a1 at*;generalize (s.rs.getD B (0,0)).1=Y at*;generalize (s.rs.getD B (0,0)).2=ab at*;have ao:(0:Int)<=(A:Int):=V;have ap:(A:Int)<12:=V;have ar:(0:Int)<=(B:Int):=V;have aB:(B:Int)<12:=V;clear h l m hc fS t q;go_enter func68,ntmps68;go_wp2_with fail;refine o.mono ?_;clear o;rintro e w1 ⟨rfl,D⟩
 obtain⟨⟨k1,ad,ag,ai,k5,f⟩,E⟩:=x.out w1 D;obtain⟨q0,q1,al,q3,am,an⟩:=eu f;clear D f x q1 an;go_wp2_with fail
 go_region_held3 (fun w'=>w'.cell? (aq bY 6)=some (.slice (ak rb) 12 12)/\w'.cell? (aq rb (A*2))=some (ah a0)/\w'.cell? (aq rb (A*2+1))=some (ah a1)/\w'.cell? (aq rb (B*2))=some (ah Y)/\w'.cell? (aq rb (B*2+1))=some (ah ab)/\w'.cell? (aq w.heap.size 2)=some (ah A)/\w'.cell? (aq w.heap.size 3)=some (ah B)/\w'.cell? (aq w.heap.size 4)=some (ah I)) (first|exact⟨G,H,J,K,L,k,M,N⟩|(go_keep;done))
  (first|(go_at_call 133;refine E.mono ?_;clear E;rintro e c ⟨d,rfl,⟨G,H,J,K,L,k,M,N⟩,O⟩;clear k1 ad ag ai k5 al q3 am))
 all_goals
  clear G H J K L k M N ‹_/\_›;go_wp2_with fail;go_ret;exact⟨d,rfl,O.out.1,O.out.2⟩
end
section
variable {bY rb:Nat}{b_ bZ:Int}{F:Nat->Prop}{w:ax}
theorem Jw (k R A B I n:Int)(hc:dJ k R A B n=0)(k1:k≠9)(C:k≠12)(D:k≠15)(E:k≠16)(v:Int×Int)(cd:Int)(G:cd≠0)(d:ck)
 (q:∀w',aw w w'->Calls prog 136 #[aj bY,dK k R A B I n] w' fun e f=>∃b,e=.returned (.tuple #[.agg #[ah v.1,ah v.2],ah cd])/\(cx bY b_ bZ rb).J b d f/\b8 F w' b f):
 Calls prog 68 #[aj bY,dK k R A B I n] w fun e w'=>∃g,e=.returned (ah cd)/\(cx bY b_ bZ rb).J g d w'/\b8 F w g w':=by
 obtain⟨v0,v1⟩:=v;have i:=au w (cz k R A B I n)
 have j:=aN w (.cells #[.int .i64 k,.int .i64 R,.int .i64 A,.int .i64 B,.int .i64 I,.int .i64 n] 44)
 have l:=jx k R A B I n (w.alloc (cz k R A B I n))
 rw[hc] at l;have s:ay (∀w1,Below (w.alloc (cz k R A B I n)).heap.size (w.alloc (cz k R A B I n)) w1->w1.heap[w.heap.size]?=some (cz k R A B I n)/\Calls prog 136 #[aj bY,dK k R A B I n] w1 fun e c=>∃b,e=.returned (.tuple #[.agg #[ah v0,ah v1],ah cd])/\ay ((cx bY b_ bZ rb).J b d c/\b8 F w b c)):=fun w1 hb=>by
  have m:aw w w1:=i.trans (hb.mono i.size)
  refine⟨(hb.block _ (lt_of_some j)).trans j,(q w1 m).mono ?_⟩
  rintro e c ⟨b,rfl,t,tn⟩
  exact⟨b,rfl,t,(b8.of m).trans tn⟩
 go_enter func68,ntmps68;go_wp2_with fail;refine l.mono ?_;rintro e w1 ⟨rfl,u⟩
 obtain⟨x,P⟩:=s.out w1 u;obtain⟨q0,q1,H,q3,J,K⟩:=eu x;go_wp2_with fail;refine P.mono ?_;rintro e c ⟨b,rfl,o⟩
 have p:ay ((cx bY b_ bZ rb).J b d (c.alloc (.cells #[.int .i64 v0,.int .i64 v1] 97))/\b8 F w b (c.alloc (.cells #[.int .i64 v0,.int .i64 v1] 97))):=⟨(cx bY b_ bZ rb).below o.out.1 (bX.alloc bW _),o.out.2.below (bX.alloc bW _)⟩
 go_wp2_with fail;go_ret;exact⟨b,rfl,p.out.1,p.out.2⟩
end
section
variable {bY rb:Nat}{b_ bZ:Int}{F:Nat->Prop}{s:ck}{w:ax}
theorem Jx (h:(cx bY b_ bZ rb).J F s w){R:Nat}(v:Int×Int):
 (cx bY b_ bZ rb).J F {s with rs:=s.rs.set R v} ((w.setCell ⟨rb,R*2,none⟩ (.int .i64 v.1)).setCell ⟨rb,R*2+1,none⟩ (.int .i64 v.2))/\b8 F w F ((w.setCell ⟨rb,R*2,none⟩ (.int .i64 v.1)).setCell ⟨rb,R*2+1,none⟩ (.int .i64 v.2)):=by
 obtain⟨l,h,rfl,c⟩:=h;have fr:Fr (fun k=>k=l.rb) w ((w.setCell ⟨l.rb,R*2,none⟩ (.int .i64 v.1)).setCell ⟨l.rb,R*2+1,none⟩ (.int .i64 v.2)):=((Fr.refl (fun k=>k=l.rb) w).set l.rb _ _ rfl).set l.rb _ _ rfl;have hk:∀b,l.own b≠0->l.own b≠4->_=_:=fun b h0 d=>fr.block b (h.lt b h0) (fun e=>d (by rw[e];exact h.g4.ro))
 refine⟨⟨l,?_,rfl,c⟩,fr.mono (fun b e=>by rw[e];exact(c _).2 (by rw[h.g4.ro];decide)),fun b hb=>aK hb⟩
 refine {blk:=(hk bY (by rw[h.bo];decide) (by rw[h.bo];decide)).trans h.blk,bo:=h.bo,g2:=h.g2.keep (fun b hb=>hk b V V),g3:=h.g3.keep (fun b hb=>hk b V V),g4:=⟨?_,?_,h.g4.ro⟩,lt:=fun b hb=>aM (h.lt b hb) fr.size}
 ·show _=some _;rw[sM];simp only [World.setCell,Array.getElem?_modify,if_true,h.g4.rt,Option.map_some];simp
 ·rw[a4];exact h.g4.rl
end
section
variable {bY rb:Nat}{b_ bZ:Int}{F:Nat->Prop}{s:ck}{w:ax}
theorem rB {w:ax}{b c o p q:Nat}{x v0 v1:Value}(hn:b≠c)(h:w.cell? (aq b o)=some x):((w.setCell ⟨c,p,none⟩ v0).setCell ⟨c,q,none⟩ v1).cell? (aq b o)=some x:=by exact Az
theorem Jy (h:(cx bY b_ bZ rb).J F s w)(k:Int)(R:Nat)(H:R<12)(A B I n:Int)(hc:dJ k R A B n=0)(k1:k≠9)(ab:k≠12)(ad:k≠15)(ag:k≠16)(v:Int×Int)(g:ck)
 (i:∀w',aw w w'->Calls prog 136 #[aj bY,dK k R A B I n] w' fun e J=>∃d,e=.returned (.tuple #[.agg #[ah v.1,ah v.2],ah 0])/\(cx bY b_ bZ rb).J d g J/\b8 F w' d J):
 Calls prog 68 #[aj bY,dK k R A B I n] w fun e w'=>∃K,e=.returned (ah 0)/\(cx bY b_ bZ rb).J K {g with rs:=g.rs.set R v} w'/\b8 F w K w':=by
 obtain⟨v0,v1⟩:=v;dsimp only at i;have j:=au w (cz k R A B I n)
 have m:=aN w (.cells #[.int .i64 k,.int .i64 (R:Int),.int .i64 A,.int .i64 B,.int .i64 I,.int .i64 n] 44)
 have p:=jx k R A B I n (w.alloc (cz k R A B I n))
 rw[hc] at p;have fS:∀b,F b->b<w.heap.size:=fun b hb=>(cx bY b_ bZ rb).lt h b hb;obtain⟨_,_,L,M⟩:=jY h;have a2:=fS _ M;have bb:=fS _ L;have N:ay (∀w1,Below (w.alloc (cz k R A B I n)).heap.size (w.alloc (cz k R A B I n)) w1->w1.heap[w.heap.size]?=some (cz k R A B I n)/\Calls prog 136 #[aj bY,dK k R A B I n] w1 fun e c=>∃d,e=.returned (.tuple #[.agg #[ah v0,ah v1],ah 0])/\
  ((c.alloc (.cells #[.int .i64 v0,.int .i64 v1] 97)).cell? (aq bY 6)=some (.slice (ak rb) 12 12)/\(c.alloc (.cells #[.int .i64 v0,.int .i64 v1] 97)).cell? (aq w.heap.size 1)=some (ah R)/\(c.alloc (.cells #[.int .i64 v0,.int .i64 v1] 97)).cell? (aq c.heap.size 0)=some (ah v0)/\(c.alloc (.cells #[.int .i64 v0,.int .i64 v1] 97)).cell? (aq c.heap.size 1)=some (ah v1))/\
  (∃O y1,(c.alloc (.cells #[.int .i64 v0,.int .i64 v1] 97)).cell? (aq rb (R*2))=some (ah O)/\(c.alloc (.cells #[.int .i64 v0,.int .i64 v1] 97)).cell? (aq rb (R*2+1))=some (ah y1))/\(∀o,(c.alloc (.cells #[.int .i64 v0,.int .i64 v1] 97)).frozen? (aq rb o)=false)/\w.heap.size<c.heap.size/\
  ay ((cx bY b_ bZ rb).J d g (c.alloc (.cells #[.int .i64 v0,.int .i64 v1] 97)).drew/\b8 F w d (c.alloc (.cells #[.int .i64 v0,.int .i64 v1] 97)).drew)):=fun w1 hb=>by
  have Q:aw w w1:=j.trans (hb.mono j.size)
  have f:=(hb.block _ (lt_of_some m)).trans m;refine⟨f,(i w1 Q).mono ?_⟩
  rintro e c ⟨d,rfl,ai,tn⟩
  have q:aw c (c.alloc (.cells #[.int .i64 v0,.int .i64 v1] 97)):=bX.alloc bW _;have t:=(cx bY b_ bZ rb).below ai q;obtain⟨al,rt,_,_⟩:=jY t;have u:=(tn.fr.block w.heap.size (lt_of_some f) (fun am=>by have:=fS _ am;omega)).trans f;obtain⟨_,an,_⟩:=eu ((q.block _ (lt_of_some u)).trans u)
  obtain⟨z0,ao,_,_⟩:=di (aN c (.cells #[.int .i64 v0,.int .i64 v1] 97))
  have x:∀o,(c.alloc (.cells #[.int .i64 v0,.int .i64 v1] 97)).frozen? (aq rb o)=false:=by obtain⟨l,hl,rfl,_⟩:=t;intro o;simp[World.frozen?,hl.g4.rt]
  exact⟨d,rfl,⟨al,an,z0,ao⟩,⟨_,_,(rt R H).1,(rt R H).2⟩,x,lt_of_some u,(cx bY b_ bZ rb).below t bX.drew,((b8.of Q).trans tn).below q.drew⟩
 have bd:(k==9)=false:=by simpa using k1
 have be:(k==12)=false:=by simpa using ab
 have bg:(k==15)=false:=by simpa using ad
 have bi:(k==16)=false:=by simpa using ag
 have bl:(0:Int)<=(R:Int):=V;have bn:(R:Int)<12:=V;have ap:w.heap.size≠rb:=V;have S:ay (bY≠rb):=by obtain⟨l,hl,rfl,_⟩:=h;intro e;have ar:=hl.bo;rw[e,hl.g4.ro] at ar;omega
 have aB:=S.out;clear h j m hc i fS L M S;go_enter func68,ntmps68;go_wp2_with fail;refine p.mono ?_;clear p;rintro e w1 ⟨rfl,U⟩
 obtain⟨f,P⟩:=N.out w1 U;obtain⟨q0,q1,aF,q3,aR,aV⟩:=eu f;clear U f N;go_wp2_with fail;refine P.mono ?_;clear P;rintro e c ⟨d,rfl,⟨C,D,E,G⟩,⟨O,y1,a0,a1⟩,x,lw,W⟩
 clear q0 q1 aF q3 aR aV;have X:c.heap.size≠rb:=V;go_wp2_with fail
 go_region_held3 (fun w'=>w'.cell? (aq bY 6)=some (.slice (ak rb) 12 12)/\w'.cell? (aq w.heap.size 1)=some (ah R)/\w'.cell? (aq c.heap.size 0)=some (ah v0)/\w'.cell? (aq c.heap.size 1)=some (ah v1)) (first|exact⟨C,D,E,G⟩|exact⟨rB aB C,rB ap D,rB X E,rB X G⟩|(go_keep;done)) (fail)
 all_goals
  have Y:ay (_/\_):=Jx W.out.1 (R:=R) (v0,v1)
  clear C D E G a0 a1 x;go_wp2_with fail;go_ret;exact⟨rfl,d,Y.out.1,W.out.2.trans Y.out.2⟩
end
theorem Jz {k R A B n:Int}(hc:dJ k R A B n=0)(c:k≠9)(d:k≠12)(e:k≠15)(f:k≠16):c8 k=1\/c8 k=3\/c8 k=7:=by
 rcases o4 k with b|b|b|b|b|b|b|b|b|b|b|b|b|b|b|b|b
 case' inr.inr.inr.inr.inr.inr.inr.inr.inr.inr.inr.inr.inr.inr.inr.inr=>
  have:=o5 b;unfold dJ at hc;rw[aI this] at hc;omega
 all_goals
  first
   |(subst b;decide)
   |(omega)
theorem JA (s:ck)(t b:Int×Int):(s.reg t b).2.rs=s.rs:=by
 unfold ck.reg;split
 ·split<;>rfl
 ·rfl
theorem JB (s:ck)(v:Int×Int)(I:Int)(y:Int×Int):(s.set v I y).2.rs=s.rs:=by unfold ck.set;dsimp only;split<;>rfl
theorem fH.root {s:ck}(hv:fH s)(i:Nat):(s.rs.getD i (0,0)).1=3->0<=(s.rs.getD i (0,0)).2/\cv s.T (s.rs.getD i (0,0)).2.toNat:=fun b=>by
 by_cases c:i<s.rs.length
 ·exact hv.rv _ (getD_in c) b
 ·rw[aE,List.getElem?_eq_none V] at b;cases b
section
variable {bY rb:Nat}{b_ bZ:Int}{F:Nat->Prop}{s:ck}{w:ax}{g:gO}
theorem JC (h:(cx bY b_ bZ rb).J F s w)(hv:fH s)(i:dR s.T s.wt (g s.T s.wt))(g0:-1000000<=bZ)(g1:bZ<=1000000)(q:-1000000<=b_)(m1:b_<=1000000)(k R A B I n:Int):
 Calls prog 68 #[aj bY,dK k R A B I n] w fun e w'=>∃m,e=.returned (ah (s.ik g b_ bZ k R A B I n).1)/\(cx bY b_ bZ rb).J m (s.ik g b_ bZ k R A B I n).2 w'/\b8 F w m w':=by
 have tl:=hv.tl;have gl:=hv.gl;have wl:=hv.wl;unfold ck.ik;by_cases hc:dJ k R A B n=0
 ·rw[aI hc];by_cases b:k=9
  ·rw[aI b];subst b;have j:=lv hc aa;have l:=l4 hc aa;obtain⟨A,rfl⟩:=Int.eq_ofNat_of_zero_le j.1;obtain⟨B,rfl⟩:=Int.eq_ofNat_of_zero_le l.1;rw[Int.toNat_natCast,Int.toNat_natCast];exact Ju h R I n A B V V hc _ _ (JA _ _ _) (fun w' hb=>Im ((cx bY b_ bZ rb).below h hb) _ _ (hv.root A) (hv.root B) tl V V)
  rw[aG b];by_cases d:k=12
  ·rw[aI d];subst d;have j:=lv hc aa;have l:=l4 hc aa;obtain⟨A,rfl⟩:=Int.eq_ofNat_of_zero_le j.1;obtain⟨B,rfl⟩:=Int.eq_ofNat_of_zero_le l.1;rw[Int.toNat_natCast,Int.toNat_natCast];exact Jv h R I n A B V V hc _ _ (JB _ _ _ _) (fun w' hb=>Io ((cx bY b_ bZ rb).below h hb) _ _ I (hv.root A) tl hv.iv.tl)
  rw[aG d];by_cases f:k=15
  ·rw[aI f];exact AG k R A B I n (aK f) hc _ _ (fun _ w' hb=>Ay ((cx bY b_ bZ rb).below h hb) hv i g0 g1) (fun e=>by omega)
  rw[aG f];by_cases e16:k=16
  ·rw[aI e16];exact AG k R A B I n (aJ e16) hc _ _ (fun e=>by omega) (fun _ w' hb=>Ax ((cx bY b_ bZ rb).below h hb) hv i)
  rw[aG e16];have u:=x4 hc (Jz hc b d f e16)
  obtain⟨R,rfl⟩:=Int.eq_ofNat_of_zero_le u.1;rw[Int.toNat_natCast];have o:∀w',aw w w'->_:=fun w' hb=>Jr ((cx bY b_ bZ rb).below h hb) hv i g0 g1 q m1 k R A B I n hc b d f e16;generalize s.rt g b_ bZ k A.toNat B.toNat I n=t at*;obtain⟨v,cd,p⟩:=t;by_cases c:cd=0
  ·rw[aI c];subst c;exact Jy h k R V A B I n hc b d f e16 v p o
  ·rw[aG c];exact Jw k R A B I n hc b d f e16 v cd c p o
 ·rw[aG hc];refine(Jt k R A B I n hc).mono ?_;rintro e w' ⟨rfl,hb⟩
  exact⟨F,rfl,(cx bY b_ bZ rb).below h hb,b8.of hb⟩
end
def nz:ck:=⟨[],List.replicate 12 (0,0),[],[]⟩
theorem JD {w:ax}{b:Nat}(h:w.heap[b]?=some (.map #[] 0)):es w b 0 (fun _=>none):=by obtain⟨D,⟨d,e,hb,r⟩,c⟩:=es.made w;rw[aN] at hb;cases hb;exact⟨D,⟨#[],0,h,r⟩,c⟩
theorem JE (fm:Fm):hJ [] fm=fun _=>none:=by
 funext x
 refine lH (fun h=>?_)
 have:=h.2.1;simp at this
theorem JF {w:ax}{bY mb bp rb:Nat}{n o:Int}(hg:w.heap[bY]?=some (.cells #[ah n,ah o,.map (some mb),ah 0,ah 0,aj bp,.slice (ak rb) 12 12] 187 (0,0)))
 (hm:w.heap[mb]?=some (.map #[] 0))(hb:w.heap[bp]?=some (.cells #[.slice none 0 0,.slice none 0 0] 153 (0,0)))(hr:w.heap[rb]?=some (.cells (ev (List.replicate 12 (0,0))).toArray 97 (0,0))):
 (cx bY n o rb).J (fun b=>b=bY\/b=mb\/b=bp\/b=rb) nz w:=by
 have n1:bY≠mb:=fun e=>by rw[e,hm] at hg;cases hg
 have c:bY≠bp:=fun e=>by rw[e,hb] at hg;simp at hg
 have d:bY≠rb:=fun e=>by rw[e,hr] at hg;simp at hg
 have n4:mb≠bp:=fun e=>by rw[e,hb] at hm;cases hm
 have f:mb≠rb:=fun e=>by rw[e,hr] at hm;cases hm
 have g:bp≠rb:=fun e=>by rw[e,hr] at hb;simp at hb
 have o1:∀b,(if b=bY then 1 else if b=mb then 2 else if b=bp then 3 else if b=rb then 4 else 0)≠(0:Nat)↔b=bY\/b=mb\/b=bp\/b=rb:=fun b=>by
  by_cases j:b=bY
  ·simp[j]
  ·by_cases l:b=mb
   ·simp[l,n1.symm]
   ·by_cases m:b=bp
    ·simp[m,c.symm,n4.symm]
    ·by_cases p:b=rb
     ·simp[p,d.symm,f.symm,g.symm]
     ·simp[j,l,m,p]
 refine⟨⟨fun b=>if b=bY then 1 else if b=mb then 2 else if b=bp then 3 else if b=rb then 4 else 0,mb,bp,rb,fun _=>(none,0),0,0,none,0,none,0⟩,?_,rfl,fun b=>(o1 b).symm⟩
 refine {blk:=hg,bo:=by dsimp only;rw[aI rfl],g2:=?_,g3:=?_,g4:=?_,lt:=fun b h=>?_}
 ·refine {mp:=?_,mn:=aD _,dp:=?_,fl:=fun i hi=>?_,eR:=fun i hi=>?_,fe:=fun i hi=>?_,al:=aD _}
  ·show es w mb 0 (hJ [] _)
   rw[JE];exact JD hm
  ·dsimp only;rw[aG n1.symm,aI rfl]
  ·exact absurd hi.1 (by simp[nz])
  ·exact absurd hi.1 (by simp[nz])
  ·exact absurd hi.1 (by simp[nz])
 ·refine {sd:=⟨hb,bc _ _ _ _,bc _ _ _ _⟩,so:=?_,ro:=fun k e=>?_,mf:=fun k e=>?_}
  ·dsimp only;rw[aG c.symm,aG n4.symm,aI rfl]
  ·cases e
  ·cases e
 ·refine {rt:=hr,rl:=by simp[nz],ro:=?_};dsimp only;rw[aG d.symm,aG f.symm,aG g.symm,aI rfl]
 ·rcases(o1 b).1 h with e|e|e|e
  ·rw[e];exact lt_of_some hg
  ·rw[e];exact lt_of_some hm
  ·rw[e];exact lt_of_some hb
  ·rw[e];exact lt_of_some hr
theorem JG (n o:Nat)(w:ax)(h0:16<=n)(A:n<=256)(B:o<=1024):
 Calls prog 67 #[ah n,ah o] w fun e w'=>∃bY rb F,e=.returned (.tuple #[aj bY,.agg #[ah 0,ah 0]])/\(cx bY n o rb).J F nz w'/\(∀b,F b->w.heap.size<=b)/\aw w w':=by
 have Y:=@run_makeMap prog;have C:=au w (.cells #[.int .i64 0,.int .i64 0] 28)
 have P:=Hr n o (w.alloc (.cells #[.int .i64 0,.int .i64 0] 28)) h0 A B;have D:=aN w (.cells #[.int .i64 0,.int .i64 0] 28)
 have M:w.heap.size<(w.alloc (.cells #[.int .i64 0,.int .i64 0] 28)).heap.size:=Z;have E:=hide C;clear C h0 A B;go_enter func67,ntmps67;go_wp2_with fail;generalize w.alloc (.cells #[.int .i64 0,.int .i64 0] 28)=w0 at*;generalize N:w.heap.size=fb at*;refine P.mono ?_;clear P;rintro e w1 ⟨hp,rfl,t⟩
 have u:=(t.block fb M).trans D;have O:=hide (E.out.trans (t.mono V))
 have Q:=lt_of_some u;clear t D E;have B1:=(((au w1 (.cells #[.int .i64 0,.int .i64 0] 28)).alloc Z (.map #[] 0)).alloc (by simp;omega) (.cells #[.slice none 0 0,.slice none 0 0] 153)).alloc (by simp;omega) (.cells #[.int .i64 0,.int .i64 0] 97)
 have m1:((((w1.alloc (.cells #[.int .i64 0,.int .i64 0] 28)).alloc (.map #[] 0)).alloc (.cells #[.slice none 0 0,.slice none 0 0] 153)).alloc (.cells #[.int .i64 0,.int .i64 0] 97)).heap[w1.heap.size+1]?=some (.map #[] 0):=by rw[aS _ _ _ Z,aS _ _ _ Z];exact iR w1 _ _
 have f:((((w1.alloc (.cells #[.int .i64 0,.int .i64 0] 28)).alloc (.map #[] 0)).alloc (.cells #[.slice none 0 0,.slice none 0 0] 153)).alloc (.cells #[.int .i64 0,.int .i64 0] 97)).heap[w1.heap.size+1+1]?=some (.cells #[.slice none 0 0,.slice none 0 0] 153 (0,0)):=by
  rw[aS _ _ _ Z];have:=iR (w1.alloc (.cells #[.int .i64 0,.int .i64 0] 28)) (.map #[] 0) (.cells #[.slice none 0 0,.slice none 0 0] 153)
  simpa using this
 have G:((((w1.alloc (.cells #[.int .i64 0,.int .i64 0] 28)).alloc (.map #[] 0)).alloc (.cells #[.slice none 0 0,.slice none 0 0] 153)).alloc (.cells #[.int .i64 0,.int .i64 0] 97)).heap[w1.heap.size+1+1+1]?=some (.cells #[ah 0,ah 0] 97 (0,0)):=by
  have:=aN ((((w1.alloc (.cells #[.int .i64 0,.int .i64 0] 28)).alloc (.map #[] 0)).alloc (.cells #[.slice none 0 0,.slice none 0 0] 153))) (.cells #[.int .i64 0,.int .i64 0] 97)
  simpa using this
 have q:((((w1.alloc (.cells #[.int .i64 0,.int .i64 0] 28)).alloc (.map #[] 0)).alloc (.cells #[.slice none 0 0,.slice none 0 0] 153)).alloc (.cells #[.int .i64 0,.int .i64 0] 97)).heap.size=w1.heap.size+1+1+1+1:=Z;obtain⟨v0,v1,_,_⟩:=di G;have H:=AE _ (w1.heap.size+1+1+1) 12 (0,0) aa v0 v1;have l:=(B1.block fb Q).trans u;have I:=vI B1 m1 f l q;clear B1 m1 f G v0 v1 u l q;go_wp2_with fail;generalize (((w1.alloc (.cells #[.int .i64 0,.int .i64 0] 28)).alloc (.map #[] 0)).alloc (.cells #[.slice none 0 0,.slice none 0 0] 153)).alloc (.cells #[.int .i64 0,.int .i64 0] 97)=ab at*;refine H.mono ?_;clear H;rintro e c ⟨nb,rfl,R,K,g⟩
 obtain⟨B1,m1,f,l,q⟩:=I.out;have i:=(g.block fb V).trans l;have S:ay (_/\_/\_/\w1.heap.size+1+1<nb/\_/\_):=
  ⟨(g.block _ V).trans m1,(g.block _ V).trans f,K,V,(O.out.trans (B1.mono V)).trans (g.mono V),lt_of_some ((g.block _ V).trans f)⟩
 have y0:c.cell? (aq fb 0)=some (ah 0):=by simp[World.cell?,i]
 have y1:c.cell? (aq fb 1)=some (ah 0):=by simp[World.cell?,i]
 have z0:c.frozen? (aq fb 0)=false:=by simp[World.frozen?,i]
 have ad:c.frozen? (aq fb 1)=false:=by simp[World.frozen?,i]
 have U:=lt_of_some i;clear i g K R B1 m1 f l q I;go_wp2_with fail;obtain⟨d,hW1⟩:∃d,d=(c.setCell ⟨fb,0,none⟩ (.int .i64 0)).setCell ⟨fb,1,none⟩ (.int .i64 0):=⟨_,rfl⟩
 rw[<-hW1];have v0:d.cell? (aq fb 0)=some (ah 0):=by exact s_
 have v1:d.cell? (aq fb 1)=some (ah 0):=by rw[hW1];exact bf _ _ _ ((a5 c ⟨fb,0,none⟩ ⟨fb,1,none⟩ _ Z).trans y1)
 have s:Fr (fun k=>k=fb) c d:=by rw[hW1];exact((Fr.refl (fun k=>k=fb) c).set fb 0 _ rfl).set fb 1 _ rfl
 have L:d.heap.size=c.heap.size:=by rw[hW1];simp
 clear hW1;obtain⟨k1,W,x,ag,k5,k6⟩:=S.out;have j:=au d (.cells #[.int .i64 n,.int .i64 o,.map (some (w1.heap.size+1)),.int .i64 0,.int .i64 0,.pointer (some ⟨w1.heap.size+1+1,0,none⟩),.slice (some ⟨nb,0,none⟩) 12 12] 187)
 have hg:=aN d (.cells #[.int .i64 n,.int .i64 o,.map (some (w1.heap.size+1)),.int .i64 0,.int .i64 0,.pointer (some ⟨w1.heap.size+1+1,0,none⟩),.slice (some ⟨nb,0,none⟩) 12 12] 187)
 rw[L] at hg;have g0:=(j.cell (p:=aq fb 0) (by show fb<_;omega)).trans v0;have g1:=(j.cell (p:=aq fb 1) (by show fb<_;omega)).trans v1;have J:=JF hg ((j.block _ V).trans ((s.block _ V (fun e=>by have e:=e;omega)).trans k1)) ((j.block _ V).trans ((s.block _ V (fun e=>by have e:=e;omega)).trans W)) ((j.block _ (by rw[L];exact lt_of_some x)).trans ((s.block _ (lt_of_some x) (fun e=>by have e:=e;omega)).trans x))
 have X:=k5.trans (s.below (Nat.le_of_lt U) (fun k e=>Nat.le_of_eq (Eq.symm e)))
 refine a3 (v:=.tuple #[aj c.heap.size,.agg #[ah 0,ah 0]]) (by simp only [results,results67];simp[go_sem,g0,g1]) rfl ⟨c.heap.size,nb,_,rfl,J,fun b m=>?_,by rw[N];exact X.trans (j.mono V)⟩
 rcases m with m|m|m|m<;>omega
structure fB (B:Nat)(w w':ax):Prop where
 os:w'.os=w.os
 tape:w'.tape=w.tape
 output:w'.output=w.output
 size:w.heap.size<=w'.heap.size
 low:∀k:Nat,k<w.heap.size->k<B->w'.heap[k]?=w.heap[k]?
 h9:∀(k:Nat) cs e m,w.heap[k]?=some (Obj.cells cs e m)->e≠231->e≠107->w'.heap[k]?=w.heap[k]?
section
variable {B:Nat}{w w' w'':ax}
theorem fB.refl (B:Nat)(w:ax):fB B w w:=⟨rfl,rfl,rfl,aD _,fun _ _ _=>rfl,fun _ _ _ _ _ _ _=>rfl⟩
theorem fB.trans (h:fB B w w')(k:fB B w' w''):fB B w w'':=
 ⟨k.os.trans h.os,k.tape.trans h.tape,k.output.trans h.output,aT h.size k.size,fun i hi hb=>(k.low i (aM hi h.size) hb).trans (h.low i hi hb),fun i b e m hi c d=>(k.h9 i b e m ((h.h9 i b e m hi c d).trans hi) c d).trans (h.h9 i b e m hi c d)⟩
theorem fB.of (h:aw w w'):fB B w w':=⟨h.os,h.tape,h.output,h.size,fun k hk _=>h.block k hk,fun k _ _ _ hi _ _=>h.block k (lt_of_some hi)⟩
theorem fB.below (h:fB B w w')(hB:B<=w.heap.size):Below B w w':=⟨h.os,h.tape,h.output,h.size,fun k hk=>h.low k V hk⟩
theorem fB.set {pk o:Nat}{b:Array Value}{m:Nat×Nat}{e:TypeId}{v:Value}(hp:w.heap[pk]?=some (.cells b e m))(he:e=231\/e=107)(hB:B<=pk):fB B w (w.setCell ⟨pk,o,none⟩ v):=
 ⟨rfl,rfl,rfl,by simp[World.setCell],fun k _ hk=>aU _ _ _ _ (fun c=>by have c:k=pk:=c;omega),fun k g i j hk d f=>aU _ _ _ _ (fun c=>by
  rw[c,hp] at hk;simp at hk;rcases he with he|he
  ·exact d (hk.2.1.symm.trans he)
  ·exact f (hk.2.1.symm.trans he))⟩
theorem fB.grown {row:Option Nat}(g:w.grownBy w' row)(hr:∀k,row=some k->B<=k/\∀b e m,w.heap[k]?=some (.cells b e m)->e=231\/e=107):fB B w w':=
 ⟨g.os,g.tape,g.output,g.size,fun k hk hb=>g.block k hk (fun e=>by have:=(hr k e.symm).1;omega),fun k b e m hk d f=>g.block k (lt_of_some hk) (fun c=>((hr k c.symm).2 b e m hk).elim d f)⟩
theorem fj.mB {ad:Option Addr}{l:List _}(h:fj w ad l)(k:fB B w w'):fj w' ad l:=by exact sA
end
def fI (w0 w:ax)(m:List dT)(w':ax)(b:List dT):Prop:=fB w0.heap.size w w'/\∀k,fp b k->fp m k\/w.heap.size<=k
theorem fI.refl (w0 w:ax)(m:List dT):fI w0 w m w m:=⟨fB.refl _ _,fun _ h=>aK h⟩
theorem fI.trans {w0 w w' b:ax}{m d e:List dT}(h:fI w0 w m w' d)(k:fI w0 w' d b e):fI w0 w m b e:=
 ⟨h.1.trans k.1,fun i hi=>(k.2 i hi).elim (h.2 i) (fun c=>aJ (aT h.1.size c))⟩
theorem fI.of {w0 w w':ax}{m:List dT}(h:aw w w'):fI w0 w m w' m:=⟨fB.of h,fun _ h=>aK h⟩
theorem fI.new {w0 w w' b:ax}{m d:List dT}{X:Nat->Prop}(h:fI w0 w m w' d)(f:Fr X w' b)(g:∀k,X k->w.heap.size<=k):fI w0 w m b d:=
 ⟨⟨f.os.trans h.1.os,f.tape.trans h.1.tape,f.output.trans h.1.output,aT h.1.size f.size,fun k hk hb=>(f.block k (aM hk h.1.size) (fun c=>by have:=g k c;omega)).trans (h.1.low k hk hb),
  fun k i e mm hk j l=>(f.block k (aM (lt_of_some hk) h.1.size) (fun c=>by have:=g k c;have:=lt_of_some hk;omega)).trans (h.1.h9 k i e mm hk j l)⟩,h.2⟩
def kA (ms:List Int)(x:Int):Option Value:=if ms.contains x=true then some (ah (ms.idxOf x:Int)) else none
theorem JH {ms:List Int}{a:Int}(hn:a∉ms):jG (kA ms) a (ah ms.length)=kA (ms++[a]):=by
 funext b
 unfold jG kA;by_cases e:b=a
 ·subst e;rw[aI rfl,aI Z,List.idxOf_append,aG hn];simp
 ·rw[aG e];by_cases c:b∈ms
  ·rw[aI (by simp[c]),aI (by simp[c]),List.idxOf_append,aI c]
  ·rw[aG (by simpa using c),aG (by simp[c,e])]
theorem AH {ms:List Int}{a:Int}(h:a∉ms):kA ms a=none:=by unfold kA;rw[aG (by simpa using h)]
theorem JJ {ms:List Int}{a:Int}(h:a∈ms):kA ms a=some (ah (ms.idxOf a:Int)):=by unfold kA;rw[aI (by simpa using h)]
structure fg (w0 w:ax)(kb ch bY:Nat)(s:cQ)(vn:Value)(m:List dT):Prop where
 blk:w.heap[kb]?=some (.cells #[aj bY,.map (some ch),vn] 231 (0,0))
 lo:w0.heap.size<=kb/\w0.heap.size<=ch
 mp:es w ch s.1.length (kA s.1)
 row:w.ownsRow w0.heap.size 107 2 vn m.length (nv m)
 nd:hY m=s.2
 fl:∀x∈m,fj w x.2.1 x.2.2.2
 eH:aw w0 w
section
variable {w0 w w':ax}{kb ch bY:Nat}{s:cQ}{vn:Value}{m:List dT}
theorem fg.below (h:fg w0 w kb ch bY s vn m)(hb:aw w w'):fg w0 w' kb ch bY s vn m:=
 ⟨(hb.block kb (lt_of_some h.blk)).trans h.blk,h.lo,h.mp.same (hb.block ch h.mp.lt),cH h.row (fun k hk=>hb.block k (cn h.row k hk).2),h.nd,fun x b=>(h.fl x b).mB (fB.of (B:=0) hb),h.eH.trans (hb.mono h.eH.size)⟩
theorem fg.cells (h:fg w0 w kb ch bY s vn m):w.cell? (aq kb 0)=some (aj bY)/\w.cell? (aq kb 1)=some (.map (some ch))/\w.cell? (aq kb 2)=some vn/\kb<w.heap.size:=
 ⟨by simp[World.cell?,h.blk],by simp[World.cell?,h.blk],by simp[World.cell?,h.blk],lt_of_some h.blk⟩
theorem fg.len (h:fg w0 w kb ch bY s vn m):m.length=s.2.length:=by rw[<-h.nd];simp[hY]
theorem fg.fb (h:fg w0 w kb ch bY s vn m)(k:Nat)(hk:fp m k):k<w.heap.size:=by exact xk
theorem fg.but {X:Nat->Prop}(h:fg w0 w kb ch bY s vn m)(f:Fr X w w')(hX:∀k,k<w.heap.size->X k->(∃cs,w.heap[k]?=some (.cells cs 97 (0,0)))/\¬fp m k/\w0.heap.size<=k):fg w0 w' kb ch bY s vn m:=by
 obtain⟨j,l,d⟩:=h.mp.blk;have n1:¬X kb:=fun c=>by obtain⟨⟨cs,hc⟩,_⟩:=hX kb (lt_of_some h.blk) c;rw[h.blk] at hc;simp at hc
 have g:¬X ch:=fun c=>by obtain⟨⟨cs,hc⟩,_⟩:=hX ch h.mp.lt c;rw[d] at hc;simp at hc
 refine⟨(f.block kb (lt_of_some h.blk) n1).trans h.blk,h.lo,h.mp.same (f.block ch h.mp.lt g),cH h.row (fun k hk=>f.block k (cn h.row k hk).2 (fun c=>?_)),h.nd,fun x hx=>?_,h.eH.trans ⟨f.os,f.tape,f.output,f.size,fun k hk=>f.block k (aM hk h.eH.size) (fun c=>by have:=(hX k (aM hk h.eH.size) c).2.2;omega)⟩⟩
 ·obtain⟨⟨cs,hc⟩,_⟩:=hX k (cn h.row k hk).2 c;obtain⟨n,i⟩:=e5 h.row k hk;rw[i] at hc;simp at hc
 ·have hl:=h.fl x hx;exact xg
end
def gG (T:List cD)(wt:List b7)(a:Int):List (Int×Int):=if(T.getD a.toNat t0).1=5 then(ef wt a).map (fun x=>((3:Int),x)) else(T.getD a.toNat t0).2.1
theorem JK {T:List cD}{wt:List b7}{a:Int}(b:(T.getD a.toNat t0).1=5->(T.getD a.toNat t0).2.1=[]):(gG T wt a).map gq=gQ T wt a:=by
 unfold gG gQ;by_cases c:(T.getD a.toNat t0).1=5
 ·rw[aI c,aI c,b c];simp[ef,gq]
 ·rw[aG c,aG c,List.append_nil]
section
variable {bY:Nat}{b_ bZ:Int}{l:gF}{s:ck}{w:ax}
theorem JL (h:dS bY b_ bZ l s w)(G:Nat)(hk:w.cell? (aq G 0)=some (aj bY))(a:Int)(ha:0<=a/\cv s.T a.toNat)(a1:s.T.length<=10000)(hw:s.wt.length<=10000):
 Calls prog 254 #[aj G,ah a] w fun e w'=>∃ad cap,e=.returned (.slice ad (gG s.T s.wt a).length cap)/\fj w' ad (gG s.T s.wt a)/\aw w w':=by
 obtain⟨P,hi,Q,R,S⟩:=info_parts rA;have al:a<10000:=by have:=ha.2.1;omega
 have L:=h.g2.mp.look (t:=184) (e:=220) Tryz.underlying184 (mr w) (x:=a) ha.1 V;rw[jb ha] at L;dsimp only [Option.getD_some,fW,eD] at L;obtain⟨_,_,c2,_,_,c5,_,_,a2⟩:=h.cells;have lk:=aQ w _ hk;have H:=fj.of (h.g2.fl a.toNat ha.2)
 have b1:=au w (.cells #[.int .i64 (s.T.getD a.toNat t0).1,.slice (l.fm a.toNat).1 (s.T.getD a.toNat t0).2.1.length (l.fm a.toNat).2] 220)
 have I:=H.mB (fB.of (B:=0) b1)
 have g1:=h.below b1;have v:=sF _ l.bp _ l.a1 l.k1 s.wt a g1.g3.sd.blk (g7 g1.g3.sd.q0) V;have U:=aT (oU s.wt a) hw;by_cases g:(s.T.getD a.toNat t0).1=5
 ·have u:gG s.T s.wt a=(ef s.wt a).map (fun x=>((3:Int),x)):=by unfold gG;rw[aI g]
  rw[u];rw[g] at L b1 v;have i:=hide b1;generalize (l.fm a.toNat).1=ad at*;generalize (l.fm a.toNat).2=cp at*;generalize (s.T.getD a.toNat t0).2.1.length=n at*;generalize ef s.wt a=A at*;rw[aW];go_enter func254,ntmps254;go_wp2_with fail;refine v.mono ?_;rintro e w1 ⟨bb,gb,rfl,W,X⟩
  have J:=hide (i.out.trans (X.mono i.out.size))
  have Y:=hide (gH W)
  have s1:=J.out.size;go_wp2_with fail
  go_loopw [6,33] (fun tv iv wr=>∃(j:Nat)(c:Option Addr)(d:Nat),j<=A.length/\iv=ah j/\tv=.slice c j d/\wr.ownsRow w1.heap.size 97 2 (.slice c j d) j (ev ((A.take j).map (fun x=>((3:Int),x))))/\aw w1 wr) (fun _ iv _=>A.length-(intOf iv).toNat)
  exact⟨0,none,0,aZ _,rfl,rfl,bc _ _ _ _,aH _ _⟩
  ·
    obtain⟨j,c,d,b,rfl,rfl,m,hb⟩:=hrel;by_cases K:j<A.length
    ·obtain⟨ab,o,ag,lb,ai⟩:=Y.out V;have hc:=(hb.cell (p:=aq ab (o+j)) lb).trans (ai j K)
     have M:ay (ev ((A.take (j+1)).map (fun x=>((3:Int),x)))=ev ((A.take j).map (fun x=>((3:Int),x)))++[ah 3,ah (A.getD j 0)]):=by show _=_;rw[gx A j K 0,List.map_append,iV];rfl
     subst ag;have am:=hb.size;generalize A.getD j 0=y at*;generalize ev ((A.take j).map (fun x=>((3:Int),x)))=L at*;go_wp2_with fail;refine(ow y wr).mono ?_;rintro e an ⟨rfl,C⟩
     have D:=cH m (fun k e=>C.block k (cn m k e).2)
     have E:=hb.trans (C.mono am)
     have ao:=E.size;clear m hb C hc;go_wp2_with (at_builtin;refine wpList_append_own_at _ rfl _ _ 57 rfl w1.heap.size 97 P (.agg #[ah 0,ah 0]) 2 16 Tryz.underlying57 hi Q R S rfl aa (.slice c j d) j L rfl (ga D _) ⟨an.heap.size,0,none⟩ 1 1 [ah 3,ah y] rfl rfl ?_ ?_ ?_ ?_ ?_ ?_;(intro j ap b;match j,b with|0,b=>(simp at b;subst b;simp[Addr.add])|1,b=>(simp at b;subst b;simp[Addr.add]));(intro ap q;simp at q;rcases q with q|q<;>(subst q;rfl));(unfold maxLen;omega);omega;(simp;omega);intro bd ar F N _ aB;obtain⟨b4,O,aF⟩:=eU F (Nat.succ_pos _);subst aF)
     have aR:ar.ownsRow w1.heap.size 97 2 (.slice (ak b4) (j+1) O) (j+1) (ev ((A.take (j+1)).map (fun x=>((3:Int),x)))):=by rw[M.out];exact F
     have aV:=(E.alloc ao _).grown N (by simp;omega) (fun k e=>(cn D k e.symm).1)
     clear F N aB D E M;go_wp2_with fail;go_roundw;exact⟨j+1,ak b4,O,V,af,rfl,aR,aV⟩
     simp[intOf];omega
    ·obtain rfl:j=A.length:=V;rw[bu] at m;go_wp2_with fail;go_ret;refine⟨c,d,rfl,?_,J.out.trans (hb.mono s1)⟩
     have a0:wr.ownsRow w1.heap.size 97 2 (.slice c (A.map (fun x=>((3:Int),x))).length d) (A.map (fun x=>((3:Int),x))).length (ev (A.map (fun x=>((3:Int),x)))):=by rw[aW];exact m
     exact fj.of a0
 ·have u:gG s.T s.wt a=(s.T.getD a.toNat t0).2.1:=by unfold gG;rw[aG g]
  rw[u];have k5:((s.T.getD a.toNat t0).1!=5)=true:=by simpa using g
  have i:=dq I b1;clear u g H I g1 b1 h ha v U;generalize (s.T.getD a.toNat t0).2.1=f at*;generalize (l.fm a.toNat).1=ad at*;generalize (l.fm a.toNat).2=cp at*;generalize (s.T.getD a.toNat t0).1=kd at*;go_enter func254,ntmps254;go_wp2_with fail;go_ret;exact⟨ad,⟨cp,rfl⟩,i.out.1,i.out.2⟩
end
end Go.Proofs.YtpkjkjhanlbcoaaGreat
