import Derived.Test.YtpkjkjhanlbcoaaGreatJ20
namespace Go.Proofs.YtpkjkjhanlbcoaaGreat
set_option maxRecDepth 100000
set_option maxHeartbeats 4000000
open Tryz
open Go.RowKit W Kp cf
section
variable {bY rb:Nat}{b_ bZ:Int}{F F':Nat->Prop}{s S2:ck}{w W1 w2:ax}{k R A B I n:Int}
abbrev f8 (w:ax)(k R A B I n:Int):ax:=(w.alloc (cz k R A B I n)).alloc (.cells #[.int .i64 0,.int .i64 0] 97)
theorem lJ (h:(cx bY b_ bZ rb).J F s w)(k R A B I n:Int):Below w.heap.size w (f8 w k R A B I n)/\(f8 w k R A B I n).heap[w.heap.size]?=some (cz k R A B I n)/\(f8 w k R A B I n).heap[w.heap.size+1]?=some (.cells #[ah 0,ah 0] 97 (0,0))/\(f8 w k R A B I n).cell? (aq bY 6)=some (.slice (ak rb) 12 12)/\
 (∀i,i<12->(f8 w k R A B I n).cell? (aq rb (i*2))=some (ah (s.rs.getD i (0,0)).1)/\(f8 w k R A B I n).cell? (aq rb (i*2+1))=some (ah (s.rs.getD i (0,0)).2))/\bY≠w.heap.size+1/\rb≠w.heap.size+1:=by
 have b:Below w.heap.size w (f8 w k R A B I n):=(bX.alloc bW _).alloc Z _;obtain⟨c,rt,d,e⟩:=jX ((cx bY b_ bZ rb).below h b)
 have l1:=(cx bY b_ bZ rb).lt h _ d;have l2:=(cx bY b_ bZ rb).lt h _ e;exact⟨b,(aS _ _ _ Z).trans (aN w _),iP w _ _,c,rt,V,V⟩
theorem oz (h:(cx bY b_ bZ rb).J F s w)(b1:Below w.heap.size w W1)(e:W1.heap[w.heap.size]?=some (cz k R A B I n))(d:W1.heap[w.heap.size+1]?=some (.cells #[ah 0,ah 0] 97 (0,0)))(f:(cx bY b_ bZ rb).J F' S2 w2)(tn:b8 F W1 F' w2)(g:S2.rs=s.rs):
 (w2.cell? (aq bY 6)=some (.slice (ak rb) 12 12)/\(∀i,i<12->w2.cell? (aq rb (i*2))=some (ah (s.rs.getD i (0,0)).1)/\w2.cell? (aq rb (i*2+1))=some (ah (s.rs.getD i (0,0)).2))/\w2.heap[w.heap.size]?=some (cz k R A B I n))/\
 w2.heap[w.heap.size+1]?=some (.cells #[ah 0,ah 0] 97 (0,0))/\ay ((cx bY b_ bZ rb).J F' S2 w2/\b8 F w F' w2/\¬F' (w.heap.size+1)):=by
 have fS:∀b,F b->b<w.heap.size:=fun b hb=>(cx bY b_ bZ rb).lt h b hb;obtain⟨j,rt,_,_⟩:=jX f;rw[g] at rt;have kp:∀b,w.heap.size<=b->b<W1.heap.size->w2.heap[b]?=W1.heap[b]?:=fun b m l=>tn.fr.block b l (fun c=>by have:=fS b c;omega)
 refine⟨⟨j,rt,(kp _ bW (lt_of_some e)).trans e⟩,(kp _ (Nat.le_succ _) (lt_of_some d)).trans d,f,(b8.of b1).trans tn,fun c=>?_⟩
 have l1:=lt_of_some d;rcases tn.sub _ c with c|c
 ·have:=fS _ c;omega
 ·omega
theorem uN (hv:fH s)(hl:s.rs.length=12){A:Nat}(b:A<12):(s.rs.getD A (0,0)).1=3->0<=(s.rs.getD A (0,0)).2/\cv s.T (s.rs.getD A (0,0)).2.toNat:=hv.rv _ (getD_in V)
theorem uO (h:(cx bY b_ bZ rb).J F s w):s.rs.length=12:=by obtain⟨l,h,_⟩:=h;exact h.g4.rl
def ck.gt (s:ck)(v:Int×Int)(I:Int):(Int×Int)×Int×ck:=((if s.fc v I=0 then(s.T.getD v.2.toNat t0).2.1.getD I.toNat (0,0) else(0,0)),s.fc v I,s)
def ck.ln (s:ck)(v:Int×Int):(Int×Int)×Int×ck:=if jC s.T v=true then((1,((s.T.getD v.2.toNat t0).2.1.length:Int)),0,s) else((0,0),2,s)
theorem Jg (s:ck)(v:Int×Int)(I:Int):(s.gt v I).2.2=s:=rfl
theorem Jh (s:ck)(v:Int×Int):(s.ln v).2.2=s:=by unfold ck.ln;split<;>rfl
theorem Ji (h:(cx bY b_ bZ rb).J F s w)(v:Int×Int)(i:Int)(hv:v.1=3->0<=v.2/\cv s.T v.2.toNat)(g:s.T.length<=10000):
 Calls prog 201 #[aj bY,.agg #[ah v.1,ah v.2],ah i] w fun e w'=>∃F',e=.returned (.tuple #[.agg #[ah (s.gt v i).1.1,ah (s.gt v i).1.2],ah (s.gt v i).2.1])/\(cx bY b_ bZ rb).J F' (s.gt v i).2.2 w'/\b8 F w F' w':=by
 have p:=h;obtain⟨l,h,_,_⟩:=h;have j:∀(a b c:Int),(s.gt v i).1=(a,b)->(s.gt v i).2.1=c->∀(e:Ending)(w':ax),(e=.returned (.tuple #[.agg #[ah a,ah b],ah c])/\Below w.heap.size w w')->∃F',e=.returned (.tuple #[.agg #[ah (s.gt v i).1.1,ah (s.gt v i).1.2],ah (s.gt v i).2.1])/\(cx bY b_ bZ rb).J F' (s.gt v i).2.2 w'/\b8 F w F' w':=by
  rintro a b c q t e w' ⟨rfl,hb⟩
  rw[q,t,Jg];exact⟨F,rfl,(cx bY b_ bZ rb).below p hb,b8.of hb⟩
 by_cases k:v.1=3/\(s.T.getD v.2.toNat t0).1≠5
 ·obtain⟨f,n⟩:=k;have hd:jC s.T v=true:=jD.2 ⟨f,n⟩
  have o:=hv f;by_cases hi:i<0\/((s.T.getD v.2.toNat t0).2.1.length:Int)<=i
  ·have d:s.fc v i=1:=by unfold ck.fc;rw[aI hd,aI hi]
   rw[f];exact(Ac h v.2 i o g n hi).mono (j 0 0 1 (by unfold ck.gt;rw[d];rfl) d)
  ·have d:s.fc v i=0:=by unfold ck.fc;rw[aI hd,aG hi]
   obtain⟨m,rfl⟩:=Int.eq_ofNat_of_zero_le (a:=i) V;rw[f];exact(Ad h v.2 m o g n V).mono (j _ _ 0 (by unfold ck.gt;rw[d];rfl) d)
 ·have d:s.fc v i=2:=by unfold ck.fc;rw[aG (fun c=>k (jD.1 c))]
  exact(Ab h v i hv g (fun f=>Classical.byContradiction (fun c=>k ⟨f,c⟩))).mono (j 0 0 2 (by unfold ck.gt;rw[d];rfl) d)
theorem Jj (h:(cx bY b_ bZ rb).J F s w)(v:Int×Int)(hv:v.1=3->0<=v.2/\cv s.T v.2.toNat)(f:s.T.length<=10000):
 Calls prog 208 #[aj bY,.agg #[ah v.1,ah v.2]] w fun e w'=>∃F',e=.returned (.tuple #[.agg #[ah (s.ln v).1.1,ah (s.ln v).1.2],ah (s.ln v).2.1])/\(cx bY b_ bZ rb).J F' (s.ln v).2.2 w'/\b8 F w F' w':=by
 have g:=h;obtain⟨l,h,_,_⟩:=h;by_cases d:v.1=3/\(s.T.getD v.2.toNat t0).1≠5
 ·obtain⟨b,i⟩:=d;have e:s.ln v=((1,((s.T.getD v.2.toNat t0).2.1.length:Int)),0,s):=aI (jD.2 ⟨b,i⟩)
  rw[e,b];refine(HY h v.2 (hv b) f i).mono ?_;rintro e w' ⟨rfl,hb⟩
  exact⟨F,rfl,(cx bY b_ bZ rb).below g hb,b8.of hb⟩
 ·have e:s.ln v=((0,0),2,s):=aG (fun c=>d (jD.1 c))
  rw[e];refine(HX h v hv f (fun b=>Classical.byContradiction (fun c=>d ⟨b,c⟩))).mono ?_;rintro e w' ⟨rfl,hb⟩
  exact⟨F,rfl,(cx bY b_ bZ rb).below g hb,b8.of hb⟩
end
section
variable {bY rb:Nat}{b_ bZ:Int}{F:Nat->Prop}{s:ck}{w:ax}
theorem Jm (h:(cx bY b_ bZ rb).J F s w)(hv:fH s)(R B I n:Int)(A:Nat)(f:A<12):
 Calls prog 136 #[aj bY,dK 10 R A B I n] w fun e w'=>∃b,e=.returned (.tuple #[.agg #[ah (s.pop (s.rs.getD A (0,0))).1.1,ah (s.pop (s.rs.getD A (0,0))).1.2],ah (s.pop (s.rs.getD A (0,0))).2.1])/\(cx bY b_ bZ rb).J b (s.pop (s.rs.getD A (0,0))).2.2 w'/\b8 F w b w':=by
 obtain⟨j,g,k,x,rt,C,l⟩:=lJ h 10 R A B I n;have m:=uN hv (uO h) f;have hd:Below w.heap.size w (f8 w 10 R A B I n).drew:=j.drew;have P:=It ((cx bY b_ bZ rb).below h hd) (s.rs.getD A (0,0)) m hv.tl (aT hv.wl aa)
 have i:Calls prog 207 #[aj bY,.agg #[ah (s.rs.getD A (0,0)).1,ah (s.rs.getD A (0,0)).2]] (f8 w 10 R A B I n).drew fun e c=>∃b,e=.returned (.tuple #[.agg #[ah (s.pop (s.rs.getD A (0,0))).1.1,ah (s.pop (s.rs.getD A (0,0))).1.2],ah (s.pop (s.rs.getD A (0,0))).2.1])/\
  (c.cell? (aq bY 6)=some (.slice (ak rb) 12 12)/\c.cell? (aq rb (A*2))=some (ah (s.rs.getD A (0,0)).1)/\c.cell? (aq rb (A*2+1))=some (ah (s.rs.getD A (0,0)).2)/\c.cell? (aq w.heap.size 2)=some (ah A))/\
  c.heap[w.heap.size+1]?=some (.cells #[ah 0,ah 0] 97 (0,0))/\ay ((cx bY b_ bZ rb).J b (s.pop (s.rs.getD A (0,0))).2.2 c/\b8 F w b c/\¬b (w.heap.size+1)):=by
  refine P.mono ?_;rintro e c ⟨b,rfl,D,tn⟩
  obtain⟨⟨E,o,G⟩,y1,d⟩:=oz h hd g k D tn (Jf _ _)
  obtain⟨_,_,H,_,U,_⟩:=eu G;exact⟨b,rfl,⟨E,(o A f).1,(o A f).2,H⟩,y1,d⟩
 clear P;obtain⟨J,K⟩:=rt A f;obtain⟨q0,q1,L,q3,M,N⟩:=eu g;generalize s.pop (s.rs.getD A (0,0))=gr at*;obtain⟨⟨v0,v1⟩,cd,W⟩:=gr;dsimp only at i⊢;generalize (s.rs.getD A (0,0)).1=a0 at*;generalize (s.rs.getD A (0,0)).2=a1 at*;have X:(0:Int)<=(A:Int):=V;have Y:(A:Int)<12:=V;have nx:w.heap.size≠w.heap.size+1:=V;clear h hv j hd g k rt m q0 q1 q3 M N;go_enter func136,ntmps136;go_wp2_with fail
 go_region_held3 (fun w'=>w'.cell? (aq bY 6)=some (.slice (ak rb) 12 12)/\w'.cell? (aq rb (A*2))=some (ah a0)/\w'.cell? (aq rb (A*2+1))=some (ah a1)/\w'.cell? (aq w.heap.size 2)=some (ah A)) (first|exact⟨ff C p,ff l q,ff l t,ff nx u⟩|(go_keep;done))
  (first|(go_at_call 207;refine i.mono ?_;clear i;rintro e c ⟨b,rfl,⟨p,q,t,u⟩,y1,d⟩;obtain⟨r0,r1,ab,lw⟩:=di y1;have O:ay (_=_):=y1;clear y1 x J K L))
 all_goals
  clear p q t u ‹_/\_›;go_wp2_with fail;obtain⟨Q,S,_,_⟩:=di (gy (v1:=ah v0) (v2:=ah v1) O.o)
  exact a3 (v:=.tuple #[.agg #[ah v0,ah v1],ah cd]) (by simp[results,results136,go_sem,Q,S]) rfl ⟨b,rfl,dr.set2 _ d.o.1 d.o.2.2 _ _,d.o.2.1.set2 (Nat.le_succ _) _ _⟩
theorem Jn (h:(cx bY b_ bZ rb).J F s w)(hv:fH s)(R B I n:Int)(A:Nat)(f:A<12):
 Calls prog 136 #[aj bY,dK 11 R A B I n] w fun e w'=>∃b,e=.returned (.tuple #[.agg #[ah (s.gt (s.rs.getD A (0,0)) I).1.1,ah (s.gt (s.rs.getD A (0,0)) I).1.2],ah (s.gt (s.rs.getD A (0,0)) I).2.1])/\(cx bY b_ bZ rb).J b (s.gt (s.rs.getD A (0,0)) I).2.2 w'/\b8 F w b w':=by
 obtain⟨j,g,k,C,rt,D,l⟩:=lJ h 11 R A B I n;have m:=uN hv (uO h) f;have hd:Below w.heap.size w (f8 w 11 R A B I n).drew:=j.drew;have P:=Ji ((cx bY b_ bZ rb).below h hd) (s.rs.getD A (0,0)) I m hv.tl;have i:Calls prog 201 #[aj bY,.agg #[ah (s.rs.getD A (0,0)).1,ah (s.rs.getD A (0,0)).2],ah I] (f8 w 11 R A B I n).drew fun e c=>∃b,e=.returned (.tuple #[.agg #[ah (s.gt (s.rs.getD A (0,0)) I).1.1,ah (s.gt (s.rs.getD A (0,0)) I).1.2],ah (s.gt (s.rs.getD A (0,0)) I).2.1])/\
  (c.cell? (aq bY 6)=some (.slice (ak rb) 12 12)/\c.cell? (aq rb (A*2))=some (ah (s.rs.getD A (0,0)).1)/\c.cell? (aq rb (A*2+1))=some (ah (s.rs.getD A (0,0)).2)/\c.cell? (aq w.heap.size 2)=some (ah A)/\c.cell? (aq w.heap.size 4)=some (ah I))/\
  c.heap[w.heap.size+1]?=some (.cells #[ah 0,ah 0] 97 (0,0))/\ay ((cx bY b_ bZ rb).J b (s.gt (s.rs.getD A (0,0)) I).2.2 c/\b8 F w b c/\¬b (w.heap.size+1)):=by
  refine P.mono ?_;rintro e c ⟨b,rfl,E,tn⟩
  obtain⟨⟨G,o,H⟩,y1,d⟩:=oz h hd g k E tn rfl;obtain⟨_,_,J,_,K,_⟩:=eu H;exact⟨b,rfl,⟨G,(o A f).1,(o A f).2,J,K⟩,y1,d⟩
 clear P;obtain⟨L,M⟩:=rt A f;obtain⟨q0,q1,N,q3,O,Q⟩:=eu g;generalize s.gt (s.rs.getD A (0,0)) I=gr at*;obtain⟨⟨v0,v1⟩,cd,X⟩:=gr;dsimp only at i⊢;generalize (s.rs.getD A (0,0)).1=a0 at*;generalize (s.rs.getD A (0,0)).2=a1 at*;have Y:(0:Int)<=(A:Int):=V;have ab:(A:Int)<12:=V;have nx:w.heap.size≠w.heap.size+1:=V;clear h hv j hd g k rt m q0 q1 q3 Q;go_enter func136,ntmps136;go_wp2_with fail
 go_region_held3 (fun w'=>w'.cell? (aq bY 6)=some (.slice (ak rb) 12 12)/\w'.cell? (aq rb (A*2))=some (ah a0)/\w'.cell? (aq rb (A*2+1))=some (ah a1)/\w'.cell? (aq w.heap.size 2)=some (ah A)/\w'.cell? (aq w.heap.size 4)=some (ah I)) (first|exact⟨ff D p,ff l q,ff l t,ff nx u,ff nx x⟩|(go_keep;done))
  (first|(go_at_call 201;refine i.mono ?_;clear i;rintro e c ⟨b,rfl,⟨p,q,t,u,x⟩,y1,d⟩;obtain⟨r0,r1,ad,lw⟩:=di y1;have S:ay (_=_):=y1;clear y1 C L M N O))
 all_goals
  clear p q t u x ‹_/\_›;go_wp2_with fail;obtain⟨U,W,_,_⟩:=di (gy (v1:=ah v0) (v2:=ah v1) S.o)
  exact a3 (v:=.tuple #[.agg #[ah v0,ah v1],ah cd]) (by simp[results,results136,go_sem,U,W]) rfl ⟨b,rfl,dr.set2 _ d.o.1 d.o.2.2 _ _,d.o.2.1.set2 (Nat.le_succ _) _ _⟩
theorem Jp (h:(cx bY b_ bZ rb).J F s w)(hv:fH s)(R B I n:Int)(A:Nat)(f:A<12):
 Calls prog 136 #[aj bY,dK 13 R A B I n] w fun e w'=>∃b,e=.returned (.tuple #[.agg #[ah (s.ln (s.rs.getD A (0,0))).1.1,ah (s.ln (s.rs.getD A (0,0))).1.2],ah (s.ln (s.rs.getD A (0,0))).2.1])/\(cx bY b_ bZ rb).J b (s.ln (s.rs.getD A (0,0))).2.2 w'/\b8 F w b w':=by
 obtain⟨j,g,k,x,rt,C,l⟩:=lJ h 13 R A B I n;have m:=uN hv (uO h) f;have hd:Below w.heap.size w (f8 w 13 R A B I n).drew:=j.drew;have P:=Jj ((cx bY b_ bZ rb).below h hd) (s.rs.getD A (0,0)) m hv.tl;have i:Calls prog 208 #[aj bY,.agg #[ah (s.rs.getD A (0,0)).1,ah (s.rs.getD A (0,0)).2]] (f8 w 13 R A B I n).drew fun e c=>∃b,e=.returned (.tuple #[.agg #[ah (s.ln (s.rs.getD A (0,0))).1.1,ah (s.ln (s.rs.getD A (0,0))).1.2],ah (s.ln (s.rs.getD A (0,0))).2.1])/\
  (c.cell? (aq bY 6)=some (.slice (ak rb) 12 12)/\c.cell? (aq rb (A*2))=some (ah (s.rs.getD A (0,0)).1)/\c.cell? (aq rb (A*2+1))=some (ah (s.rs.getD A (0,0)).2)/\c.cell? (aq w.heap.size 2)=some (ah A))/\
  c.heap[w.heap.size+1]?=some (.cells #[ah 0,ah 0] 97 (0,0))/\ay ((cx bY b_ bZ rb).J b (s.ln (s.rs.getD A (0,0))).2.2 c/\b8 F w b c/\¬b (w.heap.size+1)):=by
  refine P.mono ?_;rintro e c ⟨b,rfl,D,tn⟩
  obtain⟨⟨E,o,G⟩,y1,d⟩:=oz h hd g k D tn (by rw[Jh])
  obtain⟨_,_,H,_,U,_⟩:=eu G;exact⟨b,rfl,⟨E,(o A f).1,(o A f).2,H⟩,y1,d⟩
 clear P;obtain⟨J,K⟩:=rt A f;obtain⟨q0,q1,L,q3,M,N⟩:=eu g;generalize s.ln (s.rs.getD A (0,0))=gr at*;obtain⟨⟨v0,v1⟩,cd,W⟩:=gr;dsimp only at i⊢;generalize (s.rs.getD A (0,0)).1=a0 at*;generalize (s.rs.getD A (0,0)).2=a1 at*;have X:(0:Int)<=(A:Int):=V;have Y:(A:Int)<12:=V;have nx:w.heap.size≠w.heap.size+1:=V;clear h hv j hd g k rt m q0 q1 q3 M N;go_enter func136,ntmps136;go_wp2_with fail
 go_region_held3 (fun w'=>w'.cell? (aq bY 6)=some (.slice (ak rb) 12 12)/\w'.cell? (aq rb (A*2))=some (ah a0)/\w'.cell? (aq rb (A*2+1))=some (ah a1)/\w'.cell? (aq w.heap.size 2)=some (ah A)) (first|exact⟨ff C p,ff l q,ff l t,ff nx u⟩|(go_keep;done))
  (first|(go_at_call 208;refine i.mono ?_;clear i;rintro e c ⟨b,rfl,⟨p,q,t,u⟩,y1,d⟩;obtain⟨r0,r1,ab,lw⟩:=di y1;have O:ay (_=_):=y1;clear y1 x J K L))
 all_goals
  clear p q t u ‹_/\_›;go_wp2_with fail;obtain⟨Q,S,_,_⟩:=di (gy (v1:=ah v0) (v2:=ah v1) O.o)
  exact a3 (v:=.tuple #[.agg #[ah v0,ah v1],ah cd]) (by simp[results,results136,go_sem,Q,S]) rfl ⟨b,rfl,dr.set2 _ d.o.1 d.o.2.2 _ _,d.o.2.1.set2 (Nat.le_succ _) _ _⟩
end
section
variable {bY rb:Nat}{b_ bZ:Int}{F:Nat->Prop}{s:ck}{w:ax}{g:gO}
theorem Jq (h:(cx bY b_ bZ rb).J F s w)(R A B I n:Int):
 Calls prog 136 #[aj bY,dK 1 R A B I n] w fun e w'=>e=.returned (.tuple #[.agg #[ah 1,ah n],ah 0])/\Below w.heap.size w w':=by
 obtain⟨c,g,d,_⟩:=lJ h 1 R A B I n;have P:=q6 n (f8 w 1 R A B I n)
 obtain⟨q0,q1,j,q3,k,o⟩:=eu g;have i:ay (∀b,Below (f8 w 1 R A B I n).heap.size (f8 w 1 R A B I n) b->b.heap[w.heap.size+1]?=some (.cells #[ah 0,ah 0] 97 (0,0))/\Below w.heap.size w b):=fun b hb=>⟨(hb.block _ (lt_of_some d)).trans d,c.trans (hb.mono c.size)⟩
 clear h c g d q1 j q3 k;go_enter func136,ntmps136;go_wp2_with fail;refine P.mono ?_;clear P;rintro e b ⟨rfl,hb⟩
 have f:ay (_/\_):=i.o b hb;obtain⟨r0,r1,p,lw⟩:=di f.o.1;clear hb i;go_wp2_with fail;obtain⟨l,m,_,_⟩:=di (gy (v1:=ah 1) (v2:=ah n) f.o.1)
 exact a3 (v:=.tuple #[.agg #[ah 1,ah n],ah 0]) (by simp[results,results136,go_sem,l,m]) rfl ⟨rfl,(f.o.2.setCell Z _).setCell Z _⟩
theorem Jr (h:(cx bY b_ bZ rb).J F s w)(R A B I n:Int):
 Calls prog 136 #[aj bY,dK 2 R A B I n] w fun e w'=>e=.returned (.tuple #[.agg #[ah 0,ah 0],ah 0])/\Below w.heap.size w w':=by
 obtain⟨b,c,d,_⟩:=lJ h 2 R A B I n;obtain⟨q0,q1,f,q3,g,i⟩:=eu c;have j:ay (Below w.heap.size w (f8 w 2 R A B I n)):=b;obtain⟨r0,r1,k,lw⟩:=di d;clear h b c d q1 f q3 g i;go_enter func136,ntmps136;go_wp2_with fail;exact a3 (v:=.tuple #[.agg #[ah 0,ah 0],ah 0]) (by simp[results,results136,go_sem]) rfl ⟨rfl,j.o⟩
theorem Jt (h:(cx bY b_ bZ rb).J F s w)(hv:fH s)(k:dR s.T s.wt (g s.T s.wt))(g0:-1000000<=bZ)(g1:bZ<=1000000)(m:-1000000<=b_)(m1:b_<=1000000)(R A B I n:Int):
 Calls prog 136 #[aj bY,dK 8 R A B I n] w fun e w'=>∃b,e=.returned (.tuple #[.agg #[ah (s.bZ g b_ bZ 5 []).1.1,ah (s.bZ g b_ bZ 5 []).1.2],ah (s.bZ g b_ bZ 5 []).2.1])/\(cx bY b_ bZ rb).J b (s.bZ g b_ bZ 5 []).2.2 w'/\b8 F w b w':=by
 obtain⟨f,i,l,_⟩:=lJ h 8 R A B I n;obtain⟨q0,q1,o,q3,p,q⟩:=eu i;have j:Calls prog 206 #[aj bY,ah 5,.slice none 0 0] (f8 w 8 R A B I n) fun e c=>∃b,e=.returned (.tuple #[.agg #[ah (s.bZ g b_ bZ 5 []).1.1,ah (s.bZ g b_ bZ 5 []).1.2],ah (s.bZ g b_ bZ 5 []).2.1])/\
  c.heap[w.heap.size+1]?=some (.cells #[ah 0,ah 0] 97 (0,0))/\ay ((cx bY b_ bZ rb).J b (s.bZ g b_ bZ 5 []).2.2 c/\b8 F w b c/\¬b (w.heap.size+1)):=by
  refine(uK (g:=g) (kd:=5) (fl:=[]) (ad:=none) (cap:=0) ((cx bY b_ bZ rb).below h f) hv k g0 g1 m m1 Z ⟨fun h=>absurd h Z,aD _,fun _=>⟨rfl,rfl⟩⟩).mono ?_;rintro e c ⟨b,rfl,t,tn⟩
  obtain⟨_,y1,d⟩:=oz h f i l t tn (uL _ _ _ _ _ _)
  exact⟨b,rfl,y1,d⟩
 generalize s.bZ g b_ bZ 5 []=gr at*;obtain⟨⟨v0,v1⟩,cd,D⟩:=gr;dsimp only at j⊢;clear h hv k f i l q1 o q3 p q;go_enter func136,ntmps136;go_wp2_with fail;refine j.mono ?_;clear j;rintro e c ⟨b,rfl,y1,d⟩
 obtain⟨r0,r1,E,lw⟩:=di y1;have u:ay (_=_):=y1;clear y1;go_wp2_with fail;obtain⟨x,C,_,_⟩:=di (gy (v1:=ah v0) (v2:=ah v1) u.o)
 exact a3 (v:=.tuple #[.agg #[ah v0,ah v1],ah cd]) (by simp[results,results136,go_sem,x,C]) rfl ⟨b,rfl,dr.set2 _ d.o.1 d.o.2.2 _ _,d.o.2.1.set2 (Nat.le_succ _) _ _⟩
theorem Ju (h:(cx bY b_ bZ rb).J F s w)(R B I n:Int)(A:Nat)(b:A<12):
 Calls prog 136 #[aj bY,dK 3 R A B I n] w fun e w'=>e=.returned (.tuple #[.agg #[ah (s.rs.getD A (0,0)).1,ah (s.rs.getD A (0,0)).2],ah 0])/\Below w.heap.size w w':=by
 obtain⟨q,d,f,t,rt,K,L⟩:=lJ h 3 R A B I n;obtain⟨u,x⟩:=rt A b;obtain⟨q0,q1,C,q3,D,E⟩:=eu d;obtain⟨g,c,i,j⟩:=jX h;have G:=(cx bY b_ bZ rb).lt h _ i;have k:=(cx bY b_ bZ rb).lt h _ j;have b2:Below w.heap.size w ((w.alloc (cz 3 R A B I n)).alloc (.cells #[.int .i64 (s.rs.getD A (0,0)).1,.int .i64 (s.rs.getD A (0,0)).2] 97)):=(bX.alloc bW _).alloc Z _;have m1:=(b2.cell (p:=aq bY 6) G).trans g;have l:=(b2.cell (p:=aq rb (A*2)) k).trans (c A b).1;have m:=(b2.cell (p:=aq rb (A*2+1)) k).trans (c A b).2;have o:((w.alloc (cz 3 R A B I n)).alloc (.cells #[.int .i64 (s.rs.getD A (0,0)).1,.int .i64 (s.rs.getD A (0,0)).2] 97)).cell? (aq w.heap.size 2)=some (ah A):=(eu ((aS _ _ _ Z).trans (aN w _))).2.2.1;have H:ay (Below w.heap.size w ((w.alloc (cz 3 R A B I n)).alloc (.cells #[.int .i64 (s.rs.getD A (0,0)).1,.int .i64 (s.rs.getD A (0,0)).2] 97)).drew):=b2.drew;have J:ay ((((w.alloc (cz 3 R A B I n)).alloc (.cells #[.int .i64 (s.rs.getD A (0,0)).1,.int .i64 (s.rs.getD A (0,0)).2] 97)).cell? (aq bY 6)=some (.slice (ak rb) 12 12))/\((w.alloc (cz 3 R A B I n)).alloc (.cells #[.int .i64 (s.rs.getD A (0,0)).1,.int .i64 (s.rs.getD A (0,0)).2] 97)).cell? (aq rb (A*2))=some (ah (s.rs.getD A (0,0)).1)/\((w.alloc (cz 3 R A B I n)).alloc (.cells #[.int .i64 (s.rs.getD A (0,0)).1,.int .i64 (s.rs.getD A (0,0)).2] 97)).cell? (aq rb (A*2+1))=some (ah (s.rs.getD A (0,0)).2)/\((w.alloc (cz 3 R A B I n)).alloc (.cells #[.int .i64 (s.rs.getD A (0,0)).1,.int .i64 (s.rs.getD A (0,0)).2] 97)).cell? (aq w.heap.size 2)=some (ah A)):=⟨m1,l,m,o⟩
 clear m1 l m o b2 g c;obtain⟨r0,r1,M,lw⟩:=di f;generalize (s.rs.getD A (0,0)).1=a0 at*;generalize (s.rs.getD A (0,0)).2=a1 at*;have N:(0:Int)<=(A:Int):=V;have O:(A:Int)<12:=V;clear h q d f rt q1 q3 D E i j;go_enter func136,ntmps136;go_wp2_with fail
 go_region_held3 (fun w'=>w'.cell? (aq bY 6)=some (.slice (ak rb) 12 12)/\w'.cell? (aq rb (A*2))=some (ah a0)/\w'.cell? (aq rb (A*2+1))=some (ah a1)/\w'.cell? (aq w.heap.size 2)=some (ah A)) (first|exact J.o|(go_keep;done)) (fail)
 all_goals
  clear t u x C ‹_/\_›;go_wp2_with fail;exact a3 (v:=.tuple #[.agg #[ah a0,ah a1],ah 0]) (by simp[results,results136,go_sem]) rfl ⟨rfl,H.o⟩
theorem Jv (h:(cx bY b_ bZ rb).J F s w)(R I n:Int)(A B:Nat)(i:A<12)(hB:B<12):
 Calls prog 136 #[aj bY,dK 14 R A B I n] w fun e w'=>e=.returned (.tuple #[.agg #[ah 1,ah (if s.rs.getD A (0,0)=s.rs.getD B (0,0) then 1 else 0)],ah 0])/\Below w.heap.size w w':=by
 obtain⟨c,j,l,C,rt,D,d⟩:=lJ h 14 R A B I n;have m:Calls prog 209 #[.agg #[ah (s.rs.getD A (0,0)).1,ah (s.rs.getD A (0,0)).2],.agg #[ah (s.rs.getD B (0,0)).1,ah (s.rs.getD B (0,0)).2]] (f8 w 14 R A B I n).drew fun e b=>e=.returned (.agg #[ah 1,ah (if s.rs.getD A (0,0)=s.rs.getD B (0,0) then 1 else 0)])/\
  (b.cell? (aq bY 6)=some (.slice (ak rb) 12 12)/\b.cell? (aq rb (A*2))=some (ah (s.rs.getD A (0,0)).1)/\b.cell? (aq rb (A*2+1))=some (ah (s.rs.getD A (0,0)).2)/\b.cell? (aq rb (B*2))=some (ah (s.rs.getD B (0,0)).1)/\b.cell? (aq rb (B*2+1))=some (ah (s.rs.getD B (0,0)).2)/\b.cell? (aq w.heap.size 2)=some (ah A)/\b.cell? (aq w.heap.size 3)=some (ah B))/\
  ay (b.heap[w.heap.size+1]?=some (.cells #[ah 0,ah 0] 97 (0,0))/\Below w.heap.size w b):=by
  refine(HZ _ _ _).mono ?_;rintro e b ⟨rfl,hb⟩
  obtain⟨⟨f,g,E⟩,y1,X⟩:=oz h c.drew j l ((cx bY b_ bZ rb).below ((cx bY b_ bZ rb).below h c.drew) hb) (b8.of hb) rfl;obtain⟨_,_,G,H,_,_⟩:=eu E;exact⟨rfl,⟨f,(g A i).1,(g A i).2,(g B hB).1,(g B hB).2,G,H⟩,y1,c.drew.trans (hb.mono c.drew.size)⟩
 obtain⟨J,K⟩:=rt A i;obtain⟨L,M⟩:=rt B hB;obtain⟨q0,q1,N,q3,O,P⟩:=eu j;generalize (if s.rs.getD A (0,0)=s.rs.getD B (0,0) then(1:Int) else 0)=v1 at*;generalize (s.rs.getD A (0,0)).1=a0 at*;generalize (s.rs.getD A (0,0)).2=a1 at*;generalize (s.rs.getD B (0,0)).1=Q at*;generalize (s.rs.getD B (0,0)).2=S at*;have Y:(0:Int)<=(A:Int):=V;have ab:(A:Int)<12:=V;have ad:(0:Int)<=(B:Int):=V;have ag:(B:Int)<12:=V;have nx:w.heap.size≠w.heap.size+1:=V;clear h c j l rt q1 O P;go_enter func136,ntmps136;go_wp2_with fail
 go_region_held3 (fun w'=>w'.cell? (aq bY 6)=some (.slice (ak rb) 12 12)/\w'.cell? (aq rb (A*2))=some (ah a0)/\w'.cell? (aq rb (A*2+1))=some (ah a1)/\w'.cell? (aq rb (B*2))=some (ah Q)/\w'.cell? (aq rb (B*2+1))=some (ah S)/\w'.cell? (aq w.heap.size 2)=some (ah A)/\w'.cell? (aq w.heap.size 3)=some (ah B)) (first|exact⟨ff D o,ff d p,ff d q,ff d t,ff d u,ff nx f,ff nx x⟩|(go_keep;done))
  (first|(go_at_call 209;refine m.mono ?_;clear m;rintro e b ⟨rfl,⟨o,p,q,t,u,f,x⟩,k⟩;obtain⟨r0,r1,ai,lw⟩:=di k.o.1;clear C J K L M N q3))
 all_goals
  clear o p q t u f x ‹_/\_›;go_wp2_with fail;obtain⟨U,W,_,_⟩:=di (gy (v1:=ah 1) (v2:=ah v1) k.o.1)
  exact a3 (v:=.tuple #[.agg #[ah 1,ah v1],ah 0]) (by simp[results,results136,go_sem,U,W]) rfl ⟨rfl,(k.o.2.setCell Z _).setCell Z _⟩
end
section
variable {bY rb:Nat}{b_ bZ:Int}{F:Nat->Prop}{s:ck}{w:ax}{g:gO}
theorem Jw (h:(cx bY b_ bZ rb).J F s w)(hv:fH s)(x:dR s.T s.wt (g s.T s.wt))(g0:-1000000<=bZ)(g1:bZ<=1000000)(X:-1000000<=b_)(m1:b_<=1000000)(R B I:Int)(A n:Nat)(j:A<12)(hn:n<=12):
 Calls prog 136 #[aj bY,dK 5 R A B I n] w fun e w'=>∃c,e=.returned (.tuple #[.agg #[ah (s.bZ g b_ bZ 2 (List.replicate n (s.rs.getD A (0,0)))).1.1,ah (s.bZ g b_ bZ 2 (List.replicate n (s.rs.getD A (0,0)))).1.2],ah (s.bZ g b_ bZ 2 (List.replicate n (s.rs.getD A (0,0)))).2.1])/\(cx bY b_ bZ rb).J c (s.bZ g b_ bZ 2 (List.replicate n (s.rs.getD A (0,0)))).2.2 w'/\b8 F w c w':=by
 obtain⟨C,m,o,Y,rt,ab,D⟩:=lJ h 5 R A B I n;have l:(f8 w 5 R A B I n).drew.heap.size=w.heap.size+1+1:=by simp[World.drew]
 have p:Calls prog 131 #[.slice (ak (w.heap.size+1+1)) 1 1,ah n] ((f8 w 5 R A B I n).drew.alloc (.cells #[.int .i64 (s.rs.getD A (0,0)).1,.int .i64 (s.rs.getD A (0,0)).2] 97)) fun e d=>∃nb,e=.returned (.slice (ak nb) n n)/\
  (d.cell? (aq bY 6)=some (.slice (ak rb) 12 12)/\d.cell? (aq rb (A*2))=some (ah (s.rs.getD A (0,0)).1)/\d.cell? (aq rb (A*2+1))=some (ah (s.rs.getD A (0,0)).2)/\d.cell? (aq w.heap.size 2)=some (ah A)/\d.cell? (aq w.heap.size 5)=some (ah n))/\
  Calls prog 206 #[aj bY,ah 2,.slice (ak nb) n n] d fun e f=>∃c,e=.returned (.tuple #[.agg #[ah (s.bZ g b_ bZ 2 (List.replicate n (s.rs.getD A (0,0)))).1.1,ah (s.bZ g b_ bZ 2 (List.replicate n (s.rs.getD A (0,0)))).1.2],ah (s.bZ g b_ bZ 2 (List.replicate n (s.rs.getD A (0,0)))).2.1])/\
  (f.cell? (aq bY 6)=some (.slice (ak rb) 12 12)/\f.cell? (aq rb (A*2))=some (ah (s.rs.getD A (0,0)).1)/\f.cell? (aq rb (A*2+1))=some (ah (s.rs.getD A (0,0)).2)/\f.cell? (aq w.heap.size 2)=some (ah A)/\f.cell? (aq w.heap.size 5)=some (ah n))/\
  f.heap[w.heap.size+1]?=some (.cells #[ah 0,ah 0] 97 (0,0))/\ay ((cx bY b_ bZ rb).J c (s.bZ g b_ bZ 2 (List.replicate n (s.rs.getD A (0,0)))).2.2 f/\b8 F w c f/\¬c (w.heap.size+1)):=by
  have b1:Below w.heap.size w ((f8 w 5 R A B I n).drew.alloc (.cells #[.int .i64 (s.rs.getD A (0,0)).1,.int .i64 (s.rs.getD A (0,0)).2] 97)):=C.drew.alloc (by rw[l];omega) _;have E:=aN (f8 w 5 R A B I n).drew (.cells #[.int .i64 (s.rs.getD A (0,0)).1,.int .i64 (s.rs.getD A (0,0)).2] 97)
  rw[l] at E;obtain⟨z0,ag,_,_⟩:=di E;refine(AJ _ (w.heap.size+1+1) n (s.rs.getD A (0,0)) hn z0 ag).mono ?_;rintro e d ⟨nb,rfl,bo,q,G⟩
  have b2:Below w.heap.size w d:=b1.trans (G.mono b1.size)
  have l0:w.heap.size+1<(f8 w 5 R A B I n).heap.size:=lt_of_some o;have H:∀b,b<w.heap.size+1+1->d.heap[b]?=(f8 w 5 R A B I n).heap[b]?:=fun b hb=>(G.block b (by simp;omega)).trans (aS (f8 w 5 R A B I n).drew _ b (by rw[l];exact hb))
  have J:=(H _ V).trans m;have y1:=(H (w.heap.size+1) V).trans o;have K:=(cx bY b_ bZ rb).below h b2;obtain⟨ai,L,_,_⟩:=jX K;obtain⟨_,_,al,_,_,am⟩:=eu J;refine⟨nb,rfl,⟨ai,(L A j).1,(L A j).2,al,am⟩,?_⟩
  have t:(List.replicate n (s.rs.getD A (0,0))).length=n:=List.length_replicate;have P:=uK (g:=g) (kd:=2) (fl:=List.replicate n (s.rs.getD A (0,0))) (ad:=ak nb) (cap:=n) K hv x g0 g1 X m1 (by rw[t];exact hn) ⟨fun _=>⟨nb,0,rfl,lt_of_some q,fun i hi=>by
   obtain⟨k1,u⟩:=nM _ i hi;constructor
   ·simp only [World.cell?,q,Nat.zero_add];simpa using k1
   ·simp only [World.cell?,q,Nat.zero_add];simpa using u⟩,by rw[t];exact aD _,fun e=>by cases e⟩
  rw[t] at P;refine P.mono ?_;rintro e f ⟨c,rfl,an,tn⟩
  obtain⟨⟨ao,M,ap⟩,ar,k⟩:=oz h b2 J y1 an tn (uL _ _ _ _ _ _)
  obtain⟨_,_,aB,_,_,aF⟩:=eu ap;exact⟨c,rfl,⟨ao,(M A j).1,(M A j).2,aB,aF⟩,ar,k⟩
 obtain⟨aR,aV⟩:=rt A j;obtain⟨q0,q1,a2,q3,bb,bd⟩:=eu m;generalize s.bZ g b_ bZ 2 (List.replicate n (s.rs.getD A (0,0)))=gr at*;obtain⟨⟨v0,v1⟩,cd,bp⟩:=gr;dsimp only at p⊢;generalize (s.rs.getD A (0,0)).1=a0 at*;generalize (s.rs.getD A (0,0)).2=a1 at*;have br:(0:Int)<=(A:Int):=V;have bs:(A:Int)<12:=V;have bt:(n:Int)<=12:=V;have nx:w.heap.size≠w.heap.size+1:=V;clear h hv x C m o rt q1 q3 bb l;go_enter func136,ntmps136;go_wp2_with fail
 go_region_held3 (fun w'=>w'.cell? (aq bY 6)=some (.slice (ak rb) 12 12)/\w'.cell? (aq rb (A*2))=some (ah a0)/\w'.cell? (aq rb (A*2+1))=some (ah a1)/\w'.cell? (aq w.heap.size 2)=some (ah A)/\w'.cell? (aq w.heap.size 5)=some (ah n)) (first|exact⟨ff ab N,ff D O,ff D Q,ff nx S,ff nx U⟩|(go_keep;done))
  (first|(go_at_call 131;refine p.mono ?_;clear p;rintro e d ⟨nb,rfl,⟨k1,u,be,bg,k5⟩,W⟩;clear Y aR aV a2 bd)|(go_at_call 206;refine W.mono ?_;clear W;rintro e f ⟨c,rfl,⟨N,O,Q,S,U⟩,y1,k⟩;obtain⟨r0,r1,bx,lw⟩:=di y1;have bi:ay (_=_):=y1;clear y1 k1 u be bg k5))
 all_goals
  clear N O Q S U ‹_/\_›;go_wp2_with fail;obtain⟨bl,bn,_,_⟩:=di (gy (v1:=ah v0) (v2:=ah v1) bi.o)
  exact a3 (v:=.tuple #[.agg #[ah v0,ah v1],ah cd]) (by simp[results,results136,go_sem,bl,bn]) rfl ⟨c,rfl,dr.set2 _ k.o.1 k.o.2.2 _ _,k.o.2.1.set2 (Nat.le_succ _) _ _⟩
end
theorem Jx {R A B n:Int}(h:dJ 5 R A B n=0):0<=n/\n<=12:=by
 have b:gR 5 n=0:=by
  unfold dJ at h;rw[aG aa] at h;split at h
  ·omega
  ·exact h
 unfold gR at b;rw[aG aa,aI rfl] at b;unfold hc at b
 ·split at b<;>omega
section
variable {bY rb:Nat}{b_ bZ:Int}{F:Nat->Prop}{s:ck}{w:ax}{g:gO}
theorem Jy (h:(cx bY b_ bZ rb).J F s w)(hv:fH s)(c:dR s.T s.wt (g s.T s.wt))(g0:-1000000<=bZ)(g1:bZ<=1000000)(d:-1000000<=b_)(m1:b_<=1000000)(k R A B I n:Int)(hk:dJ k R A B n=0)(l:k≠9)(o:k≠12)(p:k≠15)(e16:k≠16):
 Calls prog 136 #[aj bY,dK k R A B I n] w fun e w'=>∃f,e=.returned (.tuple #[.agg #[ah (s.rt g b_ bZ k A.toNat B.toNat I n).1.1,ah (s.rt g b_ bZ k A.toNat B.toNat I n).1.2],ah (s.rt g b_ bZ k A.toNat B.toNat I n).2.1])/\(cx bY b_ bZ rb).J f (s.rt g b_ bZ k A.toNat B.toNat I n).2.2 w'/\b8 F w f w':=by
 have two:∀k,c8 k=7->dJ k R A B n=0->∃a b:Nat,A=a/\B=b/\a<12/\b<12:=fun k i hc=>by
  have q:=lu hc (aJ (aJ i))
  have v:=lZ hc (aJ i)
  exact⟨A.toNat,B.toNat,V,V,V,V⟩
 have one:∀k,c8 k=3->dJ k R A B n=0->∃a:Nat,A=a/\a<12:=fun k i hc=>by
  have q:=lu hc (aK i)
  exact⟨A.toNat,V,V⟩
 have low:∀(t:(Int×Int)×Int×ck),t.2.2=s->∀(e:Ending)(w':ax),(e=.returned (.tuple #[.agg #[ah t.1.1,ah t.1.2],ah t.2.1])/\Below w.heap.size w w')->∃f,e=.returned (.tuple #[.agg #[ah t.1.1,ah t.1.2],ah t.2.1])/\(cx bY b_ bZ rb).J f t.2.2 w'/\b8 F w f w':=by
  rintro t u e w' ⟨rfl,hb⟩
  rw[u];exact⟨F,rfl,(cx bY b_ bZ rb).below h hb,b8.of hb⟩
 have no:(k<1\/16<k)->False:=fun j=>by unfold dJ at hk;rw[aI (o5 j)] at hk;omega
 rcases o4 k with rfl|rfl|rfl|rfl|rfl|rfl|rfl|rfl|rfl|rfl|rfl|rfl|rfl|rfl|rfl|rfl|j
 ·have e:s.rt g b_ bZ 1 A.toNat B.toNat I n=((1,n),0,s):=by simp[ck.rt]
  rw[e];exact(Jq h R A B I n).mono (low ((1,n),0,s) rfl)
 ·have e:s.rt g b_ bZ 2 A.toNat B.toNat I n=((0,0),0,s):=by simp[ck.rt]
  rw[e];exact(Jr h R A B I n).mono (low ((0,0),0,s) rfl)
 ·obtain⟨a,rfl,ha⟩:=one 3 aa hk;have e:s.rt g b_ bZ 3 (a:Int).toNat B.toNat I n=(s.rs.getD a (0,0),0,s):=by simp[ck.rt]
  rw[e];exact(Ju h R B I n a ha).mono (low (s.rs.getD a (0,0),0,s) rfl)
 ·obtain⟨a,b,rfl,rfl,ha,hb⟩:=two 4 aa hk;have e:s.rt g b_ bZ 4 (a:Int).toNat (b:Int).toNat I n=s.bZ g b_ bZ 1 [s.rs.getD a (0,0),s.rs.getD b (0,0)]:=by simp[ck.rt]
  rw[e];exact uM h hv c g0 g1 d m1 R I n (aK ⟨rfl,rfl⟩) a b ha hb
 ·obtain⟨a,rfl,ha⟩:=one 5 aa hk;have hn:=Jx hk;obtain⟨m,rfl⟩:=Int.eq_ofNat_of_zero_le hn.1;have e:s.rt g b_ bZ 5 (a:Int).toNat B.toNat I m=s.bZ g b_ bZ 2 (List.replicate m (s.rs.getD a (0,0))):=by simp[ck.rt]
  rw[e];exact Jw h hv c g0 g1 d m1 R B I a m ha V
 ·obtain⟨a,b,rfl,rfl,ha,hb⟩:=two 6 aa hk;have e:s.rt g b_ bZ 6 (a:Int).toNat (b:Int).toNat I n=s.bZ g b_ bZ 3 [s.rs.getD a (0,0),s.rs.getD b (0,0)]:=by simp[ck.rt]
  rw[e];exact uM h hv c g0 g1 d m1 R I n (aJ (aK ⟨rfl,rfl⟩)) a b ha hb
 ·obtain⟨a,b,rfl,rfl,ha,hb⟩:=two 7 aa hk;have e:s.rt g b_ bZ 7 (a:Int).toNat (b:Int).toNat I n=s.bZ g b_ bZ 4 [s.rs.getD a (0,0),s.rs.getD b (0,0)]:=by simp[ck.rt]
  rw[e];exact uM h hv c g0 g1 d m1 R I n (aJ (aJ ⟨rfl,rfl⟩)) a b ha hb
 ·have e:s.rt g b_ bZ 8 A.toNat B.toNat I n=s.bZ g b_ bZ 5 []:=by simp[ck.rt]
  rw[e];exact Jt h hv c g0 g1 d m1 R A B I n
 ·exact absurd rfl l
 ·obtain⟨a,rfl,ha⟩:=one 10 aa hk;have e:s.rt g b_ bZ 10 (a:Int).toNat B.toNat I n=s.pop (s.rs.getD a (0,0)):=by simp[ck.rt]
  rw[e];exact Jm h hv R B I n a ha
 ·obtain⟨a,rfl,ha⟩:=one 11 aa hk;have e:s.rt g b_ bZ 11 (a:Int).toNat B.toNat I n=s.gt (s.rs.getD a (0,0)) I:=by simp[ck.rt,ck.gt]
  rw[e];exact Jn h hv R B I n a ha
 ·exact absurd rfl o
 ·obtain⟨a,rfl,ha⟩:=one 13 aa hk;have e:s.rt g b_ bZ 13 (a:Int).toNat B.toNat I n=s.ln (s.rs.getD a (0,0)):=by simp[ck.rt,ck.ln]
  rw[e];exact Jp h hv R B I n a ha
 ·obtain⟨a,b,rfl,rfl,ha,hb⟩:=two 14 aa hk;have e:s.rt g b_ bZ 14 (a:Int).toNat (b:Int).toNat I n=((1,if s.rs.getD a (0,0)=s.rs.getD b (0,0) then 1 else 0),0,s):=by simp[ck.rt]
  rw[e];exact(Jv h R I n a b ha hb).mono (low ((1,if s.rs.getD a (0,0)=s.rs.getD b (0,0) then 1 else 0),0,s) rfl)
 ·exact absurd rfl p
 ·exact absurd rfl e16
 ·exact(no j).elim
end
section
variable {bY rb:Nat}{b_ bZ:Int}{F:Nat->Prop}{w:ax}
theorem Jz (k R A B I n:Int)(hc:dJ k R A B n≠0):
 Calls prog 68 #[aj bY,dK k R A B I n] w fun e w'=>e=.returned (ah (dJ k R A B n))/\Below w.heap.size w w':=by
 have c:=ju k R A B I n (w.alloc (cz k R A B I n))
 have b:=hide (au w (cz k R A B I n))
 go_enter func68,ntmps68;go_wp2_with fail;refine c.mono ?_;rintro e w1 ⟨rfl,d⟩
 have f:=b.o.trans (d.mono b.o.size)
 go_wp2_with fail;go_ret;exact⟨rfl,f⟩
theorem AL (k R A B I n:Int)(hk:k=15\/k=16)(hc:dJ k R A B n=0)(cd:Int)(d:ck)
 (v:k=15->∀w',Below w.heap.size w w'->Calls prog 134 #[aj bY] w' fun e b=>∃F2,e=.returned (ah cd)/\(cx bY b_ bZ rb).J F2 d b/\b8 F w' F2 b)(x:k=16->∀w',Below w.heap.size w w'->Calls prog 135 #[aj bY] w' fun e b=>∃F2,e=.returned (ah cd)/\(cx bY b_ bZ rb).J F2 d b/\b8 F w' F2 b):
 Calls prog 68 #[aj bY,dK k R A B I n] w fun e w'=>∃p,e=.returned (ah cd)/\(cx bY b_ bZ rb).J p d w'/\b8 F w p w':=by
 have q:=au w (cz k R A B I n)
 have s:=aN w (.cells #[.int .i64 k,.int .i64 R,.int .i64 A,.int .i64 B,.int .i64 I,.int .i64 n] 44)
 have f:=ju k R A B I n (w.alloc (cz k R A B I n))
 rw[hc] at f;have t:ay (∀w1,Below (w.alloc (cz k R A B I n)).heap.size (w.alloc (cz k R A B I n)) w1->_/\w1.heap[w.heap.size]?=some (cz k R A B I n)):=fun w1 hb=>⟨q.trans (hb.mono q.size),(hb.block _ (lt_of_some s)).trans s⟩
 rcases hk with rfl|rfl
 ·have g:ay (_):=v rfl;go_enter func68,ntmps68;go_wp2_with fail;refine f.mono ?_;rintro e w1 ⟨rfl,i⟩
  obtain⟨c,j⟩:=t.o w1 i;obtain⟨q0,q1,C,q3,D,E⟩:=eu j;have P:=g.o w1 c;have l:ay (b8 F w F w1):=b8.of c;go_wp2_with fail;refine P.mono ?_;rintro e u ⟨F2,rfl,m,o⟩
  have HF:ay (_/\b8 F w F2 u):=⟨m,l.o.trans o⟩
  exact nf
 ·have g:ay (_):=x rfl;go_enter func68,ntmps68;go_wp2_with fail;refine f.mono ?_;rintro e w1 ⟨rfl,i⟩
  obtain⟨c,j⟩:=t.o w1 i;obtain⟨q0,q1,C,q3,D,E⟩:=eu j;have P:=g.o w1 c;have l:ay (b8 F w F w1):=b8.of c;go_wp2_with fail;refine P.mono ?_;rintro e u ⟨F2,rfl,m,o⟩
  have HF:=dq m (l.o.trans o)
  exact nf
end
section
variable {bY rb:Nat}{b_ bZ:Int}{F:Nat->Prop}{s:ck}{w:ax}
theorem JA (h:(cx bY b_ bZ rb).J F s w)(R I n:Int)(A B:Nat)(i:A<12)(hB:B<12)(hc:dJ 9 R A B n=0)(cd:Int)(j:ck)(q:j.rs=s.rs)
 (t:∀w',Below w.heap.size w w'->Calls prog 132 #[aj bY,.agg #[ah (s.rs.getD A (0,0)).1,ah (s.rs.getD A (0,0)).2],.agg #[ah (s.rs.getD B (0,0)).1,ah (s.rs.getD B (0,0)).2]] w' fun e u=>∃d,e=.returned (ah cd)/\(cx bY b_ bZ rb).J d j u/\b8 F w' d u):
 Calls prog 68 #[aj bY,dK 9 R A B I n] w fun e w'=>∃v,e=.returned (ah cd)/\(cx bY b_ bZ rb).J v j w'/\b8 F w v w':=by
 have l:=au w (cz 9 R A B I n)
 have m:=aN w (.cells #[.int .i64 9,.int .i64 R,.int .i64 (A:Int),.int .i64 (B:Int),.int .i64 I,.int .i64 n] 44)
 have o:=ju 9 R A B I n (w.alloc (cz 9 R A B I n))
 rw[hc] at o;have fS:∀b,F b->b<w.heap.size:=fun b hb=>(cx bY b_ bZ rb).lt h b hb;have x:ay (∀w1,Below (w.alloc (cz 9 R A B I n)).heap.size (w.alloc (cz 9 R A B I n)) w1->(w1.cell? (aq bY 6)=some (.slice (ak rb) 12 12)/\w1.cell? (aq rb (A*2))=some (ah (s.rs.getD A (0,0)).1)/\w1.cell? (aq rb (A*2+1))=some (ah (s.rs.getD A (0,0)).2)/\w1.cell? (aq rb (B*2))=some (ah (s.rs.getD B (0,0)).1)/\w1.cell? (aq rb (B*2+1))=some (ah (s.rs.getD B (0,0)).2)/\w1.heap[w.heap.size]?=some (cz 9 R A B I n))/\
  Calls prog 132 #[aj bY,.agg #[ah (s.rs.getD A (0,0)).1,ah (s.rs.getD A (0,0)).2],.agg #[ah (s.rs.getD B (0,0)).1,ah (s.rs.getD B (0,0)).2]] w1.drew fun e c=>∃d,e=.returned (ah cd)/\(c.cell? (aq bY 6)=some (.slice (ak rb) 12 12)/\c.cell? (aq rb (A*2))=some (ah (s.rs.getD A (0,0)).1)/\c.cell? (aq rb (A*2+1))=some (ah (s.rs.getD A (0,0)).2)/\c.cell? (aq rb (B*2))=some (ah (s.rs.getD B (0,0)).1)/\c.cell? (aq rb (B*2+1))=some (ah (s.rs.getD B (0,0)).2)/\c.cell? (aq w.heap.size 2)=some (ah A)/\c.cell? (aq w.heap.size 3)=some (ah B))/\ay ((cx bY b_ bZ rb).J d j c/\b8 F w d c)):=fun w1 hb=>by
  have p:Below w.heap.size w w1:=l.trans (hb.mono l.size)
  have f:=(hb.block _ (lt_of_some m)).trans m;obtain⟨O,rt,_,_⟩:=jX ((cx bY b_ bZ rb).below h p)
  refine⟨⟨O,(rt A i).1,(rt A i).2,(rt B hB).1,(rt B hB).2,f⟩,(t w1.drew p.drew).mono ?_⟩
  rintro e c ⟨d,rfl,C,tn⟩
  obtain⟨k,g,_,_⟩:=jX C;rw[q] at g;have P:=(tn.fr.block w.heap.size (lt_of_some f) (fun Q=>by have:=fS _ Q;omega)).trans f;obtain⟨_,_,S,U,am,_⟩:=eu P;exact⟨d,rfl,⟨k,(g A i).1,(g A i).2,(g B hB).1,(g B hB).2,S,U⟩,C,(b8.of p.drew).trans tn⟩
 generalize (s.rs.getD A (0,0)).1=a0 at*;generalize (s.rs.getD A (0,0)).2=a1 at*;generalize (s.rs.getD B (0,0)).1=W at*;generalize (s.rs.getD B (0,0)).2=X at*;have an:(0:Int)<=(A:Int):=V;have ao:(A:Int)<12:=V;have ap:(0:Int)<=(B:Int):=V;have ar:(B:Int)<12:=V;clear h l m hc fS t q;go_enter func68,ntmps68;go_wp2_with fail;refine o.mono ?_;clear o;rintro e w1 ⟨rfl,D⟩
 obtain⟨⟨k1,Y,ab,ad,k5,f⟩,E⟩:=x.o w1 D;obtain⟨q0,q1,ag,q3,ai,al⟩:=eu f;clear D f x q1 al ai;go_wp2_with fail
 go_region_held3 (fun w'=>w'.cell? (aq bY 6)=some (.slice (ak rb) 12 12)/\w'.cell? (aq rb (A*2))=some (ah a0)/\w'.cell? (aq rb (A*2+1))=some (ah a1)/\w'.cell? (aq rb (B*2))=some (ah W)/\w'.cell? (aq rb (B*2+1))=some (ah X)/\w'.cell? (aq w.heap.size 2)=some (ah A)/\w'.cell? (aq w.heap.size 3)=some (ah B)) (first|exact⟨G,H,J,K,L,k,M⟩|(go_keep;done))
  (first|(go_at_call 132;refine E.mono ?_;clear E;rintro e c ⟨d,rfl,⟨G,H,J,K,L,k,M⟩,N⟩;clear k1 Y ab ad k5 ag q3))
 all_goals
  clear G H J K L k M ‹_/\_›;go_wp2_with fail;go_ret;exact⟨d,rfl,N.o.1,N.o.2⟩
theorem JB (h:(cx bY b_ bZ rb).J F s w)(R I n:Int)(A B:Nat)(i:A<12)(hB:B<12)(hc:dJ 12 R A B n=0)(cd:Int)(j:ck)(q:j.rs=s.rs)
 (t:∀w',Below w.heap.size w w'->Calls prog 133 #[aj bY,.agg #[ah (s.rs.getD A (0,0)).1,ah (s.rs.getD A (0,0)).2],ah I,.agg #[ah (s.rs.getD B (0,0)).1,ah (s.rs.getD B (0,0)).2]] w' fun e u=>∃d,e=.returned (ah cd)/\(cx bY b_ bZ rb).J d j u/\b8 F w' d u):
 Calls prog 68 #[aj bY,dK 12 R A B I n] w fun e w'=>∃v,e=.returned (ah cd)/\(cx bY b_ bZ rb).J v j w'/\b8 F w v w':=by
 have l:=au w (cz 12 R A B I n)
 have m:=aN w (.cells #[.int .i64 12,.int .i64 R,.int .i64 (A:Int),.int .i64 (B:Int),.int .i64 I,.int .i64 n] 44)
 have o:=ju 12 R A B I n (w.alloc (cz 12 R A B I n))
 rw[hc] at o;have fS:∀b,F b->b<w.heap.size:=fun b hb=>(cx bY b_ bZ rb).lt h b hb;have x:ay (∀w1,Below (w.alloc (cz 12 R A B I n)).heap.size (w.alloc (cz 12 R A B I n)) w1->(w1.cell? (aq bY 6)=some (.slice (ak rb) 12 12)/\w1.cell? (aq rb (A*2))=some (ah (s.rs.getD A (0,0)).1)/\w1.cell? (aq rb (A*2+1))=some (ah (s.rs.getD A (0,0)).2)/\w1.cell? (aq rb (B*2))=some (ah (s.rs.getD B (0,0)).1)/\w1.cell? (aq rb (B*2+1))=some (ah (s.rs.getD B (0,0)).2)/\w1.heap[w.heap.size]?=some (cz 12 R A B I n))/\
  Calls prog 133 #[aj bY,.agg #[ah (s.rs.getD A (0,0)).1,ah (s.rs.getD A (0,0)).2],ah I,.agg #[ah (s.rs.getD B (0,0)).1,ah (s.rs.getD B (0,0)).2]] w1.drew fun e c=>∃d,e=.returned (ah cd)/\(c.cell? (aq bY 6)=some (.slice (ak rb) 12 12)/\c.cell? (aq rb (A*2))=some (ah (s.rs.getD A (0,0)).1)/\c.cell? (aq rb (A*2+1))=some (ah (s.rs.getD A (0,0)).2)/\c.cell? (aq rb (B*2))=some (ah (s.rs.getD B (0,0)).1)/\c.cell? (aq rb (B*2+1))=some (ah (s.rs.getD B (0,0)).2)/\c.cell? (aq w.heap.size 2)=some (ah A)/\c.cell? (aq w.heap.size 3)=some (ah B)/\c.cell? (aq w.heap.size 4)=some (ah I))/\ay ((cx bY b_ bZ rb).J d j c/\b8 F w d c)):=fun w1 hb=>by
  have p:Below w.heap.size w w1:=l.trans (hb.mono l.size)
  have f:=(hb.block _ (lt_of_some m)).trans m;obtain⟨P,rt,_,_⟩:=jX ((cx bY b_ bZ rb).below h p)
  refine⟨⟨P,(rt A i).1,(rt A i).2,(rt B hB).1,(rt B hB).2,f⟩,(t w1.drew p.drew).mono ?_⟩
  rintro e c ⟨d,rfl,C,tn⟩
  obtain⟨k,g,_,_⟩:=jX C;rw[q] at g;have Q:=(tn.fr.block w.heap.size (lt_of_some f) (fun S=>by have:=fS _ S;omega)).trans f;obtain⟨_,_,U,W,X,_⟩:=eu Q;exact⟨d,rfl,⟨k,(g A i).1,(g A i).2,(g B hB).1,(g B hB).2,U,W,X⟩,C,(b8.of p.drew).trans tn⟩
 generalize (s.rs.getD A (0,0)).1=a0 at*;generalize (s.rs.getD A (0,0)).2=a1 at*;generalize (s.rs.getD B (0,0)).1=Y at*;generalize (s.rs.getD B (0,0)).2=ab at*;have ao:(0:Int)<=(A:Int):=V;have ap:(A:Int)<12:=V;have ar:(0:Int)<=(B:Int):=V;have aB:(B:Int)<12:=V;clear h l m hc fS t q;go_enter func68,ntmps68;go_wp2_with fail;refine o.mono ?_;clear o;rintro e w1 ⟨rfl,D⟩
 obtain⟨⟨k1,ad,ag,ai,k5,f⟩,E⟩:=x.o w1 D;obtain⟨q0,q1,al,q3,am,an⟩:=eu f;clear D f x q1 an;go_wp2_with fail
 go_region_held3 (fun w'=>w'.cell? (aq bY 6)=some (.slice (ak rb) 12 12)/\w'.cell? (aq rb (A*2))=some (ah a0)/\w'.cell? (aq rb (A*2+1))=some (ah a1)/\w'.cell? (aq rb (B*2))=some (ah Y)/\w'.cell? (aq rb (B*2+1))=some (ah ab)/\w'.cell? (aq w.heap.size 2)=some (ah A)/\w'.cell? (aq w.heap.size 3)=some (ah B)/\w'.cell? (aq w.heap.size 4)=some (ah I)) (first|exact⟨G,H,J,K,L,k,M,N⟩|(go_keep;done))
  (first|(go_at_call 133;refine E.mono ?_;clear E;rintro e c ⟨d,rfl,⟨G,H,J,K,L,k,M,N⟩,O⟩;clear k1 ad ag ai k5 al q3 am))
 all_goals
  clear G H J K L k M N ‹_/\_›;go_wp2_with fail;go_ret;exact⟨d,rfl,O.o.1,O.o.2⟩
end
section
variable {bY rb:Nat}{b_ bZ:Int}{F:Nat->Prop}{w:ax}
theorem JC (k R A B I n:Int)(hc:dJ k R A B n=0)(k1:k≠9)(C:k≠12)(D:k≠15)(E:k≠16)(v:Int×Int)(cd:Int)(G:cd≠0)(d:ck)
 (q:∀w',Below w.heap.size w w'->Calls prog 136 #[aj bY,dK k R A B I n] w' fun e f=>∃b,e=.returned (.tuple #[.agg #[ah v.1,ah v.2],ah cd])/\(cx bY b_ bZ rb).J b d f/\b8 F w' b f):
 Calls prog 68 #[aj bY,dK k R A B I n] w fun e w'=>∃g,e=.returned (ah cd)/\(cx bY b_ bZ rb).J g d w'/\b8 F w g w':=by
 obtain⟨v0,v1⟩:=v;have i:=au w (cz k R A B I n)
 have j:=aN w (.cells #[.int .i64 k,.int .i64 R,.int .i64 A,.int .i64 B,.int .i64 I,.int .i64 n] 44)
 have l:=ju k R A B I n (w.alloc (cz k R A B I n))
 rw[hc] at l;have s:ay (∀w1,Below (w.alloc (cz k R A B I n)).heap.size (w.alloc (cz k R A B I n)) w1->w1.heap[w.heap.size]?=some (cz k R A B I n)/\Calls prog 136 #[aj bY,dK k R A B I n] w1 fun e c=>∃b,e=.returned (.tuple #[.agg #[ah v0,ah v1],ah cd])/\ay ((cx bY b_ bZ rb).J b d c/\b8 F w b c)):=fun w1 hb=>by
  have m:Below w.heap.size w w1:=i.trans (hb.mono i.size)
  refine⟨(hb.block _ (lt_of_some j)).trans j,(q w1 m).mono ?_⟩
  rintro e c ⟨b,rfl,t,tn⟩
  exact⟨b,rfl,t,(b8.of m).trans tn⟩
 go_enter func68,ntmps68;go_wp2_with fail;refine l.mono ?_;rintro e w1 ⟨rfl,u⟩
 obtain⟨x,P⟩:=s.o w1 u;obtain⟨q0,q1,H,q3,J,K⟩:=eu x;go_wp2_with fail;refine P.mono ?_;rintro e c ⟨b,rfl,o⟩
 have p:ay ((cx bY b_ bZ rb).J b d (c.alloc (.cells #[.int .i64 v0,.int .i64 v1] 97))/\b8 F w b (c.alloc (.cells #[.int .i64 v0,.int .i64 v1] 97))):=⟨(cx bY b_ bZ rb).below o.o.1 (bX.alloc bW _),o.o.2.below (bX.alloc bW _)⟩
 go_wp2_with fail;go_ret;exact⟨b,rfl,p.o.1,p.o.2⟩
end
section
variable {bY rb:Nat}{b_ bZ:Int}{F:Nat->Prop}{s:ck}{w:ax}
theorem JD (h:(cx bY b_ bZ rb).J F s w){R:Nat}(v:Int×Int):
 (cx bY b_ bZ rb).J F {s with rs:=s.rs.set R v} ((w.setCell ⟨rb,R*2,none⟩ (.int .i64 v.1)).setCell ⟨rb,R*2+1,none⟩ (.int .i64 v.2))/\b8 F w F ((w.setCell ⟨rb,R*2,none⟩ (.int .i64 v.1)).setCell ⟨rb,R*2+1,none⟩ (.int .i64 v.2)):=by
 obtain⟨l,h,rfl,c⟩:=h;have fr:Fr (fun k=>k=l.rb) w ((w.setCell ⟨l.rb,R*2,none⟩ (.int .i64 v.1)).setCell ⟨l.rb,R*2+1,none⟩ (.int .i64 v.2)):=((Fr.refl (fun k=>k=l.rb) w).set l.rb _ _ rfl).set l.rb _ _ rfl;have hk:∀b,l.own b≠0->l.own b≠4->_=_:=fun b h0 d=>fr.block b (h.lt b h0) (fun e=>d (by rw[e];exact h.g4.ro))
 refine⟨⟨l,?_,rfl,c⟩,fr.mono (fun b e=>by rw[e];exact(c _).2 (by rw[h.g4.ro];decide)),fun b hb=>aK hb⟩
 refine {blk:=(hk bY (by rw[h.bo];decide) (by rw[h.bo];decide)).trans h.blk,bo:=h.bo,g2:=h.g2.keep (fun b hb=>hk b V V),g3:=h.g3.keep (fun b hb=>hk b V V),g4:=⟨?_,?_,h.g4.ro⟩,lt:=fun b hb=>aM (h.lt b hb) fr.size}
 ·show _=some _;rw[sV];simp only [World.setCell,Array.getElem?_modify,if_true,h.g4.rt,Option.map_some];simp
 ·rw[a4];exact h.g4.rl
end
section
variable {bY rb:Nat}{b_ bZ:Int}{F:Nat->Prop}{s:ck}{w:ax}
theorem rG {w:ax}{b c o p q:Nat}{x v0 v1:Value}(hn:b≠c)(h:w.cell? (aq b o)=some x):((w.setCell ⟨c,p,none⟩ v0).setCell ⟨c,q,none⟩ v1).cell? (aq b o)=some x:=by exact Ay
theorem JE (h:(cx bY b_ bZ rb).J F s w)(k:Int)(R:Nat)(H:R<12)(A B I n:Int)(hc:dJ k R A B n=0)(k1:k≠9)(ab:k≠12)(ad:k≠15)(ag:k≠16)(v:Int×Int)(g:ck)
 (i:∀w',Below w.heap.size w w'->Calls prog 136 #[aj bY,dK k R A B I n] w' fun e J=>∃d,e=.returned (.tuple #[.agg #[ah v.1,ah v.2],ah 0])/\(cx bY b_ bZ rb).J d g J/\b8 F w' d J):
 Calls prog 68 #[aj bY,dK k R A B I n] w fun e w'=>∃K,e=.returned (ah 0)/\(cx bY b_ bZ rb).J K {g with rs:=g.rs.set R v} w'/\b8 F w K w':=by
 obtain⟨v0,v1⟩:=v;dsimp only at i;have j:=au w (cz k R A B I n)
 have m:=aN w (.cells #[.int .i64 k,.int .i64 (R:Int),.int .i64 A,.int .i64 B,.int .i64 I,.int .i64 n] 44)
 have p:=ju k R A B I n (w.alloc (cz k R A B I n))
 rw[hc] at p;have fS:∀b,F b->b<w.heap.size:=fun b hb=>(cx bY b_ bZ rb).lt h b hb;obtain⟨_,_,L,M⟩:=jX h;have a2:=fS _ M;have bb:=fS _ L;have N:ay (∀w1,Below (w.alloc (cz k R A B I n)).heap.size (w.alloc (cz k R A B I n)) w1->w1.heap[w.heap.size]?=some (cz k R A B I n)/\Calls prog 136 #[aj bY,dK k R A B I n] w1 fun e c=>∃d,e=.returned (.tuple #[.agg #[ah v0,ah v1],ah 0])/\
  ((c.alloc (.cells #[.int .i64 v0,.int .i64 v1] 97)).cell? (aq bY 6)=some (.slice (ak rb) 12 12)/\(c.alloc (.cells #[.int .i64 v0,.int .i64 v1] 97)).cell? (aq w.heap.size 1)=some (ah R)/\(c.alloc (.cells #[.int .i64 v0,.int .i64 v1] 97)).cell? (aq c.heap.size 0)=some (ah v0)/\(c.alloc (.cells #[.int .i64 v0,.int .i64 v1] 97)).cell? (aq c.heap.size 1)=some (ah v1))/\
  (∃O y1,(c.alloc (.cells #[.int .i64 v0,.int .i64 v1] 97)).cell? (aq rb (R*2))=some (ah O)/\(c.alloc (.cells #[.int .i64 v0,.int .i64 v1] 97)).cell? (aq rb (R*2+1))=some (ah y1))/\(∀o,(c.alloc (.cells #[.int .i64 v0,.int .i64 v1] 97)).frozen? (aq rb o)=false)/\w.heap.size<c.heap.size/\
  ay ((cx bY b_ bZ rb).J d g (c.alloc (.cells #[.int .i64 v0,.int .i64 v1] 97)).drew/\b8 F w d (c.alloc (.cells #[.int .i64 v0,.int .i64 v1] 97)).drew)):=fun w1 hb=>by
  have Q:Below w.heap.size w w1:=j.trans (hb.mono j.size)
  have f:=(hb.block _ (lt_of_some m)).trans m;refine⟨f,(i w1 Q).mono ?_⟩
  rintro e c ⟨d,rfl,ai,tn⟩
  have q:Below c.heap.size c (c.alloc (.cells #[.int .i64 v0,.int .i64 v1] 97)):=bX.alloc bW _;have t:=(cx bY b_ bZ rb).below ai q;obtain⟨al,rt,_,_⟩:=jX t;have u:=(tn.fr.block w.heap.size (lt_of_some f) (fun am=>by have:=fS _ am;omega)).trans f;obtain⟨_,an,_⟩:=eu ((q.block _ (lt_of_some u)).trans u)
  obtain⟨z0,ao,_,_⟩:=di (aN c (.cells #[.int .i64 v0,.int .i64 v1] 97))
  have x:∀o,(c.alloc (.cells #[.int .i64 v0,.int .i64 v1] 97)).frozen? (aq rb o)=false:=by obtain⟨l,hl,rfl,_⟩:=t;intro o;simp[World.frozen?,hl.g4.rt]
  exact⟨d,rfl,⟨al,an,z0,ao⟩,⟨_,_,(rt R H).1,(rt R H).2⟩,x,lt_of_some u,(cx bY b_ bZ rb).below t bX.drew,((b8.of Q).trans tn).below q.drew⟩
 have bd:(k==9)=false:=by simpa using k1
 have be:(k==12)=false:=by simpa using ab
 have bg:(k==15)=false:=by simpa using ad
 have bi:(k==16)=false:=by simpa using ag
 have bl:(0:Int)<=(R:Int):=V;have bn:(R:Int)<12:=V;have ap:w.heap.size≠rb:=V;have S:ay (bY≠rb):=by obtain⟨l,hl,rfl,_⟩:=h;intro e;have ar:=hl.bo;rw[e,hl.g4.ro] at ar;omega
 have aB:=S.o;clear h j m hc i fS L M S;go_enter func68,ntmps68;go_wp2_with fail;refine p.mono ?_;clear p;rintro e w1 ⟨rfl,U⟩
 obtain⟨f,P⟩:=N.o w1 U;obtain⟨q0,q1,aF,q3,aR,aV⟩:=eu f;clear U f N;go_wp2_with fail;refine P.mono ?_;clear P;rintro e c ⟨d,rfl,⟨C,D,E,G⟩,⟨O,y1,a0,a1⟩,x,lw,W⟩
 clear q0 q1 aF q3 aR aV;have X:c.heap.size≠rb:=V;go_wp2_with fail
 go_region_held3 (fun w'=>w'.cell? (aq bY 6)=some (.slice (ak rb) 12 12)/\w'.cell? (aq w.heap.size 1)=some (ah R)/\w'.cell? (aq c.heap.size 0)=some (ah v0)/\w'.cell? (aq c.heap.size 1)=some (ah v1)) (first|exact⟨C,D,E,G⟩|exact⟨rG aB C,rG ap D,rG X E,rG X G⟩|(go_keep;done)) (fail)
 all_goals
  have Y:ay (_/\_):=JD W.o.1 (R:=R) (v0,v1)
  clear C D E G a0 a1 x;go_wp2_with fail;go_ret;exact⟨rfl,d,Y.o.1,W.o.2.trans Y.o.2⟩
end
theorem JF {k R A B n:Int}(hc:dJ k R A B n=0)(c:k≠9)(d:k≠12)(e:k≠15)(f:k≠16):c8 k=1\/c8 k=3\/c8 k=7:=by
 rcases o4 k with b|b|b|b|b|b|b|b|b|b|b|b|b|b|b|b|b
 case' inr.inr.inr.inr.inr.inr.inr.inr.inr.inr.inr.inr.inr.inr.inr.inr=>
  have:=o5 b;unfold dJ at hc;rw[aI this] at hc;omega
 all_goals
  first
   |(subst b;decide)
   |(omega)
theorem JG (s:ck)(t b:Int×Int):(s.reg t b).2.rs=s.rs:=by
 unfold ck.reg;split
 ·split<;>rfl
 ·rfl
theorem JH (s:ck)(v:Int×Int)(I:Int)(y:Int×Int):(s.set v I y).2.rs=s.rs:=by unfold ck.set;dsimp only;split<;>rfl
theorem fH.root {s:ck}(hv:fH s)(i:Nat):(s.rs.getD i (0,0)).1=3->0<=(s.rs.getD i (0,0)).2/\cv s.T (s.rs.getD i (0,0)).2.toNat:=fun b=>by
 by_cases c:i<s.rs.length
 ·exact hv.rv _ (getD_in c) b
 ·rw[aE,List.getElem?_eq_none V] at b;cases b
section
variable {bY rb:Nat}{b_ bZ:Int}{F:Nat->Prop}{s:ck}{w:ax}{g:gO}
theorem JJ (h:(cx bY b_ bZ rb).J F s w)(hv:fH s)(i:dR s.T s.wt (g s.T s.wt))(g0:-1000000<=bZ)(g1:bZ<=1000000)(q:-1000000<=b_)(m1:b_<=1000000)(k R A B I n:Int):
 Calls prog 68 #[aj bY,dK k R A B I n] w fun e w'=>∃m,e=.returned (ah (s.ij g b_ bZ k R A B I n).1)/\(cx bY b_ bZ rb).J m (s.ij g b_ bZ k R A B I n).2 w'/\b8 F w m w':=by
 have tl:=hv.tl;have gl:=hv.gl;have wl:=hv.wl;unfold ck.ij;by_cases hc:dJ k R A B n=0
 ·rw[aI hc];by_cases b:k=9
  ·rw[aI b];subst b;have j:=lu hc aa;have l:=lZ hc aa;obtain⟨A,rfl⟩:=Int.eq_ofNat_of_zero_le j.1;obtain⟨B,rfl⟩:=Int.eq_ofNat_of_zero_le l.1;rw[Int.toNat_natCast,Int.toNat_natCast];exact JA h R I n A B V V hc _ _ (JG _ _ _) (fun w' hb=>Is ((cx bY b_ bZ rb).below h hb) _ _ (hv.root A) (hv.root B) tl V V)
  rw[aG b];by_cases d:k=12
  ·rw[aI d];subst d;have j:=lu hc aa;have l:=lZ hc aa;obtain⟨A,rfl⟩:=Int.eq_ofNat_of_zero_le j.1;obtain⟨B,rfl⟩:=Int.eq_ofNat_of_zero_le l.1;rw[Int.toNat_natCast,Int.toNat_natCast];exact JB h R I n A B V V hc _ _ (JH _ _ _ _) (fun w' hb=>Iu ((cx bY b_ bZ rb).below h hb) _ _ I (hv.root A) tl hv.iv.tl)
  rw[aG d];by_cases f:k=15
  ·rw[aI f];exact AL k R A B I n (aK f) hc _ _ (fun _ w' hb=>AE ((cx bY b_ bZ rb).below h hb) hv i g0 g1) (fun e=>by omega)
  rw[aG f];by_cases e16:k=16
  ·rw[aI e16];exact AL k R A B I n (aJ e16) hc _ _ (fun e=>by omega) (fun _ w' hb=>AD ((cx bY b_ bZ rb).below h hb) hv i)
  rw[aG e16];have u:=x_ hc (JF hc b d f e16)
  obtain⟨R,rfl⟩:=Int.eq_ofNat_of_zero_le u.1;rw[Int.toNat_natCast];have o:∀w',Below w.heap.size w w'->_:=fun w' hb=>Jy ((cx bY b_ bZ rb).below h hb) hv i g0 g1 q m1 k R A B I n hc b d f e16;generalize s.rt g b_ bZ k A.toNat B.toNat I n=t at*;obtain⟨v,cd,p⟩:=t;by_cases c:cd=0
  ·rw[aI c];subst c;exact JE h k R V A B I n hc b d f e16 v p o
  ·rw[aG c];exact JC k R A B I n hc b d f e16 v cd c p o
 ·rw[aG hc];refine(Jz k R A B I n hc).mono ?_;rintro e w' ⟨rfl,hb⟩
  exact⟨F,rfl,(cx bY b_ bZ rb).below h hb,b8.of hb⟩
end
def nz:ck:=⟨[],List.replicate 12 (0,0),[],[]⟩
theorem JK {w:ax}{b:Nat}(h:w.heap[b]?=some (.map #[] 0)):es w b 0 (fun _=>none):=by obtain⟨D,⟨d,e,hb,r⟩,c⟩:=es.made w;rw[aN] at hb;cases hb;exact⟨D,⟨#[],0,h,r⟩,c⟩
theorem JL (fm:Fm):hI [] fm=fun _=>none:=by
 funext x
 refine lE (fun h=>?_)
 have:=h.2.1;simp at this
theorem JM {w:ax}{bY mb bp rb:Nat}{n o:Int}(hg:w.heap[bY]?=some (.cells #[ah n,ah o,.map (some mb),ah 0,ah 0,aj bp,.slice (ak rb) 12 12] 187 (0,0)))
 (hm:w.heap[mb]?=some (.map #[] 0))(hb:w.heap[bp]?=some (.cells #[.slice none 0 0,.slice none 0 0] 153 (0,0)))(hr:w.heap[rb]?=some (.cells (ev (List.replicate 12 (0,0))).toArray 97 (0,0))):
 (cx bY n o rb).J (fun b=>b=bY\/b=mb\/b=bp\/b=rb) nz w:=by
 have n1:bY≠mb:=fun e=>by rw[e,hm] at hg;cases hg
 have c:bY≠bp:=fun e=>by rw[e,hb] at hg;simp at hg
 have d:bY≠rb:=fun e=>by rw[e,hr] at hg;simp at hg
 have n4:mb≠bp:=fun e=>by rw[e,hb] at hm;cases hm
 have f:mb≠rb:=fun e=>by rw[e,hr] at hm;cases hm
 have g:bp≠rb:=fun e=>by rw[e,hr] at hb;simp at hb
 have o1:∀b,(if b=bY then 1 else if b=mb then 2 else if b=bp then 3 else if b=rb then 4 else 0)≠(0:Nat)↔b=bY\/b=mb\/b=bp\/b=rb:=fun b=>by
  by_cases j:b=bY
  ·simp[j]
  ·by_cases l:b=mb
   ·simp[l,n1.symm]
   ·by_cases m:b=bp
    ·simp[m,c.symm,n4.symm]
    ·by_cases p:b=rb
     ·simp[p,d.symm,f.symm,g.symm]
     ·simp[j,l,m,p]
 refine⟨⟨fun b=>if b=bY then 1 else if b=mb then 2 else if b=bp then 3 else if b=rb then 4 else 0,mb,bp,rb,fun _=>(none,0),0,0,none,0,none,0⟩,?_,rfl,fun b=>(o1 b).symm⟩
 refine {blk:=hg,bo:=by dsimp only;rw[aI rfl],g2:=?_,g3:=?_,g4:=?_,lt:=fun b h=>?_}
 ·refine {mp:=?_,mn:=aD _,dp:=?_,fl:=fun i hi=>?_,eR:=fun i hi=>?_,fe:=fun i hi=>?_,al:=aD _}
  ·show es w mb 0 (hI [] _)
   rw[JL];exact JK hm
  ·dsimp only;rw[aG n1.symm,aI rfl]
  ·exact absurd hi.1 (by simp[nz])
  ·exact absurd hi.1 (by simp[nz])
  ·exact absurd hi.1 (by simp[nz])
 ·refine {sd:=⟨hb,bc _ _ _ _,bc _ _ _ _⟩,so:=?_,ro:=fun k e=>?_,me:=fun k e=>?_}
  ·dsimp only;rw[aG c.symm,aG n4.symm,aI rfl]
  ·cases e
  ·cases e
 ·refine {rt:=hr,rl:=by simp[nz],ro:=?_};dsimp only;rw[aG d.symm,aG f.symm,aG g.symm,aI rfl]
 ·rcases(o1 b).1 h with e|e|e|e
  ·rw[e];exact lt_of_some hg
  ·rw[e];exact lt_of_some hm
  ·rw[e];exact lt_of_some hb
  ·rw[e];exact lt_of_some hr
theorem JN (n o:Nat)(w:ax)(h0:16<=n)(A:n<=256)(B:o<=1024):
 Calls prog 67 #[ah n,ah o] w fun e w'=>∃bY rb F,e=.returned (.tuple #[aj bY,.agg #[ah 0,ah 0]])/\(cx bY n o rb).J F nz w'/\(∀b,F b->w.heap.size<=b)/\Below w.heap.size w w':=by
 have Y:=@run_makeMap prog;have C:=au w (.cells #[.int .i64 0,.int .i64 0] 28)
 have P:=Hx n o (w.alloc (.cells #[.int .i64 0,.int .i64 0] 28)) h0 A B;have D:=aN w (.cells #[.int .i64 0,.int .i64 0] 28)
 have M:w.heap.size<(w.alloc (.cells #[.int .i64 0,.int .i64 0] 28)).heap.size:=Z;have E:=hide C;clear C h0 A B;go_enter func67,ntmps67;go_wp2_with fail;generalize w.alloc (.cells #[.int .i64 0,.int .i64 0] 28)=w0 at*;generalize N:w.heap.size=fb at*;refine P.mono ?_;clear P;rintro e w1 ⟨hp,rfl,t⟩
 have u:=(t.block fb M).trans D;have O:=hide (E.o.trans (t.mono V))
 have Q:=lt_of_some u;clear t D E;have B1:=(((au w1 (.cells #[.int .i64 0,.int .i64 0] 28)).alloc Z (.map #[] 0)).alloc (by simp;omega) (.cells #[.slice none 0 0,.slice none 0 0] 153)).alloc (by simp;omega) (.cells #[.int .i64 0,.int .i64 0] 97)
 have m1:((((w1.alloc (.cells #[.int .i64 0,.int .i64 0] 28)).alloc (.map #[] 0)).alloc (.cells #[.slice none 0 0,.slice none 0 0] 153)).alloc (.cells #[.int .i64 0,.int .i64 0] 97)).heap[w1.heap.size+1]?=some (.map #[] 0):=by rw[aS _ _ _ Z,aS _ _ _ Z];exact iP w1 _ _
 have f:((((w1.alloc (.cells #[.int .i64 0,.int .i64 0] 28)).alloc (.map #[] 0)).alloc (.cells #[.slice none 0 0,.slice none 0 0] 153)).alloc (.cells #[.int .i64 0,.int .i64 0] 97)).heap[w1.heap.size+1+1]?=some (.cells #[.slice none 0 0,.slice none 0 0] 153 (0,0)):=by
  rw[aS _ _ _ Z];have:=iP (w1.alloc (.cells #[.int .i64 0,.int .i64 0] 28)) (.map #[] 0) (.cells #[.slice none 0 0,.slice none 0 0] 153)
  simpa using this
 have G:((((w1.alloc (.cells #[.int .i64 0,.int .i64 0] 28)).alloc (.map #[] 0)).alloc (.cells #[.slice none 0 0,.slice none 0 0] 153)).alloc (.cells #[.int .i64 0,.int .i64 0] 97)).heap[w1.heap.size+1+1+1]?=some (.cells #[ah 0,ah 0] 97 (0,0)):=by
  have:=aN ((((w1.alloc (.cells #[.int .i64 0,.int .i64 0] 28)).alloc (.map #[] 0)).alloc (.cells #[.slice none 0 0,.slice none 0 0] 153))) (.cells #[.int .i64 0,.int .i64 0] 97)
  simpa using this
 have q:((((w1.alloc (.cells #[.int .i64 0,.int .i64 0] 28)).alloc (.map #[] 0)).alloc (.cells #[.slice none 0 0,.slice none 0 0] 153)).alloc (.cells #[.int .i64 0,.int .i64 0] 97)).heap.size=w1.heap.size+1+1+1+1:=Z;obtain⟨v0,v1,_,_⟩:=di G;have H:=AJ _ (w1.heap.size+1+1+1) 12 (0,0) aa v0 v1;have l:=(B1.block fb Q).trans u;have I:=vR B1 m1 f l q;clear B1 m1 f G v0 v1 u l q;go_wp2_with fail;generalize (((w1.alloc (.cells #[.int .i64 0,.int .i64 0] 28)).alloc (.map #[] 0)).alloc (.cells #[.slice none 0 0,.slice none 0 0] 153)).alloc (.cells #[.int .i64 0,.int .i64 0] 97)=ab at*;refine H.mono ?_;clear H;rintro e c ⟨nb,rfl,R,K,g⟩
 obtain⟨B1,m1,f,l,q⟩:=I.o;have i:=(g.block fb V).trans l;have S:ay (_/\_/\_/\w1.heap.size+1+1<nb/\_/\_):=
  ⟨(g.block _ V).trans m1,(g.block _ V).trans f,K,V,(O.o.trans (B1.mono V)).trans (g.mono V),lt_of_some ((g.block _ V).trans f)⟩
 have y0:c.cell? (aq fb 0)=some (ah 0):=aA i
 have y1:c.cell? (aq fb 1)=some (ah 0):=aA i
 have z0:c.frozen? (aq fb 0)=false:=aC i
 have ad:c.frozen? (aq fb 1)=false:=aC i
 have U:=lt_of_some i;clear i g K R B1 m1 f l q I;go_wp2_with fail;obtain⟨d,hW1⟩:∃d,d=(c.setCell ⟨fb,0,none⟩ (.int .i64 0)).setCell ⟨fb,1,none⟩ (.int .i64 0):=⟨_,rfl⟩
 rw[<-hW1];have v0:d.cell? (aq fb 0)=some (ah 0):=by exact tq
 have v1:d.cell? (aq fb 1)=some (ah 0):=by rw[hW1];exact bf _ _ _ ((a5 c ⟨fb,0,none⟩ ⟨fb,1,none⟩ _ Z).trans y1)
 have s:Fr (fun k=>k=fb) c d:=by rw[hW1];exact((Fr.refl (fun k=>k=fb) c).set fb 0 _ rfl).set fb 1 _ rfl
 have L:d.heap.size=c.heap.size:=by rw[hW1];simp
 clear hW1;obtain⟨k1,W,x,ag,k5,k6⟩:=S.o;have j:=au d (.cells #[.int .i64 n,.int .i64 o,.map (some (w1.heap.size+1)),.int .i64 0,.int .i64 0,.pointer (some ⟨w1.heap.size+1+1,0,none⟩),.slice (some ⟨nb,0,none⟩) 12 12] 187)
 have hg:=aN d (.cells #[.int .i64 n,.int .i64 o,.map (some (w1.heap.size+1)),.int .i64 0,.int .i64 0,.pointer (some ⟨w1.heap.size+1+1,0,none⟩),.slice (some ⟨nb,0,none⟩) 12 12] 187)
 rw[L] at hg;have g0:=(j.cell (p:=aq fb 0) (by show fb<_;omega)).trans v0;have g1:=(j.cell (p:=aq fb 1) (by show fb<_;omega)).trans v1;have J:=JM hg ((j.block _ V).trans ((s.block _ V (fun e=>by have e:=e;omega)).trans k1)) ((j.block _ V).trans ((s.block _ V (fun e=>by have e:=e;omega)).trans W)) ((j.block _ (by rw[L];exact lt_of_some x)).trans ((s.block _ (lt_of_some x) (fun e=>by have e:=e;omega)).trans x))
 have X:=k5.trans (s.below (Nat.le_of_lt U) (fun k e=>Nat.le_of_eq (Eq.symm e)))
 refine a3 (v:=.tuple #[aj c.heap.size,.agg #[ah 0,ah 0]]) (by simp only [results,results67];simp[go_sem,g0,g1]) rfl ⟨c.heap.size,nb,_,rfl,J,fun b m=>?_,by rw[N];exact X.trans (j.mono V)⟩
 rcases m with m|m|m|m<;>omega
structure fB (B:Nat)(w w':ax):Prop where
 os:w'.os=w.os
 tape:w'.tape=w.tape
 output:w'.output=w.output
 size:w.heap.size<=w'.heap.size
 low:∀k:Nat,k<w.heap.size->k<B->w'.heap[k]?=w.heap[k]?
 h8:∀(k:Nat) cs e m,w.heap[k]?=some (Obj.cells cs e m)->e≠231->e≠107->w'.heap[k]?=w.heap[k]?
section
variable {B:Nat}{w w' w'':ax}
theorem fB.refl (B:Nat)(w:ax):fB B w w:=⟨rfl,rfl,rfl,aD _,fun _ _ _=>rfl,fun _ _ _ _ _ _ _=>rfl⟩
theorem fB.trans (h:fB B w w')(k:fB B w' w''):fB B w w'':=
 ⟨k.os.trans h.os,k.tape.trans h.tape,k.output.trans h.output,aT h.size k.size,fun i hi hb=>(k.low i (aM hi h.size) hb).trans (h.low i hi hb),fun i b e m hi c d=>(k.h8 i b e m ((h.h8 i b e m hi c d).trans hi) c d).trans (h.h8 i b e m hi c d)⟩
theorem fB.of (h:Below w.heap.size w w'):fB B w w':=⟨h.os,h.tape,h.output,h.size,fun k hk _=>h.block k hk,fun k _ _ _ hi _ _=>h.block k (lt_of_some hi)⟩
theorem fB.below (h:fB B w w')(hB:B<=w.heap.size):Below B w w':=⟨h.os,h.tape,h.output,h.size,fun k hk=>h.low k V hk⟩
theorem fB.set {pk o:Nat}{b:Array Value}{m:Nat×Nat}{e:TypeId}{v:Value}(hp:w.heap[pk]?=some (.cells b e m))(he:e=231\/e=107)(hB:B<=pk):fB B w (w.setCell ⟨pk,o,none⟩ v):=
 ⟨rfl,rfl,rfl,by simp[World.setCell],fun k _ hk=>aU _ _ _ _ (fun c=>by have c:k=pk:=c;omega),fun k g i j hk d f=>aU _ _ _ _ (fun c=>by
  rw[c,hp] at hk;simp at hk;rcases he with he|he
  ·exact d (hk.2.1.symm.trans he)
  ·exact f (hk.2.1.symm.trans he))⟩
theorem fB.grown {row:Option Nat}(g:w.grownBy w' row)(hr:∀k,row=some k->B<=k/\∀b e m,w.heap[k]?=some (.cells b e m)->e=231\/e=107):fB B w w':=
 ⟨g.os,g.tape,g.output,g.size,fun k hk hb=>g.block k hk (fun e=>by have:=(hr k e.symm).1;omega),fun k b e m hk d f=>g.block k (lt_of_some hk) (fun c=>((hr k c.symm).2 b e m hk).elim d f)⟩
theorem fj.mA {ad:Option Addr}{l:List _}(h:fj w ad l)(k:fB B w w'):fj w' ad l:=by exact sG
end
def fI (w0 w:ax)(m:List dT)(w':ax)(b:List dT):Prop:=fB w0.heap.size w w'/\∀k,fp b k->fp m k\/w.heap.size<=k
theorem fI.refl (w0 w:ax)(m:List dT):fI w0 w m w m:=⟨fB.refl _ _,fun _ h=>aK h⟩
theorem fI.trans {w0 w w' b:ax}{m d e:List dT}(h:fI w0 w m w' d)(k:fI w0 w' d b e):fI w0 w m b e:=
 ⟨h.1.trans k.1,fun i hi=>(k.2 i hi).elim (h.2 i) (fun c=>aJ (aT h.1.size c))⟩
theorem fI.of {w0 w w':ax}{m:List dT}(h:Below w.heap.size w w'):fI w0 w m w' m:=⟨fB.of h,fun _ h=>aK h⟩
theorem fI.new {w0 w w' b:ax}{m d:List dT}{X:Nat->Prop}(h:fI w0 w m w' d)(f:Fr X w' b)(g:∀k,X k->w.heap.size<=k):fI w0 w m b d:=
 ⟨⟨f.os.trans h.1.os,f.tape.trans h.1.tape,f.output.trans h.1.output,aT h.1.size f.size,fun k hk hb=>(f.block k (aM hk h.1.size) (fun c=>by have:=g k c;omega)).trans (h.1.low k hk hb),
  fun k i e mm hk j l=>(f.block k (aM (lt_of_some hk) h.1.size) (fun c=>by have:=g k c;have:=lt_of_some hk;omega)).trans (h.1.h8 k i e mm hk j l)⟩,h.2⟩
def kz (ms:List Int)(x:Int):Option Value:=if ms.contains x=true then some (ah (ms.idxOf x:Int)) else none
theorem JO {ms:List Int}{a:Int}(hn:a∉ms):jE (kz ms) a (ah ms.length)=kz (ms++[a]):=by
 funext b
 unfold jE kz;by_cases e:b=a
 ·subst e;rw[aI rfl,aI Z,List.idxOf_append,aG hn];simp
 ·rw[aG e];by_cases c:b∈ms
  ·rw[aI (by simp[c]),aI (by simp[c]),List.idxOf_append,aI c]
  ·rw[aG (by simpa using c),aG (by simp[c,e])]
theorem AM {ms:List Int}{a:Int}(h:a∉ms):kz ms a=none:=by unfold kz;rw[aG (by simpa using h)]
theorem JP {ms:List Int}{a:Int}(h:a∈ms):kz ms a=some (ah (ms.idxOf a:Int)):=by unfold kz;rw[aI (by simpa using h)]
structure fg (w0 w:ax)(kb ch bY:Nat)(s:cQ)(vn:Value)(m:List dT):Prop where
 blk:w.heap[kb]?=some (.cells #[aj bY,.map (some ch),vn] 231 (0,0))
 lo:w0.heap.size<=kb/\w0.heap.size<=ch
 mp:es w ch s.1.length (kz s.1)
 row:w.ownsRow w0.heap.size 107 2 vn m.length (nv m)
 nd:hQ m=s.2
 fl:∀x∈m,fj w x.2.1 x.2.2.2
 eH:Below w0.heap.size w0 w
section
variable {w0 w w':ax}{kb ch bY:Nat}{s:cQ}{vn:Value}{m:List dT}
theorem fg.below (h:fg w0 w kb ch bY s vn m)(hb:Below w.heap.size w w'):fg w0 w' kb ch bY s vn m:=
 ⟨(hb.block kb (lt_of_some h.blk)).trans h.blk,h.lo,h.mp.same (hb.block ch h.mp.lt),cH h.row (fun k hk=>hb.block k (cn h.row k hk).2),h.nd,fun x b=>(h.fl x b).mA (fB.of (B:=0) hb),h.eH.trans (hb.mono h.eH.size)⟩
theorem fg.cells (h:fg w0 w kb ch bY s vn m):w.cell? (aq kb 0)=some (aj bY)/\w.cell? (aq kb 1)=some (.map (some ch))/\w.cell? (aq kb 2)=some vn/\kb<w.heap.size:=
 ⟨by simp[World.cell?,h.blk],by simp[World.cell?,h.blk],by simp[World.cell?,h.blk],lt_of_some h.blk⟩
theorem fg.len (h:fg w0 w kb ch bY s vn m):m.length=s.2.length:=by rw[<-h.nd];simp[hQ]
theorem fg.fb (h:fg w0 w kb ch bY s vn m)(k:Nat)(hk:fp m k):k<w.heap.size:=by exact xz
theorem fg.but {X:Nat->Prop}(h:fg w0 w kb ch bY s vn m)(f:Fr X w w')(hX:∀k,k<w.heap.size->X k->(∃cs,w.heap[k]?=some (.cells cs 97 (0,0)))/\¬fp m k/\w0.heap.size<=k):fg w0 w' kb ch bY s vn m:=by
 obtain⟨j,l,d⟩:=h.mp.blk;have n1:¬X kb:=fun c=>by obtain⟨⟨cs,hc⟩,_⟩:=hX kb (lt_of_some h.blk) c;rw[h.blk] at hc;simp at hc
 have g:¬X ch:=fun c=>by obtain⟨⟨cs,hc⟩,_⟩:=hX ch h.mp.lt c;rw[d] at hc;simp at hc
 refine⟨(f.block kb (lt_of_some h.blk) n1).trans h.blk,h.lo,h.mp.same (f.block ch h.mp.lt g),cH h.row (fun k hk=>f.block k (cn h.row k hk).2 (fun c=>?_)),h.nd,fun x hx=>?_,h.eH.trans ⟨f.os,f.tape,f.output,f.size,fun k hk=>f.block k (aM hk h.eH.size) (fun c=>by have:=(hX k (aM hk h.eH.size) c).2.2;omega)⟩⟩
 ·obtain⟨⟨cs,hc⟩,_⟩:=hX k (cn h.row k hk).2 c;obtain⟨n,i⟩:=e5 h.row k hk;rw[i] at hc;simp at hc
 ·have hl:=h.fl x hx;exact xv
end
end Go.Proofs.YtpkjkjhanlbcoaaGreat
