import Derived.Test.YtpkjkjhanlbcoaaGreatJ38
namespace Go.Proofs.YtpkjkjhanlbcoaaGreat
set_option maxRecDepth 100000
set_option maxHeartbeats 4000000
open Tryz
open Go.RowKit W Kp cf
section
variable {bY rb:Nat}{b_ bZ:Int}{F F':Nat->Prop}{s S2:ck}{w W1 w2:ax}{k R A B I n:Int}
abbrev f8 (w:ax)(k R A B I n:Int):ax:=(w.alloc (cz k R A B I n)).alloc (.cells #[.int .i64 0,.int .i64 0] 97)
theorem lK (h:(cx bY b_ bZ rb).J F s w)(k R A B I n:Int):aw w (f8 w k R A B I n)/\(f8 w k R A B I n).heap[w.heap.size]?=some (cz k R A B I n)/\(f8 w k R A B I n).heap[w.heap.size+1]?=some (.cells #[ah 0,ah 0] 97 (0,0))/\(f8 w k R A B I n).cell? (aq bY 6)=some (.slice (ak rb) 12 12)/\
 (∀i,i<12->(f8 w k R A B I n).cell? (aq rb (i*2))=some (ah (s.rs.getD i (0,0)).1)/\(f8 w k R A B I n).cell? (aq rb (i*2+1))=some (ah (s.rs.getD i (0,0)).2))/\bY≠w.heap.size+1/\rb≠w.heap.size+1:=by
 have b:aw w (f8 w k R A B I n):=(bX.alloc bW _).alloc Z _;obtain⟨c,rt,d,e⟩:=jY ((cx bY b_ bZ rb).below h b)
 have l1:=(cx bY b_ bZ rb).lt h _ d;have l2:=(cx bY b_ bZ rb).lt h _ e;exact⟨b,(aS _ _ _ Z).trans (aN w _),iR w _ _,c,rt,V,V⟩
theorem oz (h:(cx bY b_ bZ rb).J F s w)(b1:aw w W1)(e:W1.heap[w.heap.size]?=some (cz k R A B I n))(d:W1.heap[w.heap.size+1]?=some (.cells #[ah 0,ah 0] 97 (0,0)))(f:(cx bY b_ bZ rb).J F' S2 w2)(tn:b8 F W1 F' w2)(g:S2.rs=s.rs):
 (w2.cell? (aq bY 6)=some (.slice (ak rb) 12 12)/\(∀i,i<12->w2.cell? (aq rb (i*2))=some (ah (s.rs.getD i (0,0)).1)/\w2.cell? (aq rb (i*2+1))=some (ah (s.rs.getD i (0,0)).2))/\w2.heap[w.heap.size]?=some (cz k R A B I n))/\
 w2.heap[w.heap.size+1]?=some (.cells #[ah 0,ah 0] 97 (0,0))/\ay ((cx bY b_ bZ rb).J F' S2 w2/\b8 F w F' w2/\¬F' (w.heap.size+1)):=by
 have fS:∀b,F b->b<w.heap.size:=fun b hb=>(cx bY b_ bZ rb).lt h b hb;obtain⟨j,rt,_,_⟩:=jY f;rw[g] at rt;have kp:∀b,w.heap.size<=b->b<W1.heap.size->w2.heap[b]?=W1.heap[b]?:=fun b m l=>tn.fr.block b l (fun c=>by have:=fS b c;omega)
 refine⟨⟨j,rt,(kp _ bW (lt_of_some e)).trans e⟩,(kp _ (Nat.le_succ _) (lt_of_some d)).trans d,f,(b8.of b1).trans tn,fun c=>?_⟩
 have l1:=lt_of_some d;rcases tn.sub _ c with c|c
 ·have:=fS _ c;omega
 ·omega
theorem uH (hv:fH s)(hl:s.rs.length=12){A:Nat}(b:A<12):(s.rs.getD A (0,0)).1=3->0<=(s.rs.getD A (0,0)).2/\cv s.T (s.rs.getD A (0,0)).2.toNat:=hv.rv _ (getD_in V)
theorem uI (h:(cx bY b_ bZ rb).J F s w):s.rs.length=12:=by obtain⟨l,h,_⟩:=h;exact h.g4.rl
def ck.gt (s:ck)(v:Int×Int)(I:Int):(Int×Int)×Int×ck:=((if s.fc v I=0 then(s.T.getD v.2.toNat t0).2.1.getD I.toNat (0,0) else(0,0)),s.fc v I,s)
def ck.ln (s:ck)(v:Int×Int):(Int×Int)×Int×ck:=if jE s.T v=true then((1,((s.T.getD v.2.toNat t0).2.1.length:Int)),0,s) else((0,0),2,s)
theorem I_ (s:ck)(v:Int×Int)(I:Int):(s.gt v I).2.2=s:=rfl
theorem Ja (s:ck)(v:Int×Int):(s.ln v).2.2=s:=by unfold ck.ln;split<;>rfl
theorem Jb (h:(cx bY b_ bZ rb).J F s w)(v:Int×Int)(i:Int)(hv:v.1=3->0<=v.2/\cv s.T v.2.toNat)(g:s.T.length<=10000):
 Calls prog 201 #[aj bY,.agg #[ah v.1,ah v.2],ah i] w fun e w'=>∃F',e=.returned (.tuple #[.agg #[ah (s.gt v i).1.1,ah (s.gt v i).1.2],ah (s.gt v i).2.1])/\(cx bY b_ bZ rb).J F' (s.gt v i).2.2 w'/\b8 F w F' w':=by
 have p:=h;obtain⟨l,h,_,_⟩:=h;have j:∀(a b c:Int),(s.gt v i).1=(a,b)->(s.gt v i).2.1=c->∀(e:Ending)(w':ax),(e=.returned (.tuple #[.agg #[ah a,ah b],ah c])/\aw w w')->∃F',e=.returned (.tuple #[.agg #[ah (s.gt v i).1.1,ah (s.gt v i).1.2],ah (s.gt v i).2.1])/\(cx bY b_ bZ rb).J F' (s.gt v i).2.2 w'/\b8 F w F' w':=by
  rintro a b c q t e w' ⟨rfl,hb⟩
  rw[q,t,I_];exact⟨F,rfl,(cx bY b_ bZ rb).below p hb,b8.of hb⟩
 by_cases k:v.1=3/\(s.T.getD v.2.toNat t0).1≠5
 ·obtain⟨f,n⟩:=k;have hd:jE s.T v=true:=jF.2 ⟨f,n⟩
  have o:=hv f;by_cases hi:i<0\/((s.T.getD v.2.toNat t0).2.1.length:Int)<=i
  ·have d:s.fc v i=1:=by unfold ck.fc;rw[aI hd,aI hi]
   rw[f];exact(z8 h v.2 i o g n hi).mono (j 0 0 1 (by unfold ck.gt;rw[d];rfl) d)
  ·have d:s.fc v i=0:=by unfold ck.fc;rw[aI hd,aG hi]
   obtain⟨m,rfl⟩:=Int.eq_ofNat_of_zero_le (a:=i) V;rw[f];exact(z9 h v.2 m o g n V).mono (j _ _ 0 (by unfold ck.gt;rw[d];rfl) d)
 ·have d:s.fc v i=2:=by unfold ck.fc;rw[aG (fun c=>k (jF.1 c))]
  exact(z7 h v i hv g (fun f=>Classical.byContradiction (fun c=>k ⟨f,c⟩))).mono (j 0 0 2 (by unfold ck.gt;rw[d];rfl) d)
theorem Jd (h:(cx bY b_ bZ rb).J F s w)(v:Int×Int)(hv:v.1=3->0<=v.2/\cv s.T v.2.toNat)(f:s.T.length<=10000):
 Calls prog 208 #[aj bY,.agg #[ah v.1,ah v.2]] w fun e w'=>∃F',e=.returned (.tuple #[.agg #[ah (s.ln v).1.1,ah (s.ln v).1.2],ah (s.ln v).2.1])/\(cx bY b_ bZ rb).J F' (s.ln v).2.2 w'/\b8 F w F' w':=by
 have g:=h;obtain⟨l,h,_,_⟩:=h;by_cases d:v.1=3/\(s.T.getD v.2.toNat t0).1≠5
 ·obtain⟨b,i⟩:=d;have e:s.ln v=((1,((s.T.getD v.2.toNat t0).2.1.length:Int)),0,s):=aI (jF.2 ⟨b,i⟩)
  rw[e,b];refine(HR h v.2 (hv b) f i).mono ?_;rintro e w' ⟨rfl,hb⟩
  exact⟨F,rfl,(cx bY b_ bZ rb).below g hb,b8.of hb⟩
 ·have e:s.ln v=((0,0),2,s):=aG (fun c=>d (jF.1 c))
  rw[e];refine(HQ h v hv f (fun b=>Classical.byContradiction (fun c=>d ⟨b,c⟩))).mono ?_;rintro e w' ⟨rfl,hb⟩
  exact⟨F,rfl,(cx bY b_ bZ rb).below g hb,b8.of hb⟩
end
section
variable {bY rb:Nat}{b_ bZ:Int}{F:Nat->Prop}{s:ck}{w:ax}
theorem Je (h:(cx bY b_ bZ rb).J F s w)(hv:fH s)(R B I n:Int)(A:Nat)(f:A<12):
 Calls prog 136 #[aj bY,dK 10 R A B I n] w fun e w'=>∃b,e=.returned (.tuple #[.agg #[ah (s.pop (s.rs.getD A (0,0))).1.1,ah (s.pop (s.rs.getD A (0,0))).1.2],ah (s.pop (s.rs.getD A (0,0))).2.1])/\(cx bY b_ bZ rb).J b (s.pop (s.rs.getD A (0,0))).2.2 w'/\b8 F w b w':=by
 obtain⟨j,g,k,x,rt,C,l⟩:=lK h 10 R A B I n;have m:=uH hv (uI h) f;have hd:aw w (f8 w 10 R A B I n).drew:=j.drew;have P:=In ((cx bY b_ bZ rb).below h hd) (s.rs.getD A (0,0)) m hv.tl (aT hv.wl aa)
 have i:Calls prog 207 #[aj bY,.agg #[ah (s.rs.getD A (0,0)).1,ah (s.rs.getD A (0,0)).2]] (f8 w 10 R A B I n).drew fun e c=>∃b,e=.returned (.tuple #[.agg #[ah (s.pop (s.rs.getD A (0,0))).1.1,ah (s.pop (s.rs.getD A (0,0))).1.2],ah (s.pop (s.rs.getD A (0,0))).2.1])/\
  (c.cell? (aq bY 6)=some (.slice (ak rb) 12 12)/\c.cell? (aq rb (A*2))=some (ah (s.rs.getD A (0,0)).1)/\c.cell? (aq rb (A*2+1))=some (ah (s.rs.getD A (0,0)).2)/\c.cell? (aq w.heap.size 2)=some (ah A))/\
  c.heap[w.heap.size+1]?=some (.cells #[ah 0,ah 0] 97 (0,0))/\ay ((cx bY b_ bZ rb).J b (s.pop (s.rs.getD A (0,0))).2.2 c/\b8 F w b c/\¬b (w.heap.size+1)):=by
  refine P.mono ?_;rintro e c ⟨b,rfl,D,tn⟩
  obtain⟨⟨E,o,G⟩,y1,d⟩:=oz h hd g k D tn (I9 _ _)
  obtain⟨_,_,H,_,U,_⟩:=eu G;exact⟨b,rfl,⟨E,(o A f).1,(o A f).2,H⟩,y1,d⟩
 clear P;obtain⟨J,K⟩:=rt A f;obtain⟨q0,q1,L,q3,M,N⟩:=eu g;generalize s.pop (s.rs.getD A (0,0))=gr at*;obtain⟨⟨v0,v1⟩,cd,W⟩:=gr;dsimp only at i⊢;generalize (s.rs.getD A (0,0)).1=a0 at*;generalize (s.rs.getD A (0,0)).2=a1 at*;have X:(0:Int)<=(A:Int):=V;have Y:(A:Int)<12:=V;have nx:w.heap.size≠w.heap.size+1:=V;clear h hv j hd g k rt m q0 q1 q3 M N;go_enter func136,ntmps136;go_wp2_with fail
 go_region_held3 (fun w'=>w'.cell? (aq bY 6)=some (.slice (ak rb) 12 12)/\w'.cell? (aq rb (A*2))=some (ah a0)/\w'.cell? (aq rb (A*2+1))=some (ah a1)/\w'.cell? (aq w.heap.size 2)=some (ah A)) (first|exact⟨ff C p,ff l q,ff l t,ff nx u⟩|(go_keep;done))
  (first|(go_at_call 207;refine i.mono ?_;clear i;rintro e c ⟨b,rfl,⟨p,q,t,u⟩,y1,d⟩;obtain⟨r0,r1,ab,lw⟩:=di y1;have O:ay (_=_):=y1;clear y1 x J K L))
 all_goals
  clear p q t u ‹_/\_›;go_wp2_with fail;obtain⟨Q,S,_,_⟩:=di (gy (v1:=ah v0) (v2:=ah v1) O.out)
  exact a3 (v:=.tuple #[.agg #[ah v0,ah v1],ah cd]) (by simp[results,results136,go_sem,Q,S]) rfl ⟨b,rfl,dr.set2 _ d.out.1 d.out.2.2 _ _,d.out.2.1.set2 (Nat.le_succ _) _ _⟩
theorem Jf (h:(cx bY b_ bZ rb).J F s w)(hv:fH s)(R B I n:Int)(A:Nat)(f:A<12):
 Calls prog 136 #[aj bY,dK 11 R A B I n] w fun e w'=>∃b,e=.returned (.tuple #[.agg #[ah (s.gt (s.rs.getD A (0,0)) I).1.1,ah (s.gt (s.rs.getD A (0,0)) I).1.2],ah (s.gt (s.rs.getD A (0,0)) I).2.1])/\(cx bY b_ bZ rb).J b (s.gt (s.rs.getD A (0,0)) I).2.2 w'/\b8 F w b w':=by
 obtain⟨j,g,k,C,rt,D,l⟩:=lK h 11 R A B I n;have m:=uH hv (uI h) f;have hd:aw w (f8 w 11 R A B I n).drew:=j.drew;have P:=Jb ((cx bY b_ bZ rb).below h hd) (s.rs.getD A (0,0)) I m hv.tl;have i:Calls prog 201 #[aj bY,.agg #[ah (s.rs.getD A (0,0)).1,ah (s.rs.getD A (0,0)).2],ah I] (f8 w 11 R A B I n).drew fun e c=>∃b,e=.returned (.tuple #[.agg #[ah (s.gt (s.rs.getD A (0,0)) I).1.1,ah (s.gt (s.rs.getD A (0,0)) I).1.2],ah (s.gt (s.rs.getD A (0,0)) I).2.1])/\
  (c.cell? (aq bY 6)=some (.slice (ak rb) 12 12)/\c.cell? (aq rb (A*2))=some (ah (s.rs.getD A (0,0)).1)/\c.cell? (aq rb (A*2+1))=some (ah (s.rs.getD A (0,0)).2)/\c.cell? (aq w.heap.size 2)=some (ah A)/\c.cell? (aq w.heap.size 4)=some (ah I))/\
  c.heap[w.heap.size+1]?=some (.cells #[ah 0,ah 0] 97 (0,0))/\ay ((cx bY b_ bZ rb).J b (s.gt (s.rs.getD A (0,0)) I).2.2 c/\b8 F w b c/\¬b (w.heap.size+1)):=by
  refine P.mono ?_;rintro e c ⟨b,rfl,E,tn⟩
  obtain⟨⟨G,o,H⟩,y1,d⟩:=oz h hd g k E tn rfl;obtain⟨_,_,J,_,K,_⟩:=eu H;exact⟨b,rfl,⟨G,(o A f).1,(o A f).2,J,K⟩,y1,d⟩
 clear P;obtain⟨L,M⟩:=rt A f;obtain⟨q0,q1,N,q3,O,Q⟩:=eu g;generalize s.gt (s.rs.getD A (0,0)) I=gr at*;obtain⟨⟨v0,v1⟩,cd,X⟩:=gr;dsimp only at i⊢;generalize (s.rs.getD A (0,0)).1=a0 at*;generalize (s.rs.getD A (0,0)).2=a1 at*;have Y:(0:Int)<=(A:Int):=V;have ab:(A:Int)<12:=V;have nx:w.heap.size≠w.heap.size+1:=V;clear h hv j hd g k rt m q0 q1 q3 Q;go_enter func136,ntmps136;go_wp2_with fail
 go_region_held3 (fun w'=>w'.cell? (aq bY 6)=some (.slice (ak rb) 12 12)/\w'.cell? (aq rb (A*2))=some (ah a0)/\w'.cell? (aq rb (A*2+1))=some (ah a1)/\w'.cell? (aq w.heap.size 2)=some (ah A)/\w'.cell? (aq w.heap.size 4)=some (ah I)) (first|exact⟨ff D p,ff l q,ff l t,ff nx u,ff nx x⟩|(go_keep;done))
  (first|(go_at_call 201;refine i.mono ?_;clear i;rintro e c ⟨b,rfl,⟨p,q,t,u,x⟩,y1,d⟩;obtain⟨r0,r1,ad,lw⟩:=di y1;have S:ay (_=_):=y1;clear y1 C L M N O))
 all_goals
  clear p q t u x ‹_/\_›;go_wp2_with fail;obtain⟨U,W,_,_⟩:=di (gy (v1:=ah v0) (v2:=ah v1) S.out)
  exact a3 (v:=.tuple #[.agg #[ah v0,ah v1],ah cd]) (by simp[results,results136,go_sem,U,W]) rfl ⟨b,rfl,dr.set2 _ d.out.1 d.out.2.2 _ _,d.out.2.1.set2 (Nat.le_succ _) _ _⟩
theorem Jg (h:(cx bY b_ bZ rb).J F s w)(hv:fH s)(R B I n:Int)(A:Nat)(f:A<12):
 Calls prog 136 #[aj bY,dK 13 R A B I n] w fun e w'=>∃b,e=.returned (.tuple #[.agg #[ah (s.ln (s.rs.getD A (0,0))).1.1,ah (s.ln (s.rs.getD A (0,0))).1.2],ah (s.ln (s.rs.getD A (0,0))).2.1])/\(cx bY b_ bZ rb).J b (s.ln (s.rs.getD A (0,0))).2.2 w'/\b8 F w b w':=by
 obtain⟨j,g,k,x,rt,C,l⟩:=lK h 13 R A B I n;have m:=uH hv (uI h) f;have hd:aw w (f8 w 13 R A B I n).drew:=j.drew;have P:=Jd ((cx bY b_ bZ rb).below h hd) (s.rs.getD A (0,0)) m hv.tl;have i:Calls prog 208 #[aj bY,.agg #[ah (s.rs.getD A (0,0)).1,ah (s.rs.getD A (0,0)).2]] (f8 w 13 R A B I n).drew fun e c=>∃b,e=.returned (.tuple #[.agg #[ah (s.ln (s.rs.getD A (0,0))).1.1,ah (s.ln (s.rs.getD A (0,0))).1.2],ah (s.ln (s.rs.getD A (0,0))).2.1])/\
  (c.cell? (aq bY 6)=some (.slice (ak rb) 12 12)/\c.cell? (aq rb (A*2))=some (ah (s.rs.getD A (0,0)).1)/\c.cell? (aq rb (A*2+1))=some (ah (s.rs.getD A (0,0)).2)/\c.cell? (aq w.heap.size 2)=some (ah A))/\
  c.heap[w.heap.size+1]?=some (.cells #[ah 0,ah 0] 97 (0,0))/\ay ((cx bY b_ bZ rb).J b (s.ln (s.rs.getD A (0,0))).2.2 c/\b8 F w b c/\¬b (w.heap.size+1)):=by
  refine P.mono ?_;rintro e c ⟨b,rfl,D,tn⟩
  obtain⟨⟨E,o,G⟩,y1,d⟩:=oz h hd g k D tn (by rw[Ja])
  obtain⟨_,_,H,_,U,_⟩:=eu G;exact⟨b,rfl,⟨E,(o A f).1,(o A f).2,H⟩,y1,d⟩
 clear P;obtain⟨J,K⟩:=rt A f;obtain⟨q0,q1,L,q3,M,N⟩:=eu g;generalize s.ln (s.rs.getD A (0,0))=gr at*;obtain⟨⟨v0,v1⟩,cd,W⟩:=gr;dsimp only at i⊢;generalize (s.rs.getD A (0,0)).1=a0 at*;generalize (s.rs.getD A (0,0)).2=a1 at*;have X:(0:Int)<=(A:Int):=V;have Y:(A:Int)<12:=V;have nx:w.heap.size≠w.heap.size+1:=V;clear h hv j hd g k rt m q0 q1 q3 M N;go_enter func136,ntmps136;go_wp2_with fail
 go_region_held3 (fun w'=>w'.cell? (aq bY 6)=some (.slice (ak rb) 12 12)/\w'.cell? (aq rb (A*2))=some (ah a0)/\w'.cell? (aq rb (A*2+1))=some (ah a1)/\w'.cell? (aq w.heap.size 2)=some (ah A)) (first|exact⟨ff C p,ff l q,ff l t,ff nx u⟩|(go_keep;done))
  (first|(go_at_call 208;refine i.mono ?_;clear i;rintro e c ⟨b,rfl,⟨p,q,t,u⟩,y1,d⟩;obtain⟨r0,r1,ab,lw⟩:=di y1;have O:ay (_=_):=y1;clear y1 x J K L))
 all_goals
  clear p q t u ‹_/\_›;go_wp2_with fail;obtain⟨Q,S,_,_⟩:=di (gy (v1:=ah v0) (v2:=ah v1) O.out)
  exact a3 (v:=.tuple #[.agg #[ah v0,ah v1],ah cd]) (by simp[results,results136,go_sem,Q,S]) rfl ⟨b,rfl,dr.set2 _ d.out.1 d.out.2.2 _ _,d.out.2.1.set2 (Nat.le_succ _) _ _⟩
end
section
variable {bY rb:Nat}{b_ bZ:Int}{F:Nat->Prop}{s:ck}{w:ax}{g:gO}
theorem Jh (h:(cx bY b_ bZ rb).J F s w)(R A B I n:Int):
 Calls prog 136 #[aj bY,dK 1 R A B I n] w fun e w'=>e=.returned (.tuple #[.agg #[ah 1,ah n],ah 0])/\aw w w':=by
 obtain⟨c,g,d,_⟩:=lK h 1 R A B I n;have P:=q7 n (f8 w 1 R A B I n)
 obtain⟨q0,q1,j,q3,k,o⟩:=eu g;have i:ay (∀b,Below (f8 w 1 R A B I n).heap.size (f8 w 1 R A B I n) b->b.heap[w.heap.size+1]?=some (.cells #[ah 0,ah 0] 97 (0,0))/\aw w b):=fun b hb=>⟨(hb.block _ (lt_of_some d)).trans d,c.trans (hb.mono c.size)⟩
 clear h c g d q1 j q3 k;go_enter func136,ntmps136;go_wp2_with fail;refine P.mono ?_;clear P;rintro e b ⟨rfl,hb⟩
 have f:ay (_/\_):=i.out b hb;obtain⟨r0,r1,p,lw⟩:=di f.out.1;clear hb i;go_wp2_with fail;obtain⟨l,m,_,_⟩:=di (gy (v1:=ah 1) (v2:=ah n) f.out.1)
 exact a3 (v:=.tuple #[.agg #[ah 1,ah n],ah 0]) (by simp[results,results136,go_sem,l,m]) rfl ⟨rfl,(f.out.2.setCell Z _).setCell Z _⟩
theorem Ji (h:(cx bY b_ bZ rb).J F s w)(R A B I n:Int):
 Calls prog 136 #[aj bY,dK 2 R A B I n] w fun e w'=>e=.returned (.tuple #[.agg #[ah 0,ah 0],ah 0])/\aw w w':=by
 obtain⟨b,c,d,_⟩:=lK h 2 R A B I n;obtain⟨q0,q1,f,q3,g,i⟩:=eu c;have j:ay (aw w (f8 w 2 R A B I n)):=b;obtain⟨r0,r1,k,lw⟩:=di d;clear h b c d q1 f q3 g i;go_enter func136,ntmps136;go_wp2_with fail;exact a3 (v:=.tuple #[.agg #[ah 0,ah 0],ah 0]) (by simp[results,results136,go_sem]) rfl ⟨rfl,j.out⟩
theorem Jj (h:(cx bY b_ bZ rb).J F s w)(hv:fH s)(k:dR s.T s.wt (g s.T s.wt))(g0:-1000000<=bZ)(g1:bZ<=1000000)(m:-1000000<=b_)(m1:b_<=1000000)(R A B I n:Int):
 Calls prog 136 #[aj bY,dK 8 R A B I n] w fun e w'=>∃b,e=.returned (.tuple #[.agg #[ah (s.bZ g b_ bZ 5 []).1.1,ah (s.bZ g b_ bZ 5 []).1.2],ah (s.bZ g b_ bZ 5 []).2.1])/\(cx bY b_ bZ rb).J b (s.bZ g b_ bZ 5 []).2.2 w'/\b8 F w b w':=by
 obtain⟨f,i,l,_⟩:=lK h 8 R A B I n;obtain⟨q0,q1,o,q3,p,q⟩:=eu i;have j:Calls prog 206 #[aj bY,ah 5,.slice none 0 0] (f8 w 8 R A B I n) fun e c=>∃b,e=.returned (.tuple #[.agg #[ah (s.bZ g b_ bZ 5 []).1.1,ah (s.bZ g b_ bZ 5 []).1.2],ah (s.bZ g b_ bZ 5 []).2.1])/\
  c.heap[w.heap.size+1]?=some (.cells #[ah 0,ah 0] 97 (0,0))/\ay ((cx bY b_ bZ rb).J b (s.bZ g b_ bZ 5 []).2.2 c/\b8 F w b c/\¬b (w.heap.size+1)):=by
  refine(uE (g:=g) (kd:=5) (fl:=[]) (ad:=none) (cap:=0) ((cx bY b_ bZ rb).below h f) hv k g0 g1 m m1 Z ⟨fun h=>absurd h Z,aD _,fun _=>⟨rfl,rfl⟩⟩).mono ?_;rintro e c ⟨b,rfl,t,tn⟩
  obtain⟨_,y1,d⟩:=oz h f i l t tn (uF _ _ _ _ _ _)
  exact⟨b,rfl,y1,d⟩
 generalize s.bZ g b_ bZ 5 []=gr at*;obtain⟨⟨v0,v1⟩,cd,D⟩:=gr;dsimp only at j⊢;clear h hv k f i l q1 o q3 p q;go_enter func136,ntmps136;go_wp2_with fail;refine j.mono ?_;clear j;rintro e c ⟨b,rfl,y1,d⟩
 obtain⟨r0,r1,E,lw⟩:=di y1;have u:ay (_=_):=y1;clear y1;go_wp2_with fail;obtain⟨x,C,_,_⟩:=di (gy (v1:=ah v0) (v2:=ah v1) u.out)
 exact a3 (v:=.tuple #[.agg #[ah v0,ah v1],ah cd]) (by simp[results,results136,go_sem,x,C]) rfl ⟨b,rfl,dr.set2 _ d.out.1 d.out.2.2 _ _,d.out.2.1.set2 (Nat.le_succ _) _ _⟩
theorem Jm (h:(cx bY b_ bZ rb).J F s w)(R B I n:Int)(A:Nat)(b:A<12):
 Calls prog 136 #[aj bY,dK 3 R A B I n] w fun e w'=>e=.returned (.tuple #[.agg #[ah (s.rs.getD A (0,0)).1,ah (s.rs.getD A (0,0)).2],ah 0])/\aw w w':=by
 obtain⟨q,d,f,t,rt,K,L⟩:=lK h 3 R A B I n;obtain⟨u,x⟩:=rt A b;obtain⟨q0,q1,C,q3,D,E⟩:=eu d;obtain⟨g,c,i,j⟩:=jY h;have G:=(cx bY b_ bZ rb).lt h _ i;have k:=(cx bY b_ bZ rb).lt h _ j;have b2:aw w ((w.alloc (cz 3 R A B I n)).alloc (.cells #[.int .i64 (s.rs.getD A (0,0)).1,.int .i64 (s.rs.getD A (0,0)).2] 97)):=(bX.alloc bW _).alloc Z _;have m1:=(b2.cell (p:=aq bY 6) G).trans g;have l:=(b2.cell (p:=aq rb (A*2)) k).trans (c A b).1;have m:=(b2.cell (p:=aq rb (A*2+1)) k).trans (c A b).2;have o:((w.alloc (cz 3 R A B I n)).alloc (.cells #[.int .i64 (s.rs.getD A (0,0)).1,.int .i64 (s.rs.getD A (0,0)).2] 97)).cell? (aq w.heap.size 2)=some (ah A):=(eu ((aS _ _ _ Z).trans (aN w _))).2.2.1;have H:ay (aw w ((w.alloc (cz 3 R A B I n)).alloc (.cells #[.int .i64 (s.rs.getD A (0,0)).1,.int .i64 (s.rs.getD A (0,0)).2] 97)).drew):=b2.drew;have J:ay ((((w.alloc (cz 3 R A B I n)).alloc (.cells #[.int .i64 (s.rs.getD A (0,0)).1,.int .i64 (s.rs.getD A (0,0)).2] 97)).cell? (aq bY 6)=some (.slice (ak rb) 12 12))/\((w.alloc (cz 3 R A B I n)).alloc (.cells #[.int .i64 (s.rs.getD A (0,0)).1,.int .i64 (s.rs.getD A (0,0)).2] 97)).cell? (aq rb (A*2))=some (ah (s.rs.getD A (0,0)).1)/\((w.alloc (cz 3 R A B I n)).alloc (.cells #[.int .i64 (s.rs.getD A (0,0)).1,.int .i64 (s.rs.getD A (0,0)).2] 97)).cell? (aq rb (A*2+1))=some (ah (s.rs.getD A (0,0)).2)/\((w.alloc (cz 3 R A B I n)).alloc (.cells #[.int .i64 (s.rs.getD A (0,0)).1,.int .i64 (s.rs.getD A (0,0)).2] 97)).cell? (aq w.heap.size 2)=some (ah A)):=⟨m1,l,m,o⟩
 clear m1 l m o b2 g c;obtain⟨r0,r1,M,lw⟩:=di f;generalize (s.rs.getD A (0,0)).1=a0 at*;generalize (s.rs.getD A (0,0)).2=a1 at*;have N:(0:Int)<=(A:Int):=V;have O:(A:Int)<12:=V;clear h q d f rt q1 q3 D E i j;go_enter func136,ntmps136;go_wp2_with fail
 go_region_held3 (fun w'=>w'.cell? (aq bY 6)=some (.slice (ak rb) 12 12)/\w'.cell? (aq rb (A*2))=some (ah a0)/\w'.cell? (aq rb (A*2+1))=some (ah a1)/\w'.cell? (aq w.heap.size 2)=some (ah A)) (first|exact J.out|(go_keep;done)) (fail)
 all_goals
  clear t u x C ‹_/\_›;go_wp2_with fail;exact a3 (v:=.tuple #[.agg #[ah a0,ah a1],ah 0]) (by simp[results,results136,go_sem]) rfl ⟨rfl,H.out⟩
theorem Jn (h:(cx bY b_ bZ rb).J F s w)(R I n:Int)(A B:Nat)(i:A<12)(hB:B<12):
 Calls prog 136 #[aj bY,dK 14 R A B I n] w fun e w'=>e=.returned (.tuple #[.agg #[ah 1,ah (if s.rs.getD A (0,0)=s.rs.getD B (0,0) then 1 else 0)],ah 0])/\aw w w':=by
 obtain⟨c,j,l,C,rt,D,d⟩:=lK h 14 R A B I n;have m:Calls prog 209 #[.agg #[ah (s.rs.getD A (0,0)).1,ah (s.rs.getD A (0,0)).2],.agg #[ah (s.rs.getD B (0,0)).1,ah (s.rs.getD B (0,0)).2]] (f8 w 14 R A B I n).drew fun e b=>e=.returned (.agg #[ah 1,ah (if s.rs.getD A (0,0)=s.rs.getD B (0,0) then 1 else 0)])/\
  (b.cell? (aq bY 6)=some (.slice (ak rb) 12 12)/\b.cell? (aq rb (A*2))=some (ah (s.rs.getD A (0,0)).1)/\b.cell? (aq rb (A*2+1))=some (ah (s.rs.getD A (0,0)).2)/\b.cell? (aq rb (B*2))=some (ah (s.rs.getD B (0,0)).1)/\b.cell? (aq rb (B*2+1))=some (ah (s.rs.getD B (0,0)).2)/\b.cell? (aq w.heap.size 2)=some (ah A)/\b.cell? (aq w.heap.size 3)=some (ah B))/\
  ay (b.heap[w.heap.size+1]?=some (.cells #[ah 0,ah 0] 97 (0,0))/\aw w b):=by
  refine(HS _ _ _).mono ?_;rintro e b ⟨rfl,hb⟩
  obtain⟨⟨f,g,E⟩,y1,X⟩:=oz h c.drew j l ((cx bY b_ bZ rb).below ((cx bY b_ bZ rb).below h c.drew) hb) (b8.of hb) rfl;obtain⟨_,_,G,H,_,_⟩:=eu E;exact⟨rfl,⟨f,(g A i).1,(g A i).2,(g B hB).1,(g B hB).2,G,H⟩,y1,c.drew.trans (hb.mono c.drew.size)⟩
 obtain⟨J,K⟩:=rt A i;obtain⟨L,M⟩:=rt B hB;obtain⟨q0,q1,N,q3,O,P⟩:=eu j;generalize (if s.rs.getD A (0,0)=s.rs.getD B (0,0) then(1:Int) else 0)=v1 at*;generalize (s.rs.getD A (0,0)).1=a0 at*;generalize (s.rs.getD A (0,0)).2=a1 at*;generalize (s.rs.getD B (0,0)).1=Q at*;generalize (s.rs.getD B (0,0)).2=S at*;have Y:(0:Int)<=(A:Int):=V;have ab:(A:Int)<12:=V;have ad:(0:Int)<=(B:Int):=V;have ag:(B:Int)<12:=V;have nx:w.heap.size≠w.heap.size+1:=V;clear h c j l rt q1 O P;go_enter func136,ntmps136;go_wp2_with fail
 go_region_held3 (fun w'=>w'.cell? (aq bY 6)=some (.slice (ak rb) 12 12)/\w'.cell? (aq rb (A*2))=some (ah a0)/\w'.cell? (aq rb (A*2+1))=some (ah a1)/\w'.cell? (aq rb (B*2))=some (ah Q)/\w'.cell? (aq rb (B*2+1))=some (ah S)/\w'.cell? (aq w.heap.size 2)=some (ah A)/\w'.cell? (aq w.heap.size 3)=some (ah B)) (first|exact⟨ff D o,ff d p,ff d q,ff d t,ff d u,ff nx f,ff nx x⟩|(go_keep;done))
  (first|(go_at_call 209;refine m.mono ?_;clear m;rintro e b ⟨rfl,⟨o,p,q,t,u,f,x⟩,k⟩;obtain⟨r0,r1,ai,lw⟩:=di k.out.1;clear C J K L M N q3))
 all_goals
  clear o p q t u f x ‹_/\_›;go_wp2_with fail;obtain⟨U,W,_,_⟩:=di (gy (v1:=ah 1) (v2:=ah v1) k.out.1)
  exact a3 (v:=.tuple #[.agg #[ah 1,ah v1],ah 0]) (by simp[results,results136,go_sem,U,W]) rfl ⟨rfl,(k.out.2.setCell Z _).setCell Z _⟩
end
section
variable {bY rb:Nat}{b_ bZ:Int}{F:Nat->Prop}{s:ck}{w:ax}{g:gO}
theorem Jp (h:(cx bY b_ bZ rb).J F s w)(hv:fH s)(x:dR s.T s.wt (g s.T s.wt))(g0:-1000000<=bZ)(g1:bZ<=1000000)(X:-1000000<=b_)(m1:b_<=1000000)(R B I:Int)(A n:Nat)(j:A<12)(hn:n<=12):
 Calls prog 136 #[aj bY,dK 5 R A B I n] w fun e w'=>∃c,e=.returned (.tuple #[.agg #[ah (s.bZ g b_ bZ 2 (List.replicate n (s.rs.getD A (0,0)))).1.1,ah (s.bZ g b_ bZ 2 (List.replicate n (s.rs.getD A (0,0)))).1.2],ah (s.bZ g b_ bZ 2 (List.replicate n (s.rs.getD A (0,0)))).2.1])/\(cx bY b_ bZ rb).J c (s.bZ g b_ bZ 2 (List.replicate n (s.rs.getD A (0,0)))).2.2 w'/\b8 F w c w':=by
 obtain⟨C,m,o,Y,rt,ab,D⟩:=lK h 5 R A B I n;have l:(f8 w 5 R A B I n).drew.heap.size=w.heap.size+1+1:=by simp[World.drew]
 have p:Calls prog 131 #[.slice (ak (w.heap.size+1+1)) 1 1,ah n] ((f8 w 5 R A B I n).drew.alloc (.cells #[.int .i64 (s.rs.getD A (0,0)).1,.int .i64 (s.rs.getD A (0,0)).2] 97)) fun e d=>∃nb,e=.returned (.slice (ak nb) n n)/\
  (d.cell? (aq bY 6)=some (.slice (ak rb) 12 12)/\d.cell? (aq rb (A*2))=some (ah (s.rs.getD A (0,0)).1)/\d.cell? (aq rb (A*2+1))=some (ah (s.rs.getD A (0,0)).2)/\d.cell? (aq w.heap.size 2)=some (ah A)/\d.cell? (aq w.heap.size 5)=some (ah n))/\
  Calls prog 206 #[aj bY,ah 2,.slice (ak nb) n n] d fun e f=>∃c,e=.returned (.tuple #[.agg #[ah (s.bZ g b_ bZ 2 (List.replicate n (s.rs.getD A (0,0)))).1.1,ah (s.bZ g b_ bZ 2 (List.replicate n (s.rs.getD A (0,0)))).1.2],ah (s.bZ g b_ bZ 2 (List.replicate n (s.rs.getD A (0,0)))).2.1])/\
  (f.cell? (aq bY 6)=some (.slice (ak rb) 12 12)/\f.cell? (aq rb (A*2))=some (ah (s.rs.getD A (0,0)).1)/\f.cell? (aq rb (A*2+1))=some (ah (s.rs.getD A (0,0)).2)/\f.cell? (aq w.heap.size 2)=some (ah A)/\f.cell? (aq w.heap.size 5)=some (ah n))/\
  f.heap[w.heap.size+1]?=some (.cells #[ah 0,ah 0] 97 (0,0))/\ay ((cx bY b_ bZ rb).J c (s.bZ g b_ bZ 2 (List.replicate n (s.rs.getD A (0,0)))).2.2 f/\b8 F w c f/\¬c (w.heap.size+1)):=by
  have b1:aw w ((f8 w 5 R A B I n).drew.alloc (.cells #[.int .i64 (s.rs.getD A (0,0)).1,.int .i64 (s.rs.getD A (0,0)).2] 97)):=C.drew.alloc (by rw[l];omega) _;have E:=aN (f8 w 5 R A B I n).drew (.cells #[.int .i64 (s.rs.getD A (0,0)).1,.int .i64 (s.rs.getD A (0,0)).2] 97)
  rw[l] at E;obtain⟨z0,ag,_,_⟩:=di E;refine(AE _ (w.heap.size+1+1) n (s.rs.getD A (0,0)) hn z0 ag).mono ?_;rintro e d ⟨nb,rfl,bo,q,G⟩
  have b2:aw w d:=b1.trans (G.mono b1.size)
  have l0:w.heap.size+1<(f8 w 5 R A B I n).heap.size:=lt_of_some o;have H:∀b,b<w.heap.size+1+1->d.heap[b]?=(f8 w 5 R A B I n).heap[b]?:=fun b hb=>(G.block b (by simp;omega)).trans (aS (f8 w 5 R A B I n).drew _ b (by rw[l];exact hb))
  have J:=(H _ V).trans m;have y1:=(H (w.heap.size+1) V).trans o;have K:=(cx bY b_ bZ rb).below h b2;obtain⟨ai,L,_,_⟩:=jY K;obtain⟨_,_,al,_,_,am⟩:=eu J;refine⟨nb,rfl,⟨ai,(L A j).1,(L A j).2,al,am⟩,?_⟩
  have t:(List.replicate n (s.rs.getD A (0,0))).length=n:=List.length_replicate;have P:=uE (g:=g) (kd:=2) (fl:=List.replicate n (s.rs.getD A (0,0))) (ad:=ak nb) (cap:=n) K hv x g0 g1 X m1 (by rw[t];exact hn) ⟨fun _=>⟨nb,0,rfl,lt_of_some q,fun i hi=>by
   obtain⟨k1,u⟩:=nN _ i hi;constructor
   ·simp only [World.cell?,q,Nat.zero_add];simpa using k1
   ·simp only [World.cell?,q,Nat.zero_add];simpa using u⟩,by rw[t];exact aD _,fun e=>by cases e⟩
  rw[t] at P;refine P.mono ?_;rintro e f ⟨c,rfl,an,tn⟩
  obtain⟨⟨ao,M,ap⟩,ar,k⟩:=oz h b2 J y1 an tn (uF _ _ _ _ _ _)
  obtain⟨_,_,aB,_,_,aF⟩:=eu ap;exact⟨c,rfl,⟨ao,(M A j).1,(M A j).2,aB,aF⟩,ar,k⟩
 obtain⟨aR,aV⟩:=rt A j;obtain⟨q0,q1,a2,q3,bb,bd⟩:=eu m;generalize s.bZ g b_ bZ 2 (List.replicate n (s.rs.getD A (0,0)))=gr at*;obtain⟨⟨v0,v1⟩,cd,bp⟩:=gr;dsimp only at p⊢;generalize (s.rs.getD A (0,0)).1=a0 at*;generalize (s.rs.getD A (0,0)).2=a1 at*;have br:(0:Int)<=(A:Int):=V;have bs:(A:Int)<12:=V;have bt:(n:Int)<=12:=V;have nx:w.heap.size≠w.heap.size+1:=V;clear h hv x C m o rt q1 q3 bb l;go_enter func136,ntmps136;go_wp2_with fail
 go_region_held3 (fun w'=>w'.cell? (aq bY 6)=some (.slice (ak rb) 12 12)/\w'.cell? (aq rb (A*2))=some (ah a0)/\w'.cell? (aq rb (A*2+1))=some (ah a1)/\w'.cell? (aq w.heap.size 2)=some (ah A)/\w'.cell? (aq w.heap.size 5)=some (ah n)) (first|exact⟨ff ab N,ff D O,ff D Q,ff nx S,ff nx U⟩|(go_keep;done))
  (first|(go_at_call 131;refine p.mono ?_;clear p;rintro e d ⟨nb,rfl,⟨k1,u,be,bg,k5⟩,W⟩;clear Y aR aV a2 bd)|(go_at_call 206;refine W.mono ?_;clear W;rintro e f ⟨c,rfl,⟨N,O,Q,S,U⟩,y1,k⟩;obtain⟨r0,r1,bx,lw⟩:=di y1;have bi:ay (_=_):=y1;clear y1 k1 u be bg k5))
 all_goals
  clear N O Q S U ‹_/\_›;go_wp2_with fail;obtain⟨bl,bn,_,_⟩:=di (gy (v1:=ah v0) (v2:=ah v1) bi.out)
  exact a3 (v:=.tuple #[.agg #[ah v0,ah v1],ah cd]) (by simp[results,results136,go_sem,bl,bn]) rfl ⟨c,rfl,dr.set2 _ k.out.1 k.out.2.2 _ _,k.out.2.1.set2 (Nat.le_succ _) _ _⟩
end
theorem Jq {R A B n:Int}(h:dJ 5 R A B n=0):0<=n/\n<=12:=by
 have b:gR 5 n=0:=by
  unfold dJ at h;rw[aG aa] at h;split at h
  ·omega
  ·exact h
 unfold gR at b;rw[aG aa,aI rfl] at b;unfold hc at b
 ·split at b<;>omega
section
variable {bY rb:Nat}{b_ bZ:Int}{F:Nat->Prop}{s:ck}{w:ax}{g:gO}
theorem Jr (h:(cx bY b_ bZ rb).J F s w)(hv:fH s)(c:dR s.T s.wt (g s.T s.wt))(g0:-1000000<=bZ)(g1:bZ<=1000000)(d:-1000000<=b_)(m1:b_<=1000000)(k R A B I n:Int)(hk:dJ k R A B n=0)(l:k≠9)(o:k≠12)(p:k≠15)(e16:k≠16):
 Calls prog 136 #[aj bY,dK k R A B I n] w fun e w'=>∃f,e=.returned (.tuple #[.agg #[ah (s.rt g b_ bZ k A.toNat B.toNat I n).1.1,ah (s.rt g b_ bZ k A.toNat B.toNat I n).1.2],ah (s.rt g b_ bZ k A.toNat B.toNat I n).2.1])/\(cx bY b_ bZ rb).J f (s.rt g b_ bZ k A.toNat B.toNat I n).2.2 w'/\b8 F w f w':=by
 have two:∀k,c8 k=7->dJ k R A B n=0->∃a b:Nat,A=a/\B=b/\a<12/\b<12:=fun k i hc=>by
  have q:=lv hc (aJ (aJ i))
  have v:=l4 hc (aJ i)
  exact⟨A.toNat,B.toNat,V,V,V,V⟩
 have one:∀k,c8 k=3->dJ k R A B n=0->∃a:Nat,A=a/\a<12:=fun k i hc=>by
  have q:=lv hc (aK i)
  exact⟨A.toNat,V,V⟩
 have low:∀(t:(Int×Int)×Int×ck),t.2.2=s->∀(e:Ending)(w':ax),(e=.returned (.tuple #[.agg #[ah t.1.1,ah t.1.2],ah t.2.1])/\aw w w')->∃f,e=.returned (.tuple #[.agg #[ah t.1.1,ah t.1.2],ah t.2.1])/\(cx bY b_ bZ rb).J f t.2.2 w'/\b8 F w f w':=by
  rintro t u e w' ⟨rfl,hb⟩
  rw[u];exact⟨F,rfl,(cx bY b_ bZ rb).below h hb,b8.of hb⟩
 have no:(k<1\/16<k)->False:=fun j=>by unfold dJ at hk;rw[aI (o5 j)] at hk;omega
 rcases o4 k with rfl|rfl|rfl|rfl|rfl|rfl|rfl|rfl|rfl|rfl|rfl|rfl|rfl|rfl|rfl|rfl|j
 ·have e:s.rt g b_ bZ 1 A.toNat B.toNat I n=((1,n),0,s):=by simp[ck.rt]
  rw[e];exact(Jh h R A B I n).mono (low ((1,n),0,s) rfl)
 ·have e:s.rt g b_ bZ 2 A.toNat B.toNat I n=((0,0),0,s):=by simp[ck.rt]
  rw[e];exact(Ji h R A B I n).mono (low ((0,0),0,s) rfl)
 ·obtain⟨a,rfl,ha⟩:=one 3 aa hk;have e:s.rt g b_ bZ 3 (a:Int).toNat B.toNat I n=(s.rs.getD a (0,0),0,s):=by simp[ck.rt]
  rw[e];exact(Jm h R B I n a ha).mono (low (s.rs.getD a (0,0),0,s) rfl)
 ·obtain⟨a,b,rfl,rfl,ha,hb⟩:=two 4 aa hk;have e:s.rt g b_ bZ 4 (a:Int).toNat (b:Int).toNat I n=s.bZ g b_ bZ 1 [s.rs.getD a (0,0),s.rs.getD b (0,0)]:=by simp[ck.rt]
  rw[e];exact uG h hv c g0 g1 d m1 R I n (aK ⟨rfl,rfl⟩) a b ha hb
 ·obtain⟨a,rfl,ha⟩:=one 5 aa hk;have hn:=Jq hk;obtain⟨m,rfl⟩:=Int.eq_ofNat_of_zero_le hn.1;have e:s.rt g b_ bZ 5 (a:Int).toNat B.toNat I m=s.bZ g b_ bZ 2 (List.replicate m (s.rs.getD a (0,0))):=by simp[ck.rt]
  rw[e];exact Jp h hv c g0 g1 d m1 R B I a m ha V
 ·obtain⟨a,b,rfl,rfl,ha,hb⟩:=two 6 aa hk;have e:s.rt g b_ bZ 6 (a:Int).toNat (b:Int).toNat I n=s.bZ g b_ bZ 3 [s.rs.getD a (0,0),s.rs.getD b (0,0)]:=by simp[ck.rt]
  rw[e];exact uG h hv c g0 g1 d m1 R I n (aJ (aK ⟨rfl,rfl⟩)) a b ha hb
 ·obtain⟨a,b,rfl,rfl,ha,hb⟩:=two 7 aa hk;have e:s.rt g b_ bZ 7 (a:Int).toNat (b:Int).toNat I n=s.bZ g b_ bZ 4 [s.rs.getD a (0,0),s.rs.getD b (0,0)]:=by simp[ck.rt]
  rw[e];exact uG h hv c g0 g1 d m1 R I n (aJ (aJ ⟨rfl,rfl⟩)) a b ha hb
 ·have e:s.rt g b_ bZ 8 A.toNat B.toNat I n=s.bZ g b_ bZ 5 []:=by simp[ck.rt]
  rw[e];exact Jj h hv c g0 g1 d m1 R A B I n
 ·exact absurd rfl l
 ·obtain⟨a,rfl,ha⟩:=one 10 aa hk;have e:s.rt g b_ bZ 10 (a:Int).toNat B.toNat I n=s.pop (s.rs.getD a (0,0)):=by simp[ck.rt]
  rw[e];exact Je h hv R B I n a ha
 ·obtain⟨a,rfl,ha⟩:=one 11 aa hk;have e:s.rt g b_ bZ 11 (a:Int).toNat B.toNat I n=s.gt (s.rs.getD a (0,0)) I:=by simp[ck.rt,ck.gt]
  rw[e];exact Jf h hv R B I n a ha
 ·exact absurd rfl o
 ·obtain⟨a,rfl,ha⟩:=one 13 aa hk;have e:s.rt g b_ bZ 13 (a:Int).toNat B.toNat I n=s.ln (s.rs.getD a (0,0)):=by simp[ck.rt,ck.ln]
  rw[e];exact Jg h hv R B I n a ha
 ·obtain⟨a,b,rfl,rfl,ha,hb⟩:=two 14 aa hk;have e:s.rt g b_ bZ 14 (a:Int).toNat (b:Int).toNat I n=((1,if s.rs.getD a (0,0)=s.rs.getD b (0,0) then 1 else 0),0,s):=by simp[ck.rt]
  rw[e];exact(Jn h R I n a b ha hb).mono (low ((1,if s.rs.getD a (0,0)=s.rs.getD b (0,0) then 1 else 0),0,s) rfl)
 ·exact absurd rfl p
 ·exact absurd rfl e16
 ·exact(no j).elim
end
section
variable {bY rb:Nat}{b_ bZ:Int}{F:Nat->Prop}{w:ax}
theorem Jt (k R A B I n:Int)(hc:dJ k R A B n≠0):
 Calls prog 68 #[aj bY,dK k R A B I n] w fun e w'=>e=.returned (ah (dJ k R A B n))/\aw w w':=by
 have c:=jx k R A B I n (w.alloc (cz k R A B I n))
 have b:=hide (au w (cz k R A B I n))
 go_enter func68,ntmps68;go_wp2_with fail;refine c.mono ?_;rintro e w1 ⟨rfl,d⟩
 have f:=b.out.trans (d.mono b.out.size)
 go_wp2_with fail;go_ret;exact⟨rfl,f⟩
theorem AG (k R A B I n:Int)(hk:k=15\/k=16)(hc:dJ k R A B n=0)(cd:Int)(g:ck)
 (C:k=15->∀w',aw w w'->Calls prog 134 #[aj bY] w' fun e c=>∃b,e=.returned (ah cd)/\(cx bY b_ bZ rb).J b g c/\b8 F w' b c)(D:k=16->∀w',aw w w'->Calls prog 135 #[aj bY] w' fun e c=>∃b,e=.returned (ah cd)/\(cx bY b_ bZ rb).J b g c/\b8 F w' b c):
 Calls prog 68 #[aj bY,dK k R A B I n] w fun e w'=>∃s,e=.returned (ah cd)/\(cx bY b_ bZ rb).J s g w'/\b8 F w s w':=by
 have t:=au w (cz k R A B I n)
 have u:=aN w (.cells #[.int .i64 k,.int .i64 R,.int .i64 A,.int .i64 B,.int .i64 I,.int .i64 n] 44)
 have i:=jx k R A B I n (w.alloc (cz k R A B I n))
 rw[hc] at i;have v:ay (∀w1,Below (w.alloc (cz k R A B I n)).heap.size (w.alloc (cz k R A B I n)) w1->_/\w1.heap[w.heap.size]?=some (cz k R A B I n)):=fun w1 hb=>⟨t.trans (hb.mono t.size),(hb.block _ (lt_of_some u)).trans u⟩
 rcases hk with rfl|rfl
 ·have j:ay (_):=C rfl;go_enter func68,ntmps68;go_wp2_with fail;refine i.mono ?_;rintro e w1 ⟨rfl,l⟩
  obtain⟨d,m⟩:=v.out w1 l;obtain⟨q0,q1,E,q3,G,H⟩:=eu m;have P:=j.out w1 d;have o:ay (b8 F w F w1):=b8.of d;go_wp2_with fail;refine P.mono ?_;rintro e x ⟨b,rfl,p,q⟩
  have f:ay (_/\b8 F w b x):=⟨p,o.out.trans q⟩
  go_wp2_with fail;go_ret;exact⟨b,rfl,f.out.1,f.out.2⟩
 ·have j:ay (_):=D rfl;go_enter func68,ntmps68;go_wp2_with fail;refine i.mono ?_;rintro e w1 ⟨rfl,l⟩
  obtain⟨d,m⟩:=v.out w1 l;obtain⟨q0,q1,E,q3,G,H⟩:=eu m;have P:=j.out w1 d;have o:ay (b8 F w F w1):=b8.of d;go_wp2_with fail;refine P.mono ?_;rintro e x ⟨b,rfl,p,q⟩
  have f:=dq p (o.out.trans q)
  go_wp2_with fail;go_ret;exact⟨b,rfl,f.out.1,f.out.2⟩
end
end Go.Proofs.YtpkjkjhanlbcoaaGreat
