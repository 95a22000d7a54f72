import Derived.Test.YtjckpdepffejnaaGreatDoorJ19
open Array renaming size->OU
open Bool renaming false->O4
open Classical renaming byContradiction->fo
open Go renaming Calls->M,Value->a7
open Go.Ending renaming returned->Q
open Go.IntKind renaming i64->OW
open Go.Obj renaming cells->E
open Go.Proofs.Tryz renaming prog->J
open Go.RowKit renaming Below->O
open Go.Value renaming agg->bz,int->U,slice->Z,tuple->ay
open Go.World renaming alloc->bu,cell?->V,frozen?->bF,heap->G,setCell->P
open Int renaming eq_ofNat_of_zero_le->bC,toNat->K,toNat_natCast->bD
open List renaming getD->X,length->L,replicate->aZ
open Nat renaming le_succ->jl,zero_add->bW
open Option renaming none->Y,some->H
namespace Go.Proofs.YtjckpdepffejnaaGreatDoor
set_option maxRecDepth 100000
set_option maxHeartbeats 4000000
open Tryz
open Go.RowKit W Kp ch
theorem xa {P:Prop}(h:P:=by rw[e];exact LB h hv hG g0 g1 m0 m1 R I n aa a b ha hb):P:=h
section
variable {b7 rb:Nat}{ce grow:Int}{F F':Nat->Prop}{s S2:ck}{w W1 w2:az}{k R A B I n:Int}
abbrev il (w:az)(k R A B I n:Int):az:=bu (w.alloc (cA k R A B I n)) (E #[U OW 0,U OW 0] 139)
theorem m7 (h:(cG b7 ce grow rb).J F s w)(k R A B I n:Int):O (OU (G w)) w (il w k R A B I n)/\(il w k R A B I n).heap[OU (G w)]?=H (cA k R A B I n)/\(il w k R A B I n).heap[OU (G w)+1]?=H (E #[ak 0,ak 0] 139 (0,0))/\V (il w k R A B I n) (av b7 6)=H (Z (au rb) 12 12)/\
 (∀i,i<12->V (il w k R A B I n) (av rb (i*2))=H (ak (X s.rs i (0,0)).1)/\V (il w k R A B I n) (av rb (i*2+1))=H (ak (X s.rs i (0,0)).2))/\b7≠OU (G w)+1/\rb≠OU (G w)+1:=by
 have b:O (OU (G w)) w (il w k R A B I n):=(bZ.alloc bY _).alloc ac _;obtain⟨c,rt,d,e⟩:=lh ((cG b7 ce grow rb).below h b)
 have l1:=(cG b7 ce grow rb).lt h _ d;have l2:=(cG b7 ce grow rb).lt h _ e;exact⟨b,(aU _ _ _ ac).trans (aO w _),jz w _ _,c,rt,aa,aa⟩
theorem pU (h:(cG b7 ce grow rb).J F s w)(b1:O (OU (G w)) w W1)(e:W1.heap[OU (G w)]?=H (cA k R A B I n))(c:W1.heap[OU (G w)+1]?=H (E #[ak 0,ak 0] 139 (0,0)))(f:(cG b7 ce grow rb).J F' S2 w2)(tn:b9 F W1 F' w2)(g:S2.rs=s.rs):
 (V w2 (av b7 6)=H (Z (au rb) 12 12)/\(∀i,i<12->V w2 (av rb (i*2))=H (ak (X s.rs i (0,0)).1)/\V w2 (av rb (i*2+1))=H (ak (X s.rs i (0,0)).2))/\w2.heap[OU (G w)]?=H (cA k R A B I n))/\
 w2.heap[OU (G w)+1]?=H (E #[ak 0,ak 0] 139 (0,0))/\aA ((cG b7 ce grow rb).J F' S2 w2/\b9 F w F' w2/\¬F' (OU (G w)+1)):=by
 have fN:∀b,F b->_:=λb hb=>(cG b7 ce grow rb).lt h b hb;obtain⟨j,rt,_,_⟩:=lh f;rw[g] at rt;have kp:∀b,OU (G w)<=b->b<OU (G W1)->_=_:=λb m l=>tn.fr.block b l (λd=>by have:=fN b d;omega)
 refine⟨⟨j,rt,(kp _ bY (cj e)).trans e⟩,(kp _ (jl _) (cj c)).trans c,f,(b9.of b1).trans tn,λd=>?_⟩
 have l1:=cj c;rcases tn.sub _ d with d|d
 ·have:=fN _ d;omega
 ·omega
theorem xc (hv:fX s)(hl:L s.rs=12){A:Nat}(b:A<12):(X s.rs A (0,0)).1=3->0<=(X s.rs A (0,0)).2/\cz s.T (K (X s.rs A (0,0)).2):=hv.rv _ (fL aa)
theorem xd (h:(cG b7 ce grow rb).J F s w):L s.rs=12:=by obtain⟨l,h,_⟩:=h;exact h.g4.rl
def ck.gt (s:ck)(v:Int×Int)(I:Int):(Int×Int)×Int×ck:=((if s.fc v I=0 then X (X s.T (K v.2) t0).2.1 (K I) (0,0) else(0,0)),s.fc v I,s)
def ck.ln (s:ck)(v:Int×Int):(Int×Int)×Int×ck:=if lN s.T v=true then((1,(L (X s.T (K v.2) t0).2.1:Int)),0,s) else((0,0),2,s)
theorem LC (s:ck)(v:Int×Int)(I:Int):(s.gt v I).2.2=s:=rfl
theorem LD (s:ck)(v:Int×Int):(s.ln v).2.2=s:=by unfold ck.ln;split<;>rfl
theorem LF (h:(cG b7 ce grow rb).J F s w)(v:Int×Int)(i:Int)(hv:v.1=3->0<=v.2/\cz s.T (K v.2))(g:L s.T<=10000):
 M prog 204 #[aq b7,bz #[ak v.1,ak v.2],ak i] w λe w'=>∃F',e=Q (ay #[bz #[ak (s.gt v i).1.1,ak (s.gt v i).1.2],ak (s.gt v i).2.1])/\(cG b7 ce grow rb).J F' (s.gt v i).2.2 w'/\b9 F w F' w':=by
 have p:=h;obtain⟨l,h,_,_⟩:=h;have j:∀(a b c:Int),(s.gt v i).1=(a,b)->(s.gt v i).2.1=c->∀(e:Ending)(w':az),(e=Q (ay #[bz #[ak a,ak b],ak c])/\O (OU (G w)) w w')->∃F',e=Q (ay #[bz #[ak (s.gt v i).1.1,ak (s.gt v i).1.2],ak (s.gt v i).2.1])/\(cG b7 ce grow rb).J F' (s.gt v i).2.2 w'/\b9 F w F' w':=by
  rintro a b c q t e w' ⟨rfl,hb⟩
  rw[q,t,LC];exact⟨F,rfl,(cG b7 ce grow rb).below p hb,b9.of hb⟩
 by_cases k:v.1=3/\(X s.T (K v.2) t0).1≠5
 ·obtain⟨f,n⟩:=k;have hd:=k_.2 ⟨f,n⟩
  have o:=hv f;by_cases hi:i<0\/(L (X s.T (K v.2) t0).2.1:Int)<=i
  ·have d:s.fc v i=1:=by unfold ck.fc;rw[aN hd,aN hi]
   rw[f];exact(BR h v.2 i o g n hi).mono (j 0 0 1 (by unfold ck.gt;rw[d];rfl) d)
  ·have d:s.fc v i=0:=by unfold ck.fc;rw[aN hd,aJ hi]
   obtain⟨m,rfl⟩:=bC (a:=i) aa;rw[f];exact(BS h v.2 m o g n aa).mono (j _ _ 0 (by unfold ck.gt;rw[d];rfl) d)
 ·have d:s.fc v i=2:=by unfold ck.fc;rw[aJ (λc=>k (k_.1 c))]
  exact(BQ h v i hv g (λf=>fo (λc=>k ⟨f,c⟩))).mono (j 0 0 2 (by unfold ck.gt;rw[d];rfl) d)
theorem LG (h:(cG b7 ce grow rb).J F s w)(v:Int×Int)(hv:v.1=3->0<=v.2/\cz s.T (K v.2))(f:L s.T<=10000):
 M prog 211 #[aq b7,bz #[ak v.1,ak v.2]] w λe w'=>∃F',e=Q (ay #[bz #[ak (s.ln v).1.1,ak (s.ln v).1.2],ak (s.ln v).2.1])/\(cG b7 ce grow rb).J F' (s.ln v).2.2 w'/\b9 F w F' w':=by
 have g:=h;obtain⟨l,h,_,_⟩:=h;by_cases d:v.1=3/\(X s.T (K v.2) t0).1≠5
 ·obtain⟨b,i⟩:=d;have e:s.ln v=((1,(L (X s.T (K v.2) t0).2.1:Int)),0,s):=aN (k_.2 ⟨b,i⟩)
  rw[e,b];refine(J9 h v.2 (hv b) f i).mono ?_;rintro e w' ⟨rfl,hb⟩
  exact⟨F,rfl,(cG b7 ce grow rb).below g hb,b9.of hb⟩
 ·have e:s.ln v=((0,0),2,s):=aJ (λc=>d (k_.1 c))
  rw[e];refine(J8 h v hv f (λb=>fo (λc=>d ⟨b,c⟩))).mono ?_;rintro e w' ⟨rfl,hb⟩
  exact⟨F,rfl,(cG b7 ce grow rb).below g hb,b9.of hb⟩
end
section
variable {b7 rb:Nat}{ce grow:Int}{F:Nat->Prop}{s:ck}{w:az}
theorem LH (h:(cG b7 ce grow rb).J F s w)(hv:fX s)(R B I n:Int)(A:Nat)(f:A<12):
 M prog 135 #[aq b7,dJ 10 R A B I n] w λe w'=>∃b,e=Q (ay #[bz #[ak (s.pop (X s.rs A (0,0))).1.1,ak (s.pop (X s.rs A (0,0))).1.2],ak (s.pop (X s.rs A (0,0))).2.1])/\(cG b7 ce grow rb).J b (s.pop (X s.rs A (0,0))).2.2 w'/\b9 F w b w':=by
 obtain⟨i,g,j,t,rt,u,k⟩:=m7 h 10 R A B I n;have hd:=i.drew;have P:=KI ((cG b7 ce grow rb).below h hd) (X s.rs A (0,0)) (xc hv (xd h) f) hv.tl (aQ hv.wl ae)
 have x:M prog 210 #[aq b7,bz #[ak (X s.rs A (0,0)).1,ak (X s.rs A (0,0)).2]] (il w 10 R A B I n).drew λe c=>∃b,e=Q (ay #[bz #[ak (s.pop (X s.rs A (0,0))).1.1,ak (s.pop (X s.rs A (0,0))).1.2],ak (s.pop (X s.rs A (0,0))).2.1])/\
  (V c (av b7 6)=H (Z (au rb) 12 12)/\V c (av rb (A*2))=H (ak (X s.rs A (0,0)).1)/\V c (av rb (A*2+1))=H (ak (X s.rs A (0,0)).2)/\V c (av (OU (G w)) 2)=H (ak A))/\
  c.heap[OU (G w)+1]?=H (E #[ak 0,ak 0] 139 (0,0))/\aA ((cG b7 ce grow rb).J b (s.pop (X s.rs A (0,0))).2.2 c/\b9 F w b c/\¬b (OU (G w)+1)):=by
  refine P.mono ?_;rintro e c ⟨b,rfl,N,tn⟩
  obtain⟨⟨S,l,W⟩,y1,d⟩:=pU h hd g j N tn (LA _ _)
  obtain⟨_,_,ab,_,ar,_⟩:=dZ W;exact⟨b,rfl,⟨S,(l A f).1,(l A f).2,ab⟩,y1,d⟩
 obtain⟨ad,ag⟩:=rt A f;obtain⟨q0,q1,ai,q3,al,am⟩:=dZ g;generalize s.pop (X s.rs A (0,0))=gr at*;obtain⟨⟨v0,v1⟩,cd,aB⟩:=gr;generalize (X s.rs A (0,0)).1=a0 at*;generalize (X s.rs A (0,0)).2=a1 at*;have aF:(A:Int)<12:=aa;have nx:OU (G w)≠OU (G w)+1:=aa;clear h hv i hd g j rt q0 q1 q3 al am;go_enter func135,ntmps135;go_wp2_with fail
 go_region_held3 (λw'=>V w' (av b7 6)=H (Z (au rb) 12 12)/\V w' (av rb (A*2))=H (ak a0)/\V w' (av rb (A*2+1))=H (ak a1)/\V w' (av (OU (G w)) 2)=H (ak A)) (first|exact⟨fZ u m,fZ k o,fZ k p,fZ nx q⟩|(go_keep;done))
  (first|(go_at_call 210;refine x.mono ?_;rintro e c ⟨b,rfl,⟨m,o,p,q⟩,y1,d⟩;obtain⟨r0,r1,aR,lw⟩:=dt y1;have an:aA (_=_):=y1;clear y1 t ad ag ai))
 all_goals
  clear m o p q ‹_/\_›;go_wp2_with fail;obtain⟨ao,ap,_,_⟩:=dt (ib (v1:=ak v0) (v2:=ak v1) an.o)
  exact a3 (v:=ay #[bz #[ak v0,ak v1],ak cd]) (by simp[results,results135,go_sem,ao,ap]) rfl ⟨b,rfl,dr.set2 _ d.o.1 d.o.2.2 _ _,d.o.2.1.set2 (jl _) _ _⟩
theorem LJ (h:(cG b7 ce grow rb).J F s w)(hv:fX s)(R B I n:Int)(A:Nat)(f:A<12):
 M prog 135 #[aq b7,dJ 11 R A B I n] w λe w'=>∃b,e=Q (ay #[bz #[ak (s.gt (X s.rs A (0,0)) I).1.1,ak (s.gt (X s.rs A (0,0)) I).1.2],ak (s.gt (X s.rs A (0,0)) I).2.1])/\(cG b7 ce grow rb).J b (s.gt (X s.rs A (0,0)) I).2.2 w'/\b9 F w b w':=by
 obtain⟨j,g,k,N,rt,S,l⟩:=m7 h 11 R A B I n;have m:=xc hv (xd h) f;have hd:O (OU (G w)) w (il w 11 R A B I n).drew:=j.drew;have P:=LF ((cG b7 ce grow rb).below h hd) (X s.rs A (0,0)) I m hv.tl;have i:M prog 204 #[aq b7,bz #[ak (X s.rs A (0,0)).1,ak (X s.rs A (0,0)).2],ak I] (il w 11 R A B I n).drew λe c=>∃b,e=Q (ay #[bz #[ak (s.gt (X s.rs A (0,0)) I).1.1,ak (s.gt (X s.rs A (0,0)) I).1.2],ak (s.gt (X s.rs A (0,0)) I).2.1])/\
  (V c (av b7 6)=H (Z (au rb) 12 12)/\V c (av rb (A*2))=H (ak (X s.rs A (0,0)).1)/\V c (av rb (A*2+1))=H (ak (X s.rs A (0,0)).2)/\V c (av (OU (G w)) 2)=H (ak A)/\V c (av (OU (G w)) 4)=H (ak I))/\
  c.heap[OU (G w)+1]?=H (E #[ak 0,ak 0] 139 (0,0))/\aA ((cG b7 ce grow rb).J b (s.gt (X s.rs A (0,0)) I).2.2 c/\b9 F w b c/\¬b (OU (G w)+1)):=by
  refine P.mono ?_;rintro e c ⟨b,rfl,W,tn⟩
  obtain⟨⟨ab,o,ad⟩,y1,d⟩:=pU h hd g k W tn rfl;obtain⟨_,_,ag,_,ai,_⟩:=dZ ad;exact⟨b,rfl,⟨ab,(o A f).1,(o A f).2,ag,ai⟩,y1,d⟩
 clear P;obtain⟨al,am⟩:=rt A f;obtain⟨q0,q1,an,q3,ao,ap⟩:=dZ g;generalize s.gt (X s.rs A (0,0)) I=gr at*;obtain⟨⟨v0,v1⟩,cd,aR⟩:=gr;dsimp only at i⊢;generalize (X s.rs A (0,0)).1=a0 at*;generalize (X s.rs A (0,0)).2=a1 at*;have aV:(0:Int)<=(A:Int):=aa;have a2:(A:Int)<12:=aa;have nx:OU (G w)≠OU (G w)+1:=aa;clear h hv j hd g k rt m q0 q1 q3 ap;go_enter func135,ntmps135;go_wp2_with fail
 go_region_held3 (λw'=>V w' (av b7 6)=H (Z (au rb) 12 12)/\V w' (av rb (A*2))=H (ak a0)/\V w' (av rb (A*2+1))=H (ak a1)/\V w' (av (OU (G w)) 2)=H (ak A)/\V w' (av (OU (G w)) 4)=H (ak I)) (first|exact⟨fZ S p,fZ l q,fZ l t,fZ nx u,fZ nx x⟩|(go_keep;done))
  (first|(go_at_call 204;refine i.mono ?_;clear i;rintro e c ⟨b,rfl,⟨p,q,t,u,x⟩,y1,d⟩;obtain⟨r0,r1,bb,lw⟩:=dt y1;have ar:aA (_=_):=y1;clear y1 N al am an ao))
 all_goals
  clear p q t u x ‹_/\_›;go_wp2_with fail;obtain⟨aB,aF,_,_⟩:=dt (ib (v1:=ak v0) (v2:=ak v1) ar.o)
  exact a3 (v:=ay #[bz #[ak v0,ak v1],ak cd]) (by simp[results,results135,go_sem,aB,aF]) rfl ⟨b,rfl,dr.set2 _ d.o.1 d.o.2.2 _ _,d.o.2.1.set2 (jl _) _ _⟩
theorem LK (h:(cG b7 ce grow rb).J F s w)(hv:fX s)(R B I n:Int)(A:Nat)(f:A<12):
 M prog 135 #[aq b7,dJ 13 R A B I n] w λe w'=>∃b,e=Q (ay #[bz #[ak (s.ln (X s.rs A (0,0))).1.1,ak (s.ln (X s.rs A (0,0))).1.2],ak (s.ln (X s.rs A (0,0))).2.1])/\(cG b7 ce grow rb).J b (s.ln (X s.rs A (0,0))).2.2 w'/\b9 F w b w':=by
 obtain⟨i,g,j,t,rt,u,k⟩:=m7 h 13 R A B I n;have hd:=i.drew;have P:=LG ((cG b7 ce grow rb).below h hd) (X s.rs A (0,0)) (xc hv (xd h) f) hv.tl;have x:M prog 211 #[aq b7,bz #[ak (X s.rs A (0,0)).1,ak (X s.rs A (0,0)).2]] (il w 13 R A B I n).drew λe c=>∃b,e=Q (ay #[bz #[ak (s.ln (X s.rs A (0,0))).1.1,ak (s.ln (X s.rs A (0,0))).1.2],ak (s.ln (X s.rs A (0,0))).2.1])/\
  (V c (av b7 6)=H (Z (au rb) 12 12)/\V c (av rb (A*2))=H (ak (X s.rs A (0,0)).1)/\V c (av rb (A*2+1))=H (ak (X s.rs A (0,0)).2)/\V c (av (OU (G w)) 2)=H (ak A))/\
  c.heap[OU (G w)+1]?=H (E #[ak 0,ak 0] 139 (0,0))/\aA ((cG b7 ce grow rb).J b (s.ln (X s.rs A (0,0))).2.2 c/\b9 F w b c/\¬b (OU (G w)+1)):=by
  refine P.mono ?_;rintro e c ⟨b,rfl,N,tn⟩
  obtain⟨⟨S,l,W⟩,y1,d⟩:=pU h hd g j N tn (by rw[LD])
  obtain⟨_,_,ab,_,ar,_⟩:=dZ W;exact⟨b,rfl,⟨S,(l A f).1,(l A f).2,ab⟩,y1,d⟩
 obtain⟨ad,ag⟩:=rt A f;obtain⟨q0,q1,ai,q3,al,am⟩:=dZ g;generalize s.ln (X s.rs A (0,0))=gr at*;obtain⟨⟨v0,v1⟩,cd,aB⟩:=gr;generalize (X s.rs A (0,0)).1=a0 at*;generalize (X s.rs A (0,0)).2=a1 at*;have aF:(A:Int)<12:=aa;have nx:OU (G w)≠OU (G w)+1:=aa;clear h hv i hd g j rt q0 q1 q3 al am;go_enter func135,ntmps135;go_wp2_with fail
 go_region_held3 (λw'=>V w' (av b7 6)=H (Z (au rb) 12 12)/\V w' (av rb (A*2))=H (ak a0)/\V w' (av rb (A*2+1))=H (ak a1)/\V w' (av (OU (G w)) 2)=H (ak A)) (first|exact⟨fZ u m,fZ k o,fZ k p,fZ nx q⟩|(go_keep;done))
  (first|(go_at_call 211;refine x.mono ?_;rintro e c ⟨b,rfl,⟨m,o,p,q⟩,y1,d⟩;obtain⟨r0,r1,aR,lw⟩:=dt y1;have an:aA (_=_):=y1;clear y1 t ad ag ai))
 all_goals
  clear m o p q ‹_/\_›;go_wp2_with fail;obtain⟨ao,ap,_,_⟩:=dt (ib (v1:=ak v0) (v2:=ak v1) an.o)
  exact a3 (v:=ay #[bz #[ak v0,ak v1],ak cd]) (by simp[results,results135,go_sem,ao,ap]) rfl ⟨b,rfl,dr.set2 _ d.o.1 d.o.2.2 _ _,d.o.2.1.set2 (jl _) _ _⟩
end
section
variable {b7 rb:Nat}{ce grow:Int}{F:Nat->Prop}{s:ck}{w:az}{g:fM}
theorem LL (h:(cG b7 ce grow rb).J F s w)(R A B I n:Int):
 M prog 135 #[aq b7,dJ 1 R A B I n] w λe w'=>e=Q (ay #[bz #[ak 1,ak n],ak 0])/\O (OU (G w)) w w':=by
 obtain⟨d,g,f,_⟩:=m7 h 1 R A B I n;obtain⟨q0,q1,l,q3,m,o⟩:=dZ g;have i:aA (∀b,O (OU (G (il w 1 R A B I n))) (il w 1 R A B I n) b->_/\_):=λb hb=>⟨(hb.block _ (cj f)).trans f,d.trans (hb.mono d.size)⟩
 go_enter func135,ntmps135;go_wp2_with fail;refine(s7 n (il w 1 R A B I n)).mono ?_;rintro e b ⟨rfl,hb⟩
 have c:aA (_):=i.o b hb;obtain⟨r0,r1,p,lw⟩:=dt c.o.1;go_wp2_with fail;obtain⟨j,k,_,_⟩:=dt (ib (v1:=ak 1) (v2:=ak n) c.o.1)
 exact a3 (v:=ay #[bz #[ak 1,ak n],ak 0]) (by simp[results,results135,go_sem,j,k]) rfl ⟨rfl,(c.o.2.setCell ac _).setCell ac _⟩
theorem LN (h:(cG b7 ce grow rb).J F s w)(R A B I n:Int):
 M prog 135 #[aq b7,dJ 2 R A B I n] w λe w'=>e=Q (ay #[bz #[ak 0,ak 0],ak 0])/\O (OU (G w)) w w':=by
 obtain⟨b,c,d,_⟩:=m7 h 2 R A B I n;obtain⟨q0,q1,g,q3,i,j⟩:=dZ c;have f:=cg b;obtain⟨r0,r1,k,lw⟩:=dt d;go_enter func135,ntmps135;go_wp2_with fail;exact a3 (v:=ay #[bz #[ak 0,ak 0],ak 0]) (by simp[results,results135,go_sem]) rfl ⟨rfl,f.o⟩
theorem LO (h:(cG b7 ce grow rb).J F s w)(hv:fX s)(j:dS s.T s.wt (g s.T s.wt))(g0:-1000000<=grow)(g1:grow<=1000000)(k:-1000000<=ce)(m1:ce<=1000000)(R A B I n:Int):
 M prog 135 #[aq b7,dJ 8 R A B I n] w λe w'=>∃b,e=Q (ay #[bz #[ak (s.grow g ce grow 5 []).1.1,ak (s.grow g ce grow 5 []).1.2],ak (s.grow g ce grow 5 []).2.1])/\(cG b7 ce grow rb).J b (s.grow g ce grow 5 []).2.2 w'/\b9 F w b w':=by
 obtain⟨f,i,l,_⟩:=m7 h 8 R A B I n;obtain⟨q0,q1,u,q3,x,N⟩:=dZ i;have m:M prog 209 #[aq b7,ak 5,Z Y 0 0] (il w 8 R A B I n) λe c=>∃b,e=Q (ay #[bz #[ak (s.grow g ce grow 5 []).1.1,ak (s.grow g ce grow 5 []).1.2],ak (s.grow g ce grow 5 []).2.1])/\
  c.heap[OU (G w)+1]?=H (E #[ak 0,ak 0] 139 (0,0))/\aA ((cG b7 ce grow rb).J b (s.grow g ce grow 5 []).2.2 c/\b9 F w b c/\¬b (OU (G w)+1)):=by
  refine(w9 (g:=g) (kd:=5) (fl:=[]) (ad:=Y) (cap:=0) ((cG b7 ce grow rb).below h f) hv j g0 g1 k m1 ac ⟨λh=>absurd h ac,aG _,λ_=>⟨rfl,rfl⟩⟩).mono ?_;rintro e c ⟨b,rfl,o,tn⟩
  obtain⟨_,y1,d⟩:=pU h f i l o tn (w_ _ _ _ _ _ _)
  exact⟨b,rfl,y1,d⟩
 generalize s.grow g ce grow 5 []=gr at*;obtain⟨⟨v0,v1⟩,cd,S⟩:=gr;go_enter func135,ntmps135;go_wp2_with fail;refine m.mono ?_;rintro e c ⟨b,rfl,y1,d⟩
 obtain⟨r0,r1,W,lw⟩:=dt y1;have p:aA (_=_):=y1;go_wp2_with fail;obtain⟨q,t,_,_⟩:=dt (ib (v1:=ak v0) (v2:=ak v1) p.o)
 exact a3 (v:=ay #[bz #[ak v0,ak v1],ak cd]) (by simp[results,results135,go_sem,q,t]) rfl ⟨b,rfl,dr.set2 _ d.o.1 d.o.2.2 _ _,d.o.2.1.set2 (jl _) _ _⟩
theorem LP (h:(cG b7 ce grow rb).J F s w)(R B I n:Int)(A:Nat)(b:A<12):
 M prog 135 #[aq b7,dJ 3 R A B I n] w λe w'=>e=Q (ay #[bz #[ak (X s.rs A (0,0)).1,ak (X s.rs A (0,0)).2],ak 0])/\O (OU (G w)) w w':=by
 obtain⟨k,c,d,W,rt,ab,ad⟩:=m7 h 3 R A B I n;obtain⟨ag,ai⟩:=rt A b;obtain⟨q0,q1,al,q3,l,m⟩:=dZ c;obtain⟨o,f,g,i⟩:=lh h;have q:=(cG b7 ce grow rb).lt h _ g;have j:=(cG b7 ce grow rb).lt h _ i;have b2:O (OU (G w)) w (bu (w.alloc (cA 3 R A B I n)) (E #[U OW (X s.rs A (0,0)).1,U OW (X s.rs A (0,0)).2] 139)):=(bZ.alloc bY _).alloc ac _;have m1:=(b2.cell (p:=av b7 6) q).trans o;have t:=(b2.cell (p:=av rb (A*2)) j).trans (f A b).1;have u:=(b2.cell (p:=av rb (A*2+1)) j).trans (f A b).2;have x:V (bu (w.alloc (cA 3 R A B I n)) (E #[U OW (X s.rs A (0,0)).1,U OW (X s.rs A (0,0)).2] 139)) (av (OU (G w)) 2)=H (ak A):=(dZ ((aU _ _ _ ac).trans (aO w _))).2.2.1;have N:=cg b2.drew;have S:=jm m1 t u x;obtain⟨r0,r1,am,lw⟩:=dt d;generalize (X s.rs A (0,0)).1=a0 at*;generalize (X s.rs A (0,0)).2=a1 at*;have an:(0:Int)<=(A:Int):=aa;have ao:(A:Int)<12:=aa;clear h k c d rt q1 q3 l m g i;go_enter func135,ntmps135;go_wp2_with fail
 go_region_held3 (λw'=>V w' (av b7 6)=H (Z (au rb) 12 12)/\V w' (av rb (A*2))=H (ak a0)/\V w' (av rb (A*2+1))=H (ak a1)/\V w' (av (OU (G w)) 2)=H (ak A)) (first|exact S.o|(go_keep;done)) (fail)
 all_goals
  go_wp2_with fail;exact a3 (v:=ay #[bz #[ak a0,ak a1],ak 0]) (by simp[results,results135,go_sem]) rfl ⟨rfl,N.o⟩
theorem LQ (h:(cG b7 ce grow rb).J F s w)(R I n:Int)(A B:Nat)(i:A<12)(hB:B<12):
 M prog 135 #[aq b7,dJ 14 R A B I n] w λe w'=>e=Q (ay #[bz #[ak 1,ak (if X s.rs A (0,0)=X s.rs B (0,0) then 1 else 0)],ak 0])/\O (OU (G w)) w w':=by
 obtain⟨c,j,l,N,rt,S,d⟩:=m7 h 14 R A B I n;have m:M prog 212 #[bz #[ak (X s.rs A (0,0)).1,ak (X s.rs A (0,0)).2],bz #[ak (X s.rs B (0,0)).1,ak (X s.rs B (0,0)).2]] (il w 14 R A B I n).drew λe b=>e=Q (bz #[ak 1,ak (if X s.rs A (0,0)=X s.rs B (0,0) then 1 else 0)])/\
  (V b (av b7 6)=H (Z (au rb) 12 12)/\V b (av rb (A*2))=H (ak (X s.rs A (0,0)).1)/\V b (av rb (A*2+1))=H (ak (X s.rs A (0,0)).2)/\V b (av rb (B*2))=H (ak (X s.rs B (0,0)).1)/\V b (av rb (B*2+1))=H (ak (X s.rs B (0,0)).2)/\V b (av (OU (G w)) 2)=H (ak A)/\V b (av (OU (G w)) 3)=H (ak B))/\
  aA (b.heap[OU (G w)+1]?=H (E #[ak 0,ak 0] 139 (0,0))/\O (OU (G w)) w b):=by
  refine(J_ _ _ _).mono ?_;rintro e b ⟨rfl,hb⟩
  obtain⟨⟨f,g,W⟩,y1,aV⟩:=pU h c.drew j l ((cG b7 ce grow rb).below ((cG b7 ce grow rb).below h c.drew) hb) (b9.of hb) rfl;obtain⟨_,_,ab,ad,_,_⟩:=dZ W;exact⟨rfl,⟨f,(g A i).1,(g A i).2,(g B hB).1,(g B hB).2,ab,ad⟩,y1,c.drew.trans (hb.mono c.drew.size)⟩
 obtain⟨ag,ai⟩:=rt A i;obtain⟨al,am⟩:=rt B hB;obtain⟨q0,q1,an,q3,ao,ap⟩:=dZ j;generalize (if X s.rs A (0,0)=X s.rs B (0,0) then(1:Int) else 0)=v1 at*;generalize (X s.rs A (0,0)).1=a0 at*;generalize (X s.rs A (0,0)).2=a1 at*;generalize (X s.rs B (0,0)).1=ar at*;generalize (X s.rs B (0,0)).2=aB at*;have a2:(0:Int)<=(A:Int):=aa;have bb:(A:Int)<12:=aa;have bd:(0:Int)<=(B:Int):=aa;have be:(B:Int)<12:=aa;have nx:OU (G w)≠OU (G w)+1:=aa;clear h c j l rt q1 ao ap;go_enter func135,ntmps135;go_wp2_with fail
 go_region_held3 (λw'=>V w' (av b7 6)=H (Z (au rb) 12 12)/\V w' (av rb (A*2))=H (ak a0)/\V w' (av rb (A*2+1))=H (ak a1)/\V w' (av rb (B*2))=H (ak ar)/\V w' (av rb (B*2+1))=H (ak aB)/\V w' (av (OU (G w)) 2)=H (ak A)/\V w' (av (OU (G w)) 3)=H (ak B)) (first|exact⟨fZ S o,fZ d p,fZ d q,fZ d t,fZ d u,fZ nx f,fZ nx x⟩|(go_keep;done))
  (first|(go_at_call 212;refine m.mono ?_;clear m;rintro e b ⟨rfl,⟨o,p,q,t,u,f,x⟩,k⟩;obtain⟨r0,r1,bg,lw⟩:=dt k.o.1;clear N ag ai al am an q3))
 all_goals
  clear o p q t u f x ‹_/\_›;go_wp2_with fail;obtain⟨aF,aR,_,_⟩:=dt (ib (v1:=ak 1) (v2:=ak v1) k.o.1)
  exact a3 (v:=ay #[bz #[ak 1,ak v1],ak 0]) (by simp[results,results135,go_sem,aF,aR]) rfl ⟨rfl,(k.o.2.setCell ac _).setCell ac _⟩
theorem LR (h:(cG b7 ce grow rb).J F s w)(hv:fX s)(u:dS s.T s.wt (g s.T s.wt))(g0:-1000000<=grow)(g1:grow<=1000000)(aR:-1000000<=ce)(m1:ce<=1000000)(R B I:Int)(A n:Nat)(j:A<12)(hn:n<=12):
 M prog 135 #[aq b7,dJ 5 R A B I n] w λe w'=>∃c,e=Q (ay #[bz #[ak (s.grow g ce grow 2 (aZ n (X s.rs A (0,0)))).1.1,ak (s.grow g ce grow 2 (aZ n (X s.rs A (0,0)))).1.2],ak (s.grow g ce grow 2 (aZ n (X s.rs A (0,0)))).2.1])/\(cG b7 ce grow rb).J c (s.grow g ce grow 2 (aZ n (X s.rs A (0,0)))).2.2 w'/\b9 F w c w':=by
 obtain⟨x,m,o,aV,rt,a2,N⟩:=m7 h 5 R A B I n;have l:OU (G (il w 5 R A B I n).drew)=OU (G w)+1+1:=by simp[World.drew]
 have p:M prog 115 #[Z (au (OU (G w)+1+1)) 1 1,ak n] (bu (il w 5 R A B I n).drew (E #[U OW (X s.rs A (0,0)).1,U OW (X s.rs A (0,0)).2] 139)) λe d=>∃nb,e=Q (Z (au nb) n n)/\
  (V d (av b7 6)=H (Z (au rb) 12 12)/\V d (av rb (A*2))=H (ak (X s.rs A (0,0)).1)/\V d (av rb (A*2+1))=H (ak (X s.rs A (0,0)).2)/\V d (av (OU (G w)) 2)=H (ak A)/\V d (av (OU (G w)) 5)=H (ak n))/\
  M prog 209 #[aq b7,ak 2,Z (au nb) n n] d λe f=>∃c,e=Q (ay #[bz #[ak (s.grow g ce grow 2 (aZ n (X s.rs A (0,0)))).1.1,ak (s.grow g ce grow 2 (aZ n (X s.rs A (0,0)))).1.2],ak (s.grow g ce grow 2 (aZ n (X s.rs A (0,0)))).2.1])/\
  (V f (av b7 6)=H (Z (au rb) 12 12)/\V f (av rb (A*2))=H (ak (X s.rs A (0,0)).1)/\V f (av rb (A*2+1))=H (ak (X s.rs A (0,0)).2)/\V f (av (OU (G w)) 2)=H (ak A)/\V f (av (OU (G w)) 5)=H (ak n))/\
  f.heap[OU (G w)+1]?=H (E #[ak 0,ak 0] 139 (0,0))/\aA ((cG b7 ce grow rb).J c (s.grow g ce grow 2 (aZ n (X s.rs A (0,0)))).2.2 f/\b9 F w c f/\¬c (OU (G w)+1)):=by
  have b1:O (OU (G w)) w (bu (il w 5 R A B I n).drew (E #[U OW (X s.rs A (0,0)).1,U OW (X s.rs A (0,0)).2] 139)):=x.drew.alloc (by rw[l];omega) _;have S:=aO (il w 5 R A B I n).drew (E #[U OW (X s.rs A (0,0)).1,U OW (X s.rs A (0,0)).2] 139)
  rw[l] at S;obtain⟨z0,bb,_,_⟩:=dt S;refine(Cx _ (OU (G w)+1+1) n (X s.rs A (0,0)) hn z0 bb).mono ?_;rintro e d ⟨nb,rfl,b8,q,W⟩
  have b2:O (OU (G w)) w d:=b1.trans (W.mono b1.size)
  have l0:OU (G w)+1<OU (G (il w 5 R A B I n)):=cj o;have ab:∀b,b<OU (G w)+1+1->d.heap[b]?=(il w 5 R A B I n).heap[b]?:=λb hb=>(W.block b (by simp;omega)).trans (aU (il w 5 R A B I n).drew _ b (by rw[l];exact hb))
  have ag:=(ab _ aa).trans m;have y1:=(ab (OU (G w)+1) aa).trans o;have ai:=(cG b7 ce grow rb).below h b2;obtain⟨bd,al,_,_⟩:=lh ai;obtain⟨_,_,be,_,_,bg⟩:=dZ ag;refine⟨nb,rfl,⟨bd,(al A j).1,(al A j).2,be,bg⟩,?_⟩
  have t:L (aZ n (X s.rs A (0,0)))=n:=List.length_replicate;have P:=w9 (g:=g) (kd:=2) (fl:=aZ n (X s.rs A (0,0))) (ad:=au nb) (cap:=n) ai hv u g0 g1 aR m1 (by rw[t];exact hn) ⟨λ_=>⟨nb,0,rfl,cj q,λi hi=>by
   obtain⟨k1,k2⟩:=o9 _ i hi;constructor
   ·simp only [World.cell?,q,bW];simpa using k1
   ·simp only [World.cell?,q,bW];simpa using k2⟩,by rw[t];exact aG _,λe=>by cases e⟩
  rw[t] at P;refine P.mono ?_;rintro e f ⟨c,rfl,bi,tn⟩
  obtain⟨⟨bl,am,bn⟩,bo,k⟩:=pU h b2 ag y1 bi tn (w_ _ _ _ _ _ _)
  obtain⟨_,_,bp,_,_,br⟩:=dZ bn;exact⟨c,rfl,⟨bl,(am A j).1,(am A j).2,bp,br⟩,bo,k⟩
 obtain⟨bs,bt⟩:=rt A j;obtain⟨q0,q1,bx,q3,b0,b3⟩:=dZ m;generalize s.grow g ce grow 2 (aZ n (X s.rs A (0,0)))=gr at*;obtain⟨⟨v0,v1⟩,cd,ca⟩:=gr;dsimp only at p⊢;generalize (X s.rs A (0,0)).1=a0 at*;generalize (X s.rs A (0,0)).2=a1 at*;have cb:(0:Int)<=(A:Int):=aa;have cc:(A:Int)<12:=aa;have cf:(n:Int)<=12:=aa;have nx:OU (G w)≠OU (G w)+1:=aa;clear h hv u x m o rt q1 q3 b0 l;go_enter func135,ntmps135;go_wp2_with fail
 go_region_held3 (λw'=>V w' (av b7 6)=H (Z (au rb) 12 12)/\V w' (av rb (A*2))=H (ak a0)/\V w' (av rb (A*2+1))=H (ak a1)/\V w' (av (OU (G w)) 2)=H (ak A)/\V w' (av (OU (G w)) 5)=H (ak n)) (first|exact⟨fZ a2 an,fZ N ao,fZ N ap,fZ nx ar,fZ nx aB⟩|(go_keep;done))
  (first|(go_at_call 115;refine p.mono ?_;clear p;rintro e d ⟨nb,rfl,⟨k1,k2,k3,k4,k5⟩,aF⟩;clear aV bs bt bx b3)|(go_at_call 209;refine aF.mono ?_;clear aF;rintro e f ⟨c,rfl,⟨an,ao,ap,ar,aB⟩,y1,k⟩;obtain⟨r0,r1,cg,lw⟩:=dt y1;have b4:aA (_=_):=y1;clear y1 k1 k2 k3 k4 k5))
 all_goals
  clear an ao ap ar aB ‹_/\_›;go_wp2_with fail;obtain⟨b5,b6,_,_⟩:=dt (ib (v1:=ak v0) (v2:=ak v1) b4.o)
  exact a3 (v:=ay #[bz #[ak v0,ak v1],ak cd]) (by simp[results,results135,go_sem,b5,b6]) rfl ⟨c,rfl,dr.set2 _ k.o.1 k.o.2.2 _ _,k.o.2.1.set2 (jl _) _ _⟩
end
theorem LS {R A B n:Int}(h:dY 5 R A B n=0):0<=n/\n<=12:=by grind [iS,dY,hc]
section
variable {b7 rb:Nat}{ce grow:Int}{F:Nat->Prop}{s:ck}{w:az}{g:fM}
theorem LU (h:(cG b7 ce grow rb).J F s w)(hv:fX s)(hG:dS s.T s.wt (g s.T s.wt))(g0:-1000000<=grow)(g1:grow<=1000000)(m0:-1000000<=ce)(m1:ce<=1000000)(k R A B I n:Int)(hk:dY k R A B n=0)(f:k≠9)(i:k≠12)(j:k≠15)(e16:k≠16):
 M prog 135 #[aq b7,dJ k R A B I n] w λe w'=>∃c,e=Q (ay #[bz #[ak (s.rt g ce grow k (K A) (K B) I n).1.1,ak (s.rt g ce grow k (K A) (K B) I n).1.2],ak (s.rt g ce grow k (K A) (K B) I n).2.1])/\(cG b7 ce grow rb).J c (s.rt g ce grow k (K A) (K B) I n).2.2 w'/\b9 F w c w':=by
 have two:∀k,cS k=7->dY k R A B n=0->∃a b:Nat,A=a/\B=b/\a<12/\b<12:=λk l hc=>by have o:=mS hc aa;have q:=nt hc aa;exact⟨K A,K B,aa,aa,aa,aa⟩
 have one:∀k,cS k=3->dY k R A B n=0->∃a:Nat,A=a/\a<12:=λk l hc=>by have o:=mS hc aa;exact⟨K A,aa,aa⟩
 have low:∀(t:(Int×Int)×Int×ck),t.2.2=s->∀(e:Ending)(w':az),(e=Q (ay #[bz #[ak t.1.1,ak t.1.2],ak t.2.1])/\O (OU (G w)) w w')->∃c,e=Q (ay #[bz #[ak t.1.1,ak t.1.2],ak t.2.1])/\(cG b7 ce grow rb).J c t.2.2 w'/\b9 F w c w':=by
  rintro t p e w' ⟨rfl,hb⟩
  rw[p];exact⟨F,rfl,(cG b7 ce grow rb).below h hb,b9.of hb⟩
 have no:(k<1\/16<k)->False:=λd=>by grind [qE,dY]
 rcases qD k with rfl|rfl|rfl|rfl|rfl|rfl|rfl|rfl|rfl|rfl|rfl|rfl|rfl|rfl|rfl|rfl|d
 ·have e:s.rt g ce grow 1 (K A) (K B) I n=((1,n),0,s):=af;rw[e];exact(LL h R A B I n).mono (low ((1,n),0,s) rfl)
 ·have e:s.rt g ce grow 2 (K A) (K B) I n=((0,0),0,s):=af;rw[e];exact(LN h R A B I n).mono (low ((0,0),0,s) rfl)
 ·obtain⟨a,rfl,ha⟩:=one 3 ae hk;have e:s.rt g ce grow 3 (K (a:Int)) (K B) I n=(X s.rs a (0,0),0,s):=af;rw[e];exact(LP h R B I n a ha).mono (low (X s.rs a (0,0),0,s) rfl)
 ·obtain⟨a,b,rfl,rfl,ha,hb⟩:=two 4 ae hk;have e:s.rt g ce grow 4 (K (a:Int)) (K (b:Int)) I n=s.grow g ce grow 1 [X s.rs a (0,0),X s.rs b (0,0)]:=af;exact xa
 ·obtain⟨a,rfl,ha⟩:=one 5 ae hk;have hn:=LS hk;obtain⟨m,rfl⟩:=bC hn.1;have e:s.rt g ce grow 5 (K (a:Int)) (K B) I m=s.grow g ce grow 2 (aZ m (X s.rs a (0,0))):=af;rw[e];exact LR h hv hG g0 g1 m0 m1 R B I a m ha aa
 ·obtain⟨a,b,rfl,rfl,ha,hb⟩:=two 6 ae hk;have e:s.rt g ce grow 6 (K (a:Int)) (K (b:Int)) I n=s.grow g ce grow 3 [X s.rs a (0,0),X s.rs b (0,0)]:=af;exact xa
 ·obtain⟨a,b,rfl,rfl,ha,hb⟩:=two 7 ae hk;have e:s.rt g ce grow 7 (K (a:Int)) (K (b:Int)) I n=s.grow g ce grow 4 [X s.rs a (0,0),X s.rs b (0,0)]:=af;exact xa
 ·have e:s.rt g ce grow 8 (K A) (K B) I n=s.grow g ce grow 5 []:=af;rw[e];exact LO h hv hG g0 g1 m0 m1 R A B I n
 ·exact absurd rfl f
 ·obtain⟨a,rfl,ha⟩:=one 10 ae hk;have e:s.rt g ce grow 10 (K (a:Int)) (K B) I n=s.pop (X s.rs a (0,0)):=af;rw[e];exact LH h hv R B I n a ha
 ·obtain⟨a,rfl,ha⟩:=one 11 ae hk;have e:s.rt g ce grow 11 (K (a:Int)) (K B) I n=s.gt (X s.rs a (0,0)) I:=af;rw[e];exact LJ h hv R B I n a ha
 ·exact absurd rfl i
 ·obtain⟨a,rfl,ha⟩:=one 13 ae hk;have e:s.rt g ce grow 13 (K (a:Int)) (K B) I n=s.ln (X s.rs a (0,0)):=af;rw[e];exact LK h hv R B I n a ha
 ·obtain⟨a,b,rfl,rfl,ha,hb⟩:=two 14 ae hk;have e:s.rt g ce grow 14 (K (a:Int)) (K (b:Int)) I n=((1,if X s.rs a (0,0)=X s.rs b (0,0) then 1 else 0),0,s):=af;rw[e];exact(LQ h R I n a b ha hb).mono (low ((1,if X s.rs a (0,0)=X s.rs b (0,0) then 1 else 0),0,s) rfl)
 ·exact absurd rfl j
 ·exact absurd rfl e16
 ·exact(no d).elim
end
section
variable {b7 rb:Nat}{ce grow:Int}{F:Nat->Prop}{w:az}
theorem LV (k R A B I n:Int)(hc:dY k R A B n≠0):
 M J 94 #[aq b7,dJ k R A B I n] w λe w'=>e=Q (ak (dY k R A B n))/\O (OU (G w)) w w':=by
 have c:=ky k R A B I n (w.alloc (cA k R A B I n))
 have b:=cg (aw w (cA k R A B I n))
 go_enter func94,ntmps94;go_wp2_with fail;refine c.mono ?_;rintro e w1 ⟨rfl,d⟩
 have f:=b.o.trans (d.mono b.o.size)
 go_wp2_with fail;go_ret;exact⟨rfl,f⟩
theorem Cz (k R A B I n:Int)(hk:k=15\/k=16)(hc:dY k R A B n=0)(cd:Int)(d:ck)
 (v:k=15->∀w',O (OU (G w)) w w'->M prog 133 #[aq b7] w' λe b=>∃F2,e=Q (ak cd)/\(cG b7 ce grow rb).J F2 d b/\b9 F w' F2 b)(x:k=16->∀w',O (OU (G w)) w w'->M prog 134 #[aq b7] w' λe b=>∃F2,e=Q (ak cd)/\(cG b7 ce grow rb).J F2 d b/\b9 F w' F2 b):
 M prog 94 #[aq b7,dJ k R A B I n] w λe w'=>∃p,e=Q (ak cd)/\(cG b7 ce grow rb).J p d w'/\b9 F w p w':=by
 have q:=aw w (cA k R A B I n)
 have s:=aO w (E #[U OW k,U OW R,U OW A,U OW B,U OW I,U OW n] 105)
 have f:=ky k R A B I n (w.alloc (cA k R A B I n))
 rw[hc] at f;have t:aA (∀w1,O (OU (G (w.alloc (cA k R A B I n)))) (w.alloc (cA k R A B I n)) w1->_/\w1.heap[OU (G w)]?=H (cA k R A B I n)):=λw1 hb=>⟨q.trans (hb.mono q.size),(hb.block _ (cj s)).trans s⟩
 rcases hk with rfl|rfl
 ·have g:aA (_):=v rfl;go_enter func94,ntmps94;go_wp2_with fail;refine f.mono ?_;rintro e w1 ⟨rfl,i⟩
  obtain⟨c,j⟩:=t.o w1 i;obtain⟨q0,q1,N,q3,S,W⟩:=dZ j;have P:=g.o w1 c;have l:aA (b9 F w F w1):=b9.of c;go_wp2_with fail;refine P.mono ?_;rintro e u ⟨F2,rfl,m,o⟩
  have HF:aA (_/\b9 F w F2 u):=⟨m,l.o.trans o⟩
  exact oF
 ·have g:aA (_):=x rfl;go_enter func94,ntmps94;go_wp2_with fail;refine f.mono ?_;rintro e w1 ⟨rfl,i⟩
  obtain⟨c,j⟩:=t.o w1 i;obtain⟨q0,q1,N,q3,S,W⟩:=dZ j;have P:=g.o w1 c;have l:aA (b9 F w F w1):=b9.of c;go_wp2_with fail;refine P.mono ?_;rintro e u ⟨F2,rfl,m,o⟩
  have HF:=cU m (l.o.trans o)
  exact oF
end
section
variable {b7 rb:Nat}{ce grow:Int}{F:Nat->Prop}{s:ck}{w:az}
theorem LW (h:(cG b7 ce grow rb).J F s w)(R I n:Int)(A B:Nat)(j:A<12)(hB:B<12)(hc:dY 9 R A B n=0)(cd:Int)(k:ck)(t:k.rs=s.rs)
 (u:∀w',O (OU (G w)) w w'->M prog 131 #[aq b7,bz #[ak (X s.rs A (0,0)).1,ak (X s.rs A (0,0)).2],bz #[ak (X s.rs B (0,0)).1,ak (X s.rs B (0,0)).2]] w' λe v=>∃f,e=Q (ak cd)/\(cG b7 ce grow rb).J f k v/\b9 F w' f v):
 M prog 94 #[aq b7,dJ 9 R A B I n] w λe w'=>∃x,e=Q (ak cd)/\(cG b7 ce grow rb).J x k w'/\b9 F w x w':=by
 have m:=aw w (cA 9 R A B I n)
 have o:=aO w (E #[U OW 9,U OW R,U OW (A:Int),U OW (B:Int),U OW I,U OW n] 105)
 have p:=ky 9 R A B I n (w.alloc (cA 9 R A B I n))
 rw[hc] at p;have fN:∀b,F b->b<OU (G w):=λb hb=>(cG b7 ce grow rb).lt h b hb;have N:aA (∀w1,O (OU (G (w.alloc (cA 9 R A B I n)))) (w.alloc (cA 9 R A B I n)) w1->(V w1 (av b7 6)=H (Z (au rb) 12 12)/\V w1 (av rb (A*2))=H (ak (X s.rs A (0,0)).1)/\V w1 (av rb (A*2+1))=H (ak (X s.rs A (0,0)).2)/\V w1 (av rb (B*2))=H (ak (X s.rs B (0,0)).1)/\V w1 (av rb (B*2+1))=H (ak (X s.rs B (0,0)).2)/\w1.heap[OU (G w)]?=H (cA 9 R A B I n))/\
  M prog 131 #[aq b7,bz #[ak (X s.rs A (0,0)).1,ak (X s.rs A (0,0)).2],bz #[ak (X s.rs B (0,0)).1,ak (X s.rs B (0,0)).2]] w1.drew λe c=>∃f,e=Q (ak cd)/\(V c (av b7 6)=H (Z (au rb) 12 12)/\V c (av rb (A*2))=H (ak (X s.rs A (0,0)).1)/\V c (av rb (A*2+1))=H (ak (X s.rs A (0,0)).2)/\V c (av rb (B*2))=H (ak (X s.rs B (0,0)).1)/\V c (av rb (B*2+1))=H (ak (X s.rs B (0,0)).2)/\V c (av (OU (G w)) 2)=H (ak A)/\V c (av (OU (G w)) 3)=H (ak B))/\aA ((cG b7 ce grow rb).J f k c/\b9 F w f c)):=λw1 hb=>by
  have q:O (OU (G w)) w w1:=m.trans (hb.mono m.size)
  have g:=(hb.block _ (cj o)).trans o;obtain⟨ap,rt,_,_⟩:=lh ((cG b7 ce grow rb).below h q)
  refine⟨⟨ap,(rt A j).1,(rt A j).2,(rt B hB).1,(rt B hB).2,g⟩,(u w1.drew q.drew).mono ?_⟩
  rintro e c ⟨f,rfl,S,tn⟩
  obtain⟨l,i,_,_⟩:=lh S;rw[t] at i;have ar:=(tn.fr.block (OU (G w)) (cj g) (λd=>by have:=fN _ d;omega)).trans g;obtain⟨_,_,aB,aF,be,_⟩:=dZ ar;exact⟨f,rfl,⟨l,(i A j).1,(i A j).2,(i B hB).1,(i B hB).2,aB,aF⟩,S,(b9.of q.drew).trans tn⟩
 generalize (X s.rs A (0,0)).1=a0 at*;generalize (X s.rs A (0,0)).2=a1 at*;generalize (X s.rs B (0,0)).1=aR at*;generalize (X s.rs B (0,0)).2=aV at*;have bg:(0:Int)<=(A:Int):=aa;have bi:(A:Int)<12:=aa;have bl:(0:Int)<=(B:Int):=aa;have bn:(B:Int)<12:=aa;clear h m o hc fN u t;go_enter func94,ntmps94;go_wp2_with fail;refine p.mono ?_;clear p;rintro e w1 ⟨rfl,W⟩
 obtain⟨⟨k1,k2,k3,k4,k5,g⟩,ab⟩:=N.o w1 W;obtain⟨q0,q1,a2,q3,bb,bd⟩:=dZ g;clear W g N q1 bd bb;go_wp2_with fail
 go_region_held3 (λw'=>V w' (av b7 6)=H (Z (au rb) 12 12)/\V w' (av rb (A*2))=H (ak a0)/\V w' (av rb (A*2+1))=H (ak a1)/\V w' (av rb (B*2))=H (ak aR)/\V w' (av rb (B*2+1))=H (ak aV)/\V w' (av (OU (G w)) 2)=H (ak A)/\V w' (av (OU (G w)) 3)=H (ak B)) (first|exact⟨ad,ag,ai,al,am,l,an⟩|(go_keep;done))
  (first|(go_at_call 131;refine ab.mono ?_;clear ab;rintro e c ⟨f,rfl,⟨ad,ag,ai,al,am,l,an⟩,ao⟩;clear k1 k2 k3 k4 k5 a2 q3))
 all_goals
  clear ad ag ai al am l an ‹_/\_›;go_wp2_with fail;go_ret;exact⟨f,rfl,ao.o.1,ao.o.2⟩
theorem LX (h:(cG b7 ce grow rb).J F s w)(R I n:Int)(A B:Nat)(j:A<12)(hB:B<12)(hc:dY 12 R A B n=0)(cd:Int)(k:ck)(t:k.rs=s.rs)
 (u:∀w',O (OU (G w)) w w'->M prog 132 #[aq b7,bz #[ak (X s.rs A (0,0)).1,ak (X s.rs A (0,0)).2],ak I,bz #[ak (X s.rs B (0,0)).1,ak (X s.rs B (0,0)).2]] w' λe v=>∃f,e=Q (ak cd)/\(cG b7 ce grow rb).J f k v/\b9 F w' f v):
 M prog 94 #[aq b7,dJ 12 R A B I n] w λe w'=>∃x,e=Q (ak cd)/\(cG b7 ce grow rb).J x k w'/\b9 F w x w':=by
 have m:=aw w (cA 12 R A B I n)
 have o:=aO w (E #[U OW 12,U OW R,U OW (A:Int),U OW (B:Int),U OW I,U OW n] 105)
 have p:=ky 12 R A B I n (w.alloc (cA 12 R A B I n))
 rw[hc] at p;have fN:∀b,F b->b<OU (G w):=λb hb=>(cG b7 ce grow rb).lt h b hb;have N:aA (∀w1,O (OU (G (w.alloc (cA 12 R A B I n)))) (w.alloc (cA 12 R A B I n)) w1->(V w1 (av b7 6)=H (Z (au rb) 12 12)/\V w1 (av rb (A*2))=H (ak (X s.rs A (0,0)).1)/\V w1 (av rb (A*2+1))=H (ak (X s.rs A (0,0)).2)/\V w1 (av rb (B*2))=H (ak (X s.rs B (0,0)).1)/\V w1 (av rb (B*2+1))=H (ak (X s.rs B (0,0)).2)/\w1.heap[OU (G w)]?=H (cA 12 R A B I n))/\
  M prog 132 #[aq b7,bz #[ak (X s.rs A (0,0)).1,ak (X s.rs A (0,0)).2],ak I,bz #[ak (X s.rs B (0,0)).1,ak (X s.rs B (0,0)).2]] w1.drew λe c=>∃f,e=Q (ak cd)/\(V c (av b7 6)=H (Z (au rb) 12 12)/\V c (av rb (A*2))=H (ak (X s.rs A (0,0)).1)/\V c (av rb (A*2+1))=H (ak (X s.rs A (0,0)).2)/\V c (av rb (B*2))=H (ak (X s.rs B (0,0)).1)/\V c (av rb (B*2+1))=H (ak (X s.rs B (0,0)).2)/\V c (av (OU (G w)) 2)=H (ak A)/\V c (av (OU (G w)) 3)=H (ak B)/\V c (av (OU (G w)) 4)=H (ak I))/\aA ((cG b7 ce grow rb).J f k c/\b9 F w f c)):=λw1 hb=>by
  have q:O (OU (G w)) w w1:=m.trans (hb.mono m.size)
  have g:=(hb.block _ (cj o)).trans o;obtain⟨ar,rt,_,_⟩:=lh ((cG b7 ce grow rb).below h q)
  refine⟨⟨ar,(rt A j).1,(rt A j).2,(rt B hB).1,(rt B hB).2,g⟩,(u w1.drew q.drew).mono ?_⟩
  rintro e c ⟨f,rfl,S,tn⟩
  obtain⟨l,i,_,_⟩:=lh S;rw[t] at i;have aB:=(tn.fr.block (OU (G w)) (cj g) (λd=>by have:=fN _ d;omega)).trans g;obtain⟨_,_,aF,aR,aV,_⟩:=dZ aB;exact⟨f,rfl,⟨l,(i A j).1,(i A j).2,(i B hB).1,(i B hB).2,aF,aR,aV⟩,S,(b9.of q.drew).trans tn⟩
 generalize (X s.rs A (0,0)).1=a0 at*;generalize (X s.rs A (0,0)).2=a1 at*;generalize (X s.rs B (0,0)).1=a2 at*;generalize (X s.rs B (0,0)).2=bb at*;have bi:(0:Int)<=(A:Int):=aa;have bl:(A:Int)<12:=aa;have bn:(0:Int)<=(B:Int):=aa;have bo:(B:Int)<12:=aa;clear h m o hc fN u t;go_enter func94,ntmps94;go_wp2_with fail;refine p.mono ?_;clear p;rintro e w1 ⟨rfl,W⟩
 obtain⟨⟨k1,k2,k3,k4,k5,g⟩,ab⟩:=N.o w1 W;obtain⟨q0,q1,bd,q3,be,bg⟩:=dZ g;clear W g N q1 bg;go_wp2_with fail
 go_region_held3 (λw'=>V w' (av b7 6)=H (Z (au rb) 12 12)/\V w' (av rb (A*2))=H (ak a0)/\V w' (av rb (A*2+1))=H (ak a1)/\V w' (av rb (B*2))=H (ak a2)/\V w' (av rb (B*2+1))=H (ak bb)/\V w' (av (OU (G w)) 2)=H (ak A)/\V w' (av (OU (G w)) 3)=H (ak B)/\V w' (av (OU (G w)) 4)=H (ak I)) (first|exact⟨ad,ag,ai,al,am,l,an,ao⟩|(go_keep;done))
  (first|(go_at_call 132;refine ab.mono ?_;clear ab;rintro e c ⟨f,rfl,⟨ad,ag,ai,al,am,l,an,ao⟩,ap⟩;clear k1 k2 k3 k4 k5 bd q3 be))
 all_goals
  clear ad ag ai al am l an ao ‹_/\_›;go_wp2_with fail;go_ret;exact⟨f,rfl,ap.o.1,ap.o.2⟩
end
section
variable {b7 rb:Nat}{ce grow:Int}{F:Nat->Prop}{w:az}
theorem LY (k R A B I n:Int)(hc:dY k R A B n=0)(k1:k≠9)(k2:k≠12)(k3:k≠15)(k4:k≠16)(v:Int×Int)(cd:Int)(N:cd≠0)(d:ck)
 (q:∀w',O (OU (G w)) w w'->M prog 135 #[aq b7,dJ k R A B I n] w' λe f=>∃b,e=Q (ay #[bz #[ak v.1,ak v.2],ak cd])/\(cG b7 ce grow rb).J b d f/\b9 F w' b f):
 M prog 94 #[aq b7,dJ k R A B I n] w λe w'=>∃g,e=Q (ak cd)/\(cG b7 ce grow rb).J g d w'/\b9 F w g w':=by
 obtain⟨v0,v1⟩:=v;have i:=aw w (cA k R A B I n)
 have j:=aO w (E #[U OW k,U OW R,U OW A,U OW B,U OW I,U OW n] 105)
 have l:=ky k R A B I n (w.alloc (cA k R A B I n))
 rw[hc] at l;have s:aA (∀w1,O (OU (G (w.alloc (cA k R A B I n)))) (w.alloc (cA k R A B I n)) w1->w1.heap[OU (G w)]?=H (cA k R A B I n)/\M prog 135 #[aq b7,dJ k R A B I n] w1 λe c=>∃b,e=Q (ay #[bz #[ak v0,ak v1],ak cd])/\aA ((cG b7 ce grow rb).J b d c/\b9 F w b c)):=λw1 hb=>by
  have m:O (OU (G w)) w w1:=i.trans (hb.mono i.size)
  refine⟨(hb.block _ (cj j)).trans j,(q w1 m).mono ?_⟩
  rintro e c ⟨b,rfl,t,tn⟩
  exact⟨b,rfl,t,(b9.of m).trans tn⟩
 go_enter func94,ntmps94;go_wp2_with fail;refine l.mono ?_;rintro e w1 ⟨rfl,u⟩
 obtain⟨x,P⟩:=s.o w1 u;obtain⟨q0,q1,S,q3,W,ab⟩:=dZ x;go_wp2_with fail;refine P.mono ?_;rintro e c ⟨b,rfl,o⟩
 have p:aA ((cG b7 ce grow rb).J b d (bu c (E #[U OW v0,U OW v1] 139))/\b9 F w b (bu c (E #[U OW v0,U OW v1] 139))):=⟨(cG b7 ce grow rb).below o.o.1 (bZ.alloc bY _),o.o.2.below (bZ.alloc bY _)⟩
 go_wp2_with fail;go_ret;exact⟨b,rfl,p.o.1,p.o.2⟩
end
section
variable {b7 rb:Nat}{ce grow:Int}{F:Nat->Prop}{s:ck}{w:az}
theorem LZ (h:(cG b7 ce grow rb).J F s w){R:Nat}(v:Int×Int):
 (cG b7 ce grow rb).J F {s with rs:=s.rs.set R v} (P (P w ⟨rb,R*2,Y⟩ (U OW v.1)) ⟨rb,R*2+1,Y⟩ (U OW v.2))/\b9 F w F (P (P w ⟨rb,R*2,Y⟩ (U OW v.1)) ⟨rb,R*2+1,Y⟩ (U OW v.2)):=by
 obtain⟨l,h,rfl,c⟩:=h;have fr:Fr (λk=>k=l.rb) w (P (P w ⟨l.rb,R*2,Y⟩ (U OW v.1)) ⟨l.rb,R*2+1,Y⟩ (U OW v.2)):=(by grind [Fr.set,Fr.refl])
 have hk:∀b,l.own b≠0->l.own b≠4->_=_:=λb h0 d=>fr.block b (h.lt b h0) (λe=>d (by rw[e];exact h.g4.ro))
 refine⟨⟨l,?_,rfl,c⟩,fr.mono (λb e=>by rw[e];exact(c _).2 (by rw[h.g4.ro];decide)),λb hb=>(by grind)⟩
 refine {cY:=(by grind [dO.bo,dO.cY]),bo:=h.bo,g2:=h.g2.keep (by grind),g3:=h.g3.keep (by grind),g4:=⟨?_,?_,h.g4.ro⟩,lt:=λb hb=>aL (h.lt b hb) fr.size}
 ·show _=H _;rw[vk];simp only [World.setCell,Array.getElem?_modify,if_true,h.g4.rt,Option.map_some];simp
 ·rw[List.length_set];exact h.g4.rl
theorem tJ {w:az}{b c o p q:Nat}{x v0 v1:a7}(hn:b≠c)(h:V w (av b o)=H x):V (P (P w ⟨c,p,Y⟩ v0) ⟨c,q,Y⟩ v1) (av b o)=H x:=by exact Ce
theorem L0 (h:(cG b7 ce grow rb).J F s w)(k:Int)(R:Nat)(ag:R<12)(A B I n:Int)(hc:dY k R A B n=0)(k1:k≠9)(k2:k≠12)(k3:k≠15)(k4:k≠16)(v:Int×Int)(i:ck)
 (j:∀w',O (OU (G w)) w w'->M prog 135 #[aq b7,dJ k R A B I n] w' λe ai=>∃f,e=Q (ay #[bz #[ak v.1,ak v.2],ak 0])/\(cG b7 ce grow rb).J f i ai/\b9 F w' f ai):
 M prog 94 #[aq b7,dJ k R A B I n] w λe w'=>∃al,e=Q (ak 0)/\(cG b7 ce grow rb).J al {i with rs:=i.rs.set R v} w'/\b9 F w al w':=by
 obtain⟨v0,v1⟩:=v;dsimp only at j;have m:=aw w (cA k R A B I n)
 have p:=aO w (E #[U OW k,U OW (R:Int),U OW A,U OW B,U OW I,U OW n] 105)
 have q:=ky k R A B I n (w.alloc (cA k R A B I n))
 rw[hc] at q;have fN:∀b,F b->b<OU (G w):=λb hb=>(cG b7 ce grow rb).lt h b hb;obtain⟨_,_,am,an⟩:=lh h;have bs:=fN _ an;have bt:=fN _ am;have ao:aA (∀w1,O (OU (G (w.alloc (cA k R A B I n)))) (w.alloc (cA k R A B I n)) w1->w1.heap[OU (G w)]?=H (cA k R A B I n)/\M prog 135 #[aq b7,dJ k R A B I n] w1 λe c=>∃f,e=Q (ay #[bz #[ak v0,ak v1],ak 0])/\
  (V (bu c (E #[U OW v0,U OW v1] 139)) (av b7 6)=H (Z (au rb) 12 12)/\V (bu c (E #[U OW v0,U OW v1] 139)) (av (OU (G w)) 1)=H (ak R)/\V (bu c (E #[U OW v0,U OW v1] 139)) (av (OU (G c)) 0)=H (ak v0)/\V (bu c (E #[U OW v0,U OW v1] 139)) (av (OU (G c)) 1)=H (ak v1))/\
  (∃ap y1,V (bu c (E #[U OW v0,U OW v1] 139)) (av rb (R*2))=H (ak ap)/\V (bu c (E #[U OW v0,U OW v1] 139)) (av rb (R*2+1))=H (ak y1))/\(∀o,bF (bu c (E #[U OW v0,U OW v1] 139)) (av rb o)=O4)/\OU (G w)<OU (G c)/\
  aA ((cG b7 ce grow rb).J f i (bu c (E #[U OW v0,U OW v1] 139)).drew/\b9 F w f (bu c (E #[U OW v0,U OW v1] 139)).drew)):=λw1 hb=>by
  have ar:O (OU (G w)) w w1:=m.trans (hb.mono m.size)
  have g:=(hb.block _ (cj p)).trans p;refine⟨g,(j w1 ar).mono ?_⟩
  rintro e c ⟨f,rfl,a1,tn⟩
  have t:O (OU (G c)) c (bu c (E #[U OW v0,U OW v1] 139)):=bZ.alloc bY _;have u:=(cG b7 ce grow rb).below a1 t;obtain⟨a2,rt,_,_⟩:=lh u;have x:=(tn.fr.block (OU (G w)) (cj g) (λd=>by have:=fN _ d;omega)).trans g;obtain⟨_,bb,_⟩:=dZ ((t.block _ (cj x)).trans x)
  obtain⟨z0,bd,_,_⟩:=dt (aO c (E #[U OW v0,U OW v1] 139))
  have N:∀o,bF (bu c (E #[U OW v0,U OW v1] 139)) (av rb o)=O4:=by obtain⟨l,hl,rfl,_⟩:=u;intro o;simp[World.frozen?,hl.g4.rt]
  exact⟨f,rfl,⟨a2,bb,z0,bd⟩,⟨_,_,(rt R ag).1,(rt R ag).2⟩,N,cj x,(cG b7 ce grow rb).below u bZ.drew,((b9.of ar).trans tn).below t.drew⟩
 have bx:(k==9)=O4:=by simpa using k1
 have b0:(k==12)=O4:=by simpa using k2
 have b1:(k==15)=O4:=by simpa using k3
 have b2:(k==16)=O4:=by simpa using k4
 have b3:(0:Int)<=(R:Int):=aa;have b4:(R:Int)<12:=aa;have be:OU (G w)≠rb:=aa;have aB:aA (b7≠rb):=by obtain⟨l,hl,rfl,_⟩:=h;intro e;have bg:=hl.bo;rw[e,hl.g4.ro] at bg;omega
 have bi:=aB.o;clear h m p hc j fN am an aB;go_enter func94,ntmps94;go_wp2_with fail;refine q.mono ?_;clear q;rintro e w1 ⟨rfl,aF⟩
 obtain⟨g,P⟩:=ao.o w1 aF;obtain⟨q0,q1,bl,q3,bn,bo⟩:=dZ g;clear aF g ao;go_wp2_with fail;refine P.mono ?_;clear P;rintro e c ⟨f,rfl,⟨S,W,ab,ad⟩,⟨ap,y1,bp,br⟩,N,lw,aR⟩
 clear q0 q1 bl q3 bn bo;have aV:OU (G c)≠rb:=aa;go_wp2_with fail
 go_region_held3 (λw'=>V w' (av b7 6)=H (Z (au rb) 12 12)/\V w' (av (OU (G w)) 1)=H (ak R)/\V w' (av (OU (G c)) 0)=H (ak v0)/\V w' (av (OU (G c)) 1)=H (ak v1)) (first|exact⟨S,W,ab,ad⟩|exact⟨tJ bi S,tJ be W,tJ aV ab,tJ aV ad⟩|(go_keep;done)) (fail)
 all_goals
  have a0:aA (_/\_):=LZ aR.o.1 (R:=R) (v0,v1)
  clear S W ab ad bp br N;go_wp2_with fail;go_ret;exact⟨rfl,f,a0.o.1,aR.o.2.trans a0.o.2⟩
end
theorem L3 {k R A B n:Int}(hc:dY k R A B n=0)(b:k≠9)(c:k≠12)(e:k≠15)(f:k≠16):cS k=1\/cS k=3\/cS k=7:=by
 rcases qD k with d|d|d|d|d|d|d|d|d|d|d|d|d|d|d|d|d
 case' inr.inr.inr.inr.inr.inr.inr.inr.inr.inr.inr.inr.inr.inr.inr.inr=>
  grind [qE,dY]
 all_goals
  first
   |(subst d;decide)
   |omega
theorem L4 (s:ck)(t d:Int×Int):(s.reg t d).2.rs=s.rs:=by grind [ck.reg]
theorem L5 (s:ck)(v:Int×Int)(I:Int)(y:Int×Int):(s.set v I y).2.rs=s.rs:=by grind [ck.set]
theorem fX.root {s:ck}(hv:fX s)(i:Nat):(X s.rs i (0,0)).1=3->0<=(X s.rs i (0,0)).2/\cz s.T (K (X s.rs i (0,0)).2):=λb=>by
 by_cases c:i<L s.rs
 ·exact hv.rv _ (by grind) b
 grind
section
variable {b7 rb:Nat}{ce grow:Int}{F:Nat->Prop}{s:ck}{w:az}{g:fM}
theorem L6 (h:(cG b7 ce grow rb).J F s w)(hv:fX s)(i:dS s.T s.wt (g s.T s.wt))(g0:-1000000<=grow)(g1:grow<=1000000)(q:-1000000<=ce)(m1:ce<=1000000)(k R A B I n:Int):
 M prog 94 #[aq b7,dJ k R A B I n] w λe w'=>∃m,e=Q (ak (s.dI g ce grow k R A B I n).1)/\(cG b7 ce grow rb).J m (s.dI g ce grow k R A B I n).2 w'/\b9 F w m w':=by
 have tl:=hv.tl;have gl:=hv.gl;have wl:=hv.wl;unfold ck.dI;by_cases hc:dY k R A B n=0
 ·rw[aN hc];by_cases b:k=9
  ·rw[aN b];subst b;have j:=mS hc ae;have l:=nt hc ae;obtain⟨A,rfl⟩:=bC j.1;obtain⟨B,rfl⟩:=bC l.1;rw[bD,bD];exact LW h R I n A B aa aa hc _ _ (L4 _ _ _) (λw' hb=>KH (by grind [dr.below]) _ _ (hv.root A) (hv.root B) tl aa aa)
  rw[aJ b];by_cases d:k=12
  ·rw[aN d];subst d;have j:=mS hc ae;have l:=nt hc ae;obtain⟨A,rfl⟩:=bC j.1;obtain⟨B,rfl⟩:=bC l.1;rw[bD,bD];exact LX h R I n A B aa aa hc _ _ (L5 _ _ _ _) (λw' hb=>KJ (by grind [dr.below]) _ _ I (hv.root A) tl hv.iv.tl)
  rw[aJ d];by_cases f:k=15
  ·rw[aN f];exact Cz k R A B I n aa hc _ _ (λ_ w' hb=>Co (by grind [dr.below]) hv i g0 g1) (λe=>by omega)
  rw[aJ f];by_cases e16:k=16
  ·rw[aN e16];exact Cz k R A B I n aa hc _ _ (λe=>by omega) (λ_ w' hb=>Cn (by grind [dr.below]) hv i)
  rw[aJ e16];have u:=z8 hc (by grind [L3])
  obtain⟨R,rfl⟩:=bC u.1;rw[bD];have o:∀w',O (OU (G w)) w w'->_:=λw' hb=>LU ((cG b7 ce grow rb).below h hb) hv i g0 g1 q m1 k R A B I n hc b d f e16;generalize s.rt g ce grow k (K A) (K B) I n=t at*;obtain⟨v,cd,p⟩:=t;by_cases c:cd=0
  ·rw[aN c];subst c;exact L0 h k R aa A B I n hc b d f e16 v p o
  ·rw[aJ c];exact LY k R A B I n hc b d f e16 v cd c p o
 ·rw[aJ hc];refine(LV k R A B I n hc).mono ?_;rintro e w' ⟨rfl,hb⟩
  exact⟨F,rfl,(cG b7 ce grow rb).below h hb,b9.of hb⟩
end
def oO:ck:=⟨[],aZ 12 (0,0),[],[]⟩
theorem L7 {w:az}{b:Nat}(h:w.heap[b]?=H (.map #[] 0)):eT w b 0 (λ_=>Y):=by obtain⟨D,⟨es,c,hb,r⟩,hD⟩:=eT.made w;rw[aO] at hb;cases hb;exact⟨D,⟨#[],0,h,r⟩,hD⟩
theorem L8 (fm:Fm):iU [] fm=λ_=>Y:=by
 funext x
 refine nF (λh=>?_)
 have:=h.2.1;simp at this
theorem L9 {w:az}{b7 mb bp rb:Nat}{n o:Int}(hg:w.heap[b7]?=H (E #[ak n,ak o,.map (H mb),ak 0,ak 0,aq bp,Z (au rb) 12 12] 200 (0,0)))
 (hm:w.heap[mb]?=H (.map #[] 0))(hb:w.heap[bp]?=H (E #[Z Y 0 0,Z Y 0 0] 197 (0,0)))(hr:w.heap[rb]?=H (E (ev (aZ 12 (0,0))).toArray 139 (0,0))):
 (cG b7 n o rb).J (λb=>b=b7\/b=mb\/b=bp\/b=rb) oO w:=by
 have n1:b7≠mb:=λe=>by rw[e,hm] at hg;cases hg
 have c:b7≠bp:=λe=>by rw[e,hb] at hg;simp at hg
 have d:b7≠rb:=λe=>by rw[e,hr] at hg;simp at hg
 have n4:mb≠bp:=λe=>by rw[e,hb] at hm;cases hm
 have f:mb≠rb:=λe=>by rw[e,hr] at hm;cases hm
 have g:bp≠rb:=λe=>by rw[e,hr] at hb;simp at hb
 have o1:∀b,(if b=b7 then 1 else if b=mb then 2 else if b=bp then 3 else if b=rb then 4 else 0)≠(0:Nat)↔b=b7\/b=mb\/b=bp\/b=rb:=λb=>by
  by_cases j:b=b7
  ·simp[j]
  ·by_cases l:b=mb
   ·simp[l,n1.symm]
   ·by_cases m:b=bp
    ·simp[m,c.symm,n4.symm]
    ·by_cases p:b=rb
     ·simp[p,d.symm,f.symm,g.symm]
     ·simp[j,l,m,p]
 refine⟨⟨λb=>if b=b7 then 1 else if b=mb then 2 else if b=bp then 3 else if b=rb then 4 else 0,mb,bp,rb,λ_=>(Y,0),0,0,Y,0,Y,0⟩,?_,rfl,λb=>(o1 b).symm⟩
 refine {cY:=hg,bo:=by dsimp only;rw[aN rfl],g2:=?_,g3:=?_,g4:=?_,lt:=λb h=>?_}
 ·refine {mp:=?_,mn:=aG _,dy:=?_,fl:=λi hi=>?_,fC:=λi hi=>?_,fY:=λi hi=>?_,al:=aG _}
  ·show eT w mb 0 (iU [] _)
   rw[L8];exact L7 hm
  ·dsimp only;rw[aJ n1.symm,aN rfl]
  ·exact absurd hi.1 (by simp[oO])
  ·exact absurd hi.1 (by simp[oO])
  ·exact absurd hi.1 (by simp[oO])
 ·refine {sd:=⟨hb,a9 _ _ _ _,a9 _ _ _ _⟩,so:=?_,ro:=λk e=>?_,nG:=λk e=>?_}
  ·dsimp only;rw[aJ c.symm,aJ n4.symm,aN rfl]
  ·cases e
  ·cases e
 ·refine {rt:=hr,rl:=by simp[oO],ro:=?_};dsimp only;rw[aJ d.symm,aJ f.symm,aJ g.symm,aN rfl]
 ·rcases(o1 b).1 h with e|e|e|e
  ·rw[e];exact cj hg
  ·rw[e];exact cj hm
  ·rw[e];exact cj hb
  ·rw[e];exact cj hr
theorem L_ (n o:Nat)(w:az)(h0:16<=n)(x:n<=256)(B:o<=1024):
 M prog 88 #[ak n,ak o] w λe w'=>∃b7 rb F,e=Q (ay #[aq b7,bz #[ak 0,ak 0]])/\(cG b7 n o rb).J F oO w'/\(∀b,F b->OU (G w)<=b)/\O (OU (G w)) w w':=by
 have aV:=@run_makeMap prog;have N:=aw w (E #[U OW 0,U OW 0] 33)
 have P:=JO n o (bu w (E #[U OW 0,U OW 0] 33)) h0 x B;have S:=aO w (E #[U OW 0,U OW 0] 33)
 have am:OU (G w)<OU (G (bu w (E #[U OW 0,U OW 0] 33))):=ac;have W:=cg N;clear N h0 x B;go_enter func88,ntmps88;go_wp2_with fail;generalize bu w (E #[U OW 0,U OW 0] 33)=w0 at*;generalize an:OU (G w)=fb at*;refine P.mono ?_;clear P;rintro e w1 ⟨hp,rfl,t⟩
 have u:=(t.block fb am).trans S;have ao:=cg (W.o.trans (t.mono aa))
 have ap:=cj u;clear t S W;have B1:=(((aw w1 (E #[U OW 0,U OW 0] 33)).alloc ac (.map #[] 0)).alloc (by simp;omega) (E #[Z Y 0 0,Z Y 0 0] 197)).alloc (by simp;omega) (E #[U OW 0,U OW 0] 139)
 have m1:(bu (bu (bu (bu w1 (E #[U OW 0,U OW 0] 33)) (.map #[] 0)) (E #[Z Y 0 0,Z Y 0 0] 197)) (E #[U OW 0,U OW 0] 139)).heap[OU (G w1)+1]?=H (.map #[] 0):=by rw[aU _ _ _ ac,aU _ _ _ ac];exact jz w1 _ _
 have g:(bu (bu (bu (bu w1 (E #[U OW 0,U OW 0] 33)) (.map #[] 0)) (E #[Z Y 0 0,Z Y 0 0] 197)) (E #[U OW 0,U OW 0] 139)).heap[OU (G w1)+1+1]?=H (E #[Z Y 0 0,Z Y 0 0] 197 (0,0)):=by
  rw[aU _ _ _ ac];have:=jz (bu w1 (E #[U OW 0,U OW 0] 33)) (.map #[] 0) (E #[Z Y 0 0,Z Y 0 0] 197)
  simpa using this
 have ab:(bu (bu (bu (bu w1 (E #[U OW 0,U OW 0] 33)) (.map #[] 0)) (E #[Z Y 0 0,Z Y 0 0] 197)) (E #[U OW 0,U OW 0] 139)).heap[OU (G w1)+1+1+1]?=H (E #[ak 0,ak 0] 139 (0,0)):=by
  have:=aO ((bu (bu (bu w1 (E #[U OW 0,U OW 0] 33)) (.map #[] 0)) (E #[Z Y 0 0,Z Y 0 0] 197))) (E #[U OW 0,U OW 0] 139)
  simpa using this
 have q:OU (G (bu (bu (bu (bu w1 (E #[U OW 0,U OW 0] 33)) (.map #[] 0)) (E #[Z Y 0 0,Z Y 0 0] 197)) (E #[U OW 0,U OW 0] 139)))=OU (G w1)+1+1+1+1:=ac;obtain⟨v0,v1,_,_⟩:=dt ab;have ad:=Cx _ (OU (G w1)+1+1+1) 12 (0,0) ae v0 v1;have m:=(B1.block fb ap).trans u;have ag:=qk B1 m1 g m q;clear B1 m1 g ab v0 v1 u m q;go_wp2_with fail;generalize bu (bu (bu (bu w1 (E #[U OW 0,U OW 0] 33)) (.map #[] 0)) (E #[Z Y 0 0,Z Y 0 0] 197)) (E #[U OW 0,U OW 0] 139)=a0 at*;refine ad.mono ?_;clear ad;rintro e c ⟨nb,rfl,ar,ai,i⟩
 obtain⟨B1,m1,g,m,q⟩:=ag.o;have j:=(i.block fb aa).trans m;have aB:aA (_/\_/\_/\OU (G w1)+1+1<nb/\_/\_):=
  ⟨(i.block _ aa).trans m1,(i.block _ aa).trans g,ai,aa,(ao.o.trans (B1.mono aa)).trans (i.mono aa),cj ((i.block _ aa).trans g)⟩
 have y0:V c (av fb 0)=H (ak 0):=aD j
 have y1:V c (av fb 1)=H (ak 0):=aD j
 have z0:bF c (av fb 0)=O4:=aE j
 have a1:bF c (av fb 1)=O4:=aE j
 have aF:=cj j;clear j i ai ar B1 m1 g m q ag;go_wp2_with fail;obtain⟨f,hW1⟩:∃f,f=(c.setCell ⟨fb,0,Y⟩ (U OW 0)).setCell ⟨fb,1,Y⟩ (U OW 0):=⟨_,rfl⟩
 rw[<-hW1];have v0:V f (av fb 0)=H (ak 0):=by exact vE
 have v1:V f (av fb 1)=H (ak 0):=by rw[hW1];exact a6 _ _ _ ((aY c ⟨fb,0,Y⟩ ⟨fb,1,Y⟩ _ ac).trans y1)
 have s:Fr (λk=>k=fb) c f:=by rw[hW1];exact((Fr.refl (λk=>k=fb) c).set fb 0 _ rfl).set fb 1 _ rfl
 have al:OU (G f)=OU (G c):=by rw[hW1];simp
 clear hW1;obtain⟨k1,k2,k3,k4,k5,k6⟩:=aB.o;have l:=aw f (E #[U OW n,U OW o,.map (H (OU (G w1)+1)),U OW 0,U OW 0,.pointer (H ⟨OU (G w1)+1+1,0,Y⟩),Z (H ⟨nb,0,Y⟩) 12 12] 200)
 have hg:=aO f (E #[U OW n,U OW o,.map (H (OU (G w1)+1)),U OW 0,U OW 0,.pointer (H ⟨OU (G w1)+1+1,0,Y⟩),Z (H ⟨nb,0,Y⟩) 12 12] 200)
 rw[al] at hg;have g0:=(l.cell (p:=av fb 0) (by show fb<_;omega)).trans v0;have g1:=(l.cell (p:=av fb 1) (by show fb<_;omega)).trans v1;have J:=L9 hg ((l.block _ aa).trans ((s.block _ aa (λe=>by have e:=e;omega)).trans k1)) ((l.block _ aa).trans ((s.block _ aa (λe=>by have e:=e;omega)).trans k2)) ((l.block _ (by rw[al];exact cj k3)).trans ((s.block _ (cj k3) (λe=>by have e:=e;omega)).trans k3))
 have aR:=k5.trans (s.below (Nat.le_of_lt aF) (λk e=>Nat.le_of_eq (Eq.symm e)))
 refine a3 (v:=ay #[aq (OU (G c)),bz #[ak 0,ak 0]]) (by simp only [results,results88];simp[go_sem,g0,g1]) rfl ⟨OU (G c),nb,_,rfl,J,λb d=>?_,by rw[an];exact aR.trans (l.mono aa)⟩
 rcases d with d|d|d|d<;>omega
structure fT (B:Nat)(w w':az):Prop where
 os:w'.os=w.os
 tape:w'.tape=w.tape
 output:w'.output=w.output
 size:OU (G w)<=OU (G w')
 low:∀k:Nat,k<OU (G w)->k<B->w'.heap[k]?=w.heap[k]?
 iR:∀(k:Nat) cs e m,w.heap[k]?=H (Obj.cells cs e m)->e≠285->e≠101->w'.heap[k]?=w.heap[k]?
section
variable {B:Nat}{w w' w'':az}
theorem fT.refl (B:Nat)(w:az):fT B w w:=⟨rfl,rfl,rfl,aG _,λ_ _ _=>rfl,λ_ _ _ _ _ _ _=>rfl⟩
theorem fT.trans (h:fT B w w')(k:fT B w' w''):fT B w w'':=
 ⟨k.os.trans h.os,k.tape.trans h.tape,k.output.trans h.output,aQ h.size k.size,λi hi hb=>(k.low i (aL hi h.size) hb).trans (h.low i hi hb),λi b e m hi c d=>(k.iR i b e m (by grind [iR]) c d).trans (by grind [iR])⟩
theorem fT.of (h:O (OU (G w)) w w'):fT B w w':=⟨h.os,h.tape,h.output,h.size,λk hk _=>h.block k hk,λk _ _ _ hi _ _=>h.block k (by grind)⟩
theorem fT.below (h:fT B w w')(hB:B<=OU (G w)):O B w w':=⟨h.os,h.tape,h.output,h.size,λk hk=>h.low k aa hk⟩
theorem fT.set {pk o:Nat}{b:Array a7}{m:Nat×Nat}{e:TypeId}{v:a7}(hp:w.heap[pk]?=H (E b e m))(he:e=285\/e=101)(hB:B<=pk):fT B w (P w ⟨pk,o,Y⟩ v):=
 ⟨rfl,rfl,rfl,by simp_all,λk _ hk=>(by grind [aW]),λk c d f hk g i=>(by grind [aW])⟩
theorem fT.grown {row:Option Nat}(g:w.grownBy w' row)(hr:∀k,row=H k->B<=k/\∀b e m,w.heap[k]?=H (E b e m)->e=285\/e=101):fT B w w':=
 ⟨g.os,g.tape,g.output,g.size,λk hk hb=>(by grind [World.grownBy.block]),λk b e m hk c d=>(by grind [World.grownBy.block])⟩
theorem fP.nM {ad:Option Addr}{l:List _}(h:fP w ad l)(k:fT B w w'):fP w' ad l:=by
 have hk:0<L l->∀b,ad=H b->w'.heap[b.block]?=w.heap[b.block]?:=λhp b e=>by
  obtain⟨c,d,f,g,hb⟩:=h.2 hp
  grind [fT.iR]
 refine⟨h.1.keep k.size hk,λhp=>?_⟩
 obtain⟨c,d,f,g,hb⟩:=h.2 hp
 grind
end
def gA (w0 w:az)(m:List ec)(w':az)(b:List ec):Prop:=fT (OU (G w0)) w w'/\∀k,gf b k->gf m k\/OU (G w)<=k
theorem gA.refl (w0 w:az)(m:List ec):gA w0 w m w m:=⟨fT.refl _ _,λ_ h=>aK h⟩
theorem gA.trans {w0 w w' b:az}{m d e:List ec}(h:gA w0 w m w' d)(k:gA w0 w' d b e):gA w0 w m b e:=
 ⟨h.1.trans k.1,λi hi=>(k.2 i hi).elim (h.2 i) (λc=>aI (aQ h.1.size c))⟩
theorem gA.of {w0 w w':az}{m:List ec}(h:O (OU (G w)) w w'):gA w0 w m w' m:=⟨fT.of h,λ_ h=>aK h⟩
theorem gA.new {w0 w w' b:az}{m c:List ec}{X:Nat->Prop}(h:gA w0 w m w' c)(f:Fr X w' b)(j:∀k,X k->OU (G w)<=k):gA w0 w m b c:=
 ⟨⟨f.os.trans h.1.os,f.tape.trans h.1.tape,f.output.trans h.1.output,aQ h.1.size f.size,λk hk hb=>(f.block k (aL hk h.1.size) (by grind)).trans (h.1.low k hk hb),
  λk d e mm hk g i=>(f.block k (aL (by grind) h.1.size) (by grind)).trans (h.1.iR k d e mm hk g i)⟩,h.2⟩
def lQ (ms:List Int)(x:Int):Option Value:=if ms.contains x=true then H (ak (ms.idxOf x:Int)) else Y
theorem Ma {ms:List Int}{a:Int}(hn:a∉ms):kG (lQ ms) a (ak (L ms))=lQ (ms++[a]):=by
 funext b
 unfold kG lQ
 grind
theorem CA {ms:List Int}{a:Int}(h:a∉ms):lQ ms a=Y:=by grind [lQ]
theorem Mb {ms:List Int}{a:Int}(h:a∈ms):lQ ms a=H (ak (ms.idxOf a:Int)):=by grind [lQ]
structure f_ (w0 w:az)(kb ct b7:Nat)(s:cT)(vn:a7)(m:List ec):Prop where
 cY:w.heap[kb]?=H (E #[aq b7,.map (H ct),vn] 285 (0,0))
 lo:OU (G w0)<=kb/\OU (G w0)<=ct
 mp:eT w ct (L s.1) (lQ s.1)
 row:w.ownsRow (OU (G w0)) 101 2 vn (L m) (nv m)
 nd:hW m=s.2
 fl:∀x∈m,fP w x.2.1 x.2.2.2
 e9:O (OU (G w0)) w0 w
section
variable {w0 w w':az}{kb ct b7:Nat}{s:cT}{vn:a7}{m:List ec}
theorem f_.below (h:f_ w0 w kb ct b7 s vn m)(hb:O (OU (G w)) w w'):f_ w0 w' kb ct b7 s vn m:=
 ⟨(by grind [cY,Below.block]),h.lo,h.mp.same (hb.block ct h.mp.lt),cK h.row (λk hk=>hb.block k (cu h.row k hk).2),h.nd,λx b=>(h.fl x b).nM (fT.of (B:=0) hb),h.e9.trans (hb.mono h.e9.size)⟩
theorem f_.cells (h:f_ w0 w kb ct b7 s vn m):V w (av kb 0)=H (aq b7)/\V w (av kb 1)=H (.map (H ct))/\V w (av kb 2)=H vn/\kb<OU (G w):=
 ⟨by simp[World.cell?,h.cY],by simp[World.cell?,h.cY],by simp[World.cell?,h.cY],cj h.cY⟩
theorem f_.len (h:f_ w0 w kb ct b7 s vn m):L m=L s.2:=by rw[<-h.nd];simp[hW]
theorem f_.fb (h:f_ w0 w kb ct b7 s vn m)(k:Nat)(hk:gf m k):k<OU (G w):=by
 obtain⟨x,c,hl,o,e⟩:=hk;obtain⟨b,d,f,g,hb⟩:=(h.fl x c).2 hl
 grind
theorem f_.but {X:Nat->Prop}(h:f_ w0 w kb ct b7 s vn m)(f:Fr X w w')(hX:∀k,k<OU (G w)->X k->(∃cs,w.heap[k]?=H (E cs 139 (0,0)))/\¬gf m k/\OU (G w0)<=k):f_ w0 w' kb ct b7 s vn m:=by
 obtain⟨es,d,g⟩:=h.mp.cY;have n1:¬X kb:=λc=>by
  obtain⟨⟨cs,hc⟩,_⟩:=hX kb (cj h.cY) c;rw[h.cY] at hc
  grind
 have i:¬X ct:=λc=>by grind
 refine⟨(by grind [Fr.block,cY]),h.lo,h.mp.same (by grind [Fr.block]),cK h.row (λk hk=>f.block k (cu h.row k hk).2 (λc=>?_)),h.nd,λx hx=>?_,h.e9.trans ⟨f.os,f.tape,f.output,f.size,λk hk=>f.block k (aL hk h.e9.size) (λc=>by have:=(hX k (aL hk h.e9.size) c).2.2;omega)⟩⟩
 ·obtain⟨⟨cs,hc⟩,_⟩:=hX k (cu h.row k hk).2 c;obtain⟨j,l⟩:=fI h.row k hk
  grind
 ·have hl:=h.fl x hx;exact zk
end
end Go.Proofs.YtjckpdepffejnaaGreatDoor
