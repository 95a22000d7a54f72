import Derived.Test.YtpkjkjhanlbcoaaGreatJ21
namespace Go.Proofs.YtpkjkjhanlbcoaaGreat
set_option maxRecDepth 100000
set_option maxHeartbeats 4000000
open Tryz
open Go.RowKit W Kp cf
section
variable {bY rb:Nat}{b_ bZ:Int}{F:Nat->Prop}{s:ck}{w:ax}
theorem rH {w:ax}{b c o p q:Nat}{x v0 v1:Value}(hn:b≠c)(h:w.cell? (aq b o)=some x):((w.setCell ⟨c,p,none⟩ v0).setCell ⟨c,q,none⟩ v1).cell? (aq b o)=some x:=by exact AL
theorem JN (h:(cx bY b_ bZ rb).J F s w)(k:Int)(R:Nat)(H:R<12)(A B I n:Int)(hc:dJ k R A B n=0)(k1:k≠9)(ab:k≠12)(ad:k≠15)(ag:k≠16)(v:Int×Int)(g:ck)
 (i:∀w',Below w.heap.size w w'->Calls prog 136 #[aj bY,dK k R A B I n] w' fun e J=>∃d,e=.returned (.tuple #[.agg #[ah v.1,ah v.2],ah 0])/\(cx bY b_ bZ rb).J d g J/\b8 F w' d J):
 Calls prog 68 #[aj bY,dK k R A B I n] w fun e w'=>∃K,e=.returned (ah 0)/\(cx bY b_ bZ rb).J K {g with rs:=g.rs.set R v} w'/\b8 F w K w':=by
 obtain⟨v0,v1⟩:=v;dsimp only at i;have j:=au w (cz k R A B I n)
 have m:=aO w (.cells #[.int .i64 k,.int .i64 (R:Int),.int .i64 A,.int .i64 B,.int .i64 I,.int .i64 n] 44)
 have p:=jx k R A B I n (w.alloc (cz k R A B I n))
 rw[hc] at p;have fT:∀b,F b->b<w.heap.size:=fun b hb=>(cx bY b_ bZ rb).lt h b hb;obtain⟨_,_,L,M⟩:=jZ h;have a2:=fT _ M;have bb:=fT _ L;have N:ay (∀w1,Below (w.alloc (cz k R A B I n)).heap.size (w.alloc (cz k R A B I n)) w1->w1.heap[w.heap.size]?=some (cz k R A B I n)/\Calls prog 136 #[aj bY,dK k R A B I n] w1 fun e c=>∃d,e=.returned (.tuple #[.agg #[ah v0,ah v1],ah 0])/\
  ((c.alloc (.cells #[.int .i64 v0,.int .i64 v1] 97)).cell? (aq bY 6)=some (.slice (ak rb) 12 12)/\(c.alloc (.cells #[.int .i64 v0,.int .i64 v1] 97)).cell? (aq w.heap.size 1)=some (ah R)/\(c.alloc (.cells #[.int .i64 v0,.int .i64 v1] 97)).cell? (aq c.heap.size 0)=some (ah v0)/\(c.alloc (.cells #[.int .i64 v0,.int .i64 v1] 97)).cell? (aq c.heap.size 1)=some (ah v1))/\
  (∃O y1,(c.alloc (.cells #[.int .i64 v0,.int .i64 v1] 97)).cell? (aq rb (R*2))=some (ah O)/\(c.alloc (.cells #[.int .i64 v0,.int .i64 v1] 97)).cell? (aq rb (R*2+1))=some (ah y1))/\(∀o,(c.alloc (.cells #[.int .i64 v0,.int .i64 v1] 97)).frozen? (aq rb o)=false)/\w.heap.size<c.heap.size/\
  ay ((cx bY b_ bZ rb).J d g (c.alloc (.cells #[.int .i64 v0,.int .i64 v1] 97)).drew/\b8 F w d (c.alloc (.cells #[.int .i64 v0,.int .i64 v1] 97)).drew)):=fun w1 hb=>by
  have Q:Below w.heap.size w w1:=j.trans (hb.mono j.size)
  have f:=(hb.block _ (lt_of_some m)).trans m;refine⟨f,(i w1 Q).mono ?_⟩
  rintro e c ⟨d,rfl,ai,tn⟩
  have q:Below c.heap.size c (c.alloc (.cells #[.int .i64 v0,.int .i64 v1] 97)):=bX.alloc bW _;have t:=(cx bY b_ bZ rb).below ai q;obtain⟨al,rt,_,_⟩:=jZ t;have u:=(tn.fr.block w.heap.size (lt_of_some f) (fun am=>by have:=fT _ am;omega)).trans f;obtain⟨_,an,_⟩:=eu ((q.block _ (lt_of_some u)).trans u)
  obtain⟨z0,ao,_,_⟩:=di (aO c (.cells #[.int .i64 v0,.int .i64 v1] 97))
  have x:∀o,(c.alloc (.cells #[.int .i64 v0,.int .i64 v1] 97)).frozen? (aq rb o)=false:=by obtain⟨l,hl,rfl,_⟩:=t;intro o;simp[World.frozen?,hl.g4.rt]
  exact⟨d,rfl,⟨al,an,z0,ao⟩,⟨_,_,(rt R H).1,(rt R H).2⟩,x,lt_of_some u,(cx bY b_ bZ rb).below t bX.drew,((b8.of Q).trans tn).below q.drew⟩
 have bd:(k==9)=false:=by simpa using k1
 have be:(k==12)=false:=by simpa using ab
 have bg:(k==15)=false:=by simpa using ad
 have bi:(k==16)=false:=by simpa using ag
 have bl:(0:Int)<=(R:Int):=V;have bn:(R:Int)<12:=V;have ap:w.heap.size≠rb:=V;have S:ay (bY≠rb):=by obtain⟨l,hl,rfl,_⟩:=h;intro e;have ar:=hl.bo;rw[e,hl.g4.ro] at ar;omega
 have aB:=S.o;clear h j m hc i fT L M S;go_enter func68,ntmps68;go_wp2_with fail;refine p.mono ?_;clear p;rintro e w1 ⟨rfl,U⟩
 obtain⟨f,P⟩:=N.o w1 U;obtain⟨q0,q1,aF,q3,aR,aV⟩:=eu f;clear U f N;go_wp2_with fail;refine P.mono ?_;clear P;rintro e c ⟨d,rfl,⟨C,D,E,G⟩,⟨O,y1,a0,a1⟩,x,lw,W⟩
 clear q0 q1 aF q3 aR aV;have X:c.heap.size≠rb:=V;go_wp2_with fail
 go_region_held3 (fun w'=>w'.cell? (aq bY 6)=some (.slice (ak rb) 12 12)/\w'.cell? (aq w.heap.size 1)=some (ah R)/\w'.cell? (aq c.heap.size 0)=some (ah v0)/\w'.cell? (aq c.heap.size 1)=some (ah v1)) (first|exact⟨C,D,E,G⟩|exact⟨rH aB C,rH ap D,rH X E,rH X G⟩|(go_keep;done)) (fail)
 all_goals
  have Y:ay (_/\_):=JM W.o.1 (R:=R) (v0,v1)
  clear C D E G a0 a1 x;go_wp2_with fail;go_ret;exact⟨rfl,d,Y.o.1,W.o.2.trans Y.o.2⟩
end
theorem JO {k R A B n:Int}(hc:dJ k R A B n=0)(c:k≠9)(d:k≠12)(e:k≠15)(f:k≠16):c8 k=1\/c8 k=3\/c8 k=7:=by
 rcases o6 k with b|b|b|b|b|b|b|b|b|b|b|b|b|b|b|b|b
 case' inr.inr.inr.inr.inr.inr.inr.inr.inr.inr.inr.inr.inr.inr.inr.inr=>
  have:=o7 b;unfold dJ at hc;rw[aI this] at hc;omega
 all_goals
  first
   |(subst b;decide)
   |(omega)
theorem JP (s:ck)(t b:Int×Int):(s.reg t b).2.rs=s.rs:=by
 unfold ck.reg;split
 ·split<;>rfl
 ·rfl
theorem JQ (s:ck)(v:Int×Int)(I:Int)(y:Int×Int):(s.set v I y).2.rs=s.rs:=by unfold ck.set;dsimp only;split<;>rfl
theorem fI.root {s:ck}(hv:fI s)(i:Nat):(s.rs.getD i (0,0)).1=3->0<=(s.rs.getD i (0,0)).2/\cv s.T (s.rs.getD i (0,0)).2.toNat:=fun b=>by
 by_cases c:i<s.rs.length
 ·exact hv.rv _ (getD_in c) b
 ·rw[aE,List.getElem?_eq_none V] at b;cases b
section
variable {bY rb:Nat}{b_ bZ:Int}{F:Nat->Prop}{s:ck}{w:ax}{g:gP}
theorem JR (h:(cx bY b_ bZ rb).J F s w)(hv:fI s)(i:dR s.T s.wt (g s.T s.wt))(g0:-1000000<=bZ)(g1:bZ<=1000000)(q:-1000000<=b_)(m1:b_<=1000000)(k R A B I n:Int):
 Calls prog 68 #[aj bY,dK k R A B I n] w fun e w'=>∃m,e=.returned (ah (s.ip g b_ bZ k R A B I n).1)/\(cx bY b_ bZ rb).J m (s.ip g b_ bZ k R A B I n).2 w'/\b8 F w m w':=by
 have tl:=hv.tl;have gl:=hv.gl;have wl:=hv.wl;unfold ck.ip;by_cases hc:dJ k R A B n=0
 ·rw[aI hc];by_cases b:k=9
  ·rw[aI b];subst b;have j:=ly hc aa;have l:=l5 hc aa;obtain⟨A,rfl⟩:=Int.eq_ofNat_of_zero_le j.1;obtain⟨B,rfl⟩:=Int.eq_ofNat_of_zero_le l.1;rw[Int.toNat_natCast,Int.toNat_natCast];exact JJ h R I n A B V V hc _ _ (JP _ _ _) (fun w' hb=>IA ((cx bY b_ bZ rb).below h hb) _ _ (hv.root A) (hv.root B) tl V V)
  rw[aG b];by_cases d:k=12
  ·rw[aI d];subst d;have j:=ly hc aa;have l:=l5 hc aa;obtain⟨A,rfl⟩:=Int.eq_ofNat_of_zero_le j.1;obtain⟨B,rfl⟩:=Int.eq_ofNat_of_zero_le l.1;rw[Int.toNat_natCast,Int.toNat_natCast];exact JK h R I n A B V V hc _ _ (JQ _ _ _ _) (fun w' hb=>IC ((cx bY b_ bZ rb).below h hb) _ _ I (hv.root A) tl hv.iv.tl)
  rw[aG d];by_cases f:k=15
  ·rw[aI f];exact AS k R A B I n (aK f) hc _ _ (fun _ w' hb=>AK ((cx bY b_ bZ rb).below h hb) hv i g0 g1) (fun e=>by omega)
  rw[aG f];by_cases e16:k=16
  ·rw[aI e16];exact AS k R A B I n (aJ e16) hc _ _ (fun e=>by omega) (fun _ w' hb=>AJ ((cx bY b_ bZ rb).below h hb) hv i)
  rw[aG e16];have u:=ye hc (JO hc b d f e16)
  obtain⟨R,rfl⟩:=Int.eq_ofNat_of_zero_le u.1;rw[Int.toNat_natCast];have o:∀w',Below w.heap.size w w'->_:=fun w' hb=>JG ((cx bY b_ bZ rb).below h hb) hv i g0 g1 q m1 k R A B I n hc b d f e16;generalize s.rt g b_ bZ k A.toNat B.toNat I n=t at*;obtain⟨v,cd,p⟩:=t;by_cases c:cd=0
  ·rw[aI c];subst c;exact JN h k R V A B I n hc b d f e16 v p o
  ·rw[aG c];exact JL k R A B I n hc b d f e16 v cd c p o
 ·rw[aG hc];refine(JH k R A B I n hc).mono ?_;rintro e w' ⟨rfl,hb⟩
  exact⟨F,rfl,(cx bY b_ bZ rb).below h hb,b8.of hb⟩
end
def nD:ck:=⟨[],List.replicate 12 (0,0),[],[]⟩
theorem JS {w:ax}{b:Nat}(h:w.heap[b]?=some (.map #[] 0)):es w b 0 (fun _=>none):=by obtain⟨D,⟨d,e,hb,r⟩,c⟩:=es.made w;rw[aO] at hb;cases hb;exact⟨D,⟨#[],0,h,r⟩,c⟩
theorem JT (fm:Fm):hJ [] fm=fun _=>none:=by
 funext x
 refine lJ (fun h=>?_)
 have:=h.2.1;simp at this
theorem JU {w:ax}{bY mb bp rb:Nat}{n o:Int}(hg:w.heap[bY]?=some (.cells #[ah n,ah o,.map (some mb),ah 0,ah 0,aj bp,.slice (ak rb) 12 12] 187 (0,0)))
 (hm:w.heap[mb]?=some (.map #[] 0))(hb:w.heap[bp]?=some (.cells #[.slice none 0 0,.slice none 0 0] 153 (0,0)))(hr:w.heap[rb]?=some (.cells (ev (List.replicate 12 (0,0))).toArray 97 (0,0))):
 (cx bY n o rb).J (fun b=>b=bY\/b=mb\/b=bp\/b=rb) nD w:=by
 have n1:bY≠mb:=fun e=>by rw[e,hm] at hg;cases hg
 have c:bY≠bp:=fun e=>by rw[e,hb] at hg;simp at hg
 have d:bY≠rb:=fun e=>by rw[e,hr] at hg;simp at hg
 have n4:mb≠bp:=fun e=>by rw[e,hb] at hm;cases hm
 have f:mb≠rb:=fun e=>by rw[e,hr] at hm;cases hm
 have g:bp≠rb:=fun e=>by rw[e,hr] at hb;simp at hb
 have o1:∀b,(if b=bY then 1 else if b=mb then 2 else if b=bp then 3 else if b=rb then 4 else 0)≠(0:Nat)↔b=bY\/b=mb\/b=bp\/b=rb:=fun b=>by
  by_cases j:b=bY
  ·simp[j]
  ·by_cases l:b=mb
   ·simp[l,n1.symm]
   ·by_cases m:b=bp
    ·simp[m,c.symm,n4.symm]
    ·by_cases p:b=rb
     ·simp[p,d.symm,f.symm,g.symm]
     ·simp[j,l,m,p]
 refine⟨⟨fun b=>if b=bY then 1 else if b=mb then 2 else if b=bp then 3 else if b=rb then 4 else 0,mb,bp,rb,fun _=>(none,0),0,0,none,0,none,0⟩,?_,rfl,fun b=>(o1 b).symm⟩
 refine {blk:=hg,bo:=by dsimp only;rw[aI rfl],g2:=?_,g3:=?_,g4:=?_,lt:=fun b h=>?_}
 ·refine {mp:=?_,mn:=aD _,dp:=?_,fl:=fun i hi=>?_,eS:=fun i hi=>?_,fe:=fun i hi=>?_,al:=aD _}
  ·show es w mb 0 (hJ [] _)
   rw[JT];exact JS hm
  ·dsimp only;rw[aG n1.symm,aI rfl]
  ·exact absurd hi.1 (by simp[nD])
  ·exact absurd hi.1 (by simp[nD])
  ·exact absurd hi.1 (by simp[nD])
 ·refine {sd:=⟨hb,bc _ _ _ _,bc _ _ _ _⟩,so:=?_,ro:=fun k e=>?_,mr:=fun k e=>?_}
  ·dsimp only;rw[aG c.symm,aG n4.symm,aI rfl]
  ·cases e
  ·cases e
 ·refine {rt:=hr,rl:=by simp[nD],ro:=?_};dsimp only;rw[aG d.symm,aG f.symm,aG g.symm,aI rfl]
 ·rcases(o1 b).1 h with e|e|e|e
  ·rw[e];exact lt_of_some hg
  ·rw[e];exact lt_of_some hm
  ·rw[e];exact lt_of_some hb
  ·rw[e];exact lt_of_some hr
theorem JV (n o:Nat)(w:ax)(h0:16<=n)(A:n<=256)(B:o<=1024):
 Calls prog 67 #[ah n,ah o] w fun e w'=>∃bY rb F,e=.returned (.tuple #[aj bY,.agg #[ah 0,ah 0]])/\(cx bY n o rb).J F nD w'/\(∀b,F b->w.heap.size<=b)/\Below w.heap.size w w':=by
 have Y:=@run_makeMap prog;have C:=au w (.cells #[.int .i64 0,.int .i64 0] 28)
 have P:=HM n o (w.alloc (.cells #[.int .i64 0,.int .i64 0] 28)) h0 A B;have D:=aO w (.cells #[.int .i64 0,.int .i64 0] 28)
 have M:w.heap.size<(w.alloc (.cells #[.int .i64 0,.int .i64 0] 28)).heap.size:=Z;have E:=hide C;clear C h0 A B;go_enter func67,ntmps67;go_wp2_with fail;generalize w.alloc (.cells #[.int .i64 0,.int .i64 0] 28)=w0 at*;generalize N:w.heap.size=fb at*;refine P.mono ?_;clear P;rintro e w1 ⟨hp,rfl,t⟩
 have u:=(t.block fb M).trans D;have O:=hide (E.o.trans (t.mono V))
 have Q:=lt_of_some u;clear t D E;have B1:=(((au w1 (.cells #[.int .i64 0,.int .i64 0] 28)).alloc Z (.map #[] 0)).alloc (by simp;omega) (.cells #[.slice none 0 0,.slice none 0 0] 153)).alloc (by simp;omega) (.cells #[.int .i64 0,.int .i64 0] 97)
 have m1:((((w1.alloc (.cells #[.int .i64 0,.int .i64 0] 28)).alloc (.map #[] 0)).alloc (.cells #[.slice none 0 0,.slice none 0 0] 153)).alloc (.cells #[.int .i64 0,.int .i64 0] 97)).heap[w1.heap.size+1]?=some (.map #[] 0):=by rw[aS _ _ _ Z,aS _ _ _ Z];exact iP w1 _ _
 have f:((((w1.alloc (.cells #[.int .i64 0,.int .i64 0] 28)).alloc (.map #[] 0)).alloc (.cells #[.slice none 0 0,.slice none 0 0] 153)).alloc (.cells #[.int .i64 0,.int .i64 0] 97)).heap[w1.heap.size+1+1]?=some (.cells #[.slice none 0 0,.slice none 0 0] 153 (0,0)):=by
  rw[aS _ _ _ Z];have:=iP (w1.alloc (.cells #[.int .i64 0,.int .i64 0] 28)) (.map #[] 0) (.cells #[.slice none 0 0,.slice none 0 0] 153)
  simpa using this
 have G:((((w1.alloc (.cells #[.int .i64 0,.int .i64 0] 28)).alloc (.map #[] 0)).alloc (.cells #[.slice none 0 0,.slice none 0 0] 153)).alloc (.cells #[.int .i64 0,.int .i64 0] 97)).heap[w1.heap.size+1+1+1]?=some (.cells #[ah 0,ah 0] 97 (0,0)):=by
  have:=aO ((((w1.alloc (.cells #[.int .i64 0,.int .i64 0] 28)).alloc (.map #[] 0)).alloc (.cells #[.slice none 0 0,.slice none 0 0] 153))) (.cells #[.int .i64 0,.int .i64 0] 97)
  simpa using this
 have q:((((w1.alloc (.cells #[.int .i64 0,.int .i64 0] 28)).alloc (.map #[] 0)).alloc (.cells #[.slice none 0 0,.slice none 0 0] 153)).alloc (.cells #[.int .i64 0,.int .i64 0] 97)).heap.size=w1.heap.size+1+1+1+1:=Z;obtain⟨v0,v1,_,_⟩:=di G;have H:=AQ _ (w1.heap.size+1+1+1) 12 (0,0) aa v0 v1;have l:=(B1.block fb Q).trans u;have I:=vW B1 m1 f l q;clear B1 m1 f G v0 v1 u l q;go_wp2_with fail;generalize (((w1.alloc (.cells #[.int .i64 0,.int .i64 0] 28)).alloc (.map #[] 0)).alloc (.cells #[.slice none 0 0,.slice none 0 0] 153)).alloc (.cells #[.int .i64 0,.int .i64 0] 97)=ab at*;refine H.mono ?_;clear H;rintro e c ⟨nb,rfl,R,K,g⟩
 obtain⟨B1,m1,f,l,q⟩:=I.o;have i:=(g.block fb V).trans l;have S:ay (_/\_/\_/\w1.heap.size+1+1<nb/\_/\_):=
  ⟨(g.block _ V).trans m1,(g.block _ V).trans f,K,V,(O.o.trans (B1.mono V)).trans (g.mono V),lt_of_some ((g.block _ V).trans f)⟩
 have y0:c.cell? (aq fb 0)=some (ah 0):=aA i
 have y1:c.cell? (aq fb 1)=some (ah 0):=aA i
 have z0:c.frozen? (aq fb 0)=false:=aC i
 have ad:c.frozen? (aq fb 1)=false:=aC i
 have U:=lt_of_some i;clear i g K R B1 m1 f l q I;go_wp2_with fail;obtain⟨d,hW1⟩:∃d,d=(c.setCell ⟨fb,0,none⟩ (.int .i64 0)).setCell ⟨fb,1,none⟩ (.int .i64 0):=⟨_,rfl⟩
 rw[<-hW1];have v0:d.cell? (aq fb 0)=some (ah 0):=by exact tt
 have v1:d.cell? (aq fb 1)=some (ah 0):=by rw[hW1];exact bf _ _ _ ((a5 c ⟨fb,0,none⟩ ⟨fb,1,none⟩ _ Z).trans y1)
 have s:Fr (fun k=>k=fb) c d:=by rw[hW1];exact((Fr.refl (fun k=>k=fb) c).set fb 0 _ rfl).set fb 1 _ rfl
 have L:d.heap.size=c.heap.size:=by rw[hW1];simp
 clear hW1;obtain⟨k1,W,x,ag,k5,k6⟩:=S.o;have j:=au d (.cells #[.int .i64 n,.int .i64 o,.map (some (w1.heap.size+1)),.int .i64 0,.int .i64 0,.pointer (some ⟨w1.heap.size+1+1,0,none⟩),.slice (some ⟨nb,0,none⟩) 12 12] 187)
 have hg:=aO d (.cells #[.int .i64 n,.int .i64 o,.map (some (w1.heap.size+1)),.int .i64 0,.int .i64 0,.pointer (some ⟨w1.heap.size+1+1,0,none⟩),.slice (some ⟨nb,0,none⟩) 12 12] 187)
 rw[L] at hg;have g0:=(j.cell (p:=aq fb 0) (by show fb<_;omega)).trans v0;have g1:=(j.cell (p:=aq fb 1) (by show fb<_;omega)).trans v1;have J:=JU hg ((j.block _ V).trans ((s.block _ V (fun e=>by have e:=e;omega)).trans k1)) ((j.block _ V).trans ((s.block _ V (fun e=>by have e:=e;omega)).trans W)) ((j.block _ (by rw[L];exact lt_of_some x)).trans ((s.block _ (lt_of_some x) (fun e=>by have e:=e;omega)).trans x))
 have X:=k5.trans (s.below (Nat.le_of_lt U) (fun k e=>Nat.le_of_eq (Eq.symm e)))
 refine a4 (v:=.tuple #[aj c.heap.size,.agg #[ah 0,ah 0]]) (by simp only [results,results67];simp[go_sem,g0,g1]) rfl ⟨c.heap.size,nb,_,rfl,J,fun b m=>?_,by rw[N];exact X.trans (j.mono V)⟩
 rcases m with m|m|m|m<;>omega
structure fC (B:Nat)(w w':ax):Prop where
 os:w'.os=w.os
 tape:w'.tape=w.tape
 output:w'.output=w.output
 size:w.heap.size<=w'.heap.size
 low:∀k:Nat,k<w.heap.size->k<B->w'.heap[k]?=w.heap[k]?
 ib:∀(k:Nat) cs e m,w.heap[k]?=some (Obj.cells cs e m)->e≠231->e≠107->w'.heap[k]?=w.heap[k]?
section
variable {B:Nat}{w w' w'':ax}
theorem fC.refl (B:Nat)(w:ax):fC B w w:=⟨rfl,rfl,rfl,aD _,fun _ _ _=>rfl,fun _ _ _ _ _ _ _=>rfl⟩
theorem fC.trans (h:fC B w w')(k:fC B w' w''):fC B w w'':=
 ⟨k.os.trans h.os,k.tape.trans h.tape,k.output.trans h.output,aT h.size k.size,fun i hi hb=>(k.low i (aM hi h.size) hb).trans (h.low i hi hb),fun i b e m hi c d=>(k.ib i b e m ((h.ib i b e m hi c d).trans hi) c d).trans (h.ib i b e m hi c d)⟩
theorem fC.of (h:Below w.heap.size w w'):fC B w w':=⟨h.os,h.tape,h.output,h.size,fun k hk _=>h.block k hk,fun k _ _ _ hi _ _=>h.block k (lt_of_some hi)⟩
theorem fC.below (h:fC B w w')(hB:B<=w.heap.size):Below B w w':=⟨h.os,h.tape,h.output,h.size,fun k hk=>h.low k V hk⟩
theorem fC.set {pk o:Nat}{b:Array Value}{m:Nat×Nat}{e:TypeId}{v:Value}(hp:w.heap[pk]?=some (.cells b e m))(he:e=231\/e=107)(hB:B<=pk):fC B w (w.setCell ⟨pk,o,none⟩ v):=
 ⟨rfl,rfl,rfl,by simp[World.setCell],fun k _ hk=>aU _ _ _ _ (fun c=>by have c:k=pk:=c;omega),fun k g i j hk d f=>aU _ _ _ _ (fun c=>by
  rw[c,hp] at hk;simp at hk;rcases he with he|he
  ·exact d (hk.2.1.symm.trans he)
  ·exact f (hk.2.1.symm.trans he))⟩
theorem fC.grown {row:Option Nat}(g:w.grownBy w' row)(hr:∀k,row=some k->B<=k/\∀b e m,w.heap[k]?=some (.cells b e m)->e=231\/e=107):fC B w w':=
 ⟨g.os,g.tape,g.output,g.size,fun k hk hb=>g.block k hk (fun e=>by have:=(hr k e.symm).1;omega),fun k b e m hk d f=>g.block k (lt_of_some hk) (fun c=>((hr k c.symm).2 b e m hk).elim d f)⟩
theorem fj.mC {ad:Option Addr}{l:List _}(h:fj w ad l)(k:fC B w w'):fj w' ad l:=by exact sI
end
def fJ (w0 w:ax)(m:List dT)(w':ax)(b:List dT):Prop:=fC w0.heap.size w w'/\∀k,fp b k->fp m k\/w.heap.size<=k
theorem fJ.refl (w0 w:ax)(m:List dT):fJ w0 w m w m:=⟨fC.refl _ _,fun _ h=>aK h⟩
theorem fJ.trans {w0 w w' b:ax}{m d e:List dT}(h:fJ w0 w m w' d)(k:fJ w0 w' d b e):fJ w0 w m b e:=
 ⟨h.1.trans k.1,fun i hi=>(k.2 i hi).elim (h.2 i) (fun c=>aJ (aT h.1.size c))⟩
theorem fJ.of {w0 w w':ax}{m:List dT}(h:Below w.heap.size w w'):fJ w0 w m w' m:=⟨fC.of h,fun _ h=>aK h⟩
theorem fJ.new {w0 w w' b:ax}{m d:List dT}{X:Nat->Prop}(h:fJ w0 w m w' d)(f:Fr X w' b)(g:∀k,X k->w.heap.size<=k):fJ w0 w m b d:=
 ⟨⟨f.os.trans h.1.os,f.tape.trans h.1.tape,f.output.trans h.1.output,aT h.1.size f.size,fun k hk hb=>(f.block k (aM hk h.1.size) (fun c=>by have:=g k c;omega)).trans (h.1.low k hk hb),
  fun k i e mm hk j l=>(f.block k (aM (lt_of_some hk) h.1.size) (fun c=>by have:=g k c;have:=lt_of_some hk;omega)).trans (h.1.ib k i e mm hk j l)⟩,h.2⟩
def kB (ms:List Int)(x:Int):Option Value:=if ms.contains x=true then some (ah (ms.idxOf x:Int)) else none
theorem JW {ms:List Int}{a:Int}(hn:a∉ms):jG (kB ms) a (ah ms.length)=kB (ms++[a]):=by
 funext b
 unfold jG kB;by_cases e:b=a
 ·subst e;rw[aI rfl,aI Z,List.idxOf_append,aG hn];simp
 ·rw[aG e];by_cases c:b∈ms
  ·rw[aI (by simp[c]),aI (by simp[c]),List.idxOf_append,aI c]
  ·rw[aG (by simpa using c),aG (by simp[c,e])]
theorem AT {ms:List Int}{a:Int}(h:a∉ms):kB ms a=none:=by unfold kB;rw[aG (by simpa using h)]
theorem JX {ms:List Int}{a:Int}(h:a∈ms):kB ms a=some (ah (ms.idxOf a:Int)):=by unfold kB;rw[aI (by simpa using h)]
structure fg (w0 w:ax)(kb ch bY:Nat)(s:cQ)(vn:Value)(m:List dT):Prop where
 blk:w.heap[kb]?=some (.cells #[aj bY,.map (some ch),vn] 231 (0,0))
 lo:w0.heap.size<=kb/\w0.heap.size<=ch
 mp:es w ch s.1.length (kB s.1)
 row:w.ownsRow w0.heap.size 107 2 vn m.length (nv m)
 nd:hZ m=s.2
 fl:∀x∈m,fj w x.2.1 x.2.2.2
 eH:Below w0.heap.size w0 w
section
variable {w0 w w':ax}{kb ch bY:Nat}{s:cQ}{vn:Value}{m:List dT}
theorem fg.below (h:fg w0 w kb ch bY s vn m)(hb:Below w.heap.size w w'):fg w0 w' kb ch bY s vn m:=
 ⟨(hb.block kb (lt_of_some h.blk)).trans h.blk,h.lo,h.mp.same (hb.block ch h.mp.lt),cH h.row (fun k hk=>hb.block k (cn h.row k hk).2),h.nd,fun x b=>(h.fl x b).mC (fC.of (B:=0) hb),h.eH.trans (hb.mono h.eH.size)⟩
theorem fg.cells (h:fg w0 w kb ch bY s vn m):w.cell? (aq kb 0)=some (aj bY)/\w.cell? (aq kb 1)=some (.map (some ch))/\w.cell? (aq kb 2)=some vn/\kb<w.heap.size:=
 ⟨by simp[World.cell?,h.blk],by simp[World.cell?,h.blk],by simp[World.cell?,h.blk],lt_of_some h.blk⟩
theorem fg.len (h:fg w0 w kb ch bY s vn m):m.length=s.2.length:=by rw[<-h.nd];simp[hZ]
theorem fg.fb (h:fg w0 w kb ch bY s vn m)(k:Nat)(hk:fp m k):k<w.heap.size:=by exact xD
theorem fg.but {X:Nat->Prop}(h:fg w0 w kb ch bY s vn m)(f:Fr X w w')(hX:∀k,k<w.heap.size->X k->(∃cs,w.heap[k]?=some (.cells cs 97 (0,0)))/\¬fp m k/\w0.heap.size<=k):fg w0 w' kb ch bY s vn m:=by
 obtain⟨j,l,d⟩:=h.mp.blk;have n1:¬X kb:=fun c=>by obtain⟨⟨cs,hc⟩,_⟩:=hX kb (lt_of_some h.blk) c;rw[h.blk] at hc;simp at hc
 have g:¬X ch:=fun c=>by obtain⟨⟨cs,hc⟩,_⟩:=hX ch h.mp.lt c;rw[d] at hc;simp at hc
 refine⟨(f.block kb (lt_of_some h.blk) n1).trans h.blk,h.lo,h.mp.same (f.block ch h.mp.lt g),cH h.row (fun k hk=>f.block k (cn h.row k hk).2 (fun c=>?_)),h.nd,fun x hx=>?_,h.eH.trans ⟨f.os,f.tape,f.output,f.size,fun k hk=>f.block k (aM hk h.eH.size) (fun c=>by have:=(hX k (aM hk h.eH.size) c).2.2;omega)⟩⟩
 ·obtain⟨⟨cs,hc⟩,_⟩:=hX k (cn h.row k hk).2 c;obtain⟨n,i⟩:=e6 h.row k hk;rw[i] at hc;simp at hc
 ·have hl:=h.fl x hx;exact xz
end
def gH (T:List cD)(wt:List b7)(a:Int):List (Int×Int):=if(T.getD a.toNat t0).1=5 then(eg wt a).map (fun x=>((3:Int),x)) else(T.getD a.toNat t0).2.1
theorem JY {T:List cD}{wt:List b7}{a:Int}(b:(T.getD a.toNat t0).1=5->(T.getD a.toNat t0).2.1=[]):(gH T wt a).map gu=gR T wt a:=by
 unfold gH gR;by_cases c:(T.getD a.toNat t0).1=5
 ·rw[aI c,aI c,b c];simp[eg,gu]
 ·rw[aG c,aG c,List.append_nil]
section
variable {bY:Nat}{b_ bZ:Int}{l:gG}{s:ck}{w:ax}
theorem JZ (h:dS bY b_ bZ l s w)(G:Nat)(hk:w.cell? (aq G 0)=some (aj bY))(a:Int)(ha:0<=a/\cv s.T a.toNat)(a1:s.T.length<=10000)(hw:s.wt.length<=10000):
 Calls prog 254 #[aj G,ah a] w fun e w'=>∃ad cap,e=.returned (.slice ad (gH s.T s.wt a).length cap)/\fj w' ad (gH s.T s.wt a)/\Below w.heap.size w w':=by
 obtain⟨P,hi,Q,R,S⟩:=info_parts rG;have al:a<10000:=by have:=ha.2.1;omega
 have L:=h.g2.mp.look (t:=184) (e:=220) underlying184 (mv w) (x:=a) ha.1 V;rw[ja ha] at L;dsimp only [Option.getD_some,fX,eD] at L;obtain⟨_,_,c2,_,_,c5,_,_,a2⟩:=h.cells;have lk:=aQ w _ hk;have H:=fj.of (h.g2.fl a.toNat ha.2)
 have b1:=au w (.cells #[.int .i64 (s.T.getD a.toNat t0).1,.slice (l.fm a.toNat).1 (s.T.getD a.toNat t0).2.1.length (l.fm a.toNat).2] 220)
 have I:=H.mC (fC.of (B:=0) b1)
 have g1:=h.below b1;have v:=sN _ l.bp _ l.a1 l.k1 s.wt a g1.g3.sd.blk (g8 g1.g3.sd.q0) V;have U:=aT (oW s.wt a) hw;by_cases g:(s.T.getD a.toNat t0).1=5
 ·have u:gH s.T s.wt a=(eg s.wt a).map (fun x=>((3:Int),x)):=by unfold gH;rw[aI g]
  rw[u];rw[g] at L b1 v;have i:=hide b1;generalize (l.fm a.toNat).1=ad at*;generalize (l.fm a.toNat).2=cp at*;generalize (s.T.getD a.toNat t0).2.1.length=n at*;generalize eg s.wt a=A at*;rw[aW];go_enter func254,ntmps254;go_wp2_with fail;refine v.mono ?_;rintro e w1 ⟨bb,ge,rfl,W,X⟩
  have J:=hide (i.o.trans (X.mono i.o.size))
  have Y:=hide (gI W)
  have s1:=J.o.size;go_wp2_with fail
  go_loopw [6,33] (fun tv iv wr=>∃(j:Nat)(c:Option Addr)(d:Nat),j<=A.length/\iv=ah j/\tv=.slice c j d/\wr.ownsRow w1.heap.size 97 2 (.slice c j d) j (ev ((A.take j).map (fun x=>((3:Int),x))))/\Below w1.heap.size w1 wr) (fun _ iv _=>A.length-(intOf iv).toNat)
  exact⟨0,none,0,aX _,rfl,rfl,bc _ _ _ _,aH _ _⟩
  ·
    obtain⟨j,c,d,b,rfl,rfl,m,hb⟩:=hrel;by_cases K:j<A.length
    ·obtain⟨ab,o,ag,lb,ai⟩:=Y.o V;have hc:=(hb.cell (p:=aq ab (o+j)) lb).trans (ai j K)
     have M:ay (ev ((A.take (j+1)).map (fun x=>((3:Int),x)))=ev ((A.take j).map (fun x=>((3:Int),x)))++[ah 3,ah (A.getD j 0)]):=by show _=_;rw[gy A j K 0,List.map_append,iT];rfl
     subst ag;have am:=hb.size;generalize A.getD j 0=y at*;generalize ev ((A.take j).map (fun x=>((3:Int),x)))=L at*;go_wp2_with fail;refine(ox y wr).mono ?_;rintro e an ⟨rfl,C⟩
     have D:=cH m (fun k e=>C.block k (cn m k e).2)
     have E:=hb.trans (C.mono am)
     have ao:=E.size;clear m hb C hc;go_wp2_with (at_builtin;refine wpList_append_own_at _ rfl _ _ 57 rfl w1.heap.size 97 P (.agg #[ah 0,ah 0]) 2 16 underlying57 hi Q R S rfl aa (.slice c j d) j L rfl (gd D _) ⟨an.heap.size,0,none⟩ 1 1 [ah 3,ah y] rfl rfl ?_ ?_ ?_ ?_ ?_ ?_;(intro j ap b;match j,b with|0,b=>(simp at b;subst b;simp[Addr.add])|1,b=>(simp at b;subst b;simp[Addr.add]));(intro ap q;simp at q;rcases q with q|q<;>(subst q;rfl));(unfold maxLen;omega);omega;(simp;omega);intro bd ar F N _ aB;obtain⟨b4,O,aF⟩:=eU F (Nat.succ_pos _);subst aF)
     have aR:ar.ownsRow w1.heap.size 97 2 (.slice (ak b4) (j+1) O) (j+1) (ev ((A.take (j+1)).map (fun x=>((3:Int),x)))):=by rw[M.o];exact F
     have aV:=(E.alloc ao _).grown N (by simp;omega) (fun k e=>(cn D k e.symm).1)
     clear F N aB D E M;go_wp2_with fail;go_roundw;exact⟨j+1,ak b4,O,V,af,rfl,aR,aV⟩
     simp[intOf];omega
    ·obtain rfl:j=A.length:=V;rw[bm] at m;go_wp2_with fail;go_ret;refine⟨c,d,rfl,?_,J.o.trans (hb.mono s1)⟩
     have a0:wr.ownsRow w1.heap.size 97 2 (.slice c (A.map (fun x=>((3:Int),x))).length d) (A.map (fun x=>((3:Int),x))).length (ev (A.map (fun x=>((3:Int),x)))):=by rw[aW];exact m
     exact fj.of a0
 ·have u:gH s.T s.wt a=(s.T.getD a.toNat t0).2.1:=by unfold gH;rw[aG g]
  rw[u];have k5:((s.T.getD a.toNat t0).1!=5)=true:=by simpa using g
  have i:=dq I b1;clear u g H I g1 b1 h ha v U;generalize (s.T.getD a.toNat t0).2.1=f at*;generalize (l.fm a.toNat).1=ad at*;generalize (l.fm a.toNat).2=cp at*;generalize (s.T.getD a.toNat t0).1=kd at*;go_enter func254,ntmps254;go_wp2_with fail;go_ret;exact⟨ad,⟨cp,rfl⟩,i.o.1,i.o.2⟩
end
def pN (w0:ax)(b ch bY:Nat)(T:List cD)(M:cQ->Int->cQ)(n:Nat):Prop:=
 ∀(w:ax)(s:cQ)(d:Value)(m:List dT)(a:Int),fg w0 w b ch bY s d m->e5 (tI T.length) s->0<=a/\cv T a.toNat->a∉s.1->T.length<=s.1.length+n->
  Calls prog 251 #[aj b,ah a] w fun e w'=>∃f c,e=.returned (ah s.1.length)/\fg w0 w' b ch bY (M s a) f c/\fJ w0 w m w' c
def mD (s:cQ)(a:Int):Int:=if s.1.contains a=true then(s.1.idxOf a:Int) else s.1.length
def mE (M:cQ->Int->cQ)(s:cQ)(a:Int):cQ:=if s.1.contains a=true then s else M s a
theorem J0 {T:List cD}{M:cQ->Int->cQ}{s:cQ}{v:Int×Int}(h:eZ T v)(b:v.1=3):ei M (tI T.length) s (gu v)=((3,mD s v.2),mE M s v.2):=by
 unfold mD mE;cases hs:s.1.contains v.2
 ·rw[HY h b hs,aG Z,aG Z]
 ·rw[HX h b hs,aI rfl,aI rfl]
theorem J3 (w:ax):(zeroValue 2).run prog w=.ok (ah 0) w:=ae
section
variable {w0 w:ax}{kb ch bY n:Nat}{T:List cD}{kd:Int->Int}{sh:Int->List Int}{M:cQ->Int->cQ}{s:cQ}{vn:Value}{m:List dT}
theorem J4 (hM:pN w0 kb ch bY T M n)(h:fg w0 w kb ch bY s vn m)(ho:e5 (tI T.length) s)(hn:T.length<=s.1.length+n)(a:Int)(ha:0<=a/\cv T a.toNat)(o:T.length<=10000):
 Calls prog 240 #[aj kb,ah a] w fun e w'=>∃d c,e=.returned (ah (mD s a))/\fg w0 w' kb ch bY (mE M s a) d c/\fJ w0 w m w' c:=by
 have H:=hide h;have k:=hide hM;obtain⟨c0,c1,c2,lk⟩:=h.cells;have al:a<10000:=by have:=ha.2.1;omega
 have L:=h.mp.look_ok (t:=229) (e:=2) underlying229 (J3 w) (x:=a) ha.1 V;by_cases b:a∈s.1
 ·rw[JX b] at L;have f:mD s a=(s.1.idxOf a:Int):=by unfold mD;rw[aI (by simpa using b)]
  have g:mE M s a=s:=by unfold mE;rw[aI (by simpa using b)]
  rw[f,g];generalize s.1.idxOf a=j at L⊢;go_enter func240,ntmps240;go_wp2;go_ret;exact⟨vn,m,rfl,H.o,fJ.refl _ _ _⟩
 ·rw[AT b] at L;have f:mD s a=s.1.length:=by unfold mD;rw[aG (by simpa using b)]
  have g:mE M s a=M s a:=by unfold mE;rw[aG (by simpa using b)]
  rw[f,g];have P:=k.o w s vn m a H.o ho ha b hn;generalize M s a=p at P⊢;generalize s.1.length=j at P⊢;go_enter func240,ntmps240;go_wp2_with fail;refine P.mono ?_;rintro e w1 ⟨d,c,rfl,l,k1⟩
  have i:=dq l k1;go_wp2;go_ret;exact⟨d,c,rfl,i.o.1,i.o.2⟩
theorem AU (hM:pN w0 kb ch bY T M n)(bg:kZ (tI T.length) kd sh n M)(h:fg w0 w kb ch bY s vn m)(ho:e5 (tI T.length) s)(hn:T.length<=s.1.length+n)(bi:T.length<=10000)(l:List (Int×Int))(hq:∀v∈l,eZ T v)(ad:Option Addr)(cap:Nat)(hl:fj w ad l)(hm:l.length<=100000):
 Calls prog 211 #[aj kb,.slice ad l.length cap] w fun e w'=>∃b0 W a2 c2,e=.returned (.slice a2 l.length c2)/\w'.ownsRow w.heap.size 97 2 (.slice a2 l.length c2) l.length (ev (dA M (tI T.length) s (l.map gu)).1)/\fg w0 w' kb ch bY (dA M (tI T.length) s (l.map gu)).2 b0 W/\fJ w0 w m w' W/\(∀k,fp W k->some k≠(Value.slice a2 l.length c2).ownBlock):=by
 obtain⟨X,hi,Y,ab,ag⟩:=info_parts rG;have b1:=hide hM;have b2:=hide bg;have b3:=hide hl;have N:=hide h;have b5:=dq ho hn;have b6:=hide hq;have b7:=hide bi;clear hM bg hl h ho hq hn bi;go_enter func211,ntmps211;go_wp2_with (at_make;refine wpList_make_own _ rfl _ _ 57 rfl w.heap.size 97 X (.agg #[ah 0,ah 0]) 2 underlying57 hi Y ab .i64 .i64 _ l.length rfl rfl rfl (by rw[ag];omega) (by unfold maxLen;omega) bW ?_;intro w1 bl bn)
 have ai:=(av w).grown bn bW (fun k e=>by cases e)
 go_loopw [5,13] (fun tv iv wr=>∃(j:Nat)(i:List (Int×Int))(s1:cQ)(O:Value)(m1:List dT)(a2:Option Addr)(c2:Nat),j<=l.length/\iv=ah j/\ay (dA M (tI T.length) s ((l.take j).map gu)=(i,s1))/\tv=.slice a2 j c2/\wr.ownsRow w.heap.size 97 2 (.slice a2 j c2) j (ev i)/\ay (fg w0 wr kb ch bY s1 O m1)/\ay (fJ w0 w m wr m1)/\ay (∀k,fp m1 k->some k≠(Value.slice a2 j c2).ownBlock)/\ay (e5 (tI T.length) s1/\T.length<=s1.1.length+n)) (fun _ iv _=>l.length-(intOf iv).toNat)
 ·exact⟨0,[],s,vn,m,_,_,aX _,rfl,rfl,rfl,bl,N.o.below ai,fJ.of ai,fun k hk e=>by have:=N.o.fb k hk;simp[Value.ownBlock] at e;omega,b5.o⟩
 ·
   obtain⟨j,i,s1,O,m1,a2,c2,b,rfl,al,rfl,q,u,A,Q,B⟩:=hrel;clear bl bn ai;by_cases am:j<l.length
   ·obtain⟨cm,co,b8,cp,hc⟩:=(b3.o.mC A.o.1).1 V;obtain⟨b9,ca⟩:=hc j am;subst b8;clear hc;have R:=b6.o _ (getD_in (x:=(0,0)) am)
    have o:=r4 M (tI T.length) s ((l.take j).map gu) (gu (l.getD j (0,0)))
    rw[al.o] at o;have bo:(l.take (j+1)).map gu=(l.take j).map gu++[gu (l.getD j (0,0))]:=by rw[gy l j am (0,0),List.map_append];rfl
    rw[<-bo] at o;have G:=oH b2.o B.o.1 (by rw[ns];exact B.o.2) (gu (l.getD j (0,0)))
    have C:ay (_/\T.length<=(ei M (tI T.length) s1 (gu (l.getD j (0,0)))).2.1.length+n):=⟨G.ok,by have:=G.le;have:=B.o.2;omega⟩
    have o:=hide o;clear G bo;generalize l.getD j (0,0)=v at*;obtain⟨v0,v1⟩:=v;dsimp only at b9 ca;have cq:IntKind.i64.wrap ((j:Int)+1)=(j:Int)+1:=by rw[bk];omega
    have d:=au wr (.cells #[.int .i64 v0,.int .i64 v1] 97)
    have an:=aO wr (.cells #[.int .i64 v0,.int .i64 v1] 97)
    have cr:=A.o.1.size;by_cases bp:v0=3
    ·subst bp;have S:=J0 (M:=M) (s:=s1) R rfl;rw[S] at o C;dsimp only at o C;have P:=J4 b1.o (u.o.below d) B.o.1 B.o.2 v1 (R.2 rfl) b7.o;clear S R;generalize mD s1 v1=z at*;generalize mE M s1 v1=s2 at*;go_wp2_with fail;refine P.mono ?_;rintro e f ⟨cb,D,rfl,cc,E⟩
     have br:=(E.1.ib _ _ _ _ an aa aa).trans an;obtain⟨cd,y1,ce,cf⟩:=di br;have bs:=cH q (fun k hk=>by obtain⟨U,F⟩:=e6 q k hk;have bt:=d.block k (cn q k hk).2;exact(E.1.ib k _ _ _ (bt.trans F) aa aa).trans bt)
     have bx:ay (∀k,fp D k->_):=fun k hk e=>(E.2 k hk).elim (fun c=>Q.o k c e) (fun c=>by have:=(cn q k e).2;simp at c;omega)
     have bZ:fJ w0 wr m1 f D:=(fJ.of d).trans E;have cg:¬fp D wr.heap.size:=fun c=>(E.2 _ c).elim (fun c=>by have:=u.o.fb _ c;omega) (fun c=>by simp at c;omega)
     have ao:Fr (fun k=>k=wr.heap.size) f (f.setCell ⟨wr.heap.size,1,none⟩ (.int .i64 z)):=(Fr.refl (fun k=>k=wr.heap.size) f).set wr.heap.size 1 _ rfl;have H:=hide (cc.but ao (fun k _ e=>by have e:=e;rw[e];exact⟨⟨_,br⟩,cg,by have:=u.o.eH.size;omega⟩))
     have ap:=hide (A.o.trans (bZ.new ao (fun k e=>by have e:k=wr.heap.size:=e;omega)))
     have I:(f.setCell ⟨wr.heap.size,1,none⟩ (.int .i64 z)).ownsRow w.heap.size 97 2 (.slice a2 j c2) j (ev i):=cH bs (fun k hk=>ao.block k (cn bs k hk).2 (fun c=>by have c:k=wr.heap.size:=c;have:=(cn q k hk).2;omega))
     have q0:(f.setCell ⟨wr.heap.size,1,none⟩ (.int .i64 z)).cell? (aq wr.heap.size 0)=some (ah 3):=(a5 f ⟨wr.heap.size,1,none⟩ ⟨wr.heap.size,0,none⟩ _ Z).trans cd;have q1:(f.setCell ⟨wr.heap.size,1,none⟩ (.int .i64 z)).cell? (aq wr.heap.size 1)=some (ah z):=bf _ _ _ y1;have ci:(f.setCell ⟨wr.heap.size,1,none⟩ (.int .i64 z)).heap.size=f.heap.size:=by simp[World.setCell]
     have cj:=ce 1;have ck:=bZ.1.size
     go_upto_region 7 with fail
     generalize f.setCell ⟨wr.heap.size,1,none⟩ (.int .i64 z)=t at*;have p:=hide I;have cs:w.heap.size<=t.heap.size:=V;clear y1 cj cf ci ck;go_wp2_with (at_builtin;refine wpList_append_own_at _ rfl _ _ 57 rfl w.heap.size 97 X (.agg #[.int .i64 0,.int .i64 0]) 2 16 underlying57 hi Y ab ag rfl aa (.slice a2 j c2) j (ev i) rfl (gd I _) ⟨t.heap.size,0,none⟩ 1 1 [.int .i64 3,.int .i64 z] rfl rfl ?_ ?_ ?_ ?_ ?_ ?_;(intro j ar b;match j,b with|0,b=>(simp at b;subst b;simp[Addr.add])|1,b=>(simp at b;subst b;simp[Addr.add]));(intro ar g;simp at g;rcases g with g|g<;>(subst g;rfl));(unfold maxLen;omega);omega;(simp;omega);intro cl aB J aF _ aR;obtain⟨b4,K,aV⟩:=eU J (Nat.succ_pos _);subst aV)
     have a0:aB.ownsRow w.heap.size 97 2 (.slice (ak b4) (j+1) K) (j+1) (ev (i++[(3,z)])):=by rw[iT];simpa[ev] using J
     have d:=au t (.cells #[.int .i64 3,.int .i64 z] 97)
     have L:=(Fr.refl _ _).grown aF (fun k e=>aK e.symm)
     have a1:=hide ((H.o.below d).but L (fun k _ e=>by obtain⟨U,F⟩:=e6 p.o k e;exact⟨⟨U,(d.block k (cn p.o k e).2).trans F⟩,fun c=>bx.o k c e,aT N.o.eH.size (cn p.o k e).1⟩))
     have bb:=hide ((ap.o.trans (fJ.of d)).new L (fun k e=>(cn p.o k e).1))
     have bd:=aR.imp id (fun e=>by simpa[Value.ownBlock] using e)
     have be:ay (∀k,fp D k->some k≠some b4):=fun k hk e=>bd.elim (fun c=>bx.o k hk (e.trans c)) (fun c=>by have:=H.o.fb k hk;simp at e;omega)
     go_wp2_with fail;go_roundw;exact⟨j+1,i++[(3,z)],s2,cb,D,ak b4,K,V,af,o,rfl,a0,a1,bb,be,C⟩
     simp[intOf];omega
    ·have S:=HW (M:=M) (s:=s1) R bp;rw[S] at o C;have H:=hide (u.o.below d)
     have ap:=hide (A.o.trans (fJ.of d))
     have I:=cH q (fun k hk=>d.block k (cn q k hk).2)
     obtain⟨q0,q1,_,_⟩:=di an
     go_upto_region 7 with fail
     generalize wr.alloc (.cells #[.int .i64 v0,.int .i64 v1] 97)=t at*;have p:=hide I;go_wp2_with (at_builtin;refine wpList_append_own_at _ rfl _ _ 57 rfl w.heap.size 97 X (.agg #[.int .i64 0,.int .i64 0]) 2 16 underlying57 hi Y ab ag rfl aa (.slice a2 j c2) j (ev i) rfl (gd I _) ⟨t.heap.size,0,none⟩ 1 1 [.int .i64 v0,.int .i64 v1] rfl rfl ?_ ?_ ?_ ?_ ?_ ?_;(intro j ar b;match j,b with|0,b=>(simp at b;subst b;simp[Addr.add])|1,b=>(simp at b;subst b;simp[Addr.add]));(intro ar g;simp at g;rcases g with g|g<;>(subst g;rfl));(unfold maxLen;omega);omega;(simp;omega);intro cl aB J aF _ aR;obtain⟨b4,K,aV⟩:=eU J (Nat.succ_pos _);subst aV)
     have a0:aB.ownsRow w.heap.size 97 2 (.slice (ak b4) (j+1) K) (j+1) (ev (i++[(v0,v1)])):=by rw[iT];simpa[ev] using J
     have d:=au t (.cells #[.int .i64 v0,.int .i64 v1] 97)
     have L:=(Fr.refl _ _).grown aF (fun k e=>aK e.symm)
     have a1:=hide ((H.o.below d).but L (fun k _ e=>by obtain⟨U,F⟩:=e6 p.o k e;exact⟨⟨U,(d.block k (cn p.o k e).2).trans F⟩,fun c=>Q.o k c e,aT N.o.eH.size (cn p.o k e).1⟩))
     have bb:=hide ((ap.o.trans (fJ.of d)).new L (fun k e=>(cn p.o k e).1))
     have bd:=aR.imp id (fun e=>by simpa[Value.ownBlock] using e)
     have be:ay (∀k,fp m1 k->some k≠some b4):=fun k hk e=>bd.elim (fun c=>Q.o k hk (e.trans c)) (fun c=>by have:=H.o.fb k hk;simp at e;omega)
     go_wp2_with fail;go_roundw;exact⟨j+1,i++[(v0,v1)],s1,O,m1,ak b4,K,V,af,o,rfl,a0,a1,bb,be,C⟩
     simp[intOf];omega
   ·obtain rfl:j=l.length:=V;rw[bm] at al;go_wp2_with fail;go_ret;rw[al.o];exact⟨O,m1,a2,c2,rfl,q,u.o,A.o,Q.o⟩
end
theorem J5:(prog.info? 107).map (fun i=>(i.zero,i.size,i.bytes))=some (some (.agg #[ah 0,.slice none 0 0]),2,32):=ae
section
variable {w0 w w' w'':ax}{kb ch bY n:Nat}{s:cQ}{vn:Value}{m:List dT}
theorem fg.turned (h:fg w0 w kb ch bY s vn m)(f:Fr (fun k=>k=ch) w w'):fC w0.heap.size w w'/\w'.heap[kb]?=some (.cells #[aj bY,.map (some ch),vn] 231 (0,0))/\w'.ownsRow w0.heap.size 107 2 vn m.length (nv m)/\(∀x∈m,fj w' x.2.1 x.2.2.2)/\Below w0.heap.size w0 w':=by
 obtain⟨g,i,hb⟩:=h.mp.blk;have hk:fC w0.heap.size w w':=⟨f.os,f.tape,f.output,f.size,fun k hk hl=>f.block k hk (fun e=>by have e:k=ch:=e;have:=h.lo.2;omega),fun k j e mm hk _ _=>f.block k (lt_of_some hk) (fun c=>by have c:k=ch:=c;rw[c,hb] at hk;simp at hk)⟩
 refine⟨hk,(f.block kb (lt_of_some h.blk) (fun c=>?_)).trans h.blk,cH h.row (fun k e=>f.block k (cn h.row k e).2 (fun c=>?_)),fun x d=>(h.fl x d).mC hk,h.eH.trans (hk.below h.eH.size)⟩
 ·have c:kb=ch:=c;have:=h.blk;rw[c,hb] at this
  simp at this
 ·have c:k=ch:=c;obtain⟨l,b⟩:=e6 h.row k e;rw[c,hb] at b;simp at b
end
theorem fg.grown {w0 w t g:ax}{b ch bY:Nat}{ms:List Int}{u:List (Int×List (Int×Int))}{j l:Value}{m:List dT}{kd:Int}
 (hk:w.heap[b]?=some (.cells #[aj bY,.map (some ch),j] 231 (0,0)))(lo:w0.heap.size<=b/\w0.heap.size<=ch)(hm:es w ch ms.length (kB ms))(hr:w.ownsRow w0.heap.size 107 2 j m.length (nv m))(v:hZ m=u)(B:∀x∈m,fj w x.2.1 x.2.2.2)(hb:Below w0.heap.size w0 w)
 (i:Below w.heap.size w t)(A:g.ownsRow w0.heap.size 107 2 l (m.length+1) (nv m++[ah kd,.slice none 0 0]))(g4:t.grownBy g j.ownBlock):
 fg w0 (g.setCell ⟨b,2,none⟩ l) b ch bY (ms,u++[(kd,[])]) l (m++[(kd,none,0,[])])/\fJ w0 w m (g.setCell ⟨b,2,none⟩ l) (m++[(kd,none,0,[])])/\g.heap[b]?=some (.cells #[aj bY,.map (some ch),j] 231 (0,0)):=by
 have C:=hm;obtain⟨G,H,n⟩:=hm.blk;have D:fC w0.heap.size w g:=(fC.of i).trans (fC.grown g4 (fun k e=>⟨(cn hr k e.symm).1,fun I ty mm hc=>by obtain⟨q,f⟩:=e6 hr k e.symm;have:=(i.block k (lt_of_some f)).trans f;rw[this] at hc;simp at hc;exact aJ hc.2.1.symm⟩))
 have p:g.heap[b]?=some (.cells #[aj bY,.map (some ch),j] 231 (0,0)):=(g4.block b (aM (lt_of_some hk) i.size) (fun e=>by obtain⟨q,f⟩:=e6 hr b e;rw[hk] at f;simp at f)).trans ((i.block b (lt_of_some hk)).trans hk)
 have s:fC w0.heap.size w (g.setCell ⟨b,2,none⟩ l):=D.trans (fC.set p (aK rfl) lo.1)
 have E:ch≠b:=fun e=>by rw[e,hk] at n;simp at n
 have F:(nv (m++[(kd,none,0,[])]:List dT))=nv m++[ah kd,.slice none 0 0]:=by rw[wc];rfl
 refine⟨⟨?_,lo,?_,?_,?_,fun x d=>?_,hb.trans (s.below hb.size)⟩,⟨s,fun k hk=>?_⟩,p⟩
 ·simp only [World.setCell,Array.getElem?_modify,if_true,p,Option.map_some];rfl
 ·refine C.same ((aU _ _ _ _ E).trans ((g4.block ch (aM (lt_of_some n) i.size) (fun e=>?_)).trans (i.block ch (lt_of_some n))))
  obtain⟨q,f⟩:=e6 hr ch e;rw[n] at f;simp at f
 ·rw[F,aZ];refine cH A (fun k e=>aU _ _ _ _ (fun c=>?_))
  have c:k=b:=c;obtain⟨q,f⟩:=e6 A k e;rw[c,p] at f;simp at f
 ·simp[hZ] at v⊢;exact v
 ·rcases List.mem_append.1 d with d|d
  ·exact(B x d).mC s
  ·simp at d;subst d;exact fj.nil
 ·obtain⟨x,d,hl,o,e⟩:=hk;rcases List.mem_append.1 d with d|d
  ·exact aK ⟨x,d,hl,o,e⟩
  ·simp at d;subst d;simp at hl
theorem fg.filled {w0 w:ax}{f ch bY g cap len:Nat}{s:cQ}{m:List dT}(h:fg w0 w f ch bY s (.slice (ak g) len cap) m){i:Nat}{k0:Int}{v0:List (Int×Int)}(hi:s.2[i]?=some (k0,v0)){base c2:Nat}{a2:Option Addr}{b:List (Int×Int)}
 (hr:w.ownsRow base 97 2 (.slice a2 b.length c2) b.length (ev b)):
 fg w0 (w.setCell ⟨g,i*2+1,none⟩ (.slice a2 b.length c2)) f ch bY (s.1,s.2.set i (k0,b)) (.slice (ak g) len cap) (m.set i (k0,a2,c2,b))/\fC w0.heap.size w (w.setCell ⟨g,i*2+1,none⟩ (.slice a2 b.length c2))/\(∀k,fp (m.set i (k0,a2,c2,b)) k->fp m k\/base<=k):=by
 obtain⟨q,j⟩:=e6 h.row g rfl;have hg:=(cn h.row g rfl).1;have d:fC w0.heap.size w (w.setCell ⟨g,i*2+1,none⟩ (.slice a2 b.length c2)):=fC.set j (aJ rfl) hg;obtain⟨x,hx,l⟩:∃x:dT,m[i]?=some x/\(x.1,x.2.2.2)=(k0,v0):=by exact x5
 have n:x.1=k0:=congrArg Prod.fst l;have p:len=m.length:=by
  rcases h.row.2 with⟨hv,_⟩|⟨t,u,v,hv,_⟩
  ·simp at hv
  ·simp at hv;exact hv.2.1
 refine⟨⟨(aU _ _ _ _ (fun c=>?_)).trans h.blk,h.lo,h.mp.same (aU _ _ _ _ (fun c=>?_)),?_,?_,fun y hy=>?_,h.eH.trans (d.below h.eH.size)⟩,d,fun k hk=>?_⟩
 ·have c:f=g:=c;have:=h.blk;rw[c,j] at this
  simp at this
 ·have c:ch=g:=c;obtain⟨A,B,hb⟩:=h.mp.blk;rw[c,j] at hb;simp at hb
 ·rw[a3,<-n,sr m i x a2 c2 b hx];have:=h.row;rw[<-p] at this⊢
  exact nQ this _ _
 ·rw[hZ,List.map_set];show((hZ m).set i (k0,b))=_;rw[h.nd]
 ·rcases List.mem_or_eq_of_mem_set hy with hy|hy
  ·exact(h.fl y hy).mC d
  ·subst hy;exact(fj.of hr).mC d
 ·obtain⟨y,hy,hl,o,e⟩:=hk;exact x4
theorem J6 {T:List cD}{x:Int}(h:0<=x/\cv T x.toNat)(b:T.length<=10000):eZ T (3,x):=by
 refine⟨?_,fun _=>h⟩
 have c:=h.2.1;have d:=h.1;dsimp only;rw[sc];unfold rc;rw[aG V,aG V]
theorem J7 {T:List cD}{wt:List b7}(hv:nt T wt){a:Int}(ha:0<=a/\cv T a.toNat):∀v∈gH T wt a,eZ T v:=fun v h=>by
 unfold gH at h;split at h
 ·obtain⟨x,b,rfl⟩:=List.mem_map.1 h;unfold eg at b;obtain⟨e,he,rfl⟩:=List.mem_map.1 b;exact J6 (hv.wv e (List.mem_filter.1 he).1).2 hv.l1
 ·exact hv.fv _ ha.2 v h
theorem J8 {T:List cD}{wt:List b7}(hv:nt T wt)(a:Int):(gH T wt a).length<=20000:=by
 unfold gH;split
 ·rw[aW];have b:=oW wt a;have c:=hv.l2;omega
 ·have:=hv.tl a.toNat;omega
section
variable {w0:ax}{kb ch bY:Nat}{b_ bZ:Int}{l:gG}{S:ck}
theorem J9 (hg:dS bY b_ bZ l S w0)(hv:nt S.T S.wt)(D:∀i,cv S.T i->(S.T.getD i t0).1=5->(S.T.getD i t0).2.1=[])(n:Nat)(M:cQ->Int->cQ)(hM:pN w0 kb ch bY S.T M n)(O:kZ (tI S.T.length) (gQ S.T) (gR S.T S.wt) n M):
 pN w0 kb ch bY S.T (fun s a=>((dA M (tI S.T.length) (s.1++[a],s.2++[(gQ S.T a,[])]) (gR S.T S.wt a)).2.1,(dA M (tI S.T.length) (s.1++[a],s.2++[(gQ S.T a,[])]) (gR S.T S.wt a)).2.2.set s.1.length (gQ S.T a,(dA M (tI S.T.length) (s.1++[a],s.2++[(gQ S.T a,[])]) (gR S.T S.wt a)).1))) (n+1):=by
 intro w s cC m a h ho ha hn hl;obtain⟨b5,hi,b6,b7,b8⟩:=info_parts J5;have Q:a∈tI S.T.length:=pI.2 ⟨ha.1,by have:=ha.2.1;have:=ha.1;omega⟩
 have aB:=hv.l1;have b9:=ho.lt Q hn;rw[ns] at b9;have al:a<10000:=by have:=ha.2.1;omega
 have ca:m.length=s.1.length:=by rw[h.len,ho.len]
 have U:=ho.more Q hn (gQ S.T a,[])
 have E:=mL M (tI S.T.length) (s.1++[a],s.2++[(gQ S.T a,[])]) (gR S.T S.wt a)
 have G:=oI O U (by rw[ns];simp;omega) (gR S.T S.wt a)
 have aF:(dA M (tI S.T.length) (s.1++[a],s.2++[(gQ S.T a,[])]) (gR S.T S.wt a)).2.2[s.1.length]?=some (gQ S.T a,[]):=by rw[G.old s.1.length Z,List.getElem?_append_right (by rw[ho.len];exact aD _),ho.len];simp
 have cD:s.1.length<(dA M (tI S.T.length) (s.1++[a],s.2++[(gQ S.T a,[])]) (gR S.T S.wt a)).2.1.length:=by
  have:=G.le;simp at this
  omega
 have cb:(dA M (tI S.T.length) (s.1++[a],s.2++[(gQ S.T a,[])]) (gR S.T S.wt a)).2.2.length=(dA M (tI S.T.length) (s.1++[a],s.2++[(gQ S.T a,[])]) (gR S.T S.wt a)).2.1.length:=G.ok.len;have W:=JY (wt:=S.wt) (D _ ha.2)
 have aR:(gH S.T S.wt a).length=(gR S.T S.wt a).length:=by rw[<-W,aW]
 have aV:ay (∀(b:ax)(a0:Value)(X:List dT)(ad:Option Addr)(cap:Nat),fg w0 b kb ch bY (s.1++[a],s.2++[(gQ S.T a,[])]) a0 X->fj b ad (gH S.T S.wt a)->
  Calls prog 211 #[aj kb,.slice ad (gH S.T S.wt a).length cap] b fun e w'=>∃cc Y a2 c2,e=.returned (.slice a2 (gH S.T S.wt a).length c2)/\w'.ownsRow b.heap.size 97 2 (.slice a2 (gH S.T S.wt a).length c2) (gH S.T S.wt a).length (ev (dA M (tI S.T.length) (s.1++[a],s.2++[(gQ S.T a,[])]) (gR S.T S.wt a)).1)/\fg w0 w' kb ch bY (dA M (tI S.T.length) (s.1++[a],s.2++[(gQ S.T a,[])]) (gR S.T S.wt a)).2 cc Y/\fJ w0 b X w' Y/\(∀k,fp Y k->some k≠(Value.slice a2 (gH S.T S.wt a).length c2).ownBlock)):=
  fun b a0 X ad cap D cd=>by
   have P:=AU hM O D U (by simp;omega) aB (gH S.T S.wt a) (J7 hv ha) ad cap cd (by have:=J8 hv a;omega)
   rw[W] at P;exact P
 have a1:ay (∀w1,Below w0.heap.size w0 w1->w1.cell? (aq kb 0)=some (aj bY)->Calls prog 254 #[aj kb,ah a] w1 fun e w'=>∃ad cap,e=.returned (.slice ad (gH S.T S.wt a).length cap)/\fj w' ad (gH S.T S.wt a)/\Below w1.heap.size w1 w'):=
  fun w1 hb hc=>JZ (hg.below hb) kb hc a ha aB hv.l2
 have ab:ay (∀w1,Below w0.heap.size w0 w1->w1.cell? (aq bY 2)=some (.map (some l.mb))/\(Instr.lookup 184 (.map (some l.mb)) (ah a) false).run prog w1=.ok (.agg #[ah (gQ S.T a),.slice (l.fm a.toNat).1 (S.T.getD a.toNat t0).2.1.length (l.fm a.toNat).2]) w1/\bY<w1.heap.size):=fun w1 hb=>by have g1:=hg.below hb;obtain⟨_,_,c2,_,_,_,_,_,ce⟩:=g1.cells;have L:=g1.g2.mp.look (t:=184) (e:=220) underlying184 (mv w1) (x:=a) ha.1 V;rw[ja ha] at L;exact⟨c2,L,ce⟩
 have cE:ay (bY<w0.heap.size):=hg.cells.2.2.2.2.2.2.2.2;obtain⟨w1,cf,ag,bb⟩:=h.mp.put (t:=229) (e:=2) underlying229 V (x:=a) ha.1 V (.int .i64 s.1.length)
 rw[JW hn] at ag;have bd:Fr (fun k=>k=ch) w w1:=(Fr.refl _ _).grown bb (fun k e=>aK (by cases e;rfl))
 have cg:=h.turned bd;have be:ay (es w1 ch (s.1++[a]).length (kB (s.1++[a]))):=by rw[aZ,List.length_singleton];exact ag
 have hlo:=h.lo;obtain⟨u,dF,ci⟩:=eE h.row;subst ci;obtain⟨c0,c1,c2,lk⟩:=h.cells;have bg:ay (hZ m=s.2):=h.nd;clear hM O G U hv hg ag bb bd W D ha h ho Q hn hl;dsimp only;generalize dA M (tI S.T.length) (s.1++[a],s.2++[(gQ S.T a,[])]) (gR S.T S.wt a)=R at*;rw[<-aR] at E;clear aR;generalize gH S.T S.wt a=cF at*;obtain⟨cG,cj⟩:=R;dsimp only at*;generalize gQ S.T a=kd at*;generalize (S.T.getD a.toNat t0).2.1.length=ck at*;generalize (l.fm a.toNat).1=cl at*;generalize (l.fm a.toNat).2=fc at*;generalize s.1.length=L at*;subst ca;obtain⟨ai,d,am,bi,A⟩:=cg;obtain⟨cm,G2,G3⟩:=ab.o w1 A;obtain⟨_,G4,_⟩:=ab.o w1.drew A.drew;have cn:(Instr.field 220 (.agg #[ah kd,.slice cl ck fc]) 0).run prog w1.drew=.ok (ah kd) w1.drew:=by first|rfl|kernel_rfl|simp[cI]
 have co:w1.cell? (aq kb 0)=some (aj bY):=aA d
 have bl:w1.cell? (aq kb 2)=some (.slice u m.length dF):=aA d
 have bn:w1.frozen? (aq kb 2)=false:=aC d
 have an:kb<w1.heap.size:=lt_of_some d;have o:ay (_/\_/\_/\_/\_):=⟨ai,d,am,bi,A⟩
 have bo:ay (fJ w0 w m w1 m):=⟨ai,fun k h=>aK h⟩
 have bp:some kb≠(Value.slice u m.length dF).ownBlock:=fun e=>by obtain⟨cJ,br⟩:=e6 am kb e;rw[d] at br;simp at br
 have cK:w0.heap.size<=w1.heap.size:=A.size;clear ai d am bi A ab G2;have B:=(au w1 (.cells #[.int .i64 kd,.slice none 0 0] 107)).drew;have bs:ay ((w1.alloc (.cells #[.int .i64 kd,.slice none 0 0] 107)).drew.ownsRow w0.heap.size 107 2 (.slice u m.length dF) m.length (nv m)):=cH (gd o.o.2.2.1 _) (fun _ _=>rfl)
 go_enter func251,ntmps251;go_wp2_with fail;clear cf c0 c1 c2 lk
 go_region_law (refine step_append_lies _ rfl (.tmp 22) (.tmp 34) 58 rfl w0.heap.size 107 b5 (.agg #[ah 0,.slice none 0 0]) 2 32 underlying58 hi b6 b7 b8 rfl aa (.slice u m.length dF) m.length (nv m) (by simp[Act.eval]) bs.o ⟨w1.heap.size,0,none⟩ 1 1 [ah kd,.slice none 0 0] (by simp[Act.eval]) rfl ?_ ?_ aa (by unfold maxLen;omega) V (by simp;omega) _ rfl ?_;(intro j cp f;match j,f with|0,f=>(simp at f;subst f;simp[Addr.add])|1,f=>(simp at f;subst f;simp[Addr.add]));(intro cp C;simp at C;rcases C with C|C<;>(subst C;rfl));intro b4 F H bt I cq cr;have cs:=I.cell (a:=⟨kb,2,none⟩) (v:=.slice u m.length dF) ((B.cell (p:=aq kb 2) an).trans bl) bp;have ct:H.frozen? (aq kb 2)=false:=(World.frozen?_of_block (a:=⟨kb,2,none⟩) (I.block _ (aM an B.size) bp)).trans ((B.frozen (p:=aq kb 2) an).trans bn))
 all_goals
  have cu:=fg.grown o.o.2.1 hlo be.o o.o.2.2.1 bg.o o.o.2.2.2.1 o.o.2.2.2.2 B bt I;obtain⟨bx,b0,_⟩:=cu;have ao:ay (fJ w0 w m (H.setCell ⟨kb,2,none⟩ (.slice (some ⟨b4,0,none⟩) (m.length+1) F)) (m++[(kd,none,0,[])])):=bo.o.trans b0;have J:ay (fg w0 (H.setCell ⟨kb,2,none⟩ (.slice (some ⟨b4,0,none⟩) (m.length+1) F)) kb ch bY (s.1++[a],s.2++[(kd,[])]) (.slice (ak b4) (m.length+1) F) (m++[(kd,none,0,[])])):=bx;clear bx b0 bo bs B o be bg bt I cq cr cs ct co bl bn cm G3 G4 cn;go_wp2_with fail;generalize H.setCell ⟨kb,2,none⟩ (.slice (some ⟨b4,0,none⟩) (m.length+1) F)=b at*;refine(a1.o b J.o.eH J.o.cells.1).mono ?_;clear a1;rintro e cw ⟨ad,cap,rfl,b1,K⟩
  go_wp2_with fail;refine(aV.o cw _ _ ad cap (J.o.below K) b1).mono ?_;clear aV;rintro e cx ⟨cL,g,a2,cM,rfl,ap,q,b2,cy⟩
  have cN:g.length=cj.1.length:=q.len.trans cb;obtain⟨cO,cP,cz⟩:=eU q.row V;subst cz;have cR:=q.cells.2.2.1;have cA:m.length<g.length:=V;obtain⟨ar,cS⟩:=kD q.row ((oO g m.length _ (aL cA)).2)
  rw[<-E] at ap;have N:ay (_/\_/\_):=q.filled aF ap;have b3:ay (fJ w0 w m cx g):=(ao.o.trans (fJ.of K)).trans b2;have cB:=((ao.o.trans (fJ.of K)).1).size;generalize (g[m.length]).2.1=q1 at ar;generalize (g[m.length]).2.2.2.length=cT at ar;generalize (g[m.length]).2.2.1=q3 at ar;rw[E] at N;clear b1 K ap q b2 cy ao J aF E;go_wp2_with fail;go_ret;exact⟨_,_,rfl,N.o.1,b3.o.1.trans N.o.2.1,fun k hk=>(N.o.2.2 k hk).elim (b3.o.2 k) (fun c=>aJ (aT cB c))⟩
theorem AV (hg:dS bY b_ bZ l S w0)(hv:nt S.T S.wt)(b:∀i,cv S.T i->(S.T.getD i t0).1=5->(S.T.getD i t0).2.1=[]):∀n,pN w0 kb ch bY S.T (met (tI S.T.length) (gQ S.T) (gR S.T S.wt) n) n
 |0=>fun w s d m a _ ho ha hn hl=>by have c:=ho.lt (pI.2 ⟨ha.1,by have:=ha.2.1;have:=ha.1;omega⟩) hn;rw[ns] at c;omega
 |n+1=>J9 hg hv b n _ (AV hg hv b n) (jq n)
end
section
variable {bY:Nat}{b_ bZ:Int}{l:gG}{S:ck}{w:ax}
theorem J_ (hg:dS bY b_ bZ l S w)(hv:nt S.T S.wt)(N:∀i,cv S.T i->(S.T.getD i t0).1=5->(S.T.getD i t0).2.1=[])(hr:∀v∈S.rs,eZ S.T v):
 Calls prog 138 #[aj bY] w fun e w'=>∃O ap f Q n,e=.returned (.agg #[.slice O 12 ap,.slice f Q n])/\mM w' w.heap.size O (dV.ez S.T S.wt S.rs).1/\k4 w' w.heap.size f (dV.ez S.T S.wt S.rs).2.2/\Q=(dV.ez S.T S.wt S.rs).2.2.length/\Below w.heap.size w w':=by
 have bo:=@run_makeMap prog;have G:=au w (.cells #[.slice none 0 0,.slice none 0 0] 60)
 have U:=aO w (.cells #[.slice none 0 0,.slice none 0 0] 60)
 have u:=hg.below G;have H:=hg.g4.rl;obtain⟨_,_,_,_,_,_,W,_,ar⟩:=u.cells;have X:fj (w.alloc (.cells #[.slice none 0 0,.slice none 0 0] 60)) (ak l.rb) S.rs:=by
  have c:=u.g4.cells;refine⟨fun hp=>⟨l.rb,0,rfl,c.1,fun i hi=>?_⟩,fun hp=>⟨l.rb,0,_,rfl,u.g4.rt⟩⟩
  have:=c.2.2 i V;rw[Nat.zero_add];exact⟨this.1,this.2.1⟩
 have Y:w.heap.size<(w.alloc (.cells #[.slice none 0 0,.slice none 0 0] 60)).heap.size:=Z;have C:=es.made (w.alloc (.cells #[.slice none 0 0,.slice none 0 0] 60))
 have D:kB []=fun _=>none:=by
  funext x
  exact AT Z
 rw[<-D] at C;have b2:=((aH _ (w.alloc (.cells #[.slice none 0 0,.slice none 0 0] 60))).alloc bW (.map #[] 0)).alloc Z (.cells #[.pointer (some ⟨bY,0,none⟩),.map (some (w.heap.size+1)),.slice none 0 0] 231)
 have I:=iP (w.alloc (.cells #[.slice none 0 0,.slice none 0 0] 60)) (.map #[] 0) (.cells #[.pointer (some ⟨bY,0,none⟩),.map (some (w.heap.size+1)),.slice none 0 0] 231)
 have E:(w.alloc (.cells #[.slice none 0 0,.slice none 0 0] 60)).heap.size=w.heap.size+1:=Z;rw[E] at C I;have ab:=C.same (w':=((w.alloc (.cells #[.slice none 0 0,.slice none 0 0] 60)).alloc (.map #[] 0)).alloc (.cells #[.pointer (some ⟨bY,0,none⟩),.map (some (w.heap.size+1)),.slice none 0 0] 231)) (aS _ _ _ Z)
 have ag:ay (fg (w.alloc (.cells #[.slice none 0 0,.slice none 0 0] 60)) (((w.alloc (.cells #[.slice none 0 0,.slice none 0 0] 60)).alloc (.map #[] 0)).alloc (.cells #[.pointer (some ⟨bY,0,none⟩),.map (some (w.heap.size+1)),.slice none 0 0] 231)) (w.heap.size+1+1) (w.heap.size+1) bY ([],[]) (.slice none 0 0) []):=
  ⟨I,⟨by rw[E];omega,by rw[E];exact aD _⟩,ab,bc _ _ _ _,rfl,fun x g=>by simp at g,b2⟩
 have aB:=(b2.cell (p:=aq bY 6) ar).trans W;have J:w.heap.size<=(((w.alloc (.cells #[.slice none 0 0,.slice none 0 0] 60)).alloc (.map #[] 0)).alloc (.cells #[.pointer (some ⟨bY,0,none⟩),.map (some (w.heap.size+1)),.slice none 0 0] 231)).heap.size:=by simp;omega
 have F:=AU (AV u hv N S.T.length) (jq _) ag.o (e5.start _) Z hv.l1 S.rs hr (ak l.rb) 12 (X.mC (fC.of (B:=0) b2)) V;have aF:ay ((dV.ez S.T S.wt S.rs).1.length=12):=by show _=_;unfold dV.ez;rw[mL,aW];exact H
 change Calls _ _ _ _ (fun e w'=>∃aR K a2 c2,e=.returned (.slice a2 S.rs.length c2)/\w'.ownsRow _ 97 2 (.slice a2 S.rs.length c2) S.rs.length (ev (dV.ez S.T S.wt S.rs).1)/\fg _ w' _ _ bY (dV.ez S.T S.wt S.rs).2 aR K/\fJ _ _ [] w' K/\(∀k,fp K k->some k≠(Value.slice a2 S.rs.length c2).ownBlock)) at F;rw[H] at F;clear hg u hv N hr X C ab I D W ag H;generalize dV.ez S.T S.wt S.rs=R at*;obtain⟨bp,s⟩:=R;dsimp only at*;have M:=hide G;clear G;go_enter func138,ntmps138;go_wp2_with fail;refine F.mono ?_;clear F;rintro e w2 ⟨br,m,a2,c2,rfl,o,d,ai,_⟩
 obtain⟨f,n,aV⟩:=eE d.row;subst aV;have bs:=d.cells.2.2.1;have al:=M.o.trans (d.eH.mono M.o.size)
 have j:=(d.eH.block _ Y).trans U;have y0:w2.cell? (aq w.heap.size 0)=some (.slice none 0 0):=aA j
 have y1:w2.cell? (aq w.heap.size 1)=some (.slice none 0 0):=aA j
 have bt:w2.frozen? (aq w.heap.size 0)=false:=aC j
 have bx:w2.frozen? (aq w.heap.size 1)=false:=aC j
 have l2:=lt_of_some j;have a0:=dq d o;have a1:=hide d.len;have bb:=hide al;have am:=hide j;have bd:ay (∀k,fp m k->w.heap.size<=k):=fun k hk=>(ai.2 k hk).elim (fun⟨x,g,_⟩=>by cases g) (fun be=>aT J be)
 have bg:=hide J;clear d o ai al j U aB M b2 J E Y;go_wp2_with fail;obtain⟨q,hW0⟩:∃q,q=(w2.setCell ⟨w.heap.size,0,none⟩ (.slice a2 12 c2)).setCell ⟨w.heap.size,1,none⟩ (.slice f m.length n):=⟨_,rfl⟩
 rw[<-hW0];have g0:q.cell? (aq w.heap.size 0)=some (.slice a2 12 c2):=by exact lu
 have g1:q.cell? (aq w.heap.size 1)=some (.slice f m.length n):=by exact zS
 have t:Fr (fun k=>k=w.heap.size) w2 q:=by rw[hW0];exact((Fr.refl (fun k=>k=w.heap.size) w2).set w.heap.size 0 _ rfl).set w.heap.size 1 _ rfl
 clear hW0;obtain⟨d,o⟩:=a0.o;have an:∀{ad:Option Addr}{L:List (Int×Int)},fj w2 ad L->dw q ad L:=fun {ad L} h=>h.1.keep t.size (fun hp b e=>by
  obtain⟨bi,b0,b1,D,hb⟩:=h.2 hp;rw[D] at e;cases e;refine t.block _ (lt_of_some hb) (fun c=>?_)
  have c:bi=w.heap.size:=c;rw[c,am.o] at hb;simp at hb)
 refine a4 (v:=.agg #[.slice a2 12 c2,.slice f m.length n]) (by simp[results,results138,go_sem,g0,g1]) rfl ⟨a2,c2,f,m.length,n,rfl,⟨an (fj.of (by rw[aF.o];exact o)),fun hp=>?_⟩,⟨m,d.nd,fun x g=>an (d.fl x g),bd.o,fun hp=>?_⟩,a1.o,bb.o.trans (t.below (Nat.le_of_lt l2) (fun k e=>Nat.le_of_eq (Eq.symm e)))⟩
 ·obtain⟨b,cap,e⟩:=eU o aa;cases e;exact⟨b,0,rfl,aT bg.o (cn o b rfl).1⟩
 obtain⟨b,cap,e⟩:=eU d.row hp;cases e;have bl:=(cn d.row b rfl).1;simp at bl;obtain⟨b3,A⟩:=e6 d.row b rfl;have ao:b≠w.heap.size:=fun c=>by rw[c,am.o] at A;simp at A
 refine⟨b,0,rfl,V,aM (lt_of_some A) t.size,fun i x g=>?_⟩
 obtain⟨n1,bn⟩:=oO m i x g;rw[Nat.zero_add];exact⟨(aP (a:=⟨b,i*2,none⟩) (t.block b (lt_of_some A) ao)).trans (kD d.row n1).1,(aP (a:=⟨b,i*2+1,none⟩) (t.block b (lt_of_some A) ao)).trans (kD d.row bn).1⟩
end
theorem Ka {T:List cD}{wt:List b7}(d:e4 T wt):∃g,dR T wt g:=by
 classical
 refine⟨fun is=>(List.range is.length).map (fun i=>decide (∀X:Nat->Prop,gY T wt X->(∀k,ct is k->X k)->X i)),fun is hl e=>?_⟩
 have key:∀i,ct ((List.range is.length).map (fun i=>decide (∀X:Nat->Prop,gY T wt X->(∀k,ct is k->X k)->X i))) i↔i<is.length/\∀X:Nat->Prop,gY T wt X->(∀k,ct is k->X k)->X i:=by
  intro i;unfold ct;by_cases hi:i<is.length
  ·rw[aE,List.getElem?_map,List.getElem?_range hi];simp[hi]
  ·simp[hi]
 refine⟨Z,fun i hi=>(key i).2 ⟨hi.lt,fun X _ b=>b i hi⟩,fun i hi f v hv j=>?_,fun X b hs i hi=>((key i).1 hi).2 X b hs⟩
 have c:∀X:Nat->Prop,gY T wt X->(∀k,ct is k->X k)->_:=fun X b hs=>b i hi (((key i).1 f).2 X b hs) v (hv.mono (fun k hk=>((key k).1 hk).2 X b hs)) j;exact(key _).2 ⟨by rw[hl];exact(c (cv T) d.cls e).1,c⟩
theorem AW:∃g:gP,∀T wt,e4 T wt->dR T wt (g T wt):=by
 classical
 refine⟨fun T wt=>if h:∃g,dR T wt g then h.choose else id,fun T wt b=>?_⟩
 have h:=Ka b;dsimp only;rw[dif_pos h];exact h.choose_spec
section
variable {σ:Type}{is:σ->Int->Bool}{kp:σ->Int->σ}{I:σ->List b7->Prop}{R:List b7}
theorem uU (hk:∀s C e,I s C->e∈R->is s e.1=true->I (kp s e.2) (C++[e])):∀(l:List b7)(s:σ)(C D:List b7),(∀e∈l,e∈R)->I s C->I (cf.pass is kp l s C D).1 (cf.pass is kp l s C D).2.1
 |[],_,_,_,_,h=>h
 |e::r,s,C,D,b,h=>by
  unfold cf.pass;have hr:_:=fun x d=>b x (aN _ d)
  split
  ·rename_i c;exact uU hk r _ _ _ hr (hk s C e h (b e Z) c)
  ·exact uU hk r _ _ _ hr h
theorem AX (hk:∀s C e,I s C->e∈R->is s e.1=true->I (kp s e.2) (C++[e])):∀(n:Nat)(D:List b7)(s:σ)(C:List b7),(∀e∈D,e∈R)->I s C->I (cf.turns is kp n D s C).1 (cf.turns is kp n D s C).2.1
 |0,_,_,_,_,h=>h
 |n+1,D,s,C,b,h=>by
  have c:=uU hk D s C [] b h;unfold cf.turns;split
  ·exact c
  ·exact AX hk n _ _ _ (fun e he=>b e (AE _ _ D s C e he)) c
end
structure Kb (s:ck)(g:List Bool->List Bool)(mj:Bool)(L:List Bool)(C:List b7):Prop where
 ok:gE s.T L
 up:∀k,ct (s.c0 g mj) k->ct L k
 cl:gY s.T s.wt (ct L)
 cC:∀e∈C,e∈s.rg/\ct L e.1.toNat/\ct L e.2.toNat
 lt:∀X,gY s.T s.wt X->(∀k,ct (s.c0 g mj) k->X k)->(∀e∈s.rg,cL (s.c0 g mj) e.2=false->X e.2.toNat)->∀k,ct L k->X k
theorem AY {s:ck}(h:fI s){g:List Bool->List Bool}(hg:dR s.T s.wt g)(mj:Bool):ow s.T s.wt (jY s.T s.rs mj) (s.c0 g mj)/\gE s.T (s.c0 g mj):=by have b:=h.first mj;exact⟨hg _ b.len b.al,(hg.ok h.iv b).1⟩
theorem Kc {s:ck}(h:fI s){g:List Bool->List Bool}(hg:dR s.T s.wt g)(mj:Bool):Kb s g mj (s.cR g mj).1 (s.cR g mj).2.1:=by
 obtain⟨n,o⟩:=AY h hg mj;refine AX (fun L C e b he p=>?_) _ _ _ _ (fun e he=>he) ⟨o,fun k hk=>hk,n.cl,fun e he=>by simp at he,fun X _ d _ k hk=>d k hk⟩
 obtain⟨he,hn⟩:=List.mem_filter.1 he;have hn:cL (s.c0 g mj) e.2=false:=by simpa using hn
 have ha:=(h.gv e he).2;obtain⟨l,q,t⟩:=b.ok.put ha.2;have f:=hg _ l.len l.al;have j:∀k,ct L k->_:=fun k hk=>f.up k (t k hk)
 refine⟨(hg.ok h.iv l).1,fun k hk=>j k (b.up k hk),f.cl,fun x c=>?_,fun X d h0 m k hk=>?_⟩
 ·rcases List.mem_append.1 c with c|c
  ·obtain⟨q1,u,q3⟩:=b.cC x c;exact⟨q1,j _ u,j _ q3⟩
  ·rw[List.mem_singleton.1 c];exact⟨he,j _ p,f.up _ q⟩
 ·refine f.lt X d (fun i hi=>?_) k hk;unfold ct at hi;rw[i8 _ _ _ (by rw[b.ok.len];exact ha.2.1)] at hi;split at hi
  ·rename_i v;rw[<-v];exact m e he hn
  ·exact b.lt X d h0 m i hi
theorem Kd (s:ck)(g:List Bool->List Bool)(mj:Bool):(s.cR g mj).2.1.length<=(s.rg.filter (fun e=>!cL (s.c0 g mj) e.2)).length:=by
 have:=vJ (is:=cL) (kp:=fz g) (s.rg.length+1) (s.rg.filter (fun e=>!cL (s.c0 g mj) e.2)) (s.c0 g mj) [];unfold ck.cR;simp only [List.length_nil] at this
 omega
theorem Ke {s:ck}(h:fI s){g:List Bool->List Bool}(hg:dR s.T s.wt g)(mj:Bool){v:Int×Int}(hv:v∈s.rs)(b:v.1=3):ct (s.c0 g mj) v.2.toNat:=
 (AY h hg mj).1.up _ ((kw _ _ _ _).2 ⟨(h.rv v hv b).2.1,aJ ⟨v,hv,b,rfl⟩⟩)
theorem uV (L:List Bool)(T:List cD)(i:Nat):(f8 L T T.length).getD i t0=if i<T.length then fA L i (T.getD i t0) else t0:=by
 by_cases h:i<T.length
 ·rw[q7 L T T.length i bW h,aI h,aI h]
 ·rw[aG h,aE,List.getElem?_eq_none (by rw[jD];omega)];rfl
theorem AZ {L:List Bool}{i:Nat}{t:cD}(b:L.getD i false=false):fA L i t=(t.1,[],t.2.2.1,true):=by unfold fA;rw[aG (by rw[b];simp)]
theorem rI (L:List Bool)(i:Nat)(t:cD):(fA L i t).1=t.1:=by unfold fA;split<;>rfl
theorem Kh {L:List Bool}{i:Nat}{t:cD}(b:L.getD i false=true):(fA L i t).2.2=(true,t.2.2.2):=by unfold fA;rw[aI b]
theorem Ki {T:List cD}{L:List Bool}(h:gE T L)(i:Nat):cv (f8 L T T.length) i↔ct L i:=by
 unfold cv;rw[jD,uV];constructor
 ·rintro⟨d,b⟩
  rw[aI d] at b;unfold ct;cases c:L.getD i false
  ·rw[AZ c] at b;cases b
  ·rfl
 ·intro hi;have ha:=h.al i hi;refine⟨ha.1,?_⟩
  rw[aI ha.1,Kh hi];exact ha.2
theorem rJ {L:List Bool}{i:Nat}{t:cD}(b:L.getD i false=true):
 (t.1=4/\dH L (t.2.1.getD 0 (0,0))=false/\(fA L i t).2.1=[(2,0),(2,0)])\/(t.1=3/\dH L (t.2.1.getD 0 (0,0))=false/\(fA L i t).2.1=[(2,0),t.2.1.getD 1 (0,0)])\/((t.1=3\/t.1=4->dH L (t.2.1.getD 0 (0,0))=true)/\(fA L i t).2.1=t.2.1):=by
 unfold fA;rw[aI b];by_cases c4:t.1=4/\dH L (t.2.1.getD 0 (0,0))=false
 ·rw[aI c4];exact aK ⟨c4.1,c4.2,rfl⟩
 ·rw[aG c4];by_cases c3:t.1=3/\dH L (t.2.1.getD 0 (0,0))=false
  ·rw[aI c3];exact aJ (aK ⟨c3.1,c3.2,rfl⟩)
  ·rw[aG c3];refine aJ (aJ ⟨fun h=>?_,rfl⟩)
   cases c:dH L _
   ·rcases h with h|h
    ·exact absurd ⟨h,c⟩ c3
    ·exact absurd ⟨h,c⟩ c4
   ·rfl
end Go.Proofs.YtpkjkjhanlbcoaaGreat
