import Derived.Test.YtjpjpjemibgjpaaGreatJ44
import Derived.Test.YtjpjpjemibgjpaaGreatJ01
import Derived.Test.YtjpjpjemibgjpaaGreatJ00
import Derived.Test.YtjpjpjemibgjpaaGreatJ02
namespace Go.Proofs.YtjpjpjemibgjpaaGreat
set_option maxRecDepth 100000
set_option maxHeartbeats 8000000
open Tryz
namespace JDo
open Go.RowKit W Kp bY
theorem BS (x y:Value)(w:World):Sem.run prog (Instr.field 28 (.agg #[x,y]) 0) w=.ok x w:=by unfold Instr.field;simp[go_sem];rfl
theorem walk (n o:Int)(a:Option Addr)(cc:Nat)(l:List S4)(w:World)(hl:L4 w a l):
 Calls prog 3 #[ae n,ae o,.slice a l.length cc] w fun e w'=>e=.returned (.bool true)/\Below w.heap.size w w':=by
 have aT:Hid (L4 w a l):=hl;clear hl;by_cases bl:250<l.length
 ·go_enter func3,ntmps3;go_wp2_with fail;refine(qH w).mono ?_;rintro e w1 ⟨rfl,g⟩
  have aV:(250:Int)<(l.length:Int):=I;go_wp2_with fail;go_ret;exact⟨rfl,g⟩
 ·have aV:¬((250:Int)<(l.length:Int)):=I;by_cases E:n<16\/256<n\/o<0\/1024<o
  ·have Q:Hid (n<16\/256<n\/o<0\/1024<o):=E;clear E;go_enter func3,ntmps3;go_wp2_with fail;refine(qH w).mono ?_;rintro e w1 ⟨rfl,g⟩
   go_wp2_with fail;refine(AF n o w1 Q.out).mono ?_;rintro e u ⟨rfl,a0⟩
   go_wp2_with fail;refine(BR n o u Q.out).mono ?_;rintro e w3 ⟨rfl,a1⟩
   have R:=g.trans (a0.mono g.size)
   have bn:=BS (ae 1) (ae (-1))
   go_wp2_with fail;go_ret;exact⟨rfl,R.trans (a1.mono R.size)⟩
  ·have a2:16<=n/\n<=256/\0<=o/\o<=1024:=I;obtain⟨n,rfl⟩:=Int.eq_ofNat_of_zero_le (show 0<=n by omega)
   obtain⟨o,rfl⟩:=Int.eq_ofNat_of_zero_le (show 0<=o by omega)
   go_enter func3,ntmps3;go_wp2_with fail;refine(qH w).mono ?_;rintro e w1 ⟨rfl,g⟩
   go_wp2_with fail;refine(ub n o w1 I I I).mono ?_;rintro e u ⟨c,G,rfl,J,⟨k1,U,v,W⟩,g1,b1⟩
   have q:Hid (0<=c.bS/\c.bS<=100000/\c.bS=c.a.N/\c.bT=c.a.O/\c.a.O<=1024):=⟨by rw[v];omega,by rw[v];omega,by rw[v,k1],by rw[W,U],I⟩
   have X:Hid ((ce c).J G (e0 n o) u/\et c (e0 n o) 0/\∀b,G b->w1.heap.size<=b):=⟨J,et.start c n o,g1⟩
   have Y:Hid (Below w1.heap.size w1 u):=b1;have bo:(0:Int)<=(o:Int):=I;have o1:(o:Int)<=1024:=I;clear J k1 U v W g1 b1 E a2;go_wp2_with fail
   go_loopw [9] (fun iv wr=>∃(j:Nat)(S:bZ×b_)(F:Nat->Prop),j<=l.length/\iv=ae j/\Hid ((ce c).J F S wr/\et c S j/\∀b,F b->w1.heap.size<=b)/\Hid (Below w1.heap.size w1 wr)) (fun iv _=>l.length-(intOf iv).toNat)
   case atStart=>exact⟨0,e0 n o,G,aA _,rfl,X,Y⟩
   case round=>
    clear X Y;obtain⟨j,S,F,bp,rfl,H,i⟩:=hrel;by_cases a3:j<l.length
    ·obtain⟨b0,x,bb,l0,hc⟩:=aT.out I;obtain⟨⟨ad,ai,al,ar⟩,_,_⟩:=hc j a3;subst bb;clear hc;have s:=g.trans (i.out.mono g.size)
     have y1:=(s.cell (p:=ah b0 (x+j*4)) l0).trans ad;have br:=(s.cell (p:=ah b0 (x+j*4+1)) l0).trans ai;have bs:=(s.cell (p:=ah b0 (x+j*4+2)) l0).trans al;have bx:=(s.cell (p:=ah b0 (x+j*4+3)) l0).trans ar;clear ad ai al ar s l0;generalize (l.getD j (0,0,0,0)).1=d at*;generalize (l.getD j (0,0,0,0)).2.1=A at*;generalize (l.getD j (0,0,0,0)).2.2.1=B at*;generalize (l.getD j (0,0,0,0)).2.2.2=C at*;have j0:(0:Int)<=(j:Int):=I;have J:(j:Int)<(l.length:Int):=I;have K:=k4 H.out.1;by_cases hd:d<6
     ·have P:=p7 H.out.1 (H.out.2.1.rb I) q.out.1 q.out.2.1 (by have:=H.out.2.1.m;omega) (by have:=H.out.2.1.ix;omega) (by have:=H.out.2.1.ix;omega) d A B C;obtain⟨ax,hN⟩:=H.out.2.1.do K q.out.2.2.1 d A B C
      rw[ax] at P;have bd:Hid (et c (dZ c S d A B C) (j+1)):=hN;generalize dZ c S d A B C=k at*;clear K ax hN
      as_aux_lemma=>
      go_wp2_with fail;refine P.mono ?_;clear P;rintro e t ⟨m,rfl,cC,f⟩
      have L:Hid ((ce c).J m k t/\et c k (j+1)/\∀b,m b->w1.heap.size<=b):=⟨cC,bd.out,fun b d=>(f.sub b d).elim (H.out.2.2 b) (fun e=>az i.out.size e)⟩
      have M:Hid (Below w1.heap.size w1 t):=i.out.trans (f.fr.below i.out.size H.out.2.2)
      clear cC f;go_wp2_with fail;go_roundw
      case rel=>exact⟨j+1,k,m,I,ac,L,M⟩
      case measure=>simp[intOf];omega
     ·have be:((6:Int)<d)=(6<d):=rfl;have N:Hid (∀O:Bool,Calls prog 9 #[af c.pb,.bool O] wr fun e w'=>∃(cd:Int)(aB:bZ×b_)(aF:Nat->Prop),e=.returned (.tuple #[ae cd,.bool true])/\(ce c).J aF aB w'/\et c aB (j+1)/\bM F wr aF w'):=fun O=>vk H.out.1 H.out.2.1 I q.out.2.2.2.1 q.out.2.2.2.2 O;clear K;by_cases bL:6<d
      case' pos=>have P:=N.out true
      case' neg=>have P:=N.out false
      all_goals
       clear N be
       as_aux_lemma=>
       go_wp2_with fail;refine P.mono ?_;clear P;rintro e t ⟨cd,k,m,rfl,cC,D,f⟩
       have L:Hid ((ce c).J m k t/\et c k (j+1)/\∀b,m b->w1.heap.size<=b):=⟨cC,D,fun b d=>(f.sub b d).elim (H.out.2.2 b) (fun e=>az i.out.size e)⟩
       have M:Hid (Below w1.heap.size w1 t):=i.out.trans (f.fr.below i.out.size H.out.2.2)
       clear cC f D;go_wp2_with fail;go_roundw
       case rel=>exact⟨j+1,k,m,I,ac,L,M⟩
       case measure=>simp[intOf];omega
    ·obtain rfl:j=l.length:=I;have aR:=vk H.out.1 H.out.2.1 I q.out.2.2.2.1 q.out.2.2.2.2 true;go_wp2_with fail;refine aR.mono ?_;clear aR;rintro e bg ⟨cd,k,m,rfl,cC,D,f⟩
     have bi:Below w.heap.size w bg:=g.trans ((i.out.trans (f.fr.below i.out.size H.out.2.2)).mono g.size)
     clear cC f D;go_wp2_with fail;go_ret;exact⟨rfl,bi⟩
end JDo
end Go.Proofs.YtjpjpjemibgjpaaGreat
