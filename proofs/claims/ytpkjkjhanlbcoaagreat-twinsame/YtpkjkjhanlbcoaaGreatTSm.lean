import Derived.Test.YtpkjkjhanlbcoaaGreatJ47
namespace Go.Proofs.YtpkjkjhanlbcoaaGreat
set_option maxRecDepth 100000
set_option maxHeartbeats 16000000
open Tryz
namespace TSm
open Go.RowKit W Kp cf
theorem walk (n o:Int)(a:Option Addr)(cc:Nat)(l:List S6)(w:ax)(hl:vm w a l):
 Calls prog 5 #[ah n,ah o,.slice a l.length cc] w fun e w'=>e=.returned (.bool true)/\aw w w':=by
 obtain⟨g,hg⟩:=AK;have O:ay (vm w a l):=hl;have Q:ay (∀T wt,e4 T wt->dR T wt (g T wt)):=hg;by_cases a2:300<l.length
 ·go_enter func5,ntmps5;go_wp2_with fail;refine(vl w).mono ?_;rintro e w1 ⟨rfl,k⟩
  have bb:(300:Int)<(l.length:Int):=V;go_wp2_with fail;go_ret;exact⟨rfl,k⟩
 ·by_cases R:n<16\/256<n\/o<0\/1024<o
  ·have H:ay (n<16\/256<n\/o<0\/1024<o):=R;go_enter func5,ntmps5;go_wp2_with fail;refine(vl w).mono ?_;rintro e w1 ⟨rfl,k⟩
   go_wp2_with fail;refine(KI n o w1 H.out).mono ?_;rintro e b ⟨rfl,U⟩
   have I:=k.trans (U.mono k.size)
   have p:=au b (.cells #[.int .i64 1,.int .i64 (-1)] 28)
   have J:ay (aw w (b.alloc (.cells #[.int .i64 1,.int .i64 (-1)] 28))):=I.trans (p.mono I.size)
   have q:ay ((b.alloc (.cells #[.int .i64 1,.int .i64 (-1)] 28)).heap[b.heap.size]?=some (.cells #[ah 1,ah (-1)] 28 (0,0))):=aN _ _;go_wp2_with fail;generalize b.alloc (.cells #[.int .i64 1,.int .i64 (-1)] 28)=s at*;generalize b.heap.size=d at*;refine(J_ n o s H.out).mono ?_;rintro e f ⟨rfl,m⟩
   have j:=(m.block d (lt_of_some q.out)).trans q.out;have K:=J.out.trans (m.mono J.out.size)
   have X:f.cell? (aq d 0)=some (ah 1):=by simp[World.cell?,j]
   have Y:f.cell? (aq d 1)=some (ah (-1)):=by simp[World.cell?,j]
   have ab:=lt_of_some j;have nx:d≠f.heap.size:=V;have ad:=K.alloc K.size (.cells #[.int .i64 1,.int .i64 (-1)] 28)
   go_wp2_with fail;go_ret;exact⟨rfl,ad⟩
  ·have bd:16<=n/\n<=256/\0<=o/\o<=1024:=V;obtain⟨n,rfl⟩:=Int.eq_ofNat_of_zero_le (show 0<=n by omega)
   obtain⟨o,rfl⟩:=Int.eq_ofNat_of_zero_le (show 0<=o by omega)
   have v:ay (16<=n/\n<=256/\o<=1024):=⟨V,V,V⟩
   have ag:ay (∀w',Calls prog 14 #[ah n,ah o] w' fun e ai=>e=.returned (.agg #[ah 0,ah 0])/\aw w' ai):=fun w'=>J9 n o w' V V V V;go_enter func5,ntmps5;go_wp2_with fail;refine(vl w).mono ?_;rintro e w1 ⟨rfl,k⟩
   have u:ay (aw w w1):=k;go_wp2_with fail;refine(Bq n o w1 v.out.1 v.out.2.1 v.out.2.2).mono ?_;rintro e b ⟨c,t,L,M,rfl,_,al⟩
   have p:=au b (.cells #[.int .i64 0,.int .i64 0] 28)
   have am:ay (dA w1 c t L M (g9 n o).1 (g9 n o).2 0 0 (b.alloc (.cells #[.int .i64 0,.int .i64 0] 28))):=al.below p;have q:ay ((b.alloc (.cells #[.int .i64 0,.int .i64 0] 28)).heap[b.heap.size]?=some (.cells #[ah 0,ah 0] 28 (0,0))):=aN _ _;go_wp2_with fail;generalize b.alloc (.cells #[.int .i64 0,.int .i64 0] 28)=s at*;generalize b.heap.size=d at*;refine(ag.out s).mono ?_;rintro e f ⟨rfl,m⟩
   have j:=(m.block d (lt_of_some q.out)).trans q.out;have X:f.cell? (aq d 0)=some (ah 0):=by simp[World.cell?,j]
   have Y:f.cell? (aq d 1)=some (ah 0):=by simp[World.cell?,j]
   have ab:=lt_of_some j;have nx:d≠f.heap.size:=V;have an:aw s (f.alloc (.cells #[.int .i64 0,.int .i64 0] 28)):=m.alloc m.size _;have ao:=hide (am.out.below an)
   go_wp2_with fail;generalize f.alloc (.cells #[.int .i64 0,.int .i64 0] 28)=be at*
   go_loopw [10] (fun iv wr=>∃(i:Nat)(S:cq)(W:ck)(F G:Nat->Prop),i<=l.length/\iv=ah i/\ay (dA w1 c t F G S W i i wr)) (fun iv _=>l.length-(intOf iv).toNat)
   exact⟨0,(g9 n o).1,(g9 n o).2,L,M,aZ _,rfl,ao⟩
   ·
     obtain⟨i,S,W,F,G,hi,rfl,x⟩:=hrel;by_cases ap:i<l.length
     ·obtain⟨bg,bi,ar,l0,hc⟩:=O.out V;obtain⟨aB,_⟩:=hc i ap;subst ar;have bl:(i:Int)<(l.length:Int):=V;generalize l.getD i kX=st at*;obtain⟨A,sR,B,C,D,sn⟩:=st;obtain⟨bn,y1,bo,bp,br,bs⟩:=aB.below (u.out.trans (x.out.be.mono u.out.size)) l0;have P:=Br x.out Q.out V A sR B C D sn;generalize (S.hd c A sR B C D sn).2=aF at*;generalize W.ik g t.n t.o A sR B C D sn=E at*;obtain⟨cd,aR⟩:=E;go_wp2_with fail;refine P.mono ?_;rintro e N ⟨aV,G2,rfl,a0⟩
      have p:=au N (.cells #[.int .i64 0,.int .i64 0] 28)
      have a1:=hide (a0.below p)
      go_wp2_with fail;go_roundw;exact⟨i+1,aF,aR,aV,G2,V,af,a1⟩
      simp[intOf];omega
     ·obtain rfl:i=l.length:=V;go_wp2_with fail;go_ret;exact⟨rfl,u.out.trans (x.out.be.mono u.out.size)⟩
end TSm
end Go.Proofs.YtpkjkjhanlbcoaaGreat
