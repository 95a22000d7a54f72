import Derived.Test.YtpkjkjhanlbcoaaGreatJ25
namespace Go.Proofs.YtpkjkjhanlbcoaaGreat
set_option maxRecDepth 100000
set_option maxHeartbeats 16000000
open Tryz
open Go.ChangeShapes Go.WideShapes Go.ChangeAt Go.RowKit Go.Joins Go.Deep W cf
theorem BG {P:Prop}(h:P:=by
 have KY:=hide hs;go_wp2;go_roundw;exact⟨i+1,V,af,by rw[KY.o];go_num,trivial⟩
 simp[intOf];omega):P:=h
theorem KZ:prog.cellsOf 44=6:=ae
theorem K0:prog.cellsOf 3=1:=ae
theorem K1:prog.cellsOf 2=1:=ae
structure S6 where
 k:Int
 R:Int
 A:Int
 B:Int
 I:Int
 n:Int
def kY:S6:=⟨0,0,0,0,0,0⟩
def it (a:Int):Prop:=-9223372036854775808<=a/\a<=9223372036854775807
structure C6 (w:ax)(b o:Nat)(s:S6):Prop where
 c0:w.cell? (aq b o)=some (ah s.k)
 c1:w.cell? (aq b (o+1))=some (ah s.R)
 c2:w.cell? (aq b (o+2))=some (ah s.A)
 c3:w.cell? (aq b (o+3))=some (ah s.B)
 c4:w.cell? (aq b (o+4))=some (ah s.I)
 c5:w.cell? (aq b (o+5))=some (ah s.n)
theorem C6.below {w w':ax}{b o B:Nat}{s:S6}(h:C6 w b o s)(hb:Below B w w')(hB:b<B):C6 w' b o s:=
 ⟨(hb.cell hB).trans h.c0,(hb.cell hB).trans h.c1,(hb.cell hB).trans h.c2,(hb.cell hB).trans h.c3,(hb.cell hB).trans h.c4,(hb.cell hB).trans h.c5⟩
def vC (w:ax)(ad:Option Addr)(l:List S6):Prop:=
 0<l.length->∃b o,ad=some ⟨b,o,none⟩/\b<w.heap.size/\∀i,i<l.length->C6 w b (o+i*6) (l.getD i kY)/\it (l.getD i kY).k/\it (l.getD i kY).R/\it (l.getD i kY).A/\it (l.getD i kY).B/\it (l.getD i kY).I/\it (l.getD i kY).n
theorem K2 {c:Type}{b:List c}(h:b.length=6):∃c0 c1 c2 c3 c4 c5,b=[c0,c1,c2,c3,c4,c5]:=by
 match b,h with
 |[c0,c1,c2,c3,c4,c5],_=>exact⟨c0,c1,c2,c3,c4,c5,rfl⟩
theorem oF {a:Int}(h:(Lit.int .i64 a).wf=true):it a:=by
 have:IntKind.i64.min<=a/\a<=9223372036854775807:=by simpa[Lit.wf] using h
 exact⟨this.1,this.2⟩
theorem K3 {H:Type}{enc:TypeId×Value->H}{W:ax}{sp:Nat->Bool}{q:Bool}{t:Nat}{b:List Value}{x:DataW H×List MemPlace}
 (u:DataW.trod enc prog W 0 sp q t 44 b=some x):∃s:S6,b=[.int .i64 s.k,.int .i64 s.R,.int .i64 s.A,.int .i64 s.B,.int .i64 s.I,.int .i64 s.n]/\it s.k/\it s.R/\it s.A/\it s.B/\it s.I/\it s.n:=by
 obtain⟨v,m,_,G,hl,w,hg⟩:=DataW.trod_struct underlying44 u;obtain⟨c0,c1,c2,c3,c4,c5,rfl⟩:=K2 hl
 match v,w with
 |[J,y1,K,L,M,N],_=>
  have t0:=hg 0 _ rfl;have c:=hg 1 _ rfl;have d:=hg 2 _ rfl;have t3:=hg 3 _ rfl;have e:=hg 4 _ rfl;have f:=hg 5 _ rfl;simp[K0,K1] at t0 c d t3 e f;obtain⟨k,g,_,w0⟩:=DataW.trod_int underlying3 t0;obtain⟨R,i,_,w1⟩:=DataW.trod_int underlying3 c;obtain⟨A,j,_,C⟩:=DataW.trod_int underlying3 d;obtain⟨B,l,_,D⟩:=DataW.trod_int underlying3 t3;obtain⟨I,o,_,E⟩:=DataW.trod_int underlying3 e;obtain⟨n,p,_,F⟩:=DataW.trod_int underlying2 f;simp at g i j l o p;exact⟨⟨k,R,A,B,I,n⟩,by rw[g,i,j,l,o,p],oF w0,oF w1,oF C,oF D,oF E,oF F⟩
theorem K4 {H:Type}{enc:TypeId×Value->H}{W:ax}{sp:Nat->Bool}{t:Bool}{u len cap:Nat}{ad:Option Addr}{x:DataW H×List MemPlace}
 (v:DataW.trod enc prog W 0 sp t u 36 [.slice ad len cap]=some x):∃l:List S6,l.length=len/\vC W ad l:=by
 rcases open_slice underlying36 v with⟨e,_⟩|⟨z,l,c,m,n,D,G,e,hb,hl,hm,w,_,A⟩
 ·simp at e;obtain⟨rfl,rfl,rfl⟩:=e;exact⟨[],rfl,fun h=>by simp at h⟩
 ·obtain⟨rfl,rfl,rfl⟩:=e;have I:len<=m:=by rw[w];split<;>omega
  have key:∀i,i<len->∃s:S6,(W.cell? (z.add (i*6))=some (ah s.k)/\W.cell? (z.add (i*6+1))=some (ah s.R)/\W.cell? (z.add (i*6+2))=some (ah s.A)/\W.cell? (z.add (i*6+3))=some (ah s.B)/\W.cell? (z.add (i*6+4))=some (ah s.I)/\W.cell? (z.add (i*6+5))=some (ah s.n))/\it s.k/\it s.R/\it s.A/\it s.B/\it s.I/\it s.n:=by
   intro i hi;obtain⟨J,f,B⟩:=A i V;rw[KZ] at f;obtain⟨_,_,d⟩:=World.cells?_some f;obtain⟨s,rfl,hb⟩:=K3 B;refine⟨s,⟨?_,?_,?_,?_,?_,?_⟩,hb⟩
   ·have:=d 0 V;rw[add_add] at this;simpa using this
   ·have:=d 1 V;rw[add_add] at this;simpa using this
   ·have:=d 2 V;rw[add_add] at this;simpa using this
   ·have:=d 3 V;rw[add_add] at this;simpa using this
   ·have:=d 4 V;rw[add_add] at this;simpa using this
   ·have:=d 5 V;rw[add_add] at this;simpa using this
  have:Inhabited S6:=⟨kY⟩
  obtain⟨S,g⟩:=choose_lt key;refine⟨(List.range len).map S,Z,fun hp=>?_⟩
  simp only [List.length_map,List.length_range] at hp⊢;obtain⟨b,o,C⟩:=z;have h0:=(g 0 hp).1.1;have E:C=none:=by simpa[Addr.add] using World.cell?_spot h0
  subst E;refine⟨b,o,rfl,aQ W (⟨b,o,none⟩:Addr) (by simpa[Addr.add] using h0),fun i hi=>?_⟩
  obtain⟨⟨k0,k1,k,p,q,k5⟩,k6⟩:=g i hi;have ea:∀j,(⟨b,o,none⟩:Addr).add j=⟨b,o+j,none⟩:=fun j=>by simp[Addr.add]
  rw[ea] at k0 k1 k p q k5;have F:((List.range len).map S).getD i kY=S i:=by simp[hi]
  rw[F];exact⟨⟨k0,by exact k1,by exact k,by exact p,by exact q,by exact k5⟩,k6⟩
open Go.RowKit W Kp cf
theorem K5 {c:List (Int×List (Int×Int))}(r d:Option Addr)(rl rc f:Nat)(w:ax)(hl:c.length<=100000)(l:∀nd∈c,nd.2.length<=1000)(h:Ln w d c):
 Calls prog 31 #[.agg #[.slice r rl rc,.slice d c.length f]] w fun e w'=>e=.returned (ah (iW c))/\Below w.heap.size w w':=by
 have j:=au w (.cells #[.slice r rl rc,.slice d c.length f] 60)
 have k:=aO w (.cells #[.slice r rl rc,.slice d c.length f] 60)
 have o:=hide (h.below j)
 have m:=hide l;clear h l;go_enter func31,ntmps31;go_wp2;have p:=hide j;clear j;generalize w.alloc (.cells #[.slice r rl rc,.slice d c.length f] 60)=w1 at*;obtain⟨B,hB⟩:∃B,w.heap.size=B:=⟨_,rfl⟩
 rw[hB] at k⊢;have u:w1.cell? (aq B 1)=some (.slice d c.length f):=aA k
 clear k
 go_loopw [3,4] (fun nv iv wr=>∃i:Nat,i<=c.length/\iv=ah i/\nv=ah (iW (c.take i))/\wr=w1) (fun _ iv _=>c.length-(intOf iv).toNat)
 exact⟨0,aX _,rfl,rfl,rfl⟩
 ·
   obtain⟨i,hi,rfl,rfl,rfl⟩:=hrel;by_cases g:i<c.length
   ·obtain⟨b,v,x,fc,e,lb,A,C,_⟩:=o.o.at g;subst e;have hs:=Gn c i g;have q:=yW (c.take i) (fun nd s=>m.o nd (bA s))
    rw[bv] at q;have D:(c.getD i (0,[])).2.length<=1000:=m.o _ (by rw[aE,aL g];exact a6 g)
    generalize iW (c.take i)=z at*;generalize (c.getD i (0,[])).1=t at*;generalize (c.getD i (0,[])).2.length=E at*;by_cases n:t=5
    ·subst n;rw[aI rfl] at hs;exact BG
    ·rw[aG n] at hs;exact BG
   ·obtain rfl:i=c.length:=V;rw[bm];go_wp2;go_ret;exact⟨rfl,p.o⟩
namespace TRo
theorem walk (n o:Int)(a:Option Addr)(cc:Nat)(l:List S6)(w:ax)(hl:vC w a l):
 Calls prog 7 #[ah n,ah o,.slice a l.length cc] w fun e w'=>e=.returned (.bool true)/\Below w.heap.size w w':=by
 obtain⟨g,hg⟩:=AW;have bx:ay (vC w a l):=hl;have bY:ay (∀T wt,e4 T wt->dR T wt (g T wt)):=hg;clear hl hg;by_cases cj:200<l.length
 ·go_enter func7,ntmps7;go_wp2_with fail;refine(vB w).mono ?_;rintro e w1 ⟨rfl,f⟩
  have H:(200:Int)<(l.length:Int):=V;go_wp2_with fail;go_ret;exact⟨rfl,f⟩
 ·have H:¬((200:Int)<(l.length:Int)):=V;by_cases I:n<16\/256<n\/o<0\/1024<o
  ·have bZ:ay (n<16\/256<n\/o<0\/1024<o):=I;clear I;go_enter func7,ntmps7;go_wp2_with fail;refine(vB w).mono ?_;rintro e w1 ⟨rfl,f⟩
   go_wp2_with fail;refine(KU n o w1 bZ.o).mono ?_;rintro e j ⟨rfl,ai⟩
   have J:=f.trans (ai.mono f.size)
   have q:=au j (.cells #[.int .i64 1,.int .i64 (-1)] 28)
   have b0:ay (Below w.heap.size w (j.alloc (.cells #[.int .i64 1,.int .i64 (-1)] 28))):=J.trans (q.mono J.size)
   clear f ai J q;go_wp2_with fail;go_ret;exact⟨rfl,b0.o⟩
  ·have b6:16<=n/\n<=256/\0<=o/\o<=1024:=V;obtain⟨n,rfl⟩:=Int.eq_ofNat_of_zero_le (show 0<=n by omega)
   obtain⟨o,rfl⟩:=Int.eq_ofNat_of_zero_le (show 0<=o by omega)
   have K:ay (16<=n/\n<=256/\o<=1024):=⟨V,V,V⟩
   clear I b6;go_enter func7,ntmps7;go_wp2_with fail;refine(vB w).mono ?_;rintro e w1 ⟨rfl,f⟩
   have x:ay (Below w.heap.size w w1):=f;clear f;go_wp2_with fail;refine(BD n o w1 K.o.1 K.o.2.1 K.o.2.2).mono ?_;rintro e j ⟨c,t,al,am,rfl,an,ao⟩
   have q:=au j (.cells #[.int .i64 0,.int .i64 0] 28)
   have ap:ay (du w1 c t al am (g_ n o).1 (g_ n o).2 0 0 (j.alloc (.cells #[.int .i64 0,.int .i64 0] 28))):=ao.below q;have b7:ay (t.n=n/\t.o=o):=an;clear ao q an;go_wp2_with fail;generalize j.alloc (.cells #[.int .i64 0,.int .i64 0] 28)=cl at*
   go_loopw [9] (fun iv wr=>∃(i:Nat)(S:cq)(W:ck)(F G:Nat->Prop),i<=l.length/\iv=ah i/\ay (du w1 c t F G S W i i wr)) (fun iv _=>l.length-(intOf iv).toNat)
   case atStart=>exact⟨0,(g_ n o).1,(g_ n o).2,al,am,aX _,rfl,ap⟩
   case round=>
    clear ap;obtain⟨i,S,W,F,G,hi,rfl,A⟩:=hrel;by_cases b8:i<l.length
    ·obtain⟨cm,cn,b9,l0,hc⟩:=bx.o V;obtain⟨ar,_⟩:=hc i b8;subst b9;clear hc;have co:(0:Int)<=(i:Int):=V;have ca:(i:Int)<(l.length:Int):=V;generalize l.getD i kY=st at*;obtain⟨L,sR,M,N,Q,sn⟩:=st;obtain⟨aB,y1,aF,aR,aV,a0⟩:=ar.below (x.o.trans (A.o.be.mono x.o.size)) l0;dsimp only at aB y1 aF aR aV a0;have P:=BE A.o bY.o V L sR M N Q sn;clear ar;generalize (S.hd c L sR M N Q sn).2=b at*;generalize W.ip g t.n t.o L sR M N Q sn=E at*;obtain⟨cd,m⟩:=E;dsimp only at P;go_wp2_with fail;refine P.mono ?_;clear P;rintro e cb ⟨p,G2,rfl,d⟩
     have a1:ay (du w1 c t p G2 b m (i+1) (i+1) cb):=d;have k:=ou d.g;have B:ay (b.s.y<=n/\b.s.g<=o/\n<=256/\o<=1024/\iW (fw c.N b.s.y b.s.g b.s.ws b.q b.s.rs).2.2<=b.s.y+b.s.g):=by obtain⟨Y,G,kv⟩:=d.ok.kv;have ce:=d.sz;have H:=b7.o;have cp:=k.y1;have cr:=k.g1;exact⟨V,V,V,V,Gr (O:=c.O) kv.inv.full k.n1 k.y1 k.o1 k.g1 _ _⟩
     have a2:ay (∀w',du w1 c t p G2 b m (i+1) (i+1) w'->Calls prog 25 #[aj c.pw] w' fun e U=>∃C X D ab,e=.returned (.agg #[.slice C 12 X,.slice D (fw c.N b.s.y b.s.g b.s.ws b.q b.s.rs).2.2.length ab])/\mM U w'.heap.size C (fw c.N b.s.y b.s.g b.s.ws b.q b.s.rs).1/\k4 U w'.heap.size D (fw c.N b.s.y b.s.g b.s.ws b.q b.s.rs).2.2/\Below w'.heap.size w' U):=fun w' h=>z5 h.g (by have:=h.ok.jX;omega)
     have bb:ay ((fw c.N b.s.y b.s.g b.s.ws b.q b.s.rs).2.2.length<=4000/\∀nd∈(fw c.N b.s.y b.s.g b.s.ws b.q b.s.rs).2.2,nd.2.length<=b.q.length+12):=(Gq c.N b.s.y b.s.g b.s.ws b.q b.s.rs).2;have cf:ay (b.q.length<=24):=by have:=d.ok.jX;show _<=_;omega
     generalize fw c.N b.s.y b.s.g b.s.ws b.q b.s.rs=R at*;have bd:=z6 d.g;obtain⟨ad,ag,_⟩:=d.cells;obtain⟨q0,q1,_⟩:=eh d.g;clear d k A aB y1 aF aR aV a0;generalize b.s.y=s at*;generalize b.s.g=u at*;go_wp2_with fail;refine bd.mono ?_;clear bd;rintro e be ⟨rfl,bg⟩
     have v:ay (du w1 c t p G2 b m (i+1) (i+1) be):=a1.o.below bg;obtain⟨b1,b2,b3,b4,b5⟩:=B.o;have g1:¬(s:Int)<0:=V;have g2:¬(u:Int)<0:=V;have g3:¬(n:Int)<(s:Int):=V;have g4:¬(o:Int)<(u:Int):=V;clear bg ad ag q0 q1 a1 b1 b2 b3 b4 b5;obtain⟨ad,ag,_⟩:=v.o.cells;obtain⟨q0,q1,_⟩:=eh v.o.g;have bi:=a2.o be v.o;clear a2;go_wp2_with fail;refine bi.mono ?_;clear bi;rintro e bl ⟨C,X,D,ab,rfl,_,bn,bo⟩
     have bp:ay (du w1 c t p G2 b m (i+1) (i+1) bl):=v.o.below bo;have br:=K5 C D 12 X ab bl (by have:=bb.o.1;omega) (fun nd cg=>by have ce:=bb.o.2 nd cg;have H:=cf.o;omega) bn.ln;clear bo bn v ad ag q0 q1;go_wp2_with fail;refine br.mono ?_;clear br;rintro e ch ⟨rfl,bs⟩
     have ci:ay (du w1 c t p G2 b m (i+1) (i+1) ch):=bp.o.below bs;have g5:¬(s:Int)+(u:Int)<(iW R.2.2:Int):=by have:=B.o.2.2.2.2;omega
     have bt:(0:Int)<=(s:Int)/\(s:Int)<=256/\(0:Int)<=(u:Int)/\(u:Int)<=1024:=by have:=B.o;omega
     obtain⟨bt,cs,ct,cu⟩:=bt;clear bs bp B;go_wp2_with fail;go_roundw
     case rel=>exact⟨i+1,b,m,p,G2,V,af,ci⟩
     case measure=>simp[intOf];omega
    ·obtain rfl:i=l.length:=V;have ca:¬((l.length:Int)<(l.length:Int)):=V;go_wp2_with fail;go_ret;exact⟨rfl,x.o.trans (A.o.be.mono x.o.size)⟩
end TRo
end Go.Proofs.YtpkjkjhanlbcoaaGreat
