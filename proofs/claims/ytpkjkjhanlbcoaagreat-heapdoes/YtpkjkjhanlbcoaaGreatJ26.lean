import Derived.Test.YtpkjkjhanlbcoaaGreatJ25
namespace Go.Proofs.YtpkjkjhanlbcoaaGreat
set_option maxRecDepth 100000
set_option maxHeartbeats 16000000
open Tryz
open Go.ChangeShapes Go.WideShapes Go.ChangeAt Go.RowKit Go.Joins Go.Deep W ch
theorem Ji:prog.cellsOf 44=6:=ah
theorem Jj:prog.cellsOf 3=1:=ah
theorem Jm:prog.cellsOf 2=1:=ah
structure S6 where
 k:Int
 R:Int
 A:Int
 B:Int
 I:Int
 n:Int
def iK:S6:=⟨0,0,0,0,0,0⟩
def ic (a:Int):Prop:=-9223372036854775808<=a/\a<=9223372036854775807
structure C6 (w:aw)(b o:Nat)(s:S6):Prop where
 c0:w.cell? (ao b o)=some (ak s.k)
 c1:w.cell? (ao b (o+1))=some (ak s.R)
 c2:w.cell? (ao b (o+2))=some (ak s.A)
 c3:w.cell? (ao b (o+3))=some (ak s.B)
 c4:w.cell? (ao b (o+4))=some (ak s.I)
 c5:w.cell? (ao b (o+5))=some (ak s.n)
theorem C6.below {w w':aw}{b o B:Nat}{s:S6}(h:C6 w b o s)(hb:Below B w w')(hB:b<B):C6 w' b o s:=
 ⟨(hb.cell hB).trans h.c0,(hb.cell hB).trans h.c1,(hb.cell hB).trans h.c2,(hb.cell hB).trans h.c3,(hb.cell hB).trans h.c4,(hb.cell hB).trans h.c5⟩
def uK (w:aw)(c:Option Addr)(l:List S6):Prop:=
 0<l.length->∃b o,c=some ⟨b,o,none⟩/\b<w.heap.size/\∀i,i<l.length->C6 w b (o+i*6) (l.getD i iK)/\ic (l.getD i iK).k/\ic (l.getD i iK).R/\ic (l.getD i iK).A/\ic (l.getD i iK).B/\ic (l.getD i iK).I/\ic (l.getD i iK).n
theorem Jn {c:Type}{b:List c}(h:b.length=6):∃c0 c1 c2 c3 c4 c5,b=[c0,c1,c2,c3,c4,c5]:=by
 match b,h with
 |[c0,c1,c2,c3,c4,c5],_=>exact⟨c0,c1,c2,c3,c4,c5,rfl⟩
theorem oa {a:Int}(h:(Lit.int .i64 a).wf=true):ic a:=by
 have:IntKind.i64.min<=a/\a<=9223372036854775807:=by simpa[Lit.wf] using h
 exact⟨this.1,this.2⟩
theorem Jp {H:Type}{enc:TypeId×Value->H}{W:aw}{sp:Nat->Bool}{q:Bool}{t:Nat}{b:List Value}{x:DataW H×List MemPlace}
 (u:DataW.trod enc prog W 0 sp q t 44 b=some x):∃s:S6,b=[.int .i64 s.k,.int .i64 s.R,.int .i64 s.A,.int .i64 s.B,.int .i64 s.I,.int .i64 s.n]/\ic s.k/\ic s.R/\ic s.A/\ic s.B/\ic s.I/\ic s.n:=by
 obtain⟨xs,m,_,S,hl,v,hg⟩:=DataW.trod_struct underlying44 u;obtain⟨c0,c1,c2,c3,c4,c5,rfl⟩:=Jn hl
 match xs,v with
 |[ab,y1,ad,ag,ai,al],_=>
  have t0:=hg 0 _ rfl;have c:=hg 1 _ rfl;have d:=hg 2 _ rfl;have t3:=hg 3 _ rfl;have e:=hg 4 _ rfl;have f:=hg 5 _ rfl;simp[Jj,Jm] at t0 c d t3 e f;obtain⟨k,g,_,w0⟩:=DataW.trod_int underlying3 t0;obtain⟨R,i,_,w1⟩:=DataW.trod_int underlying3 c;obtain⟨A,j,_,w⟩:=DataW.trod_int underlying3 d;obtain⟨B,l,_,w3⟩:=DataW.trod_int underlying3 t3;obtain⟨I,o,_,F⟩:=DataW.trod_int underlying3 e;obtain⟨n,p,_,N⟩:=DataW.trod_int underlying2 f;simp at g i j l o p;exact⟨⟨k,R,A,B,I,n⟩,by rw[g,i,j,l,o,p],oa w0,oa w1,oa w,oa w3,oa F,oa N⟩
theorem Jq {H:Type}{enc:TypeId×Value->H}{W:aw}{sp:Nat->Bool}{u:Bool}{v len w:Nat}{f:Option Addr}{x:DataW H×List MemPlace}
 (B:DataW.trod enc prog W 0 sp u v 36 [.slice f len w]=some x):∃l:List S6,l.length=len/\uK W f l:=by
 rcases open_slice underlying36 B with⟨e,_⟩|⟨z,l,c,m,n,D,al,e,hb,hl,hm,F,_,N⟩
 ·simp at e;obtain⟨rfl,rfl,rfl⟩:=e;exact⟨[],rfl,fun h=>by simp at h⟩
 ·obtain⟨rfl,rfl,rfl⟩:=e;have ap:len<=m:=by rw[F];split<;>omega
  have key:∀i,i<len->∃s:S6,(W.cell? (z.add (i*6))=some (ak s.k)/\W.cell? (z.add (i*6+1))=some (ak s.R)/\W.cell? (z.add (i*6+2))=some (ak s.A)/\W.cell? (z.add (i*6+3))=some (ak s.B)/\W.cell? (z.add (i*6+4))=some (ak s.I)/\W.cell? (z.add (i*6+5))=some (ak s.n))/\ic s.k/\ic s.R/\ic s.A/\ic s.B/\ic s.I/\ic s.n:=by
   intro i hi;obtain⟨ar,g,ab⟩:=N i aa;rw[Ji] at g;obtain⟨_,_,d⟩:=World.cells?_some g;obtain⟨s,rfl,hb⟩:=Jp ab;refine⟨s,⟨?_,?_,?_,?_,?_,?_⟩,hb⟩
   ·have:=d 0 aa;rw[add_add] at this;simpa using this
   ·have:=d 1 aa;rw[add_add] at this;simpa using this
   ·have:=d 2 aa;rw[add_add] at this;simpa using this
   ·have:=d 3 aa;rw[add_add] at this;simpa using this
   ·have:=d 4 aa;rw[add_add] at this;simpa using this
   ·have:=d 5 aa;rw[add_add] at this;simpa using this
  have:Inhabited S6:=⟨iK⟩
  obtain⟨S,k⟩:=choose_lt key;refine⟨(List.range len).map S,ac,fun hp=>?_⟩
  simp only [List.length_map,List.length_range] at hp⊢;obtain⟨b,o,ad⟩:=z;have h0:=(k 0 hp).1.1;have ag:ad=none:=by simpa[Addr.add] using World.cell?_spot h0
  subst ag;refine⟨b,o,rfl,aM W (⟨b,o,none⟩:Addr) (by simpa[Addr.add] using h0),fun i hi=>?_⟩
  obtain⟨⟨k0,k1,p,q,t,k5⟩,k6⟩:=k i hi;have ea:∀j,(⟨b,o,none⟩:Addr).add j=⟨b,o+j,none⟩:=fun j=>by simp[Addr.add]
  rw[ea] at k0 k1 p q t k5;have ai:((List.range len).map S).getD i iK=S i:=by simp[hi]
  rw[ai];exact⟨⟨k0,by exact k1,by exact p,by exact q,by exact t,by exact k5⟩,k6⟩
namespace HDs
open Go.RowKit W Kp ch
structure Two (w1:aw)(c:Wc)(hp rp eF:Nat)(n o:Int)(F G:Nat->Prop)(S:co)(W:cn)(i:Nat)(w:aw):Prop where
 g:(cv c hp).J F S w
 r:(cq rp eF n o).J G W w
 ok:d3 c S i
 gi:dG W i
 rl:∃m Y X,cz c S W m Y X
 ap:∀b,F b->¬G b
 uL:∀b,F b->w1.heap.size<=b
 uM:∀b,G b->w1.heap.size<=b
 be:Below w1.heap.size w1 w
section
variable {w1 w w':aw}{c:Wc}{hp rp eF i:Nat}{n o:Int}{F G F' G':Nat->Prop}{S S2:co}{W W2:cn}
theorem Two.below (h:Two w1 c hp rp eF n o F G S W i w)(hb:Below w.heap.size w w'):Two w1 c hp rp eF n o F G S W i w':=
 ⟨(cv c hp).below h.g hb,(cq rp eF n o).below h.r hb,h.ok,h.gi,h.rl,h.ap,h.uL,h.uM,h.be.trans (hb.mono h.be.size)⟩
theorem Two.gr (h:Two w1 c hp rp eF n o F G S W i w)(t:ce F w F' w'):(cq rp eF n o).J G W w'/\(∀b,F' b->¬G b)/\(∀b,F' b->w1.heap.size<=b)/\Below w1.heap.size w1 w':=
 ⟨(cq rp eF n o).fr h.r t.fr (fun k e d=>h.ap k d e),fun b d e=>(t.sub b d).elim (fun c=>h.ap b c e) (fun c=>by have:=(cq rp eF n o).lt h.r b e;omega),fun b d=>(t.sub b d).elim (h.uL b) (fun c=>aS h.be.size c),h.be.trans (t.fr.below h.be.size (fun k f=>h.uL k f))⟩
theorem Two.of {l:aw}{j:Nat}(h:Two w1 c hp rp eF n o F G S W i w)(t:ce F w F' w')(hg:(cv c hp).J F' S2 w')(f:ce G w' G' l)(s:(cq rp eF n o).J G' W2 l)(ok:d3 c S2 j)(hi:dG W2 j)(u:∃m Y X,cz c S2 W2 m Y X):Two w1 c hp rp eF n o F' G' S2 W2 j l:=by obtain⟨B,q,v,p⟩:=h.gr t;exact⟨(cv c hp).fr hg f.fr (fun k g d=>q k g d),s,ok,hi,u,fun b g d=>(f.sub b d).elim (q b g) (fun e=>by have:=(cv c hp).lt hg b g;omega),v,fun b d=>(f.sub b d).elim (h.uM b) (fun e=>aS p.size e),p.trans (f.fr.below p.size (fun k x=>h.uM k x))⟩
theorem Two.us (h:Two w1 c hp rp eF n o F G S W i w):dC W.T=((S.s.y:Int),(S.s.g:Int)):=by obtain⟨m,Y,X,b⟩:=h.rl;exact b.us (rn h.g)
theorem Two.cE (h:Two w1 c hp rp eF n o F G S W i w)(hi:i<=10000):(fj c.N S.s.y S.s.g S.s.ws S.q S.s.rs).1=(eX.fi W.T W.wt W.rs).1/\(fj c.N S.s.y S.s.g S.s.ws S.q S.s.rs).2.2=(eX.fi W.T W.wt W.rs).2.2:=by obtain⟨m,Y,X,b⟩:=h.rl;exact b.view (rn h.g) (aS h.gi.tj hi)
end
theorem walk (n o:Int)(a:Option Addr)(cc:Nat)(l:List S6)(w:aw)(hl:uK w a l):
 Calls prog 4 #[ak n,ak o,.slice a l.length cc] w fun e w'=>e=.returned (.bool true)/\Below w.heap.size w w':=by
 obtain⟨g,hg⟩:=Eb;have dk:ay (uK w a l):=hl;have bn:ay (∀T wt,gD T wt->ed T wt (g T wt)):=hg;clear hl hg;by_cases dI:250<l.length
 ·go_enter func4,ntmps4;go_wp2_with fail;refine(uI w).mono ?_;rintro e w1 ⟨rfl,hb1⟩
  have cB:(250:Int)<(l.length:Int):=aa;exact lz
 ·have cB:¬((250:Int)<(l.length:Int)):=aa;by_cases bo:n<16\/256<n\/o<0\/1024<o
  ·have cC:ay (n<16\/256<n\/o<0\/1024<o):=bo;clear bo;go_enter func4,ntmps4;go_wp2_with fail;refine(uI w).mono ?_;rintro e w1 ⟨rfl,hb1⟩
   go_wp2_with fail;refine(Jf n o w1 cC.o).mono ?_;rintro e f ⟨rfl,cD⟩
   have bp:=hb1.trans (cD.mono hb1.size)
   have aR:=aq f (.cells #[.int .i64 1,.int .i64 (-1)] 28)
   have br:ay (Below w.heap.size w (f.alloc (.cells #[.int .i64 1,.int .i64 (-1)] 28))):=bp.trans (aR.mono bp.size)
   have ap:ay ((f.alloc (.cells #[.int .i64 1,.int .i64 (-1)] 28)).heap[f.heap.size]?=some (.cells #[ak 1,ak (-1)] 28 (0,0))):=aN _ _;clear hb1 cD bp aR;go_wp2_with fail;generalize f.alloc (.cells #[.int .i64 1,.int .i64 (-1)] 28)=w3 at*;generalize f.heap.size=ab at*;refine(EI n o w3 cC.o).mono ?_;rintro e B ⟨rfl,ag⟩
   have ad:=(ag.block ab (lt_of_some ap.o)).trans ap.o;have bs:=br.o.trans (ag.mono br.o.size)
   have cE:B.cell? (ao ab 0)=some (ak 1):=aA ad
   have cF:B.cell? (ao ab 1)=some (ak (-1)):=aA ad
   have cG:=lt_of_some ad;have nx:ab≠B.heap.size:=aa;have dl:=bs.alloc bs.size (.cells #[.int .i64 1,.int .i64 (-1)] 28)
   clear ad ag bs ap br;go_wp2_with fail;go_ret;exact⟨rfl,dl⟩
  ·have dm:16<=n/\n<=256/\0<=o/\o<=1024:=aa;obtain⟨n,rfl⟩:=Int.eq_ofNat_of_zero_le (show 0<=n by omega)
   obtain⟨o,rfl⟩:=Int.eq_ofNat_of_zero_le (show 0<=o by omega)
   have bt:ay (16<=n/\n<=256/\o<=1024):=⟨aa,aa,aa⟩
   have dJ:ay ((-1000000:Int)<=o/\(o:Int)<=1000000/\(-1000000:Int)<=n/\(n:Int)<=1000000):=⟨aa,aa,aa,aa⟩
   have bb:ay ((0:Int)<=o/\(o:Int)<=100000/\(0:Int)<=n/\(n:Int)<=100000):=⟨aa,aa,aa,aa⟩
   have cH:ay (∀w',Calls prog 14 #[ak n,ak o] w' fun e j=>e=.returned (.agg #[ak 0,ak 0])/\Below w'.heap.size w' j):=fun w'=>EH n o w' aa aa aa aa;clear bo dm;go_enter func4,ntmps4;go_wp2_with fail;refine(uI w).mono ?_;rintro e w1 ⟨rfl,hb1⟩
   have bd:ay (Below w.heap.size w w1):=hb1;clear hb1;go_wp2_with fail;refine(Ay n o w1 bt.o.1 bt.o.2.1 bt.o.2.2).mono ?_;rintro e f ⟨c,hp,aT,rfl,cI,⟨k1,cJ⟩,cK,b1⟩
   have cL:ay (c.N=n/\c.O=o):=⟨k1,cJ⟩
   clear k1 cJ;have aR:=aq f (.cells #[.int .i64 0,.int .i64 0] 28)
   have a1:ay ((cv c hp).J aT (iP n o).1 (f.alloc (.cells #[.int .i64 0,.int .i64 0] 28))/\(∀b,aT b->w1.heap.size<=b)/\Below w1.heap.size w1 (f.alloc (.cells #[.int .i64 0,.int .i64 0] 28))):=⟨(cv c hp).below cI aR,cK,b1.trans (aR.mono b1.size)⟩
   have ap:ay ((f.alloc (.cells #[.int .i64 0,.int .i64 0] 28)).heap[f.heap.size]?=some (.cells #[ak 0,ak 0] 28 (0,0))):=aN _ _;clear cI cK b1 aR;go_wp2_with fail;generalize f.alloc (.cells #[.int .i64 0,.int .i64 0] 28)=w3 at*;generalize f.heap.size=ab at*;refine(cH.o w3).mono ?_;rintro e B ⟨rfl,ag⟩
   have ad:=(ag.block ab (lt_of_some ap.o)).trans ap.o;have cE:B.cell? (ao ab 0)=some (ak 0):=aA ad
   have cF:B.cell? (ao ab 1)=some (ak 0):=aA ad
   have cG:=lt_of_some ad;have nx:ab≠B.heap.size:=aa;have bx:Below w3.heap.size w3 (B.alloc (.cells #[.int .i64 0,.int .i64 0] 28)):=ag.alloc ag.size _;have ar:ay ((cv c hp).J aT (iP n o).1 (B.alloc (.cells #[.int .i64 0,.int .i64 0] 28))/\(∀b,aT b->w1.heap.size<=b)/\Below w1.heap.size w1 (B.alloc (.cells #[.int .i64 0,.int .i64 0] 28))):=⟨(cv c hp).below a1.o.1 bx,a1.o.2.1,a1.o.2.2.trans (bx.mono a1.o.2.2.size)⟩
   clear ad ag bx ap a1 cH;go_wp2_with fail;clear cE cF cG nx;generalize B.alloc (.cells #[.int .i64 0,.int .i64 0] 28)=dn at*;generalize B.heap.size=dK at*;refine(CA n o dn).mono ?_;rintro e dp ⟨rp,eF,cM,rfl,cN,b0,b6⟩
   have cO:ay (Two w1 c hp rp eF n o aT cM (iP n o).1 (iP n o).2 0 dp):=⟨(cv c hp).below ar.o.1 b6,cN,d3.start c n o,dG.start,⟨_,_,_,cz.start c n o⟩,fun b dq b2=>by have dL:=(cv c hp).lt ar.o.1 b dq;have cB:=b0 b b2;omega,ar.o.2.1,fun b b2=>aS ar.o.2.2.size (b0 b b2),ar.o.2.2.trans (b6.mono ar.o.2.2.size)⟩
   clear ar cN b0 b6;go_wp2_with fail
   go_loopw [11] (fun iv wr=>∃(i:Nat)(S:co)(W:cn)(F G:Nat->Prop),i<=l.length/\iv=ak i/\ay (Two w1 c hp rp eF n o F G S W i wr)) (fun iv _=>l.length-(intOf iv).toNat)
   case atStart=>exact⟨0,(iP n o).1,(iP n o).2,aT,cM,aX _,rfl,cO⟩
   case round=>
    clear cO;obtain⟨i,S,W,F,G,hi,rfl,t⟩:=hrel;by_cases dr:i<l.length
    ·obtain⟨ax,aB,ds,l0,hc⟩:=dk.o aa;obtain⟨cP,_⟩:=hc i dr;subst ds;clear hc;have dM:(0:Int)<=(i:Int):=aa;have dt:(i:Int)<(l.length:Int):=aa;generalize l.getD i iK=st at*;obtain⟨k,sR,p,q,s,sn⟩:=st;have be:ay (∀w',Below w1.heap.size w1 w'->C6 w' ax (aB+i*6) ⟨k,sR,p,q,s,sn⟩):=fun w' hb=>cP.below (bd.o.trans (hb.mono bd.o.size)) l0;obtain⟨cQ,y1,cR,cS,cT,cU⟩:=be.o wr t.o.be;dsimp only at cQ y1 cR cS cT cU;have b3:=rn t.o.g;have b4:ay (n9 c (S.hd c k sR p q s sn) (W.eB g n o k sR p q s sn)):=by obtain⟨m,Y,X,du⟩:=t.o.rl;have:=du.hds t.o.ok b3 bn.o k sR p q s sn;rwa [cL.o.1,cL.o.2] at this
     have b5:ay (d3 c (S.hd c k sR p q s sn).2 (i+1)):=(t.o.ok.hd b3 k sR p q s sn).1;have b7:ay (dG (W.eB g n o k sR p q s sn).2 (i+1)):=t.o.gi.eB aa (bn.o _ _ t.o.gi.iv) k sR p q s sn;have P:=I7 ((t.o.below (au wr).drew).g) t.o.ok aa k sR p q s sn;have b8:ay (∀w',(cq rp eF n o).J G W w'->Calls prog 21 #[am rp,gt k sR p q s sn] w' fun e j=>∃cV,e=.returned (ak (W.eB g n o k sR p q s sn).1)/\(cq rp eF n o).J cV (W.eB g n o k sR p q s sn).2 j/\ce G w' cV j):=fun w' dv=>Er dv t.o.gi (bn.o _ _ t.o.gi.iv) aa bb.o.1 bb.o.2.1 bb.o.2.2.1 bb.o.2.2.2 k sR p q s sn;clear cP b3;generalize S.hd c k sR p q s sn=D at*;generalize W.eB g n o k sR p q s sn=E at*;obtain⟨cd,v⟩:=D;obtain⟨dw,d⟩:=E;have dx:cd=dw:=b4.o.1;subst dx;have cW:ay (∃m Y X,cz c v d m Y X):=b4.o.2;clear b4;dsimp only at P b8 b5 b7;go_wp2_with fail
     go_region_held3 (fun w'=>w'.cell? (ao ax (aB+i*6))=some (ak k)/\w'.cell? (ao ax (aB+i*6+1))=some (ak sR)/\w'.cell? (ao ax (aB+i*6+2))=some (ak p)/\w'.cell? (ao ax (aB+i*6+3))=some (ak q)/\w'.cell? (ao ax (aB+i*6+4))=some (ak s)/\w'.cell? (ao ax (aB+i*6+5))=some (ak sn)) (first|exact⟨u0,b9,ca,cb,cf,cg⟩|exact⟨z0,ch,ci,cj,ck,cl⟩|(go_keep;done)) (first
      |(go_at_call 20;refine P.mono ?_;clear P;rintro e aV ⟨u,rfl,cX,cm⟩;have cY:ay ((cv c hp).J u v aV):=cX;have cp:ay (ce F wr u aV):=⟨(Fr.of (au wr).drew).trans cm.fr (fun b c=>aL c),fun b c=>cm.sub b c⟩;clear cX cm;have cr:ay ((cq rp eF n o).J G W aV/\(∀b,u b->¬G b)/\(∀b,u b->w1.heap.size<=b)/\Below w1.heap.size w1 aV):=t.o.gr cp.o;have cZ:=b8.o aV cr.o.1;obtain⟨z0,ch,ci,cj,ck,cl⟩:=be.o aV cr.o.2.2.2;dsimp only at z0 ch ci cj ck cl;clear b8)
      |(go_at_call 21;refine cZ.mono ?_;clear cZ;rintro e cs ⟨N,rfl,c0,c1⟩;have aF:ay (Two w1 c hp rp eF n o u N v d (i+1) cs):=t.o.of cp.o cY.o c1 c0 b5.o b7.o cW.o;obtain⟨u0,b9,ca,cb,cf,cg⟩:=be.o cs aF.o.be;dsimp only at u0 b9 ca cb cf cg;clear c0 c1))
     clear cQ y1 cR cS cT cU z0 ch ci cj ck cl u0 b9 ca cb cf cg be cr cp cY t b5 b7 cW;have hw:=aF.o.gi.xH aa;have c2:ay (∀w',Two w1 c hp rp eF n o u N v d (i+1) w'->Calls prog 22 #[am c.p] w' fun e j=>e=.returned (.tuple #[ak (dC d.T).1,ak (dC d.T).2])/\Below w'.heap.size w' j):=fun w' h=>by rw[h.us];exact Jh h.g
     have c3:ay (∀w',Two w1 c hp rp eF n o u N v d (i+1) w'->Calls prog 23 #[am rp] w' fun e j=>e=.returned (.tuple #[ak (dC d.T).1,ak (dC d.T).2])/\Below w'.heap.size w' j):=fun w' h=>pT h.r (h.gi.qj aa).t12 (aS h.gi.tj aa)
     have ct:ay (∀w',Two w1 c hp rp eF n o u N v d (i+1) w'->Calls prog 25 #[am c.pw] w' fun e j=>∃ai a2 al nc,e=.returned (.agg #[.slice ai 12 a2,.slice al (eX.fi d.T d.wt d.rs).2.2.length nc])/\nf j w'.heap.size ai (eX.fi d.T d.wt d.rs).1/\lv j w'.heap.size al (eX.fi d.T d.wt d.rs).2.2/\Below w'.heap.size w' j):=fun w' h=>by obtain⟨v1,v2⟩:=h.cE aa;rw[<-v1,<-v2];exact Jg h.g (by have:=h.ok.eF;omega)
     have cu:ay (∀w',Two w1 c hp rp eF n o u N v d (i+1) w'->Calls prog 26 #[am rp] w' fun e j=>∃ai a2 al c4 nc,e=.returned (.agg #[.slice ai 12 a2,.slice al c4 nc])/\nf j w'.heap.size ai (eX.fi d.T d.wt d.rs).1/\lv j w'.heap.size al (eX.fi d.T d.wt d.rs).2.2/\c4=(eX.fi d.T d.wt d.rs).2.2.length/\Below w'.heap.size w' j):=fun w' h=>EP h.r h.gi aa;have a0:ay ((eX.fi d.T d.wt d.rs).1.length=12/\(eX.fi d.T d.wt d.rs).2.2.length<=10000/\∀nd∈(eX.fi d.T d.wt d.rs).2.2,nd.2.length<=20000):=by obtain⟨q1,a3,q3⟩:=EO hw d.rs;exact⟨q1.trans aF.o.gi.rl,a3,q3⟩
     clear hw;generalize (dC d.T).1=x at*;generalize (dC d.T).2=y at*;generalize eX.fi d.T d.wt d.rs=dy at*;obtain⟨c5,ms,c6⟩:=dy;dsimp only at ct cu a0;obtain⟨q0,q1,a3⟩:=eI aF.o.g;go_wp2_with fail;refine(c2.o cs aF.o).mono ?_;rintro e c7 ⟨rfl,c9⟩
     have cw:ay (Two w1 c hp rp eF n o u N v d (i+1) c7):=aF.o.below c9;clear c9 aF c2;go_wp2_with fail;refine(c3.o c7 cw.o).mono ?_;rintro e da ⟨rfl,db⟩
     have bg:ay (Two w1 c hp rp eF n o u N v d (i+1) da):=cw.o.below db;clear db cw c3 q0 q1 a3;obtain⟨q0,q1,a3⟩:=eI bg.o.g;go_wp2_with fail;refine(ct.o da bg.o).mono ?_;rintro e bi ⟨ai,a2,al,nc,rfl,dc,dd,de⟩
     have cx:ay (Two w1 c hp rp eF n o u N v d (i+1) bi):=bg.o.below de;have cy:ay (c8 bi ai c5/\Ln bi al c6):=⟨dc.1,dd.ln⟩
     clear de bg ct dc dd q0 q1 a3;go_wp2_with fail;refine(cu.o bi cx.o).mono ?_;rintro e df ⟨r3,dz,dA,dN,dB,rfl,dg,dh,dD,bl⟩
     subst dD;have di:ay (Two w1 c hp rp eF n o u N v d (i+1) df):=cx.o.below bl;have cA:=EF ai r3 al dA a2 dz nc dB c5 c6 df (by rw[a0.o.1];decide) (by have:=a0.o.2.1;omega) (fun nd dE=>by have:=a0.o.2.2 nd dE;omega) (cy.o.1.below bl) dg.1 (cy.o.2.below bl) dh.ln;rw[a0.o.1] at cA;clear bl cx cu dg dh cy;go_wp2_with fail;refine cA.mono ?_;clear cA;rintro e dF ⟨rfl,dj⟩
     have dH:ay (Two w1 c hp rp eF n o u N v d (i+1) dF):=di.o.below dj;clear dj di a0;go_wp2_with fail;go_roundw
     case rel=>exact⟨i+1,v,d,u,N,aa,aj,dH⟩
     case measure=>simp[intOf];omega
    ·obtain rfl:i=l.length:=aa;have dt:¬((l.length:Int)<(l.length:Int)):=aa;go_wp2_with fail;go_ret;exact⟨rfl,bd.o.trans (t.o.be.mono bd.o.size)⟩
end HDs
end Go.Proofs.YtpkjkjhanlbcoaaGreat
