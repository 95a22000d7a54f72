import Derived.Test.YtjpjpjemibgjpaaGreatJ26
namespace Go.Proofs.YtjpjpjemibgjpaaGreat
set_option maxRecDepth 100000
set_option maxHeartbeats 16000000
open Tryz
namespace HDs
open Go.RowKit W Kp cg
structure Two (w1:au)(c:Wc)(hp rp ez:Nat)(n o:Int)(F G:Nat->Prop)(S:ck)(W:cj)(i:Nat)(w:au):Prop where
 g:(cq c hp).J F S w
 r:(cn rp ez n o).J G W w
 ok:dV c S i
 gi:dD W i
 rl:∃m Y X,cw c S W m Y X
 ap:∀b,F b->¬G b
 uT:∀b,F b->w1.heap.size<=b
 uU:∀b,G b->w1.heap.size<=b
 be:Below w1.heap.size w1 w
section
variable {w1 w w':au}{c:Wc}{hp rp ez i:Nat}{n o:Int}{F G F' G':Nat->Prop}{S S2:ck}{W W2:cj}
theorem Two.below (h:Two w1 c hp rp ez n o F G S W i w)(b:Below w.heap.size w w'):Two w1 c hp rp ez n o F G S W i w':=
 ⟨(cq c hp).below h.g b,(cn rp ez n o).below h.r b,h.ok,h.gi,h.rl,h.ap,h.uT,h.uU,h.be.trans (b.mono h.be.size)⟩
theorem Two.gr (h:Two w1 c hp rp ez n o F G S W i w)(t:b_ F w F' w'):(cn rp ez n o).J G W w'/\(∀b,F' b->¬G b)/\(∀b,F' b->w1.heap.size<=b)/\Below w1.heap.size w1 w':=
 ⟨(cn rp ez n o).fr h.r t.fr (fun k e d=>h.ap k d e),fun b d e=>(t.sub b d).elim (fun c=>h.ap b c e) (fun c=>by have:=(cn rp ez n o).lt h.r b e;omega),fun b d=>(t.sub b d).elim (h.uT b) (fun c=>aP h.be.size c),h.be.trans (t.fr.below h.be.size (fun k f=>h.uT k f))⟩
theorem Two.of {l:au}{j:Nat}(h:Two w1 c hp rp ez n o F G S W i w)(t:b_ F w F' w')(hg:(cq c hp).J F' S2 w')(f:b_ G w' G' l)(s:(cn rp ez n o).J G' W2 l)(ok:dV c S2 j)(hi:dD W2 j)(u:∃m Y X,cw c S2 W2 m Y X):Two w1 c hp rp ez n o F' G' S2 W2 j l:=by obtain⟨A,q,v,p⟩:=h.gr t;exact⟨(cq c hp).fr hg f.fr (fun k g d=>q k g d),s,ok,hi,u,fun b g d=>(f.sub b d).elim (q b g) (fun e=>by have:=(cq c hp).lt hg b g;omega),v,fun b d=>(f.sub b d).elim (h.uU b) (fun e=>aP p.size e),p.trans (f.fr.below p.size (fun k x=>h.uU k x))⟩
theorem Two.us (h:Two w1 c hp rp ez n o F G S W i w):dy W.T=((S.s.y:Int),(S.s.g:Int)):=by obtain⟨m,Y,X,b⟩:=h.rl;exact b.us (rE h.g)
theorem Two.cA (h:Two w1 c hp rp ez n o F G S W i w)(hi:i<=10000):(fe c.N S.s.y S.s.g S.s.ws S.q S.s.rs).1=(eR.e_ W.T W.wt W.rs).1/\(fe c.N S.s.y S.s.g S.s.ws S.q S.s.rs).2.2=(eR.e_ W.T W.wt W.rs).2.2:=by obtain⟨m,Y,X,b⟩:=h.rl;exact b.view (rE h.g) (aP h.gi.tj hi)
end
theorem walk (n o:Int)(a:Option Addr)(cc:Nat)(l:List S6)(w:au)(hl:uS w a l):
 Calls prog 4 #[ah n,ah o,.slice a l.length cc] w fun e w'=>e=.returned (.bool true)/\Below w.heap.size w w':=by
 obtain⟨g,hg⟩:=Eu;have c5:av (uS w a l):=hl;have aT:av (∀T wt,gy T wt->d9 T wt (g T wt)):=hg;clear hl hg;by_cases ds:250<l.length
 ·go_enter func4,ntmps4;go_wp2_with fail;refine(uQ w).mono ?_;rintro e w1 ⟨rfl,hb1⟩
  have ch:(250:Int)<(l.length:Int):=V;exact lB
 ·have ch:¬((250:Int)<(l.length:Int)):=V;by_cases aV:n<16\/256<n\/o<0\/1024<o
  ·have ci:av (n<16\/256<n\/o<0\/1024<o):=aV;clear aV;go_enter func4,ntmps4;go_wp2_with fail;refine(uQ w).mono ?_;rintro e w1 ⟨rfl,hb1⟩
   go_wp2_with fail;refine(Jx n o w1 ci.o).mono ?_;rintro e f ⟨rfl,cl⟩
   have a0:=hb1.trans (cl.mono hb1.size)
   have R:=an f (.cells #[.int .i64 1,.int .i64 (-1)] 28)
   have a1:av (Below w.heap.size w (f.alloc (.cells #[.int .i64 1,.int .i64 (-1)] 28))):=a0.trans (R.mono a0.size)
   have L:av ((f.alloc (.cells #[.int .i64 1,.int .i64 (-1)] 28)).heap[f.heap.size]?=some (.cells #[ah 1,ah (-1)] 28 (0,0))):=aL _ _;clear hb1 cl a0 R;go_wp2_with fail;generalize f.alloc (.cells #[.int .i64 1,.int .i64 (-1)] 28)=w3 at*;generalize f.heap.size=C at*;refine(EV n o w3 ci.o).mono ?_;rintro e A ⟨rfl,I⟩
   have H:=(I.block C (lt_of_some L.o)).trans L.o;have a2:=a1.o.trans (I.mono a1.o.size)
   have cm:A.cell? (am C 0)=some (ah 1):=ay H
   have co:A.cell? (am C 1)=some (ah (-1)):=ay H
   have cp:=lt_of_some H;have nx:C≠A.heap.size:=V;have c6:=a2.alloc a2.size (.cells #[.int .i64 1,.int .i64 (-1)] 28)
   clear H I a2 L a1;go_wp2_with fail;go_ret;exact⟨rfl,c6⟩
  ·have c7:16<=n/\n<=256/\0<=o/\o<=1024:=V;obtain⟨n,rfl⟩:=Int.eq_ofNat_of_zero_le (show 0<=n by omega)
   obtain⟨o,rfl⟩:=Int.eq_ofNat_of_zero_le (show 0<=o by omega)
   have a3:av (16<=n/\n<=256/\o<=1024):=⟨V,V,V⟩
   have dt:av ((-1000000:Int)<=o/\(o:Int)<=1000000/\(-1000000:Int)<=n/\(n:Int)<=1000000):=⟨V,V,V,V⟩
   have ap:av ((0:Int)<=o/\(o:Int)<=100000/\(0:Int)<=n/\(n:Int)<=100000):=⟨V,V,V,V⟩
   have cr:av (∀w',Calls prog 7 #[ah n,ah o] w' fun e j=>e=.returned (.agg #[ah 0,ah 0])/\Below w'.heap.size w' j):=fun w'=>EU n o w' V V V V;clear aV c7;go_enter func4,ntmps4;go_wp2_with fail;refine(uQ w).mono ?_;rintro e w1 ⟨rfl,hb1⟩
   have ar:av (Below w.heap.size w w1):=hb1;clear hb1;go_wp2_with fail;refine(AQ n o w1 a3.o.1 a3.o.2.1 a3.o.2.2).mono ?_;rintro e f ⟨c,hp,U,rfl,cs,⟨k1,ct⟩,cu,b1⟩
   have cv:av (c.N=n/\c.O=o):=⟨k1,ct⟩
   clear k1 ct;have R:=an f (.cells #[.int .i64 0,.int .i64 0] 28)
   have ag:av ((cq c hp).J U (iM n o).1 (f.alloc (.cells #[.int .i64 0,.int .i64 0] 28))/\(∀b,U b->w1.heap.size<=b)/\Below w1.heap.size w1 (f.alloc (.cells #[.int .i64 0,.int .i64 0] 28))):=⟨(cq c hp).below cs R,cu,b1.trans (R.mono b1.size)⟩
   have L:av ((f.alloc (.cells #[.int .i64 0,.int .i64 0] 28)).heap[f.heap.size]?=some (.cells #[ah 0,ah 0] 28 (0,0))):=aL _ _;clear cs cu b1 R;go_wp2_with fail;generalize f.alloc (.cells #[.int .i64 0,.int .i64 0] 28)=w3 at*;generalize f.heap.size=C at*;refine(cr.o w3).mono ?_;rintro e A ⟨rfl,I⟩
   have H:=(I.block C (lt_of_some L.o)).trans L.o;have cm:A.cell? (am C 0)=some (ah 0):=ay H
   have co:A.cell? (am C 1)=some (ah 0):=ay H
   have cp:=lt_of_some H;have nx:C≠A.heap.size:=V;have bb:Below w3.heap.size w3 (A.alloc (.cells #[.int .i64 0,.int .i64 0] 28)):=I.alloc I.size _;have M:av ((cq c hp).J U (iM n o).1 (A.alloc (.cells #[.int .i64 0,.int .i64 0] 28))/\(∀b,U b->w1.heap.size<=b)/\Below w1.heap.size w1 (A.alloc (.cells #[.int .i64 0,.int .i64 0] 28))):=⟨(cq c hp).below ag.o.1 bb,ag.o.2.1,ag.o.2.2.trans (bb.mono ag.o.2.2.size)⟩
   clear H I bb L ag cr;go_wp2_with fail;clear cm co cp nx;generalize A.alloc (.cells #[.int .i64 0,.int .i64 0] 28)=c8 at*;generalize A.heap.size=du at*;refine(CS n o c8).mono ?_;rintro e c9 ⟨rp,ez,cx,rfl,cy,bd,b6⟩
   have cz:av (Two w1 c hp rp ez n o U cx (iM n o).1 (iM n o).2 0 c9):=⟨(cq c hp).below M.o.1 b6,cy,dV.start c n o,dD.start,⟨_,_,_,cw.start c n o⟩,fun b da be=>by have dv:=(cq c hp).lt M.o.1 b da;have ch:=bd b be;omega,M.o.2.1,fun b be=>aP M.o.2.2.size (bd b be),M.o.2.2.trans (b6.mono M.o.2.2.size)⟩
   clear M cy bd b6;go_wp2_with fail
   go_loopw [11] (fun iv wr=>∃(i:Nat)(S:ck)(W:cj)(F G:Nat->Prop),i<=l.length/\iv=ah i/\av (Two w1 c hp rp ez n o F G S W i wr)) (fun iv _=>l.length-(intOf iv).toNat)
   case atStart=>exact⟨0,(iM n o).1,(iM n o).2,U,cx,aS _,rfl,cz⟩
   case round=>
    clear cz;obtain⟨i,S,W,F,G,hi,rfl,t⟩:=hrel;by_cases db:i<l.length
    ·obtain⟨N,O,dc,l0,hc⟩:=c5.o V;obtain⟨cA,_⟩:=hc i db;subst dc;clear hc;have dw:(0:Int)<=(i:Int):=V;have dd:(i:Int)<(l.length:Int):=V;generalize l.getD i iH=st at*;obtain⟨k,sR,p,q,s,sn⟩:=st;have ax:av (∀w',Below w1.heap.size w1 w'->C6 w' N (O+i*6) ⟨k,sR,p,q,s,sn⟩):=fun w' de=>cA.below (ar.o.trans (de.mono ar.o.size)) l0;obtain⟨cB,y1,cC,cD,cE,cF⟩:=ax.o wr t.o.be;dsimp only at cB y1 cC cD cE cF;have bg:=rE t.o.g;have bi:av (oa c (S.hd c k sR p q s sn) (W.es g n o k sR p q s sn)):=by obtain⟨m,Y,X,df⟩:=t.o.rl;have:=df.hds t.o.ok bg aT.o k sR p q s sn;rwa [cv.o.1,cv.o.2] at this
     have bl:av (dV c (S.hd c k sR p q s sn).2 (i+1)):=(t.o.ok.hd bg k sR p q s sn).1;have bn:av (dD (W.es g n o k sR p q s sn).2 (i+1)):=t.o.gi.es V (aT.o _ _ t.o.gi.iv) k sR p q s sn;have P:=Jn ((t.o.below (ao wr).drew).g) t.o.ok V k sR p q s sn;have bo:av (∀w',(cn rp ez n o).J G W w'->Calls prog 14 #[aj rp,gm k sR p q s sn] w' fun e j=>∃cG,e=.returned (ah (W.es g n o k sR p q s sn).1)/\(cn rp ez n o).J cG (W.es g n o k sR p q s sn).2 j/\b_ G w' cG j):=fun w' dg=>EF dg t.o.gi (aT.o _ _ t.o.gi.iv) V ap.o.1 ap.o.2.1 ap.o.2.2.1 ap.o.2.2.2 k sR p q s sn;clear cA bg;generalize S.hd c k sR p q s sn=D at*;generalize W.es g n o k sR p q s sn=E at*;obtain⟨cd,v⟩:=D;obtain⟨dh,d⟩:=E;have di:cd=dh:=bi.o.1;subst di;have cH:av (∃m Y X,cw c v d m Y X):=bi.o.2;clear bi;dsimp only at P bo bl bn;go_wp2_with fail
     go_region_held3 (fun w'=>w'.cell? (am N (O+i*6))=some (ah k)/\w'.cell? (am N (O+i*6+1))=some (ah sR)/\w'.cell? (am N (O+i*6+2))=some (ah p)/\w'.cell? (am N (O+i*6+3))=some (ah q)/\w'.cell? (am N (O+i*6+4))=some (ah s)/\w'.cell? (am N (O+i*6+5))=some (ah sn)) (first|exact⟨u0,bp,br,bs,bt,bx⟩|exact⟨z0,bY,bZ,b0,b2,b3⟩|(go_keep;done)) (first
      |(go_at_call 13;refine P.mono ?_;clear P;rintro e ab ⟨u,rfl,cI,b4⟩;have cJ:av ((cq c hp).J u v ab):=cI;have b5:av (b_ F wr u ab):=⟨(Fr.of (ao wr).drew).trans b4.fr (fun b c=>aJ c),fun b c=>b4.sub b c⟩;clear cI b4;have b7:av ((cn rp ez n o).J G W ab/\(∀b,u b->¬G b)/\(∀b,u b->w1.heap.size<=b)/\Below w1.heap.size w1 ab):=t.o.gr b5.o;have cK:=bo.o ab b7.o.1;obtain⟨z0,bY,bZ,b0,b2,b3⟩:=ax.o ab b7.o.2.2.2;dsimp only at z0 bY bZ b0 b2 b3;clear bo)
      |(go_at_call 14;refine cK.mono ?_;clear cK;rintro e b8 ⟨B,rfl,cL,cM⟩;have Q:av (Two w1 c hp rp ez n o u B v d (i+1) b8):=t.o.of b5.o cJ.o cM cL bl.o bn.o cH.o;obtain⟨u0,bp,br,bs,bt,bx⟩:=ax.o b8 Q.o.be;dsimp only at u0 bp br bs bt bx;clear cL cM))
     clear cB y1 cC cD cE cF z0 bY bZ b0 b2 b3 u0 bp br bs bt bx ax b7 b5 cJ t bl bn cH;have hw:=Q.o.gi.xU V;have cN:av (∀w',Two w1 c hp rp ez n o u B v d (i+1) w'->Calls prog 15 #[aj c.p] w' fun e j=>e=.returned (.tuple #[ah (dy d.T).1,ah (dy d.T).2])/\Below w'.heap.size w' j):=fun w' h=>by rw[h.us];exact Jz h.g
     have cO:av (∀w',Two w1 c hp rp ez n o u B v d (i+1) w'->Calls prog 16 #[aj rp] w' fun e j=>e=.returned (.tuple #[ah (dy d.T).1,ah (dy d.T).2])/\Below w'.heap.size w' j):=fun w' h=>pW h.r (h.gi.qm V).t12 (aP h.gi.tj V)
     have b9:av (∀w',Two w1 c hp rp ez n o u B v d (i+1) w'->Calls prog 18 #[aj c.pw] w' fun e j=>∃J ai K nc,e=.returned (.agg #[.slice J 12 ai,.slice K (eR.e_ d.T d.wt d.rs).2.2.length nc])/\nh j w'.heap.size J (eR.e_ d.T d.wt d.rs).1/\lz j w'.heap.size K (eR.e_ d.T d.wt d.rs).2.2/\Below w'.heap.size w' j):=fun w' h=>by obtain⟨v1,v2⟩:=h.cA V;rw[<-v1,<-v2];exact Jy h.g (by have:=h.ok.ez;omega)
     have ca:av (∀w',Two w1 c hp rp ez n o u B v d (i+1) w'->Calls prog 19 #[aj rp] w' fun e j=>∃J ai K cP nc,e=.returned (.agg #[.slice J 12 ai,.slice K cP nc])/\nh j w'.heap.size J (eR.e_ d.T d.wt d.rs).1/\lz j w'.heap.size K (eR.e_ d.T d.wt d.rs).2.2/\cP=(eR.e_ d.T d.wt d.rs).2.2.length/\Below w'.heap.size w' j):=fun w' h=>E6 h.r h.gi V;have ad:av ((eR.e_ d.T d.wt d.rs).1.length=12/\(eR.e_ d.T d.wt d.rs).2.2.length<=10000/\∀nd∈(eR.e_ d.T d.wt d.rs).2.2,nd.2.length<=20000):=by obtain⟨q1,al,q3⟩:=E5 hw d.rs;exact⟨q1.trans Q.o.gi.rl,al,q3⟩
     clear hw;generalize (dy d.T).1=x at*;generalize (dy d.T).2=y at*;generalize eR.e_ d.T d.wt d.rs=dj at*;obtain⟨cQ,ms,cR⟩:=dj;dsimp only at b9 ca ad;obtain⟨q0,q1,al⟩:=eC Q.o.g;go_wp2_with fail;refine(cN.o b8 Q.o).mono ?_;rintro e cS ⟨rfl,cT⟩
     have cb:av (Two w1 c hp rp ez n o u B v d (i+1) cS):=Q.o.below cT;clear cT Q cN;go_wp2_with fail;refine(cO.o cS cb.o).mono ?_;rintro e cU ⟨rfl,cV⟩
     have aB:av (Two w1 c hp rp ez n o u B v d (i+1) cU):=cb.o.below cV;clear cV cb cO q0 q1 al;obtain⟨q0,q1,al⟩:=eC aB.o.g;go_wp2_with fail;refine(b9.o cU aB.o).mono ?_;rintro e aF ⟨J,ai,K,nc,rfl,cW,cX,cZ⟩
     have ce:av (Two w1 c hp rp ez n o u B v d (i+1) aF):=aB.o.below cZ;have cf:av (cY aF J cQ/\Ln aF K cR):=⟨cW.1,cX.ln⟩
     clear cZ aB b9 cW cX q0 q1 al;go_wp2_with fail;refine(ca.o aF ce.o).mono ?_;rintro e c0 ⟨r3,dk,dl,dx,dm,rfl,c1,c2,dn,aR⟩
     subst dn;have c3:av (Two w1 c hp rp ez n o u B v d (i+1) c0):=ce.o.below aR;have cg:=ES J r3 K dl ai dk nc dm cQ cR c0 (by rw[ad.o.1];decide) (by have:=ad.o.2.1;omega) (fun nd dp=>by have:=ad.o.2.2 nd dp;omega) (cf.o.1.below aR) c1.1 (cf.o.2.below aR) c2.ln;rw[ad.o.1] at cg;clear aR ce ca c1 c2 cf;go_wp2_with fail;refine cg.mono ?_;clear cg;rintro e dq ⟨rfl,c4⟩
     have dr:av (Two w1 c hp rp ez n o u B v d (i+1) dq):=c3.o.below c4;clear c4 c3 ad;go_wp2_with fail;go_roundw
     case rel=>exact⟨i+1,v,d,u,B,V,af,dr⟩
     case measure=>simp[intOf];omega
    ·obtain rfl:i=l.length:=V;have dd:¬((l.length:Int)<(l.length:Int)):=V;go_wp2_with fail;go_ret;exact⟨rfl,ar.o.trans (t.o.be.mono ar.o.size)⟩
end HDs
end Go.Proofs.YtjpjpjemibgjpaaGreat
