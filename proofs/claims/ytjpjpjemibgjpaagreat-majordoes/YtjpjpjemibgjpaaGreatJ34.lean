import Derived.Test.YtjpjpjemibgjpaaGreatJ28
import Derived.Test.YtjpjpjemibgjpaaGreatJ29
import Derived.Test.YtjpjpjemibgjpaaGreatJ33
import Derived.Test.YtjpjpjemibgjpaaGreatJ22
import Derived.Test.YtjpjpjemibgjpaaGreatJ00
import Derived.Test.YtjpjpjemibgjpaaGreatJ01
import Derived.Test.YtjpjpjemibgjpaaGreatJ19
import Derived.Test.YtjpjpjemibgjpaaGreatJ04
import Derived.Test.YtjpjpjemibgjpaaGreatJ05
import Derived.Test.YtjpjpjemibgjpaaGreatJ06
import Derived.Test.YtjpjpjemibgjpaaGreatJ07
namespace Go.Proofs.YtjpjpjemibgjpaaGreat
set_option maxRecDepth 100000
set_option maxHeartbeats 4000000
open Tryz
open Go.RowKit W Kp bY
theorem cu.pl {k:bL}{s:bX}(h:cu k s)(hN:(0:Int)<=k.a.N):cu k (k.pl s).1:=by
 obtain⟨P,_,a,b⟩:=lQ k (fun c=>!(s.f c==-1)) k.T (s,k.a.N) h.nd (fun c _=>rfl)
 have P:Pos (fun c=>pf (k.ld c)) (fun c=>!(s.f c==-1)) (k.pl s).1.f k.a.N k.T (k.pl s).2:=P;have a:(k.pl s).1.td=s.td:=a;have b:(k.pl s).1.ep=s.ep:=b;have e:k.lost (k.pl s).1<=k.lost s:=by
  unfold bL.lost;rw[<-List.countP_eq_length_filter,<-List.countP_eq_length_filter];refine List.countP_mono_left (fun c hc d=>?_)
  cases q:(s.f c==-1)
  ·have:=(P.bd (fun c=>(cU _).1) c hc (by rw[q];rfl)).1;have d:(k.pl s).1.f c=-1:=by simpa using d
   omega
  ·rfl
 have:=h.sum;exact⟨h.nd,h.ps,by rw[a];exact h.td,by rw[b];exact h.ep,h.tl,by rw[a,b];omega⟩
theorem n8 {b c:Type}(g:b->c)(fm:b->Int->Int)(st:b->Int->b)(h:∀t a,g (st t a)=g t):∀(l:List Int)(t:b),g (fL fm st t l)=g t
 |[],_=>rfl
 |a::l,t=>by
  have e:fL fm st t (a::l)=fL fm st (ey fm st t a) l:=rfl;rw[e,n8 g fm st h l];unfold ey;split
  ·rfl
  ·exact h t a
theorem ug (k:bL)(s:bX):∀n,(k.eX s n).a=k.a
 |0=>rfl
 |n+1=>ug k s n
theorem uh (k:bL)(s:bX)(a:Int):∀n,(k.fx s a n).a=k.a
 |0=>rfl
 |n+1=>uh k s a n
theorem AJ (k:bL)(s:bX):(k.es s).a=k.a:=by
 unfold bL.es bL.kP;rw[n8 (fun k:bL=>k.a) _ _ (fun t a=>?_)]
 ·exact ug k s 12
 ·unfold bL.ij;rw[uh];exact(pT t s a).1
theorem AK (k:bL)(s:bX):(k.sl s).a=k.a:=by
 have b:(k.jz s k.G).1.a=k.a:=n8 (fun t:bL×Int=>t.1.a) (fun _ a=>s.f a) (bL.gR s) (fun _ _=>rfl) k.G (k,0)
 have c:(k.sl2 s).a=(k.sl1 s).a:=n8 (fun t:bL=>t.a) (fun(_:bL) a=>s.f a) (fun k a=>k.cop a) (fun _ _=>rfl) k.Y (k.sl1 s)
 have d:(k.sl s).a=(k.sl2 s).a:=rfl;have e:(k.sl1 s).a=(k.jz s k.G).1.a:=rfl;rw[d,c,e,b]
theorem ui {c:eB}{k:bL}{vt bO:Value}{F:Nat->Prop}{s:bX}{w:World}(h:(cy c k vt bO).J F s w):∃a,(dD k.a).J a k.s w/\∀b,a b->F b:=by obtain⟨a,own,h,d⟩:=h;exact⟨a,h.wd,fun b e=>(d b).2 (by rw[(h.w1 b).1 e];decide)⟩
section
variable {a:Wc}{F:Nat->Prop}{S:bZ}{w:World}
theorem AL (h:(eT a).J F S w)(hq:S.q.length+S.r.length<=90000)(cF:S.e5 a=false->∃G,hK (S.k5 a) (S.cC a) G/\G 0 (S.k5 a,0)):
 Calls prog 20 #[af a.pw] w fun e w'=>∃f,e=.returned (ae (S.gG a))/\(eT a).J f (S.cW a) w'/\bM F w f w':=by
 have d2:∀(cG:Fn)(first m:Array Value)(w:World),(Instr.makeFunc cG first m).run prog w=.ok (.func cG first m) w:=fun _ _ _ _=>rfl;obtain⟨P,ar,K,cd,Q,L,i⟩:=h;obtain⟨g,M,m,g1,g2,g3,j,C,R,D,bb⟩:=cd;have cH:Hid (S.e5 a=false->∃G,hK (S.k5 a) (S.cC a) G/\G 0 (S.k5 a,0)):=cF;have ce:=(hG g1).1;have hO:=ce.hO;have hN:=ce.hN';have E:Hid ((dD a).J g S.s w/\w.heap[a.sd]?=some (.cells #[.slice ar S.r.length K,.slice M S.q.length m] 128 (0,0))/\w.ownsRow 0 83 2 (.slice M S.q.length m) S.q.length (ev S.q)/\w.ownsRow 0 83 2 (.slice ar S.r.length K) S.r.length (ev S.r)/\(∀b,g b->P b)/\P a.sd/\¬g a.sd):=⟨g1,g2,g3,Q,j,C,R⟩
 have bs:Hid ((∀b,some b=(Value.slice M S.q.length m).ownBlock->P b/\¬g b)/\(∀b,P b->b<w.heap.size)/\(∀b,some b=(Value.slice ar S.r.length K).ownBlock->¬P b)/\∀b,F b↔(P b\/some b=(Value.slice ar S.r.length K).ownBlock)):=⟨D,bb,L,i⟩
 have cI:=zY (S:=S) g1 ⟨g2,Q,g3⟩ I I;clear g1 g2 g3 j C R D bb Q L i cF ce;have bx:Hid (S.gG a=if S.e5 a=true then 3 else 0):=rfl;have bL:Hid (S.cW a=if S.e5 a=true then S else⟨(S.k6 a).s,(S.k5 a).tR (S.b9 a,S.q3 a) (S.r3 a),(S.k5 a).fz (S.b9 a,S.q3 a) (S.r3 a)⟩):=rfl;go_enter func20,ntmps20;go_wp2_with fail;refine cI.mono ?_;clear cI;rintro e w1 ⟨c,br,H,bd,rfl,cJ,cK,cL,cM,cN⟩
 have cO:Hid (bM g w bd w1):=⟨Fr.of cN,cM⟩
 have be:Hid (w1.ownsRow 0 83 2 (.slice br S.r.length H) S.r.length (ev S.r)/\∀b,some b=(Value.slice br S.r.length H).ownBlock->¬bd b/\w.heap.size<=b):=⟨cK,cL⟩
 obtain⟨dF,⟨cP,bg⟩,cQ⟩:=hr cJ;have bg:cu (S.s.j0 a) dw:=bg;have cR:=y6 cP bg;have cS:Hid (∀n t w',(dM c (S.s.j0 a)).J n t w'->cu (S.s.j0 a) t->bM dF w1 n w'->∃f,(cA (cZ c (S.s.j0 a)) c.bs (.slice br S.r.length H)).J f (t,S.q) w'/\bM bd w1 f w'):=fun n t w' q1 U q3=>cQ (cZ c (S.s.j0 a)) n t w' ⟨q1,U⟩ q3;have cT:Hid (cu (S.s.j0 a) ((S.s.j0 a).cg dw 12)):=(c9.cg bg 12).dy;clear cJ cK cL cM cN cP bg cQ;go_wp2_with fail;refine cR.mono ?_;clear cR;rintro e cf ⟨n,rfl,cU,cV⟩
 obtain⟨cW,cX,cg⟩:=cS.out n _ cf cU cT.out cV;have cY:=tu (c:=c) rfl cX (by show S.q.length<=90000;omega)
 have bN:Hid (bM g w cW cf/\bM bd w1 cW cf):=⟨cO.out.trans cg,cg⟩
 clear cU cV cX cg cS cT;go_wp2_with fail;refine cY.mono ?_;clear cY;rintro e w3 ⟨bi,rfl,aF,bP⟩
 have aF:(cA (cZ c (S.s.j0 a)) c.bs (.slice br S.r.length H)).J bi (S.j2 a) w3:=aF;obtain⟨d3,⟨⟨d4,d5,c0⟩,dG⟩,_⟩:=hr aF;obtain⟨_,_,_,_,ch,_⟩:=dX c0;have c3:=au w3 _ ch;have hd:=(Below.refl w3.heap.size w3).drew;have N:Hid ((cA (cZ c (S.s.j0 a)) c.bs (.slice br S.r.length H)).J bi (S.j2 a) w3.drew/\bM g w bi w3.drew/\w3.drew.ownsRow 0 83 2 (.slice br S.r.length H) S.r.length (ev S.r)/\(∀b,bi b->b<w3.heap.size)/\w.heap.size<=w3.heap.size):=by
  have c4:bM bd w1 bi w3:=bN.out.2.trans bP;refine⟨(cA (cZ c (S.s.j0 a)) c.bs (.slice br S.r.length H)).below aF hd,(bN.out.1.trans bP).below hd,?_,(cA (cZ c (S.s.j0 a)) c.bs (.slice br S.r.length H)).lt aF,(bN.out.1.trans bP).fr.size⟩
  exact ca be.out.1 (fun b e=>(hd.block b (av (bR be.out.1 b e).2 c4.fr.size)).trans (c4.fr.block b (bR be.out.1 b e).2 (be.out.2 b e).1))
 have c5:(S.j2 a).2.length+S.r.length<=90000:=by have:(S.j2 a).2.length=S.q.length:=lJ _ _ _;omega
 have c6:Hid (∀l,Below w3.drew.heap.size w3.drew l->l.heap[w3.heap.size]?=some (cz c)->l.heap[w3.heap.size+1]?=some (fu (ii c))->Calls prog 53 #[af c.bs,.agg #[(g4 w3.heap.size).v,(gi (w3.heap.size+1)).v,(hJ c).v]] l fun e w'=>∃a1 c1 f,e=.returned (.tuple #[])/\(cA (cZ c (S.s.j0 a)) c.bs (.slice a1 (S.r3 a).length c1)).J f (S.b7 a,S.q3 a) w'/\w'.ownsRow 0 83 2 (.slice a1 (S.r3 a).length c1) (S.r3 a).length (ev (S.r3 a))/\(∀b,some b=(Value.slice a1 (S.r3 a).length c1).ownBlock->¬f b/\l.heap.size<=b)/\bM g w f w'/\w.heap.size<=l.heap.size):=fun l O bQ bS=>by
  have hs:w3.drew.heap.size=w3.heap.size:=rfl;refine(y5 (t:=S.j2 a) (r:=S.r) rfl ((cA (cZ c (S.s.j0 a)) c.bs (.slice br S.r.length H)).below N.out.1 O) (ca N.out.2.2.1 (fun b e=>O.block b (bR N.out.2.2.1 b e).2)) c5 w3.heap.size (w3.heap.size+1) I bQ bS (fun d=>by have:=N.out.2.2.2.1 _ d;omega) (fun d=>by have:=N.out.2.2.2.1 _ d;omega)).mono ?_;rintro e w' ⟨a1,c1,f,rfl,q1,U,q3,dH,dI⟩
  have ci:=N.out.2.1.below O;have d6:=N.out.2.2.2.2;have d7:=O.size;refine⟨a1,c1,f,rfl,q1,U,q3,⟨ci.fr.trans dH (fun b d=>?_),fun b d=>?_⟩,I⟩
  ·rcases d with d|d|d
   ·exact ci.sub b d
   ·exact an I
   ·exact an I
  ·exact(dI b d).elim (ci.sub b) (fun d=>an I)
 clear aF bP c0 dG hd N bN be cO c5;go_wp2_with fail
 go_region_held3 (fun w'=>w'.cell? (ah c.pk 4)=some (af c.bs)) (go_keep)
  (first
    |(go_at_call 54;refine(pO (ii c) w3.drew c.pk).mono ?_;rintro e l ⟨rfl,bQ,bS,O⟩;have dJ:=(O.cell (p:=ah c.pk 4) c3).trans ch;have bT:Hid (l.heap[w3.heap.size]?=some (cz c)/\l.heap[w3.heap.size+1]?=some (fu (ii c))/\Below w3.drew.heap.size w3.drew l):=⟨bQ,bS,O⟩;clear bQ bS O)
    |(go_at_call 53;refine(c6.out l bT.out.2.2 bT.out.1 bT.out.2.1).mono ?_;rintro e aR ⟨a1,c1,bU,rfl,cj,c7,ck,c8,da⟩;obtain⟨_,⟨⟨cl,cm,W⟩,_⟩,_⟩:=hr cj;obtain⟨_,_,_,_,dK,_⟩:=dX W;have X:Hid ((cA (cZ c (S.s.j0 a)) c.bs (.slice a1 (S.r3 a).length c1)).J bU (S.b7 a,S.q3 a) aR/\aR.ownsRow 0 83 2 (.slice a1 (S.r3 a).length c1) (S.r3 a).length (ev (S.r3 a))/\(∀b,some b=(Value.slice a1 (S.r3 a).length c1).ownBlock->¬bU b/\w.heap.size<=b)/\bM g w bU aR):=⟨cj,c7,fun b e=>⟨(ck b e).1,az da (ck b e).2⟩,c8⟩;clear cj c7 ck c8 da W))
 all_goals
  clear ch dJ dK c6 bT c3;obtain⟨db,⟨⟨cl,cm,W⟩,aT⟩,dc⟩:=hr X.out.1;have aT:cu (S.s.j0 a) (S.b7 a):=aT;have W:(cy c (S.s.j0 a) cl cm).J db (S.b7 a) aR:=W;have cn:=zb W aT.tl aT.ps;have dL:Hid (cu (S.s.j0 a) (S.b9 a)):=aT.pl I;have dd:Hid (((S.s.j0 a).pl (S.b7 a)).2-(S.s.j0 a).a.N=S.n4 a/\((S.s.j0 a).pl (S.b7 a)).1=S.b9 a):=⟨rfl,rfl⟩
  rw[dd.out.1,dd.out.2] at cn;have de:Hid (∀n w' vt bO,(cy c (S.s.j0 a) vt bO).J n (S.b9 a) w'->bM db aR n w'->∃f,(cA (cZ c (S.s.j0 a)) c.bs (.slice a1 (S.r3 a).length c1)).J f (S.b9 a,S.q3 a) w'/\bM bU aR f w'):=fun n w' vt bO q1 q3=>dc (cZ c (S.s.j0 a)) n (S.b9 a) w' ⟨⟨vt,bO,q1⟩,dL.out⟩ q3;clear W aT dc;go_wp2_with fail;refine cn.mono ?_;clear cn;rintro e bV ⟨dN,rfl,co,df⟩
  obtain⟨Y,dg,bW⟩:=de.out dN bV cl cm co df;have cp:=y8 co;have dO:Hid ((S.s.j0 a).a.O=a.O):=rfl;rw[dO.out] at cp;have aV:Hid ((cA (cZ c (S.s.j0 a)) c.bs (.slice a1 (S.r3 a).length c1)).J Y (S.b9 a,S.q3 a) bV/\bM g w Y bV/\bV.ownsRow 0 83 2 (.slice a1 (S.r3 a).length c1) (S.r3 a).length (ev (S.r3 a))/\∀b,some b=(Value.slice a1 (S.r3 a).length c1).ownBlock->¬Y b):=by refine⟨dg,X.out.2.2.2.trans bW,fQ X.out.2.1 bW.fr (fun b e=>(X.out.2.2.1 b e).1),fun b e d=>(bW.sub b d).elim (X.out.2.2.1 b e).1 (fun d=>by have:=(bR X.out.2.1 b e).2;omega)⟩
  clear co df dg bW de X;go_wp2_with fail;refine cp.mono ?_;clear cp;rintro e J ⟨rfl,bY⟩
  have u:Hid ((cA (cZ c (S.s.j0 a)) c.bs (.slice a1 (S.r3 a).length c1)).J Y (S.b9 a,S.q3 a) J/\bM g w Y J/\J.ownsRow 0 83 2 (.slice a1 (S.r3 a).length c1) (S.r3 a).length (ev (S.r3 a))/\∀b,some b=(Value.slice a1 (S.r3 a).length c1).ownBlock->¬Y b):=⟨(cA (cZ c (S.s.j0 a)) c.bs (.slice a1 (S.r3 a).length c1)).below aV.out.1 bY,aV.out.2.1.below bY,ca aV.out.2.2.1 (fun b e=>bY.block b (bR aV.out.2.2.1 b e).2),aV.out.2.2.2⟩
  clear bY aV;by_cases bZ:(a.O:Int)<S.n4 a
  ·have a0:S.e5 a=true:=a8 bZ;have cq:Hid (∃f,(eT a).J f (S.cW a) J/\bM F w f J):=by
    have bl:=bL.out;rw[aq a0] at bl;rw[bl];obtain⟨_,⟨⟨vt,bO,dh⟩,_⟩,_⟩:=hr u.out.1;obtain⟨d8,d9,eb,⟨⟨vt,bO,dh⟩,_⟩,_,_,b0,_⟩:=u.out.1;obtain⟨v,q1,U⟩:=ui dh;have q1:(dD a).J v S.s J:=q1;have T:bM g w v J:=u.out.2.1.less (fun b d=>b0 b (U b d))
    obtain⟨g1,g2,g3,Q,j,C,R⟩:=E.out;obtain⟨D,bb,L,i⟩:=bs.out;obtain⟨ec,_,ed⟩:=hr (o:=dD a) (F:=P) (t:=(S.s,S.q)) (w:=w) (p:=a.sd) (vr:=.slice ar S.r.length K) ⟨g,M,m,g1,g2,g3,j,C,R,D,bb⟩
    have di:=lt_of_some g2;refine⟨fun b=>(v b\/b=a.sd\/some b=(Value.slice M S.q.length m).ownBlock)\/some b=(Value.slice ar S.r.length K).ownBlock,⟨fun b=>v b\/b=a.sd\/some b=(Value.slice M S.q.length m).ownBlock,ar,K,⟨v,M,m,q1,(T.fr.block _ di R).trans g2,fQ g3 T.fr (fun b e=>(D b e).2),fun b d=>ap d,an (ap rfl),fun d=>(T.sub _ d).elim R (fun d=>by omega),fun b e=>⟨an (an e),fun d=>(T.sub b d).elim (D b e).2 (fun d=>by have:=(bR g3 b e).2;omega)⟩,fun b d=>?_⟩,fQ Q T.fr (fun b e d=>L b e (j b d)),fun b e d=>?_,fun b=>Iff.rfl⟩,⟨T.fr.mono (fun b d=>(i b).2 (ap (j b d))),fun b d=>?_⟩⟩
    ·rcases d with d|d|d
     ·exact(dD a).lt q1 b d
     ·have:=T.fr.size;omega
     ·have:=(bR g3 b d).2;have:=T.fr.size;omega
    ·have ee:=(bR Q b e).2;rcases d with d|d|d
     ·exact(T.sub b d).elim (fun d=>L b e (j b d)) (fun d=>by omega)
     ·exact L b e (by rw[d];exact C)
     ·exact L b e (D b d).1
    ·rcases d with(d|d|d)|d
     ·exact(T.sub b d).imp (fun d=>(i b).2 (ap (j b d))) id
     ·exact ap ((i b).2 (ap (by rw[d];exact C)))
     ·exact ap ((i b).2 (ap (D b d).1))
     ·exact ap ((i b).2 (an d))
   have ad:=bx.out;rw[aq a0] at ad;have cr:Hid (S.gG a=3):=ad;have dP:decide ((a.O:Int)<S.n4 a)=true:=a8 bZ;clear u E bs cH bL bx ad;go_wp2_with fail;go_ret;obtain⟨f,cs,j2⟩:=cq.out;exact⟨f,by rw[cr.out];rfl,cs,j2⟩
  ·have a0:S.e5 a=false:=aZ bZ;obtain⟨dj,dk,dl⟩:=cH.out a0;have dm:Hid (hK (S.k5 a) (S.cC a) dj/\dj 0 (S.k5 a,0)):=⟨dk,dl⟩
   have dn:(S.q3 a).length+(S.r3 a).length<=90000:=by have cd:=n7 (dE bX) (fun s x=>(S.s.j0 a).al s.1 x) (S.s.j0 a).ke (fun s x=>(S.s.j0 a).nw s.1 x) (fun s x=>nQ (S.s.j0 a) s x) (S.j2 a) S.r;have ef:(S.j2 a).2.length=S.q.length:=lJ _ _ _;have dQ:(dE bX).wt (S.j2 a)=(S.j2 a).2:=rfl;have dR:S.r3 a=el (dE bX) (fun s x=>(S.s.j0 a).al s.1 x) (S.s.j0 a).ke (fun s x=>(S.s.j0 a).nw s.1 x) (S.j2 a) S.r:=rfl;have dS:S.q3 a=em (dE bX) (fun s x=>(S.s.j0 a).al s.1 x) (S.s.j0 a).ke (fun s x=>(S.s.j0 a).nw s.1 x) (S.j2 a) S.r:=rfl;rw[dQ,<-dR,<-dS] at cd;omega
   have dp:¬Y a.sd:=fun d=>(u.out.2.1.sub _ d).elim E.out.2.2.2.2.2.2 (fun d=>by have:=lt_of_some E.out.2.1;omega)
   have b7:=zp (k:=S.s.j0 a) (t:=(S.b9 a,S.q3 a)) rfl u.out.1 u.out.2.2.1 u.out.2.2.2 dn (v1:=.slice ar S.r.length K) (v2:=.slice M S.q.length m) ((u.out.2.1.fr.block a.sd (lt_of_some E.out.2.1) E.out.2.2.2.2.2.2).trans E.out.2.1) dp;have dT:Hid ((S.s.j0 a).es (S.b9 a)=S.k5 a):=rfl;dsimp only at b7;rw[dT.out] at b7;have dP:decide ((a.O:Int)<S.n4 a)=false:=aZ bZ;clear dk dl dn;go_wp2_with fail;refine b7.mono ?_;clear b7;rintro e ai ⟨a2,c2,a3,rfl,dU,ct,cv,dq,dr,ds,dt⟩
   have du:Hid (Fr (fun b=>g b\/b=a.sd) w ai/\(∀b,a3 b->g b\/w.heap.size<=b)/\w.heap.size<=J.heap.size):=by
    have T:=u.out.2.1;have z:=T.fr.size;refine⟨(T.fr.mono (fun b d=>ap d)).trans ds (fun b d=>?_),fun b d=>(dt b d).elim (T.sub b) (fun d=>an I),z⟩
    rcases d with d|d
    ·exact(T.sub b d).imp ap id
    ·exact ap (an d)
   obtain⟨bn,al,ax,⟨⟨vt,bO,b8⟩,bo⟩,bp,b9,b0,dV,dW,cb,dv⟩:=dU;have b8:(cy c (S.k5 a) vt bO).J bn (S.cC a) ai:=b8;have bo:cu (S.k5 a) (S.cC a):=bo;have cw:=zI dm.out.1 dm.out.2 b8 bo.tl bo.ps;have dY:Hid ((S.k5 a).sl (S.cC a)=S.k6 a):=rfl;rw[dY.out] at cw;obtain⟨B,cx⟩:∃B,(S.k5 a).tR (S.b9 a,S.q3 a) (S.r3 a)=B:=⟨_,rfl⟩
   obtain⟨A,cB⟩:∃A,(S.k5 a).fz (S.b9 a,S.q3 a) (S.r3 a)=A:=⟨_,rfl⟩
   rw[cx] at ct cv bp;dsimp only at bp b9 cb;rw[cB] at bp b9 cb;have dx:Hid (ai.heap[a.sd]?=some (.cells #[.slice a2 B.length c2,.slice al A.length ax] 128 (0,0))/\ai.ownsRow 0 83 2 (.slice al A.length ax) A.length (ev A)/\(∀b,bn b->a3 b)/\¬a3 a.sd/\(∀b,some b=(Value.slice al A.length ax).ownBlock->a3 b/\¬bn b)/\(∀b,a3 b->b<ai.heap.size)):=⟨dq.trans bp,b9,b0,dr,cb,dv⟩
   have dy:Hid (ai.ownsRow 0 83 2 (.slice a2 B.length c2) B.length (ev B)/\∀b,some b=(Value.slice a2 B.length c2).ownBlock->¬a3 b/\J.heap.size<=b):=⟨ct,cv⟩
   have cC:Hid ((S.k5 a).tR (S.b9 a,S.q3 a) (S.r3 a)=B/\(S.k5 a).fz (S.b9 a,S.q3 a) (S.r3 a)=A):=⟨cx,cB⟩
   clear cx cB bp b9 b0 dV dW cb dv b8 bo ct cv dq dr ds dt u dp;go_wp2_with fail;refine cw.mono ?_;clear cw;rintro e dz ⟨eg,rfl,dA,aB⟩
   have cq:Hid (∃f,(eT a).J f (S.cW a) dz/\bM F w f dz):=by
    have bl:=bL.out;rw[ao (by rw[a0];simp),cC.out.1,cC.out.2] at bl;rw[bl];obtain⟨v,q1,U⟩:=ui dA;have ea:(S.k6 a).a=a:=by have dZ:S.k6 a=(S.k5 a).sl (S.cC a):=rfl;have d0:S.k5 a=(S.s.j0 a).es (S.b9 a):=rfl;rw[dZ,AK,d0,AJ];rfl
    rw[ea] at q1;obtain⟨b1,b2,b3,b4,b5,b6⟩:=dx.out;obtain⟨r1,cD⟩:=dy.out;obtain⟨dB,cE,t3⟩:=du.out;obtain⟨g1,g2,g3,Q,j,C,R⟩:=E.out;obtain⟨D,bb,L,i⟩:=bs.out;have di:=lt_of_some g2;have eh:=dB.size;have ei:=aB.fr.size;have cc:∀b,v b->bn b\/ai.heap.size<=b:=fun b d=>aB.sub b (U b d)
    have dC:¬bn a.sd:=fun d=>b4 (b3 _ d)
    have d1:∀b,some b=(Value.slice a2 B.length c2).ownBlock->¬(v b\/b=a.sd\/some b=(Value.slice al A.length ax).ownBlock):=fun b e d=>by
     have q:=cD b e;rcases d with d|d|d
     ·exact(cc b d).elim (fun d=>q.1 (b3 b d)) (fun d=>by have:=(bR r1 b e).2;omega)
     ·omega
     ·exact q.1 (b5 b d).1
    refine⟨fun b=>(v b\/b=a.sd\/some b=(Value.slice al A.length ax).ownBlock)\/some b=(Value.slice a2 B.length c2).ownBlock,⟨fun b=>v b\/b=a.sd\/some b=(Value.slice al A.length ax).ownBlock,a2,c2,⟨v,al,ax,q1,(aB.fr.block _ I dC).trans b1,fQ b2 aB.fr (fun b e=>(b5 b e).2),fun b d=>ap d,an (ap rfl),fun d=>(cc _ d).elim dC (fun d=>by omega),fun b e=>⟨an (an e),fun d=>(cc b d).elim (b5 b e).2 (fun d=>by have:=(bR b2 b e).2;omega)⟩,fun b d=>?_⟩,fQ r1 aB.fr (fun b e d=>(cD b e).1 (b3 b d)),d1,fun b=>Iff.rfl⟩,⟨(dB.trans aB.fr (fun b d=>(cE b (b3 b d)).imp ap id)).mono (fun b d=>?_),fun b d=>?_⟩⟩
    ·rcases d with d|d|d
     ·exact(dD a).lt q1 b d
     ·omega
     ·have:=(bR b2 b d).2;omega
    ·rcases d with d|d
     ·exact(i b).2 (ap (j b d))
     ·exact(i b).2 (ap (by rw[d];exact C))
    ·rcases d with(d|d|d)|d
     ·rcases cc b d with d|d
      ·exact(cE b (b3 b d)).imp (fun d=>(i b).2 (ap (j b d))) id
      ·exact an I
     ·exact ap ((i b).2 (ap (by rw[d];exact C)))
     ·exact(cE b (b5 b d).1).imp (fun d=>(i b).2 (ap (j b d))) id
     ·have:=(cD b d).2;exact an I
   have ad:=bx.out;rw[ao (by rw[a0];simp)] at ad;have cr:Hid (S.gG a=0):=ad;clear dx dy du cC E bs bL bx ad dA aB;go_wp2_with fail;go_ret;obtain⟨f,cs,j2⟩:=cq.out;exact⟨f,by rw[cr.out];rfl,cs,j2⟩
end
theorem dK.next {L:Int->Int}{hi:Int}:∀{l:List Int}{a:Int},dK L hi a l->∀x∈l,x+(1+pf (L x))∈l\/x+(1+pf (L x))=hi
 |[],_,_,x,b=>by cases b
 |y::l,a,h,x,b=>by
  obtain⟨e,_,_,ht⟩:=h;rcases List.mem_cons.1 b with c|c
  ·subst c;subst e
   match l,ht with
   |[],ht=>exact an ht
   |f::g,ht=>
    obtain⟨d,_⟩:=ht;exact ap (by rw[<-d];simp)
  ·exact(dK.next ht x c).imp (ay _) id
theorem uj {L:Int->Int}{hi:Int}:∀{l m:List Int}{a x y:Int},dK L hi a (l++m)->x∈l->y∈m->x<y
 |[],_,_,_,_,_,b,_=>by cases b
 |u::l,m,a,x,y,h,b,hy=>by
  obtain⟨e,_,_,ht⟩:=h;have hp:=cU (L a)
  rcases List.mem_cons.1 b with c|c
  ·have:=(ht.mem y (aS l hy)).1;omega
  ·exact uj ht c hy
structure LI (k:bP)(z:C0)(s:bU)(H D:List Int):Prop where
 mi:di k z s H
 bo:s.nx∈H\/s.nx=(k.N:Int)+s.g
 lo:∀b∈H,b<s.nx->Lo k s b
 ld:∀b∈D,Lo k s b
 dg:∀b∈D,b∈z.G
section
variable {k:bP}{z:C0}{s t:bU}{H D:List Int}
theorem LI.i4 (h:LI k z s H D)(v:hB k.N s.g s.nx=true):∃e,LI k z {k.lk s s.nx with nx:=s.nx+(1+pf (k.ld s s.nx))} e D/\c5 k s {k.lk s s.nx with nx:=s.nx+(1+pf (k.ld s s.nx))}/\∃g,e=H++g:=by
 have F:=hR v;have d:s.nx∈H:=h.bo.resolve_right I;obtain⟨a,j⟩:=h.mi.from (aS z.G d)
 have G:=h.mi.bd (aS z.G d)
 have J:=cU (k.ld s s.nx)
 have hg:=h.mi.ci.hg;obtain⟨e,m1,f,⟨g,i⟩,w,x,A⟩:=h.mi.lk j;obtain⟨K,L⟩:=mP k s s.nx;have n:=h.mi.hd a _ j;have p:=m1.hd a _ (f.or j)
 have mt:=m1.turn (k.lk s s.nx).wk (k.lk s s.nx).ep (k.lk s s.nx).rs (s.nx+(1+pf (k.ld s s.nx))) m1.ci.gN m1.ci.gD I I;have hlo:=h.mi.hlo _ d;have B:∀b∈g,s.nx<b:=fun b c=>uj (by have:=m1.full.dN;rw[i,<-aU] at this;exact this) (aS z.G d) c;have q:∀b,b∈H->b∈e:=fun b c=>by rw[i];exact aL _ c
 have keep:∀b,(∃a,k.or z s a b)->Lo k s b->Lo k {k.lk s s.nx with nx:=s.nx+(1+pf (k.ld s s.nx))} b:=fun b ⟨a,o⟩ l=>by
  have l2:Lo k (k.lk s s.nx) b:=Lo.go l h.mi m1 f o (x b) (A b)
  exact l2
 refine⟨e,⟨mt,?_,fun b c lt=>?_,fun b c=>keep b ⟨b,ap ⟨rfl,h.dg b c⟩⟩ (h.ld b c),h.dg⟩,⟨f.f,f.g,f.cl⟩,g,i⟩
 ·have t:=dK.next m1.full.dN s.nx (aS z.G (q _ d))
  have m:Proofs.YtjpjpjemibgjpaaGreat.ld k.N k.y (k.lk s s.nx).g (k.lk s s.nx).ws s.nx=k.ld s s.nx:=p.trans n.symm;rw[m] at t;rcases t with c|c
  ·rcases List.mem_append.1 c with c|c
   ·have:=h.mi.i7 _ c;omega
   ·exact ap c
  ·exact an c
 ·dsimp only at lt;by_cases C:b=s.nx
  ·subst C;exact w
  ·by_cases lb:b<s.nx
   ·have u:b∈H:=by
     rw[i] at c;rcases List.mem_append.1 c with c|c
     ·exact c
     ·exact absurd (B b c) I
    exact keep b (h.mi.from (aS z.G u)) (h.lo b u lb)
   ·have E:=m1.full.dN.apart s.nx (aS z.G (q _ d)) b (aS z.G c) I;have m:Proofs.YtjpjpjemibgjpaaGreat.ld k.N k.y (k.lk s s.nx).g (k.lk s s.nx).ws s.nx=k.ld s s.nx:=p.trans n.symm;rw[m] at E;omega
end
section
variable {k:bP}{z:C0}{s t:bU}{H D:List Int}
theorem LI.lift (h:LI k z s H D){K:List Int}(ht:di k z t K)(p:c5 k s t)(hw:t.wk=s.wk)(he:t.ep=s.ep)(f:t.nx=s.nx)(g:t.nx∈K\/t.nx=(k.N:Int)+t.g)(i:∀b∈K,b<t.nx->b∈H):LI k z t K D:=
 ⟨ht,g,fun b d lt=>by
  have e:=i b d lt;obtain⟨a,o⟩:=h.mi.from (aS z.G e)
  exact Lo.go (h.lo b e (by rw[<-f];exact lt)) h.mi ht p o (fun c=>by rw[hw];exact c) (fun c=>by rw[he];exact c),fun b d=>Lo.go (h.ld b d) h.mi ht p (ap ⟨rfl,h.dg b d⟩) (fun c=>by rw[hw];exact c) (fun c=>by rw[he];exact c),h.dg⟩
theorem LI.uk (h:LI k z s H D):s.nx<=(k.N:Int)+s.g:=by
 rcases h.bo with a|a
 ·have:=(h.mi.hu a).2;omega
 ·omega
theorem LI.cp (h:LI k z s H D){a:Int}(ha:a∈k.T)(e:s.f a=-1):LI k z (k.cp s a) (H++[((k.N+s.g:Nat):Int)]) D/\c5 k s (k.cp s a):=by
 obtain⟨m1,d,_⟩:=h.mi.cp ha e;have f:=h.uk;refine⟨h.lift m1 d rfl rfl rfl ?_ (fun b c lt=>?_),d⟩
 ·show s.nx∈_\/_;rcases h.bo with c|c
  ·exact ap (aL _ c)
  ·exact ap (aS _ (by rw[c];simp))
 ·have g:b<s.nx:=lt;rcases List.mem_append.1 c with c|c
  ·exact c
  ·rw[a7] at c;omega
theorem LI.br (h:LI k z s H D)(x:Int):∃f,LI k z (k.br s x).2 f D/\c5 k s (k.br s x).2/\(∃j,f=H++j)/\k.cq (k.br s x).1=false/\(∀g,k.ml s g x->k.ml (k.br s x).2 g (k.br s x).1):=by
 obtain⟨_,_,_,i,_,b,_⟩:=h.mi.br x;cases hls:k.ls s x
 ·have e:(k.br s x).2=s:=by unfold bP.br;rw[hls];rfl
  rw[e] at b⊢;exact⟨H,h,c5.refl _ _,⟨[],V⟩,i,b⟩
 ·have e:(k.br s x).2=k.cp s (bQ x):=by unfold bP.br;rw[aq hls]
  have c:=hls;unfold bP.ls at c;rw[aQ] at c;have d:=c.1;unfold bP.cq at d;rw[aQ] at d;obtain⟨l,j2⟩:=h.cp (a:=bQ x) (by simpa using d.2) (by simpa using c.2)
  rw[e] at b⊢;exact⟨_,l,j2,⟨_,rfl⟩,i,b⟩
theorem LI.kf (h:LI k z s H D){a b i:Int}(d:k.or z s a b)(e:0<=i)(f:i<pf (k.l0 z a)):∃c,LI k z (k.kf s (b+1+i)) c D/\c5 k s (k.kf s (b+1+i))/\k.cq (k.ld (k.kf s (b+1+i)) (b+1+i))=false/\∃l,c=H++l:=by
 obtain⟨c,m1,g,m,j,n⟩:=h.br (k.ld s (b+1+i))
 obtain⟨s1,s2,q⟩:=m1.mi.st (g.or d) e f (n _ (h.mi.fd a b d i e f))
 have p:=c5.st (a:=b+1+i) m1.mi.ci j;refine⟨c,m1.lift s1 p rfl rfl rfl m1.bo (fun b o _=>o),g.trans p,?_,m⟩
 unfold bP.kf;rw[s2];exact j
end
section
variable {k:bP}{z:C0}{s t:bU}{H D:List Int}
theorem kZ (k:bP)(s:bU)(x:Int):(k.br s x).2.rs=s.rs/\(k.br s x).2.wk=s.wk/\(k.br s x).2.ep=s.ep/\(k.br s x).2.nx=s.nx:=by unfold bP.br;split<;>exact⟨rfl,rfl,rfl,rfl⟩
theorem LI.roots (h:LI k z s H D)(rs:List Int):LI k z {s with rs:=rs} H D:=
 h.lift (h.mi.turn s.wk s.ep rs s.nx h.mi.ci.gN h.mi.ci.gD h.mi.ci.f5 h.mi.ci.gC) (c5.turn k s s.wk s.ep rs s.nx) rfl rfl rfl h.bo (fun _ a _=>a)
theorem LI.cg (h:LI k z s H D):∀n:Nat,n<=s.rs.length->∃c,LI k z (k.cg s n) c D/\c5 k s (k.cg s n)/\(∃a,c=H++a)/\(k.cg s n).rs.length=s.rs.length/\(∀i,i<n->k.cq ((k.cg s n).rs.getD i 0)=false)/\(∀i,n<=i->(k.cg s n).rs.getD i 0=s.rs.getD i 0)/\∀i,i<n->k.ml (k.cg s n) (s.rs.getD i 0) ((k.cg s n).rs.getD i 0)
 |0,_=>⟨H,h,c5.refl _ _,⟨[],V⟩,rfl,fun i hi=>I,fun _ _=>rfl,fun i hi=>I⟩
 |n+1,v=>by
  obtain⟨w,m1,j,⟨a,l⟩,d,m,f,o⟩:=LI.cg h n I;obtain⟨p,q,j2,⟨t,b7⟩,b9,cC⟩:=m1.br ((k.cg s n).rs.getD n 0)
  obtain⟨r1,_⟩:=kZ k (k.cg s n) ((k.cg s n).rs.getD n 0)
  have hl:n<(k.br (k.cg s n) ((k.cg s n).rs.getD n 0)).2.rs.length:=by rw[r1,d];omega
  have b:∀i,((k.br (k.cg s n) ((k.cg s n).rs.getD n 0)).2.rs.set n (k.br (k.cg s n) ((k.cg s n).rs.getD n 0)).1).getD i 0=if n=i then(k.br (k.cg s n) ((k.cg s n).rs.getD n 0)).1 else(k.cg s n).rs.getD i 0:=fun i=>by rw[i1 _ _ _ _ hl,r1]
  have g:=c5.turn k (k.br (k.cg s n) ((k.cg s n).rs.getD n 0)).2 (k.br (k.cg s n) ((k.cg s n).rs.getD n 0)).2.wk (k.br (k.cg s n) ((k.cg s n).rs.getD n 0)).2.ep ((k.br (k.cg s n) ((k.cg s n).rs.getD n 0)).2.rs.set n (k.br (k.cg s n) ((k.cg s n).rs.getD n 0)).1) (k.br (k.cg s n) ((k.cg s n).rs.getD n 0)).2.nx;refine⟨p,q.roots _,j.trans (j2.trans g),⟨a++t,by rw[b7,l,aU]⟩,?_,fun i hi=>?_,fun i hi=>?_,fun i hi=>?_⟩
  ·show(List.set _ _ _).length=_;rw[aM,r1,d]
  ·show k.cq ((List.set _ _ _).getD i 0)=false;rw[b];split
   ·exact b9
   ·exact m i I
  ·show(List.set _ _ _).getD i 0=_;rw[b,ao I];exact f i I
  ·show k.ml _ _ ((List.set _ _ _).getD i 0)
   rw[b];by_cases e:n=i
   ·rw[aq e];subst e;have u:=cC (s.rs.getD n 0) (ap (f n bJ))
    exact u
   ·rw[ao e];exact(j2.trans g).ml (o i I)
end
theorem ul {L c:Int->Int}{hi d:Int}:∀{l m:List Int}{a:Int},dK L hi a l->dK c d a (l++m)->(∀x∈l,c x=L x)->(hi∈m\/hi=d)/\∀y∈m,hi<=y
 |[],m,a,h,b,_=>by
  have e:a=hi:=h;subst e;refine⟨?_,fun y hy=>(b.mem y hy).1⟩
  match m,b with
  |[],b=>exact an b
  |y::k,b=>
   obtain⟨i,_⟩:=b;exact ap (by rw[<-i];simp)
 |u::l,m,a,h,b,he=>by obtain⟨e,_,_,ht⟩:=h;obtain⟨_,_,_,f⟩:=b;have g:=he u V;rw[e] at g;rw[g] at f;exact ul ht f (fun x j=>he x (ay _ j))
section
variable {k:bP}{z:C0}{s t:bU}{H D:List Int}
theorem LI.lk (h:LI k z s H D){b:Int}(n:b∈z.G):∃g,LI k z (k.lk s b) g (b::D)/\c5 k s (k.lk s b)/\∃i,g=H++i:=by
 have w:k.or z s b b:=ap ⟨rfl,n⟩
 obtain⟨g,m1,j,⟨i,f⟩,A,p,q⟩:=h.mi.lk w;obtain⟨t,C⟩:=mP k s b;have u:=ul (l:=z.G++H) (m:=i) h.mi.full.dN (by have:=m1.full.dN;rw[f,<-aU] at this;exact this) (fun x B=>by obtain⟨a,o⟩:=h.mi.from B;exact(m1.hd a x (j.or o)).trans (h.mi.hd a x o).symm)
 have E:=h.uk;refine⟨g,⟨m1,?_,fun c d lt=>?_,fun c d=>?_,fun c d=>?_⟩,j,i,f⟩
 ·rw[t];rcases h.bo with d|d
  ·exact ap (by rw[f];exact aL _ d)
  ·rw[d];exact u.1.imp (fun e=>by rw[f];exact aS _ e) id
 ·rw[t] at lt;have v:c∈H:=by
   rw[f] at d;rcases List.mem_append.1 d with d|d
   ·exact d
   ·have:=u.2 c d;omega
  obtain⟨a,o⟩:=h.mi.from (aS z.G v)
  exact Lo.go (h.lo c v lt) h.mi m1 j o (p c) (q c)
 ·rcases List.mem_cons.1 d with d|d
  ·rw[d];exact A
  ·exact Lo.go (h.ld c d) h.mi m1 j (ap ⟨rfl,h.dg c d⟩) (p c) (q c)
 ·rcases List.mem_cons.1 d with d|d
  ·rw[d];exact n
  ·exact h.dg c d
end
structure dJ (k:bP)(z:C0)(s:bU)(H:List Int):Prop where
 wk:∀a∈s.wk,a∈z.G++H/\pk (k.ld s a)=3
 ep:∀a∈s.ep,a∈z.G++H/\pk (k.ld s a)=4
section
variable {k:bP}{z:C0}{s t:bU}{H K D:List Int}
theorem c5.hd (p:c5 k s t)(h:di k z s H)(ht:di k z t K){b:Int}(c:b∈z.G++H):k.ld t b=k.ld s b:=by obtain⟨a,o⟩:=h.from c;exact(ht.hd a b (p.or o)).trans (h.hd a b o).symm
theorem jb {G H K:List Int}{x:Int}(h:∃a,K=H++a)(b:x∈G++H):x∈G++K:=by obtain⟨a,e⟩:=h;rw[e,<-aU];exact aL _ b
theorem dJ.go (w:dJ k z s H)(h:di k z s H)(ht:di k z t K)(p:c5 k s t)(c:∃d,K=H++d)(e:t.wk=s.wk)(f:t.ep=s.ep):dJ k z t K:=
 ⟨fun a ha=>by
  rw[e] at ha;obtain⟨m1,b⟩:=w.wk a ha;exact⟨jb c m1,by rw[p.hd h ht m1];exact b⟩,fun a ha=>by
  rw[f] at ha;obtain⟨m1,b⟩:=w.ep a ha;exact⟨jb c m1,by rw[p.hd h ht m1];exact b⟩⟩
theorem um (k:bP)(s:bU)(b:Int):((k.lk s b).wk=s.wk\/(pk (k.ld s b)=3/\(k.lk s b).wk=s.wk++[b]))/\((k.lk s b).ep=s.ep\/(pk (k.ld s b)=4/\(k.lk s b).ep=s.ep++[b])):=by
 unfold bP.lk;split
 ·exact⟨ap (kV _ _ _ _).1,ap (kV _ _ _ _).2.1⟩
 ·split
  ·rename_i e;exact⟨an ⟨e,(il _ _ _).1⟩,ap (il _ _ _).2.1⟩
  ·split
   ·rename_i e;exact⟨ap rfl,an ⟨e,rfl⟩⟩
   ·exact⟨ap rfl,ap rfl⟩
theorem dJ.lk (w:dJ k z s H)(h:di k z s H){b:Int}(g:b∈z.G++H)(ht:di k z (k.lk s b) K)(p:c5 k s (k.lk s b))(f:∃j,K=H++j):dJ k z (k.lk s b) K:=by
 obtain⟨c1,c2⟩:=um k s b;refine⟨fun a ha=>?_,fun a ha=>?_⟩
 ·rcases c1 with e|⟨i,e⟩
  ·rw[e] at ha;obtain⟨m1,d⟩:=w.wk a ha;exact⟨jb f m1,by rw[p.hd h ht m1];exact d⟩
  ·rw[e] at ha;rcases List.mem_append.1 ha with c|c
   ·obtain⟨m1,d⟩:=w.wk a c;exact⟨jb f m1,by rw[p.hd h ht m1];exact d⟩
   ·rw[a7] at c;subst c;exact⟨jb f g,by rw[p.hd h ht g];exact i⟩
 ·rcases c2 with e|⟨i,e⟩
  ·rw[e] at ha;obtain⟨m1,d⟩:=w.ep a ha;exact⟨jb f m1,by rw[p.hd h ht m1];exact d⟩
  ·rw[e] at ha;rcases List.mem_append.1 ha with c|c
   ·obtain⟨m1,d⟩:=w.ep a c;exact⟨jb f m1,by rw[p.hd h ht m1];exact d⟩
   ·rw[a7] at c;subst c;exact⟨jb f g,by rw[p.hd h ht g];exact i⟩
theorem LI.n9 (h:LI k z s H D){b:Int}(f:b∈z.G++H)(m:pk (k.ld s b)=4):∃g,LI k z (k.kf (k.kf s (b+1)) (b+2)) g D/\c5 k s (k.kf (k.kf s (b+1)) (b+2))/\(∃d,g=H++d)/\k.cq (k.ld (k.kf (k.kf s (b+1)) (b+2)) (b+1))=false/\k.cq (k.ld (k.kf (k.kf s (b+1)) (b+2)) (b+2))=false:=by
 obtain⟨a,o⟩:=h.mi.from f;have n:=h.mi.bd f;have w:=fV n.2.2 (an (an m))
 have j:=h.mi.hd a b o;obtain⟨x,m1,c,l,⟨d,p⟩⟩:=h.kf (i:=0) o I (by rw[<-j];omega)
 obtain⟨q,e,j2,b7,⟨t,b9⟩⟩:=m1.kf (i:=1) (c.or o) I (by rw[<-j];omega)
 have u:b+1+0=b+1:=I;have v:b+1+1=b+2:=I;rw[u] at m1 c l e j2 b7;rw[v] at e j2 b7;exact⟨q,e,c.trans j2,⟨d++t,by rw[b9,p,aU]⟩,j2.cl _ I (by have:=c.g;omega) l,b7⟩
theorem LI.c4:∀(l left:List Int){s:bU}{H:List Int},LI k z s H D->(∀a∈l,a∈z.G++H/\pk (k.ld s a)=4)->∃n,LI k z (l.foldl k.cr (left,s)).2 n D/\c5 k s (l.foldl k.cr (left,s)).2/\(∃t,n=H++t)/\(l.foldl k.cr (left,s)).2.wk=s.wk/\(l.foldl k.cr (left,s)).2.ep=s.ep/\(∀a∈l,a∈(l.foldl k.cr (left,s)).1\/(k.cq (k.ld (l.foldl k.cr (left,s)).2 (a+1))=false/\k.cq (k.ld (l.foldl k.cr (left,s)).2 (a+2))=false))/\(∀a∈left,a∈(l.foldl k.cr (left,s)).1)/\∀a∈(l.foldl k.cr (left,s)).1,a∈left\/a∈l
 |[],left,s,H,h,_=>⟨H,h,c5.refl _ _,⟨[],V⟩,rfl,rfl,fun a ha=>(by cases ha),fun _ c=>c,fun _ c=>ap c⟩
 |b::l,left,s,H,h,hl=>by
  rw[aI];cases hls:k.ls s (k.ld s (b+1))
  ·have e:k.cr (left,s) b=(left,k.kf (k.kf s (b+1)) (b+2)):=by unfold bP.cr;rw[ao (by rw[hls];simp)]
   rw[e];obtain⟨o,p⟩:=hl b V;obtain⟨J,m1,f,q,u,v⟩:=h.n9 o p;obtain⟨g,i,j2,b7,b9,cC,j,d,m⟩:=LI.c4 l left m1 (fun a ha=>by
    obtain⟨n1,w⟩:=hl a (ay _ ha)
    exact⟨jb q n1,by rw[f.hd h.mi m1.mi n1];exact w⟩)
   obtain⟨w1,x,_⟩:=il k s (b+1)
   obtain⟨w3,A,_⟩:=il k (k.kf s (b+1)) (b+2)
   have B:=h.mi.bd o;have K:=fV B.2.2 (an (an p))
   have hg:=f.g;refine⟨g,i,f.trans j2,?_,b9.trans (w3.trans w1),cC.trans (A.trans x),fun a ha=>?_,d,fun a ha=>(m a ha).imp id (ay _)⟩
   ·obtain⟨C,E⟩:=q;obtain⟨F,G⟩:=b7;exact⟨C++F,by rw[G,E,aU]⟩
   ·rcases List.mem_cons.1 ha with c|c
    ·subst c;exact an ⟨j2.cl _ I I u,j2.cl _ I I v⟩
    ·exact j a c
  ·have e:k.cr (left,s) b=(left++[b],s):=by unfold bP.cr;rw[aq hls]
   rw[e];obtain⟨g,i,j2,b7,b9,cC,j,d,m⟩:=LI.c4 l (left++[b]) h (fun a ha=>hl a (ay _ ha))
   refine⟨g,i,j2,b7,b9,cC,fun a ha=>?_,fun a c=>d a (aL _ c),fun a ha=>?_⟩
   ·rcases List.mem_cons.1 ha with c|c
    ·exact ap (d a (by rw[c];simp))
    ·exact j a c
   ·rcases m a ha with c|c
    ·rcases List.mem_append.1 c with c|c
     ·exact ap c
     ·rw[a7] at c;exact an (by rw[c];simp)
    ·exact an (ay _ c)
end
section
variable {k:bP}{z:C0}{s t:bU}{H K D:List Int}
theorem dJ.i4 (w:dJ k z s H)(h:LI k z s H D)(c:hB k.N s.g s.nx=true)(ht:di k z {k.lk s s.nx with nx:=s.nx+(1+pf (k.ld s s.nx))} K)(p:c5 k s {k.lk s s.nx with nx:=s.nx+(1+pf (k.ld s s.nx))})(d:∃e,K=H++e):dJ k z {k.lk s s.nx with nx:=s.nx+(1+pf (k.ld s s.nx))} K:=by
 have g:=hR c;have f:s.nx∈H:=h.bo.resolve_right I;obtain⟨a,_⟩:=mP k s s.nx;have m:di k z (k.lk s s.nx) K:=ht.turn (k.lk s s.nx).wk (k.lk s s.nx).ep (k.lk s s.nx).rs (k.lk s s.nx).nx ht.ci.gN ht.ci.gD (by rw[a];exact h.mi.ci.f5) (by rw[a];exact h.mi.ci.gC)
 have b:=w.lk h.mi (aS z.G f) m ⟨p.f,p.g,p.cl⟩ d;exact⟨b.wk,b.ep⟩
theorem LI.mR:∀(n:Nat){s:bU}{H:List Int},LI k z s H D->dJ k z s H->∃b,LI k z (k.lb n s) b D/\dJ k z (k.lb n s) b/\c5 k s (k.lb n s)/\(∃c,b=H++c)/\(((k.N:Int)+k.O-s.nx).toNat<n->hB k.N (k.lb n s).g (k.lb n s).nx=false)
 |0,s,H,h,w=>⟨H,h,w,c5.refl _ _,⟨[],V⟩,fun e=>absurd e I⟩
 |n+1,s,H,h,w=>by
  unfold bP.lb;cases hn:hB k.N s.g s.nx
  ·rw[ao V];exact⟨H,h,w,c5.refl _ _,⟨[],V⟩,fun _=>hn⟩
  ·rw[aq rfl];obtain⟨j,m1,d,a⟩:=h.i4 hn;have w1:=w.i4 h hn m1.mi d a;obtain⟨c,a⟩:=a;obtain⟨f,g,iU,j2,⟨i,b7⟩,b9⟩:=LI.mR n m1 w1;refine⟨f,g,iU,d.trans j2,⟨c++i,by rw[b7,a,aU]⟩,fun e=>b9 ?_⟩
   have l:=cU (k.ld s s.nx)
   have m:=hR hn;have hg:=h.mi.ci.hg;dsimp only;omega
theorem Lo.ep {b:Int}(l:Lo k t b)(e:List Int)(hc:b∈t.ep->b∈e\/(k.cq (k.ld t (b+1))=false/\k.cq (k.ld t (b+2))=false))(f:pk (k.ld t b)=4->pf (k.ld t b)=2):Lo k {t with ep:=e} b:=by
 intro i g j;have m:i<pf (k.ld t b):=j;rcases l i g m with a|a|⟨d,n⟩
 ·exact ap a
 ·exact an (ap a)
 ·rcases hc n with c|⟨c1,c2⟩
  ·exact an (an ⟨d,c⟩)
  ·have o:=f d;left;show k.cq (k.ld t (b+1+i))=false;rcases(by omega:i=0\/i=1) with e|e
   ·rw[e,show b+1+0=b+1 by omega];exact c1
   ·rw[e,show b+1+1=b+2 by omega];exact c2
theorem LI.kv (h:LI k z s H D)(w:dJ k z s H):∃f,LI k z (k.kv s).2 f D/\dJ k z (k.kv s).2 f/\c5 k s (k.kv s).2/\∃j,f=H++j:=by
 obtain⟨f,c,j2,b7,b9,cC,l,_,m⟩:=LI.c4 s.ep [] h w.ep;unfold bP.kv bP.c4;dsimp only;have sub:∀a∈(s.ep.foldl k.cr ([],s)).1,a∈s.ep:=fun a ha=>(m a ha).elim (fun d=>by cases d) id;have mt:=c.mi.turn (s.ep.foldl k.cr ([],s)).2.wk (s.ep.foldl k.cr ([],s)).1 (s.ep.foldl k.cr ([],s)).2.rs (s.ep.foldl k.cr ([],s)).2.nx c.mi.ci.gN (fun a ha=>h.mi.ci.gD a (sub a ha)) c.mi.ci.f5 c.mi.ci.gC;have i:=w.go h.mi c.mi j2 b7 b9 cC;have cl:∀b,b∈(s.ep.foldl k.cr ([],s)).2.ep->b∈(s.ep.foldl k.cr ([],s)).1\/(k.cq (k.ld (s.ep.foldl k.cr ([],s)).2 (b+1))=false/\k.cq (k.ld (s.ep.foldl k.cr ([],s)).2 (b+2))=false):=fun b g=>l b (by rw[<-cC];exact g)
 have two:∀b,b∈z.G++f->pk (k.ld (s.ep.foldl k.cr ([],s)).2 b)=4->pf (k.ld (s.ep.foldl k.cr ([],s)).2 b)=2:=fun b g e=>fV (c.mi.bd g).2.2 (an (an e))
 refine⟨f,⟨mt,c.bo,fun b d lt=>?_,fun b d=>?_,c.dg⟩,⟨i.wk,fun a ha=>i.ep a (by rw[cC];exact sub a ha)⟩,⟨j2.f,j2.g,j2.cl⟩,b7⟩
 ·exact(c.lo b d lt).ep _ (cl b) (two b (aS _ d))
 ·exact(c.ld b d).ep _ (cl b) (two b (aL _ (c.dg b d)))
end
def cP (k:bP)(z:C0)(D:List Int)(s t:bU):Prop:=∀H,LI k z s H D->dJ k z s H->∃a,LI k z t a D/\dJ k z t a/\c5 k s t/\∃b,a=H++b
section
variable {k:bP}{z:C0}{s t u:bU}{D:List Int}
theorem cP.refl:cP k z D s s:=fun H h w=>⟨H,h,w,c5.refl _ _,⟨[],V⟩⟩
theorem cP.trans (h:cP k z D s t)(j:cP k z D t u):cP k z D s u:=fun H l w=>by obtain⟨a,m1,b,c,⟨d,e⟩⟩:=h H l w;obtain⟨f,g,j2,b7,⟨B,b9⟩⟩:=j a m1 b;exact⟨f,g,j2,c.trans b7,⟨d++B,by rw[b9,e,aU]⟩⟩
theorem cP.br (x:Int):cP k z D s (k.br s x).2:=fun _ h w=>by obtain⟨c,m1,a,b,_,_⟩:=h.br x;obtain⟨_,d,e,_⟩:=kZ k s x;exact⟨c,m1,w.go h.mi m1.mi a b d e,a,b⟩
theorem cP.lb (n:Nat):cP k z D s (k.lb n s):=fun _ h w=>by obtain⟨a,m1,b,c,d,_⟩:=LI.mR n h w;exact⟨a,m1,b,c,d⟩
theorem cP.kv:cP k z D s (k.kv s).2:=fun _ h w=>h.kv w
theorem cP.lS:∀(l:List Nat)(t:(bU×List bN)×Bool),cP k z D t.1.1 (l.foldl (dt k.al k.br) t).1.1
 |[],t=>cP.refl
 |i::l,t=>by
  rw[aI];refine cP.trans ?_ (cP.lS l _)
  unfold dt;split
  ·exact cP.refl
  ·exact cP.br _
theorem cP.wa (t:bU×List bN):cP k z D t.1 (k.wa t).1.1:=cP.lS (List.range t.2.length) (t,false)
theorem cP.cK:∀(n:Nat)(t:bU×List bN),cP k z D t.1 (k.cK n t).1
 |0,t=>cP.refl
 |n+1,t=>by
  have a:cP k z D t.1 (k.kv (k.lb (k.O+1) t.1)).2:=(cP.lb (k.O+1)).trans cP.kv;unfold bP.cK;split
  ·exact a.trans (cP.cK n ((k.kv (k.lb (k.O+1) t.1)).2,t.2))
  ·split
   ·exact(a.trans (cP.wa ((k.kv (k.lb (k.O+1) t.1)).2,t.2))).trans (cP.cK n (k.wa ((k.kv (k.lb (k.O+1) t.1)).2,t.2)).1)
   ·exact a.trans (cP.wa ((k.kv (k.lb (k.O+1) t.1)).2,t.2))
theorem cP.sp (t:bU×List bN):cP k z D t.1 (k.sp t).1:=cP.cK _ t
theorem cP.ke (t:bU×List bN)(x:Int):cP k z D t.1 (k.ke t x).2.1:=(cP.br x).trans (cP.sp ((k.br t.1 x).2,t.2))
theorem cP.one (t:bU×List bN)(e:bN):cP k z D t.1 (cm (dE bU) (fun s x=>k.al s.1 x) k.ke t e).2.1:=by
 unfold cm;split
 ·exact cP.ke t e.2
 ·exact cP.refl
theorem cP.part (l:List bN)(t:bU×List bN):cP k z D t.1 (pts (cm (dE bU) (fun s x=>k.al s.1 x) k.ke) t l).2.2.1:=by
 have key:∀(l:List bN)(p:List bN×List bN×(bU×List bN)),cP k z D p.2.2.1 (l.foldl (ec (cm (dE bU) (fun s x=>k.al s.1 x) k.ke)) p).2.2.1:=by
  intro l
  induction l with
  |nil=>exact fun p=>cP.refl
  |cons e l b=>
   intro p;rw[aI];refine cP.trans ?_ (b _)
   have a:=cP.one (k:=k) (z:=z) (D:=D) p.2.2 e;unfold ec;split
   ·exact a
   ·exact a
 exact key l ([],[],t)
theorem cP.turn:∀(n:Nat)(t:bU×List bN)(a:List bN),cP k z D t.1 (eu (cm (dE bU) (fun s x=>k.al s.1 x) k.ke) n t a).1.1
 |0,t,a=>cP.refl
 |n+1,t,a=>by
  unfold eu;split
  ·exact cP.part a t
  ·exact(cP.part a t).trans (cP.turn n _ _)
theorem cP.d_ (t:bU×List bN)(r:List bN):cP k z D t.1 (k.d_ t r).1:=cP.turn _ _ _
end
end Go.Proofs.YtjpjpjemibgjpaaGreat
