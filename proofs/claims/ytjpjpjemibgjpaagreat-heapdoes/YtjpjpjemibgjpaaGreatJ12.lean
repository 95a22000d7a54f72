import Derived.Test.YtjpjpjemibgjpaaGreatJ11
namespace Go.Proofs.YtjpjpjemibgjpaaGreat
set_option maxRecDepth 100000
set_option maxHeartbeats 8000000
open Tryz
namespace eR
open Go.RowKit W Kp cg
theorem x9 {P:Prop}(h:P:=by obtain⟨p0,p1⟩:=hfc j hlt;rw[hen] at p0 p1;exact⟨(hb.cell (p:=am g8 (iP+j*2)) ti).trans p0,(hb.cell (p:=am g8 (iP+j*2+1)) ti).trans p1⟩):P:=h
theorem qp {P:Prop}(h:P:=by
 rintro e w' ⟨rfl,hb⟩
 exact⟨_,_,m,rfl,h.below hb,Kx.of hb⟩):P:=h
def qq (w0:au)(mb b c fb:Nat)(T:List cG)(M:cL->Int->cL)(n:Nat):Prop:=
 ∀(w:au)(s:cL)(f g vr:Value)(m:List dm)(v:Int×Int),eh w0 w mb b c fb s f g vr m->eX (tI T.length) s->eV T v->T.length<=s.1.length+n->
  Calls prog 49 (jV v.1 v.2 mb b c fb) w fun e w'=>∃i j d,e=.returned (.agg #[ah (dr M (tI T.length) s (dI v)).1.1,ah (dr M (tI T.length) s (dI v)).1.2])/\eh w0 w' mb b c fb (dr M (tI T.length) s (dI v)).2 i j vr d/\Kx w0 w m w' d
structure Own (w3:au)(xb rb tb:Nat)(x kd:Int)(ft:Value)(o d:Bool):Prop where
 x:w3.heap[xb]?=some (.cells #[ah 3,ah x] 77 (0,0))
 r:w3.heap[rb]?=some (.cells #[ah 0,ah 0] 77 (0,0))
 t:w3.heap[tb]?=some (.cells #[ah kd,ft,.bool o,.bool d] 99 (0,0))
theorem Own.kx {w0 w3 wr:au}{m1 e:List dm}{b rb tb:Nat}{x kd:Int}{c:Value}{o d:Bool}(h:Own w3 b rb tb x kd c o d)(k:Kx w0 w3 m1 wr e):Own wr b rb tb x kd c o d:=
 ⟨(k.1.fF _ _ _ _ h.x (by unfold jg;decide)).trans h.x,(k.1.fF _ _ _ _ h.r (by unfold jg;decide)).trans h.r,(k.1.fF _ _ _ _ h.t (by unfold jg;decide)).trans h.t⟩
theorem tk {w:au}(a b:Int):∀c,(ak w.heap.size:Option Addr)=some c->∀k u,(ev [(a,b)])[k]?=some u->(w.alloc (.cells #[.int .i64 a,.int .i64 b] 77)).cell? (c.add k)=some u:=fun c e k u hk=>by
 have sE:=aL w (.cells #[.int .i64 a,.int .i64 b] 77)
 exact xp
section
variable {w0 w3 wb:au}{mb bb vb fb:Nat}{vr:Value}
theorem EH {s0 s1 cV cW cX cZ c6 c7 c8 c9 da db dc dd de df dg dh di dj dk dl dn dp dq ds dt du dv dw dx dy dz dA dB dC dD dE dF dG dH dK dL dM dN dO dP dQ dR dS dT dU iH dV dW dX dY dZ d0 d1 d2 d3 d4 d5 d6 d7 d8 d9 ea eb ec ed ee ef eg ei ej ek el em en eo ep eq er es et eu ex ey ez eA eB eC eD eE eF eG eH eI eJ eK eL eM eN eO eP eQ eR eS eT eU eW eY eZ:Value}{Q:Exit->Act->au->Prop}{bi:au}{mB m1 bl:List dm}{P:List (Int×Int)×cL}{ax:Option Addr}{aB n bn rp bo rb tb:Nat}{bp br e0:Value}{k0 x kd:Int}{e1 e2:Bool}{v0:List (Int×Int)}{T:List cG}{wt:List bZ}{M:cL->Int->cL}{o:cL}{l0:List Int}
 (h:dJ w0 w3 bi mb bb vb fb vr m1 P ax aB bp br bl)(cn:P=c_ M (tI T.length) o l0)(hM:ki (tI T.length) (fI T) (fJ T wt) bn M)(co:qq w0 mb bb vb fb T M bn)(hO:eX (tI T.length) o)(bs:T.length<=o.1.length+bn)(cp:Own w3 bo rb tb x kd e0 e1 e2)(hw:nK T wt)(bt:w0.cell? (am bb 0)=some (aj rp))(e3:∃J c3,w0.cell? (am rp 3)=some (.slice J wt.length c3)/\cY w0 J wt)
 (cq:∀b:List (Int×Int)×cL,b=c_ M (tI T.length) o (l0++if kd=5 then(wt.filter (fun e=>e.1==x)).map (fun e=>ew 3 e.2) else[])->b.2.2[n]?=some (k0,v0)/\b.2.2.length<=100000/\b.1.length<=100000)(cr:∀k,k<=wt.length->(c_ M (tI T.length) o (l0++((wt.take k).filter (fun e=>e.1==x)).map (fun e=>ew 3 e.2))).1.length<=100000)
 (H:rb<w3.heap.size)(hlo:w0.heap.size<=rb)(cs:¬fA m1 rb)(ct:wb.heap.size<=rb)(cu:Kx w0 wb mB w3 m1)
 (cw:∀(a:Act)(w':au)(bx bY:Value)(E:List dm)(b:List (Int×Int)×cL),b=c_ M (tI T.length) o (l0++if kd=5 then(wt.filter (fun e=>e.1==x)).map (fun e=>ew 3 e.2) else[])->a.tmps.getD 6 undef=aj rb->a.defers=[]->w'.cell? (am rb 0)=some (ah 3)->w'.cell? (am rb 1)=some (ah n)->eh w0 w' mb bb vb fb (b.2.1,b.2.2.set n (k0,b.1)) bx bY vr E->Kx w0 wb mB w' E->Q .ret a w'):
 Code.wp prog ((find 18 (Tryz.f49.body.getD .skip)).getD .skip) Q ⟨#[s0,s1,aj bb,aj vb,aj fb,aj bo,aj rb,cV,ah n,aj tb,.slice ax P.1.length aB,cW,cX,cZ,c6,c7,c8,c9,da,db,dc,dd,de,df,dg,dh,di,dj,dk,dl,dn,dp,dq,ds,dt,du,dv,dw,dx,dy,dz,dA,dB,dC,dD,dE,dF,dG,dH,dK,dL,dM,dN,dO,dP,dQ,dR,dS,dT,dU,iH,dV,dW,dX,dY,dZ,d0,d1,d2,d3,d4,d5,d6,d7,d8,d9,ea,eb,ec,ed,ee,ef,eg,ei,ej,ek,el,em,en,eo,ep,eq,er,es,et,eu,ex,ey,ez,eA,eB,eC,eD,eE,eF,eG,eH,eI,eJ,eK,eL,eM,eN,eO,eP,eQ,eR,eS,eT,eU,eW,eY,eZ],[]⟩ bi:=by
 conv=>arg 2;whnf
 have cx:av (∀(a:Act)(w':au)(bx bY:Value)(E:List dm)(b:List (Int×Int)×cL),b=c_ M (tI T.length) o (l0++if kd=5 then(wt.filter (fun e=>e.1==x)).map (fun e=>ew 3 e.2) else[])->a.tmps.getD 6 undef=aj rb->a.defers=[]->w'.cell? (am rb 0)=some (ah 3)->w'.cell? (am rb 1)=some (ah n)->eh w0 w' mb bb vb fb (b.2.1,b.2.2.set n (k0,b.1)) bx bY vr E->Kx w0 wb mB w' E->_):=cw;obtain⟨J,c3,b0,cy⟩:=e3;have b6:av (∀w',Below w0.heap.size w0 w'->_/\_/\_):=fun w' b7=>⟨(b7.cell (p:=am bb 0) (aK w0 _ bt)).trans bt,(b7.cell (p:=am rp 3) (aK w0 _ b0)).trans b0,cy.below b7⟩
 have cz:av (_):=cp;have e4:av (_):=co;have cA:av (_):=hw;have e5:av (∀l,_):=fun l=>m8 hM hO (by rw[jU];exact bs) l;have b8:av (_/\_):=⟨cq,bs⟩
 have e6:av (∀k,k<=wt.length->_):=cr;have F:av (_/\_/\_/\_/\_):=⟨H,hlo,cs,ct,cu⟩
 have t:av (dJ w0 w3 bi mb bb vb fb vr m1 P ax aB bp br bl):=h;have v:av (P=c_ M (tI T.length) o (l0++((wt.take 0).filter (fun e=>e.1==x)).map (fun e=>ew 3 e.2))):=by show _=_;rw[cn];simp
 have fz:=hw.l2;obtain⟨e7,e8,e9,fa,fc⟩:=info_parts mA;clear cw cq co hw cp h bt b0 cy H hlo cs ct cu hO hM bs cr cn;have cB:av (∀{wr:au}{b:List (Int×Int)×cL}{f:Option Addr}{i:Nat}{A B:Value}{m:List dm},dJ w0 w3 wr mb bb vb fb vr m1 b f i A B m->b=c_ M (tI T.length) o (l0++if kd=5 then(wt.filter (fun e=>e.1==x)).map (fun e=>ew 3 e.2) else[])->wr.heap[rb]?=some (.cells #[ah 0,ah 0] 77 (0,0))/\¬fA m rb/\Kx w0 wb mB wr m):=fun {wr b f i A B m} O _=>by
  refine⟨(cz.o.kx O.kx).r,fun aF=>?_,F.o.2.2.2.2.trans O.kx⟩
  rcases O.kx.2 rb aF with aF|aF
  ·exact F.o.2.2.1 aF
  ·have:=F.o.1;omega
 go_wp2_with fail
 go_loopw [10,13] (fun fd iv wr=>∃(j:Nat)(b:List (Int×Int)×cL)(f:Option Addr)(i:Nat)(A B:Value)(m:List dm),j<=wt.length/\fd=.slice f b.1.length i/\iv=ah j/\av ((kd≠5->j=0)/\b=c_ M (tI T.length) o (l0++((wt.take j).filter (fun e=>e.1==x)).map (fun e=>ew 3 e.2)))/\av (dJ w0 w3 wr mb bb vb fb vr m1 b f i A B m)) (fun _ iv _=>wt.length-(intOf iv).toNat)
 case atStart=>exact⟨0,P,ax,aB,bp,br,bl,aS _,rfl,rfl,⟨fun _=>rfl,v.o⟩,t⟩
 case round=>
  clear v t;obtain⟨j,b,f,i,A,B,m,fe,rfl,rfl,v,t⟩:=hrel;obtain⟨cC,cD,cE⟩:=b6.o wr t.o.wv.dt;have b9:=cz.o.kx t.o.kx;have t0:wr.cell? (am tb 0)=some (ah kd):=ay b9.t
  have ff:wr.cell? (am bo 1)=some (ah x):=ay b9.x
  have q0:(0:Int)<=(j:Int):=V;clear b9;by_cases k5:kd=5
  ·subst k5;by_cases H:j<wt.length
   ·have q1:(j:Int)<(wt.length:Int):=V;obtain⟨R,aR,rfl,fB,ca⟩:=cE V;obtain⟨cb,y1⟩:=ca j H;have aT:wt.getD j (0,0)∈wt:=getD_in H;obtain⟨cc,aV,a0⟩:=cA.o.wv _ aT;have S:=mG.sG (fun e:bZ=>e.1==x) wt j H (0,0)
    obtain⟨a3,s,cd⟩:∃a3 s,wt.getD j (0,0)=(a3,s):=⟨_,_,rfl⟩
    have cF:av (_=_):=cd;rw[cd] at cb y1 cc aV a0 S aT;dsimp only at cb y1 cc aV a0 S;clear cd;cases hq:(a3==x)
    ·have bd:av (((5:Int)≠5->j+1=0)/\b=c_ M (tI T.length) o (l0++((wt.take (j+1)).filter (fun e=>e.1==x)).map (fun e=>ew 3 e.2))):=⟨fun c=>absurd rfl c,by rw[S,hq];simpa using v.o.2⟩
     clear S v ca aT;have fg:av (∀q,dJ w0 w3 (wr.drewN q) mb bb vb fb vr m1 b f i A B m):=fun q=>t.o.below (below_drewN bX q)
     as_aux_lemma=>
     go_wp2_with fail
     go_quiet (fail)
     go_wp2_with fail;go_roundw
     case rel=>exact⟨j+1,b,f,i,A,B,m,V,rfl,af,bd,fg.o _⟩
     case measure=>simp[intOf];omega
    ·have fC:a3=x:=by simpa using hq
     have cH:eV T (3,s):=⟨l_ s aV (by have:=cA.o.l1;have:=a0.1;omega),fun _=>⟨aV,a0⟩⟩
     have be:=e5.o (l0++((wt.take j).filter (fun e=>e.1==x)).map (fun e=>ew 3 e.2))
     rw[<-v.o.2] at be;have bg:av (∀W:au,dJ w0 w3 W mb bb vb fb vr m1 b f i A B m->Calls prog 49 (jV 3 s mb bb vb fb) W fun e w'=>∃C D w,e=.returned (.agg #[ah (dr M (tI T.length) b.2 (dI (3,s))).1.1,ah (dr M (tI T.length) b.2 (dI (3,s))).1.2])/\dJ w0 w3 w' mb bb vb fb vr m1 (b.1,(dr M (tI T.length) b.2 (dI (3,s))).2) f i C D w/\Kx w0 W m w' w):=fun W O=>by
      refine(e4.o W b.2 A B vr m (3,s) O.wv be.ok cH (by have X:=be.le;have fD:=b8.o.2;omega)).mono ?_;rintro e d ⟨C,D,w,rfl,fh,Y⟩
      exact⟨C,D,w,rfl,O.call fh Y,Y⟩
     have cI:av (∀q,dJ w0 w3 (wr.drewN q) mb bb vb fb vr m1 b f i A B m):=fun q=>t.o.below (below_drewN bX q)
     have bd:av (((5:Int)≠5->j+1=0)/\(b.1++[(dr M (tI T.length) b.2 (dI (3,s))).1],(dr M (tI T.length) b.2 (dI (3,s))).2)=c_ M (tI T.length) o (l0++((wt.take (j+1)).filter (fun e=>e.1==x)).map (fun e=>ew 3 e.2))):=⟨fun c=>absurd rfl c,by
      rw[S,hq,aH rfl,bA,<-bj];show _=c_ M (tI T.length) o (_++[dI (3,s)])
      rw[og,<-v.o.2]⟩
     have fE:b.1.length<=100000:=by rw[v.o.2];exact e6.o j fe
     have cJ:=t.o.wv.cells.2.2.1;generalize dr M (tI T.length) b.2 (dI (3,s))=fi at*;obtain⟨⟨v1,v2⟩,ab⟩:=fi;dsimp only at bg bd;clear S v ca aT be cH cc t;go_wp2_with fail
     go_quiet (fail)
     go_wp2_with fail;have U:=cI.o nq;have cK:(wr.drewN nq).cell? (am fb 0)=some (kD mb bb vb fb):=cJ;have cM:(wr.drewN nq).cell? (am bb 0)=some (aj rp):=cC;have cN:(wr.drewN nq).cell? (am rp 3)=some (.slice (some ⟨R,aR,none⟩) wt.length c3):=cD;have cO:(wr.drewN nq).cell? (am R (aR+j*2+1))=some (ah s):=y1;generalize wr.drewN nq=W at*;have n1:W.heap.size≠fb:=by have:fb<W.heap.size:=aK W _ cK;omega
     have fj:W.heap.size≠bb:=by have:bb<W.heap.size:=aK W _ cM;omega
     have fk:W.heap.size≠rp:=by have:rp<W.heap.size:=aK W _ cN;omega
     have n4:W.heap.size≠R:=by have:R<W.heap.size:=aK W _ cO;omega
     have cf:=bg.o W.drew (U.below (aD _ W).drew)
     have cg:=bg.o (W.alloc (.cells #[.int .i64 0,.int .i64 0] 77)).drew (U.below ((aD _ W).alloc bW _).drew)
     have U:av (dJ w0 w3 W mb bb vb fb vr m1 b f i A B m):=U;clear cI bg cb y1 cJ cC cD cE t0 ff
     go_region_held3 (fun w'=>w'.cell? (am fb 0)=some (kD mb bb vb fb)/\w'.cell? (am bb 0)=some (aj rp)/\w'.cell? (am rp 3)=some (.slice (some ⟨R,aR,none⟩) wt.length c3)/\w'.cell? (am R (aR+j*2+1))=some (ah s)) (go_keep) (first|(go_at_call 49;refine cf.mono ?_;clear cf cg;rintro e d ⟨C,D,w,rfl,G,_⟩;have cP:av (dJ w0 w3 d mb bb vb fb vr m1 (b.1,ab) f i C D w):=G;obtain⟨b1,b2,b3⟩:=b6.o d G.wv.dt;have b4:=G.wv.cells.2.2.1;obtain⟨_,_,ch,_,ad⟩:=b3 V;cases ch;have b5:=(ad j H).2;rw[cF.o] at b5;clear G b3 ad)|(go_at_call 49;refine cg.mono ?_;clear cf cg;rintro e d ⟨C,D,w,rfl,G,Y⟩;have K:=U.o.late G (show Kx w0 (W.alloc (.cells #[.int .i64 0,.int .i64 0] 77)) m d w from(Kx.of bX.drew).trans Y) v1 v2;have cQ:av (dJ w0 w3 ((d.setCell ⟨W.heap.size,0,none⟩ (.int .i64 v1)).setCell ⟨W.heap.size,1,none⟩ (.int .i64 v2)) mb bb vb fb vr m1 (b.1,ab) f i C D w/\d.heap[W.heap.size]?=some (.cells #[ah 0,ah 0] 77 (0,0))):=⟨K.2,K.1⟩;have c0:d.cell? (am W.heap.size 0)=some (ah 0):=ay K.1;have c1:d.cell? (am W.heap.size 1)=some (ah 0):=ay K.1;have c2:d.frozen? (am W.heap.size 0)=false:=az K.1;have c4:d.frozen? (am W.heap.size 1)=false:=az K.1;obtain⟨b1,b2,b3⟩:=b6.o d G.wv.dt;have b4:=G.wv.cells.2.2.1;obtain⟨_,_,ch,_,ad⟩:=b3 V;cases ch;have b5:=(ad j H).2;rw[cF.o] at b5;clear G b3 ad K Y))
     all_goals
      first
      |(
       have L:av (dJ w0 w3 (d.alloc (.cells #[.int .i64 v1,.int .i64 v2] 77)) mb bb vb fb vr m1 (b.1,ab) f i C D w/\(d.alloc (.cells #[.int .i64 v1,.int .i64 v2] 77)).cell? (am d.heap.size 0)=some (ah v1)/\(d.alloc (.cells #[.int .i64 v1,.int .i64 v2] 77)).cell? (am d.heap.size 1)=some (ah v2)):=⟨cP.o.below ((aD _ d).alloc bW _),by have ci:=aL d (.cells #[.int .i64 v1,.int .i64 v2] 77);unfold World.cell?;dsimp only;rw[ci];rfl,by have ci:=aL d (.cells #[.int .i64 v1,.int .i64 v2] 77);unfold World.cell?;dsimp only;rw[ci];rfl⟩
       clear cP b1 b2 b4 b5;generalize d.alloc (.cells #[.int .i64 v1,.int .i64 v2] 77)=I at*;generalize d.heap.size=fl at*)
      |(
       have L:av (dJ w0 w3 ((d.setCell ⟨W.heap.size,0,none⟩ (.int .i64 v1)).setCell ⟨W.heap.size,1,none⟩ (.int .i64 v2)) mb bb vb fb vr m1 (b.1,ab) f i C D w/\((d.setCell ⟨W.heap.size,0,none⟩ (.int .i64 v1)).setCell ⟨W.heap.size,1,none⟩ (.int .i64 v2)).cell? (am W.heap.size 0)=some (ah v1)/\((d.setCell ⟨W.heap.size,0,none⟩ (.int .i64 v1)).setCell ⟨W.heap.size,1,none⟩ (.int .i64 v2)).cell? (am W.heap.size 1)=some (ah v2)):=⟨cQ.o.1,by rw[a5 _ _ _ _ Z];exact a9 _ _ _ (u:=ah 0) c0,a9 _ _ _ (u:=ah 0) ((a5 _ _ _ _ Z).trans c1)⟩
       clear cQ b1 b2 b4 b5 c0 c1 c2 c4;generalize (d.setCell ⟨W.heap.size,0,none⟩ (.int .i64 v1)).setCell ⟨W.heap.size,1,none⟩ (.int .i64 v2)=I at*;clear cK cM cN cO n1 fj fk n4 U;generalize W.heap.size=fl at*)
     all_goals
      have k1:=L.o.2.1;have fF:=L.o.2.2;have cR:av (Below I.heap.size I (I.alloc (.cells #[.int .i64 v1,.int .i64 v2] 77))):=an I _;have fm:av (∀a,(ak I.heap.size:Option Addr)=some a->∀k u,(ev [(v1,v2)])[k]?=some u->_=_):=tk v1 v2;have cj:=cv L.o.1.row (fun k e=>cR.o.block k (ce L.o.1.row k e).2)
      dsimp only at cj;have fn:av (_):=L.o.1.kx.1.size
      go_upto_region 20 with(at_builtin;refine je _ rfl _ _ 57 rfl w3.heap.size 77 e7 (.agg #[ah 0,ah 0]) 2 16 underlying57 e8 e9 fa fc rfl aa (.slice f b.1.length i) b.1.length (ev b.1) rfl cj (ak I.heap.size) 1 1 (ev [(v1,v2)]) rfl rfl (fun e=>by cases e) fm.o (iX _) (by unfold maxLen;omega) V (by have:=fn.o;simp;omega) ?_;intro fo fp fG cS cT cU;have fq:av (_):=(L.o.1.push cR.o cT cS cU))
      clear cS cT cU cj;go_wp2_with fail;go_roundw
      case rel=>exact⟨j+1,(b.1++[(v1,v2)],ab),fo,fp,C,D,w,V,Z,af,bd,fq⟩
      case measure=>simp[intOf];omega
   ·obtain rfl:j=wt.length:=V;have N:av (b=c_ M (tI T.length) o (l0++if(5:Int)=5 then(wt.filter (fun e=>e.1==x)).map (fun e=>ew 3 e.2) else[])):=by have X:=v.o.2;rw[a_] at X;show _=_;rw[aH rfl];exact X
    obtain⟨ag,ai,al⟩:=cB.o t.o N.o;obtain⟨ap,ar,_⟩:=b8.o.1 _ N.o;obtain⟨g,fr,u,ck,c1,c2,fs,c4,c5,ft,fu,fv,fw,fx,cl⟩:=x8 t.o ap ar ag F.o.1 F.o.2.1 ai F.o.2.2.2.1 al;have g0:(0:Int)<=(n:Int):=V;have g1:(n:Int)<(m.length:Int):=V;clear ag ai al ap ar ck;go_wp2_with fail;obtain⟨⟨E,a1,a2⟩,J,cm⟩:=cl.o;exact cx.o _ _ _ _ E b N.o rfl rfl J cm a1 a2
  ·have fH:(kd==5)=false:=by simpa using k5
   have fy:=v.o.1 k5;subst fy;have N:av (b=c_ M (tI T.length) o (l0++if kd=5 then(wt.filter (fun e=>e.1==x)).map (fun e=>ew 3 e.2) else[])):=by have X:=v.o.2;show _=_;rw[aE k5];simpa using X
   obtain⟨ag,ai,al⟩:=cB.o t.o N.o;obtain⟨ap,ar,_⟩:=b8.o.1 _ N.o;obtain⟨g,fr,u,ck,c1,c2,fs,c4,c5,ft,fu,fv,fw,fx,cl⟩:=x8 t.o ap ar ag F.o.1 F.o.2.1 ai F.o.2.2.2.1 al;have g0:(0:Int)<=(n:Int):=V;have g1:(n:Int)<(m.length:Int):=V;clear ag ai al ap ar ck;go_wp2_with fail
   all_goals
    obtain⟨⟨E,a1,a2⟩,J,cm⟩:=cl.o;exact cx.o _ _ _ _ E b N.o rfl rfl J cm a1 a2
end
end eR
namespace eR
open Go.RowKit W Kp cg
structure Rd (w0:au)(bb rp:Nat)(T:List cG)(wt:List bZ):Prop where
 wg:Wg w0 rp T wt
 bx:w0.cell? (am bb 0)=some (aj rp)
theorem EI {w:au}(x:Int):∀b,(ak w.heap.size:Option Addr)=some b->∀k u,([x].map (Value.int .i64))[k]?=some u->(w.alloc (.cells #[.int .i64 x] 3)).cell? (b.add k)=some u:=fun b e k u hk=>by
 cases e;have c:k<1:=by have:=(List.getElem?_eq_some_iff.1 hk).1;simpa using this
 obtain rfl:k=0:=V;simp at hk;subst hk;show World.cell? _ ⟨w.heap.size,0,none⟩=_;unfold World.cell?;rw[(aL w (.cells #[.int .i64 x] 3))];rfl
theorem EJ {w:au}(x:Int):∀b,(ak w.heap.size:Option Addr)=some b->∀k u,(nv [(x,none,0,[])])[k]?=some u->(w.alloc (.cells #[.int .i64 x,.slice none 0 0] 87)).cell? (b.add k)=some u:=fun b e k u hk=>by
 have c:=aL w (.cells #[.int .i64 x,.slice none 0 0] 87)
 cases e;have d:k<2:=by have:=(List.getElem?_eq_some_iff.1 hk).1;simpa[nv] using this
 rcases(show k=0\/k=1 by omega) with rfl|rfl
 ·simp[nv] at hk;subst hk;show World.cell? _ ⟨w.heap.size,0,none⟩=_;unfold World.cell?;rw[c];rfl
 ·simp[nv] at hk;subst hk;show World.cell? _ ⟨w.heap.size,1,none⟩=_;unfold World.cell?;rw[c];rfl
theorem EK {w0 wr wq b:au}{mb i j fb:Nat}{ms:List Int}{l:List _}{f c:Option Addr}{g d:Nat}{n vr:Value}{m:List dm}(h:eh w0 wr mb i j fb (ms,l) (.slice f ms.length g) n vr m)(a:Int)(hq:Below wr.heap.size wr wq)(hg:wq.grownBy b (Value.slice f ms.length g).ownBlock)(p:b.ownsRow w0.heap.size 3 1 (.slice c (ms.length+1) d) (ms.length+1) (ms.map (Value.int .i64)++[a].map (Value.int .i64))):
 eh w0 (b.setCell ⟨mb,0,none⟩ (.slice c (ms.length+1) d)) mb i j fb (ms++[a],l) (.slice c (ms.length+1) d) n vr m/\eZ w0.heap.size wr (b.setCell ⟨mb,0,none⟩ (.slice c (ms.length+1) d))/\b.heap[mb]?=some (.cells #[.slice f ms.length g] 96 (0,0)):=by
 have fr:=(Fr.of hq).grown hg (fun k e=>aJ (by simpa using e.symm))
 have o:=h.meets a fr (by have q:(ms++[a]).length=ms.length+1:=Z;rw[q,bA];exact p)
 refine⟨o.1,o.2,(fr.block mb (lt_of_some h.mc) (fun e=>?_)).trans h.mc⟩
 obtain⟨s,hc⟩:=dZ h.mr mb e;rw[h.mc] at hc;simp at hc
theorem EL {w0 wr wq c:au}{mb i b fb:Nat}{s:cL}{g d:Option Addr}{cN f:Nat}{j vr:Value}{m:List dm}(h:eh w0 wr mb i b fb s j (.slice g m.length cN) vr m)(kd:Int)(hq:Below wr.heap.size wr wq)(hg:wq.grownBy c (Value.slice g m.length cN).ownBlock)(n:c.ownsRow w0.heap.size 87 2 (.slice d (m.length+1) f) (m.length+1) (nv m++nv [(kd,none,0,[])])):
 eh w0 (c.setCell ⟨b,1,none⟩ (.slice d (m.length+1) f)) mb i b fb (s.1,s.2++[(kd,[])]) j (.slice d (m.length+1) f) vr (m++[(kd,none,0,[])])/\eZ w0.heap.size wr (c.setCell ⟨b,1,none⟩ (.slice d (m.length+1) f))/\c.heap[b]?=some (.cells #[vr,.slice g m.length cN] 60 (0,0)):=by
 have fr:=(Fr.of hq).grown hg (fun k e=>aJ (by simpa using e.symm))
 have l:=h.EG kd fr (by have o:(m++[((kd,none,0,[]):dm)]).length=m.length+1:=Z;rw[o,vK];exact n)
 refine⟨l.1,l.2,(fr.block b (lt_of_some h.vc) (fun e=>?_)).trans h.vc⟩
 obtain⟨p,hc⟩:=dZ h.nr b e;rw[h.vc] at hc;simp at hc
section
variable {w0 w:au}{mb bb vb fb rp:Nat}{s:cL}{va vn vr:Value}{m:List dm}{T:List cG}{wt:List bZ}{n':Nat}
theorem EM (h:eh w0 w mb bb vb fb s va vn vr m)(dA:Rd w0 bb rp T wt)(hw:nK T wt)(hO:eX (tI T.length) s)(a:Nat)(cG:cH T a)(hs:s.1.contains (a:Int)=false)(dB:qq w0 mb bb vb fb T (met (tI T.length) (fI T) (fJ T wt) n') n')(dC:T.length<=s.1.length+(n'+1)):
 Calls prog 49 (jV 3 a mb bb vb fb) w fun e w'=>∃be bg U,e=.returned (.agg #[ah 3,ah s.1.length])/\eh w0 w' mb bb vb fb (met (tI T.length) (fI T) (fJ T wt) (n'+1) s a) be bg vr U/\Kx w0 w m w' U:=by
 have ha:a<T.length:=cG.1;have hl:s.1.length<=10000:=by have n:=hO.le;rw[jU] at n;have:=hw.l1;omega
 have co:s.2.length=s.1.length:=hO.len;have dD:eX (tI T.length) (s.1++[(a:Int)],s.2++[(fI T a,[])]):=hO.more (oU.2 ⟨V,V⟩) (fun c=>by rw[List.contains_iff_mem.2 c] at hs;cases hs) _;have cq:av (met (tI T.length) (fI T) (fJ T wt) (n'+1) s a=((c_ (met (tI T.length) (fI T) (fJ T wt) n') (tI T.length) (s.1++[(a:Int)],s.2++[(fI T a,[])]) (fJ T wt a)).2.1,(c_ (met (tI T.length) (fI T) (fJ T wt) n') (tI T.length) (s.1++[(a:Int)],s.2++[(fI T a,[])]) (fJ T wt a)).2.2.set s.1.length (fI T a,(c_ (met (tI T.length) (fI T) (fJ T wt) n') (tI T.length) (s.1++[(a:Int)],s.2++[(fI T a,[])]) (fJ T wt a)).1))):=rfl;have cI:av (ki (tI T.length) (fI T) (fJ T wt) n' (met (tI T.length) (fI T) (fJ T wt) n')):=jb n';obtain⟨ms,q⟩:=s;generalize met (tI T.length) (fI T) (fJ T wt) (n'+1) (ms,q) a=en at*;generalize met (tI T.length) (fI T) (fJ T wt) n'=M at*;have cr:=hide dD;have cJ:=hide dB;have bi:=hide hw;have cd:=hide dA;have bx:=hide h;obtain⟨bY,b0,dE⟩:=dQ h.mr;subst dE;have hb:=(an w (.cells #[.int .i64 3,.int .i64 (a:Int)] 77)).alloc Z (.cells #[.int .i64 0,.int .i64 0] 77)
 have cK:=hide hb;have c0:=(hb.cell (p:=am mb 0) h.cells.2.2.2.1).trans h.cells.1;have eo:=h.cells.2.2.2.1;have dF:w.heap.size≠mb:=V;go_enter func49,ntmps49;go_wp2_with fail;have X:av (((w.alloc (.cells #[.int .i64 3,.int .i64 (a:Int)] 77)).alloc (.cells #[.int .i64 0,.int .i64 0] 77)).heap[w.heap.size+1]?=some (.cells #[ah 0,ah 0] 77 (0,0))/\((w.alloc (.cells #[.int .i64 3,.int .i64 (a:Int)] 77)).alloc (.cells #[.int .i64 0,.int .i64 0] 77)).heap[w.heap.size]?=some (.cells #[ah 3,ah (a:Int)] 77 (0,0))/\((w.alloc (.cells #[.int .i64 3,.int .i64 (a:Int)] 77)).alloc (.cells #[.int .i64 0,.int .i64 0] 77)).heap.size=w.heap.size+2):=by
  refine⟨?_,?_,Z⟩
  ·have:=aL (w.alloc (.cells #[.int .i64 3,.int .i64 (a:Int)] 77)) (.cells #[.int .i64 0,.int .i64 0] 77)
   have e:(w.alloc (.cells #[.int .i64 3,.int .i64 (a:Int)] 77)).heap.size=w.heap.size+1:=Z;rw[e] at this
   exact this
  ·have n:=aL w (.cells #[.int .i64 3,.int .i64 (a:Int)] 77)
   have I:=(aD (w.alloc (.cells #[.int .i64 3,.int .i64 (a:Int)] 77)).heap.size (w.alloc (.cells #[.int .i64 3,.int .i64 (a:Int)] 77))).alloc bW (.cells #[.int .i64 0,.int .i64 0] 77)
   exact(I.block w.heap.size Z).trans n
 generalize (w.alloc (.cells #[.int .i64 3,.int .i64 (a:Int)] 77)).alloc (.cells #[.int .i64 0,.int .i64 0] 77)=cs at*
 go_loopw [7] (fun iv wr=>∃j:Nat,j<=ms.length/\iv=ah j/\av (Below cs.heap.size cs wr)) (fun iv _=>ms.length-(intOf iv).toNat)
 case atStart=>exact⟨0,aS _,rfl,aD _ _⟩
 case round=>
  obtain⟨j,dG,rfl,ar⟩:=hrel;have dH:_:=aK cs _ c0;have z0:=(ar.o.cell (p:=am mb 0) dH).trans c0;have cf:=(ar.o.block w.heap.size (lt_of_some X.o.2.1)).trans X.o.2.1;have ct:=(ar.o.block (w.heap.size+1) (lt_of_some X.o.1)).trans X.o.1;have y1:wr.cell? (am w.heap.size 1)=some (ah (a:Int)):=by simp[World.cell?,cf]
  have cg:Below w.heap.size w wr:=cK.o.trans (ar.o.mono cK.o.size)
  have j0:(0:Int)<=(j:Int):=V;by_cases hlt:j<ms.length
  ·have F:=bx.o.below cg;obtain⟨dK,cb,cM⟩:=dW F.mr (by show 0<ms.length;omega)
   obtain⟨rfl,rfl⟩:bY=ak dK/\b0=cb:=by simpa using cM
   have ep:=(e8 F.mr (i:=j) (u:=ah (ms.getD j 0)) (by show(ms.map (Value.int .i64))[j]?=_;rw[bq,aG hlt,aC,aG hlt];rfl)).1;have cO:(ms.getD j 0==(a:Int))=false:=by
    have cO:ms.getD j 0≠(a:Int):=fun e=>by
     have hm:(a:Int)∈ms:=by rw[<-e];exact getD_in hlt
     rw[List.contains_iff_mem.2 hm] at hs;cases hs
    simpa using cO
   have eq:(j:Int)<(ms.length:Int):=V;generalize ms.getD j 0=y at*;clear cf ct F cM
   as_aux_lemma=>
   go_wp2_with fail
   go_quiet (fail)
   go_wp2_with fail;go_roundw
   case rel=>exact⟨j+1,V,af,below_drewN ar.o _⟩
   case measure=>simp[intOf];omega
  ·obtain rfl:j=ms.length:=V;have F:=bx.o.below cg;have ax:av (wr.heap[w.heap.size]?=some (.cells #[ah 3,ah (a:Int)] 77 (0,0))/\wr.heap[w.heap.size+1]?=some (.cells #[ah 0,ah 0] 77 (0,0))/\w.heap.size+2<=wr.heap.size/\Below w.heap.size w wr):=⟨cf,ct,by have n:=X.o.2.2;have I:=ar.o.size;omega,cg⟩
   have dL:=F.cells.2.2.2.2.2.2.1 0;have cP:av (eh w0 wr mb bb vb fb (ms,q) (.slice bY ms.length b0) vn vr m):=F;obtain⟨dM,cQ,cR,cS,cU⟩:=info_parts jQ;have J:av (Below wr.heap.size wr (wr.alloc (.cells #[.int .i64 (a:Int)] 3))):=an wr _;have aB:av (∀x,(ak wr.heap.size:Option Addr)=some x->∀k u,([(a:Int)].map (Value.int .i64))[k]?=some u->(wr.alloc (.cells #[.int .i64 (a:Int)] 3)).cell? (x.add k)=some u):=EI _;have K:=cv F.mr (fun k e=>J.o.block k (ce F.mr k e).2)
   dsimp only at K;have aF:av (w0.heap.size<=wr.heap.size):=F.dt.size;have dN:mb<wr.heap.size:=lt_of_some F.mc;clear cf ct cg F ar X c0 dF
   go_upto_region 10 with(at_builtin;refine je _ rfl _ _ 96 rfl w0.heap.size 3 dM (ah 0) 1 8 underlying96 cQ cR cS cU rfl aa (.slice bY ms.length b0) ms.length (ms.map (Value.int .i64)) rfl K (ak wr.heap.size) 1 1 ([(a:Int)].map (Value.int .i64)) rfl rfl (fun e=>by cases e) aB.o (fun u ab=>by simp at ab;subst ab;rfl) (by unfold maxLen;omega) V (by have:=aF.o;simp;omega) ?_;intro C D b cV cW _;have b3:av (eh w0 (b.setCell ⟨mb,0,none⟩ (.slice C (ms.length+1) D)) mb bb vb fb (ms++[(a:Int)],q) (.slice C (ms.length+1) D) vn vr m/\eZ w0.heap.size wr (b.setCell ⟨mb,0,none⟩ (.slice C (ms.length+1) D))/\b.heap[mb]?=some (.cells #[.slice bY ms.length b0] 96 (0,0))):=(EK cP.o (a:Int) J.o cW cV);have s0:b.cell? (am mb 0)=some (.slice bY ms.length b0):=ay b3.o.2.2;have s1:b.frozen? (am mb 0)=false:=(by simp[World.frozen?,b3.o.2.2]))
   have aR:av (eh w0 (b.setCell ⟨mb,0,none⟩ (.slice C (ms.length+1) D)) mb bb vb fb (ms++[(a:Int)],q) (.slice C (ms.length+1) D) vn vr m/\eZ w0.heap.size wr (b.setCell ⟨mb,0,none⟩ (.slice C (ms.length+1) D))):=⟨b3.o.1,b3.o.2.1⟩
   clear b3 s0 s1 cV cW K aB J aF dN dL y1 z0;generalize b.setCell ⟨mb,0,none⟩ (.slice C (ms.length+1) D)=g at*;have ad:av (g.heap[w.heap.size]?=some (.cells #[ah 3,ah (a:Int)] 77 (0,0))/\g.heap[w.heap.size+1]?=some (.cells #[ah 0,ah 0] 77 (0,0))/\w.heap.size+2<=g.heap.size/\Kx w0 w m g m):=⟨(aR.o.2.fF _ _ _ _ ax.o.1 (by unfold jg;decide)).trans ax.o.1,(aR.o.2.fF _ _ _ _ ax.o.2.1 (by unfold jg;decide)).trans ax.o.2.1,aP ax.o.2.2.1 aR.o.2.size,(Kx.of ax.o.2.2.2).trans ⟨aR.o.2,fun _ dO=>aJ dO⟩⟩
   obtain⟨er,cT,cX,cZ⟩:=cd.o.wg.th;obtain⟨t,ht⟩:∃t,T[a]?=some t:=⟨_,aG ha⟩
   obtain⟨b6,x,cp,rfl,c3,c5,c6,c7,c8⟩:=cZ a t ht;have cu:av (T.getD ((a:Int)).toNat t0=t):=by show _=_;rw[Int.toNat_natCast,aC,ht];rfl
   have lo:∀{p:Addr}{v:Value},w0.cell? p=some v->g.cell? p=some v:=fun {p v} e=>((aR.o.1.dt).cell (p:=p) (aK w0 _ e)).trans e;have u0:=lo c3;have b7:=lo c5;have b8:=lo c6;have ch:=lo c7;have ci:=lo cX;have dP:=lo cd.o.bx;have dR:g.cell? (am w.heap.size 1)=some (ah (a:Int)):=by simp[World.cell?,ad.o.1]
   have c9:av (cY w0 x t.2.1):=c8;have dS:av (w0.cell? (am bb 0)=some (aj rp)):=cd.o.bx;have a0:(0:Int)<=(a:Int):=V;have a1:(a:Int)<(T.length:Int):=V;have cw:av (fI T (a:Int)=t.1/\fJ T wt (a:Int)=t.2.1.map dI++if t.1=5 then(wt.filter (fun e=>e.1==(a:Int))).map (fun e=>ew 3 e.2) else[]):=⟨by unfold fI;rw[cu.o],by unfold fJ;rw[cu.o]⟩
   have cx:av ((∀v∈t.2.1,eV T v)/\t.2.1.length<=12):=by
    have n:=bi.o.fv a cG;have I:=bi.o.tl a;have e:T.getD a t0=t:=by have:=cu.o;rwa [Int.toNat_natCast] at this
    rw[e] at n I;exact⟨n,I⟩
   clear cZ c8 lo c3 c5 c6 c7 cX;obtain⟨kd,d,bl,bn⟩:=t;dsimp only at u0 b7 b8 ch c9 cw cx
   go_region_held3 (fun w'=>w'.cell? (am bb 0)=some (aj rp)/\w'.cell? (am rp 0)=some (.slice (ak b6) T.length cT)/\w'.cell? (am w.heap.size 1)=some (ah (a:Int))/\w'.cell? (am b6 (a*4))=some (ah kd)/\w'.cell? (am b6 (a*4+1))=some (.slice x d.length cp)/\w'.cell? (am b6 (a*4+2))=some (.bool bl)/\w'.cell? (am b6 (a*4+3))=some (.bool bn)) (go_keep) (fail)
   have bo:av (Below g.heap.size g (g.alloc (.cells #[.int .i64 kd,.slice x d.length cp,.bool bl,.bool bn] 99)).drew):=((aD _ g).alloc bW _).drew;have cj:av ((g.alloc (.cells #[.int .i64 kd,.slice x d.length cp,.bool bl,.bool bn] 99)).drew.heap[g.heap.size]?=some (.cells #[ah kd,.slice x d.length cp,.bool bl,.bool bn] 99 (0,0))):=aL g _;generalize (g.alloc (.cells #[.int .i64 kd,.slice x d.length cp,.bool bl,.bool bn] 99)).drew=L at*;have N:=aR.o.1.below bo.o;have aT:=jp ((bo.o.block _ (lt_of_some ad.o.1)).trans ad.o.1) ((bo.o.block _ (lt_of_some ad.o.2.1)).trans ad.o.2.1) (aP ad.o.2.2.1 bo.o.size) (ad.o.2.2.2.trans (Kx.of bo.o))
   obtain⟨cy,cN,dT⟩:=dQ N.nr;subst dT;have v0:=N.cells.2.1;have k0:L.cell? (am g.heap.size 0)=some (ah kd):=ay cj.o
   have dU:=N.cells.2.2.2.2.2.2.2.1 1;have es:m.length<=10000:=by have n:=N.len;have n:m.length=q.length:=n;have I:q.length=ms.length:=co;omega
   obtain⟨dV,da,db,dc,dd⟩:=info_parts xf;have J:av (Below L.heap.size L (L.alloc (.cells #[.int .i64 kd,.slice none 0 0] 87))):=an L _;have aB:av (∀x,(ak L.heap.size:Option Addr)=some x->∀k u,(nv [(kd,none,0,[])])[k]?=some u->_=_):=EJ _;have K:=cv N.nr (fun k e=>J.o.block k (ce N.nr k e).2)
   have aF:av (_):=N.dt.size;have de:av (_):=N;have dX:_:=lt_of_some N.vc;clear u0 b7 b8 ch ci dP dR N
   go_upto_region 12 with(at_builtin;refine je _ rfl _ _ 58 rfl w0.heap.size 87 dV (.agg #[ah 0,.slice none 0 0]) 2 32 underlying58 da db dc dd rfl aa (.slice cy m.length cN) m.length (nv m) rfl K (ak L.heap.size) 1 1 (nv [(kd,none,0,[])]) rfl rfl (fun e=>by cases e) aB.o (fun u ab=>by simp[nv] at ab;rcases ab with ab|ab<;>(subst ab;rfl)) (by unfold maxLen;omega) V (by have:=aF.o;simp;omega) ?_;intro ag ai al df dg _;have b9:av (eh w0 (al.setCell ⟨vb,1,none⟩ (.slice ag (m.length+1) ai)) mb bb vb fb (ms++[(a:Int)],q++[(kd,[])]) (.slice C (ms.length+1) D) (.slice ag (m.length+1) ai) vr (m++[(kd,none,0,[])])/\eZ w0.heap.size L (al.setCell ⟨vb,1,none⟩ (.slice ag (m.length+1) ai))/\al.heap[vb]?=some (.cells #[vr,.slice cy m.length cN] 60 (0,0))):=(EL de.o kd J.o dg df);have s0:al.cell? (am vb 1)=some (.slice cy m.length cN):=ay b9.o.2.2;have s1:al.frozen? (am vb 1)=false:=(by simp[World.frozen?,b9.o.2.2]))
   have aV:av (eh w0 (al.setCell ⟨vb,1,none⟩ (.slice ag (m.length+1) ai)) mb bb vb fb (ms++[(a:Int)],q++[(kd,[])]) (.slice C (ms.length+1) D) (.slice ag (m.length+1) ai) vr (m++[(kd,none,0,[])])/\eZ w0.heap.size L (al.setCell ⟨vb,1,none⟩ (.slice ag (m.length+1) ai))):=⟨b9.o.1,b9.o.2.1⟩
   clear b9 s0 s1 df dg K aB J aF dX dU k0 v0;generalize al.setCell ⟨vb,1,none⟩ (.slice ag (m.length+1) ai)=w3 at*;have ck:av (Own w3 w.heap.size (w.heap.size+1) g.heap.size (a:Int) kd (.slice x d.length cp) bl bn):=⟨(aV.o.2.fF _ _ _ _ aT.o.1 (by unfold jg;decide)).trans aT.o.1,(aV.o.2.fF _ _ _ _ aT.o.2.1 (by unfold jg;decide)).trans aT.o.2.1,(aV.o.2.fF _ _ _ _ cj.o (by unfold jg;decide)).trans cj.o⟩
   have dh:av (Kx w0 w m w3 (m++[(kd,none,0,[])])/\w.heap.size+2<=w3.heap.size):=⟨aT.o.2.2.2.trans ⟨aV.o.2,fun k hk=>by
    obtain⟨y,hy,a2,o,e⟩:=hk;rcases List.mem_append.1 hy with hy|hy
    ·exact aJ ⟨y,hy,a2,o,e⟩
    ·rw[List.mem_singleton.1 hy] at a2;simp at a2⟩,aP aT.o.2.2.1 aV.o.2.size⟩
   have dY:av (eh w0 w3 mb bb vb fb (ms++[(a:Int)],q++[(kd,[])]) (.slice C (ms.length+1) D) (.slice ag (m.length+1) ai) vr (m++[(kd,none,0,[])])):=aV.o.1;rw[cw.o.1] at cr cq;rw[cw.o.2] at cq;have cz:T.length<=(ms++[(a:Int)]).length+n':=by simp;omega
   have X:av (∀l,gX (tI T.length) (fI T) (fJ T wt) (ms++[(a:Int)],q++[(kd,[])]) (c_ M (tI T.length) (ms++[(a:Int)],q++[(kd,[])]) l).2 (c_ M (tI T.length) (ms++[(a:Int)],q++[(kd,[])]) l).1):=fun l=>m8 cI.o cr.o (by rw[jU];exact cz) l;have di:av (T.length<=(ms++[(a:Int)]).length+n'):=cz;have dZ:av (q.length=ms.length/\q.length<=10000):=⟨co,V⟩
   obtain⟨d0,d1,d2,d3,d4⟩:=info_parts mA;have et:=cx.o.2;have dj:av (¬fA (m++[(kd,none,0,[])]) (w.heap.size+1)/\w0.heap.size<=w.heap.size+1):=⟨fun hk=>by
    obtain⟨y,hy,a2,o,e⟩:=hk;rcases List.mem_append.1 hy with hy|hy
    ·have:=bx.o.tf (w.heap.size+1) ⟨y,hy,a2,o,e⟩
     omega
    ·rw[List.mem_singleton.1 hy] at a2;simp at a2,Nat.le_succ_of_le bx.o.dt.size⟩
   clear aR aV ax ad aT cj bo de cP bx da db dc dd cQ cR cS cU dC cz co;generalize cl:((ms++[(a:Int)],q++[(kd,[])]):cL)=G at*;generalize eu:(m++[((kd,none,0,[]):dm)])=m1 at*;generalize g.heap.size=tb at*;go_wp2_with fail
   go_loopw [10,11] (fun d5 iv wr=>∃(j:Nat)(f:List (Int×Int)×cL)(O:Option Addr)(Q:Nat)(be bg:Value)(U:List dm),j<=d.length/\d5=.slice O f.1.length Q/\iv=ah j/\av (f=c_ M (tI T.length) G ((d.take j).map dI))/\av (dJ w0 w3 wr mb bb vb fb vr m1 f O Q be bg U)) (fun _ iv _=>d.length-(intOf iv).toNat)
   case atStart=>exact⟨0,([],G),none,0,_,_,m1,aS _,rfl,rfl,by show _=_;rw[List.take_zero];rfl,dJ.start (P:=([],G)) dY.o rfl⟩
   case round=>
    obtain⟨j,f,O,Q,be,bg,U,dG,rfl,rfl,bp,br⟩:=hrel;have dk:=ck.o.kx br.o.kx;have dl:wr.cell? (am tb 1)=some (.slice x d.length cp):=ay dk.t
    have q0:(0:Int)<=(j:Int):=V;clear dk;by_cases hlt:j<d.length
    ·have q1:(j:Int)<(d.length:Int):=V;obtain⟨g8,iP,rfl,ti,hfc⟩:=c9.o V;have dn:d.getD j (0,0)∈d:=getD_in hlt;have cA:=cx.o.1 _ dn;obtain⟨A,B,hen⟩:∃A B,d.getD j (0,0)=(A,B):=⟨_,_,rfl⟩
     have cB:av (∀w',Below w0.heap.size w0 w'->w'.cell? (am g8 (iP+j*2))=some (ah A)/\w'.cell? (am g8 (iP+j*2+1))=some (ah B)):=fun w' hb=>by exact x9
     have dp:av ((d.take (j+1)).map dI=(d.take j).map dI++[dI (A,B)]):=by show _=_;rw[fz d j hlt (0,0),bA,hen];rfl
     rw[hen] at cA;have Y:=X.o ((d.take j).map dI)
     rw[<-bp.o] at Y;have cm:av (∀W:au,dJ w0 w3 W mb bb vb fb vr m1 f O Q be bg U->Calls prog 49 (jV A B mb bb vb fb) W fun e w'=>∃R S E,e=.returned (.agg #[ah (dr M (tI T.length) f.2 (dI (A,B))).1.1,ah (dr M (tI T.length) f.2 (dI (A,B))).1.2])/\dJ w0 w3 w' mb bb vb fb vr m1 (f.1,(dr M (tI T.length) f.2 (dI (A,B))).2) O Q R S E/\Kx w0 W U w' E):=fun W dq=>by
      refine(cJ.o W f.2 be bg vr U (A,B) dq.wv Y.ok cA (by
       have n:=Y.le;have I:=di.o;have cn:G.1.length=(ms++[(a:Int)]).length:=by rw[<-cl]
       omega)).mono ?_
      rintro e b ⟨R,S,E,rfl,d6,ca⟩
      exact⟨R,S,E,rfl,dq.call d6 ca,ca⟩
     have ds:av ((f.1++[(dr M (tI T.length) f.2 (dI (A,B))).1],(dr M (tI T.length) f.2 (dI (A,B))).2)=c_ M (tI T.length) G ((d.take (j+1)).map dI)):=by show _=_;rw[dp.o,og,<-bp.o]
     have ex:f.1.length<=100000:=by rw[bp.o,kh,aQ,bf];omega
     have b7:=br.o.wv.cells.2.2.1;obtain⟨b8,ch⟩:=cB.o wr br.o.wv.dt;have ci:=dl;generalize dr M (tI T.length) f.2 (dI (A,B))=d7 at*;obtain⟨⟨v1,v2⟩,cc⟩:=d7;dsimp only at cm ds;have bs:=br.o;have n1:wr.heap.size≠fb:=by have:fb<wr.heap.size:=aK wr _ b7;omega
     have d8:wr.heap.size≠g8:=by have:g8<wr.heap.size:=aK wr _ b8;omega
     have d9:wr.heap.size≠tb:=by have:tb<wr.heap.size:=aK wr _ ci;omega
     have n4:True:=trivial;clear dp bp hfc dn Y cA br hen dl;go_wp2_with fail;generalize ea:wr=W at*;clear ea;have cC:=cm.o W.drew (bs.below (aD _ W).drew)
     have cD:=cm.o (W.alloc (.cells #[.int .i64 0,.int .i64 0] 77)).drew (bs.below ((aD _ W).alloc bW _).drew)
     have bs:av (_):=bs;clear cm
     go_region_held3 (fun w'=>w'.cell? (am fb 0)=some (kD mb bb vb fb)/\w'.cell? (am tb 1)=some (.slice (some ⟨g8,iP,none⟩) d.length cp)/\w'.cell? (am g8 (iP+j*2))=some (ah A)/\w'.cell? (am g8 (iP+j*2+1))=some (ah B)) (go_keep) (first|(go_at_call 49;refine cC.mono ?_;clear cC cD;rintro e b ⟨R,S,E,rfl,H,_⟩;have dt:av (dJ w0 w3 b mb bb vb fb vr m1 (f.1,cc) O Q R S E):=H;obtain⟨b1,b2⟩:=cB.o b H.wv.dt;have b4:=H.wv.cells.2.2.1;have b5:b.cell? (am tb 1)=some (.slice (some ⟨g8,iP,none⟩) d.length cp):=(by simp[World.cell?,(ck.o.kx H.kx).t]);clear H)|(go_at_call 49;refine cD.mono ?_;clear cC cD;rintro e b ⟨R,S,E,rfl,H,ca⟩;have a3:=bs.o.late H (show Kx w0 (W.alloc (.cells #[.int .i64 0,.int .i64 0] 77)) U b E from(Kx.of bX.drew).trans ca) v1 v2;have du:av (dJ w0 w3 ((b.setCell ⟨W.heap.size,0,none⟩ (.int .i64 v1)).setCell ⟨W.heap.size,1,none⟩ (.int .i64 v2)) mb bb vb fb vr m1 (f.1,cc) O Q R S E/\b.heap[W.heap.size]?=some (.cells #[ah 0,ah 0] 77 (0,0))):=⟨a3.2,a3.1⟩;have c0:b.cell? (am W.heap.size 0)=some (ah 0):=ay a3.1;have c1:b.cell? (am W.heap.size 1)=some (ah 0):=ay a3.1;have c2:b.frozen? (am W.heap.size 0)=false:=az a3.1;have c4:b.frozen? (am W.heap.size 1)=false:=az a3.1;obtain⟨b1,b2⟩:=cB.o b H.wv.dt;have b4:=H.wv.cells.2.2.1;have b5:b.cell? (am tb 1)=some (.slice (some ⟨g8,iP,none⟩) d.length cp):=(by simp[World.cell?,(ck.o.kx H.kx).t]);clear H a3 ca))
     all_goals
      first
      |(
       have bd:av (dJ w0 w3 (b.alloc (.cells #[.int .i64 v1,.int .i64 v2] 77)) mb bb vb fb vr m1 (f.1,cc) O Q R S E/\(b.alloc (.cells #[.int .i64 v1,.int .i64 v2] 77)).cell? (am b.heap.size 0)=some (ah v1)/\(b.alloc (.cells #[.int .i64 v1,.int .i64 v2] 77)).cell? (am b.heap.size 1)=some (ah v2)):=⟨dt.o.below ((aD _ b).alloc bW _),by have cE:=aL b (.cells #[.int .i64 v1,.int .i64 v2] 77);unfold World.cell?;dsimp only;rw[cE];rfl,by have cE:=aL b (.cells #[.int .i64 v1,.int .i64 v2] 77);unfold World.cell?;dsimp only;rw[cE];rfl⟩
       clear dt b1 b2 b4 b5;generalize b.alloc (.cells #[.int .i64 v1,.int .i64 v2] 77)=ap at*;generalize b.heap.size=eb at*)
      |(
       have bd:av (dJ w0 w3 ((b.setCell ⟨W.heap.size,0,none⟩ (.int .i64 v1)).setCell ⟨W.heap.size,1,none⟩ (.int .i64 v2)) mb bb vb fb vr m1 (f.1,cc) O Q R S E/\((b.setCell ⟨W.heap.size,0,none⟩ (.int .i64 v1)).setCell ⟨W.heap.size,1,none⟩ (.int .i64 v2)).cell? (am W.heap.size 0)=some (ah v1)/\((b.setCell ⟨W.heap.size,0,none⟩ (.int .i64 v1)).setCell ⟨W.heap.size,1,none⟩ (.int .i64 v2)).cell? (am W.heap.size 1)=some (ah v2)):=⟨du.o.1,by rw[a5 _ _ _ _ Z];exact a9 _ _ _ (u:=ah 0) c0,a9 _ _ _ (u:=ah 0) ((a5 _ _ _ _ Z).trans c1)⟩
       clear du b1 b2 b4 b5 c0 c1 c2 c4;generalize (b.setCell ⟨W.heap.size,0,none⟩ (.int .i64 v1)).setCell ⟨W.heap.size,1,none⟩ (.int .i64 v2)=ap at*;clear b7 b8 ch ci n1 d8 d9 n4 bs;generalize W.heap.size=eb at*)
     all_goals
      have k1:=bd.o.2.1;have ey:=bd.o.2.2;have J:av (Below ap.heap.size ap (ap.alloc (.cells #[.int .i64 v1,.int .i64 v2] 77))):=an ap _;have aB:av (∀a,(ak ap.heap.size:Option Addr)=some a->∀k u,(ev [(v1,v2)])[k]?=some u->_=_):=tk v1 v2;have K:=cv bd.o.1.row (fun k e=>J.o.block k (ce bd.o.1.row k e).2)
      dsimp only at K;have aF:av (_):=bd.o.1.kx.1.size
      go_upto_region 15 with(at_builtin;refine je _ rfl _ _ 57 rfl w3.heap.size 77 d0 (.agg #[ah 0,ah 0]) 2 16 underlying57 d1 d2 d3 d4 rfl aa (.slice O f.1.length Q) f.1.length (ev f.1) rfl K (ak ap.heap.size) 1 1 (ev [(v1,v2)]) rfl rfl (fun e=>by cases e) aB.o (iX _) (by unfold maxLen;omega) V (by have:=aF.o;simp;omega) ?_;intro C D ez dv dw dx;have ec:av (_):=(bd.o.1.push J.o dw dv dx))
      clear dv dw dx K;go_wp2_with fail;go_roundw
      case rel=>exact⟨j+1,(f.1++[(v1,v2)],cc),C,D,R,S,E,V,Z,af,ds,ec⟩
      case measure=>simp[intOf];omega
    ·obtain rfl:j=d.length:=V;have ed:av (f=c_ M (tI T.length) G (d.map dI)):=by have n:=bp.o;rw[a_] at n;exact n
     have ee:av (∀bt:List (Int×Int)×cL,bt=c_ M (tI T.length) G (d.map dI++if kd=5 then(wt.filter (fun e=>e.1==(a:Int))).map (fun e=>ew 3 e.2) else[])->bt.2.2[ms.length]?=some (kd,[])/\bt.2.2.length<=100000/\bt.1.length<=100000):=fun bt cF=>by
      have Y:=X.o (d.map dI++if kd=5 then(wt.filter (fun e=>e.1==(a:Int))).map (fun e=>ew 3 e.2) else[])
      have dy:=kh M (tI T.length) G (d.map dI++if kd=5 then(wt.filter (fun e=>e.1==(a:Int))).map (fun e=>ew 3 e.2) else[])
      rw[<-cF] at Y dy;refine⟨?_,?_,?_⟩
      ·rw[Y.old ms.length (by rw[<-cl];simp),<-cl];show(q++[(kd,[])])[ms.length]?=_;rw[<-dZ.o.1,List.getElem?_append_right bW];simp
      ·have n:=Y.ok.le;rw[jU] at n;rw[Y.ok.len];have:=bi.o.l1;omega
      ·rw[dy,aW,aQ];have I:=bi.o.l2;split
       ·rw[aQ];have cn:=bk (fun e:bZ=>e.1==(a:Int)) wt;omega
       ·simp;omega
     have ef:av (∀k,k<=wt.length->(c_ M (tI T.length) G (d.map dI++((wt.take k).filter (fun e=>e.1==(a:Int))).map (fun e=>ew 3 e.2))).1.length<=100000):=fun k hk=>by
      rw[kh,aW,aQ,aQ];have I:=bi.o.l2;have cn:=bk (fun e:bZ=>e.1==(a:Int)) (wt.take k)
      rw[bf] at cn;omega
     have eg:T.length<=G.1.length+n':=by
      have I:=di.o;have cn:G.1.length=(ms++[(a:Int)]).length:=by rw[<-cl]
      omega
     clear bp
     iterate 20 go_step
     iterate 8 go_step
     refine EH (wb:=w) (mB:=m) (k0:=kd) (v0:=[]) br.o ed.o cI.o cJ.o cr.o eg ck.o bi.o dS.o cd.o.wg.wa ee.o ef.o (by have:=dh.o.2;omega) dj.o.2 dj.o.1 V dh.o.1 ?_;intro eA w' ei ej ek bt cF dz hd c0 c1 el em;simp only [Array.getD_eq_getD_getElem?] at dz;refine bv (v:=.agg #[ah 3,ah ms.length]) (by simp[results,results49,dz,go_sem,c0,c1]) hd ⟨ei,ej,ek,rfl,?_,em⟩
     rw[cq.o,<-cF];exact el
end
end eR
namespace eR
open Go.RowKit W Kp cg
theorem EN {w0:au}{mb f g fb rp:Nat}{T:List cG}{wt:List bZ}(k:Rd w0 f rp T wt)(hw:nK T wt):∀n,qq w0 mb f g fb T (met (tI T.length) (fI T) (fJ T wt) n) n:=by
 intro n
 induction n with
 |zero=>
  intro w s l o vr m v h hO d j;have hl:s.1.length<=100000:=by have i:=hO.le;rw[jU] at i;have:=hw.l1;omega
  by_cases b:v.1=3
  ·cases hs:s.1.contains v.2
   ·exfalso;have i:=hO.lt (oU.2 (d.lt b)) (fun c=>by rw[List.contains_iff_mem.2 c] at hs;cases hs)
    rw[jU] at i;omega
   ·rw[xQ d b hs];have e:jV v.1 v.2 mb f g fb=jV 3 v.2 mb f g fb:=by rw[b]
    rw[e];refine(x7 h v.2 hl hs).mono ?_;exact qp
  ·rw[xP d b];refine(x6 w v.1 v.2 b).mono ?_;exact qp
 |succ n p=>
  intro w s l o vr m v h hO d j;have hl:s.1.length<=100000:=by have i:=hO.le;rw[jU] at i;have:=hw.l1;omega
  by_cases b:v.1=3
  ·have e:jV v.1 v.2 mb f g fb=jV 3 v.2 mb f g fb:=by rw[b]
   rw[e];cases hs:s.1.contains v.2
   ·rw[Er d b hs];obtain⟨g1,g2⟩:=d.2 b;obtain⟨a,ha⟩:=Int.eq_ofNat_of_zero_le g1;rw[ha] at hs g2⊢;rw[Int.toNat_natCast] at g2;exact EM h k hw hO a g2 hs p j
   ·rw[xQ d b hs];refine(x7 h v.2 hl hs).mono ?_;exact qp
  ·rw[xP d b];refine(x6 w v.1 v.2 b).mono ?_;exact qp
theorem EO {w0 w:au}{mb j b fb:Nat}{s:cL}{l n vr:Value}{m:List dm}(h:eh w0 w mb j b fb s l n vr m)(f:Value):eh w0 (w.setCell ⟨b,0,none⟩ f) mb j b fb s l n f m/\eZ w0.heap.size w (w.setCell ⟨b,0,none⟩ f):=by
 have o:Fr (fun k=>k=b) w (w.setCell ⟨b,0,none⟩ f):=(Fr.refl (fun k=>k=b) w).set b _ _ rfl;have hk:∀k d e g,w.heap[k]?=some (Obj.cells d e g)->e≠60->_=_:=fun k d e g hk p=>o.block k (lt_of_some hk) (fun c=>by have c:=c;rw[c,h.vc] at hk;simp at hk;exact p hk.2.1.symm)
 have kw:=eZ.fr o (fun k c=>by
  have c:=c;refine⟨by rw[c];exact h.lo.2.1,fun d e g hc=>?_⟩
  rw[c,h.vc] at hc;simp at hc;exact aI (aJ hc.2.1.symm))
 refine⟨⟨h.dt.trans (kw.below h.dt.size),h.lo,(hk _ _ _ _ h.fc aa).trans h.fc,(hk _ _ _ _ h.mc aa).trans h.mc,?_,cv h.mr (fun k i=>by
  obtain⟨d,hc⟩:=dZ h.mr k i;exact hk k _ _ _ hc aa),cv h.nr (fun k i=>by
  obtain⟨d,hc⟩:=dZ h.nr k i;exact hk k _ _ _ hc aa),h.nd,fun x q=>(h.fl x q).kw kw⟩,kw⟩
 simp only [World.setCell,Array.getElem?_modify,if_true,h.vc,Option.map_some];simp
theorem EP {w0 w3 wr:au}{mb g b fb:Nat}{vr i d:Value}{m1 j:List dm}{P:List _×cL}{l:Option Addr}{m:Nat}(h:dJ w0 w3 wr mb g b fb vr m1 P l m i d j)(f:Value):dJ w0 w3 (wr.setCell ⟨b,0,none⟩ f) mb g b fb f m1 P l m i d j/\wr.heap[b]?=some (.cells #[vr,d] 60 (0,0)):=by
 have n:=EO h.wv f;refine⟨⟨h.hs,n.1,h.kx.trans ⟨n.2,fun _ o=>aJ o⟩,cv h.row (fun k e=>aN _ _ _ _ (fun c=>?_)),h.no⟩,h.wv.vc⟩
 obtain⟨p,hc⟩:=dZ h.row k e;have c:k=b:=by first|exact c|exact c.symm
 rw[c,h.wv.vc] at hc;simp at hc
section
variable {w:au}{rp:Nat}{T:List cG}{wt:List bZ}{l:List (Int×Int)}{ra:Option Addr}{rc:Nat}
theorem EQ (hg:Wg w rp T wt):∃w0 w3:au,w0=((w.alloc (.cells #[.pointer (some ⟨rp,0,none⟩)] 40)).alloc (.cells #[.slice none 0 0,.slice none 0 0] 60))/\w3=(((w0.alloc (.cells #[.slice none 0 0,.slice none 0 0] 60)).alloc (.cells #[.slice none 0 0] 96)).alloc (.cells #[(kD (w.heap.size+1+1+1) w.heap.size (w.heap.size+1+1) (w.heap.size+1+1+1+1))] 111))/\
 (Rd w0 w.heap.size rp T wt/\w0.heap.size=w.heap.size+1+1/\w0.heap[w.heap.size+1]?=some (.cells #[.slice none 0 0,.slice none 0 0] 60 (0,0))/\Below w.heap.size w w0/\
 dJ w0 w3 w3 (w.heap.size+1+1+1) w.heap.size (w.heap.size+1+1) (w.heap.size+1+1+1+1) (.slice none 0 0) [] ([],([],[])) none 0 (.slice none 0 0) (.slice none 0 0) []):=by
 obtain⟨w1,b⟩:∃w1,w1=(w.alloc (.cells #[.pointer (some ⟨rp,0,none⟩)] 40)):=⟨_,rfl⟩
 obtain⟨w0,c⟩:∃w0,w0=w1.alloc (.cells #[.slice none 0 0,.slice none 0 0] 60):=⟨_,rfl⟩
 obtain⟨wa,ea⟩:∃wa,wa=w0.alloc (.cells #[.slice none 0 0,.slice none 0 0] 60):=⟨_,rfl⟩
 obtain⟨wb,d⟩:∃wb,wb=wa.alloc (.cells #[.slice none 0 0] 96):=⟨_,rfl⟩
 obtain⟨wc,e⟩:∃wc,wc=wb.alloc (.cells #[(kD (w.heap.size+1+1+1) w.heap.size (w.heap.size+1+1) (w.heap.size+1+1+1+1))] 111):=⟨_,rfl⟩
 have s1:w1.heap.size=w.heap.size+1:=by rw[b];simp
 have s0:w0.heap.size=w.heap.size+1+1:=by rw[c];simp[s1]
 have i:wa.heap.size=w.heap.size+1+1+1:=by rw[ea];simp[s0]
 have l:wb.heap.size=w.heap.size+1+1+1+1:=by rw[d];simp[i]
 have n1:w1.heap[w.heap.size]?=some (.cells #[aj rp] 40 (0,0)):=by rw[b];exact aL w _
 have n0:w0.heap[w1.heap.size]?=some (.cells #[.slice none 0 0,.slice none 0 0] 60 (0,0)):=by rw[c];exact aL w1 _
 have m:wa.heap[w0.heap.size]?=some (.cells #[.slice none 0 0,.slice none 0 0] 60 (0,0)):=by rw[ea];exact aL w0 _
 have nb:wb.heap[wa.heap.size]?=some (.cells #[.slice none 0 0] 96 (0,0)):=by rw[d];exact aL wa _
 have nc:wc.heap[wb.heap.size]?=some (.cells #[(kD (w.heap.size+1+1+1) w.heap.size (w.heap.size+1+1) (w.heap.size+1+1+1+1))] 111 (0,0)):=by rw[e];exact aL wb _
 have b1:Below w.heap.size w w1:=by rw[b];exact bX.alloc bW _
 have f:Below w1.heap.size w1 w0:=by rw[c];exact bX.alloc bW _
 have j:Below w0.heap.size w0 wa:=by rw[ea];exact bX.alloc bW _
 have k:Below wa.heap.size wa wb:=by rw[d];exact bX.alloc bW _
 have g:Below wb.heap.size wb wc:=by rw[e];exact bX.alloc bW _
 refine⟨w0,wc,by rw[c,b],by rw[e,d,ea],⟨hg.below (b1.trans (f.mono b1.size)),by simp[World.cell?,((f.block w.heap.size V).trans n1)]⟩,s0,by rw[<-s1];exact n0,b1.trans (f.mono b1.size),dJ.start ⟨((j.trans (k.mono j.size)).trans (g.mono V)),⟨V,V,V⟩,by rw[l] at nc;exact nc,?_,?_,a7 _ _ _ _,a7 _ _ _ _,rfl,Z⟩ rfl⟩
 ·rw[<-i];exact(g.block _ V).trans nb
 ·rw[<-s0];exact(g.block _ V).trans ((k.block _ V).trans m)
theorem ER (hg:Wg w rp T wt)(c1:w.cell? (am rp 1)=some (.slice ra l.length rc))(hl:cY w ra l)(hm:l.length<=100000)(hw:nK T wt)(bl:∀v∈l,eV T v):
 Calls prog 19 #[aj rp] w fun e w'=>∃bn ck J bo nc,e=.returned (.agg #[.slice bn l.length ck,.slice J bo nc])/\nh w' w.heap.size bn (e_ T wt l).1/\lz w' w.heap.size J (e_ T wt l).2.2/\bo=(e_ T wt l).2.2.length/\Below w.heap.size w w':=by
 obtain⟨w0,w3,ag,bp,C⟩:=EQ (w:=w) hg;have C:av (_):=C;have cl:av (cY w0 ra l):=hl.below C.o.2.2.2.1;have br:av (w0.cell? (am rp 1)=some (.slice ra l.length rc)):=(C.o.2.2.2.1.cell (p:=am rp 1) (aK w _ c1)).trans c1;have cm:av (qq w0 (w.heap.size+1+1+1) w.heap.size (w.heap.size+1+1) (w.heap.size+1+1+1+1) T (met (tI T.length) (fI T) (fJ T wt) T.length) T.length):=EN C.o.1 hw _;have cn:av (ki (tI T.length) (fI T) (fJ T wt) T.length (met (tI T.length) (fI T) (fJ T wt) T.length)):=jb _;have co:av (e_ T wt l=c_ (met (tI T.length) (fI T) (fJ T wt) T.length) (tI T.length) ([],[]) (l.map dI)):=rfl;have cp:av (_):=bl;have cU:av (_):=hw;generalize e_ T wt l=cq at*;generalize met (tI T.length) (fI T) (fJ T wt) T.length=M at*;have cr:av (∀l,_):=fun l=>m8 cn.o (eX.start _) (by rw[jU];simp) l;clear hg c1 hl bl hw;go_enter func19,ntmps19;go_wp2_with fail;rw[show(((w.alloc (.cells #[.pointer (some ⟨rp,0,none⟩)] 40))).alloc (.cells #[.slice none 0 0,.slice none 0 0] 60))=w0 from ag.symm,show(((w0.alloc (.cells #[.slice none 0 0,.slice none 0 0] 60)).alloc (.cells #[.slice none 0 0] 96)).alloc (.cells #[(kD (w.heap.size+1+1+1) w.heap.size (w.heap.size+1+1) (w.heap.size+1+1+1+1))] 111))=w3 from bp.symm];obtain⟨cs,ct,cu,cw,cx⟩:=info_parts mA;have aF:av (w.heap.size<w0.heap.size/\w.heap.size+1<w0.heap.size):=by have:=C.o.2.1;exact⟨V,V⟩
 have X:av (w.heap.size<=w0.heap.size/\_):=⟨by have:=aF.o.1;omega,C.o.2.2.2.1⟩
 have cy:av (_=_):=C.o.1.bx;have cz:av (w0.heap[w.heap.size+1]?=some (.cells #[.slice none 0 0,.slice none 0 0] 60 (0,0))):=C.o.2.2.1;have cA:av (dJ w0 w3 w3 (w.heap.size+1+1+1) w.heap.size (w.heap.size+1+1) (w.heap.size+1+1+1+1) (.slice none 0 0) [] ([],([],[])) none 0 (.slice none 0 0) (.slice none 0 0) []):=C.o.2.2.2.2;have cV:w.heap.size+1≠w.heap.size+1+1:=V;clear C ag bp;generalize cW:w.heap.size+1+1+1=mb at*;generalize cX:mb+1=fb at*;generalize cZ:w.heap.size+1+1=n at*;generalize c3:w.heap.size+1=rb at*;generalize cB:w.heap.size=o at*
 go_loopw [6] (fun iv wr=>∃(j:Nat)(d:List (Int×Int)×cL)(g:Option Addr)(m:Nat)(ai al:Value)(A:List dm),j<=l.length/\iv=ah j/\av (d=c_ M (tI T.length) ([],[]) ((l.take j).map dI))/\av (dJ w0 w3 wr mb o n fb (.slice g d.1.length m) [] d g m ai al A)) (fun iv _=>l.length-(intOf iv).toNat)
 case atStart=>exact⟨0,([],([],[])),none,0,_,_,[],aS _,rfl,by show _=_;rw[List.take_zero];rfl,cA.o⟩
 case round=>
  obtain⟨j,d,g,m,ai,al,A,c5,rfl,K,q⟩:=hrel;have aR:av (∀w',Below w0.heap.size w0 w'->_/\w'.cell? (am rp 1)=some (.slice ra l.length rc)):=fun w' hb=>⟨(hb.cell (p:=am o 0) aF.o.1).trans cy.o,(hb.cell (p:=am rp 1) (aK w0 _ br.o)).trans br.o⟩
  obtain⟨bs,bt⟩:=aR.o wr q.o.wv.dt;have q0:(0:Int)<=(j:Int):=V;by_cases hlt:j<l.length
  ·have q1:(j:Int)<(l.length:Int):=V;obtain⟨g8,iP,rfl,ti,hfc⟩:=cl.o V;have bx:l.getD j (0,0)∈l:=getD_in hlt;have aT:=cp.o _ bx;obtain⟨s,t,hen⟩:∃s t,l.getD j (0,0)=(s,t):=⟨_,_,rfl⟩
   have aV:av (∀w',Below w0.heap.size w0 w'->w'.cell? (am g8 (iP+j*2))=some (ah s)/\w'.cell? (am g8 (iP+j*2+1))=some (ah t)):=fun w' hb=>by exact x9
   have bY:av ((l.take (j+1)).map dI=(l.take j).map dI++[dI (s,t)]):=by show _=_;rw[fz l j hlt (0,0),bA,hen];rfl
   rw[hen] at aT;have a0:=cr.o ((l.take j).map dI)
   rw[<-K.o] at a0;have ap:av (∀W:au,dJ w0 w3 W mb o n fb (.slice g d.1.length m) [] d g m ai al A->Calls prog 49 (jV s t mb o n fb) W fun e w'=>∃G D B,e=.returned (.agg #[ah (dr M (tI T.length) d.2 (dI (s,t))).1.1,ah (dr M (tI T.length) d.2 (dI (s,t))).1.2])/\dJ w0 w3 w' mb o n fb (.slice g d.1.length m) [] (d.1,(dr M (tI T.length) d.2 (dI (s,t))).2) g m G D B/\Kx w0 W A w' B):=fun W bZ=>by
    refine(cm.o W d.2 ai al (.slice g d.1.length m) A (s,t) bZ.wv a0.ok aT V).mono ?_;rintro e f ⟨G,D,B,rfl,cC,Y⟩
    exact⟨G,D,B,rfl,bZ.call cC Y,Y⟩
   have b0:av ((d.1++[(dr M (tI T.length) d.2 (dI (s,t))).1],(dr M (tI T.length) d.2 (dI (s,t))).2)=c_ M (tI T.length) ([],[]) ((l.take (j+1)).map dI)):=by show _=_;rw[bY.o,og,<-K.o]
   have cD:d.1.length<=100000:=by rw[K.o,kh,aQ,bf];omega
   have b3:=q.o.wv.cells.2.2.1;obtain⟨b7,cE⟩:=aV.o wr q.o.wv.dt;generalize dr M (tI T.length) d.2 (dI (s,t))=cF at*;obtain⟨⟨v1,v2⟩,Q⟩:=cF;dsimp only at ap b0;have R:=q.o;have n1:wr.heap.size≠fb:=by have:fb<wr.heap.size:=aK wr _ b3;omega
   have a1:wr.heap.size≠g8:=by have:g8<wr.heap.size:=aK wr _ b7;omega
   have cG:wr.heap.size≠o:=by have:o<wr.heap.size:=aK wr _ bs;omega
   have n4:wr.heap.size≠rp:=by have:rp<wr.heap.size:=aK wr _ bt;omega
   clear bY K hfc bx a0 aT q hen;go_wp2_with fail;generalize cH:wr=W at*;clear cH;have a2:=ap.o W.drew (R.below (aD _ W).drew)
   have a3:=ap.o (W.alloc (.cells #[.int .i64 0,.int .i64 0] 77)).drew (R.below ((aD _ W).alloc bW _).drew)
   have R:av (_):=R;clear ap
   go_region_held3 (fun w'=>w'.cell? (am fb 0)=some (kD mb o n fb)/\w'.cell? (am o 0)=some (aj rp)/\w'.cell? (am rp 1)=some (.slice (some ⟨g8,iP,none⟩) l.length rc)/\w'.cell? (am g8 (iP+j*2))=some (ah s)/\w'.cell? (am g8 (iP+j*2+1))=some (ah t)) (go_keep) (first|(go_at_call 49;refine a2.mono ?_;clear a2 a3;rintro e f ⟨G,D,B,rfl,E,_⟩;have b8:av (_):=E;obtain⟨b1,b2⟩:=aV.o f E.wv.dt;have b4:=E.wv.cells.2.2.1;obtain⟨b5,b6⟩:=aR.o f E.wv.dt;clear E)|(go_at_call 49;refine a3.mono ?_;clear a2 a3;rintro e f ⟨G,D,B,rfl,E,Y⟩;have N:=R.o.late E (show Kx w0 (W.alloc (.cells #[.int .i64 0,.int .i64 0] 77)) A f B from(Kx.of bX.drew).trans Y) v1 v2;have b9:av (dJ w0 w3 ((f.setCell ⟨W.heap.size,0,none⟩ (.int .i64 v1)).setCell ⟨W.heap.size,1,none⟩ (.int .i64 v2)) mb o n fb (.slice g d.1.length m) [] (d.1,Q) g m G D B/\f.heap[W.heap.size]?=some (.cells #[ah 0,ah 0] 77 (0,0))):=⟨N.2,N.1⟩;have c0:f.cell? (am W.heap.size 0)=some (ah 0):=ay N.1;have c1:f.cell? (am W.heap.size 1)=some (ah 0):=ay N.1;have c2:f.frozen? (am W.heap.size 0)=false:=az N.1;have c4:f.frozen? (am W.heap.size 1)=false:=az N.1;obtain⟨b1,b2⟩:=aV.o f E.wv.dt;have b4:=E.wv.cells.2.2.1;obtain⟨b5,b6⟩:=aR.o f E.wv.dt;clear E N Y))
   all_goals
    first
    |(
     have I:av (dJ w0 w3 (f.alloc (.cells #[.int .i64 v1,.int .i64 v2] 77)) mb o n fb (.slice g d.1.length m) [] (d.1,Q) g m G D B/\(f.alloc (.cells #[.int .i64 v1,.int .i64 v2] 77)).cell? (am f.heap.size 0)=some (ah v1)/\(f.alloc (.cells #[.int .i64 v1,.int .i64 v2] 77)).cell? (am f.heap.size 1)=some (ah v2)):=⟨b8.o.below ((aD _ f).alloc bW _),by have bb:=aL f (.cells #[.int .i64 v1,.int .i64 v2] 77);unfold World.cell?;dsimp only;rw[bb];rfl,by have bb:=aL f (.cells #[.int .i64 v1,.int .i64 v2] 77);unfold World.cell?;dsimp only;rw[bb];rfl⟩
     clear b8 b1 b2 b4 b5 b6;generalize f.alloc (.cells #[.int .i64 v1,.int .i64 v2] 77)=F at*;generalize f.heap.size=cI at*)
    |(
     have I:av (dJ w0 w3 ((f.setCell ⟨W.heap.size,0,none⟩ (.int .i64 v1)).setCell ⟨W.heap.size,1,none⟩ (.int .i64 v2)) mb o n fb (.slice g d.1.length m) [] (d.1,Q) g m G D B/\((f.setCell ⟨W.heap.size,0,none⟩ (.int .i64 v1)).setCell ⟨W.heap.size,1,none⟩ (.int .i64 v2)).cell? (am W.heap.size 0)=some (ah v1)/\((f.setCell ⟨W.heap.size,0,none⟩ (.int .i64 v1)).setCell ⟨W.heap.size,1,none⟩ (.int .i64 v2)).cell? (am W.heap.size 1)=some (ah v2)):=⟨b9.o.1,by rw[a5 _ _ _ _ Z];exact a9 _ _ _ (u:=ah 0) c0,a9 _ _ _ (u:=ah 0) ((a5 _ _ _ _ Z).trans c1)⟩
     clear b9 b1 b2 b4 b5 b6 c0 c1 c2 c4;generalize (f.setCell ⟨W.heap.size,0,none⟩ (.int .i64 v1)).setCell ⟨W.heap.size,1,none⟩ (.int .i64 v2)=F at*;clear b3 b7 cE n1 a1 cG n4 bs bt R;generalize W.heap.size=cI at*)
   all_goals
    have k1:=I.o.2.1;have c6:=I.o.2.2;have cJ:=I.o.1.wv.cells.2.2.2.2.2.2.2.2;have c7:n<F.heap.size:=aK F _ cJ;have ca:av (Below F.heap.size F (F.alloc (.cells #[.int .i64 v1,.int .i64 v2] 77))):=an F _;have cK:av (∀a,(ak F.heap.size:Option Addr)=some a->∀k u,(ev [(v1,v2)])[k]?=some u->_=_):=tk v1 v2;have bd:=cv I.o.1.row (fun k e=>ca.o.block k (ce I.o.1.row k e).2)
    dsimp only at bd;have cM:av (w3.heap.size<=F.heap.size):=I.o.1.kx.1.size
    go_upto_region 7 with(at_builtin;refine je _ rfl _ _ 57 rfl w3.heap.size 77 cs (.agg #[ah 0,ah 0]) 2 16 underlying57 ct cu cw cx rfl aa (.slice g d.1.length m) d.1.length (ev d.1) rfl bd (ak F.heap.size) 1 1 (ev [(v1,v2)]) rfl rfl (fun e=>by cases e) cK.o (iX _) (by unfold maxLen;omega) V (by have:=cM.o;simp;omega) ?_;intro ar ax aB cb cc cd;have cN:av (_):=(I.o.1.push ca.o cc cb cd);have be:av (dJ w0 w3 (aB.setCell ⟨n,0,none⟩ (.slice ar (d.1.length+1) ax)) mb o n fb (.slice ar (d.1.length+1) ax) [] (d.1++[(v1,v2)],Q) ar ax G D B/\aB.heap[n]?=some (.cells #[.slice g d.1.length m,D] 60 (0,0))):=(EP cN.o _);have s0:aB.cell? (am n 0)=some (.slice g d.1.length m):=ay be.o.2;have s1:aB.frozen? (am n 0)=false:=(by simp[World.frozen?,be.o.2]))
    clear cb cc cd bd;go_wp2_with fail;go_roundw
    case rel=>exact⟨j+1,(d.1++[(v1,v2)],Q),ar,ax,G,D,B,V,af,b0,by rw[show(d.1++[(v1,v2)],Q).1.length=d.1.length+1 by simp];exact be.o.1⟩
    case measure=>simp[intOf];omega
  ·obtain rfl:j=l.length:=V;have cO:av (d=cq):=by have cf:=K.o;rw[a_] at cf;exact cf.trans co.o.symm
   have cD:d.1.length=l.length:=by rw[K.o,kh,aQ,bf];simp
   obtain⟨J,nc,cP⟩:=dQ q.o.wv.nr;subst cP;have c8:=q.o.wv.cells.2.1;have z0:=q.o.wv.cells.2.2.2.2.2.2.2.2;have S:=(q.o.wv.dt.block rb aF.o.2).trans cz.o;have y0:wr.cell? (am rb 0)=some (.slice none 0 0):=ay S
   have y1:wr.cell? (am rb 1)=some (.slice none 0 0):=ay S
   have c9:wr.frozen? (am rb 0)=false:=az S
   have da:wr.frozen? (am rb 1)=false:=az S
   have cg:av (_=_):=S;clear S K;go_wp2_with fail;obtain⟨O,hW0⟩:∃O,O=(wr.setCell ⟨rb,0,none⟩ (.slice g l.length m)).setCell ⟨rb,1,none⟩ (.slice J A.length nc):=⟨_,rfl⟩
   rw[<-hW0];have g0:O.cell? (am rb 0)=some (.slice g l.length m):=by exact kV
   have g1:O.cell? (am rb 1)=some (.slice J A.length nc):=by rw[hW0];exact a9 _ _ _ ((a5 wr ⟨rb,0,none⟩ ⟨rb,1,none⟩ _ Z).trans y1)
   have U:Fr (fun k=>k=rb) wr O:=by rw[hW0];exact((Fr.refl (fun k=>k=rb) wr).set rb 0 _ rfl).set rb 1 _ rfl
   clear hW0;have H:=q.o.wv;have bg:=q.o.row;have ch:w.heap.size<=w3.heap.size:=aP (by have:=X.o.1;omega) q.o.hs;have ci:∀{bi:Option Addr}{L:List (Int×Int)},f7 wr bi L->cY O bi L:=fun {bi L} h=>h.1.keep U.size (fun hp b e=>by
    obtain⟨cQ,db,dc,ag,hb⟩:=h.2 hp;rw[ag] at e;cases e;refine U.block _ (lt_of_some hb) (fun c=>?_)
    have c:cQ=rb:=c;rw[c,cg.o] at hb;simp at hb)
   have cR:Below w.heap.size w O:=by
    rw[cB];refine(X.o.2.trans (H.dt.mono X.o.1)).trans (U.below ?_ (fun k e=>?_))
    ·exact aP X.o.1 H.dt.size
    ·have e:k=rb:=e;omega
   rw[<-cO.o];refine bv (v:=.agg #[.slice g l.length m,.slice J A.length nc]) (by simp[results,results19,go_sem,g0,g1]) rfl ⟨g,m,J,A.length,nc,rfl,⟨ci (f7.of bg),fun hp=>?_⟩,⟨A,H.nd,fun x ab=>ci (H.fl x ab),fun k hk=>?_,fun hp=>?_⟩,H.len,cR⟩
   ·obtain⟨b,cS,e⟩:=dW bg hp;cases e;exact⟨b,0,rfl,aP ch (ce bg b rfl).1⟩
   ·rcases q.o.kx.2 k hk with⟨x,ab,_⟩|cT
    ·cases ab
    ·exact aP ch cT
   ·obtain⟨b,cS,e⟩:=dW H.nr hp;cases e;have dd:=(ce H.nr b rfl).1;obtain⟨de,ad⟩:=dZ H.nr b rfl;have cj:b≠rb:=fun c=>by rw[c,cg.o] at ad;simp at ad
    refine⟨b,0,rfl,by have:=X.o.1;omega,aM (lt_of_some ad) U.size,fun i x ab=>?_⟩
    obtain⟨n1,a1⟩:=ng A i x ab;rw[bF];exact⟨(aU (a:=⟨b,i*2,none⟩) (U.block b (lt_of_some ad) cj)).trans (e8 H.nr n1).1,(aU (a:=⟨b,i*2+1,none⟩) (U.block b (lt_of_some ad) cj)).trans (e8 H.nr a1).1⟩
end
end eR
open Go.RowKit W Kp cg
theorem x_ (a b:Option Addr)(g cb:Nat)(l:List (Int×Int))(w:au)(hm:l.length<=100000)(ha:cY w a l)(c:cY w b l):
 Calls prog 46 #[.slice a l.length g,.slice b l.length cb] w fun e w'=>e=.returned (.bool true)/\Below w.heap.size w w':=by
 have i:=hide ha;have k:=hide c;clear ha c;go_enter func46,ntmps46;go_wp2
 go_loopw [5] (fun iv wr=>∃j:Nat,j<=l.length/\iv=ah j/\Below w.heap.size w wr) (fun iv _=>l.length-(intOf iv).toNat)
 exact⟨0,aS _,rfl,aD _ _⟩
 ·
   obtain⟨j,t,rfl,c⟩:=hrel;by_cases d:j<l.length
   ·obtain⟨x,A,m,B,hc⟩:=(i.o.below c) V;obtain⟨n,o⟩:=hc j d;subst m;obtain⟨b2,C,p,D,f⟩:=(k.o.below c) V;obtain⟨q,s⟩:=f j d;subst p;clear hc f;generalize (l.getD j (0,0)).1=u at n q;generalize (l.getD j (0,0)).2=v at o s;go_wp2
    go_quiet (fail)
    go_wp2;go_roundw;exact⟨j+1,V,af,by first|exact below_drewN c _|exact c.drew|exact c⟩
    simp[intOf];omega
   ·obtain rfl:j=l.length:=V;go_wp2;go_ret;exact⟨rfl,c⟩
theorem Ln.at {w:au}{f:Option Addr}{c:List _}(h:Ln w f c){i:Nat}(hi:i<c.length):∃b o g fc,f=some ⟨b,o,none⟩/\b<w.heap.size/\w.cell? (am b (o+i*2))=some (ah (c.getD i (0,[])).1)/\w.cell? (am b (o+i*2+1))=some (.slice g (c.getD i (0,[])).2.length fc)/\cY w g (c.getD i (0,[])).2:=by
 obtain⟨m,j,k,l⟩:=h;have hl:m.length=c.length:=by rw[<-j];simp[iu]
 obtain⟨b,o,e,n,hc⟩:=l V;obtain⟨x,d⟩:∃x,m[i]?=some x:=⟨_,aG V⟩
 have en:c.getD i (0,[])=(x.1,x.2.2.2):=by subst j;rw[aC,iu,bq,d];rfl
 rw[en];exact⟨b,o,_,_,e,n,(hc i _ d).1,(hc i _ d).2,k _ (List.mem_of_getElem? d)⟩
theorem ES (r1 i n1 f:Option Addr)(c1 c2 k l:Nat)(c:List (Int×Int))(b:List (Int×List (Int×Int)))(w:au)(hm:c.length<=100000)(hl:b.length<=100000)(E:∀nd∈b,nd.2.length<=100000)(F:cY w r1 c)(G:cY w i c)(H:Ln w n1 b)(I:Ln w f b):
 Calls prog 17 #[.agg #[.slice r1 c.length c1,.slice n1 b.length k],.agg #[.slice i c.length c2,.slice f b.length l]] w fun e w'=>e=.returned (.bool true)/\Below w.heap.size w w':=by
 have o:=(an w (.cells #[.slice r1 c.length c1,.slice n1 b.length k] 60)).alloc Z (.cells #[.slice i c.length c2,.slice f b.length l] 60)
 have k0:((w.alloc (.cells #[.slice r1 c.length c1,.slice n1 b.length k] 60)).alloc (.cells #[.slice i c.length c2,.slice f b.length l] 60)).cell? (am w.heap.size 1)=some (.slice n1 b.length k):=by simp[go_sem]
 have k1:((w.alloc (.cells #[.slice r1 c.length c1,.slice n1 b.length k] 60)).alloc (.cells #[.slice i c.length c2,.slice f b.length l] 60)).cell? (am (w.heap.size+1) 1)=some (.slice f b.length l):=by simp[go_sem]
 have J:((w.alloc (.cells #[.slice r1 c.length c1,.slice n1 b.length k] 60)).alloc (.cells #[.slice i c.length c2,.slice f b.length l] 60)).heap.size=w.heap.size+2:=Z;have P:=x_ r1 i c1 c2 c _ hm (F.below o) (G.below o)
 have ad:av (∀w',Below w.heap.size w w'->Ln w' n1 b):=fun w' d=>H.below d;have ag:av (∀w',Below w.heap.size w w'->Ln w' f b):=fun w' d=>I.below d;have ai:av (∀nd∈b,nd.2.length<=100000):=E;clear F G H I E;go_enter func17,ntmps17;go_wp2_with fail;refine P.mono ?_;clear P;rintro e w1 ⟨rfl,m⟩
 have al:=o.trans (m.mono V)
 have ap:=m.size;rw[J] at ap;have K:=(m.cell (p:=am w.heap.size 1) (by show w.heap.size<_;omega)).trans k0;have L:=(m.cell (p:=am (w.heap.size+1) 1) (by show w.heap.size+1<_;omega)).trans k1;clear o k0 k1 J m;go_wp2_with fail
 go_loopw [5] (fun iv wr=>∃j:Nat,j<=b.length/\iv=ah j/\Below w1.heap.size w1 wr) (fun iv _=>b.length-(intOf iv).toNat)
 case atStart=>exact⟨0,aS _,rfl,aD _ _⟩
 case round=>
  obtain⟨j,aV,rfl,d⟩:=hrel;have ar:=d.size;have x:=al.trans (d.mono V)
  have A:=(d.cell (p:=am w.heap.size 1) (by show w.heap.size<_;omega)).trans K;have y1:=(d.cell (p:=am (w.heap.size+1) 1) (by show w.heap.size+1<_;omega)).trans L;have ax:w.heap.size<wr.heap.size:=V;have aB:w.heap.size+1<wr.heap.size:=V;by_cases q:j<b.length
  ·obtain⟨b1,o1,M,N,aF,l1,s,t,B⟩:=(ad.o wr x).at q;obtain⟨b2,n,O,Q,aR,l2,u,v,C⟩:=(ag.o wr x).at q;subst aF aR;have R:(b.getD j (0,[])).2.length<=100000:=ai.o _ (by rw[aC,aG q];exact a6 q)
   generalize (b.getD j (0,[])).1=kd at s u;generalize (b.getD j (0,[])).2=D at t B v C R;have j0:(0:Int)<=(j:Int):=V;have a0:(j:Int)<(b.length:Int):=V;have hd:=(ao wr).drew;have P:=x_ M O N Q D wr.drew R (B.below hd) (C.below hd)
   clear B C K L;go_wp2_with fail
   go_region_held3 (fun w'=>w'.cell? (am w.heap.size 1)=some (.slice (some ⟨b1,o1,none⟩) b.length k)/\w'.cell? (am (w.heap.size+1) 1)=some (.slice (some ⟨b2,n,none⟩) b.length l)/\w'.cell? (am b1 (o1+j*2))=some (ah kd)/\w'.cell? (am b1 (o1+j*2+1))=some (.slice M D.length N)/\w'.cell? (am b2 (n+j*2))=some (ah kd)/\w'.cell? (am b2 (n+j*2+1))=some (.slice O D.length Q)) (first|exact⟨A,y1,s,t,u,v⟩|exact⟨u0,S,U,W,X,Y⟩|go_keep)
    (first|(go_at_call 46;refine P.mono ?_;rintro e w3 ⟨rfl,ab⟩;have g:Below wr.heap.size wr w3:=hd.trans ab;have u0:=(g.cell (p:=am w.heap.size 1) ax).trans A;have S:=(g.cell (p:=am (w.heap.size+1) 1) aB).trans y1;have U:=(g.cell (p:=am b1 (o1+j*2)) l1).trans s;have W:=(g.cell (p:=am b1 (o1+j*2+1)) l1).trans t;have X:=(g.cell (p:=am b2 (n+j*2)) l2).trans u;have Y:=(g.cell (p:=am b2 (n+j*2+1)) l2).trans v))
   have aT:Below w1.heap.size w1 w3:=d.trans (g.mono ar)
   clear P u0 S U W X Y A y1 s t u v g ab hd;go_wp2_with fail;go_roundw
   case rel=>exact⟨j+1,V,af,aT⟩
   case measure=>simp[intOf];omega
  ·obtain rfl:j=b.length:=V;go_wp2_with fail;go_ret;exact⟨rfl,x⟩
open Go.RowKit W
theorem ET (c a:Int)(w:au):
 Calls prog 22 #[ah c,ah a] w fun e w'=>e=.returned (.agg #[ah c,ah a])/\Below w.heap.size w w':=by
 go_enter func22,ntmps22;go_wp2_with fail;exact bv (v:=.agg #[ah c,ah a]) (by simp[results,results22,go_sem]) rfl ⟨rfl,bX.alloc bW _⟩
end Go.Proofs.YtjpjpjemibgjpaaGreat
