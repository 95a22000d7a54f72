import Derived.Test.YtjpjpjemibgjpaaGreatJ12
import Derived.Test.YtjpjpjemibgjpaaGreatJ06
import Derived.Test.YtjpjpjemibgjpaaGreatJ02
import Derived.Test.YtjpjpjemibgjpaaGreatJ01
import Derived.Test.YtjpjpjemibgjpaaGreatJ00
import Derived.Test.YtjpjpjemibgjpaaGreatJ05
import Derived.Test.YtjpjpjemibgjpaaGreatJ07
import Derived.Test.YtjpjpjemibgjpaaGreatJ04
import Derived.Test.YtjpjpjemibgjpaaGreatJ03
namespace Go.Proofs.YtjpjpjemibgjpaaGreat
set_option maxRecDepth 100000
set_option maxHeartbeats 8000000
open Tryz
namespace kH
open Go.RowKit W Kp bY
theorem pn {b:Type}(p:b->Bool)(l:List b)(i:Nat)(h:i<l.length)(a:b):(l.take (i+1)).filter p=(l.take i).filter p++if p (l.getD i a)=true then[l.getD i a] else[]:=by
 rw[eY l i h a,List.filter_append]
 congr 1
 cases c:p (l.getD i a)
 ·rw[List.filter_cons_of_neg (by rw[c];simp)];simp
 ·rw[List.filter_cons_of_pos c];simp
theorem xM {a b:Type}(f:a->b)(l:List a)(i:Nat)(c:a)(e:b)(h:i<l.length):(l.map f).getD i e=f (l.getD i c):=by rw[aj,aX,aj,am h];rfl
theorem sy {w:World}(b c:Int):∀a,(ag w.heap.size:Option Addr)=some a->∀k u,(ev [(b,c)])[k]?=some u->(w.alloc (.cells #[.int .i64 b,.int .i64 c] 97)).cell? (a.add k)=some u:=fun a e k u hk=>by
 have d:=aw w (.cells #[ae b,ae c] 97)
 cases e;have f:k<2:=by have:=(List.getElem?_eq_some_iff.1 hk).1;simpa[ev] using this
 rcases(show k=0\/k=1 by omega) with rfl|rfl
 ·simp[ev] at hk;subst hk;show World.cell? _ ⟨w.heap.size,0,none⟩=_;unfold World.cell?;rw[d];rfl
 ·simp[ev] at hk;subst hk;show World.cell? _ ⟨w.heap.size,1,none⟩=_;unfold World.cell?;rw[d];rfl
theorem sA {wr wq a:World}{ra b:Option Addr}{rc c:Nat}{R:List bN}{e:bN}(d:Below wr.heap.size wr wq)(f:wq.ownsRow wr.heap.size 97 2 (.slice ra R.length rc) R.length (ev R))(fr:Fr (fun k=>some k=(Value.slice ra R.length rc).ownBlock) wq a)(g:a.ownsRow wr.heap.size 97 2 (.slice b (R.length+1) c) (R.length+1) (ev R++ev [e])):
 a.ownsRow wr.heap.size 97 2 (.slice b (R++[e]).length c) (R++[e]).length (ev (R++[e]))/\Below wr.heap.size wr a:=by
 have i:(R++[e]).length=R.length+1:=V;have j:ev (R++[e])=ev R++ev [e]:=by simp[ev]
 rw[i,j];exact⟨g,d.trans (fr.below d.size (fun k e=>(bR f k e).1))⟩
section
variable {rp rb:Nat}{bS bT:Int}{F:Nat->Prop}{s:b_}{w:World}
theorem xN {s1 s2 cg s4 s5 s6 ch cj ck cl cm co cp cq cr cs ct cu cw cx cy cz cA cB cC cD cE cF cG cH cI cJ cK cL cM cN cO cP cQ cR cS cT cU cV cW cX cY cZ c0 c1 c2 c3 c4 c5 c6 c7 c8 c9 da db dc dd de df dg dh di dj dk dl dm dn dp dq dr ds dt du dv dw dx dy dA dB dC dD dE dF dH dI dJ dK dL dM dN dO dQ dR dS dT dU dV dW dX dY dZ d0 d1 d2 d3 d4 d6 d7 d8 d9 ea eb ec ed ee ef eg eh ei ej ek el em en eo ep eq er es et eu ew ex ey ez eA eB eC eD eE eF eG eH eJ eK eL eM eN eP eQ eR eS eT eU eV eW eX eY eZ e0 e1 e2 e3 e4 e5 e6 e7 e8 e9 fa fb fc fd fe ff fg fh fi fj fk fl fm fn fo fq fr fs ft fu fv fw fx fy fz fA fB fC fD fE fF fG fH fI fJ fK fL fM fN fO fP fQ fS fU fV fW fX fY fZ f0 f1 f2 f3 f4 f5 f6 f7 f8 f9 ga gb gc gd ge gf gg gh gi gj gk gl gm gn go gp gq gr gs gt gu gv gw gx gy gz gA gB gC gD gE gF gG gH gI gJ gK gL gM gN gO gP gQ gR gS gT gU gV gW gX gY gZ g2 g3 g4 g5 g6 g7 g8 g9 hb hc hf hh hj hl hm hn ho hp hq hr hs ht hu hv hw hx hy hz hA hC:Value}{Q:Exit->Act->World->Prop}{p:Option Addr}{ci a2 bl N:Nat}{v0 v1 v2:Value}{B L M D:List Bool}{C:List bN}{n:World}(h:(cf rp rb bS bT).J F s w)(O:iJ s)(hk:eI w s a2 bl N v0 v1 v2 bS bT D n p ci L M C)(hD:D=s.rg.map (fun e=>!cn B e.2))(bW:fp s.T L)(bX:∀e∈C,e∈s.rg)(h4:C.length<=1000)
 (bY:∀(a:Act)(w':World)(q:Nat->Prop),a.tmps.getD 4 undef=ae 0->a.defers=[]->(cf rp rb bS bT).J q ⟨dz L s.T s.T.length,s.rs,s.rg.filter (fun e=>cn B e.2&&cn L e.1),(s.wt++C).filter (fun e=>cn L e.1)⟩ w'->bM F w q w'->Q .ret a w'):
 Code.wp prog ((find 33 (Tryz.f34.body.getD .skip)).getD .skip) Q ⟨#[af rp,s1,s2,cg,s4,s5,s6,.slice p s.T.length ci,.slice (ag a2) s.rg.length s.rg.length,ch,cj,af N,ck,cl,cm,co,cp,cq,cr,cs,ct,cu,cw,cx,cy,cz,cA,cB,cC,cD,cE,cF,cG,cH,cI,cJ,cK,cL,cM,cN,cO,cP,cQ,cR,cS,cT,cU,cV,cW,cX,cY,cZ,c0,c1,c2,c3,c4,c5,c6,c7,c8,c9,da,db,dc,dd,de,df,dg,dh,di,dj,dk,dl,dm,dn,dp,dq,dr,ds,dt,du,dv,dw,dx,dy,dA,dB,dC,dD,dE,dF,dH,dI,dJ,dK,dL,dM,dN,dO,dQ,dR,dS,dT,dU,dV,dW,dX,dY,dZ,d0,d1,d2,d3,d4,d6,d7,d8,d9,ea,eb,ec,ed,ee,ef,eg,eh,ei,ej,ek,el,em,en,eo,ep,eq,er,es,et,eu,ew,ex,ey,ez,eA,eB,eC,eD,eE,eF,eG,eH,eJ,eK,eL,eM,eN,eP,eQ,eR,eS,eT,eU,eV,eW,eX,eY,eZ,e0,e1,e2,e3,e4,e5,e6,e7,e8,e9,fa,fb,fc,fd,fe,ff,fg,fh,fi,fj,fk,fl,fm,fn,fo,fq,fr,fs,ft,fu,fv,fw,fx,fy,fz,fA,fB,fC,fD,fE,fF,fG,fH,fI,fJ,fK,fL,fM,fN,fO,fP,fQ,fS,fU,fV,fW,fX,fY,fZ,f0,f1,f2,f3,f4,f5,f6,f7,f8,f9,ga,gb,gc,gd,ge,gf,gg,gh,gi,gj,gk,gl,gm,gn,go,gp,gq,gr,gs,gt,gu,gv,gw,gx,gy,gz,gA,gB,gC,gD,gE,gF,gG,gH,gI,gJ,gK,gL,gM,gN,gO,gP,gQ,gR,gS,gT,gU,gV,gW,gX,gY,gZ,g2,g3,g4,g5,g6,g7,g8,g9,hb,hc,hf,hh,hj,hl,hm,hn,ho,hp,hq,hr,hs,ht,hu,hv,hw,hx,hy,hz,hA,hC],[]⟩ n:=by
 conv=>arg 2;whnf
 have hE:Hid (∀(a:Act)(w':World)(q:Nat->Prop),a.tmps.getD 4 undef=ae 0->a.defers=[]->(cf rp rb bS bT).J q ⟨dz L s.T s.T.length,s.rs,s.rg.filter (fun e=>cn B e.2&&cn L e.1),(s.wt++C).filter (fun e=>cn L e.1)⟩ w'->bM F w q w'->Q .ret a w'):=bY;have S:Hid ((cf rp rb bS bT).J F s w):=h;have t:Hid (iJ s):=O;have U:Hid (eI w s a2 bl N v0 v1 v2 bS bT D n p ci L M C):=hk;have bZ:Hid (D=s.rg.map (fun e=>!cn B e.2)):=hD;have bn:Hid (fp s.T L):=bW;have b0:Hid (∀e∈C,e∈s.rg):=bX;have hF:=O.tl;have h5:=O.gl;have h6:=O.wl;have b1:Hid (∀w',Below w.heap.size w w'->∃v2 a3,w'.cell? (ah rp 2)=some v2/\w'.cell? (ah rp 3)=some a3/\w'.ownsRow 0 97 2 v2 s.rg.length (ev s.rg)/\w'.ownsRow 0 97 2 a3 s.wt.length (ev s.wt)):=fun w' hG=>by
  obtain⟨v2,a3,q1,bo,q3,hH,_⟩:=nn ((cf rp rb bS bT).below h hG)
  exact⟨v2,a3,q1,bo,q3,hH⟩
 obtain⟨b2,b3,b4,b5,b6⟩:=info_parts sk;clear bY h O hk hD bW bX;go_wp2_with fail
 go_loopw [17,19] (fun rv iv W=>∃(i:Nat)(ra:Option Addr)(rc:Nat)(R:List bN),i<=s.rg.length/\rv=.slice ra R.length rc/\iv=ae i/\Hid (R=(s.rg.take i).filter (fun e=>cn B e.2&&cn L e.1))/\Hid (W.ownsRow n.heap.size 97 2 (.slice ra R.length rc) R.length (ev R)/\Below n.heap.size n W)) (fun _ iv _=>s.rg.length-(intOf iv).toNat)
 case atStart=>exact⟨0,none,0,[],aA _,rfl,rfl,rfl,⟨aO _ _ _ _,Below.refl _ _⟩⟩
 case round=>
  obtain⟨i,ra,rc,R,hi,rfl,rfl,l,c⟩:=hrel;have j:=U.out.below c.out.2;obtain⟨hI,hJ,b7,_,bb,_⟩:=b1.out wr j.bl;obtain⟨h7,h8,hK⟩:=dG bb;subst hK;by_cases v:i<s.rg.length
  ·obtain⟨hL,hM,rfl,hN,Y⟩:=fR bb I;obtain⟨ad,y1⟩:=Y i v;have ai:s.rg.getD i (0,0)∈s.rg:=getD_in v;obtain⟨⟨g0,g1⟩,n0,n1⟩:=t.out.gv _ ai;obtain⟨b,d,H⟩:∃b bp:Nat,s.rg.getD i (0,0)=((b:Int),(bp:Int)):=⟨(s.rg.getD i (0,0)).1.toNat,(s.rg.getD i (0,0)).2.toNat,by rw[show(((s.rg.getD i (0,0)).1.toNat:Nat):Int)=(s.rg.getD i (0,0)).1 by omega,show(((s.rg.getD i (0,0)).2.toNat:Nat):Int)=(s.rg.getD i (0,0)).2 by omega]⟩
   have f:=pn (fun e:bN=>cn B e.2&&cn L e.1) s.rg i v (0,0)
   have x:D.getD i false=!cn B (s.rg.getD i (0,0)).2:=by rw[bZ.out];exact xM (fun e:bN=>!cn B e.2) s.rg i (0,0) false v
   rw[H] at ad y1 g1 n1 f x;dsimp only at ad y1 g1 n1 f x;have g1:b<s.T.length:=by simpa using g1.1
   have hO:=bn.out.len;obtain⟨br,bs,al⟩:=dP j.ri I;obtain⟨rfl,rfl⟩:p=ag br/\ci=bs:=by simpa using al
   have b8:=(eO j.rd (ie (L:=D) (i:=i) (by rw[bZ.out,aE];exact v))).1;have K:=(eO j.ri (ie (L:=L) (i:=b) I)).1;have q0:(0:Int)<=(i:Int):=I;have q1:(i:Int)<(s.rg.length:Int):=I;have bo:(0:Int)<=(b:Int):=I;have q3:(b:Int)<(s.T.length:Int):=I;have ar:cn L (b:Int)=L.getD b false:=rfl;rw[ar] at f;have f:Hid ((s.rg.take (i+1)).filter (fun e=>cn B e.2&&cn L e.1)=R++if(cn B (d:Int)&&L.getD b false)=true then[((b:Int),(d:Int))] else[]):=by show _=_;rw[f,l.out]
   clear Y al bb j g0 n0 n1 ai ar;cases hd:D.getD i false
   ·rw[hd] at b8;have hB:cn B (d:Int)=true:=by rw[hd] at x;simpa using x.symm
    cases hg:L.getD b false
    ·rw[hg] at K;have A:Hid (R=(s.rg.take (i+1)).filter (fun e=>cn B e.2&&cn L e.1)):=by show _=_;rw[f.out,hB,hg];simp
     clear f l x hd hB hg H
     as_aux_lemma=>
     go_wp2_with fail;go_roundw
     case rel=>exact⟨i+1,ra,rc,R,I,rfl,ac,A,c⟩
     case measure=>simp[intOf];omega
    ·rw[hg] at K;have A:Hid (R++[((b:Int),(d:Int))]=(s.rg.take (i+1)).filter (fun e=>cn B e.2&&cn L e.1)):=by show _=_;rw[f.out,hB,hg];simp
     have bx:Hid (∀a,(ag wr.heap.size:Option Addr)=some a->∀k u,(ev [((b:Int),(d:Int))])[k]?=some u->(wr.alloc (.cells #[.int .i64 (b:Int),.int .i64 (d:Int)] 97)).cell? (a.add k)=some u):=sy _ _;have ax:Hid (Below wr.heap.size wr (wr.alloc (.cells #[.int .i64 (b:Int),.int .i64 (d:Int)] 97))):=(Below.refl wr.heap.size wr).alloc bJ _;have aB:=ca c.out.1 (fun k e=>ax.out.block k (bR c.out.1 k e).2)
     have hP:R.length<=1000:=by
      rw[l.out];have m:=aY (fun e:bN=>cn B e.2&&cn L e.1) (s.rg.take i)
      rw[a5] at m;omega
     clear f l x hd hB hg H
     as_aux_lemma=>
     go_upto_region 36 with(at_builtin;refine hS _ rfl _ _ 89 rfl n.heap.size 97 b2 (.agg #[ae 0,ae 0]) 2 16 Tryz.underlying89 b3 b4 b5 b6 rfl Z (.slice ra R.length rc) R.length (ev R) rfl aB (ag wr.heap.size) 1 1 (ev [((b:Int),(d:Int))]) rfl rfl (fun e=>by cases e) bx.out (jM _) (by unfold maxLen;omega) I (by have:=c.out.2.size;simp;omega) ?_;intro aF aR aT aV a0 _;have bL:Hid (aT.ownsRow n.heap.size 97 2 (.slice aF (R++[((b:Int),(d:Int))]).length aR) (R++[((b:Int),(d:Int))]).length (ev (R++[((b:Int),(d:Int))]))/\Below n.heap.size n aT):=(sA c.out.2 c.out.1 ((Fr.of ax.out).grown a0 (fun k e=>ap (by simpa using e.symm))) aV))
     clear aV a0 aB;go_wp2_with fail;go_roundw
     case rel=>exact⟨i+1,aF,aR,R++[((b:Int),(d:Int))],I,V,ac,A,bL⟩
     case measure=>simp[intOf];omega
   ·rw[hd] at b8;have hB:cn B (d:Int)=false:=by rw[hd] at x;simpa using x.symm
    have A:Hid (R=(s.rg.take (i+1)).filter (fun e=>cn B e.2&&cn L e.1)):=by show _=_;rw[f.out,hB];simp
    clear f l x hd hB H K
    as_aux_lemma=>
    go_wp2_with fail;go_roundw
    case rel=>exact⟨i+1,ra,rc,R,I,rfl,ac,A,c⟩
    case measure=>simp[intOf];omega
  ·obtain rfl:i=s.rg.length:=I;have hQ:Hid (R=s.rg.filter (fun e=>cn B e.2&&cn L e.1)):=by have m:=l.out;rw[aP] at m;exact m
   have bd:Hid (eI w s a2 bl N v0 v1 v2 bS bT D wr p ci L M C):=j;have be:Hid (wr.ownsRow w.heap.size 97 2 (.slice ra R.length rc) R.length (ev R)/\(∀k,some k=(Value.slice ra R.length rc).ownBlock->k<wr.heap.size/\n.heap.size<=k)):=⟨d5 c.out.1 (fun k e=>az U.out.bl.size (bR c.out.1 k e).1),fun k e=>⟨(bR c.out.1 k e).2,(bR c.out.1 k e).1⟩⟩
   have bO:Hid (∀k,some k=(Value.slice p s.T.length ci).ownBlock->k<n.heap.size/\w.heap.size<=k):=fun k e=>⟨(bR U.out.ri k e).2,(bR U.out.ri k e).1⟩
   clear j l c U bb;go_wp2_with fail;generalize hR:wr=J at*;clear hR;obtain⟨X,bg⟩:∃X,Hid (s.wt++C=X):=⟨_,rfl⟩
   go_loopw [18,20] (fun rv iv W=>∃(i:Nat)(E:Option Addr)(G:Nat)(P:List bN),i<=X.length/\rv=.slice E P.length G/\iv=ae i/\Hid (P=(X.take i).filter (fun e=>cn L e.1))/\Hid (W.ownsRow J.heap.size 97 2 (.slice E P.length G) P.length (ev P)/\Below J.heap.size J W)) (fun _ iv _=>X.length-(intOf iv).toNat)
   case atStart=>exact⟨0,none,0,[],aA _,rfl,rfl,rfl,⟨aO _ _ _ _,Below.refl _ _⟩⟩
   case round=>
    obtain⟨i,E,G,P,hi,rfl,rfl,l,c⟩:=hrel;have j:=bd.out.below c.out.2;obtain⟨hT,hU,a1,bi⟩:=j.gB;rw[bg.out] at a1 bi;have h9:wr.cell? (ah N 3)=some (.slice hT X.length hU):=by simp[World.cell?,a1]
    have ia:X.length<=2000:=by rw[<-bg.out,aJ];omega
    by_cases v:i<X.length
    ·obtain⟨hL,hM,rfl,hN,Y⟩:=fR bi I;obtain⟨ad,y1⟩:=Y i v;have ai:X.getD i (0,0)∈s.wt++C:=by rw[bg.out];exact getD_in v
     obtain⟨⟨g0,g1⟩,n0⟩:(0<=(X.getD i (0,0)).1/\cv s.T (X.getD i (0,0)).1.toNat)/\0<=(X.getD i (0,0)).2:=by
      rcases List.mem_append.1 ai with g|g
      ·exact⟨t.out.wg _ g,(t.out.iv.wv _ g).1⟩
      ·have:=t.out.gv _ (b0.out _ g)
       exact⟨this.1,this.2.1⟩
     obtain⟨b,d,H⟩:∃b bp:Nat,X.getD i (0,0)=((b:Int),(bp:Int)):=⟨(X.getD i (0,0)).1.toNat,(X.getD i (0,0)).2.toNat,by rw[show(((X.getD i (0,0)).1.toNat:Nat):Int)=(X.getD i (0,0)).1 by omega,show(((X.getD i (0,0)).2.toNat:Nat):Int)=(X.getD i (0,0)).2 by omega]⟩
     have f:=pn (fun e:bN=>cn L e.1) X i v (0,0)
     rw[H] at ad y1 g1 f;dsimp only at ad y1 g1 f;have g1:b<s.T.length:=by simpa using g1.1
     have hO:=bn.out.len;obtain⟨br,bs,al⟩:=dP j.ri I;obtain⟨rfl,rfl⟩:p=ag br/\ci=bs:=by simpa using al
     have K:=(eO j.ri (ie (L:=L) (i:=b) I)).1;have q0:(0:Int)<=(i:Int):=I;have q1:(i:Int)<(X.length:Int):=I;have bo:(0:Int)<=(b:Int):=I;have q3:(b:Int)<(s.T.length:Int):=I;have ar:cn L (b:Int)=L.getD b false:=rfl;rw[ar] at f;have f:Hid ((X.take (i+1)).filter (fun e=>cn L e.1)=P++if(L.getD b false)=true then[((b:Int),(d:Int))] else[]):=by show _=_;rw[f,l.out]
     have ib:=lt_of_some a1;clear Y al bi j g0 n0 ai ar a1 H;cases hg:L.getD b false
     ·rw[hg] at K;have A:Hid (P=(X.take (i+1)).filter (fun e=>cn L e.1)):=by show _=_;rw[f.out,hg];simp
      clear f l hg
      as_aux_lemma=>
      go_wp2_with fail;go_roundw
      case rel=>exact⟨i+1,E,G,P,I,rfl,ac,A,c⟩
      case measure=>simp[intOf];omega
     ·rw[hg] at K;have A:Hid (P++[((b:Int),(d:Int))]=(X.take (i+1)).filter (fun e=>cn L e.1)):=by show _=_;rw[f.out,hg];simp
      have bx:Hid (∀a,(ag wr.heap.size:Option Addr)=some a->∀k u,(ev [((b:Int),(d:Int))])[k]?=some u->(wr.alloc (.cells #[.int .i64 (b:Int),.int .i64 (d:Int)] 97)).cell? (a.add k)=some u):=sy _ _;have ax:Hid (Below wr.heap.size wr (wr.alloc (.cells #[.int .i64 (b:Int),.int .i64 (d:Int)] 97))):=(Below.refl wr.heap.size wr).alloc bJ _;have aB:=ca c.out.1 (fun k e=>ax.out.block k (bR c.out.1 k e).2)
      have hP:P.length<=2000:=by
       rw[l.out];have m:=aY (fun e:bN=>cn L e.1) (X.take i)
       rw[a5] at m;omega
      clear f l hg
      as_aux_lemma=>
      go_upto_region 41 with(at_builtin;refine hS _ rfl _ _ 89 rfl J.heap.size 97 b2 (.agg #[ae 0,ae 0]) 2 16 Tryz.underlying89 b3 b4 b5 b6 rfl Z (.slice E P.length G) P.length (ev P) rfl aB (ag wr.heap.size) 1 1 (ev [((b:Int),(d:Int))]) rfl rfl (fun e=>by cases e) bx.out (jM _) (by unfold maxLen;omega) I (by have:=c.out.2.size;simp;omega) ?_;intro aF aR aT aV a0 _;have bL:Hid (aT.ownsRow J.heap.size 97 2 (.slice aF (P++[((b:Int),(d:Int))]).length aR) (P++[((b:Int),(d:Int))]).length (ev (P++[((b:Int),(d:Int))]))/\Below J.heap.size J aT):=(sA c.out.2 c.out.1 ((Fr.of ax.out).grown a0 (fun k e=>ap (by simpa using e.symm))) aV))
      clear aV a0 aB;go_wp2_with fail;go_roundw
      case rel=>exact⟨i+1,aF,aR,P++[((b:Int),(d:Int))],I,V,ac,A,bL⟩
      case measure=>simp[intOf];omega
    ·obtain rfl:i=X.length:=I;have b9:Hid (P=(s.wt++C).filter (fun e=>cn L e.1)):=by have m:=l.out;rw[aP] at m;rw[bg.out];exact m
     have bP:Below w.heap.size w wr:=j.bl;obtain⟨q,cb,cc,cd⟩:=xK S.out R P (.slice ra R.length rc) (.slice E P.length G) wr bP (ca be.out.1 (fun k e=>c.out.2.block k (be.out.2 k e).1)) (d5 c.out.1 (fun k e=>az bd.out.bl.size (bR c.out.1 k e).1)) (fun k e bQ=>by have m:=(be.out.2 k e).1;have bU:=(bR c.out.1 k bQ).1;omega)
     obtain⟨hI,hJ,b7,hV,_,_⟩:=b1.out wr bP;have bV:∀o,wr.frozen? (ah rp o)=false:=(fT ((cf rp rb bS bT).below S.out bP)).2.2.2.2.2.1;have hW:=bV 2;have hX:=bV 3;have hY:Hid (((wr.setCell ⟨rp,2,none⟩ (.slice ra R.length rc)).setCell ⟨rp,3,none⟩ (.slice E P.length G)).ownsRow 0 4 1 (.slice p s.T.length ci) s.T.length (L.map Value.bool)):=d5 (ca j.ri (fun k e=>(Below.heap_setCell _ _ _ _ (show k≠rp from fun bQ=>by
      have m:=(bO.out k e).2;have bU:rp<w.heap.size:=au w _ (fT S.out).1;omega)).trans (Below.heap_setCell _ _ _ _ (show k≠rp from fun bQ=>by
      have m:=(bO.out k e).2;have bU:rp<w.heap.size:=au w _ (fT S.out).1;omega)))) (fun _ _=>aA _)
     have hZ:Hid (∀k,some k=(Value.slice p s.T.length ci).ownBlock->¬q k):=fun k e g=>by
      obtain⟨m,bU⟩:=bO.out k e;rcases cd k g with g|g|g
      ·have:=(cf rp rb bS bT).lt S.out k g;omega
      ·have:=(be.out.2 k g).2;omega
      ·have ic:=(bR c.out.1 k g).1;have ig:=bR bd.out.ri k e;omega
     have ce:Hid ((cf rp rb bS bT).J q {s with rg:=R,wt:=P} ((wr.setCell ⟨rp,2,none⟩ (.slice ra R.length rc)).setCell ⟨rp,3,none⟩ (.slice E P.length G))/\bM F w q ((wr.setCell ⟨rp,2,none⟩ (.slice ra R.length rc)).setCell ⟨rp,3,none⟩ (.slice E P.length G))):=⟨cb,cc⟩
     clear cb cc cd j a1 bi c bd bV l
     iterate 28 go_step
     refine xL (s:={s with rg:=R,wt:=P}) b7 hV hW hX rfl ce.out.1 hY.out hZ.out ⟨t.out.iv.fl,t.out.iv.fv,fun e he=>?_,t.out.iv.tl⟩ bn.out hF ?_
     ·have he:e∈P:=he;rw[b9.out] at he;rcases List.mem_append.1 (List.mem_filter.1 he).1 with g|g
      ·exact t.out.iv.wv e g
      ·exact(t.out.gv e (b0.out e g)).2
     ·intro h0 w' h1 ha hd h2 h3;refine hE.out h0 w' h1 ha hd ?_ (ce.out.2.trans h3)
      rw[<-hQ.out,<-b9.out];exact h2
end
end kH
namespace ig
open Go.RowKit W Kp bY
def lE (w0:World)(a b c fb:Nat)(T:List cE)(M:ck->Int->ck)(n:Nat):Prop:=
 ∀(w:World)(s:ck)(f g vr:Value)(m:List da)(v:Int×Int),dI w0 w a b c fb s f g vr m->eb (tI T.length) s->hX T v->T.length<=s.1.length+n->
  Calls prog 49 (iM v.1 v.2 a b c fb) w fun e w'=>∃i j d,e=.returned (.agg #[ae (cX M (tI T.length) s (dr v)).1.1,ae (cX M (tI T.length) s (dr v)).1.2])/\dI w0 w' a b c fb (cX M (tI T.length) s (dr v)).2 i j vr d/\Kx w0 w m w' d
structure Own (w3:World)(xb rb tb:Nat)(x kd:Int)(ft:Value)(o d:Bool):Prop where
 x:w3.heap[xb]?=some (.cells #[ae 3,ae x] 77 (0,0))
 r:w3.heap[rb]?=some (.cells #[ae 0,ae 0] 77 (0,0))
 t:w3.heap[tb]?=some (.cells #[ae kd,ft,.bool o,.bool d] 99 (0,0))
theorem Own.kx {w0 w3 wr:World}{m1 d:List da}{a rb tb:Nat}{x kd:Int}{b:Value}{o c:Bool}(h:Own w3 a rb tb x kd b o c)(k:Kx w0 w3 m1 wr d):Own wr a rb tb x kd b o c:=
 ⟨(k.1.eP _ _ _ _ h.x (by unfold hU;decide)).trans h.x,(k.1.eP _ _ _ _ h.r (by unfold hU;decide)).trans h.r,(k.1.eP _ _ _ _ h.t (by unfold hU;decide)).trans h.t⟩
theorem po {w:World}(a b:Int):∀c,(ag w.heap.size:Option Addr)=some c->∀k u,(ev [(a,b)])[k]?=some u->(w.alloc (.cells #[.int .i64 a,.int .i64 b] 77)).cell? (c.add k)=some u:=fun c e k u hk=>by
 have d:=aw w (.cells #[ae a,ae b] 77)
 cases e;have f:k<2:=by have:=(List.getElem?_eq_some_iff.1 hk).1;simpa[ev] using this
 rcases(show k=0\/k=1 by omega) with rfl|rfl
 ·simp[ev] at hk;subst hk;show World.cell? _ ⟨w.heap.size,0,none⟩=_;unfold World.cell?;rw[d];rfl
 ·simp[ev] at hk;subst hk;show World.cell? _ ⟨w.heap.size,1,none⟩=_;unfold World.cell?;rw[d];rfl
section
variable {w0 w3 wb:World}{mb bb vb fb:Nat}{vr:Value}
theorem xO {s0 s1 cV cW cY cZ c3 c4 c5 c6 c7 c8 c9 db dc de df dg dh di dj dk dl dm dn dp dq ds dt du dv dw dx dy dz dA dB dC dD dE dF dG dH dJ dK dL dM dN dO dP dQ dR dS dT dU dV dW dX dY dZ d0 d1 d2 d3 d4 d5 d6 d7 d8 d9 ea ec ed ee ef eg eh ei ej ek el em en eo ep eq er es et eu ex ey ez eA eB eC eD eE eF eG eH eI eK eL eM eO eP eQ eR eT eU eV eW eX eY:Value}{Q:Exit->Act->World->Prop}{bs:World}{mB m1 bx:List da}{P:List (Int×Int)×ck}{a0:Option Addr}{a3 n n' rp bd rb tb:Nat}{bL bM ch:Value}{k0 x kd:Int}{ci cj:Bool}{v0:List (Int×Int)}{T:List cE}{wt:List bN}{M:ck->Int->ck}{f:ck}{l0:List Int}
 (h:dd w0 w3 bs mb bb vb fb vr m1 P a0 a3 bL bM bx)(cl:P=cD M (tI T.length) f l0)(hM:h6 (tI T.length) (eJ T) (eS T wt) n' M)(cm:lE w0 mb bb vb fb T M n')(hO:eb (tI T.length) f)(bO:T.length<=f.1.length+n')(cn:Own w3 bd rb tb x kd ch ci cj)(hw:jY T wt)(bP:w0.cell? (ah bb 0)=some (af rp))(eZ:∃F ad,w0.cell? (ah rp 3)=some (.slice F wt.length ad)/\cS w0 F wt)
 (co:∀b:List (Int×Int)×ck,b=cD M (tI T.length) f (l0++if kd=5 then(wt.filter (fun e=>e.1==x)).map (fun e=>ew 3 e.2) else[])->b.2.2[n]?=some (k0,v0)/\b.2.2.length<=100000/\b.1.length<=100000)(cp:∀k,k<=wt.length->(cD M (tI T.length) f (l0++((wt.take k).filter (fun e=>e.1==x)).map (fun e=>ew 3 e.2))).1.length<=100000)
 (K:rb<w3.heap.size)(hlo:w0.heap.size<=rb)(cq:¬eN m1 rb)(cr:wb.heap.size<=rb)(cs:Kx w0 wb mB w3 m1)
 (ct:∀(a:Act)(w':World)(bQ bS:Value)(G:List da)(b:List (Int×Int)×ck),b=cD M (tI T.length) f (l0++if kd=5 then(wt.filter (fun e=>e.1==x)).map (fun e=>ew 3 e.2) else[])->a.tmps.getD 6 undef=af rb->a.defers=[]->w'.cell? (ah rb 0)=some (ae 3)->w'.cell? (ah rb 1)=some (ae n)->dI w0 w' mb bb vb fb (b.2.1,b.2.2.set n (k0,b.1)) bQ bS vr G->Kx w0 wb mB w' G->Q .ret a w'):
 Code.wp prog ((find 18 (Tryz.f49.body.getD .skip)).getD .skip) Q ⟨#[s0,s1,af bb,af vb,af fb,af bd,af rb,cV,ae n,af tb,.slice a0 P.1.length a3,cW,cY,cZ,c3,c4,c5,c6,c7,c8,c9,db,dc,de,df,dg,dh,di,dj,dk,dl,dm,dn,dp,dq,ds,dt,du,dv,dw,dx,dy,dz,dA,dB,dC,dD,dE,dF,dG,dH,dJ,dK,dL,dM,dN,dO,dP,dQ,dR,dS,dT,dU,dV,dW,dX,dY,dZ,d0,d1,d2,d3,d4,d5,d6,d7,d8,d9,ea,ec,ed,ee,ef,eg,eh,ei,ej,ek,el,em,en,eo,ep,eq,er,es,et,eu,ex,ey,ez,eA,eB,eC,eD,eE,eF,eG,eH,eI,eK,eL,eM,eO,eP,eQ,eR,eT,eU,eV,eW,eX,eY],[]⟩ bs:=by
 conv=>arg 2;whnf
 have cu:Hid (∀(a:Act)(w':World)(bQ bS:Value)(G:List da)(b:List (Int×Int)×ck),b=cD M (tI T.length) f (l0++if kd=5 then(wt.filter (fun e=>e.1==x)).map (fun e=>ew 3 e.2) else[])->a.tmps.getD 6 undef=af rb->a.defers=[]->w'.cell? (ah rb 0)=some (ae 3)->w'.cell? (ah rb 1)=some (ae n)->dI w0 w' mb bb vb fb (b.2.1,b.2.2.set n (k0,b.1)) bQ bS vr G->Kx w0 wb mB w' G->Q .ret a w'):=ct;obtain⟨F,ad,bT,cv⟩:=eZ;have bU:Hid (∀w',Below w0.heap.size w0 w'->w'.cell? (ah bb 0)=some (af rp)/\w'.cell? (ah rp 3)=some (.slice F wt.length ad)/\cS w' F wt):=fun w' bV=>⟨(bV.cell (p:=ah bb 0) (au w0 _ bP)).trans bP,(bV.cell (p:=ah rp 3) (au w0 _ bT)).trans bT,cv.below bV⟩
 have cw:Hid (Own w3 bd rb tb x kd ch ci cj):=cn;have e0:Hid (lE w0 mb bb vb fb T M n'):=cm;have cx:Hid (jY T wt):=hw;have e1:Hid (∀l,fP (tI T.length) (eJ T) (eS T wt) f (cD M (tI T.length) f l).2 (cD M (tI T.length) f l).1):=fun l=>km hM hO (by rw[js];exact bO) l;have bW:Hid ((∀b:List (Int×Int)×ck,b=cD M (tI T.length) f (l0++if kd=5 then(wt.filter (fun e=>e.1==x)).map (fun e=>ew 3 e.2) else[])->b.2.2[n]?=some (k0,v0)/\b.2.2.length<=100000/\b.1.length<=100000)/\T.length<=f.1.length+n'):=⟨co,bO⟩
 have e2:Hid (∀k,k<=wt.length->(cD M (tI T.length) f (l0++((wt.take k).filter (fun e=>e.1==x)).map (fun e=>ew 3 e.2))).1.length<=100000):=cp;have H:Hid (rb<w3.heap.size/\w0.heap.size<=rb/\¬eN m1 rb/\wb.heap.size<=rb/\Kx w0 wb mB w3 m1):=⟨K,hlo,cq,cr,cs⟩
 have t:Hid (dd w0 w3 bs mb bb vb fb vr m1 P a0 a3 bL bM bx):=h;have w:Hid (P=cD M (tI T.length) f (l0++((wt.take 0).filter (fun e=>e.1==x)).map (fun e=>ew 3 e.2))):=by show _=_;rw[cl];simp
 have fu:=hw.l2;obtain⟨e3,e4,e5,e6,e7⟩:=info_parts kA;clear ct co cm hw cn h bP bT cv K hlo cq cr cs hO hM bO cp cl;have cy:Hid (∀{wr:World}{b:List (Int×Int)×ck}{i:Option Addr}{m:Nat}{A B:Value}{o:List da},dd w0 w3 wr mb bb vb fb vr m1 b i m A B o->b=cD M (tI T.length) f (l0++if kd=5 then(wt.filter (fun e=>e.1==x)).map (fun e=>ew 3 e.2) else[])->wr.heap[rb]?=some (.cells #[ae 0,ae 0] 77 (0,0))/\¬eN o rb/\Kx w0 wb mB wr o):=fun {wr b i m A B o} R _=>by
  refine⟨(cw.out.kx R.kx).r,fun be=>?_,H.out.2.2.2.2.trans R.kx⟩
  rcases R.kx.2 rb be with be|be
  ·exact H.out.2.2.1 be
  ·have:=H.out.1;omega
 go_wp2_with fail
 go_loopw [10,13] (fun e8 iv wr=>∃(j:Nat)(b:List (Int×Int)×ck)(i:Option Addr)(m:Nat)(A B:Value)(o:List da),j<=wt.length/\e8=.slice i b.1.length m/\iv=ae j/\Hid ((kd≠5->j=0)/\b=cD M (tI T.length) f (l0++((wt.take j).filter (fun e=>e.1==x)).map (fun e=>ew 3 e.2)))/\Hid (dd w0 w3 wr mb bb vb fb vr m1 b i m A B o)) (fun _ iv _=>wt.length-(intOf iv).toNat)
 case atStart=>exact⟨0,P,a0,a3,bL,bM,bx,aA _,rfl,rfl,⟨fun _=>rfl,w.out⟩,t⟩
 case round=>
  clear w t;obtain⟨j,b,i,m,A,B,o,e9,rfl,rfl,w,t⟩:=hrel;obtain⟨cz,cA,cB⟩:=bU.out wr t.out.wv.df;have bX:=cw.out.kx t.out.kx;have t0:wr.cell? (ah tb 0)=some (ae kd):=by simp[World.cell?,bX.t]
  have fa:wr.cell? (ah bd 1)=some (ae x):=by simp[World.cell?,bX.x]
  have q0:(0:Int)<=(j:Int):=I;clear bX;by_cases k5:kd=5
  ·subst k5;by_cases K:j<wt.length
   ·have q1:(j:Int)<(wt.length:Int):=I;obtain⟨S,bg,rfl,fv,bY⟩:=cB I;obtain⟨bZ,y1⟩:=bY j K;have bi:wt.getD j (0,0)∈wt:=getD_in K;obtain⟨b0,bl,bn⟩:=cx.out.wv _ bi;have U:=kH.pn (fun e:bN=>e.1==x) wt j K (0,0)
    obtain⟨ai,s,b6⟩:∃ai s,wt.getD j (0,0)=(ai,s):=⟨_,_,rfl⟩
    have cC:Hid (wt.getD j (0,0)=(ai,s)):=b6;rw[b6] at bZ y1 b0 bl bn U bi;dsimp only at bZ y1 b0 bl bn U;clear b6;cases hq:(ai==x)
    ·have bo:Hid (((5:Int)≠5->j+1=0)/\b=cD M (tI T.length) f (l0++((wt.take (j+1)).filter (fun e=>e.1==x)).map (fun e=>ew 3 e.2))):=⟨fun c=>absurd rfl c,by rw[U,hq];simpa using w.out.2⟩
     clear U w bY bi;have fc:Hid (∀q,dd w0 w3 (wr.drewN q) mb bb vb fb vr m1 b i m A B o):=fun q=>t.out.below (below_drewN bK q)
     as_aux_lemma=>
     go_wp2_with fail
     go_quiet (fail)
     go_wp2_with fail;go_roundw
     case rel=>exact⟨j+1,b,i,m,A,B,o,I,rfl,ac,bo,fc.out _⟩
     case measure=>simp[intOf];omega
    ·have fw:ai=x:=by simpa using hq
     have cF:hX T (3,s):=⟨lZ s bl (by have:=cx.out.l1;have:=bn.1;omega),fun _=>⟨bl,bn⟩⟩
     have bp:=e1.out (l0++((wt.take j).filter (fun e=>e.1==x)).map (fun e=>ew 3 e.2))
     rw[<-w.out.2] at bp;have br:Hid (∀W:World,dd w0 w3 W mb bb vb fb vr m1 b i m A B o->Calls prog 49 (iM 3 s mb bb vb fb) W fun e w'=>∃C D v,e=.returned (.agg #[ae (cX M (tI T.length) b.2 (dr (3,s))).1.1,ae (cX M (tI T.length) b.2 (dr (3,s))).1.2])/\dd w0 w3 w' mb bb vb fb vr m1 (b.1,(cX M (tI T.length) b.2 (dr (3,s))).2) i m C D v/\Kx w0 W o w' v):=fun W R=>by
      refine(e0.out W b.2 A B vr o (3,s) R.wv bp.ok cF (by have al:=bp.le;have fx:=bW.out.2;omega)).mono ?_;rintro e d ⟨C,D,v,rfl,fd,ar⟩
      exact⟨C,D,v,rfl,R.call fd ar,ar⟩
     have cG:Hid (∀q,dd w0 w3 (wr.drewN q) mb bb vb fb vr m1 b i m A B o):=fun q=>t.out.below (below_drewN bK q)
     have bo:Hid (((5:Int)≠5->j+1=0)/\(b.1++[(cX M (tI T.length) b.2 (dr (3,s))).1],(cX M (tI T.length) b.2 (dr (3,s))).2)=cD M (tI T.length) f (l0++((wt.take (j+1)).filter (fun e=>e.1==x)).map (fun e=>ew 3 e.2))):=⟨fun c=>absurd rfl c,by
      rw[U,hq,aq rfl,bc,<-aU];show _=cD M (tI T.length) f (_++[dr (3,s)])
      rw[kl,<-w.out.2]⟩
     have fy:b.1.length<=100000:=by rw[w.out.2];exact e2.out j e9
     have cH:=t.out.wv.cells.2.2.1;generalize cX M (tI T.length) b.2 (dr (3,s))=fe at*;obtain⟨⟨v1,v2⟩,X⟩:=fe;dsimp only at br bo;clear U w bY bi bp cF b0 t;go_wp2_with fail
     go_quiet (fail)
     go_wp2_with fail;have Y:=cG.out nq;have cI:(wr.drewN nq).cell? (ah fb 0)=some (i3 mb bb vb fb):=cH;have cJ:(wr.drewN nq).cell? (ah bb 0)=some (af rp):=cz;have cK:(wr.drewN nq).cell? (ah rp 3)=some (.slice (some ⟨S,bg,none⟩) wt.length ad):=cA;have cL:(wr.drewN nq).cell? (ah S (bg+j*2+1))=some (ae s):=y1;generalize wr.drewN nq=W at*;have n1:W.heap.size≠fb:=by have:fb<W.heap.size:=au W _ cI;omega
     have ff:W.heap.size≠bb:=by have:bb<W.heap.size:=au W _ cJ;omega
     have fg:W.heap.size≠rp:=by have:rp<W.heap.size:=au W _ cK;omega
     have n4:W.heap.size≠S:=by have:S<W.heap.size:=au W _ cL;omega
     have b7:=br.out W.drew (Y.below (Below.refl _ W).drew)
     have b8:=br.out (W.alloc (.cells #[.int .i64 0,.int .i64 0] 77)).drew (Y.below ((Below.refl _ W).alloc bJ _).drew)
     have Y:Hid (dd w0 w3 W mb bb vb fb vr m1 b i m A B o):=Y;clear cG br bZ y1 cH cz cA cB t0 fa
     go_region_held3 (fun w'=>w'.cell? (ah fb 0)=some (i3 mb bb vb fb)/\w'.cell? (ah bb 0)=some (af rp)/\w'.cell? (ah rp 3)=some (.slice (some ⟨S,bg,none⟩) wt.length ad)/\w'.cell? (ah S (bg+j*2+1))=some (ae s)) (go_keep) (first|(go_at_call 49;refine b7.mono ?_;clear b7 b8;rintro e d ⟨C,D,v,rfl,J,_⟩;have cM:Hid (dd w0 w3 d mb bb vb fb vr m1 (b.1,X) i m C D v):=J;obtain⟨b1,b2,b3⟩:=bU.out d J.wv.df;have b4:=J.wv.cells.2.2.1;obtain⟨_,_,b9,_,ax⟩:=b3 I;cases b9;have b5:=(ax j K).2;rw[cC.out] at b5;clear J b3 ax)|(go_at_call 49;refine b8.mono ?_;clear b7 b8;rintro e d ⟨C,D,v,rfl,J,ar⟩;have L:=Y.out.late J (show Kx w0 (W.alloc (.cells #[.int .i64 0,.int .i64 0] 77)) o d v from(Kx.of bK.drew).trans ar) v1 v2;have cN:Hid (dd w0 w3 ((d.setCell ⟨W.heap.size,0,none⟩ (.int .i64 v1)).setCell ⟨W.heap.size,1,none⟩ (.int .i64 v2)) mb bb vb fb vr m1 (b.1,X) i m C D v/\d.heap[W.heap.size]?=some (.cells #[ae 0,ae 0] 77 (0,0))):=⟨L.2,L.1⟩;have c0:d.cell? (ah W.heap.size 0)=some (ae 0):=(by simp[World.cell?,L.1]);have c1:d.cell? (ah W.heap.size 1)=some (ae 0):=(by simp[World.cell?,L.1]);have c2:d.frozen? (ah W.heap.size 0)=false:=(by simp[World.frozen?,L.1]);have cb:d.frozen? (ah W.heap.size 1)=false:=(by simp[World.frozen?,L.1]);obtain⟨b1,b2,b3⟩:=bU.out d J.wv.df;have b4:=J.wv.cells.2.2.1;obtain⟨_,_,b9,_,ax⟩:=b3 I;cases b9;have b5:=(ax j K).2;rw[cC.out] at b5;clear J b3 ax L ar))
     all_goals
      first
      |(
       have N:Hid (dd w0 w3 (d.alloc (.cells #[.int .i64 v1,.int .i64 v2] 77)) mb bb vb fb vr m1 (b.1,X) i m C D v/\(d.alloc (.cells #[.int .i64 v1,.int .i64 v2] 77)).cell? (ah d.heap.size 0)=some (ae v1)/\(d.alloc (.cells #[.int .i64 v1,.int .i64 v2] 77)).cell? (ah d.heap.size 1)=some (ae v2)):=⟨cM.out.below ((Below.refl _ d).alloc bJ _),by have cc:=aw d (.cells #[ae v1,ae v2] 77);unfold World.cell?;dsimp only;rw[cc];rfl,by have cc:=aw d (.cells #[ae v1,ae v2] 77);unfold World.cell?;dsimp only;rw[cc];rfl⟩
       clear cM b1 b2 b4 b5;generalize d.alloc (.cells #[.int .i64 v1,.int .i64 v2] 77)=E at*;generalize d.heap.size=yb at*)
      |(
       have N:Hid (dd w0 w3 ((d.setCell ⟨W.heap.size,0,none⟩ (.int .i64 v1)).setCell ⟨W.heap.size,1,none⟩ (.int .i64 v2)) mb bb vb fb vr m1 (b.1,X) i m C D v/\((d.setCell ⟨W.heap.size,0,none⟩ (.int .i64 v1)).setCell ⟨W.heap.size,1,none⟩ (.int .i64 v2)).cell? (ah W.heap.size 0)=some (ae v1)/\((d.setCell ⟨W.heap.size,0,none⟩ (.int .i64 v1)).setCell ⟨W.heap.size,1,none⟩ (.int .i64 v2)).cell? (ah W.heap.size 1)=some (ae v2)):=⟨cN.out.1,by rw[aC _ _ _ _ V];exact aH _ _ _ (u:=ae 0) c0,aH _ _ _ (u:=ae 0) ((aC _ _ _ _ V).trans c1)⟩
       clear cN b1 b2 b4 b5 c0 c1 c2 cb;generalize (d.setCell ⟨W.heap.size,0,none⟩ (.int .i64 v1)).setCell ⟨W.heap.size,1,none⟩ (.int .i64 v2)=E at*;clear cI cJ cK cL n1 ff fg n4 Y;generalize W.heap.size=yb at*)
     all_goals
      have k1:=N.out.2.1;have fz:=N.out.2.2;have cO:Hid (Below E.heap.size E (E.alloc (.cells #[.int .i64 v1,.int .i64 v2] 77))):=(Below.refl E.heap.size E).alloc bJ _;have fh:Hid (∀a,(ag E.heap.size:Option Addr)=some a->∀k u,(ev [(v1,v2)])[k]?=some u->(E.alloc (.cells #[.int .i64 v1,.int .i64 v2] 77)).cell? (a.add k)=some u):=po v1 v2;have cd:=ca N.out.1.row (fun k e=>cO.out.block k (bR N.out.1.row k e).2)
      dsimp only at cd;have fi:Hid (w3.heap.size<=E.heap.size):=N.out.1.kx.1.size
      go_upto_region 20 with(at_builtin;refine hS _ rfl _ _ 57 rfl w3.heap.size 77 e3 (.agg #[ae 0,ae 0]) 2 16 Tryz.underlying57 e4 e5 e6 e7 rfl Z (.slice i b.1.length m) b.1.length (ev b.1) rfl cd (ag E.heap.size) 1 1 (ev [(v1,v2)]) rfl rfl (fun e=>by cases e) fh.out (jM _) (by unfold maxLen;omega) I (by have:=fi.out;simp;omega) ?_;intro cP cQ fj cR cT cU;have fk:Hid (dd w0 w3 fj mb bb vb fb vr m1 (b.1++[(v1,v2)],X) cP cQ C D v):=(N.out.1.push cO.out cT cR cU))
      clear cR cT cU cd;go_wp2_with fail;go_roundw
      case rel=>exact⟨j+1,(b.1++[(v1,v2)],X),cP,cQ,C,D,v,I,V,ac,bo,fk⟩
      case measure=>simp[intOf];omega
   ·obtain rfl:j=wt.length:=I;have O:Hid (b=cD M (tI T.length) f (l0++if(5:Int)=5 then(wt.filter (fun e=>e.1==x)).map (fun e=>ew 3 e.2) else[])):=by have al:=w.out.2;rw[aP] at al;show _=_;rw[aq rfl];exact al
    obtain⟨aB,aF,aR⟩:=cy.out t.out O.out;obtain⟨aT,aV,_⟩:=bW.out.1 _ O.out;obtain⟨g,fl,u,ce,c1,c2,fm,cb,fn,fo,fp,fq,fr,fs,cf⟩:=sx t.out aT aV aB H.out.1 H.out.2.1 aF H.out.2.2.2.1 aR;have g0:(0:Int)<=(n:Int):=I;have g1:(n:Int)<(o.length:Int):=I;clear aB aF aR aT aV ce;go_wp2_with fail;obtain⟨⟨G,a1,a2⟩,F,cg⟩:=cf.out;exact cu.out _ _ _ _ G b O.out rfl rfl F cg a1 a2
  ·have fA:(kd==5)=false:=by simpa using k5
   have ft:=w.out.1 k5;subst ft;have O:Hid (b=cD M (tI T.length) f (l0++if kd=5 then(wt.filter (fun e=>e.1==x)).map (fun e=>ew 3 e.2) else[])):=by have al:=w.out.2;show _=_;rw[ao k5];simpa using al
   obtain⟨aB,aF,aR⟩:=cy.out t.out O.out;obtain⟨aT,aV,_⟩:=bW.out.1 _ O.out;obtain⟨g,fl,u,ce,c1,c2,fm,cb,fn,fo,fp,fq,fr,fs,cf⟩:=sx t.out aT aV aB H.out.1 H.out.2.1 aF H.out.2.2.2.1 aR;have g0:(0:Int)<=(n:Int):=I;have g1:(n:Int)<(o.length:Int):=I;clear aB aF aR aT aV ce;go_wp2_with fail
   all_goals
    obtain⟨⟨G,a1,a2⟩,F,cg⟩:=cf.out;exact cu.out _ _ _ _ G b O.out rfl rfl F cg a1 a2
end
end ig
end Go.Proofs.YtjpjpjemibgjpaaGreat
