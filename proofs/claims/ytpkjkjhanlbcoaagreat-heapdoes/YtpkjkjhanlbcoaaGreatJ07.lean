import Derived.Test.YtpkjkjhanlbcoaaGreatJ06
namespace Go.Proofs.YtpkjkjhanlbcoaaGreat
set_option maxRecDepth 100000
set_option maxHeartbeats 8000000
open Tryz
namespace mD
open Go.RowKit W Kp ch
theorem xe {P:Prop}(h:P:=by
 cases e;have hlk:k<2:=by have:=(List.getElem?_eq_some_iff.1 hk).1;simpa[ev] using this
 rcases(show k=0\/k=1 by omega) with rfl|rfl
 ·simp[ev] at hk;subst hk;show World.cell? _ ⟨w.heap.size,0,none⟩=_;unfold World.cell?;rw[sv];rfl
 ·simp[ev] at hk;subst hk;show World.cell? _ ⟨w.heap.size,1,none⟩=_;unfold World.cell?;rw[sv];rfl):P:=h
theorem sw {P:Prop}(h:P:=by
 clear qc oK mE x0 x1 x2 x3 y0 y1 u0 u1 u2 u3;go_wp2_with fail;go_roundw
 case rel=>exact⟨j+1,aa,aj,HN⟩
 case measure=>simp[intOf];omega):P:=h
theorem xf {P:Prop}(h:P:=by
 as_aux_lemma=>
 go_wp2_with fail;go_roundw
 case rel=>exact⟨i+1,ra,rc,R,aa,rfl,aj,HN,fH⟩
 case measure=>simp[intOf];omega):P:=h
def begins (n:Nat):Code->Bool
 |.region m _ _=>m==n
 |.seq a _=>begins n a
 |_=>false
def find (n:Nat):Code->Option Code
 |.seq a b=>match begins n a with
  |true=>some (.seq a b)
  |false=>match find n a with
   |some c=>some c
   |none=>find n b
 |.cond _ a b=>match find n a with
  |some c=>some c
  |none=>find n b
 |.block _ c=>find n c
 |.loop c=>find n c
 |.scope c=>find n c
 |_=>none
theorem p9 {c:Type}(l:List c)(i:Nat)(a b:c):(l.set i a).set i b=l.set i b:=ac
theorem pair_cells {w:aw}(a b c d:Int):c8 (w.alloc (.cells #[.int .i64 a,.int .i64 b,.int .i64 c,.int .i64 d] 97)) (an w.heap.size) [(a,b),(c,d)]:=fun _=>by
 refine⟨w.heap.size,0,rfl,ac,fun i hi=>?_⟩
 rcases(show i=0\/i=1 by simp at hi;omega) with e|e<;>subst e<;>(constructor<;>(unfold World.cell?;rw[(aN w (.cells #[.int .i64 a,.int .i64 b,.int .i64 c,.int .i64 d] 97))];rfl))
structure ku (rp rb:Nat)(ca b8:Int)(F:Nat->Prop)(s:cn)(w:aw)(iR:Option Addr)(ci:Nat)(L:List Bool)(j:Nat)(wr:aw)(F':Nat->Prop):Prop where
 J:(cq rp rb ca b8).J F' {s with T:=eD L s.T j} wr
 tn:ce F w F' wr
 row:wr.ownsRow 0 4 1 (.slice iR s.T.length ci) s.T.length (L.map Value.bool)
 no:∀k,some k=(Value.slice iR s.T.length ci).ownBlock->¬F' k
section
variable {rp rb:Nat}{ca b8:Int}{F F':Nat->Prop}{s:cn}{w wr:aw}{iR:Option Addr}{ci j:Nat}{L:List Bool}
theorem ku.next (h:ku rp rb ca b8 F s w iR ci L j wr F'){c:Nat->Prop}{d:aw}(f:(cq rp rb ca b8).J c {s with T:=(eD L s.T j).set j (eK L j (s.T.getD j t0))} d)(ht:ce F' wr c d):ku rp rb ca b8 F s w iR ci L (j+1) d c:=
 ⟨f,h.tn.trans ht,cy h.row (fun k e=>ht.fr.block k (cg h.row k e).2 (h.no k e)),fun k e b=>by
  rcases ht.sub k b with b|b
  ·exact h.no k e b
  ·have:=(cg h.row k e).2;omega⟩
end
section
variable {rp rb:Nat}{ca b8:Int}{F:Nat->Prop}{s:cn}{w:aw}
theorem Dw {s1 s2 cu s4 s5 s6 cv cw cx cz cA cB cC cD cE cF cG cH cI cJ cK cL cM cN cO cP cQ cR cS cU cV cW cX cY cZ c1 c2 c3 c4 c5 c6 c7 c9 da db dc dd de df dg dh di dj dk dm dn iK dp dr ds dt du dv dw dx dz dA dB dC dD dE dF dG dH dI dJ dK dL dM dN dO dP dQ dR dS dT dU dV dW dX dY dZ d0 d1 d2 d3 d5 d6 d7 d8 d9 ea eb ec ed ee ef eg eh ei ej ek el em en eo ep eq er es et eu ev ew ex ey ez eA eB eC eE eF eG eH eI eJ eL eM eN eO eP eQ eR eS eT eU eV eW eX eY eZ e0 e1 e2 e3 e4 e5 e6 e7 e8 e9 fa fc fd ff fg fh fi fj fk fl fm fn fp fq fr fs ft fu fv fw fx fy fz fA fB fC fD fE fF fG fH fI fJ fK fL fM fN fO fP fQ fR fS fT fU fW fX fY fZ f0 f1 f2 f3 f4 f5 f6 f7 f8 f9 ga gb gc gd ge gf gg gh gi gj gk gl gm gn go gp gq gr gs gt gu gv gw gx gy gz gA gB gC gE gF gG gH gI gJ gK gL gN gO gP gQ gR gS gT gU gV gW gX gY gZ g4 g5 g6 g7 g8 g9 ha hb hc hd hf hh hi hj hl hm hn ho hq hr hs ht hu hv hx hy hz hA hB hC hD hE hF hG hH hI hJ hK hL hM hN hO hP hQ hR hS:Value}{Q:Exit->Act->aw->Prop}{ap bt bx:Option Addr}{ci b0 rc b1 b3:Nat}{L:List Bool}{w0:aw}{x2 x3:Value}(hT:w0.cell? (ao rp 2)=some x2)(hU:w0.cell? (ao rp 3)=some x3)(hV:w0.frozen? (ao rp 2)=false)(hW:w0.frozen? (ao rp 3)=false)(hw:(w0.setCell ⟨rp,2,none⟩ (.slice bt b0 rc)).setCell ⟨rp,3,none⟩ (.slice bx b1 b3)=w)(h:(cq rp rb ca b8).J F s w)(b4:w.ownsRow 0 4 1 (.slice ap s.T.length ci) s.T.length (L.map Value.bool))(b5:∀k,some k=(Value.slice ap s.T.length ci).ownBlock->¬F k)(b6:gD s.T s.wt)(b7:fV s.T L)(iz:s.T.length<=10000)
 (b9:∀(a:Act)(w':aw)(l:Nat->Prop),a.tmps.getD 4 undef=ak 0->a.defers=[]->(cq rp rb ca b8).J l {s with T:=eD L s.T s.T.length} w'->ce F w l w'->Q .ret a w'):
 Code.wp prog ((find 44 (Tryz.f51.body.getD .skip)).getD .skip) Q ⟨#[am rp,s1,s2,cu,s4,s5,s6,.slice ap s.T.length ci,cv,cw,cx,cz,cA,cB,cC,cD,cE,.slice bt b0 rc,.slice bx b1 b3,cF,cG,cH,cI,cJ,cK,cL,cM,cN,cO,cP,cQ,cR,cS,cU,cV,cW,cX,cY,cZ,c1,c2,c3,c4,c5,c6,c7,c9,da,db,dc,dd,de,df,dg,dh,di,dj,dk,dm,dn,iK,dp,dr,ds,dt,du,dv,dw,dx,dz,dA,dB,dC,dD,dE,dF,dG,dH,dI,dJ,dK,dL,dM,dN,dO,dP,dQ,dR,dS,dT,dU,dV,dW,dX,dY,dZ,d0,d1,d2,d3,d5,d6,d7,d8,d9,ea,eb,ec,ed,ee,ef,eg,eh,ei,ej,ek,el,em,en,eo,ep,eq,er,es,et,eu,ev,ew,ex,ey,ez,eA,eB,eC,eE,eF,eG,eH,eI,eJ,eL,eM,eN,eO,eP,eQ,eR,eS,eT,eU,eV,eW,eX,eY,eZ,e0,e1,e2,e3,e4,e5,e6,e7,e8,e9,fa,fc,fd,ff,fg,fh,fi,fj,fk,fl,fm,fn,fp,fq,fr,fs,ft,fu,fv,fw,fx,fy,fz,fA,fB,fC,fD,fE,fF,fG,fH,fI,fJ,fK,fL,fM,fN,fO,fP,fQ,fR,fS,fT,fU,fW,fX,fY,fZ,f0,f1,f2,f3,f4,f5,f6,f7,f8,f9,ga,gb,gc,gd,ge,gf,gg,gh,gi,gj,gk,gl,gm,gn,go,gp,gq,gr,gs,gt,gu,gv,gw,gx,gy,gz,gA,gB,gC,gE,gF,gG,gH,gI,gJ,gK,gL,gN,gO,gP,gQ,gR,gS,gT,gU,gV,gW,gX,gY,gZ,g4,g5,g6,g7,g8,g9,ha,hb,hc,hd,hf,hh,hi,hj,hl,hm,hn,ho,hq,hr,hs,ht,hu,hv,hx,hy,hz,hA,hB,hC,hD,hE,hF,hG,hH,hI,hJ,hK,hL,hM,hN,hO,hP,hQ,hR,hS],[]⟩ w0:=by
 conv=>arg 2;whnf
 have hX:ay (∀(a:Act)(w':aw)(l:Nat->Prop),a.tmps.getD 4 undef=ak 0->a.defers=[]->(cq rp rb ca b8).J l {s with T:=eD L s.T s.T.length} w'->ce F w l w'->_):=b9;have hY:ay (∃l,ku rp rb ca b8 F s w ap ci L 0 w l):=⟨F,h,⟨Fr.refl F w,fun _ f=>aL f⟩,b4,b5⟩
 have aF:ay (_/\_):=⟨b6,b7⟩
 have cb:ay (_=_):=hw;clear b9 h b4 b5 b6 b7 hw
 go_upto_region 45 with fail
 rw[cb.o];clear cb hT hU hV hW;go_wp2_with fail
 go_loopw [21] (fun iv wr=>∃j:Nat,j<=s.T.length/\iv=ak j/\ay (∃l,ku rp rb ca b8 F s w ap ci L j wr l)) (fun iv _=>s.T.length-(intOf iv).toNat)
 case atStart=>exact⟨0,aX _,rfl,hY⟩
 case round=>
  obtain⟨j,hZ,rfl,bl⟩:=hrel;obtain⟨ar,ai⟩:=bl.o;obtain⟨h0,cT,h1,h2,cc⟩:=kh ai.J;have bn:=i3 L s.T j;have c0:wr.cell? (ao rp 0)=some (.slice h0 s.T.length cT):=by rw[<-bn];exact h1
  by_cases aR:j<s.T.length
  ·have bo:(eD L s.T j)[j]?=some (s.T.getD j t0):=by
    have m:=p6 L s.T j j hZ aR;rw[aH (Nat.lt_irrefl j),aG] at m;obtain⟨x,h3⟩:∃x,(eD L s.T j)[j]?=some x:=⟨_,aI (by rw[bn];exact aR)⟩
    rw[h3] at m⊢;rw[<-m];rfl
   obtain⟨b,cd,cp,rfl,u0,u1,u2,u3,iA,iB⟩:=cc j _ bo;have iC:=hide bo;obtain⟨h4,h5,fb,h6,cf⟩:=Du (s:={s with T:=eD L s.T j}) ai.J bo (by rw[bn];exact c0)
   have bp:=aF.o.2.len;obtain⟨n,h7,h8⟩:=d4 ai.row aa;obtain⟨rfl,rfl⟩:ap=an n/\ci=h7:=by simpa using h8
   have cg:=(fe ai.row (jA (L:=L) (i:=j) aa)).1;have h9:n≠b:=fun e=>ai.no n rfl (by rw[e];exact fb)
   have a2:=hide ai;have ia:ay (L.getD j false=true->_):=fun e=>aF.o.2.al j e;have ch:=hide (aF.o.1.tl j)
   have a3:=gM h4 h5 fb;have cj:=hide c0;cases hg:L.getD j false
   ·rw[hg] at cg;have HN:ay (∃l,ku rp rb ca b8 F s w (an n) ci L (j+1) ((wr.setCell ⟨b,j*4+3,none⟩ (.bool true)).setCell ⟨b,j*4+1,none⟩ (.slice none 0 0)) l):=by
     have ib:(wr.setCell ⟨b,j*4+3,none⟩ (.bool true)).cell? (ao rp 0)=some (.slice (an b) s.T.length cT):=by
      have:=cj.o;unfold World.cell? at this⊢
      rw[aP _ _ _ _ (show rp≠b from fun e=>cf e.symm)];exact this
     obtain⟨q1,u⟩:=xd (s:={s with T:=(eD L s.T j).set j ((s.T.getD j t0).1,(s.T.getD j t0).2.1,(s.T.getD j t0).2.2.1,true)}) a3.o.2.1 (i:=j) (x:=((s.T.getD j t0).1,(s.T.getD j t0).2.1,(s.T.getD j t0).2.2.1,true)) (by
      show((eD L s.T j).set j _)[j]?=_;rw[List.getElem?_set_self (by rw[i3];exact aR)]) (b:=b) (cT:=cT) (by
      show _=some (Value.slice (an b) ((eD L s.T j).set j _).length cT)
      rw[bf,i3];exact ib) none 0 [] (fun hp=>absurd hp ac) (fun _ _ hp=>absurd hp ac)
     refine⟨_,a2.o.next (by
      have e:(eD L s.T j).set j (eK L j (s.T.getD j t0))=((eD L s.T j).set j ((s.T.getD j t0).1,(s.T.getD j t0).2.1,(s.T.getD j t0).2.2.1,true)).set j ((s.T.getD j t0).1,[],(s.T.getD j t0).2.2.1,true):=by rw[p9];unfold eK;rw[hg,aH ac]
      rw[e];exact q1) ⟨((Fr.refl ar wr).set b _ _ a3.o.2.2).trans u (fun _ f=>aL f),fun k f=>?_⟩⟩
     rcases f with f|⟨hp,_⟩
     ·exact aL f
     ·exact absurd hp ac
    as_aux_lemma=>
    go_wp2_with fail;go_roundw;exact⟨j+1,aa,aj,HN⟩
    case measure=>simp[intOf];omega
   ·rw[hg] at cg;have al:=ia.o hg;have ax:=dq (aF.o.1.fv j al) (aF.o.1.fl j al)
    have ic:ay (_=_):=hg;have ck:∀k,k≠b->(wr.setCell ⟨b,j*4+2,none⟩ (.bool true)).heap[k]?=wr.heap[k]?:=fun k hk=>aP _ _ _ _ hk;have N:ay ((cq rp rb ca b8).J ar {s with T:=(eD L s.T j).set j ((s.T.getD j t0).1,(s.T.getD j t0).2.1,true,(s.T.getD j t0).2.2.2)} (wr.setCell ⟨b,j*4+2,none⟩ (.bool true))/\(wr.setCell ⟨b,j*4+2,none⟩ (.bool true)).cell? (ao rp 0)=some (.slice (an b) s.T.length cT)/\ce ar wr ar (wr.setCell ⟨b,j*4+2,none⟩ (.bool true))/\km (wr.setCell ⟨b,j*4+2,none⟩ (.bool true)) (an n) L):=by
     refine⟨a3.o.1,?_,⟨(Fr.refl ar wr).set b _ _ a3.o.2.2,fun _ f=>aL f⟩,?_⟩
     ·have:=cj.o;unfold World.cell? at this⊢
      rw[ck rp (fun e=>cf e.symm)];exact this
     ·have cl:=cy a2.o.row (fun k e=>ck k (fun ie=>by have e:_=_:=e;cases e;exact h9 ie))
      rw[<-bp] at cl;exact oG cl
    have cm:∀o,o≠j*4+2->∀v,wr.cell? (ao b o)=some v->(wr.setCell ⟨b,j*4+2,none⟩ (.bool true)).cell? (ao b o)=some v:=fun o ig v ih=>by rw[a5 _ _ _ _ (fun e=>ig (by injection e with _ e;exact e.symm))];exact ih
    have y0:=cm (j*4) aa _ u0;have y1:=cm (j*4+1) aa _ u1;have ab:_:=aM _ _ y0;have cn:(wr.setCell ⟨b,j*4+2,none⟩ (.bool true)).frozen? (ao b (j*4+1))=false:=by rw[World.frozen?_setCell];exact h6 (j*4+1)
    have ii:∀{w3:aw}(ad:Option Addr)(bb:Nat)(B:List (Int×Int)),Below (wr.setCell ⟨b,j*4+2,none⟩ (.bool true)).heap.size (wr.setCell ⟨b,j*4+2,none⟩ (.bool true)) w3->c8 w3 ad B->(∀S W,0<B.length->ad=some ⟨S,W,none⟩->(wr.setCell ⟨b,j*4+2,none⟩ (.bool true)).heap.size<=S)->eK L j (s.T.getD j t0)=((s.T.getD j t0).1,B,true,(s.T.getD j t0).2.2.2)->
     ∃l,ku rp rb ca b8 F s w (an n) ci L (j+1) (w3.setCell ⟨b,j*4+1,none⟩ (.slice ad B.length bb)) l:=fun {w3} ad bb B c ij co he=>by
     have ik:=(cq rp rb ca b8).below N.o.1 c;have il:=(c.cell (p:=ao rp 0) (aM _ _ N.o.2.1)).trans N.o.2.1;obtain⟨q1,u⟩:=xd (s:={s with T:=(eD L s.T j).set j ((s.T.getD j t0).1,(s.T.getD j t0).2.1,true,(s.T.getD j t0).2.2.2)}) ik (i:=j) (x:=((s.T.getD j t0).1,(s.T.getD j t0).2.1,true,(s.T.getD j t0).2.2.2)) (by
      show((eD L s.T j).set j _)[j]?=_;rw[List.getElem?_set_self (by rw[i3];exact aR)]) (b:=b) (cT:=cT) (by
      show _=some (Value.slice (an b) ((eD L s.T j).set j _).length cT)
      rw[bf,i3];exact il) ad bb B ij (fun S W hp e f=>by
      have m:=co S W hp e;have aT:=(cq rp rb ca b8).lt N.o.1 S f;omega)
     refine⟨_,a2.o.next (by
      have e:(eD L s.T j).set j (eK L j (s.T.getD j t0))=((eD L s.T j).set j ((s.T.getD j t0).1,(s.T.getD j t0).2.1,true,(s.T.getD j t0).2.2.2)).set j ((s.T.getD j t0).1,B,true,(s.T.getD j t0).2.2.2):=by rw[p9,he]
      rw[e];exact q1) ⟨(N.o.2.2.1.fr.trans (Fr.of c) (fun _ f=>aL f)).trans u (fun _ f=>aL f),fun k f=>?_⟩⟩
     rcases f with f|⟨hp,W,e⟩
     ·exact aL f
     ·have m:=co k W hp e;have aT:(wr.setCell ⟨b,j*4+2,none⟩ (.bool true)).heap.size=wr.heap.size:=by simp[World.setCell]
      exact aK aa
    have qc:ay (∀{w3:aw}(ad:Option Addr)(bb:Nat)(B:List (Int×Int)),Below (wr.setCell ⟨b,j*4+2,none⟩ (.bool true)).heap.size (wr.setCell ⟨b,j*4+2,none⟩ (.bool true)) w3->c8 w3 ad B->(∀S W,0<B.length->ad=some ⟨S,W,none⟩->(wr.setCell ⟨b,j*4+2,none⟩ (.bool true)).heap.size<=S)->eK L j (s.T.getD j t0)=((s.T.getD j t0).1,B,true,(s.T.getD j t0).2.2.2)->
     _):=ii
    have oK:ay (∀w3:aw,Below (wr.setCell ⟨b,j*4+2,none⟩ (.bool true)).heap.size (wr.setCell ⟨b,j*4+2,none⟩ (.bool true)) w3->eK L j (s.T.getD j t0)=((s.T.getD j t0).1,(s.T.getD j t0).2.1,true,(s.T.getD j t0).2.2.2)->∃l,ku rp rb ca b8 F s w (an n) ci L (j+1) w3 l):=fun w3 c he=>by refine⟨ar,a2.o.next (by rw[he];exact(cq rp rb ca b8).below N.o.1 c) ⟨N.o.2.2.1.fr.trans (Fr.of c) (fun _ f=>aL f),fun k f=>aL f⟩⟩
    have aV:ay (eK L j (s.T.getD j t0)=((s.T.getD j t0).1,(if(s.T.getD j t0).1=4/\dy L ((s.T.getD j t0).2.1.getD 0 (0,0))=false then[(2,0),(2,0)] else if(s.T.getD j t0).1=3/\dy L ((s.T.getD j t0).2.1.getD 0 (0,0))=false then[(2,0),(s.T.getD j t0).2.1.getD 1 (0,0)] else(s.T.getD j t0).2.1),true,(s.T.getD j t0).2.2.2)):=by show _=_;unfold eK;rw[ic.o,aJ rfl]
    obtain⟨iD,iE,im,_,io⟩:=kh N.o.1;obtain⟨b2,cr,iF,ip,_,iq,_,_,ir,_⟩:=io j ((s.T.getD j t0).1,(s.T.getD j t0).2.1,true,(s.T.getD j t0).2.2.2) (by show((eD L s.T j).set j _)[j]?=_;rw[List.getElem?_set_self (by rw[i3];exact aR)])
    obtain rfl:b=b2:=by
     have q:=im.symm.trans N.o.2.1;rw[ip] at q;have u:b2=b:=by injection q with q;injection q with q;injection q with q;injection q
     exact u.symm
    obtain rfl:cd=cr:=by
     have q:=y1.symm.trans iq;have u:cd=cr:=by injection q with q;injection q
     exact u
    have bd:=hide ir;have be:=hide N.o.2.2.2;generalize s.T.getD j t0=t at*;obtain⟨kd,bg,cs,bi⟩:=t;have is:kd=3\/kd=4\/(kd≠3/\kd≠4):=aa;rcases is with it|iu|a0
    ·subst it;have l2:=ax.o.2 (aL rfl)
     obtain⟨d,g,rfl⟩:∃d g,bg=[d,g]:=by
      match bg,l2 with
      |[d,g],_=>exact⟨d,g,rfl⟩
     obtain⟨fb,dl,rfl,a1,aB⟩:=bd.o ac;obtain⟨x0,x1⟩:=aB 0 ac;obtain⟨x2,x3⟩:=aB 1 ac;have x0:(wr.setCell ⟨b,j*4+2,none⟩ (.bool true)).cell? (ao fb dl)=some (ak d.1):=by simpa using x0
     have x1:(wr.setCell ⟨b,j*4+2,none⟩ (.bool true)).cell? (ao fb (dl+1))=some (ak d.2):=by simpa using x1
     have x2:(wr.setCell ⟨b,j*4+2,none⟩ (.bool true)).cell? (ao fb (dl+2))=some (ak g.1):=by simpa using x2
     have x3:(wr.setCell ⟨b,j*4+2,none⟩ (.bool true)).cell? (ao fb (dl+3))=some (ak g.2):=by simpa using x3
     have ag:=p_ (wr.setCell ⟨b,j*4+2,none⟩ (.bool true)) (an n) ci L d be.o (fun br=>by obtain⟨q1,u⟩:=ax.o.1 d ac br;have:=u.1;exact⟨q1,aa⟩) aa;rw[bp] at ag;have mE:ay (eK L j (3,[d,g],cs,bi)=(3,(if dy L d=false then[(2,0),g] else[d,g]),true,bi)):=by show _=_;rw[aV.o];simp
     obtain⟨g0,g1⟩:=d;obtain⟨g2,g3⟩:=g;go_wp2_with fail;refine ag.mono ?_;clear ag;rintro e w3 ⟨rfl,c⟩
     dsimp only;have v0:=(c.cell (p:=ao b (j*4)) ab).trans y0;have v1:=(c.cell (p:=ao b (j*4+1)) ab).trans y1;have v2:=(c.cell (p:=ao fb (dl+2)) a1).trans x2;have iw:=(c.cell (p:=ao fb (dl+3)) a1).trans x3;have ix:w3.frozen? (ao b (j*4+1))=false:=by
      have:=cn;unfold World.frozen? at this⊢
      dsimp only at this⊢
      rw[c.block b ab];exact this
     have bs:_:=aO ab c.size;cases hin:dy L (g0,g1)
     ·have HN:ay (∃l,ku rp rb ca b8 F s w (an n) ci L (j+1) ((w3.setCell ⟨b,j*4+1,none⟩ (.slice (some ⟨w3.heap.size,0,none⟩) 2 2)).alloc (.cells #[.int .i64 2,.int .i64 0,.int .i64 g2,.int .i64 g3] 97)) l):=by
       have m:=qc.o (w3:=w3.alloc (.cells #[.int .i64 2,.int .i64 0,.int .i64 g2,.int .i64 g3] 97)) (an w3.heap.size) 2 [(2,0),(g2,g3)] (c.alloc c.size _) (pair_cells _ _ _ _) (fun S W _ e=>by cases e;exact c.size) (by rw[mE.o,hin];rfl)
       have aT:([(2,0),(g2,g3)]:List (Int×Int)).length=2:=rfl;rw[aT,World.setCell_alloc_past _ _ _ _ bs] at m;exact m
      exact sw
     ·have HN:ay (_):=oK.o w3 c (by rw[mE.o,hin];rfl)
      exact sw
    ·subst iu;have l2:=ax.o.2 (aK rfl)
     obtain⟨d,g,rfl⟩:∃d g,bg=[d,g]:=by
      match bg,l2 with
      |[d,g],_=>exact⟨d,g,rfl⟩
     obtain⟨fb,dl,rfl,a1,aB⟩:=bd.o ac;obtain⟨x0,x1⟩:=aB 0 ac;obtain⟨x2,x3⟩:=aB 1 ac;have x0:(wr.setCell ⟨b,j*4+2,none⟩ (.bool true)).cell? (ao fb dl)=some (ak d.1):=by simpa using x0
     have x1:(wr.setCell ⟨b,j*4+2,none⟩ (.bool true)).cell? (ao fb (dl+1))=some (ak d.2):=by simpa using x1
     have x2:(wr.setCell ⟨b,j*4+2,none⟩ (.bool true)).cell? (ao fb (dl+2))=some (ak g.1):=by simpa using x2
     have x3:(wr.setCell ⟨b,j*4+2,none⟩ (.bool true)).cell? (ao fb (dl+3))=some (ak g.2):=by simpa using x3
     have ag:=p_ (wr.setCell ⟨b,j*4+2,none⟩ (.bool true)) (an n) ci L d be.o (fun br=>by obtain⟨q1,u⟩:=ax.o.1 d ac br;have:=u.1;exact⟨q1,aa⟩) aa;rw[bp] at ag;have mE:ay (eK L j (4,[d,g],cs,bi)=(4,(if dy L d=false then[(2,0),(2,0)] else[d,g]),true,bi)):=by show _=_;rw[aV.o];simp
     obtain⟨g0,g1⟩:=d;obtain⟨g2,g3⟩:=g;dsimp only at x0 x1 x2 x3 ag mE;clear aB bd l2 aV ax ch be;go_wp2_with fail;refine ag.mono ?_;clear ag;rintro e w3 ⟨rfl,c⟩
     dsimp only;have v0:=(c.cell (p:=ao b (j*4)) ab).trans y0;have v1:=(c.cell (p:=ao b (j*4+1)) ab).trans y1;have v2:=(c.cell (p:=ao fb (dl+2)) a1).trans x2;have iw:=(c.cell (p:=ao fb (dl+3)) a1).trans x3;have ix:w3.frozen? (ao b (j*4+1))=false:=by
      have:=cn;unfold World.frozen? at this⊢
      dsimp only at this⊢
      rw[c.block b ab];exact this
     have bs:_:=aO ab c.size;cases hin:dy L (g0,g1)
     ·have HN:ay (∃l,ku rp rb ca b8 F s w (an n) ci L (j+1) ((w3.setCell ⟨b,j*4+1,none⟩ (.slice (some ⟨w3.heap.size,0,none⟩) 2 2)).alloc (.cells #[.int .i64 2,.int .i64 0,.int .i64 2,.int .i64 0] 97)) l):=by
       have m:=qc.o (w3:=w3.alloc (.cells #[.int .i64 2,.int .i64 0,.int .i64 2,.int .i64 0] 97)) (an w3.heap.size) 2 [(2,0),(2,0)] (c.alloc c.size _) (pair_cells _ _ _ _) (fun S W _ e=>by cases e;exact c.size) (by rw[mE.o,hin];rfl)
       have aT:([(2,0),(2,0)]:List (Int×Int)).length=2:=rfl;rw[aT,World.setCell_alloc_past _ _ _ _ bs] at m;exact m
      exact sw
     ·have HN:=hide (oK.o w3 c (by rw[mE.o,hin];rfl))
      go_wp2_with fail;go_roundw;exact⟨j+1,aa,aj,HN⟩
      case measure=>simp[intOf];omega
    ·have iG:(kd==3)=false:=by simpa using a0.1
     have n4:(kd==4)=false:=by simpa using a0.2
     have HN:ay (_):=oK.o _ bZ (by rw[aV.o,aH (fun q=>a0.2 q.1),aH (fun q=>a0.1 q.1)])
     clear qc oK aV bd be ax ch a0;go_wp2_with fail;go_roundw;exact⟨j+1,aa,aj,HN⟩
     simp[intOf];omega
  ·obtain rfl:j=s.T.length:=aa;have HN:ay (_):=bl;clear cc h2 ai bl;go_wp2_with fail;obtain⟨iy,ct⟩:=HN.o;refine hX.o _ _ iy ?_ ?_ ct.J ct.tn
   ·rfl
   ·rfl
end
end mD
namespace mD
open Go.RowKit W Kp ch
theorem sx {d:Type}(p:d->Bool)(l:List d)(i:Nat)(h:i<l.length)(b:d):(l.take (i+1)).filter p=(l.take i).filter p++if p (l.getD i b)=true then[l.getD i b] else[]:=by
 rw[fE l i h b,List.filter_append]
 congr 1
 cases c:p (l.getD i b)
 ·rw[List.filter_cons_of_neg (by rw[c];simp)];simp
 ·rw[List.filter_cons_of_pos c];simp
theorem Dx {b c:Type}(f:b->c)(l:List b)(i:Nat)(d:b)(e:c)(h:i<l.length):(l.map f).getD i e=f (l.getD i d):=by rw[aG,bv,aG,aI h];rfl
theorem xg {w:aw}(b c:Int):∀a,(an w.heap.size:Option Addr)=some a->∀k u,(ev [(b,c)])[k]?=some u->(w.alloc (.cells #[.int .i64 b,.int .i64 c] 116)).cell? (a.add k)=some u:=fun a e k u hk=>by
 have sv:=aN w (.cells #[.int .i64 b,.int .i64 c] 116)
 exact xe
theorem xh {wr wq b:aw}{c d:Option Addr}{rc f:Nat}{R:List b9}{e:b9}(hb:Below wr.heap.size wr wq)(g:wq.ownsRow wr.heap.size 116 2 (.slice c R.length rc) R.length (ev R))(fr:Fr (fun k=>some k=(Value.slice c R.length rc).ownBlock) wq b)(i:b.ownsRow wr.heap.size 116 2 (.slice d (R.length+1) f) (R.length+1) (ev R++ev [e])):
 b.ownsRow wr.heap.size 116 2 (.slice d (R++[e]).length f) (R++[e]).length (ev (R++[e]))/\Below wr.heap.size wr b:=by
 have j:(R++[e]).length=R.length+1:=ac;have l:ev (R++[e])=ev R++ev [e]:=by simp[ev]
 rw[j,l];exact⟨i,hb.trans (fr.below hb.size (fun k e=>(cg g k e).1))⟩
section
variable {rp rb:Nat}{ca b8:Int}{F:Nat->Prop}{s:cn}{w:aw}
theorem Dy {s1 s2 cx s4 s5 s6 cz cA cB cC cD cE cF cH cJ cK cL cM cN cO cP cQ cR cS cT cU cV cW cX cY cZ c0 c1 c2 c3 c4 c5 c6 c7 c8 c9 da db dc dd de df dg dh di dj dk dl dm dn dp iK dq dr ds dt du dv dw dx dy dz dA dB dC dD dE dF dG dH dI dJ dK dL dM dN dO dP dQ dR dS dT dV dW dX dY dZ d0 d1 d2 d3 d5 d6 d7 d8 d9 ea eb ed ee ef eg eh ei ej ek el em en eo ep eq er es et eu ew ex ey ez eA eB eC eE eF eG eH eI eJ eK eL eM eN eO eP eQ eR eS eT eU eV eW eX eY eZ e0 e1 e2 e3 e4 e5 e6 e7 e9 fa fb fc fd ff fg fh fi fj fk fl fm fn fo fp fq fr fs ft fu fv fx fy fz fA fB fC fD fE fF fG fI fJ fK fL fM fN fO fP fQ fR fS fT fU fW fX fY fZ f0 f1 f2 f3 f4 f5 f6 f7 f8 f9 ga gb gc gd ge gf gg gh gi gj gk gl gm go gp gq gr gs gt gu gv gw gx gy gz gA gB gC gD gE gG gH gI gJ gK gL gM gN gO gP gQ gR gS gT gU gV gW gX gY gZ g2 g3 g4 g5 g6 g7 g8 g9 hc hf hh hj hl hm hn ho hp hq hr hs ht hu hv hw hx hy hz hA hC hE hF hG hH hI hJ hK hL hM hN hO hP hQ hR hS hT hU hV hW:Value}{Q:Exit->Act->aw->Prop}{n:Option Addr}{ci be mb ad:Nat}{v0 v1 v2:Value}{B L M D:List Bool}{C:List b9}{m:aw}(h:(cq rp rb ca b8).J F s w)(ag:gF s)(hk:fw w s be mb ad v0 v1 v2 ca b8 D m n ci L M C)(hD:D=s.rg.map (fun e=>!cG B e.2))(cb:fV s.T L)(cc:∀e∈C,e∈s.rg)(io:C.length<=1000)
 (cd:∀(a:Act)(w':aw)(p:Nat->Prop),a.tmps.getD 4 undef=ak 0->a.defers=[]->(cq rp rb ca b8).J p ⟨eD L s.T s.T.length,s.rs,s.rg.filter (fun e=>cG B e.2&&cG L e.1),(s.wt++C).filter (fun e=>cG L e.1)⟩ w'->ce F w p w'->Q .ret a w'):
 Code.wp prog ((find 33 (Tryz.f51.body.getD .skip)).getD .skip) Q ⟨#[am rp,s1,s2,cx,s4,s5,s6,.slice n s.T.length ci,.slice (an be) s.rg.length s.rg.length,cz,cA,am ad,cB,cC,cD,cE,cF,cH,cJ,cK,cL,cM,cN,cO,cP,cQ,cR,cS,cT,cU,cV,cW,cX,cY,cZ,c0,c1,c2,c3,c4,c5,c6,c7,c8,c9,da,db,dc,dd,de,df,dg,dh,di,dj,dk,dl,dm,dn,dp,iK,dq,dr,ds,dt,du,dv,dw,dx,dy,dz,dA,dB,dC,dD,dE,dF,dG,dH,dI,dJ,dK,dL,dM,dN,dO,dP,dQ,dR,dS,dT,dV,dW,dX,dY,dZ,d0,d1,d2,d3,d5,d6,d7,d8,d9,ea,eb,ed,ee,ef,eg,eh,ei,ej,ek,el,em,en,eo,ep,eq,er,es,et,eu,ew,ex,ey,ez,eA,eB,eC,eE,eF,eG,eH,eI,eJ,eK,eL,eM,eN,eO,eP,eQ,eR,eS,eT,eU,eV,eW,eX,eY,eZ,e0,e1,e2,e3,e4,e5,e6,e7,e9,fa,fb,fc,fd,ff,fg,fh,fi,fj,fk,fl,fm,fn,fo,fp,fq,fr,fs,ft,fu,fv,fx,fy,fz,fA,fB,fC,fD,fE,fF,fG,fI,fJ,fK,fL,fM,fN,fO,fP,fQ,fR,fS,fT,fU,fW,fX,fY,fZ,f0,f1,f2,f3,f4,f5,f6,f7,f8,f9,ga,gb,gc,gd,ge,gf,gg,gh,gi,gj,gk,gl,gm,go,gp,gq,gr,gs,gt,gu,gv,gw,gx,gy,gz,gA,gB,gC,gD,gE,gG,gH,gI,gJ,gK,gL,gM,gN,gO,gP,gQ,gR,gS,gT,gU,gV,gW,gX,gY,gZ,g2,g3,g4,g5,g6,g7,g8,g9,hc,hf,hh,hj,hl,hm,hn,ho,hp,hq,hr,hs,ht,hu,hv,hw,hx,hy,hz,hA,hC,hE,hF,hG,hH,hI,hJ,hK,hL,hM,hN,hO,hP,hQ,hR,hS,hT,hU,hV,hW],[]⟩ m:=by
 conv=>arg 2;whnf
 have hX:ay (∀(a:Act)(w':aw)(p:Nat->Prop),a.tmps.getD 4 undef=ak 0->a.defers=[]->(cq rp rb ca b8).J p ⟨eD L s.T s.T.length,s.rs,s.rg.filter (fun e=>cG B e.2&&cG L e.1),(s.wt++C).filter (fun e=>cG L e.1)⟩ w'->ce F w p w'->Q .ret a w'):=cd;have ai:ay ((cq rp rb ca b8).J F s w):=h;have q:ay (gF s):=ag;have al:ay (fw w s be mb ad v0 v1 v2 ca b8 D m n ci L M C):=hk;have cf:ay (D=s.rg.map (fun e=>!cG B e.2)):=hD;have br:ay (fV s.T L):=cb;have ch:ay (∀e∈C,e∈s.rg):=cc;have hY:=ag.tl;have ip:=ag.gl;have iq:=ag.wl;have cj:ay (∀w',Below w.heap.size w w'->∃v2 bg,w'.cell? (ao rp 2)=some v2/\w'.cell? (ao rp 3)=some bg/\w'.ownsRow 0 116 2 v2 s.rg.length (ev s.rg)/\w'.ownsRow 0 116 2 bg s.wt.length (ev s.wt)):=fun w' hb=>by
  obtain⟨v2,bg,q1,bs,q3,hZ,_⟩:=pQ ((cq rp rb ca b8).below h hb)
  exact⟨v2,bg,q1,bs,q3,hZ⟩
 obtain⟨ck,cl,cm,cn,co⟩:=info_parts w_;clear cd h ag hk hD cb cc;go_wp2_with fail
 go_loopw [17,19] (fun rv iv ap=>∃(i:Nat)(ra:Option Addr)(rc:Nat)(R:List b9),i<=s.rg.length/\rv=.slice ra R.length rc/\iv=ak i/\ay (R=(s.rg.take i).filter (fun e=>cG B e.2&&cG L e.1))/\ay (ap.ownsRow m.heap.size 116 2 (.slice ra R.length rc) R.length (ev R)/\Below m.heap.size m ap)) (fun _ iv _=>s.rg.length-(intOf iv).toNat)
 case atStart=>exact⟨0,none,0,[],aX _,rfl,rfl,rfl,⟨a6 _ _ _ _,aE _ _⟩⟩
 case round=>
  obtain⟨i,ra,rc,R,hi,rfl,rfl,j,fH⟩:=hrel;have g:=al.o.below fH.o.2;obtain⟨h0,h1,cp,_,bi,_⟩:=cj.o wr g.bl;obtain⟨ir,is,h2⟩:=dU bi;subst h2;by_cases t:i<s.rg.length
  ·obtain⟨h3,h4,rfl,h5,ar⟩:=gn bi aa;obtain⟨ax,y1⟩:=ar i t;have aB:s.rg.getD i (0,0)∈s.rg:=getD_in t;obtain⟨⟨g0,g1⟩,n0,n1⟩:=q.o.gv _ aB;obtain⟨b,c,S⟩:∃b bt:Nat,s.rg.getD i (0,0)=((b:Int),(bt:Int)):=⟨(s.rg.getD i (0,0)).1.toNat,(s.rg.getD i (0,0)).2.toNat,by rw[show(((s.rg.getD i (0,0)).1.toNat:Nat):Int)=(s.rg.getD i (0,0)).1 by omega,show(((s.rg.getD i (0,0)).2.toNat:Nat):Int)=(s.rg.getD i (0,0)).2 by omega]⟩
   have d:=sx (fun e:b9=>cG B e.2&&cG L e.1) s.rg i t (0,0)
   have v:D.getD i false=!cG B (s.rg.getD i (0,0)).2:=by rw[cf.o];exact Dx (fun e:b9=>!cG B e.2) s.rg i (0,0) false t
   rw[S] at ax y1 g1 n1 d v;dsimp only at ax y1 g1 n1 d v;have g1:b<s.T.length:=by simpa using g1.1
   have h6:=br.o.len;obtain⟨bx,b0,aF⟩:=d4 g.ri aa;obtain⟨rfl,rfl⟩:n=an bx/\ci=b0:=by simpa using aF
   have cr:=(fe g.rd (jA (L:=D) (i:=i) (by rw[cf.o,aU];exact t))).1;have ab:=(fe g.ri (jA (L:=L) (i:=b) aa)).1;have q0:(0:Int)<=(i:Int):=aa;have q1:(i:Int)<(s.rg.length:Int):=aa;have bs:(0:Int)<=(b:Int):=aa;have q3:(b:Int)<(s.T.length:Int):=aa;have aR:cG L (b:Int)=L.getD b false:=rfl;rw[aR] at d;have d:ay ((s.rg.take (i+1)).filter (fun e=>cG B e.2&&cG L e.1)=R++if(cG B (c:Int)&&L.getD b false)=true then[((b:Int),(c:Int))] else[]):=by show _=_;rw[d,j.o]
   clear ar aF bi g g0 n0 n1 aB aR;cases hd:D.getD i false
   ·rw[hd] at cr;have hB:cG B (c:Int)=true:=by rw[hd] at v;simpa using v.symm
    cases hg:L.getD b false
    ·rw[hg] at ab;have HN:ay (R=(s.rg.take (i+1)).filter (fun e=>cG B e.2&&cG L e.1)):=by show _=_;rw[d.o,hB,hg];simp
     clear d j v hd hB hg S;exact xf
    ·rw[hg] at ab;have HN:ay (R++[((b:Int),(c:Int))]=(s.rg.take (i+1)).filter (fun e=>cG B e.2&&cG L e.1)):=by show _=_;rw[d.o,hB,hg];simp
     have b1:ay (∀a,(an wr.heap.size:Option Addr)=some a->∀k u,(ev [((b:Int),(c:Int))])[k]?=some u->(wr.alloc (.cells #[.int .i64 (b:Int),.int .i64 (c:Int)] 116)).cell? (a.add k)=some u):=xg _ _;have aT:ay (Below wr.heap.size wr (wr.alloc (.cells #[.int .i64 (b:Int),.int .i64 (c:Int)] 116))):=aq wr _;have aV:=cy fH.o.1 (fun k e=>aT.o.block k (cg fH.o.1 k e).2)
     have h7:R.length<=1000:=by
      rw[j.o];have l:=bk (fun e:b9=>cG B e.2&&cG L e.1) (s.rg.take i)
      rw[bu] at l;omega
     clear d j v hd hB hg S
     as_aux_lemma=>
     go_upto_region 36 with(at_builtin;refine je _ rfl _ _ 109 rfl m.heap.size 116 ck (.agg #[ak 0,ak 0]) 2 16 underlying109 cl cm cn co rfl ae (.slice ra R.length rc) R.length (ev R) rfl aV (an wr.heap.size) 1 1 (ev [((b:Int),(c:Int))]) rfl rfl (fun e=>by cases e) b1.o (i0 _) (by unfold maxLen;omega) aa (by have:=fH.o.2.size;simp;omega) ?_;intro a0 a1 a2 a3 bb _;have b2:ay (a2.ownsRow m.heap.size 116 2 (.slice a0 (R++[((b:Int),(c:Int))]).length a1) (R++[((b:Int),(c:Int))]).length (ev (R++[((b:Int),(c:Int))]))/\Below m.heap.size m a2):=(xh fH.o.2 fH.o.1 ((Fr.of aT.o).grown bb (fun k e=>aL (by simpa using e.symm))) a3))
     clear a3 bb aV;go_wp2_with fail;go_roundw
     case rel=>exact⟨i+1,a0,a1,R++[((b:Int),(c:Int))],aa,ac,aj,HN,b2⟩
     case measure=>simp[intOf];omega
   ·rw[hd] at cr;have hB:cG B (c:Int)=false:=by rw[hd] at v;simpa using v.symm
    have HN:ay (R=(s.rg.take (i+1)).filter (fun e=>cG B e.2&&cG L e.1)):=by show _=_;rw[d.o,hB];simp
    clear d j v hd hB S ab;exact xf
  ·obtain rfl:i=s.rg.length:=aa;have h8:ay (R=s.rg.filter (fun e=>cG B e.2&&cG L e.1)):=by have l:=j.o;rw[ba] at l;exact l
   have bl:ay (fw w s be mb ad v0 v1 v2 ca b8 D wr n ci L M C):=g;have bn:ay (wr.ownsRow w.heap.size 116 2 (.slice ra R.length rc) R.length (ev R)/\(∀k,some k=(Value.slice ra R.length rc).ownBlock->k<wr.heap.size/\m.heap.size<=k)):=⟨ec fH.o.1 (fun k e=>aS al.o.bl.size (cg fH.o.1 k e).1),fun k e=>⟨(cg fH.o.1 k e).2,(cg fH.o.1 k e).1⟩⟩
   have b3:ay (∀k,some k=(Value.slice n s.T.length ci).ownBlock->k<m.heap.size/\w.heap.size<=k):=fun k e=>⟨(cg al.o.ri k e).2,(cg al.o.ri k e).1⟩
   clear g j fH al bi;go_wp2_with fail;generalize h9:wr=W at*;clear h9;obtain⟨X,bo⟩:∃X,ay (s.wt++C=X):=⟨_,rfl⟩
   go_loopw [18,20] (fun rv iv ap=>∃(i:Nat)(x:Option Addr)(N:Nat)(P:List b9),i<=X.length/\rv=.slice x P.length N/\iv=ak i/\ay (P=(X.take i).filter (fun e=>cG L e.1))/\ay (ap.ownsRow W.heap.size 116 2 (.slice x P.length N) P.length (ev P)/\Below W.heap.size W ap)) (fun _ iv _=>X.length-(intOf iv).toNat)
   case atStart=>exact⟨0,none,0,[],aX _,rfl,rfl,rfl,⟨a6 _ _ _ _,aE _ _⟩⟩
   case round=>
    obtain⟨i,x,N,P,hi,rfl,rfl,j,fH⟩:=hrel;have g:=bl.o.below fH.o.2;obtain⟨ia,ib,bd,bp⟩:=g.kW;rw[bo.o] at bd bp;have it:wr.cell? (ao ad 3)=some (.slice ia X.length ib):=aA bd
    have iu:X.length<=2000:=by rw[<-bo.o,aZ];omega
    by_cases t:i<X.length
    ·obtain⟨h3,h4,rfl,h5,ar⟩:=gn bp aa;obtain⟨ax,y1⟩:=ar i t;have aB:X.getD i (0,0)∈s.wt++C:=by rw[bo.o];exact getD_in t
     obtain⟨⟨g0,g1⟩,n0⟩:(0<=(X.getD i (0,0)).1/\cI s.T (X.getD i (0,0)).1.toNat)/\0<=(X.getD i (0,0)).2:=by
      rcases List.mem_append.1 aB with f|f
      ·exact⟨q.o.wg _ f,(q.o.iv.wv _ f).1⟩
      ·have:=q.o.gv _ (ch.o _ f)
       exact⟨this.1,this.2.1⟩
     obtain⟨b,c,S⟩:∃b bt:Nat,X.getD i (0,0)=((b:Int),(bt:Int)):=⟨(X.getD i (0,0)).1.toNat,(X.getD i (0,0)).2.toNat,by rw[show(((X.getD i (0,0)).1.toNat:Nat):Int)=(X.getD i (0,0)).1 by omega,show(((X.getD i (0,0)).2.toNat:Nat):Int)=(X.getD i (0,0)).2 by omega]⟩
     have d:=sx (fun e:b9=>cG L e.1) X i t (0,0)
     rw[S] at ax y1 g1 d;dsimp only at ax y1 g1 d;have g1:b<s.T.length:=by simpa using g1.1
     have h6:=br.o.len;obtain⟨bx,b0,aF⟩:=d4 g.ri aa;obtain⟨rfl,rfl⟩:n=an bx/\ci=b0:=by simpa using aF
     have ab:=(fe g.ri (jA (L:=L) (i:=b) aa)).1;have q0:(0:Int)<=(i:Int):=aa;have q1:(i:Int)<(X.length:Int):=aa;have bs:(0:Int)<=(b:Int):=aa;have q3:(b:Int)<(s.T.length:Int):=aa;have aR:cG L (b:Int)=L.getD b false:=rfl;rw[aR] at d;have d:ay ((X.take (i+1)).filter (fun e=>cG L e.1)=P++if(L.getD b false)=true then[((b:Int),(c:Int))] else[]):=by show _=_;rw[d,j.o]
     have iw:=lt_of_some bd;clear ar aF bp g g0 n0 aB aR bd S;cases hg:L.getD b false
     ·rw[hg] at ab;have HN:ay (P=(X.take (i+1)).filter (fun e=>cG L e.1)):=by show _=_;rw[d.o,hg];simp
      clear d j hg
      as_aux_lemma=>
      go_wp2_with fail;go_roundw
      case rel=>exact⟨i+1,x,N,P,aa,rfl,aj,HN,fH⟩
      case measure=>simp[intOf];omega
     ·rw[hg] at ab;have HN:ay (P++[((b:Int),(c:Int))]=(X.take (i+1)).filter (fun e=>cG L e.1)):=by show _=_;rw[d.o,hg];simp
      have b1:ay (∀a,(an wr.heap.size:Option Addr)=some a->∀k u,(ev [((b:Int),(c:Int))])[k]?=some u->(wr.alloc (.cells #[.int .i64 (b:Int),.int .i64 (c:Int)] 116)).cell? (a.add k)=some u):=xg _ _;have aT:ay (Below wr.heap.size wr (wr.alloc (.cells #[.int .i64 (b:Int),.int .i64 (c:Int)] 116))):=aq wr _;have aV:=cy fH.o.1 (fun k e=>aT.o.block k (cg fH.o.1 k e).2)
      have h7:P.length<=2000:=by
       rw[j.o];have l:=bk (fun e:b9=>cG L e.1) (X.take i)
       rw[bu] at l;omega
      clear d j hg
      as_aux_lemma=>
      go_upto_region 41 with(at_builtin;refine je _ rfl _ _ 109 rfl W.heap.size 116 ck (.agg #[ak 0,ak 0]) 2 16 underlying109 cl cm cn co rfl ae (.slice x P.length N) P.length (ev P) rfl aV (an wr.heap.size) 1 1 (ev [((b:Int),(c:Int))]) rfl rfl (fun e=>by cases e) b1.o (i0 _) (by unfold maxLen;omega) aa (by have:=fH.o.2.size;simp;omega) ?_;intro a0 a1 a2 a3 bb _;have b2:ay (a2.ownsRow W.heap.size 116 2 (.slice a0 (P++[((b:Int),(c:Int))]).length a1) (P++[((b:Int),(c:Int))]).length (ev (P++[((b:Int),(c:Int))]))/\Below W.heap.size W a2):=(xh fH.o.2 fH.o.1 ((Fr.of aT.o).grown bb (fun k e=>aL (by simpa using e.symm))) a3))
      clear a3 bb aV;go_wp2_with fail;go_roundw
      case rel=>exact⟨i+1,a0,a1,P++[((b:Int),(c:Int))],aa,ac,aj,HN,b2⟩
      case measure=>simp[intOf];omega
    ·obtain rfl:i=X.length:=aa;have cs:ay (P=(s.wt++C).filter (fun e=>cG L e.1)):=by have l:=j.o;rw[ba] at l;rw[bo.o];exact l
     have b4:Below w.heap.size w wr:=g.bl;obtain⟨p,ct,cu,cv⟩:=Dv ai.o R P (.slice ra R.length rc) (.slice x P.length N) wr b4 (cy bn.o.1 (fun k e=>fH.o.2.block k (bn.o.2 k e).1)) (ec fH.o.1 (fun k e=>aS bl.o.bl.size (cg fH.o.1 k e).1)) (fun k e b5=>by have l:=(bn.o.2 k e).1;have b6:=(cg fH.o.1 k b5).1;omega)
     obtain⟨h0,h1,cp,ic,_,_⟩:=cj.o wr b4;have b7:∀o,wr.frozen? (ao rp o)=false:=(e8 ((cq rp rb ca b8).below ai.o b4)).2.2.2.2.2.1;have ie:=b7 2;have ig:=b7 3;have ih:ay (((wr.setCell ⟨rp,2,none⟩ (.slice ra R.length rc)).setCell ⟨rp,3,none⟩ (.slice x P.length N)).ownsRow 0 4 1 (.slice n s.T.length ci) s.T.length (L.map Value.bool)):=ec (cy g.ri (fun k e=>(aP _ _ _ _ (show k≠rp from fun b5=>by
      have l:=(b3.o k e).2;have b6:rp<w.heap.size:=aM w _ (e8 ai.o).1;omega)).trans (aP _ _ _ _ (show k≠rp from fun b5=>by
      have l:=(b3.o k e).2;have b6:rp<w.heap.size:=aM w _ (e8 ai.o).1;omega)))) (fun _ _=>aX _)
     have ii:ay (∀k,some k=(Value.slice n s.T.length ci).ownBlock->¬p k):=fun k e f=>by
      obtain⟨l,b6⟩:=b3.o k e;rcases cv k f with f|f|f
      ·have:=(cq rp rb ca b8).lt ai.o k f;omega
      ·have:=(bn.o.2 k f).2;omega
      ·have ix:=(cg fH.o.1 k f).1;have iy:=cg bl.o.ri k e;omega
     have cw:ay ((cq rp rb ca b8).J p {s with rg:=R,wt:=P} ((wr.setCell ⟨rp,2,none⟩ (.slice ra R.length rc)).setCell ⟨rp,3,none⟩ (.slice x P.length N))/\ce F w p ((wr.setCell ⟨rp,2,none⟩ (.slice ra R.length rc)).setCell ⟨rp,3,none⟩ (.slice x P.length N))):=⟨ct,cu⟩
     clear ct cu cv g bd bp fH bl b7 j
     iterate 28 go_step
     refine Dw (s:={s with rg:=R,wt:=P}) cp ic ie ig rfl cw.o.1 ih.o ii.o ⟨q.o.iv.fl,q.o.iv.fv,fun e he=>?_,q.o.iv.tl⟩ br.o hY ?_
     ·have he:e∈P:=he;rw[cs.o] at he;rcases List.mem_append.1 (List.mem_filter.1 he).1 with f|f
      ·exact q.o.iv.wv e f
      ·exact(q.o.gv e (ch.o e f)).2
     ·intro ij w' ik ha hd il im;refine hX.o ij w' ik ha hd ?_ (cw.o.2.trans im)
      rw[<-h8.o,<-cs.o];exact il
end
end mD
open Go.RowKit W Kp ch
theorem sy {w:aw}{base n m:Nat}{e:TypeId}{d:Option Addr}{f:Nat}{xs:List Value}(h:w.ownsRow base e m (.slice d n f) n xs):d=none->n=0/\f=0:=fun i=>by
 subst i;rcases h.2 with⟨b,j⟩|⟨g,c,k,b,_⟩
 ·simp at b;exact⟨j,b.2⟩
 ·simp at b
end Go.Proofs.YtpkjkjhanlbcoaaGreat
