import Derived.Test.YtjpjpjemibgjpaaGreatJ06
namespace Go.Proofs.YtjpjpjemibgjpaaGreat
set_option maxRecDepth 100000
set_option maxHeartbeats 8000000
open Tryz
open Go.RowKit W Kp cg
theorem xp {P:Prop}(h:P:=by
 cases e;have hlk:k<2:=by have:=(List.getElem?_eq_some_iff.1 hk).1;simpa[ev] using this
 rcases(show k=0\/k=1 by omega) with rfl|rfl
 ·simp[ev] at hk;subst hk;show World.cell? _ ⟨w.heap.size,0,none⟩=_;unfold World.cell?;rw[sE];rfl
 ·simp[ev] at hk;subst hk;show World.cell? _ ⟨w.heap.size,1,none⟩=_;unfold World.cell?;rw[sE];rfl):P:=h
theorem sF {P:Prop}(h:P:=by
 clear qf oM mF x0 x1 x2 x3 y0 y1 u0 u1 u2 u3;go_wp2_with fail;go_roundw
 case rel=>exact⟨j+1,V,af,HN⟩
 case measure=>simp[intOf];omega):P:=h
theorem xq {P:Prop}(h:P:=by
 as_aux_lemma=>
 go_wp2_with fail;go_roundw
 case rel=>exact⟨i+1,ra,rc,R,V,rfl,af,HN,fC⟩
 case measure=>simp[intOf];omega):P:=h
theorem xr:∀(l:List iw)(i:Nat)(x:iw)(v:Bool),l[i]?=some x->tv (l.set i ((x.1.1,x.1.2.1,v,x.1.2.2.2),x.2))=(tv l).set (i*4+2) (.bool v)
 |[],_,_,_,_=>rfl
 |e::l,0,x,v,h=>by simp at h;subst h;simp[tv]
 |e::l,i+1,x,v,h=>by
  have b:(tv (e::l))=ah e.1.1::.slice e.2.1 e.1.2.1.length e.2.2::.bool e.1.2.2.1::.bool e.1.2.2.2::tv l:=by simp[tv]
  have c:∀k:List iw,(tv (e::k))=ah e.1.1::.slice e.2.1 e.1.2.1.length e.2.2::.bool e.1.2.2.1::.bool e.1.2.2.2::tv k:=fun k=>by simp[tv]
  rw[List.set_cons_succ,c,b,(xr l i x v (by simpa using h)),show(i+1)*4+2=i*4+2+1+1+1+1 by omega];simp
theorem xt:∀(l:List iw)(i:Nat)(x:iw)(v:Bool),l[i]?=some x->tv (l.set i ((x.1.1,x.1.2.1,x.1.2.2.1,v),x.2))=(tv l).set (i*4+3) (.bool v)
 |[],_,_,_,_=>rfl
 |e::l,0,x,v,h=>by simp at h;subst h;simp[tv]
 |e::l,i+1,x,v,h=>by
  have b:(tv (e::l))=ah e.1.1::.slice e.2.1 e.1.2.1.length e.2.2::.bool e.1.2.2.1::.bool e.1.2.2.2::tv l:=by simp[tv]
  have c:∀k:List iw,(tv (e::k))=ah e.1.1::.slice e.2.1 e.1.2.1.length e.2.2::.bool e.1.2.2.1::.bool e.1.2.2.2::tv k:=fun k=>by simp[tv]
  rw[List.set_cons_succ,c,b,(xt l i x v (by simpa using h)),show(i+1)*4+3=i*4+3+1+1+1+1 by omega];simp
section
variable {rp rb:Nat}{b9 bY:Int}{F:Nat->Prop}{s:cj}{w:au}
theorem DJ (h:(cn rp rb b9 bY).J F s w){i:Nat}{x:cG}(d:s.T[i]?=some x){b cT:Nat}(hc:w.cell? (am rp 0)=some (.slice (ak b) s.T.length cT)):
 (cn rp rb b9 bY).J F {s with T:=s.T.set i (x.1,x.2.1,true,x.2.2.2)} (w.setCell ⟨b,i*4+2,none⟩ (.bool true))/\(cn rp rb b9 bY).J F {s with T:=s.T.set i (x.1,x.2.1,x.2.2.1,true)} (w.setCell ⟨b,i*4+3,none⟩ (.bool true))/\F b/\(∀o,w.frozen? (am b o)=false)/\b≠rp:=by
 obtain⟨own,m,p,v2,q,h,g⟩:=h;obtain rfl:p=.slice _ s.T.length cT:=by simpa[World.cell?,h.blk] using hc
 have f:=h.ro b rfl;obtain⟨y,hy,rfl⟩:∃y,m[i]?=some y/\y.1=x:=by rw[<-h.nd] at d;simp at d;obtain⟨a,b,c⟩:=d;exact⟨_,c,rfl⟩
 have key:∀(t:cG)(o:Nat)(v:Value),t.2.1=y.1.2.1->tv (m.set i (t,y.2))=(tv m).set o v->(cn rp rb b9 bY).J F {s with T:=s.T.set i t} (w.setCell ⟨b,o,none⟩ v):=fun t o v u A=>by
  have sz:(w.setCell ⟨b,o,none⟩ v).heap.size=w.heap.size:=by simp[World.setCell]
  have hk:∀k,own k≠2->(w.setCell ⟨b,o,none⟩ v).heap[k]?=w.heap[k]?:=fun k B=>aN _ _ _ _ (fun e=>B (by have e:=e;rw[e];exact f))
  refine⟨own,m.set i (t,y.2),.slice (ak b) s.T.length cT,v2,q,?_,g⟩
  exact {
   blk:=(hk _ (by rw[h.b1];decide)).trans h.blk,b1:=h.b1
   row:=by
    have j:m.length=s.T.length:=by rw[<-h.nd];simp
    have l:=h.row;rw[j] at l;rw[aX,A,j];exact jq l _ _
   ro:=h.ro
   nd:=by rw[List.map_set,h.nd]
   fl:=fun z hz=>by
    have old:∀z∈m,cY (w.setCell ⟨b,o,none⟩ v) z.2.1 z.1.2.1/\(0<z.1.2.1.length->∃b o,z.2.1=some ⟨b,o,none⟩/\own b=3):=fun z hz=>⟨(h.fl z hz).1.at (by rw[sz];exact aA _) (fun G H hp e=>by obtain⟨b2,I,n,C⟩:=(h.fl z hz).2 hp;rw[e] at n;cases n;exact hk _ (by rw[C];decide)),(h.fl z hz).2⟩
    rcases bB hz with hz|hz
    ·exact old z hz
    ·subst hz;have:=old y (List.mem_of_getElem? hy)
     rw[<-u] at this
     exact this
   rt:=(hk _ (by rw[h.r1];decide)).trans h.rt,rl:=h.rl,r1:=h.r1
   g2:=cv h.g2 (fun b e=>hk b (by rw[h.fN b e];decide)),fN:=h.fN
   g3:=cv h.g3 (fun b e=>hk b (by rw[h.fX b e];decide)),fX:=h.fX
   lt:=fun k D=>by rw[sz];exact h.lt k D}
 refine⟨key _ _ _ rfl (xr m i y true hy),key _ _ _ rfl (xt m i y true hy),(g b).2 (by rw[f];decide),fun o=>?_,fun e=>by rw[e,h.b1] at f;omega⟩
 obtain⟨J,E⟩:=dZ h.row b rfl;simp[World.frozen?,E]
theorem xu (h:(cn rp rb b9 bY).J F s w){i:Nat}{x:cG}(f:s.T[i]?=some x){b cT:Nat}(hc:w.cell? (am rp 0)=some (.slice (ak b) s.T.length cT))(e:Option Addr)(c:Nat)(d:List _)(g:cY w e d)(j:∀b o,0<d.length->e=some ⟨b,o,none⟩->¬F b):
 (cn rp rb b9 bY).J (fun b=>F b\/(0<d.length/\∃o,e=some ⟨b,o,none⟩)) {s with T:=s.T.set i (x.1,d,x.2.2)} (w.setCell ⟨b,i*4+1,none⟩ (.slice e d.length c))/\Fr F w (w.setCell ⟨b,i*4+1,none⟩ (.slice e d.length c)):=by
 obtain⟨k,l,m,n,q,_,_,_,p⟩:=pT h;obtain rfl:l=.slice _ s.T.length cT:=by have:=n.symm.trans hc;simpa using this
 obtain⟨y,hy,rfl⟩:∃y,k[i]?=some y/\y.1=x:=by rw[<-m] at f;simp at f;obtain⟨a,b,c⟩:=f;exact⟨_,c,rfl⟩
 exact p i y e c d b hy rfl g j
theorem DK (h:(cn rp rb b9 bY).J F s w)(l x:List bZ)(v f:Value)(w1:au)(g:Below w.heap.size w w1)(n:w1.ownsRow w.heap.size 97 2 v l.length (ev l))(p:w1.ownsRow w.heap.size 97 2 f x.length (ev x))(I:∀b,some b=v.ownBlock->¬some b=f.ownBlock):
 ∃A,(cn rp rb b9 bY).J A {s with rg:=l,wt:=x} ((w1.setCell ⟨rp,2,none⟩ v).setCell ⟨rp,3,none⟩ f)/\b_ F w A ((w1.setCell ⟨rp,2,none⟩ v).setCell ⟨rp,3,none⟩ f)/\(∀b,A b->F b\/some b=v.ownBlock\/some b=f.ownBlock):=by
 classical
 obtain⟨own,m,J,v2,O,h,q⟩:=h;have C:=h.blk;have D:∀b,w.heap.size<=b->_=_:=fun b g=>Classical.byContradiction (fun c=>by have:=h.lt b c;omega)
 have n1:∀b,some b=v.ownBlock->_=_:=fun b e=>D b (ce n b e).1;have K:∀b,some b=f.ownBlock->_=_:=fun b e=>D b (ce p b e).1;have t:∀b j,own b=j->j≠0->(if some b=v.ownBlock then 5 else if some b=f.ownBlock then 6 else own b)=j:=fun b j e h0=>by rw[aE (fun c=>by have:=n1 b c;omega),aE (fun c=>by have:=K b c;omega)];exact e
 have sz:((w1.setCell ⟨rp,2,none⟩ v).setCell ⟨rp,3,none⟩ f).heap.size=w1.heap.size:=by simp[World.setCell]
 have B:∀k,k≠rp->((w1.setCell ⟨rp,2,none⟩ v).setCell ⟨rp,3,none⟩ f).heap[k]?=w1.heap[k]?:=fun k hk=>(aN _ _ _ _ hk).trans (aN _ _ _ _ hk)
 have hk:∀b,b<w.heap.size->own b≠1->_=_:=fun b L M=>(B b (fun e=>M (by rw[e];exact h.b1))).trans (g.block b L)
 have N:=lt_of_some C;refine⟨fun b=>F b\/some b=v.ownBlock\/some b=f.ownBlock,⟨fun b=>if some b=v.ownBlock then 5 else if some b=f.ownBlock then 6 else own b,m,J,v,f,?_,fun b=>?_⟩,⟨?_,fun b d=>?_⟩,fun b d=>d⟩
 ·exact {
   blk:=by have hq:=(g.block rp N).trans C;simp only [World.setCell,Array.getElem?_modify,if_true,hq,Option.map_some];simp
   b1:=t _ _ h.b1 aa
   row:=cv h.row (fun b e=>hk b (ce h.row b e).2 (by rw[h.ro b e];decide))
   ro:=fun b e=>t _ _ (h.ro b e) aa
   nd:=h.nd
   fl:=fun y hy=>by
    refine⟨(h.fl y hy).1.at (by rw[sz];exact g.size) (fun b o hp e=>?_),fun hp=>?_⟩
    ·obtain⟨E,G,i,u⟩:=(h.fl y hy).2 hp;rw[e] at i;cases i;exact hk _ (h.lt _ (by rw[u];decide)) (by rw[u];decide)
    ·obtain⟨E,G,i,u⟩:=(h.fl y hy).2 hp;exact⟨E,G,i,t _ _ u aa⟩
   rt:=(hk _ (lt_of_some h.rt) (by rw[h.r1];decide)).trans h.rt
   rl:=h.rl
   r1:=t _ _ h.r1 aa
   g2:=d7 (cv n (fun b e=>B b (fun i=>by have:=(ce n b e).1;omega))) (fun _ _=>aS _)
   fN:=fun b e=>by rw[aH e]
   g3:=d7 (cv p (fun b e=>B b (fun i=>by have:=(ce p b e).1;omega))) (fun _ _=>aS _)
   fX:=fun b e=>by rw[aE (fun c=>I b c e),aH e]
   lt:=fun b H=>by
    rw[sz];by_cases c1:some b=v.ownBlock
    ·exact(ce n b c1).2
    ·by_cases c2:some b=f.ownBlock
     ·exact(ce p b c2).2
     ·rw[aE c1,aE c2] at H;exact aM (h.lt b H) g.size}
 ·by_cases c1:some b=v.ownBlock
  ·simp[c1]
  ·by_cases c2:some b=f.ownBlock
   ·simp only [if_neg c1,if_pos c2];exact⟨fun _=>aa,fun _=>aI (aI c2)⟩
   ·simp only [if_neg c1,if_neg c2];exact⟨fun d=>d.elim (q b).1 (fun d=>d.elim (fun d=>absurd d c1) (fun d=>absurd d c2)),fun d=>aJ ((q b).2 d)⟩
 ·exact((Fr.of g).set rp 2 _ ((q rp).2 (by rw[h.b1];decide))).set rp 3 _ ((q rp).2 (by rw[h.b1];decide))
 ·rcases d with d|d|d
  ·exact aJ d
  ·exact aI (ce n b d).1
  ·exact aI (ce p b d).1
end
namespace mG
def begins (n:Nat):Code->Bool
 |.region m _ _=>m==n
 |.seq a _=>begins n a
 |_=>false
def find (n:Nat):Code->Option Code
 |.seq a b=>match begins n a with
  |true=>some (.seq a b)
  |false=>match find n a with
   |some c=>some c
   |none=>find n b
 |.cond _ a b=>match find n a with
  |some c=>some c
  |none=>find n b
 |.block _ c=>find n c
 |.loop c=>find n c
 |.scope c=>find n c
 |_=>none
theorem qc {c:Type}(l:List c)(i:Nat)(a b:c):(l.set i a).set i b=l.set i b:=Z
theorem pair_cells {w:au}(a b c d:Int):cY (w.alloc (.cells #[.int .i64 a,.int .i64 b,.int .i64 c,.int .i64 d] 77)) (ak w.heap.size) [(a,b),(c,d)]:=fun _=>by
 refine⟨w.heap.size,0,rfl,Z,fun i hi=>?_⟩
 rcases(show i=0\/i=1 by simp at hi;omega) with e|e<;>subst e<;>(constructor<;>(unfold World.cell?;rw[(aL w (.cells #[.int .i64 a,.int .i64 b,.int .i64 c,.int .i64 d] 77))];rfl))
structure kz (rp rb:Nat)(b9 bY:Int)(F:Nat->Prop)(s:cj)(w:au)(iO:Option Addr)(ci:Nat)(L:List Bool)(j:Nat)(wr:au)(F':Nat->Prop):Prop where
 J:(cn rp rb b9 bY).J F' {s with T:=eu L s.T j} wr
 tn:b_ F w F' wr
 row:wr.ownsRow 0 4 1 (.slice iO s.T.length ci) s.T.length (L.map Value.bool)
 no:∀k,some k=(Value.slice iO s.T.length ci).ownBlock->¬F' k
section
variable {rp rb:Nat}{b9 bY:Int}{F F':Nat->Prop}{s:cj}{w wr:au}{iO:Option Addr}{ci j:Nat}{L:List Bool}
theorem kz.next (h:kz rp rb b9 bY F s w iO ci L j wr F'){c:Nat->Prop}{d:au}(f:(cn rp rb b9 bY).J c {s with T:=(eu L s.T j).set j (eE L j (s.T.getD j t0))} d)(ht:b_ F' wr c d):kz rp rb b9 bY F s w iO ci L (j+1) d c:=
 ⟨f,h.tn.trans ht,cv h.row (fun k e=>ht.fr.block k (ce h.row k e).2 (h.no k e)),fun k e b=>by
  rcases ht.sub k b with b|b
  ·exact h.no k e b
  ·have:=(ce h.row k e).2;omega⟩
end
section
variable {rp rb:Nat}{b9 bY:Int}{F:Nat->Prop}{s:cj}{w:au}
theorem DL {s1 s2 b8 s4 s5 s6 ca cb cc cd ce cf cg ch cj ck cl cm co cq cr cs ct cu cw cx cy cz cA cB cC cD cE cF cG cH cI cJ cK cL cM cN cO cP cQ cR cS cU cV cW cX cZ c1 c2 c3 c4 iH c5 c6 c7 c8 c9 da db dc dd de df dg di dj dk dl dm dn dp dr ds dt du dv dw dx dy dz dA dB dD dE dF dG dH dI dJ dK dL dM dN dO dP dQ dR dS dT dU dV dX dY dZ d0 d1 d2 d3 d4 d5 d6 d7 d8 d9 ea eb ec ed ee ef eg eh ei ej ek el em en eo ep eq er es et ev ew ex ey ez eA eB eC eD eF eG eH eI eJ eK eL eM eN eO eP eQ eR eS eT eU eV eW eX eY eZ e0 e1 e2 e3 e4 e5 e6 e7 e9 fa fc fd fe ff fg fh fi fj fk fl fm fn fp fq fr fs ft fu fv fw fx fy fz fA fB fC fD fE fF fG fH fI fJ fK fL fM fN fO fP fQ fS fT fU fV fW fX fY fZ f0 f1 f2 f3 f4 f5 f6 f7 f8 f9 ga gb gc gd ge gf gg gh gi gj gk gl gm gn go gp gq gr gs gt gu gv gw gx gz gA gB gC gD gE gF gG gH gI gJ gK gL gM gN gO gP gQ gR gS gT gU gV gW gX gY gZ g4 g5 g6 g7 g8 g9 ha hb hc hd hf hh hi hj hl hm hn ho hq hr hs ht hu hv hx hy hz:Value}{Q:Exit->Act->au->Prop}{J a0 a1:Option Addr}{ci a2 rc a3 bb:Nat}{L:List Bool}{w0:au}{x2 x3:Value}(hA:w0.cell? (am rp 2)=some x2)(hB:w0.cell? (am rp 3)=some x3)(hC:w0.frozen? (am rp 2)=false)(hD:w0.frozen? (am rp 3)=false)(hw:(w0.setCell ⟨rp,2,none⟩ (.slice a0 a2 rc)).setCell ⟨rp,3,none⟩ (.slice a1 a3 bb)=w)(h:(cn rp rb b9 bY).J F s w)(bd:w.ownsRow 0 4 1 (.slice J s.T.length ci) s.T.length (L.map Value.bool))(be:∀k,some k=(Value.slice J s.T.length ci).ownBlock->¬F k)(bg:gy s.T s.wt)(bi:fR s.T L)(ic:s.T.length<=10000)
 (bl:∀(a:Act)(w':au)(l:Nat->Prop),a.tmps.getD 4 undef=ah 0->a.defers=[]->(cn rp rb b9 bY).J l {s with T:=eu L s.T s.T.length} w'->b_ F w l w'->Q .ret a w'):
 Code.wp prog ((find 44 (Tryz.f34.body.getD .skip)).getD .skip) Q ⟨#[aj rp,s1,s2,b8,s4,s5,s6,.slice J s.T.length ci,ca,cb,cc,cd,ce,cf,cg,ch,cj,.slice a0 a2 rc,.slice a1 a3 bb,ck,cl,cm,co,cq,cr,cs,ct,cu,cw,cx,cy,cz,cA,cB,cC,cD,cE,cF,cG,cH,cI,cJ,cK,cL,cM,cN,cO,cP,cQ,cR,cS,cU,cV,cW,cX,cZ,c1,c2,c3,c4,iH,c5,c6,c7,c8,c9,da,db,dc,dd,de,df,dg,di,dj,dk,dl,dm,dn,dp,dr,ds,dt,du,dv,dw,dx,dy,dz,dA,dB,dD,dE,dF,dG,dH,dI,dJ,dK,dL,dM,dN,dO,dP,dQ,dR,dS,dT,dU,dV,dX,dY,dZ,d0,d1,d2,d3,d4,d5,d6,d7,d8,d9,ea,eb,ec,ed,ee,ef,eg,eh,ei,ej,ek,el,em,en,eo,ep,eq,er,es,et,ev,ew,ex,ey,ez,eA,eB,eC,eD,eF,eG,eH,eI,eJ,eK,eL,eM,eN,eO,eP,eQ,eR,eS,eT,eU,eV,eW,eX,eY,eZ,e0,e1,e2,e3,e4,e5,e6,e7,e9,fa,fc,fd,fe,ff,fg,fh,fi,fj,fk,fl,fm,fn,fp,fq,fr,fs,ft,fu,fv,fw,fx,fy,fz,fA,fB,fC,fD,fE,fF,fG,fH,fI,fJ,fK,fL,fM,fN,fO,fP,fQ,fS,fT,fU,fV,fW,fX,fY,fZ,f0,f1,f2,f3,f4,f5,f6,f7,f8,f9,ga,gb,gc,gd,ge,gf,gg,gh,gi,gj,gk,gl,gm,gn,go,gp,gq,gr,gs,gt,gu,gv,gw,gx,gz,gA,gB,gC,gD,gE,gF,gG,gH,gI,gJ,gK,gL,gM,gN,gO,gP,gQ,gR,gS,gT,gU,gV,gW,gX,gY,gZ,g4,g5,g6,g7,g8,g9,ha,hb,hc,hd,hf,hh,hi,hj,hl,hm,hn,ho,hq,hr,hs,ht,hu,hv,hx,hy,hz],[]⟩ w0:=by
 conv=>arg 2;whnf
 have hE:av (∀(a:Act)(w':au)(l:Nat->Prop),a.tmps.getD 4 undef=ah 0->a.defers=[]->(cn rp rb b9 bY).J l {s with T:=eu L s.T s.T.length} w'->b_ F w l w'->_):=bl;have hF:av (∃l,kz rp rb b9 bY F s w J ci L 0 w l):=⟨F,h,⟨Fr.refl F w,fun _ f=>aJ f⟩,bd,be⟩
 have O:av (_/\_):=⟨bg,bi⟩
 have bn:av (_=_):=hw;clear bl h bd be bg bi hw
 go_upto_region 45 with fail
 rw[bn.o];clear bn hA hB hC hD;go_wp2_with fail
 go_loopw [21] (fun iv wr=>∃j:Nat,j<=s.T.length/\iv=ah j/\av (∃l,kz rp rb b9 bY F s w J ci L j wr l)) (fun iv _=>s.T.length-(intOf iv).toNat)
 case atStart=>exact⟨0,aS _,rfl,hF⟩
 case round=>
  obtain⟨j,hG,rfl,ax⟩:=hrel;obtain⟨K,I⟩:=ax.o;obtain⟨hH,cT,hI,hJ,bo⟩:=kj I.J;have aB:=i2 L s.T j;have c0:wr.cell? (am rp 0)=some (.slice hH s.T.length cT):=by rw[<-aB];exact hI
  by_cases R:j<s.T.length
  ·have aF:(eu L s.T j)[j]?=some (s.T.getD j t0):=by
    have m:=p9 L s.T j j hG R;rw[aE (Nat.lt_irrefl j),aC] at m;obtain⟨x,hK⟩:∃x,(eu L s.T j)[j]?=some x:=⟨_,aG (by rw[aB];exact R)⟩
    rw[hK] at m⊢;rw[<-m];rfl
   obtain⟨b,bp,cp,rfl,u0,u1,u2,u3,ie,ig⟩:=bo j _ aF;have ih:=hide aF;obtain⟨hL,hM,fb,hN,br⟩:=DJ (s:={s with T:=eu L s.T j}) I.J aF (by rw[aB];exact c0)
   have aR:=O.o.2.len;obtain⟨n,hO,hP⟩:=dW I.row V;obtain⟨rfl,rfl⟩:J=ak n/\ci=hO:=by simpa using hP
   have bs:=(e8 I.row (jB (L:=L) (i:=j) V)).1;have hQ:n≠b:=fun e=>I.no n rfl (by rw[e];exact fb)
   have Y:=hide I;have hR:av (L.getD j false=true->_):=fun e=>O.o.2.al j e;have bt:=hide (O.o.1.tl j)
   have ab:=ir hL hM fb;have bx:=hide c0;cases hg:L.getD j false
   ·rw[hg] at bs;have HN:av (∃l,kz rp rb b9 bY F s w (ak n) ci L (j+1) ((wr.setCell ⟨b,j*4+3,none⟩ (.bool true)).setCell ⟨b,j*4+1,none⟩ (.slice none 0 0)) l):=by
     have hS:(wr.setCell ⟨b,j*4+3,none⟩ (.bool true)).cell? (am rp 0)=some (.slice (ak b) s.T.length cT):=by
      have:=bx.o;unfold World.cell? at this⊢
      rw[aN _ _ _ _ (show rp≠b from fun e=>br e.symm)];exact this
     obtain⟨q1,u⟩:=xu (s:={s with T:=(eu L s.T j).set j ((s.T.getD j t0).1,(s.T.getD j t0).2.1,(s.T.getD j t0).2.2.1,true)}) ab.o.2.1 (i:=j) (x:=((s.T.getD j t0).1,(s.T.getD j t0).2.1,(s.T.getD j t0).2.2.1,true)) (by
      show((eu L s.T j).set j _)[j]?=_;rw[List.getElem?_set_self (by rw[i2];exact R)]) (b:=b) (cT:=cT) (by
      show _=some (Value.slice (ak b) ((eu L s.T j).set j _).length cT)
      rw[aX,i2];exact hS) none 0 [] (fun hp=>absurd hp Z) (fun _ _ hp=>absurd hp Z)
     refine⟨_,Y.o.next (by
      have e:(eu L s.T j).set j (eE L j (s.T.getD j t0))=((eu L s.T j).set j ((s.T.getD j t0).1,(s.T.getD j t0).2.1,(s.T.getD j t0).2.2.1,true)).set j ((s.T.getD j t0).1,[],(s.T.getD j t0).2.2.1,true):=by rw[qc];unfold eE;rw[hg,aE Z]
      rw[e];exact q1) ⟨((Fr.refl K wr).set b _ _ ab.o.2.2).trans u (fun _ f=>aJ f),fun k f=>?_⟩⟩
     rcases f with f|⟨hp,_⟩
     ·exact aJ f
     ·exact absurd hp Z
    as_aux_lemma=>
    go_wp2_with fail;go_roundw;exact⟨j+1,V,af,HN⟩
    case measure=>simp[intOf];omega
   ·rw[hg] at bs;have al:=hR.o hg;have M:=dC (O.o.1.fv j al) (O.o.1.fl j al)
    have hT:av (_=_):=hg;have bZ:∀k,k≠b->(wr.setCell ⟨b,j*4+2,none⟩ (.bool true)).heap[k]?=wr.heap[k]?:=fun k hk=>aN _ _ _ _ hk;have B:av ((cn rp rb b9 bY).J K {s with T:=(eu L s.T j).set j ((s.T.getD j t0).1,(s.T.getD j t0).2.1,true,(s.T.getD j t0).2.2.2)} (wr.setCell ⟨b,j*4+2,none⟩ (.bool true))/\(wr.setCell ⟨b,j*4+2,none⟩ (.bool true)).cell? (am rp 0)=some (.slice (ak b) s.T.length cT)/\b_ K wr K (wr.setCell ⟨b,j*4+2,none⟩ (.bool true))/\kq (wr.setCell ⟨b,j*4+2,none⟩ (.bool true)) (ak n) L):=by
     refine⟨ab.o.1,?_,⟨(Fr.refl K wr).set b _ _ ab.o.2.2,fun _ f=>aJ f⟩,?_⟩
     ·have:=bx.o;unfold World.cell? at this⊢
      rw[bZ rp (fun e=>br e.symm)];exact this
     ·have b0:=cv Y.o.row (fun k e=>bZ k (fun hU=>by have e:_=_:=e;cases e;exact hQ hU))
      rw[<-aR] at b0;exact oI b0
    have b1:∀o,o≠j*4+2->∀v,wr.cell? (am b o)=some v->(wr.setCell ⟨b,j*4+2,none⟩ (.bool true)).cell? (am b o)=some v:=fun o hV v hW=>by rw[a5 _ _ _ _ (fun e=>hV (by injection e with _ e;exact e.symm))];exact hW
    have y0:=b1 (j*4) V _ u0;have y1:=b1 (j*4+1) V _ u1;have E:_:=aK _ _ y0;have b3:(wr.setCell ⟨b,j*4+2,none⟩ (.bool true)).frozen? (am b (j*4+1))=false:=by rw[World.frozen?_setCell];exact hN (j*4+1)
    have hX:∀{w3:au}(G:Option Addr)(ad:Nat)(A:List (Int×Int)),Below (wr.setCell ⟨b,j*4+2,none⟩ (.bool true)).heap.size (wr.setCell ⟨b,j*4+2,none⟩ (.bool true)) w3->cY w3 G A->(∀C D,0<A.length->G=some ⟨C,D,none⟩->(wr.setCell ⟨b,j*4+2,none⟩ (.bool true)).heap.size<=C)->eE L j (s.T.getD j t0)=((s.T.getD j t0).1,A,true,(s.T.getD j t0).2.2.2)->
     ∃l,kz rp rb b9 bY F s w (ak n) ci L (j+1) (w3.setCell ⟨b,j*4+1,none⟩ (.slice G A.length ad)) l:=fun {w3} G ad A c hY b4 he=>by
     have hZ:=(cn rp rb b9 bY).below B.o.1 c;have h0:=(c.cell (p:=am rp 0) (aK _ _ B.o.2.1)).trans B.o.2.1;obtain⟨q1,u⟩:=xu (s:={s with T:=(eu L s.T j).set j ((s.T.getD j t0).1,(s.T.getD j t0).2.1,true,(s.T.getD j t0).2.2.2)}) hZ (i:=j) (x:=((s.T.getD j t0).1,(s.T.getD j t0).2.1,true,(s.T.getD j t0).2.2.2)) (by
      show((eu L s.T j).set j _)[j]?=_;rw[List.getElem?_set_self (by rw[i2];exact R)]) (b:=b) (cT:=cT) (by
      show _=some (Value.slice (ak b) ((eu L s.T j).set j _).length cT)
      rw[aX,i2];exact h0) G ad A hY (fun C D hp e f=>by
      have m:=b4 C D hp e;have S:=(cn rp rb b9 bY).lt B.o.1 C f;omega)
     refine⟨_,Y.o.next (by
      have e:(eu L s.T j).set j (eE L j (s.T.getD j t0))=((eu L s.T j).set j ((s.T.getD j t0).1,(s.T.getD j t0).2.1,true,(s.T.getD j t0).2.2.2)).set j ((s.T.getD j t0).1,A,true,(s.T.getD j t0).2.2.2):=by rw[qc,he]
      rw[e];exact q1) ⟨(B.o.2.2.1.fr.trans (Fr.of c) (fun _ f=>aJ f)).trans u (fun _ f=>aJ f),fun k f=>?_⟩⟩
     rcases f with f|⟨hp,D,e⟩
     ·exact aJ f
     ·have m:=b4 k D hp e;have S:(wr.setCell ⟨b,j*4+2,none⟩ (.bool true)).heap.size=wr.heap.size:=by simp[World.setCell]
      exact aI V
    have qf:av (∀{w3:au}(G:Option Addr)(ad:Nat)(A:List (Int×Int)),Below (wr.setCell ⟨b,j*4+2,none⟩ (.bool true)).heap.size (wr.setCell ⟨b,j*4+2,none⟩ (.bool true)) w3->cY w3 G A->(∀C D,0<A.length->G=some ⟨C,D,none⟩->(wr.setCell ⟨b,j*4+2,none⟩ (.bool true)).heap.size<=C)->eE L j (s.T.getD j t0)=((s.T.getD j t0).1,A,true,(s.T.getD j t0).2.2.2)->
     _):=hX
    have oM:av (∀w3:au,Below (wr.setCell ⟨b,j*4+2,none⟩ (.bool true)).heap.size (wr.setCell ⟨b,j*4+2,none⟩ (.bool true)) w3->eE L j (s.T.getD j t0)=((s.T.getD j t0).1,(s.T.getD j t0).2.1,true,(s.T.getD j t0).2.2.2)->∃l,kz rp rb b9 bY F s w (ak n) ci L (j+1) w3 l):=fun w3 c he=>by refine⟨K,Y.o.next (by rw[he];exact(cn rp rb b9 bY).below B.o.1 c) ⟨B.o.2.2.1.fr.trans (Fr.of c) (fun _ f=>aJ f),fun k f=>aJ f⟩⟩
    have U:av (eE L j (s.T.getD j t0)=((s.T.getD j t0).1,(if(s.T.getD j t0).1=4/\dq L ((s.T.getD j t0).2.1.getD 0 (0,0))=false then[(2,0),(2,0)] else if(s.T.getD j t0).1=3/\dq L ((s.T.getD j t0).2.1.getD 0 (0,0))=false then[(2,0),(s.T.getD j t0).2.1.getD 1 (0,0)] else(s.T.getD j t0).2.1),true,(s.T.getD j t0).2.2.2)):=by show _=_;unfold eE;rw[hT.o,aH rfl]
    obtain⟨ii,ij,h1,_,h2⟩:=kj B.o.1;obtain⟨b2,b5,ik,h3,_,h4,_,_,h5,_⟩:=h2 j ((s.T.getD j t0).1,(s.T.getD j t0).2.1,true,(s.T.getD j t0).2.2.2) (by show((eu L s.T j).set j _)[j]?=_;rw[List.getElem?_set_self (by rw[i2];exact R)])
    obtain rfl:b=b2:=by
     have q:=h1.symm.trans B.o.2.1;rw[h3] at q;have u:b2=b:=by injection q with q;injection q with q;injection q with q;injection q
     exact u.symm
    obtain rfl:bp=b5:=by
     have q:=y1.symm.trans h4;have u:bp=b5:=by injection q with q;injection q
     exact u
    have ag:=hide h5;have ai:=hide B.o.2.2.2;generalize s.T.getD j t0=t at*;obtain⟨kd,ap,b6,ar⟩:=t;have h6:kd=3\/kd=4\/(kd≠3/\kd≠4):=V;rcases h6 with h7|h8|W
    ·subst h7;have l2:=M.o.2 (aJ rfl)
     obtain⟨d,g,rfl⟩:∃d g,ap=[d,g]:=by
      match ap,l2 with
      |[d,g],_=>exact⟨d,g,rfl⟩
     obtain⟨fb,dh,rfl,X,N⟩:=ag.o Z;obtain⟨x0,x1⟩:=N 0 Z;obtain⟨x2,x3⟩:=N 1 Z;have x0:(wr.setCell ⟨b,j*4+2,none⟩ (.bool true)).cell? (am fb dh)=some (ah d.1):=by simpa using x0
     have x1:(wr.setCell ⟨b,j*4+2,none⟩ (.bool true)).cell? (am fb (dh+1))=some (ah d.2):=by simpa using x1
     have x2:(wr.setCell ⟨b,j*4+2,none⟩ (.bool true)).cell? (am fb (dh+2))=some (ah g.1):=by simpa using x2
     have x3:(wr.setCell ⟨b,j*4+2,none⟩ (.bool true)).cell? (am fb (dh+3))=some (ah g.2):=by simpa using x3
     have H:=qd (wr.setCell ⟨b,j*4+2,none⟩ (.bool true)) (ak n) ci L d ai.o (fun aT=>by obtain⟨q1,u⟩:=M.o.1 d Z aT;have:=u.1;exact⟨q1,V⟩) V;rw[aR] at H;have mF:av (eE L j (3,[d,g],b6,ar)=(3,(if dq L d=false then[(2,0),g] else[d,g]),true,ar)):=by show _=_;rw[U.o];simp
     obtain⟨g0,g1⟩:=d;obtain⟨g2,g3⟩:=g;go_wp2_with fail;refine H.mono ?_;clear H;rintro e w3 ⟨rfl,c⟩
     dsimp only;have v0:=(c.cell (p:=am b (j*4)) E).trans y0;have v1:=(c.cell (p:=am b (j*4+1)) E).trans y1;have v2:=(c.cell (p:=am fb (dh+2)) X).trans x2;have h9:=(c.cell (p:=am fb (dh+3)) X).trans x3;have ia:w3.frozen? (am b (j*4+1))=false:=by
      have:=b3;unfold World.frozen? at this⊢
      dsimp only at this⊢
      rw[c.block b E];exact this
     have aV:_:=aM E c.size;cases hin:dq L (g0,g1)
     ·have HN:av (∃l,kz rp rb b9 bY F s w (ak n) ci L (j+1) ((w3.setCell ⟨b,j*4+1,none⟩ (.slice (some ⟨w3.heap.size,0,none⟩) 2 2)).alloc (.cells #[.int .i64 2,.int .i64 0,.int .i64 g2,.int .i64 g3] 77)) l):=by
       have m:=qf.o (w3:=w3.alloc (.cells #[.int .i64 2,.int .i64 0,.int .i64 g2,.int .i64 g3] 77)) (ak w3.heap.size) 2 [(2,0),(g2,g3)] (c.alloc c.size _) (pair_cells _ _ _ _) (fun C D _ e=>by cases e;exact c.size) (by rw[mF.o,hin];rfl)
       have S:([(2,0),(g2,g3)]:List (Int×Int)).length=2:=rfl;rw[S,World.setCell_alloc_past _ _ _ _ aV] at m;exact m
      exact sF
     ·have HN:av (_):=oM.o w3 c (by rw[mF.o,hin];rfl)
      exact sF
    ·subst h8;have l2:=M.o.2 (aI rfl)
     obtain⟨d,g,rfl⟩:∃d g,ap=[d,g]:=by
      match ap,l2 with
      |[d,g],_=>exact⟨d,g,rfl⟩
     obtain⟨fb,dh,rfl,X,N⟩:=ag.o Z;obtain⟨x0,x1⟩:=N 0 Z;obtain⟨x2,x3⟩:=N 1 Z;have x0:(wr.setCell ⟨b,j*4+2,none⟩ (.bool true)).cell? (am fb dh)=some (ah d.1):=by simpa using x0
     have x1:(wr.setCell ⟨b,j*4+2,none⟩ (.bool true)).cell? (am fb (dh+1))=some (ah d.2):=by simpa using x1
     have x2:(wr.setCell ⟨b,j*4+2,none⟩ (.bool true)).cell? (am fb (dh+2))=some (ah g.1):=by simpa using x2
     have x3:(wr.setCell ⟨b,j*4+2,none⟩ (.bool true)).cell? (am fb (dh+3))=some (ah g.2):=by simpa using x3
     have H:=qd (wr.setCell ⟨b,j*4+2,none⟩ (.bool true)) (ak n) ci L d ai.o (fun aT=>by obtain⟨q1,u⟩:=M.o.1 d Z aT;have:=u.1;exact⟨q1,V⟩) V;rw[aR] at H;have mF:av (eE L j (4,[d,g],b6,ar)=(4,(if dq L d=false then[(2,0),(2,0)] else[d,g]),true,ar)):=by show _=_;rw[U.o];simp
     obtain⟨g0,g1⟩:=d;obtain⟨g2,g3⟩:=g;dsimp only at x0 x1 x2 x3 H mF;clear N ag l2 U M bt ai;go_wp2_with fail;refine H.mono ?_;clear H;rintro e w3 ⟨rfl,c⟩
     dsimp only;have v0:=(c.cell (p:=am b (j*4)) E).trans y0;have v1:=(c.cell (p:=am b (j*4+1)) E).trans y1;have v2:=(c.cell (p:=am fb (dh+2)) X).trans x2;have h9:=(c.cell (p:=am fb (dh+3)) X).trans x3;have ia:w3.frozen? (am b (j*4+1))=false:=by
      have:=b3;unfold World.frozen? at this⊢
      dsimp only at this⊢
      rw[c.block b E];exact this
     have aV:_:=aM E c.size;cases hin:dq L (g0,g1)
     ·have HN:av (∃l,kz rp rb b9 bY F s w (ak n) ci L (j+1) ((w3.setCell ⟨b,j*4+1,none⟩ (.slice (some ⟨w3.heap.size,0,none⟩) 2 2)).alloc (.cells #[.int .i64 2,.int .i64 0,.int .i64 2,.int .i64 0] 77)) l):=by
       have m:=qf.o (w3:=w3.alloc (.cells #[.int .i64 2,.int .i64 0,.int .i64 2,.int .i64 0] 77)) (ak w3.heap.size) 2 [(2,0),(2,0)] (c.alloc c.size _) (pair_cells _ _ _ _) (fun C D _ e=>by cases e;exact c.size) (by rw[mF.o,hin];rfl)
       have S:([(2,0),(2,0)]:List (Int×Int)).length=2:=rfl;rw[S,World.setCell_alloc_past _ _ _ _ aV] at m;exact m
      exact sF
     ·have HN:=hide (oM.o w3 c (by rw[mF.o,hin];rfl))
      go_wp2_with fail;go_roundw;exact⟨j+1,V,af,HN⟩
      case measure=>simp[intOf];omega
    ·have il:(kd==3)=false:=by simpa using W.1
     have n4:(kd==4)=false:=by simpa using W.2
     have HN:av (_):=oM.o _ bX (by rw[U.o,aE (fun q=>W.2 q.1),aE (fun q=>W.1 q.1)])
     clear qf oM U ag ai M bt W;go_wp2_with fail;go_roundw;exact⟨j+1,V,af,HN⟩
     simp[intOf];omega
  ·obtain rfl:j=s.T.length:=V;have HN:av (_):=ax;clear bo hJ I ax;go_wp2_with fail;obtain⟨ib,b7⟩:=HN.o;refine hE.o _ _ ib ?_ ?_ b7.J b7.tn
   ·rfl
   ·rfl
end
end mG
namespace mG
theorem sG {d:Type}(p:d->Bool)(l:List d)(i:Nat)(h:i<l.length)(b:d):(l.take (i+1)).filter p=(l.take i).filter p++if p (l.getD i b)=true then[l.getD i b] else[]:=by
 rw[fz l i h b,List.filter_append]
 congr 1
 cases c:p (l.getD i b)
 ·rw[List.filter_cons_of_neg (by rw[c];simp)];simp
 ·rw[List.filter_cons_of_pos c];simp
theorem DM {b c:Type}(f:b->c)(l:List b)(i:Nat)(d:b)(e:c)(h:i<l.length):(l.map f).getD i e=f (l.getD i d):=by rw[aC,bq,aC,aG h];rfl
theorem xv {w:au}(b c:Int):∀a,(ak w.heap.size:Option Addr)=some a->∀k u,(ev [(b,c)])[k]?=some u->(w.alloc (.cells #[.int .i64 b,.int .i64 c] 97)).cell? (a.add k)=some u:=fun a e k u hk=>by
 have sE:=aL w (.cells #[.int .i64 b,.int .i64 c] 97)
 exact xp
theorem xw {wr wq b:au}{c d:Option Addr}{rc f:Nat}{R:List bZ}{e:bZ}(g:Below wr.heap.size wr wq)(i:wq.ownsRow wr.heap.size 97 2 (.slice c R.length rc) R.length (ev R))(fr:Fr (fun k=>some k=(Value.slice c R.length rc).ownBlock) wq b)(j:b.ownsRow wr.heap.size 97 2 (.slice d (R.length+1) f) (R.length+1) (ev R++ev [e])):
 b.ownsRow wr.heap.size 97 2 (.slice d (R++[e]).length f) (R++[e]).length (ev (R++[e]))/\Below wr.heap.size wr b:=by
 have l:(R++[e]).length=R.length+1:=Z;have m:ev (R++[e])=ev R++ev [e]:=by simp[ev]
 rw[l,m];exact⟨j,g.trans (fr.below g.size (fun k e=>(ce i k e).1))⟩
section
variable {rp rb:Nat}{b9 bY:Int}{F:Nat->Prop}{s:cj}{w:au}
theorem DN {s1 s2 cj s4 s5 s6 ck cl cm co cp cq cr cs ct cu cw cx cy cz cA cB cC cE cF cG cI cJ cK cL cM cN cO cP cQ cR cS cT cU cV cW cX cY cZ c0 c1 c2 c3 c4 c5 c6 c7 c8 c9 da db iH dc dd de df dg dh di dj dk dl dm dn dp dq dr ds dt du dv dw dx dy dz dA dB dC dD dE dF dG dH dI dJ dK dL dM dN dO dP dR dS dT dU dV dX dY dZ d0 d1 d2 d3 d4 d5 d6 d8 d9 ea eb ec ed ee ef eg eh ei ej ek el em en eo ep eq er es et ew ex ey ez eA eB eC eD eE eF eG eH eI eJ eK eL eM eN eO eP eQ eR eS eT eU eV eW eX eY eZ e0 e1 e2 e3 e4 e6 e7 e9 fa fb fc fd fe ff fg fh fi fk fl fm fn fo fp fq fr fs ft fu fv fw fx fy fz fA fB fD fE fF fG fH fI fJ fK fL fM fN fO fP fQ fS fT fU fV fW fX fY fZ f0 f1 f2 f3 f4 f5 f6 f7 f8 f9 ga gb gc gd ge gf gg gi gj gk gl gm gn go gp gq gr gs gt gu gv gw gx gy gz gB gC gD gE gF gG gH gI gJ gK gL gM gN gO gP gQ gR gS gT gU gV gW gX gY gZ g2 g3 g4 g5 g6 g7 g8 g9 hb hc hf hh hj hl hm hn ho hp hq hr hs ht hu hv hw hx hy hz hA hC hE hF hG hH hI:Value}{Q:Exit->Act->au->Prop}{n:Option Addr}{ci aF mb I:Nat}{v0 v1 v2:Value}{B L M D:List Bool}{C:List bZ}{m:au}(h:(cn rp rb b9 bY).J F s w)(J:gA s)(hk:fj w s aF mb I v0 v1 v2 b9 bY D m n ci L M C)(hD:D=s.rg.map (fun e=>!cD B e.2))(bt:fR s.T L)(bx:∀e∈C,e∈s.rg)(h8:C.length<=1000)
 (b0:∀(a:Act)(w':au)(p:Nat->Prop),a.tmps.getD 4 undef=ah 0->a.defers=[]->(cn rp rb b9 bY).J p ⟨eu L s.T s.T.length,s.rs,s.rg.filter (fun e=>cD B e.2&&cD L e.1),(s.wt++C).filter (fun e=>cD L e.1)⟩ w'->b_ F w p w'->Q .ret a w'):
 Code.wp prog ((find 33 (Tryz.f34.body.getD .skip)).getD .skip) Q ⟨#[aj rp,s1,s2,cj,s4,s5,s6,.slice n s.T.length ci,.slice (ak aF) s.rg.length s.rg.length,ck,cl,aj I,cm,co,cp,cq,cr,cs,ct,cu,cw,cx,cy,cz,cA,cB,cC,cE,cF,cG,cI,cJ,cK,cL,cM,cN,cO,cP,cQ,cR,cS,cT,cU,cV,cW,cX,cY,cZ,c0,c1,c2,c3,c4,c5,c6,c7,c8,c9,da,db,iH,dc,dd,de,df,dg,dh,di,dj,dk,dl,dm,dn,dp,dq,dr,ds,dt,du,dv,dw,dx,dy,dz,dA,dB,dC,dD,dE,dF,dG,dH,dI,dJ,dK,dL,dM,dN,dO,dP,dR,dS,dT,dU,dV,dX,dY,dZ,d0,d1,d2,d3,d4,d5,d6,d8,d9,ea,eb,ec,ed,ee,ef,eg,eh,ei,ej,ek,el,em,en,eo,ep,eq,er,es,et,ew,ex,ey,ez,eA,eB,eC,eD,eE,eF,eG,eH,eI,eJ,eK,eL,eM,eN,eO,eP,eQ,eR,eS,eT,eU,eV,eW,eX,eY,eZ,e0,e1,e2,e3,e4,e6,e7,e9,fa,fb,fc,fd,fe,ff,fg,fh,fi,fk,fl,fm,fn,fo,fp,fq,fr,fs,ft,fu,fv,fw,fx,fy,fz,fA,fB,fD,fE,fF,fG,fH,fI,fJ,fK,fL,fM,fN,fO,fP,fQ,fS,fT,fU,fV,fW,fX,fY,fZ,f0,f1,f2,f3,f4,f5,f6,f7,f8,f9,ga,gb,gc,gd,ge,gf,gg,gi,gj,gk,gl,gm,gn,go,gp,gq,gr,gs,gt,gu,gv,gw,gx,gy,gz,gB,gC,gD,gE,gF,gG,gH,gI,gJ,gK,gL,gM,gN,gO,gP,gQ,gR,gS,gT,gU,gV,gW,gX,gY,gZ,g2,g3,g4,g5,g6,g7,g8,g9,hb,hc,hf,hh,hj,hl,hm,hn,ho,hp,hq,hr,hs,ht,hu,hv,hw,hx,hy,hz,hA,hC,hE,hF,hG,hH,hI],[]⟩ m:=by
 conv=>arg 2;whnf
 have hJ:av (∀(a:Act)(w':au)(p:Nat->Prop),a.tmps.getD 4 undef=ah 0->a.defers=[]->(cn rp rb b9 bY).J p ⟨eu L s.T s.T.length,s.rs,s.rg.filter (fun e=>cD B e.2&&cD L e.1),(s.wt++C).filter (fun e=>cD L e.1)⟩ w'->b_ F w p w'->Q .ret a w'):=b0;have K:av ((cn rp rb b9 bY).J F s w):=h;have q:av (gA s):=J;have N:av (fj w s aF mb I v0 v1 v2 b9 bY D m n ci L M C):=hk;have b1:av (D=s.rg.map (fun e=>!cD B e.2)):=hD;have a3:av (fR s.T L):=bt;have b2:av (∀e∈C,e∈s.rg):=bx;have hK:=J.tl;have h9:=J.gl;have ia:=J.wl;have b3:av (∀w',Below w.heap.size w w'->∃v2 aR,w'.cell? (am rp 2)=some v2/\w'.cell? (am rp 3)=some aR/\w'.ownsRow 0 97 2 v2 s.rg.length (ev s.rg)/\w'.ownsRow 0 97 2 aR s.wt.length (ev s.wt)):=fun w' hL=>by
  obtain⟨v2,aR,q1,bb,q3,hM,_⟩:=pU ((cn rp rb b9 bY).below h hL)
  exact⟨v2,aR,q1,bb,q3,hM⟩
 obtain⟨b4,b5,b6,b7,b8⟩:=info_parts xo;clear b0 h J hk hD bt bx;go_wp2_with fail
 go_loopw [17,19] (fun rv iv O=>∃(i:Nat)(ra:Option Addr)(rc:Nat)(R:List bZ),i<=s.rg.length/\rv=.slice ra R.length rc/\iv=ah i/\av (R=(s.rg.take i).filter (fun e=>cD B e.2&&cD L e.1))/\av (O.ownsRow m.heap.size 97 2 (.slice ra R.length rc) R.length (ev R)/\Below m.heap.size m O)) (fun _ iv _=>s.rg.length-(intOf iv).toNat)
 case atStart=>exact⟨0,none,0,[],aS _,rfl,rfl,rfl,⟨a7 _ _ _ _,aD _ _⟩⟩
 case round=>
  obtain⟨i,ra,rc,R,hi,rfl,rfl,j,fC⟩:=hrel;have g:=N.o.below fC.o.2;obtain⟨hN,hO,ca,_,aT,_⟩:=b3.o wr g.bl;obtain⟨ib,ic,hP⟩:=dQ aT;subst hP;by_cases t:i<s.rg.length
  ·obtain⟨hQ,hR,rfl,hS,S⟩:=gh aT V;obtain⟨U,y1⟩:=S i t;have W:s.rg.getD i (0,0)∈s.rg:=getD_in t;obtain⟨⟨g0,g1⟩,n0,n1⟩:=q.o.gv _ W;obtain⟨b,c,E⟩:∃b bd:Nat,s.rg.getD i (0,0)=((b:Int),(bd:Int)):=⟨(s.rg.getD i (0,0)).1.toNat,(s.rg.getD i (0,0)).2.toNat,by rw[show(((s.rg.getD i (0,0)).1.toNat:Nat):Int)=(s.rg.getD i (0,0)).1 by omega,show(((s.rg.getD i (0,0)).2.toNat:Nat):Int)=(s.rg.getD i (0,0)).2 by omega]⟩
   have d:=sG (fun e:bZ=>cD B e.2&&cD L e.1) s.rg i t (0,0)
   have v:D.getD i false=!cD B (s.rg.getD i (0,0)).2:=by rw[b1.o];exact DM (fun e:bZ=>!cD B e.2) s.rg i (0,0) false t
   rw[E] at U y1 g1 n1 d v;dsimp only at U y1 g1 n1 d v;have g1:b<s.T.length:=by simpa using g1.1
   have hT:=a3.o.len;obtain⟨be,bg,Y⟩:=dW g.ri V;obtain⟨rfl,rfl⟩:n=ak be/\ci=bg:=by simpa using Y
   have cb:=(e8 g.rd (jB (L:=D) (i:=i) (by rw[b1.o,aQ];exact t))).1;have H:=(e8 g.ri (jB (L:=L) (i:=b) V)).1;have q0:(0:Int)<=(i:Int):=V;have q1:(i:Int)<(s.rg.length:Int):=V;have bb:(0:Int)<=(b:Int):=V;have q3:(b:Int)<(s.T.length:Int):=V;have ab:cD L (b:Int)=L.getD b false:=rfl;rw[ab] at d;have d:av ((s.rg.take (i+1)).filter (fun e=>cD B e.2&&cD L e.1)=R++if(cD B (c:Int)&&L.getD b false)=true then[((b:Int),(c:Int))] else[]):=by show _=_;rw[d,j.o]
   clear S Y aT g g0 n0 n1 W ab;cases hd:D.getD i false
   ·rw[hd] at cb;have hB:cD B (c:Int)=true:=by rw[hd] at v;simpa using v.symm
    cases hg:L.getD b false
    ·rw[hg] at H;have HN:av (R=(s.rg.take (i+1)).filter (fun e=>cD B e.2&&cD L e.1)):=by show _=_;rw[d.o,hB,hg];simp
     clear d j v hd hB hg E;exact xq
    ·rw[hg] at H;have HN:av (R++[((b:Int),(c:Int))]=(s.rg.take (i+1)).filter (fun e=>cD B e.2&&cD L e.1)):=by show _=_;rw[d.o,hB,hg];simp
     have bi:av (∀a,(ak wr.heap.size:Option Addr)=some a->∀k u,(ev [((b:Int),(c:Int))])[k]?=some u->(wr.alloc (.cells #[.int .i64 (b:Int),.int .i64 (c:Int)] 97)).cell? (a.add k)=some u):=xv _ _;have ad:av (Below wr.heap.size wr (wr.alloc (.cells #[.int .i64 (b:Int),.int .i64 (c:Int)] 97))):=an wr _;have ag:=cv fC.o.1 (fun k e=>ad.o.block k (ce fC.o.1 k e).2)
     have hU:R.length<=1000:=by
      rw[j.o];have l:=bk (fun e:bZ=>cD B e.2&&cD L e.1) (s.rg.take i)
      rw[bf] at l;omega
     clear d j v hd hB hg E
     as_aux_lemma=>
     go_upto_region 36 with(at_builtin;refine je _ rfl _ _ 89 rfl m.heap.size 97 b4 (.agg #[ah 0,ah 0]) 2 16 underlying89 b5 b6 b7 b8 rfl aa (.slice ra R.length rc) R.length (ev R) rfl ag (ak wr.heap.size) 1 1 (ev [((b:Int),(c:Int))]) rfl rfl (fun e=>by cases e) bi.o (iX _) (by unfold maxLen;omega) V (by have:=fC.o.2.size;simp;omega) ?_;intro ai al ap ar ax _;have bl:av (ap.ownsRow m.heap.size 97 2 (.slice ai (R++[((b:Int),(c:Int))]).length al) (R++[((b:Int),(c:Int))]).length (ev (R++[((b:Int),(c:Int))]))/\Below m.heap.size m ap):=(xw fC.o.2 fC.o.1 ((Fr.of ad.o).grown ax (fun k e=>aJ (by simpa using e.symm))) ar))
     clear ar ax ag;go_wp2_with fail;go_roundw
     case rel=>exact⟨i+1,ai,al,R++[((b:Int),(c:Int))],V,Z,af,HN,bl⟩
     case measure=>simp[intOf];omega
   ·rw[hd] at cb;have hB:cD B (c:Int)=false:=by rw[hd] at v;simpa using v.symm
    have HN:av (R=(s.rg.take (i+1)).filter (fun e=>cD B e.2&&cD L e.1)):=by show _=_;rw[d.o,hB];simp
    clear d j v hd hB E H;exact xq
  ·obtain rfl:i=s.rg.length:=V;have hV:av (R=s.rg.filter (fun e=>cD B e.2&&cD L e.1)):=by have l:=j.o;rw[a_] at l;exact l
   have aV:av (fj w s aF mb I v0 v1 v2 b9 bY D wr n ci L M C):=g;have a0:av (wr.ownsRow w.heap.size 97 2 (.slice ra R.length rc) R.length (ev R)/\(∀k,some k=(Value.slice ra R.length rc).ownBlock->k<wr.heap.size/\m.heap.size<=k)):=⟨d7 fC.o.1 (fun k e=>aP N.o.bl.size (ce fC.o.1 k e).1),fun k e=>⟨(ce fC.o.1 k e).2,(ce fC.o.1 k e).1⟩⟩
   have bn:av (∀k,some k=(Value.slice n s.T.length ci).ownBlock->k<m.heap.size/\w.heap.size<=k):=fun k e=>⟨(ce N.o.ri k e).2,(ce N.o.ri k e).1⟩
   clear g j fC N aT;go_wp2_with fail;generalize hW:wr=G at*;clear hW;obtain⟨X,a1⟩:∃X,av (s.wt++C=X):=⟨_,rfl⟩
   go_loopw [18,20] (fun rv iv O=>∃(i:Nat)(x:Option Addr)(A:Nat)(P:List bZ),i<=X.length/\rv=.slice x P.length A/\iv=ah i/\av (P=(X.take i).filter (fun e=>cD L e.1))/\av (O.ownsRow G.heap.size 97 2 (.slice x P.length A) P.length (ev P)/\Below G.heap.size G O)) (fun _ iv _=>X.length-(intOf iv).toNat)
   case atStart=>exact⟨0,none,0,[],aS _,rfl,rfl,rfl,⟨a7 _ _ _ _,aD _ _⟩⟩
   case round=>
    obtain⟨i,x,A,P,hi,rfl,rfl,j,fC⟩:=hrel;have g:=aV.o.below fC.o.2;obtain⟨hX,hY,aB,a2⟩:=g.kX;rw[a1.o] at aB a2;have ie:wr.cell? (am I 3)=some (.slice hX X.length hY):=ay aB
    have ig:X.length<=2000:=by rw[<-a1.o,aW];omega
    by_cases t:i<X.length
    ·obtain⟨hQ,hR,rfl,hS,S⟩:=gh a2 V;obtain⟨U,y1⟩:=S i t;have W:X.getD i (0,0)∈s.wt++C:=by rw[a1.o];exact getD_in t
     obtain⟨⟨g0,g1⟩,n0⟩:(0<=(X.getD i (0,0)).1/\cH s.T (X.getD i (0,0)).1.toNat)/\0<=(X.getD i (0,0)).2:=by
      rcases List.mem_append.1 W with f|f
      ·exact⟨q.o.wg _ f,(q.o.iv.wv _ f).1⟩
      ·have:=q.o.gv _ (b2.o _ f)
       exact⟨this.1,this.2.1⟩
     obtain⟨b,c,E⟩:∃b bd:Nat,X.getD i (0,0)=((b:Int),(bd:Int)):=⟨(X.getD i (0,0)).1.toNat,(X.getD i (0,0)).2.toNat,by rw[show(((X.getD i (0,0)).1.toNat:Nat):Int)=(X.getD i (0,0)).1 by omega,show(((X.getD i (0,0)).2.toNat:Nat):Int)=(X.getD i (0,0)).2 by omega]⟩
     have d:=sG (fun e:bZ=>cD L e.1) X i t (0,0)
     rw[E] at U y1 g1 d;dsimp only at U y1 g1 d;have g1:b<s.T.length:=by simpa using g1.1
     have hT:=a3.o.len;obtain⟨be,bg,Y⟩:=dW g.ri V;obtain⟨rfl,rfl⟩:n=ak be/\ci=bg:=by simpa using Y
     have H:=(e8 g.ri (jB (L:=L) (i:=b) V)).1;have q0:(0:Int)<=(i:Int):=V;have q1:(i:Int)<(X.length:Int):=V;have bb:(0:Int)<=(b:Int):=V;have q3:(b:Int)<(s.T.length:Int):=V;have ab:cD L (b:Int)=L.getD b false:=rfl;rw[ab] at d;have d:av ((X.take (i+1)).filter (fun e=>cD L e.1)=P++if(L.getD b false)=true then[((b:Int),(c:Int))] else[]):=by show _=_;rw[d,j.o]
     have ih:=lt_of_some aB;clear S Y a2 g g0 n0 W ab aB E;cases hg:L.getD b false
     ·rw[hg] at H;have HN:av (P=(X.take (i+1)).filter (fun e=>cD L e.1)):=by show _=_;rw[d.o,hg];simp
      clear d j hg
      as_aux_lemma=>
      go_wp2_with fail;go_roundw
      case rel=>exact⟨i+1,x,A,P,V,rfl,af,HN,fC⟩
      case measure=>simp[intOf];omega
     ·rw[hg] at H;have HN:av (P++[((b:Int),(c:Int))]=(X.take (i+1)).filter (fun e=>cD L e.1)):=by show _=_;rw[d.o,hg];simp
      have bi:av (∀a,(ak wr.heap.size:Option Addr)=some a->∀k u,(ev [((b:Int),(c:Int))])[k]?=some u->(wr.alloc (.cells #[.int .i64 (b:Int),.int .i64 (c:Int)] 97)).cell? (a.add k)=some u):=xv _ _;have ad:av (Below wr.heap.size wr (wr.alloc (.cells #[.int .i64 (b:Int),.int .i64 (c:Int)] 97))):=an wr _;have ag:=cv fC.o.1 (fun k e=>ad.o.block k (ce fC.o.1 k e).2)
      have hU:P.length<=2000:=by
       rw[j.o];have l:=bk (fun e:bZ=>cD L e.1) (X.take i)
       rw[bf] at l;omega
      clear d j hg
      as_aux_lemma=>
      go_upto_region 41 with(at_builtin;refine je _ rfl _ _ 89 rfl G.heap.size 97 b4 (.agg #[ah 0,ah 0]) 2 16 underlying89 b5 b6 b7 b8 rfl aa (.slice x P.length A) P.length (ev P) rfl ag (ak wr.heap.size) 1 1 (ev [((b:Int),(c:Int))]) rfl rfl (fun e=>by cases e) bi.o (iX _) (by unfold maxLen;omega) V (by have:=fC.o.2.size;simp;omega) ?_;intro ai al ap ar ax _;have bl:av (ap.ownsRow G.heap.size 97 2 (.slice ai (P++[((b:Int),(c:Int))]).length al) (P++[((b:Int),(c:Int))]).length (ev (P++[((b:Int),(c:Int))]))/\Below G.heap.size G ap):=(xw fC.o.2 fC.o.1 ((Fr.of ad.o).grown ax (fun k e=>aJ (by simpa using e.symm))) ar))
      clear ar ax ag;go_wp2_with fail;go_roundw
      case rel=>exact⟨i+1,ai,al,P++[((b:Int),(c:Int))],V,Z,af,HN,bl⟩
      case measure=>simp[intOf];omega
    ·obtain rfl:i=X.length:=V;have cc:av (P=(s.wt++C).filter (fun e=>cD L e.1)):=by have l:=j.o;rw[a_] at l;rw[a1.o];exact l
     have bo:Below w.heap.size w wr:=g.bl;obtain⟨p,cd,cf,cg⟩:=DK K.o R P (.slice ra R.length rc) (.slice x P.length A) wr bo (cv a0.o.1 (fun k e=>fC.o.2.block k (a0.o.2 k e).1)) (d7 fC.o.1 (fun k e=>aP aV.o.bl.size (ce fC.o.1 k e).1)) (fun k e bp=>by have l:=(a0.o.2 k e).1;have br:=(ce fC.o.1 k bp).1;omega)
     obtain⟨hN,hO,ca,hZ,_,_⟩:=b3.o wr bo;have bs:∀o,wr.frozen? (am rp o)=false:=(e5 ((cn rp rb b9 bY).below K.o bo)).2.2.2.2.2.1;have h0:=bs 2;have h1:=bs 3;have h2:av (((wr.setCell ⟨rp,2,none⟩ (.slice ra R.length rc)).setCell ⟨rp,3,none⟩ (.slice x P.length A)).ownsRow 0 4 1 (.slice n s.T.length ci) s.T.length (L.map Value.bool)):=d7 (cv g.ri (fun k e=>(aN _ _ _ _ (show k≠rp from fun bp=>by
      have l:=(bn.o k e).2;have br:rp<w.heap.size:=aK w _ (e5 K.o).1;omega)).trans (aN _ _ _ _ (show k≠rp from fun bp=>by
      have l:=(bn.o k e).2;have br:rp<w.heap.size:=aK w _ (e5 K.o).1;omega)))) (fun _ _=>aS _)
     have h3:av (∀k,some k=(Value.slice n s.T.length ci).ownBlock->¬p k):=fun k e f=>by
      obtain⟨l,br⟩:=bn.o k e;rcases cg k f with f|f|f
      ·have:=(cn rp rb b9 bY).lt K.o k f;omega
      ·have:=(a0.o.2 k f).2;omega
      ·have ii:=(ce fC.o.1 k f).1;have ij:=ce aV.o.ri k e;omega
     have ch:av ((cn rp rb b9 bY).J p {s with rg:=R,wt:=P} ((wr.setCell ⟨rp,2,none⟩ (.slice ra R.length rc)).setCell ⟨rp,3,none⟩ (.slice x P.length A))/\b_ F w p ((wr.setCell ⟨rp,2,none⟩ (.slice ra R.length rc)).setCell ⟨rp,3,none⟩ (.slice x P.length A))):=⟨cd,cf⟩
     clear cd cf cg g aB a2 fC aV bs j
     iterate 28 go_step
     refine DL (s:={s with rg:=R,wt:=P}) ca hZ h0 h1 rfl ch.o.1 h2.o h3.o ⟨q.o.iv.fl,q.o.iv.fv,fun e he=>?_,q.o.iv.tl⟩ a3.o hK ?_
     ·have he:e∈P:=he;rw[cc.o] at he;rcases List.mem_append.1 (List.mem_filter.1 he).1 with f|f
      ·exact q.o.iv.wv e f
      ·exact(q.o.gv e (b2.o e f)).2
     ·intro h4 w' h5 ha hd h6 h7;refine hJ.o h4 w' h5 ha hd ?_ (ch.o.2.trans h7)
      rw[<-hV.o,<-cc.o];exact h6
end
end mG
theorem sH {w:au}{base n m:Nat}{e:TypeId}{d:Option Addr}{f:Nat}{xs:List Value}(h:w.ownsRow base e m (.slice d n f) n xs):d=none->n=0/\f=0:=fun i=>by
 subst i;rcases h.2 with⟨b,j⟩|⟨g,c,k,b,_⟩
 ·simp at b;exact⟨j,b.2⟩
 ·simp at b
end Go.Proofs.YtjpjpjemibgjpaaGreat
