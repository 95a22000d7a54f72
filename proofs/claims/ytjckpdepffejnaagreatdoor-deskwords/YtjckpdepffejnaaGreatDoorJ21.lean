import Derived.Test.YtjckpdepffejnaaGreatDoorJ20
open Array renaming size->OK
open Bool renaming false->OU,true->OV
open Go renaming Addr->bB,Calls->OS,Value->a7,info_parts->bM,maxLen->bL,wpList_append_own_at->bO
open Go.Ending renaming returned->Q
open Go.IntKind renaming i64->OM
open Go.Obj renaming cells->E
open Go.Proofs.Tryz renaming prog->O
open Go.RowKit renaming Below->J,intOf->bG
open Go.Value renaming agg->bz,int->OP,ownBlock->OY,pointer->bq,slice->Z
open Go.World renaming alloc->bu,cell?->V,frozen?->bF,heap->OJ,ownsRow->aC,setCell->A
open Int renaming toNat->K
open List renaming getD->U,getElem?_eq_none->pq,length->OG,map_append->bU,map_congr_left->sw,map_set->wI,mem_append->bw,mem_filter->bK,mem_iff_getElem->bP,mem_map->bR,mem_or_eq_of_mem_set->mg,mem_singleton->bN,range->kr
open Nat renaming le_succ->jh,succ_pos->ji,zero_add->bV
open Option renaming none->OQ,some->OH
namespace Go.Proofs.YtjckpdepffejnaaGreatDoor
set_option maxRecDepth 100000
set_option maxHeartbeats 8000000
open Tryz
open Go.RowKit W Kp ch
def ik (T:List cH)(wt:List b8)(a:Int):List (Int×Int):=if(U T (K a) t0).1=5 then(eR wt a).map (λx=>((3:Int),x)) else(U T (K a) t0).2.1
theorem L6 {T:List cH}{wt:List b8}{a:Int}(b:(U T (K a) t0).1=5->(U T (K a) t0).2.1=[]):(ik T wt a).map ih=iw T wt a:=by
 unfold ik iw;by_cases c:(U T (K a) t0).1=5
 ·rw[aM c,aM c,b c];simp[eR,ih]
 ·rw[aJ c,aJ c,List.append_nil]
section
variable {b7:Nat}{ce grow:Int}{l:ii}{s:cj}{w:az}
theorem L7 (h:dO b7 ce grow l s w)(ag:Nat)(hk:V w (av ag 0)=OH (aq b7))(a:Int)(ha:0<=a/\cz s.T (K a))(b2:OG s.T<=10000)(hw:OG s.wt<=10000):
 OS O 327 #[aq ag,ak a] w λe w'=>∃ad cap,e=Q (Z ad (OG (ik s.T s.wt a)) cap)/\fO w' ad (ik s.T s.wt a)/\J (OK (OJ w)) w w':=by
 obtain⟨aF,hi,aR,aV,a0⟩:=bM tD;have al:a<10000:=by have:=ha.2.1;omega
 have L:=h.g2.mp.look (t:=194) (e:=271) underlying194 (nG w) (x:=a) ha.1 aa;rw[kh ha] at L;dsimp only [Option.getD_some,gU,e_] at L;obtain⟨_,_,c2,_,_,b3,_,_,b5⟩:=h.cells;have lk:=aT w _ hk;have ai:=fO.of (h.g2.fl (K a) ha.2)
 have b1:=aw w (E #[OP OM (U s.T (K a) t0).1,Z (l.fm (K a)).1 (OG (U s.T (K a) t0).2.1) (l.fm (K a)).2] 271)
 have am:=ai.nL (fT.of (B:=0) b1)
 have g1:=h.below b1;have F:=uS _ l.bp _ l.a1 l.k1 s.wt a g1.g3.sd.cX (iN g1.g3.sd.q0) aa;have a1:=aS (qu s.wt a) hw;by_cases g:(U s.T (K a) t0).1=5
 ·have v:ik s.T s.wt a=(eR s.wt a).map (λx=>((3:Int),x)):=by unfold ik;rw[aM g]
  rw[v];rw[g] at L b1 F;have i:=cg b1;generalize (l.fm (K a)).1=ad at*;generalize (l.fm (K a)).2=cp at*;generalize OG (U s.T (K a) t0).2.1=n at*;generalize eR s.wt a=A at*;rw[a5];go_enter func327,ntmps327;go_wp2_with fail;refine F.mono ?_;rintro e w1 ⟨b6,g6,rfl,a2,bb⟩
  have an:=cg (i.o.trans (bb.mono i.o.size))
  have bd:=cg (im a2)
  have s1:=an.o.size;go_wp2_with fail
  go_loopw [6,33] (λtv iv wr=>∃(j:Nat)(c:Option bB)(d:Nat),j<=OG A/\iv=ak j/\tv=Z c j d/\aC wr (OK (OJ w1)) 139 2 (Z c j d) j (ev ((A.take j).map (λx=>((3:Int),x))))/\J (OK (OJ w1)) w1 wr) (λ_ iv _=>OG A-K (bG iv))
  exact⟨0,OQ,0,a4 _,rfl,rfl,a9 _ _ _ _,aH _ _⟩
  ·
    obtain⟨j,c,d,b,rfl,rfl,m,hb⟩:=hrel;by_cases ao:j<OG A
    ·obtain⟨be,o,bg,lb,bi⟩:=bd.o aa;have hc:=(hb.cell (p:=av be (o+j)) lb).trans (bi j ao)
     have ap:aA (ev ((A.take (j+1)).map (λx=>((3:Int),x)))=ev ((A.take j).map (λx=>((3:Int),x)))++[ak 3,ak (U A j 0)]):=by show _=_;rw[h7 A j ao 0,bU,jL];rfl
     subst bg;have bl:=hb.size;generalize U A j 0=y at*;generalize ev ((A.take j).map (λx=>((3:Int),x)))=L at*;go_wp2_with fail;refine(pM y wr).mono ?_;rintro e bn ⟨rfl,N⟩
     have S:=cK m (λk e=>N.block k (cu m k e).2)
     have W:=hb.trans (N.mono bl)
     have bo:=W.size;clear m hb N hc;go_wp2_with (at_builtin;refine bO _ rfl _ _ 90 rfl (OK (OJ w1)) 139 aF (bz #[ak 0,ak 0]) 2 16 underlying90 hi aR aV a0 rfl ae (Z c j d) j L rfl (gq S _) ⟨OK (OJ bn),0,OQ⟩ 1 1 [ak 3,ak y] rfl rfl ?_ ?_ ?_ ?_ ?_ ?_;(intro j u b;match j,b with|0,b=>(simp at b;subst b;simp[Addr.add])|1,b=>(simp at b;subst b;simp[Addr.add]));(intro u q;simp at q;rcases q with q|q<;>(subst q;rfl));(unfold bL;omega);omega;(simp;omega);intro b8 bp ab ar _ br;obtain⟨b4,aB,bs⟩:=ff ab (ji _);subst bs)
     have bt:aC bp (OK (OJ w1)) 139 2 (Z (au b4) (j+1) aB) (j+1) (ev ((A.take (j+1)).map (λx=>((3:Int),x)))):=by rw[ap.o];exact ab
     have bx:=(W.alloc bo _).grown ar (by simp;omega) (λk e=>(cu S k e.symm).1)
     clear ab ar br S W ap;go_wp2_with fail;go_roundw;exact⟨j+1,au b4,aB,aa,aj,rfl,bt,bx⟩
     simp[bG];omega
    ·obtain rfl:j=OG A:=aa;rw[bc] at m;go_wp2_with fail;go_ret;refine⟨c,d,rfl,?_,an.o.trans (hb.mono s1)⟩
     have b0:aC wr (OK (OJ w1)) 139 2 (Z c (OG (A.map (λx=>((3:Int),x)))) d) (OG (A.map (λx=>((3:Int),x)))) (ev (A.map (λx=>((3:Int),x)))):=by rw[a5];exact m
     exact fO.of b0
 ·have v:ik s.T s.wt a=(U s.T (K a) t0).2.1:=by unfold ik;rw[aJ g]
  rw[v];have k5:((U s.T (K a) t0).1!=5)=OV:=by simpa using g
  have i:=cY am b1;clear v g ai am g1 b1 h ha F a1;generalize (U s.T (K a) t0).2.1=f at*;generalize (l.fm (K a)).1=ad at*;generalize (l.fm (K a)).2=cp at*;generalize (U s.T (K a) t0).1=kd at*;go_enter func327,ntmps327;go_wp2_with fail;go_ret;exact⟨ad,⟨cp,rfl⟩,i.o.1,i.o.2⟩
end
def rd (w0:az)(b ct b7:Nat)(T:List cH)(M:cT->Int->cT)(n:Nat):Prop:=
 ∀(w:az)(s:cT)(d:a7)(m:List ec)(a:Int),f_ w0 w b ct b7 s d m->fD (tI (OG T)) s->0<=a/\cz T (K a)->a∉s.1->OG T<=OG s.1+n->
  OS O 320 #[aq b,ak a] w λe w'=>∃f c,e=Q (ak (OG s.1))/\f_ w0 w' b ct b7 (M s a) f c/\gA w0 w m w' c
def nM (s:cT)(a:Int):Int:=if s.1.contains a=OV then(s.1.idxOf a:Int) else OG s.1
def nN (M:cT->Int->cT)(s:cT)(a:Int):cT:=if s.1.contains a=OV then s else M s a
theorem L8 {T:List cH}{M:cT->Int->cT}{s:cT}{v:Int×Int}(h:fG T v)(b:v.1=3):eg M (tI (OG T)) s (ih v)=((3,nM s v.2),nN M s v.2):=by grind [JS,JR,nM,nN]
theorem L9 (w:az):(zeroValue 2).run O w=.ok (ak 0) w:=ah
section
variable {w0 w:az}{kb ct b7 n:Nat}{T:List cH}{kd:Int->Int}{sh:Int->List Int}{M:cT->Int->cT}{s:cT}{vn:a7}{m:List ec}
theorem L_ (hM:rd w0 kb ct b7 T M n)(h:f_ w0 w kb ct b7 s vn m)(ho:fD (tI (OG T)) s)(hn:OG T<=OG s.1+n)(a:Int)(ha:0<=a/\cz T (K a))(o:OG T<=10000):
 OS O 290 #[aq kb,ak a] w λe w'=>∃c b,e=Q (ak (nM s a))/\f_ w0 w' kb ct b7 (nN M s a) c b/\gA w0 w m w' b:=by
 have H:=cg h;have k:=cg hM;obtain⟨c0,c1,c2,lk⟩:=h.cells;have al:a<10000:=by have:=ha.2.1;omega
 have L:=h.mp.look_ok (t:=283) (e:=2) underlying283 (L9 w) (x:=a) ha.1 aa;by_cases d:a∈s.1
 ·rw[L5 d] at L;have f:nM s a=(s.1.idxOf a:Int):=by grind [nM]
  have g:nN M s a=s:=by grind [nN]
  rw[f,g];generalize s.1.idxOf a=j at L⊢;go_enter func290,ntmps290;go_wp2;go_ret;exact⟨vn,m,rfl,H.o,gA.refl _ _ _⟩
 ·rw[Cu d] at L;have f:nM s a=OG s.1:=by grind [nM]
  have g:nN M s a=M s a:=by grind [nN]
  rw[f,g];have P:=k.o w s vn m a H.o ho ha d hn;generalize M s a=p at P⊢;generalize OG s.1=j at P⊢;go_enter func290,ntmps290;go_wp2_with fail;refine P.mono ?_;rintro e w1 ⟨c,b,rfl,l,k1⟩
  have i:=cY l k1;go_wp2;go_ret;exact⟨c,b,rfl,i.o.1,i.o.2⟩
theorem Cv (hM:rd w0 kb ct b7 T M n)(b6:mI (tI (OG T)) kd sh n M)(h:f_ w0 w kb ct b7 s vn m)(ho:fD (tI (OG T)) s)(hn:OG T<=OG s.1+n)(b8:OG T<=10000)(l:List (Int×Int))(hq:∀v∈l,fG T v)(ad:Option bB)(cap:Nat)(hl:fO w ad l)(hm:OG l<=100000):
 OS O 217 #[aq kb,Z ad (OG l) cap] w λe w'=>∃cj a0 a2 c2,e=Q (Z a2 (OG l) c2)/\aC w' (OK (OJ w)) 139 2 (Z a2 (OG l) c2) (OG l) (ev (dE M (tI (OG T)) s (l.map ih)).1)/\f_ w0 w' kb ct b7 (dE M (tI (OG T)) s (l.map ih)).2 cj a0/\gA w0 w m w' a0/\(∀k,gf a0 k->OH k≠OY (Value.slice a2 (OG l) c2)):=by
 obtain⟨a1,hi,bb,bd,be⟩:=bM tD;have ck:=cg hM;have cl:=cg b6;have cm:=cg hl;have ap:=cg h;have cn:=cY ho hn;have co:=cg hq;have cp:=cg b8;clear hM b6 hl h ho hq hn b8;go_enter func217,ntmps217;go_wp2_with (at_make;refine wpList_make_own _ rfl _ _ 90 rfl (OK (OJ w)) 139 a1 (bz #[ak 0,ak 0]) 2 underlying90 hi bb bd OM OM _ (OG l) rfl rfl rfl (by rw[be];omega) (by unfold bL;omega) bY ?_;intro w1 b9 ca)
 have bg:=(ax w).grown ca bY (λk e=>by cases e)
 go_loopw [5,13] (λtv iv wr=>∃(j:Nat)(i:List (Int×Int))(s1:cT)(ar:a7)(m1:List ec)(a2:Option bB)(c2:Nat),j<=OG l/\iv=ak j/\aA (dE M (tI (OG T)) s ((l.take j).map ih)=(i,s1))/\tv=Z a2 j c2/\aC wr (OK (OJ w)) 139 2 (Z a2 j c2) j (ev i)/\aA (f_ w0 wr kb ct b7 s1 ar m1)/\aA (gA w0 w m wr m1)/\aA (∀k,gf m1 k->OH k≠OY (Value.slice a2 j c2))/\aA (fD (tI (OG T)) s1/\OG T<=OG s1.1+n)) (λ_ iv _=>OG l-K (bG iv))
 ·exact⟨0,[],s,vn,m,_,_,a4 _,rfl,rfl,rfl,b9,ap.o.below bg,gA.of bg,λk hk e=>by have:=ap.o.fb k hk;simp[Value.ownBlock] at e;omega,cn.o⟩
 ·
   obtain⟨j,i,s1,ar,m1,a2,c2,b,rfl,bi,rfl,q,B,F,aB,N⟩:=hrel;clear b9 ca bg;by_cases bl:j<OG l
   ·obtain⟨cF,cG,cq,cH,hc⟩:=(cm.o.nL F.o.1).1 aa;obtain⟨cr,cs⟩:=hc j bl;subst cq;clear hc;have aF:=co.o _ (fL (x:=(0,0)) bl)
    have o:=uh M (tI (OG T)) s ((l.take j).map ih) (ih (U l j (0,0)))
    rw[bi.o] at o;have cb:(l.take (j+1)).map ih=(l.take j).map ih++[ih (U l j (0,0))]:=by rw[h7 l j bl (0,0),bU];rfl
    rw[<-cb] at o;have G:=qd cl.o N.o.1 (by rw[oJ];exact N.o.2) (ih (U l j (0,0)))
    have S:aA (_/\OG T<=OG (eg M (tI (OG T)) s1 (ih (U l j (0,0)))).2.1+n):=⟨G.ok,by have:=G.le;have:=N.o.2;omega⟩
    have o:=cg o;clear G cb;generalize U l j (0,0)=v at*;obtain⟨v0,v1⟩:=v;dsimp only at cr cs;have cI:IntKind.i64.wrap ((j:Int)+1)=(j:Int)+1:=by rw[ba];omega
    have d:=aw wr (E #[OP OM v0,OP OM v1] 139)
    have bn:=aO wr (E #[OP OM v0,OP OM v1] 139)
    have cJ:=F.o.1.size;by_cases cc:v0=3
    ·subst cc;have aR:=L8 (M:=M) (s:=s1) aF rfl;rw[aR] at o S;dsimp only at o S;have P:=L_ ck.o (B.o.below d) N.o.1 N.o.2 v1 (aF.2 rfl) cp.o;clear aR aF;generalize nM s1 v1=z at*;generalize nN M s1 v1=s2 at*;go_wp2_with fail;refine P.mono ?_;rintro e f ⟨cv,W,rfl,cw,ab⟩
     have cd:=(ab.1.iO _ _ _ _ bn ae ae).trans bn;obtain⟨cx,y1,cy,cz⟩:=dt cd;have ce:=cK q (λk hk=>by obtain⟨aV,ag⟩:=fI q k hk;have cf:=d.block k (cu q k hk).2;exact(ab.1.iO k _ _ _ (cf.trans ag) ae ae).trans cf)
     have ch:aA (∀k,gf W k->_):=λk hk e=>(ab.2 k hk).elim (λc=>aB.o k c e) (λc=>by have:=(cu q k e).2;simp at c;omega)
     have ci:gA w0 wr m1 f W:=(gA.of d).trans ab;have cA:¬gf W (OK (OJ wr)):=λc=>(ab.2 _ c).elim (λc=>by have:=B.o.fb _ c;omega) (λc=>by simp at c;omega)
     have bo:Fr (λk=>k=OK (OJ wr)) f (A f ⟨OK (OJ wr),1,OQ⟩ (OP OM z)):=(Fr.refl (λk=>k=OK (OJ wr)) f).set (OK (OJ wr)) 1 _ rfl;have ai:=cg (cw.but bo (λk _ e=>by have e:=e;rw[e];exact⟨⟨_,cd⟩,cA,by have:=B.o.fp.size;omega⟩))
     have bp:=cg (F.o.trans (ci.new bo (λk e=>by have e:k=OK (OJ wr):=e;omega)))
     have al:aC (A f ⟨OK (OJ wr),1,OQ⟩ (OP OM z)) (OK (OJ w)) 139 2 (Z a2 j c2) j (ev i):=cK ce (λk hk=>bo.block k (cu ce k hk).2 (λc=>by have c:k=OK (OJ wr):=c;have:=(cu q k hk).2;omega))
     have q0:V (A f ⟨OK (OJ wr),1,OQ⟩ (OP OM z)) (av (OK (OJ wr)) 0)=OH (ak 3):=(aY f ⟨OK (OJ wr),1,OQ⟩ ⟨OK (OJ wr),0,OQ⟩ _ ac).trans cx;have q1:V (A f ⟨OK (OJ wr),1,OQ⟩ (OP OM z)) (av (OK (OJ wr)) 1)=OH (ak z):=a6 _ _ _ y1;have cB:OK (OJ (A f ⟨OK (OJ wr),1,OQ⟩ (OP OM z)))=OK (OJ f):=by simp[World.setCell]
     have cC:=cy 1;have cD:=ci.1.size
     go_upto_region 7 with fail
     generalize A f ⟨OK (OJ wr),1,OQ⟩ (OP OM z)=t at*;have p:=cg al;have cL:OK (OJ w)<=OK (OJ t):=aa;clear y1 cC cz cB cD;go_wp2_with (at_builtin;refine bO _ rfl _ _ 90 rfl (OK (OJ w)) 139 a1 (bz #[OP OM 0,OP OM 0]) 2 16 underlying90 hi bb bd be rfl ae (Z a2 j c2) j (ev i) rfl (gq al _) ⟨OK (OJ t),0,OQ⟩ 1 1 [OP OM 3,OP OM z] rfl rfl ?_ ?_ ?_ ?_ ?_ ?_;(intro j u b;match j,b with|0,b=>(simp at b;subst b;simp[Addr.add])|1,b=>(simp at b;subst b;simp[Addr.add]));(intro u g;simp at g;rcases g with g|g<;>(subst g;rfl));(unfold bL;omega);omega;(simp;omega);intro cE br am bs _ bt;obtain⟨b4,an,bx⟩:=ff am (ji _);subst bx)
     have b0:aC br (OK (OJ w)) 139 2 (Z (au b4) (j+1) an) (j+1) (ev (i++[(3,z)])):=by rw[jL];simpa[ev] using am
     have d:=aw t (E #[OP OM 3,OP OM z] 139)
     have ao:=(Fr.refl _ _).grown bs (λk e=>aK e.symm)
     have b1:=cg ((ai.o.below d).but ao (λk _ e=>by obtain⟨aV,ag⟩:=fI p.o k e;exact⟨⟨aV,(d.block k (cu p.o k e).2).trans ag⟩,λc=>ch.o k c e,aS ap.o.fp.size (cu p.o k e).1⟩))
     have b2:=cg ((bp.o.trans (gA.of d)).new ao (λk e=>(cu p.o k e).1))
     have b3:=bt.imp id (λe=>by simpa[Value.ownBlock] using e)
     have b5:aA (∀k,gf W k->OH k≠OH b4):=λk hk e=>b3.elim (λc=>ch.o k hk (e.trans c)) (λc=>by have:=ai.o.fb k hk;simp at e;omega)
     go_wp2_with fail;go_roundw;exact⟨j+1,i++[(3,z)],s2,cv,W,au b4,an,aa,aj,o,rfl,b0,b1,b2,b5,S⟩
     simp[bG];omega
    ·have aR:=JQ (M:=M) (s:=s1) aF cc;rw[aR] at o S;have ai:=cg (B.o.below d)
     have bp:=cg (F.o.trans (gA.of d))
     have al:=cK q (λk hk=>d.block k (cu q k hk).2)
     obtain⟨q0,q1,_,_⟩:=dt bn
     go_upto_region 7 with fail
     generalize bu wr (E #[OP OM v0,OP OM v1] 139)=t at*;have p:=cg al;go_wp2_with (at_builtin;refine bO _ rfl _ _ 90 rfl (OK (OJ w)) 139 a1 (bz #[OP OM 0,OP OM 0]) 2 16 underlying90 hi bb bd be rfl ae (Z a2 j c2) j (ev i) rfl (gq al _) ⟨OK (OJ t),0,OQ⟩ 1 1 [OP OM v0,OP OM v1] rfl rfl ?_ ?_ ?_ ?_ ?_ ?_;(intro j u b;match j,b with|0,b=>(simp at b;subst b;simp[Addr.add])|1,b=>(simp at b;subst b;simp[Addr.add]));(intro u g;simp at g;rcases g with g|g<;>(subst g;rfl));(unfold bL;omega);omega;(simp;omega);intro cE br am bs _ bt;obtain⟨b4,an,bx⟩:=ff am (ji _);subst bx)
     have b0:aC br (OK (OJ w)) 139 2 (Z (au b4) (j+1) an) (j+1) (ev (i++[(v0,v1)])):=by rw[jL];simpa[ev] using am
     have d:=aw t (E #[OP OM v0,OP OM v1] 139)
     have ao:=(Fr.refl _ _).grown bs (λk e=>aK e.symm)
     have b1:=cg ((ai.o.below d).but ao (λk _ e=>by obtain⟨aV,ag⟩:=fI p.o k e;exact⟨⟨aV,(d.block k (cu p.o k e).2).trans ag⟩,λc=>aB.o k c e,aS ap.o.fp.size (cu p.o k e).1⟩))
     have b2:=cg ((bp.o.trans (gA.of d)).new ao (λk e=>(cu p.o k e).1))
     have b3:=bt.imp id (λe=>by simpa[Value.ownBlock] using e)
     have b5:aA (∀k,gf m1 k->OH k≠OH b4):=λk hk e=>b3.elim (λc=>aB.o k hk (e.trans c)) (λc=>by have:=ai.o.fb k hk;simp at e;omega)
     go_wp2_with fail;go_roundw;exact⟨j+1,i++[(v0,v1)],s1,ar,m1,au b4,an,aa,aj,o,rfl,b0,b1,b2,b5,S⟩
     simp[bG];omega
   ·obtain rfl:j=OG l:=aa;rw[bc] at bi;go_wp2_with fail;go_ret;rw[bi.o];exact⟨ar,m1,a2,c2,rfl,q,B.o,F.o,aB.o⟩
end
theorem Ma:(prog.info? 101).map (λi=>(i.zero,i.size,i.bytes))=OH (OH (bz #[ak 0,Z OQ 0 0]),2,32):=ah
section
variable {w0 w w':az}{kb ct b7:Nat}{s:cT}{vn:a7}{m:List ec}
theorem f_.turned (h:f_ w0 w kb ct b7 s vn m)(f:Fr (λk=>k=ct) w w'):fT (OK (OJ w0)) w w'/\w'.heap[kb]?=OH (E #[aq b7,.map (OH ct),vn] 285 (0,0))/\aC w' (OK (OJ w0)) 101 2 vn (OG m) (nv m)/\(∀x∈m,fO w' x.2.1 x.2.2.2)/\J (OK (OJ w0)) w0 w':=by
 obtain⟨es,d,hb⟩:=h.mp.cX;have hk:fT (OK (OJ w0)) w w':=⟨f.os,f.tape,f.output,f.size,λk hk hl=>f.block k hk (λe=>by have e:=e;have:=h.lo.2;omega),λk g e mm hk _ _=>(by grind [Fr.block])⟩
 refine⟨hk,(f.block kb (ck h.cX) (λc=>?_)).trans h.cX,cK h.row (λk e=>f.block k (cu h.row k e).2 (λc=>?_)),λx b=>(h.fl x b).nL hk,h.fp.trans (hk.below h.fp.size)⟩
 ·have c:=c;have:=h.cX
  grind
 ·obtain⟨i,j⟩:=fI h.row k e
  grind
end
theorem f_.grown {w0 w j c:az}{b ct b7:Nat}{ms:List Int}{l:List _}{i d:a7}{m:List ec}{kd:Int}
 (hk:w.heap[b]?=OH (E #[aq b7,.map (OH ct),i] 285 (0,0)))(lo:OK (OJ w0)<=b/\OK (OJ w0)<=ct)(hm:eS w ct (OG ms) (lO ms))(hr:aC w (OK (OJ w0)) 101 2 i (OG m) (nv m))(t:hP m=l)(u:∀x∈m,fO w x.2.1 x.2.2.2)(hb:J (OK (OJ w0)) w0 w)
 (f:J (OK (OJ w)) w j)(v:aC c (OK (OJ w0)) 101 2 d (OG m+1) (nv m++[ak kd,Z OQ 0 0]))(g4:j.grownBy c i.ownBlock):
 f_ w0 (A c ⟨b,2,OQ⟩ d) b ct b7 (ms,l++[(kd,[])]) d (m++[(kd,OQ,0,[])])/\gA w0 w m (A c ⟨b,2,OQ⟩ d) (m++[(kd,OQ,0,[])])/\c.heap[b]?=OH (E #[aq b7,.map (OH ct),i] 285 (0,0)):=by
 obtain⟨es,B,F⟩:=hm.cX;have N:=(fT.of f).trans (fT.grown g4 (λk e=>⟨(cu hr k e.symm).1,λS ty mm hc=>by obtain⟨W,n⟩:=fI hr k e.symm;have:=(f.block k (ck n)).trans n;rw[this] at hc;simp at hc;exact aI hc.2.1.symm⟩))
 have p:=(g4.block b (aL (by grind) f.size) (by grind [fI])).trans ((f.block b (ck hk)).trans hk)
 have q:fT (OK (OJ w0)) w (A c ⟨b,2,OQ⟩ d):=(by grind [fT.trans,fT.set])
 have s:ct≠b:=λe=>by grind
 have ab:(nv (m++[(kd,OQ,0,[])]:List ec))=nv m++[ak kd,Z OQ 0 0]:=by rw[ya];rfl
 refine⟨⟨?_,lo,?_,?_,?_,λx g=>?_,(by grind [fT.below,Below.trans])⟩,⟨q,λk hk=>?_⟩,p⟩
 ·simp only [World.setCell,Array.getElem?_modify,if_true,p,Option.map_some];rfl
 ·refine hm.same ((aW _ _ _ _ s).trans ((g4.block ct (aL (by grind) f.size) (λe=>?_)).trans (by grind [Below.block])))
  grind [fI]
 ·grind [cK,fI,aW]
 ·grind [hP]
 ·grind [fO.nL,fO.nil]
 ·obtain⟨x,g,hl,o,e⟩:=hk;rcases bw.1 g with g|g
  ·exact aK ⟨x,g,hl,o,e⟩
  grind
theorem f_.filled {w0 w:az}{f ct b7 g cap len:Nat}{s:cT}{m:List ec}(h:f_ w0 w f ct b7 s (Z (au g) len cap) m){i:Nat}{k0:Int}{v0:List _}(hi:s.2[i]?=OH (k0,v0)){base c2:Nat}{a2:Option bB}{b:List _}
 (hr:aC w base 139 2 (Z a2 (OG b) c2) (OG b) (ev b)):
 f_ w0 (A w ⟨g,i*2+1,OQ⟩ (Z a2 (OG b) c2)) f ct b7 (s.1,s.2.set i (k0,b)) (Z (au g) len cap) (m.set i (k0,a2,c2,b))/\fT (OK (OJ w0)) w (A w ⟨g,i*2+1,OQ⟩ (Z a2 (OG b) c2))/\(∀k,gf (m.set i (k0,a2,c2,b)) k->gf m k\/base<=k):=by
 obtain⟨l,j⟩:=fI h.row g rfl;have d:fT (OK (OJ w0)) w (A w ⟨g,i*2+1,OQ⟩ (Z a2 (OG b) c2)):=fT.set j (by grind) (cu h.row g rfl).1;obtain⟨x,n,p⟩:∃x:ec,m[i]?=OH x/\(x.1,x.2.2.2)=(k0,v0):=by
  have:=hi;rw[<-h.nd,hP,List.getElem?_map] at this
  grind
 have q:x.1=k0:=(by grind)
 have hlen:len=OG m:=by
  rcases h.row.2 with⟨hv,_⟩|⟨t,u,v,hv,_⟩
  all_goals grind
 refine⟨⟨(aW _ _ _ _ (λc=>?_)).trans h.cX,h.lo,h.mp.same (aW _ _ _ _ (λc=>?_)),?_,?_,λy hy=>?_,h.fp.trans (d.below h.fp.size)⟩,d,λk hk=>?_⟩
 ·have c:=c;have:=h.cX
  grind
 ·obtain⟨es,B,hb⟩:=h.mp.cX
  grind
 ·grind [uz,row,ql]
 ·rw[hP,wI];show((hP m).set i (k0,b))=_;rw[h.nd]
 ·rcases mg hy with hy|hy
  ·exact(h.fl y hy).nL d
  ·subst hy;exact(fO.of hr).nL d
 ·obtain⟨y,hy,hl,o,e⟩:=hk;exact zK
theorem Mb {T:List cH}{x:Int}(h:0<=x/\cz T (K x))(b:OG T<=10000):fG T (3,x):=by
 refine⟨?_,λ_=>h⟩
 have c:=h.2.1
 grind [uq,rc]
theorem Md {T:List cH}{wt:List b8}(hv:kF T wt){a:Int}(ha:0<=a/\cz T (K a)):∀v∈ik T wt a,fG T v:=λv h=>by
 unfold ik at h;split at h
 ·obtain⟨x,b,rfl⟩:=bR.1 h;unfold eR at b;obtain⟨e,he,rfl⟩:=bR.1 b
  grind [Mb,kF.wv,kF.l1]
 grind [kF.fv]
theorem Me {T:List cH}{wt:List b8}(hv:kF T wt)(a:Int):OG (ik T wt a)<=20000:=by grind [kF.tl,qu,kF.l2,ik]
section
variable {w0:az}{kb ct b7:Nat}{ce grow:Int}{l:ii}{S:cj}
theorem Mf (hg:dO b7 ce grow l S w0)(hv:kF S.T S.wt)(ab:∀i,cz S.T i->(U S.T i t0).1=5->(U S.T i t0).2.1=[])(n:Nat)(M:cT->Int->cT)(hM:rd w0 kb ct b7 S.T M n)(ar:mI (tI (OG S.T)) (iu S.T) (iw S.T S.wt) n M):
 rd w0 kb ct b7 S.T (λs a=>((dE M (tI (OG S.T)) (s.1++[a],s.2++[(iu S.T a,[])]) (iw S.T S.wt a)).2.1,(dE M (tI (OG S.T)) (s.1++[a],s.2++[(iu S.T a,[])]) (iw S.T S.wt a)).2.2.set (OG s.1) (iu S.T a,(dE M (tI (OG S.T)) (s.1++[a],s.2++[(iu S.T a,[])]) (iw S.T S.wt a)).1))) (n+1):=by
 intro w s cS m a h ho ha hn hl;obtain⟨cl,hi,cm,cn,co⟩:=bM Ma;have aB:a∈tI (OG S.T):=q8.2 ⟨ha.1,by have:=ha.2.1;have:=ha.1;omega⟩
 have bo:=hv.l1;have cp:=ho.lt aB hn;rw[oJ] at cp;have al:a<10000:=by have:=ha.2.1;omega
 have cq:OG m=OG s.1:=by rw[h.len,ho.len]
 have aF:=ho.more aB hn (iu S.T a,[])
 have hlen:=o4 M (tI (OG S.T)) (s.1++[a],s.2++[(iu S.T a,[])]) (iw S.T S.wt a)
 have G:=qe ar aF (by rw[oJ];simp;omega) (iw S.T S.wt a)
 have bp:(dE M (tI (OG S.T)) (s.1++[a],s.2++[(iu S.T a,[])]) (iw S.T S.wt a)).2.2[OG s.1]?=OH (iu S.T a,[]):=by rw[G.old (OG s.1) ac,List.getElem?_append_right (by rw[ho.len];exact aG _),ho.len];simp
 have cU:OG s.1<OG (dE M (tI (OG S.T)) (s.1++[a],s.2++[(iu S.T a,[])]) (iw S.T S.wt a)).2.1:=by
  have:=G.le;simp at this
  omega
 have cr:OG (dE M (tI (OG S.T)) (s.1++[a],s.2++[(iu S.T a,[])]) (iw S.T S.wt a)).2.2=OG (dE M (tI (OG S.T)) (s.1++[a],s.2++[(iu S.T a,[])]) (iw S.T S.wt a)).2.1:=G.ok.len;have aR:=L6 (wt:=S.wt) (ab _ ha.2)
 have br:OG (ik S.T S.wt a)=OG (iw S.T S.wt a):=by rw[<-aR,a5]
 have bs:aA (∀(b:az)(bt:a7)(aV:List ec)(ad:Option bB)(cap:Nat),f_ w0 b kb ct b7 (s.1++[a],s.2++[(iu S.T a,[])]) bt aV->fO b ad (ik S.T S.wt a)->
  OS O 217 #[aq kb,.slice ad (OG (ik S.T S.wt a)) cap] b λe w'=>∃cs a0 a2 c2,e=Q (.slice a2 (OG (ik S.T S.wt a)) c2)/\aC w' (OK (OJ b)) 139 2 (.slice a2 (OG (ik S.T S.wt a)) c2) (OG (ik S.T S.wt a)) (ev (dE M (tI (OG S.T)) (s.1++[a],s.2++[(iu S.T a,[])]) (iw S.T S.wt a)).1)/\f_ w0 w' kb ct b7 (dE M (tI (OG S.T)) (s.1++[a],s.2++[(iu S.T a,[])]) (iw S.T S.wt a)).2 cs a0/\gA w0 b aV w' a0/\(∀k,gf a0 k->OH k≠OY (Value.slice a2 (OG (ik S.T S.wt a)) c2))):=
  λb bt aV ad cap ab cu=>by
   have P:=Cv hM ar ab aF (by simp;omega) bo (ik S.T S.wt a) (Md hv ha) ad cap cu (by have:=Me hv a;omega)
   rw[aR] at P;exact P
 have bx:aA (∀w1,J (OK (OJ w0)) w0 w1->V w1 (av kb 0)=OH (aq b7)->OS O 327 #[aq kb,ak a] w1 λe w'=>∃ad cap,e=Q (.slice ad (OG (ik S.T S.wt a)) cap)/\fO w' ad (ik S.T S.wt a)/\J (OK (OJ w1)) w1 w'):=
  λw1 hb hc=>L7 (hg.below hb) kb hc a ha bo hv.l2
 have a1:aA (∀w1,J (OK (OJ w0)) w0 w1->V w1 (av b7 2)=OH (.map (OH l.mb))/\(Instr.lookup 194 (.map (OH l.mb)) (ak a) OU).run O w1=.ok (.agg #[ak (iu S.T a),.slice (l.fm (K a)).1 (OG (U S.T (K a) t0).2.1) (l.fm (K a)).2]) w1/\b7<OK (OJ w1)):=λw1 hb=>by have g1:=hg.below hb;obtain⟨_,_,c2,_,_,_,_,_,cv⟩:=g1.cells;have L:=g1.g2.mp.look (t:=194) (e:=271) underlying194 (nG w1) (x:=a) ha.1 aa;rw[kh ha] at L;exact⟨c2,L,cv⟩
 have cV:aA (b7<OK (OJ w0)):=hg.cells.2.2.2.2.2.2.2.2;obtain⟨w1,cw,bb,b0⟩:=h.mp.put (t:=283) (e:=2) underlying283 aa (x:=a) ha.1 aa (.int OM (OG s.1))
 rw[L4 hn] at bb;have b1:Fr (λk=>k=ct) w w1:=(Fr.refl _ _).grown b0 (λk e=>aK (by cases e;rfl))
 have cx:=h.turned b1;have b2:aA (eS w1 ct (OG (s.1++[a])) (lO (s.1++[a]))):=by rw[aX,List.length_singleton];exact bb
 have hlo:=h.lo;obtain⟨B,dS,cy⟩:=e5 h.row;subst cy;obtain⟨c0,c1,c2,lk⟩:=h.cells;have b3:aA (hP m=s.2):=h.nd;clear hM ar G aF hv hg bb b0 b1 aR ab ha h ho aB hn hl;dsimp only;generalize dE M (tI (OG S.T)) (s.1++[a],s.2++[(iu S.T a,[])]) (iw S.T S.wt a)=R at*;rw[<-br] at hlen;clear br;generalize ik S.T S.wt a=cW at*;obtain⟨cX,cA⟩:=R;dsimp only at*;generalize iu S.T a=kd at*;generalize OG (U S.T (K a) t0).2.1=cB at*;generalize (l.fm (K a)).1=cC at*;generalize (l.fm (K a)).2=fc at*;generalize OG s.1=L at*;subst cq;obtain⟨bd,d,be,b5,F⟩:=cx;obtain⟨cD,G2,G3⟩:=a1.o w1 F;obtain⟨_,G4,_⟩:=a1.o w1.drew F.drew;have cE:(Instr.field 271 (.agg #[ak kd,.slice cC cB fc]) 0).run O w1.drew=.ok (ak kd) w1.drew:=by first|rfl|kernel_rfl|simp[cY]
 have cF:V w1 (av kb 0)=OH (aq b7):=aD d
 have b6:V w1 (av kb 2)=OH (.slice B (OG m) dS):=aD d
 have b8:bF w1 (av kb 2)=OU:=aE d
 have bg:kb<OK (OJ w1):=ck d;have o:aA (_/\_/\_/\_/\_):=⟨bd,d,be,b5,F⟩
 have b9:aA (gA w0 w m w1 m):=⟨bd,λk h=>aK h⟩
 have ca:OH kb≠OY (Value.slice B (OG m) dS):=λe=>by obtain⟨cZ,cb⟩:=fI be kb e;rw[d] at cb;simp at cb
 have c3:OK (OJ w0)<=OK (OJ w1):=F.size;clear bd d be b5 F a1 G2;have N:=(aw w1 (E #[.int OM kd,.slice OQ 0 0] 101)).drew;have cc:aA (aC (bu w1 (E #[.int OM kd,.slice OQ 0 0] 101)).drew (OK (OJ w0)) 101 2 (.slice B (OG m) dS) (OG m) (nv m)):=cK (gq o.o.2.2.1 _) (λ_ _=>rfl)
 go_enter func320,ntmps320;go_wp2_with fail;clear cw c0 c1 c2 lk
 go_region_law (refine step_append_lies _ rfl (.tmp 22) (.tmp 34) 95 rfl (OK (OJ w0)) 101 cl (.agg #[ak 0,.slice OQ 0 0]) 2 32 underlying95 hi cm cn co rfl ae (.slice B (OG m) dS) (OG m) (nv m) (by simp[Act.eval]) cc.o ⟨OK (OJ w1),0,OQ⟩ 1 1 [ak kd,.slice OQ 0 0] (by simp[Act.eval]) rfl ?_ ?_ ae (by unfold bL;omega) aa (by simp;omega) _ rfl ?_;(intro j u f;match j,f with|0,f=>(simp at f;subst f;simp[Addr.add])|1,f=>(simp at f;subst f;simp[Addr.add]));(intro u W;simp at W;rcases W with W|W<;>(subst W;rfl));intro b4 ag ai cd am cG cH;have cI:=am.cell (a:=⟨kb,2,OQ⟩) (v:=.slice B (OG m) dS) ((N.cell (p:=av kb 2) bg).trans b6) ca;have cJ:bF ai (av kb 2)=OU:=(World.frozen?_of_block (a:=⟨kb,2,OQ⟩) (am.block _ (aL bg N.size) ca)).trans ((N.frozen (p:=av kb 2) bg).trans b8))
 all_goals
  have cL:=f_.grown o.o.2.1 hlo b2.o o.o.2.2.1 b3.o o.o.2.2.2.1 o.o.2.2.2.2 N cd am;obtain⟨cf,cg,_⟩:=cL;have bi:aA (gA w0 w m (A ai ⟨kb,2,OQ⟩ (.slice (OH ⟨b4,0,OQ⟩) (OG m+1) ag)) (m++[(kd,OQ,0,[])])):=b9.o.trans cg;have an:aA (f_ w0 (A ai ⟨kb,2,OQ⟩ (.slice (OH ⟨b4,0,OQ⟩) (OG m+1) ag)) kb ct b7 (s.1++[a],s.2++[(kd,[])]) (.slice (au b4) (OG m+1) ag) (m++[(kd,OQ,0,[])])):=cf;clear cf cg b9 cc N o b2 b3 cd am cG cH cI cJ cF b6 b8 cD G3 G4 cE;go_wp2_with fail;generalize A ai ⟨kb,2,OQ⟩ (.slice (OH ⟨b4,0,OQ⟩) (OG m+1) ag)=b at*;refine(bx.o b an.o.fp an.o.cells.1).mono ?_;clear bx;rintro e cM ⟨ad,cap,rfl,ch,ao⟩
  go_wp2_with fail;refine(bs.o cM _ _ ad cap (an.o.below ao) ch).mono ?_;clear bs;rintro e cN ⟨c4,g,a2,c5,rfl,bl,q,ci,cO⟩
  have c6:OG g=OG cA.1:=q.len.trans cr;obtain⟨c7,c8,cP⟩:=ff q.row aa;subst cP;have c9:=q.cells.2.2.1;have cQ:OG m<OG g:=aa;obtain⟨bn,da⟩:=kq q.row ((qk g (OG m) _ (aP cQ)).2)
  rw[<-hlen] at bl;have ap:aA (_/\_/\_):=q.filled bp bl;have cj:aA (gA w0 w m cN g):=(bi.o.trans (gA.of ao)).trans ci;have cR:=((bi.o.trans (gA.of ao)).1).size;generalize (g[OG m]).2.1=q1 at bn;generalize OG (g[OG m]).2.2.2=db at bn;generalize (g[OG m]).2.2.1=q3 at bn;rw[hlen] at ap;clear ch ao bl q ci cO bi an bp hlen;go_wp2_with fail;go_ret;exact⟨_,_,rfl,ap.o.1,cj.o.1.trans ap.o.2.1,λk hk=>(ap.o.2.2 k hk).elim (cj.o.2 k) (λc=>aI (aS cR c))⟩
theorem Cw (hg:dO b7 ce grow l S w0)(hv:kF S.T S.wt)(b:∀i,cz S.T i->(U S.T i t0).1=5->(U S.T i t0).2.1=[]):∀n,rd w0 kb ct b7 S.T (met (tI (OG S.T)) (iu S.T) (iw S.T S.wt) n) n
 |0=>λw s d m a _ ho ha hn hl=>by have c:=ho.lt (q8.2 ⟨ha.1,by have:=ha.2.1;omega⟩) hn;rw[oJ] at c;omega
 |n+1=>Mf hg hv b n _ (Cw hg hv b n) (kn n)
end
section
variable {b7:Nat}{ce grow:Int}{l:ii}{S:cj}{w:az}
theorem Mk (hg:dO b7 ce grow l S w)(hv:kF S.T S.wt)(aB:∀i,cz S.T i->(U S.T i t0).1=5->(U S.T i t0).2.1=[])(hr:∀v∈S.rs,fG S.T v):
 OS O 138 #[aq b7] w λe w'=>∃aF bp g aR o,e=Q (bz #[Z aF 12 bp,Z g aR o])/\ll w' (OK (OJ w)) aF (ee.eT S.T S.wt S.rs).1/\jY w' (OK (OJ w)) g (ee.eT S.T S.wt S.rs).2.2/\aR=OG (ee.eT S.T S.wt S.rs).2.2/\J (OK (OJ w)) w w':=by
 have cb:=@run_makeMap O;have al:=aw w (E #[Z OQ 0 0,Z OQ 0 0] 97)
 have aV:=aO w (E #[Z OQ 0 0,Z OQ 0 0] 97)
 have F:=hg.below al;have am:=hg.g4.rl;obtain⟨_,_,_,_,_,_,a0,_,br⟩:=F.cells;have a1:fO (bu w (E #[Z OQ 0 0,Z OQ 0 0] 97)) (au l.rb) S.rs:=by
  have c:=F.g4.cells;refine⟨λhp=>⟨l.rb,0,rfl,c.1,λi hi=>?_⟩,λhp=>⟨l.rb,0,_,rfl,F.g4.rt⟩⟩
  have:=c.2.2 i aa;rw[bV];exact⟨this.1,this.2.1⟩
 have bb:OK (OJ w)<OK (OJ (bu w (E #[Z OQ 0 0,Z OQ 0 0] 97))):=ac;have W:=eS.made (bu w (E #[Z OQ 0 0,Z OQ 0 0] 97))
 have ab:lO []=λ_=>OQ:=by
  funext x
  exact Cu ac
 rw[<-ab] at W;have b2:=((aH _ (bu w (E #[Z OQ 0 0,Z OQ 0 0] 97))).alloc bY (.map #[] 0)).alloc ac (E #[bq (OH ⟨b7,0,OQ⟩),.map (OH (OK (OJ w)+1)),Z OQ 0 0] 285)
 have an:=jy (bu w (E #[Z OQ 0 0,Z OQ 0 0] 97)) (.map #[] 0) (E #[bq (OH ⟨b7,0,OQ⟩),.map (OH (OK (OJ w)+1)),Z OQ 0 0] 285)
 have ag:OK (OJ (bu w (E #[Z OQ 0 0,Z OQ 0 0] 97)))=OK (OJ w)+1:=ac;rw[ag] at W an;have bd:=W.same (w':=bu (bu (bu w (E #[Z OQ 0 0,Z OQ 0 0] 97)) (.map #[] 0)) (E #[bq (OH ⟨b7,0,OQ⟩),.map (OH (OK (OJ w)+1)),Z OQ 0 0] 285)) (aU _ _ _ ac)
 have be:aA (f_ (bu w (E #[Z OQ 0 0,Z OQ 0 0] 97)) (bu (bu (bu w (E #[Z OQ 0 0,Z OQ 0 0] 97)) (.map #[] 0)) (E #[bq (OH ⟨b7,0,OQ⟩),.map (OH (OK (OJ w)+1)),Z OQ 0 0] 285)) (OK (OJ w)+1+1) (OK (OJ w)+1) b7 ([],[]) (Z OQ 0 0) []):=
  ⟨an,⟨by rw[ag];omega,by rw[ag];exact aG _⟩,bd,a9 _ _ _ _,rfl,λx j=>by simp at j,b2⟩
 have bs:=(b2.cell (p:=av b7 6) br).trans a0;have ao:OK (OJ w)<=OK (OJ (bu (bu (bu w (E #[Z OQ 0 0,Z OQ 0 0] 97)) (.map #[] 0)) (E #[bq (OH ⟨b7,0,OQ⟩),.map (OH (OK (OJ w)+1)),Z OQ 0 0] 285))):=by simp;omega
 have ai:=Cv (Cw F hv aB (OG S.T)) (kn _) be.o (fD.start _) ac hv.l1 S.rs hr (au l.rb) 12 (a1.nL (fT.of (B:=0) b2)) aa;have bt:aA (OG (ee.eT S.T S.wt S.rs).1=12):=by show _=_;unfold ee.eT;rw[o4,a5];exact am
 change OS _ _ _ _ (λe w'=>∃bx ap a2 c2,e=Q (Z a2 (OG S.rs) c2)/\aC w' _ 139 2 (Z a2 (OG S.rs) c2) (OG S.rs) (ev (ee.eT S.T S.wt S.rs).1)/\f_ _ w' _ _ b7 (ee.eT S.T S.wt S.rs).2 bx ap/\gA _ _ [] w' ap/\(∀k,gf ap k->OH k≠OY (Value.slice a2 (OG S.rs) c2))) at ai;rw[am] at ai;clear hg F hv aB hr a1 W bd an ab a0 be am;generalize ee.eT S.T S.wt S.rs=R at*;obtain⟨cc,s⟩:=R;dsimp only at*;have ar:=cg al;clear al;go_enter func138,ntmps138;go_wp2_with fail;refine ai.mono ?_;clear ai;rintro e w2 ⟨cd,m,a2,c2,rfl,q,f,bg,_⟩
 obtain⟨g,o,b0⟩:=e5 f.row;subst b0;have cf:=f.cells.2.2.1;have bi:=ar.o.trans (f.fp.mono ar.o.size)
 have n:=(f.fp.block _ bb).trans aV;have y0:V w2 (av (OK (OJ w)) 0)=OH (Z OQ 0 0):=aD n
 have y1:V w2 (av (OK (OJ w)) 1)=OH (Z OQ 0 0):=aD n
 have ch:bF w2 (av (OK (OJ w)) 0)=OU:=aE n
 have ci:bF w2 (av (OK (OJ w)) 1)=OU:=aE n
 have l2:=ck n;have b1:=cY f q;have b3:=cg f.len;have b4:=cg bi;have bl:=cg n;have b5:aA (∀k,gf m k->OK (OJ w)<=k):=λk hk=>(bg.2 k hk).elim (fun⟨x,j,_⟩=>by cases j) (λd=>aS ao d)
 have b6:=cg ao;clear f q bg bi n aV bs ar b2 ao ag bb;go_wp2_with fail;obtain⟨t,hW0⟩:∃t,t=A (A w2 ⟨OK (OJ w),0,OQ⟩ (Z a2 12 c2)) ⟨OK (OJ w),1,OQ⟩ (Z g (OG m) o):=⟨_,rfl⟩
 rw[<-hW0];have g0:V t (av (OK (OJ w)) 0)=OH (Z a2 12 c2):=by exact pv
 have g1:V t (av (OK (OJ w)) 1)=OH (Z g (OG m) o):=by exact Bv
 have u:Fr (λk=>k=OK (OJ w)) w2 t:=by rw[hW0];exact((Fr.refl (λk=>k=OK (OJ w)) w2).set (OK (OJ w)) 0 _ rfl).set (OK (OJ w)) 1 _ rfl
 clear hW0;obtain⟨f,q⟩:=b1.o;have bn:∀{ad:Option bB}{L:List (Int×Int)},fO w2 ad L->dQ t ad L:=λ{ad L} h=>h.1.keep u.size (λhp b e=>by
  obtain⟨b8,cj,cl,ab,hb⟩:=h.2 hp;rw[ab] at e;cases e;refine u.block _ (ck hb) (λc=>?_)
  have c:b8=OK (OJ w):=c;rw[c,bl.o] at hb;simp at hb)
 refine a3 (v:=bz #[Z a2 12 c2,Z g (OG m) o]) (by simp[results,results138,go_sem,g0,g1]) rfl ⟨a2,c2,g,OG m,o,rfl,⟨bn (fO.of (by rw[bt.o];exact q)),λhp=>?_⟩,⟨m,f.nd,λx j=>bn (f.fl x j),b5.o,λhp=>?_⟩,b3.o,b4.o.trans (u.below (Nat.le_of_lt l2) (λk e=>Nat.le_of_eq (Eq.symm e)))⟩
 ·obtain⟨b,cap,e⟩:=ff q ae;cases e;exact⟨b,0,rfl,aS b6.o (cu q b rfl).1⟩
 obtain⟨b,cap,e⟩:=ff f.row hp;cases e;have b9:=(cu f.row b rfl).1;simp at b9;obtain⟨cm,N⟩:=fI f.row b rfl;have bo:b≠OK (OJ w):=λc=>by rw[c,bl.o] at N;simp at N
 refine⟨b,0,rfl,aa,aL (ck N) u.size,λi x j=>?_⟩
 obtain⟨n1,ca⟩:=qk m i x j;rw[bV];exact⟨(aQ (a:=⟨b,i*2,OQ⟩) (u.block b (ck N) bo)).trans (kq f.row n1).1,(aQ (a:=⟨b,i*2+1,OQ⟩) (u.block b (ck N) bo)).trans (kq f.row ca).1⟩
end
theorem Ml {T:List cH}{wt:List b8}(b:e9 T wt):∃g,dW T wt g:=by
 classical
 refine⟨λis=>(kr (OG is)).map (λi=>decide (∀X:Nat->Prop,iJ T wt X->(∀k,cx is k->X k)->X i)),λis hl c=>?_⟩
 have key:∀i,cx ((kr (OG is)).map (λi=>decide (∀X:Nat->Prop,iJ T wt X->(∀k,cx is k->X k)->X i))) i↔i<OG is/\∀X:Nat->Prop,iJ T wt X->(∀k,cx is k->X k)->X i:=by grind [cx]
 refine⟨ac,λi hi=>(by grind [cx.lt]),λi hi e v hv d=>?_,λX hX hs i hi=>(by grind)⟩
 have k2:∀X:Nat->Prop,iJ T wt X->(∀k,cx is k->X k)->_:=λX hX hs=>hX i hi (by grind) v (by grind [jH.mono]) d;exact(key _).2 ⟨(hl▸(k2 (cz T) b.cls c).1),k2⟩
theorem Mm:∃g:fS,∀T wt,e9 T wt->dW T wt (g T wt):=by
 classical
 refine⟨λT wt=>if h:∃g,dW T wt g then h.choose else id,λT wt b=>?_⟩
 grind [Ml]
section
variable {σ:Type}{is:σ->Int->Bool}{kp:σ->Int->σ}{I:σ->List b8->Prop}{R:List b8}
theorem w9 (hk:∀s C e,I s C->e∈R->is s e.1=OV->I (kp s e.2) (C++[e])):∀(l:List b8)(s:σ)(C D:List b8),(∀e∈l,e∈R)->I s C->I (ch.pass is kp l s C D).1 (ch.pass is kp l s C D).2.1
 |[],_,_,_,_,h=>h
 |e::r,s,C,D,b,h=>by
  unfold ch.pass;have hr:_:=λx d=>b x (bk _ d)
  split
  ·rename_i c;exact w9 hk r _ _ _ hr (by grind)
  ·exact w9 hk r _ _ _ hr h
theorem Cx (hk:∀s C e,I s C->e∈R->is s e.1=OV->I (kp s e.2) (C++[e])):∀(n:Nat)(D:List b8)(s:σ)(C:List b8),(∀e∈D,e∈R)->I s C->I (ch.turns is kp n D s C).1 (ch.turns is kp n D s C).2.1
 |0,_,_,_,_,h=>h
 |n+1,D,s,C,b,h=>by
  have c:=w9 hk D s C [] b h;unfold ch.turns;split
  ·omega
  ·exact Cx hk n _ _ _ (by grind [B4]) c
end
structure w_ (s:cj)(g:List Bool->List Bool)(mj:Bool)(L:List Bool)(C:List b8):Prop where
 ok:hJ s.T L
 up:∀k,cx (s.c0 g mj) k->cx L k
 cl:iJ s.T s.wt (cx L)
 cC:∀e∈C,e∈s.rg/\cx L (K e.1)/\cx L (K e.2)
 lt:∀X,iJ s.T s.wt X->(∀k,cx (s.c0 g mj) k->X k)->(∀e∈s.rg,cZ (s.c0 g mj) e.2=OU->X (K e.2))->∀k,cx L k->X k
theorem Cy {s:cj}(h:fX s){g:List Bool->List Bool}(hg:dW s.T s.wt g)(mj:Bool):pK s.T s.wt (kZ s.T s.rs mj) (s.c0 g mj)/\hJ s.T (s.c0 g mj):=by have b:=h.first mj;exact⟨hg _ b.len b.al,(hg.ok h.iv b).1⟩
theorem Mn {s:cj}(h:fX s){g:List Bool->List Bool}(hg:dW s.T s.wt g)(mj:Bool):w_ s g mj (s.cR g mj).1 (s.cR g mj).2.1:=by
 obtain⟨l,m⟩:=Cy h hg mj;refine Cx (λL C e f he n=>?_) _ _ _ _ (λe he=>he) ⟨m,λk hk=>hk,l.cl,λe he=>by grind,λX _ hX _ k hk=>(by grind)⟩
 obtain⟨he,hn⟩:=bK.1 he;have hn:cZ (s.c0 g mj) e.2=OU:=by grind
 have ha:=(h.gv e he).2;obtain⟨j,o,q⟩:=f.ok.put ha.2;have c:=hg _ j.len j.al;have d:∀k,cx L k->_:=λk hk=>c.up k (by grind)
 refine⟨(hg.ok h.iv j).1,λk hk=>d k (f.up k hk),c.cl,λx b=>?_,λX hX h0 t k hk=>?_⟩
 ·rcases bw.1 b with b|b
  ·obtain⟨q1,p,q3⟩:=f.cC x b;exact⟨q1,d _ p,d _ q3⟩
  ·rw[bN.1 b];exact⟨he,d _ n,c.up _ o⟩
 ·refine c.lt X hX (λi hi=>?_) k hk
  grind [w_.lt,cx]
theorem Mq (s:cj)(g:List Bool->List Bool)(mj:Bool):OG (s.cR g mj).2.1<=OG (s.rg.filter (λe=>!cZ (s.c0 g mj) e.2)):=by
 have:=xQ (is:=cZ) (kp:=gz g) (OG s.rg+1) (s.rg.filter (λe=>!cZ (s.c0 g mj) e.2)) (s.c0 g mj) [];unfold cj.cR
 grind
theorem Mr {s:cj}(h:fX s){g:List Bool->List Bool}(hg:dW s.T s.wt g)(mj:Bool){v:Int×Int}(hv:v∈s.rs)(b:v.1=3):cx (s.c0 g mj) (K v.2):=
 (Cy h hg mj).1.up _ ((lK _ _ _ _).2 ⟨(h.rv v hv b).2.1,aI ⟨v,hv,b,rfl⟩⟩)
theorem xa (L:List Bool)(T:List cH)(i:Nat):U (gS L T (OG T)) i t0=if i<OG T then gj L i (U T i t0) else t0:=by
 by_cases h:i<OG T
 ·rw[sX L T (OG T) i aa h,aM h,aM h]
 grind [kC]
theorem Cz {L:List Bool}{i:Nat}{t:cH}(b:U L i OU=OU):gj L i t=(t.1,[],t.2.2.1,OV):=by grind [gj]
theorem tH (L:List Bool)(i:Nat)(t:cH):(gj L i t).1=t.1:=by grind [gj]
theorem Ms {L:List Bool}{i:Nat}{t:cH}(b:U L i OU=OV):(gj L i t).2.2=(OV,t.2.2.2):=by grind [gj]
theorem Mt {T:List cH}{L:List Bool}(h:hJ T L)(i:Nat):cz (gS L T (OG T)) i↔cx L i:=by
 unfold cz;rw[kC,xa];constructor
 ·grind [Cz,cx]
 ·intro hi;have ha:=h.al i hi;refine⟨ha.1,?_⟩
  rw[aM ha.1,Ms hi];exact ha.2
theorem tJ {L:List Bool}{i:Nat}{t:cH}(b:U L i OU=OV):
 (t.1=4/\eM L (U t.2.1 0 (0,0))=OU/\(gj L i t).2.1=[(2,0),(2,0)])\/(t.1=3/\eM L (U t.2.1 0 (0,0))=OU/\(gj L i t).2.1=[(2,0),U t.2.1 1 (0,0)])\/((t.1=3\/t.1=4->eM L (U t.2.1 0 (0,0))=OV)/\(gj L i t).2.1=t.2.1):=by grind [gj]
def nO (T:List cH)(e:b8):Prop:=(0<=e.1/\cz T (K e.1))/\(U T (K e.1) t0).1=5/\0<=e.2/\cz T (K e.2)
structure eb (s:cj)(j:Nat):Prop where
 kd:∀i,cz s.T i->1<=(U s.T i t0).1/\(U s.T i t0).1<=5
 fl:∀i,cz s.T i->(U s.T i t0).1=3\/(U s.T i t0).1=4->OG (U s.T i t0).2.1=2
 g5:∀i,cz s.T i->(U s.T i t0).1=5->(U s.T i t0).2.1=[]
 fv:∀i,cz s.T i->∀v∈(U s.T i t0).2.1,fG s.T v
 tl:∀i,OG (U s.T i t0).2.1<=12
 rv:∀v∈s.rs,fG s.T v
 rl:OG s.rs=12
 gv:∀e∈s.rg,nO s.T e
 wv:∀e∈s.wt,nO s.T e
 en:OG s.rg+OG s.wt<=24
 tj:OG s.T<=j
theorem eb.more {s:cj}{j k:Nat}(h:eb s j)(hk:j<=k):eb s k:={h with tj:=aS h.tj hk}
theorem eb.iv {s:cj}{j:Nat}(h:eb s j):e9 s.T s.wt:=⟨h.fl,λi hi v hv=>(h.fv i hi v hv).2,λe he=>(h.wv e he).2.2,h.tl⟩
theorem eb.xc {s:cj}{j:Nat}(h:eb s j)(b:j<=10000):fX s:=
 ⟨h.iv,λv hv=>(h.rv v hv).2,λe he=>⟨(h.gv e he).1,(h.gv e he).2.2⟩,λe he=>(h.wv e he).1,aS h.tj b,by have:=h.en;omega,by have:=h.en;omega⟩
theorem eb.CA {s:cj}{j:Nat}(h:eb s j)(b:j<=10000):kF s.T s.wt:=
 ⟨h.fv,λe he=>⟨(h.wv e he).1.1,(h.wv e he).2.2⟩,h.tl,aS h.tj b,by have:=h.en;omega⟩
theorem fG.mono {T c:List cH}{v:Int×Int}(h:fG T v)(hm:v.1=3->cz T (K v.2)->cz c (K v.2)):fG c v:=⟨h.1,λb=>⟨(h.2 b).1,hm b (h.2 b).2⟩⟩
theorem mC (T:List cH):fG T (0,0):=⟨ae,λh=>by cases h⟩
theorem CD (T:List cH):fG T (2,0):=⟨ae,λh=>by cases h⟩
theorem eb.rt {s:cj}{j:Nat}(h:eb s j)(i:Nat):fG s.T (U s.rs i (0,0)):=by grind [rv,mC]
theorem eb.cut {s:cj}{j:Nat}(h:eb s j)(u:j<=10000){g:List Bool->List Bool}(hg:dW s.T s.wt g)(grow:Int)(mj:Bool):eb (s.cut g grow mj) j:=by
 unfold cj.cut;split
 ·exact h
 have hw:=h.xc u;have f:=Mn hw hg mj;have hl:=Mq s g mj;generalize F:(s.cR g mj).1=L at*;generalize N:(s.cR g mj).2.1=C at*;have n:=Mt f.ok;have gt:∀i,cx L i->U (gS L s.T (OG s.T)) i t0=gj L i (U s.T i t0):=λi hi=>by rw[xa,aM (f.ok.al i hi).1]
 have tr:∀v,fG s.T v->(v.1=3->cx L (K v.2))->_:=λv hv hi=>hv.mono (λb _=>(n _).2 (hi b))
 have ev:∀e,nO s.T e->cx L (K e.1)->cx L (K e.2)->nO (gS L s.T (OG s.T)) e:=λe he k m=>⟨⟨he.1.1,(n _).2 k⟩,by rw[gt _ k,tH];exact he.2.1,he.2.2.1,(n _).2 m⟩
 refine {kd:=λi hi=>?_,fl:=λi hi hk=>?_,g5:=λi hi hk=>?_,fv:=λi hi v hv=>?_,tl:=λi=>?_,rv:=λv hv=>?_,rl:=h.rl,gv:=λe he=>?_,wv:=λe he=>?_,en:=?_,tj:=?_}
 ·have hi:=(n i).1 hi;rw[gt i hi,tH];exact h.kd i (f.ok.al i hi)
 ·have hi:=(n i).1 hi;rw[gt i hi,tH] at hk;rw[gt i hi];have m:=h.fl i (f.ok.al i hi) hk;rcases tJ (L:=L) hi with⟨_,_,e⟩|⟨_,_,e⟩|⟨_,e⟩<;>rw[e]
  all_goals grind
 ·have hi:=(n i).1 hi;rw[gt i hi,tH] at hk;rw[gt i hi];rcases tJ (t:=U s.T i t0) hi with⟨d,_,_⟩|⟨d,_,_⟩|⟨_,e⟩
  ·omega
  ·omega
  ·rw[e];exact h.g5 i (f.ok.al i hi) hk
 ·have hi:=(n i).1 hi;have ha:=f.ok.al i hi;rw[gt i hi] at hv;have cl:∀v,jH s.T s.wt (cx L) i v->v.1=3->_:=λv hk b=>f.cl i ha.1 hi v hk b;rcases tJ (L:=L) hi with⟨_,_,e⟩|⟨k3,_,e⟩|⟨w,e⟩
  ·rw[e] at hv
   grind [CD]
  ·rw[e] at hv;have:v=(2,0)\/v=U (U s.T i t0).2.1 1 (0,0):=by grind
   rcases this with rfl|rfl
   ·exact CD _
   ·exact tr _ (by grind [fv,fl]) (λb=>cl _ (aI (aK ⟨k3,rfl⟩)) b)
  ·rw[e] at hv;refine tr v (h.fv i ha v hv) (λb=>?_)
   have hk:=h.kd i ha;by_cases B:(U s.T i t0).1=1\/(U s.T i t0).1=2
   ·exact cl v (aK ⟨B,hv⟩) b
   ·by_cases S:(U s.T i t0).1=5
    ·grind [g5]
    ·have p:(U s.T i t0).1=3\/(U s.T i t0).1=4:=aa;have h0:=oF (w p)
     have m:=h.fl i ha p;obtain⟨q,hq,eq⟩:=bP.1 hv;have o:U (U s.T i t0).2.1 q (0,0)=v:=by grind
     match q,hq,o with
     |0,_,o=>
      grind
     |1,_,o=>
      rcases p with c|c
      ·exact cl v (aI (aK ⟨c,o.symm⟩)) b
      ·exact cl v (aI (aI (aK ⟨c,h0,o.symm⟩))) b
     |q+2,hq,_=>omega
 ·rw[xa];split
  ·cases c:U L i OU
   ·rw[Cz c];simp
   ·rcases tJ (L:=L) c with⟨_,_,e⟩|⟨_,_,e⟩|⟨_,e⟩<;>rw[e]
    ·simp
    ·simp
    ·exact h.tl i
  ·simp[t0]
 ·exact tr v (h.rv v hv) (λb=>f.up _ (Mr hw hg mj hv b))
 ·obtain⟨k,m⟩:=bK.1 he;rw[Bool.and_eq_true] at m;exact ev e (h.gv e k) m.2 (f.up _ m.1)
 ·obtain⟨k,m⟩:=bK.1 he;rcases bw.1 k with k|k
  ·have hv:=h.wv e k;exact ev e hv m (f.cl (K e.1) hv.1.2.1 m (3,e.2) (aI (aI (aI ⟨hv.2.1,e,k,by have:=hv.1.1;omega,rfl⟩))) rfl)
  grind [w_.cC,gv]
 ·dsimp only;have l1:OG (s.rg.filter (λe=>cZ (s.c0 g mj) e.2&&cZ L e.1))+OG (s.rg.filter (λe=>!cZ (s.c0 g mj) e.2))<=OG s.rg:=by
   have key:∀l:List b8,OG (l.filter (λe=>cZ (s.c0 g mj) e.2&&cZ L e.1))+OG (l.filter (λe=>!cZ (s.c0 g mj) e.2))<=OG l:=λl=>by
    induction l with
    |nil=>simp
    |cons x l W=>
     grind
   exact key s.rg
  have l2:=List.length_filter_le (λe:b8=>cZ L e.1) (s.wt++C)
  rw[aX] at l2;have:=h.en;omega
 simp_all [kC,tj]
theorem Mu (T:List cH)(t:cH)(i:Nat):U (T++[t]) i t0=if i=OG T then t else U T i t0:=by grind
theorem CE (T:List cH)(k:Int)(fl:List _)(i:Nat):cz (T++[(k,fl,OU,OU)]) i↔cz T i\/i=OG T:=by grind [cz]
theorem Mx (g:List Bool->List Bool)(s:cj)(grow:Int)(mj:Bool):(s.cut g grow mj).rs=s.rs:=by grind [cj.cut]
theorem My (g:fS)(ce grow:Int)(s:cj)(m:Int):(s.room g ce grow m).2.rs=s.rs:=by grind [Mx,cj.room]
theorem xd {k R A B n:Int}(h:dY k R A B n=0):iP k n=0:=by grind [dY]
theorem CF {R A B n:Int}(h:dY 5 R A B n=0):0<=n/\n<=12:=by
 have b:=xd h
 grind [iP,hc]
theorem CG {R A B n:Int}(h:dY 1 R A B n=0):vc 1 n=0:=by have b:=xd h;assumption
section
variable {s:cj}{j:Nat}{g:fS}{ce grow:Int}
theorem eb.room (h:eb s j)(b:j<=10000)(hg:dW s.T s.wt (g s.T s.wt))(m:Int):eb (s.room g ce grow m).2 j:=by grind [cut,cj.room]
theorem eb.put (h:eb s j){kd:Int}{fl:List _}(c:1<=kd)(d:kd<=5)(f:kd=3\/kd=4->OG fl=2)(g:kd=5->fl=[])(k:∀v∈fl,fG s.T v)(hl:OG fl<=12):eb (s.put kd fl) (j+1):=by
 have b:=CE s.T kd fl;have tr:∀v,fG s.T v->_:=λv hv=>hv.mono (λ_ ha=>(b _).2 (aK ha))
 have gt:∀i,cz s.T i->U (s.T++[(kd,fl,OU,OU)]) i t0=U s.T i t0:=λi hi=>by rw[Mu,aJ (by have:=hi.1;omega)]
 have l:U (s.T++[(kd,fl,OU,OU)]) (OG s.T) t0=(kd,fl,OU,OU):=by simp_all
 have ev:∀e,nO s.T e->nO (s.T++[(kd,fl,OU,OU)]) e:=λe he=>⟨⟨he.1.1,(b _).2 (aK he.1.2)⟩,(gt _ he.1.2▸he.2.1),he.2.2.1,(b _).2 (aK he.2.2.2)⟩
 unfold cj.put;refine {kd:=λi hi=>?_,fl:=λi hi hk=>?_,g5:=λi hi hk=>?_,fv:=λi hi v hv=>?_,tl:=λi=>?_,rv:=λv hv=>tr v (h.rv v hv),rl:=h.rl,gv:=λe he=>ev e (h.gv e he),wv:=λe he=>ev e (h.wv e he),en:=h.en,tj:=?_}
 ·rcases(b i).1 hi with hi|rfl
  ·rw[gt i hi];exact h.kd i hi
  grind
 ·rcases(b i).1 hi with hi|rfl
  all_goals grind [fl]
 ·rcases(b i).1 hi with hi|rfl
  all_goals grind [g5]
 ·rcases(b i).1 hi with hi|rfl
  ·rw[gt i hi] at hv;exact tr v (h.fv i hi v hv)
  ·simp_all
 ·grind [tl]
 simp_all [tj]
theorem eb.re (h:eb s j)(b:j<=10000)(hg:dW s.T s.wt (g s.T s.wt)){kd:Int}{fl:List _}(c:1<=kd)(d:kd<=5)(e:kd=3\/kd=4->OG fl=2)(f:kd=5->fl=[])(i:∀v∈fl,v∈s.rs\/v=(0,0))(hl:OG fl<=12):
 eb (s.grow g ce grow kd fl).2.2 (j+1)/\fG (s.grow g ce grow kd fl).2.2.T (s.grow g ce grow kd fl).1:=by
 have hr:=h.room b hg (ce:=ce) (grow:=grow) (1+OG fl)
 have hs:=My g ce grow s (1+OG fl)
 unfold cj.grow;generalize s.room g ce grow _=p at*;split
 ·dsimp only;refine⟨hr.put c d e f (λv hv=>?_) hl,?_⟩
  ·grind [rv,mC]
  ·have k:=hr.tj;refine⟨oZ _ aa aa,λ_=>⟨aa,?_⟩⟩
   grind [CE,cj.put]
 ·exact⟨hr.more aa,mC _⟩
theorem eb.pop (h:eb s j)(b:j<=10000)(v:Int×Int):eb (s.pop v).2.2 j/\fG (s.pop v).2.2.T (s.pop v).1:=by
 unfold cj.pop;split
 ·split
  ·rename_i c;have he:=h.wv _ (fL (x:=(0,0)) c)
   have hb:=he.2.2.2.1;have ht:=h.tj;refine⟨{h with wv:=λe hm=>?_,en:=?_},oZ _ he.2.2.1 (by grind),λ_=>he.2.2⟩
   ·grind [wv]
   ·have:=h.en
    grind
  grind [mC]
 grind [mC]
theorem Mz {T:List cH}{v:Int×Int}(hv:fG T v)(h:jx T v=OV):(0<=v.2/\cz T (K v.2))/\(U T (K v.2) t0).1=5:=by obtain⟨b,c⟩:=sY.1 h;exact⟨hv.2 b,c⟩
theorem eb.reg (h:eb s j){t d:Int×Int}(ht:fG s.T t)(hd:fG s.T d):eb (s.reg t d).2 j:=by
 unfold cj.reg;split
 ·rename_i c;split
  ·omega
  ·obtain⟨q1,b⟩:=Mz hd c.2;refine {h with gv:=λe he=>?_,en:=?_}
   ·rcases bw.1 he with he|he
    ·grind [gv]
    ·rw[bN.1 he];exact⟨q1,b,ht.2 c.1⟩
   grind
 omega
theorem MA (T:List cH)(i q:Nat)(y:Int×Int)(k:Nat)(hi:i<OG T):U (jT T i q y) k t0=if k=i then((U T i t0).1,(U T i t0).2.1.set q y,(U T i t0).2.2) else U T k t0:=by grind
theorem MB (T:List cH)(i q:Nat)(y:Int×Int)(hi:i<OG T)(k:Nat):cz (jT T i q y) k↔cz T k:=by grind [cz]
theorem eb.set (h:eb s j){v y:Int×Int}(I:Int)(hv:fG s.T v)(hy:fG s.T y):eb (s.set v I y).2 j:=by
 unfold cj.set;split
 ·rename_i c;have g:lL s.T v=OV:=by grind [cj.fc]
  obtain⟨l,m⟩:=k7.1 g;obtain⟨_,ha⟩:=hv.2 l;generalize K v.2=i at*;have hi:=ha.1;have f:=MB s.T i (K I) y hi;have gt:=λk=>MA s.T i (K I) y k hi;have tr:∀v,fG s.T v->_:=λv hv=>hv.mono (λ_ ha=>(f _).2 ha)
  have k1:∀k,(U (jT s.T i (K I) y) k t0).1=(U s.T k t0).1:=λk=>by grind
  have l1:∀k,OG (U (jT s.T i (K I) y) k t0).2.1=OG (U s.T k t0).2.1:=λk=>by grind
  have ev:∀e,nO s.T e->nO (jT s.T i (K I) y) e:=λe he=>⟨⟨he.1.1,(f _).2 he.1.2⟩,by rw[k1];exact he.2.1,he.2.2.1,(f _).2 he.2.2.2⟩
  refine {kd:=λk hk=>?_,fl:=λk hk hq=>?_,g5:=λk hk hq=>?_,fv:=λk hk x b=>?_,tl:=λk=>?_,rv:=λx b=>tr x (h.rv x b),rl:=h.rl,gv:=λe he=>ev e (h.gv e he),wv:=λe he=>ev e (h.wv e he),en:=h.en,tj:=?_}
  ·rw[k1];exact h.kd k (by grind)
  ·grind [fl]
  ·grind [g5]
  ·rw[gt k] at b;split at b
   ·rename_i e;rcases mg b with d|d
    ·exact tr x (h.fv i ha x d)
    ·simp_all
   ·exact tr x (h.fv k ((f k).1 hk) x b)
  ·grind [tl]
  simp_all [tj]
 omega
theorem eb.root (h:eb s j)(R:Nat){v:Int×Int}(hv:fG s.T v):eb {s with rs:=s.rs.set R v} j:=
 {
  h with
  rv:=λx b=>(by grind [rv])
  rl:=by grind [rl]}
theorem xe (s:cj)(i:Nat):U s.rs i (0,0)∈s.rs\/U s.rs i (0,0)=(0,0):=by grind
theorem eb.rts (h:eb s j)(b:j<=10000)(hg:dW s.T s.wt (g s.T s.wt)){k R A B n:Int}(hc:dY k R A B n=0)(I:Int):eb (s.rt g ce grow k (K A) (K B) I n).2.2 (j+1)/\fG (s.rt g ce grow k (K A) (K B) I n).2.2.T (s.rt g ce grow k (K A) (K B) I n).1:=by
 have hs:=h.more (jh j)
 have two:∀v∈[U s.rs (K A) (0,0),U s.rs (K B) (0,0)],v∈s.rs\/v=(0,0):=λv hv=>by
  have:v=U s.rs (K A) (0,0)\/v=U s.rs (K B) (0,0):=by simpa using hv
  rcases this with rfl|rfl
  ·exact xe s _
  ·exact xe s _
 have p:∀x:Int,-1152921504606846976<=x->x<1152921504606846976->fG s.T (1,x):=λx t u=>⟨by simp[vc,rc];omega,λh=>by cases h⟩
 unfold cj.rt;by_cases k1:k=1
 ·rw[aM k1];subst k1;exact⟨hs,CG hc,λh=>by cases h⟩
 rw[aJ k1];by_cases k3:k=3
 ·rw[aM k3];exact⟨hs,h.rt _⟩
 rw[aJ k3];by_cases k4:k=4
 ·rw[aM k4];exact h.re b hg ae ae ac ac two ac
 rw[aJ k4];by_cases k5:k=5
 ·rw[aM k5];subst k5;have hn:=CF hc;exact h.re b hg ae ae ac ac (λv hv=>((List.mem_replicate.1 hv).2▸xe s _)) (by simp_all)
 rw[aJ k5];by_cases k6:k=6
 ·rw[aM k6];exact h.re b hg ae ae ac ac two ac
 rw[aJ k6];by_cases d:k=7
 ·rw[aM d];exact h.re b hg ae ae ac ac two ac
 rw[aJ d];by_cases f:k=8
 ·rw[aM f];exact h.re b hg ae ae ac ac ac ac
 rw[aJ f];by_cases i:k=10
 ·rw[aM i];have:=h.pop b (U s.rs (K A) (0,0))
  exact⟨this.1.more (jh _),this.2⟩
 rw[aJ i];by_cases l:k=11
 ·rw[aM l];refine⟨hs,?_⟩
  split
  ·rename_i c;by_cases e:lL s.T (U s.rs (K A) (0,0))=OV
   ·obtain⟨q,_⟩:=k7.1 e;by_cases ci:K I<OG (U s.T (K (U s.rs (K A) (0,0)).2) t0).2.1
    ·exact h.fv _ ((h.rt (K A)).2 q).2 _ (fL ci)
    ·rw[aN,pq aa];exact mC _
   ·unfold cj.fc at c;rw[aJ e] at c;omega
  ·exact mC _
 rw[aJ l];by_cases m:k=13
 ·rw[aM m];split
  ·refine⟨hs,p _ aa ?_⟩
   have:=h.tl (K (U s.rs (K A) (0,0)).2);omega
  ·exact⟨hs,mC _⟩
 rw[aJ m];by_cases o:k=14
 ·rw[aM o];refine⟨hs,?_⟩
  split
  ·simp_all
  ·simp_all
 rw[aJ o];exact⟨hs,mC _⟩
theorem eb.dI (h:eb s j)(b:j<=10000)(hg:dW s.T s.wt (g s.T s.wt))(k R A B I n:Int):eb (s.dI g ce grow k R A B I n).2 (j+1):=by
 have hs:=jh j;unfold cj.dI;by_cases hc:dY k R A B n=0
 ·rw[aM hc];split
  ·grind [more,reg,rt]
  ·split
   ·grind [more,set,rt]
   ·split
    ·exact(h.cut b hg _ _).more hs
    ·split
     ·exact(h.cut b hg _ _).more hs
     grind [rts,root]
 grind [more]
end
theorem eb.start:eb ⟨[],List.replicate 12 (0,0),[],[]⟩ 0:=
 ⟨λi hi=>absurd hi.1 ac,λi hi=>absurd hi.1 ac,λi hi=>absurd hi.1 ac,λi hi=>absurd hi.1 ac,λi=>by simp[t0],λv hv=>by grind [mC],ac,λe he=>by grind,λe he=>by grind,ac,ac⟩
open Go.RowKit W
theorem MC (T:List cH)(wt:List b8)(l:List _):iA (tI (OG T)) (iu T) (iw T wt) ([],[]) (ee.eT T wt l).2 (ee.eT T wt l).1:=
 qe (kn _) (fD.start _) (by rw[oJ];simp) _
theorem MD {T:List cH}{wt:List b8}(hw:kF T wt)(l:List _):OG (ee.eT T wt l).1=OG l/\OG (ee.eT T wt l).2.2<=10000/\∀nd∈(ee.eT T wt l).2.2,OG nd.2<=20000:=by
 have hv:=MC T wt l;refine⟨?_,?_,λnd b=>?_⟩
 ·grind [o4,ee.eT]
 ·rw[hv.ok.len];refine aS hv.ok.le ?_
  grind [oJ,kF.l1]
 ·obtain⟨i,hi,e⟩:=bP.1 b;obtain⟨c,q1,_,q3,_⟩:=hv.nw i (by grind) (by rw[<-hv.ok.len];omega)
  rw[aP hi,e] at q1;have q1:nd=c:=by grind
  rw[q1,q3];unfold iw;have d:=hw.tl (K (U (ee.eT T wt l).2.1 i 0));have f:=hw.l2
  grind
def wv (m:Nat->Int)(v:Int×Int):Int:=if v.1=3 then ew 3 (m (K v.2)) else ew v.1 v.2
def we (m:Nat->Int)(e:b8):b8:=(ew 3 (m (K e.1)),ew 3 (m (K e.2)))
structure dL (T:List cH)(v:Int×Int):Prop where
 t:v.1=3->0<=v.2/\cz T (K v.2)
 o:v.1≠3->vc v.1 v.2=0
structure gO (T:List cH)(e:b8):Prop where
 g0:0<=e.1
 g:cz T (K e.1)
 k:(U T (K e.1) t0).1=5
 h0:0<=e.2
 h:cz T (K e.2)
structure cE (a:Wc)(S:cv)(W:cj)(m:Nat->Int)(Y G:List Int):Prop where
 kv:eA a S.s Y G
 rl:OG W.rs=12
 rv:∀v∈W.rs,dL W.T v
 fv:∀i,cz W.T i->∀v∈(U W.T i t0).2.1,dL W.T v
 rs:S.s.rs=W.rs.map (wv m)
 i7:∀i,cz W.T i->(U W.T i t0).2.2.1=OU->m i∈Y
 old:∀i,cz W.T i->(U W.T i t0).2.2.1=OV->m i∈G
 inj:∀i j,cz W.T i->cz W.T j->m i=m j->i=j
 gR:∀v,(v∈Y\/v∈G)->∃i,cz W.T i/\m i=v
 hd:∀i,cz W.T i->hc (U W.T i t0).1 (OG (U W.T i t0).2.1)=0/\ld a.N S.s.y S.s.g S.s.ws (m i)=hw (U W.T i t0).1 (OG (U W.T i t0).2.1)
 fd:∀i,cz W.T i->∀k:Nat,k<OG (U W.T i t0).2.1->ld a.N S.s.y S.s.g S.s.ws (m i+1+k)=wv m (U (U W.T i t0).2.1 k (0,0))
 rg:S.r=W.rg.map (we m)
 gv:∀e∈W.rg,gO W.T e
 wt:S.q=W.wt.map (we m)
 dH:∀e∈W.wt,gO W.T e
 tl:∀i,OG (U W.T i t0).2.1<=12
theorem xf {b:Type}(l:List b)(i j:Nat)(x d:b)(h:i<OG l):U (l.set i x) j d=if i=j then x else U l j d:=by grind
theorem oN {b c:Type}(f:b->c)(l:List b)(i:Nat)(d:b)(e:c)(h:i<OG l):U (l.map f) i e=f (U l i d):=by grind
theorem jJ {m:Nat->Int}{v:Int×Int}(h:v.1=3):wv m v=ew 3 (m (K v.2)):=by grind [wv]
theorem oO {m:Nat->Int}{v:Int×Int}(h:v.1≠3):wv m v=ew v.1 v.2:=by grind [wv]
theorem xg {T:List cH}{m b:Nat->Int}(h:∀i,cz T i->b i=m i){v:Int×Int}(hv:dL T v):wv b v=wv m v:=by
 by_cases c:v.1=3
 ·simp_all [jJ,dL.t]
 grind [oO]
theorem CH {T:List cH}{m b:Nat->Int}(h:∀i,cz T i->b i=m i){e:b8}(he:gO T e):we b e=we m e:=by grind [gO.g,gO.h,we]
theorem dL.of {T:List cH}{k n:Int}(b:k≠3)(h:vc k n=0):dL T (k,n):=⟨λe=>aa,λ_=>h⟩
theorem dL.nil (T:List cH):dL T (0,0):=dL.of ae ae
theorem dL.mono {T b:List cH}(h:∀i,cz T i->cz b i){v:Int×Int}(hv:dL T v):dL b v:=⟨λe=>⟨(hv.t e).1,h _ (hv.t e).2⟩,hv.o⟩
theorem MF {N y g:Nat}{ws Y G:List Int}(h:ey N y g ws Y G)(hy:y<=N){u v i j:Int}(b:u∈Y\/u∈G)(hv:v∈Y\/v∈G)(c:0<=i)(f:i<pf (ld N y g ws u))(j0:0<=j)(k:j<pf (ld N y g ws v))(e:u+1+i=v+1+j):u=v:=by
 rcases b with b|b<;>rcases hv with hv|hv
 ·rcases Int.lt_trichotomy u v with d|d|d
  ·have:=h.ty.apart u b v hv d;omega
  ·omega
  ·have:=h.ty.apart v hv u b d;omega
 ·have l:=ox h b c f;have m:=oy h hv j0 k;omega
 ·have l:=ox h hv j0 k;have m:=oy h b c f;omega
 grind [AG]
section
variable {a:Wc}{S:cv}{W:cj}{m:Nat->Int}{Y G:List Int}
theorem cE.mem (h:cE a S W m Y G){i:Nat}(hi:cz W.T i):m i∈Y\/m i∈G:=by grind [i7,old]
theorem cE.bd (h:cE a S W m Y G)(hb:cL a S.s){i:Nat}(hi:cz W.T i):0<=m i/\m i<1280:=by
 have b:=hb.n1;have c:=hb.o1;have e:=hb.y1;have f:=hb.g1;rcases h.mem hi with d|d
 ·have:=h.kv.inv.full.jq _ d;omega
 ·have:=h.kv.inv.full.io _ d;omega
theorem cE.word (h:cE a S W m Y G)(hb:cL a S.s){i:Nat}(hi:cz W.T i):vc 3 (m i)=0/\di (ew 3 (m i))=OV/\cq (ew 3 (m i))=m i:=by grind [bd,oZ,oY]
theorem cE.vt (h:cE a S W m Y G)(hb:cL a S.s){v:Int×Int}(hv:dL W.T v)(b:v.1=3):di (wv m v)=OV/\cq (wv m v)=m (K v.2):=(jJ b▸(h.word hb (hv.t b).2).2)
theorem dL.no {T:List cH}{v:Int×Int}(hv:dL T v)(b:v.1≠3):di (wv m v)=OU:=by grind [oO,oY,o]
theorem cE.xh (h:cE a S W m Y G)(hb:cL a S.s){v:Int×Int}(hv:dL W.T v):di (wv m v)=(v.1==3):=by grind [vt,dL.no]
theorem cE.at (h:cE a S W m Y G)(hb:cL a S.s){v:Int×Int}(hv:dL W.T v)(ha:di (wv m v)=OV):cq (wv m v)∈Y\/cq (wv m v)∈G:=by
 rw[h.xh hb hv] at ha;have b:v.1=3:=by grind
 rw[(h.vt hb hv b).2];exact h.mem (hv.t b).2
theorem cE.dec (h:cE a S W m Y G)(hb:cL a S.s){v:Int×Int}(hv:dL W.T v):dc (wv m v)=0/\dk (wv m v)=v.1/\dp (wv m v)=if v.1=3 then m (K v.2) else v.2:=by
 by_cases c:v.1=3
 ·rw[jJ c,aM c,c];exact rI 3 _ (h.word hb (hv.t c).2).1
 grind [oO,rI,dL.o]
theorem cE.CJ (h:cE a S W m Y G)(hb:cL a S.s){v u:Int×Int}(hv:dL W.T v)(b:dL W.T u)(e:wv m v=wv m u):v=u:=by
 obtain⟨_,k1,n1⟩:=h.dec hb hv;obtain⟨_,k2,d⟩:=h.dec hb b;rw[e] at k1 n1;have h9:=k1.symm.trans k2;rw[d] at n1;by_cases c:v.1=3
 ·have c2:=h9▸c
  rw[aM c,aM c2] at n1;have:=h.inj _ _ (b.t c2).2 (hv.t c).2 n1;have f:=(hv.t c).1;have g:=(b.t c2).1
  grind
 grind
theorem cE.parts (h:cE a S W m Y G){i:Nat}(hi:cz W.T i):pk (ld a.N S.s.y S.s.g S.s.ws (m i))=(U W.T i t0).1/\pf (ld a.N S.s.y S.s.g S.s.ws (m i))=OG (U W.T i t0).2.1/\pc (ld a.N S.s.y S.s.g S.s.ws (m i))=0:=by grind [hd,rJ]
theorem cE.tB (h:cE a S W m Y G)(hb:cL a S.s){v:Int×Int}(hv:dL W.T v):tB a.N S.s.y S.s.g S.s.ws (wv m v)=(v.1==3):=by
 by_cases c:v.1=3
 ·rw[(jS (O:=a.O) h.kv.inv.full hb.n1 hb.y1 hb.o1 hb.g1).2 ⟨(h.vt hb hv c).1,h.at hb hv (h.vt hb hv c).1⟩,c];rfl
 ·have e:(v.1==3)=OU:=by grind
  rw[e,Bool.eq_false_iff];intro d;have:=((jS (O:=a.O) h.kv.inv.full hb.n1 hb.y1 hb.o1 hb.g1).1 d).1
  grind [dL.no]
theorem cE.root (h:cE a S W m Y G){i:Nat}(hi:i<12):U S.s.rs i 0=wv m (U W.rs i (0,0))/\dL W.T (U W.rs i (0,0)):=by
 have hl:i<OG W.rs:=(h.rl▸hi)
 exact⟨(h.rs▸(by grind)),h.rv _ (by grind)⟩
theorem cE.code (h:cE a S W m Y G)(hb:cL a S.s){A:Nat}(b:A<12)(I:Int):eU a.N S.s.y S.s.g S.s.ws (U S.s.rs A 0) I=W.gc A I:=by
 obtain⟨e,hv⟩:=h.root b;rw[e];unfold eU cj.gc cj.th;rw[h.tB hb hv];by_cases c:(U W.rs A (0,0)).1=3
 ·have d:((U W.rs A (0,0)).1==3)=OV:=by grind
  obtain⟨z,al⟩:=hv.t c;obtain⟨f,g,_⟩:=h.parts al;rw[d,aM rfl,aM c,(h.vt hb hv c).2,h.kv.inv.full.mM hb.y1 (h.mem al),f,g]
  grind [t0]
 grind
theorem cE.put (h:cE a S W m Y G)(hb:cL a S.s)(k:Nat){v:Int×Int}(hv:dL W.T v):cE a ⟨{S.s with rs:=S.s.rs.set k (wv m v)},S.r,S.q⟩ {W with rs:=W.rs.set k v} m Y G:=
 {
  kv:=h.kv.root k _ (λha=>h.at hb hv ha),rl:=by grind [rl]
  rv:=λu b=>(by grind [rv]),fv:=h.fv
  rs:=by rw[h.rs,wI]
  i7:=h.i7,old:=h.old,inj:=h.inj,gR:=h.gR,hd:=h.hd,fd:=h.fd,rg:=h.rg,gv:=h.gv,wt:=h.wt,dH:=h.dH,tl:=h.tl}
theorem cE.beside (h:cE a S W m Y G){r q:List b8}(hr:∀e∈r,gO W.T e)(hq:∀e∈q,gO W.T e):cE a ⟨S.s,r.map (we m),q.map (we m)⟩ {W with rg:=r,wt:=q} m Y G:=
 {kv:=h.kv,rl:=h.rl,rv:=h.rv,fv:=h.fv,rs:=h.rs,i7:=h.i7,old:=h.old,inj:=h.inj,gR:=h.gR,hd:=h.hd,fd:=h.fd,rg:=rfl,gv:=hr,wt:=rfl,dH:=hq,tl:=h.tl}
theorem MG {T:List cH}{i:Nat}{t:cH}(hi:i<OG T)(hd:t.2.2.2=(U T i t0).2.2.2)(j:Nat):cz (T.set i t) j↔cz T j:=by grind [cz]
theorem cE.store (h:cE a S W m Y G)(hb:cL a S.s){i k:Nat}(hi:cz W.T i)(hk:k<OG (U W.T i t0).2.1){v:Int×Int}(hv:dL W.T v){ws M:List Int}(ew:ws=S.s.ws.set (K (m i+1+k)) (wv m v))(o:eA a {S.s with ws:=ws,M:=M} Y G):
 cE a ⟨{S.s with ws:=ws,M:=M},S.r,S.q⟩ {W with T:=W.T.set i ((U W.T i t0).1,(U W.T i t0).2.1.set k v,(U W.T i t0).2.2)} m Y G:=by
 have al:∀j,cz (W.T.set i ((U W.T i t0).1,(U W.T i t0).2.1.set k v,(U W.T i t0).2.2)) j↔cz W.T j:=MG hi.1 rfl;have gt:∀j,U (W.T.set i ((U W.T i t0).1,(U W.T i t0).2.1.set k v,(U W.T i t0).2.2)) j t0=if i=j then((U W.T i t0).1,(U W.T i t0).2.1.set k v,(U W.T i t0).2.2) else U W.T j t0:=λj=>xf _ _ _ _ _ hi.1
 have gl:∀j,OG (U (W.T.set i ((U W.T i t0).1,(U W.T i t0).2.1.set k v,(U W.T i t0).2.2)) j t0).2.1=OG (U W.T j t0).2.1:=λj=>by grind
 have g1:∀j,(U (W.T.set i ((U W.T i t0).1,(U W.T i t0).2.1.set k v,(U W.T i t0).2.2)) j t0).1=(U W.T j t0).1:=λj=>by grind
 have g2:∀j,(U (W.T.set i ((U W.T i t0).1,(U W.T i t0).2.1.set k v,(U W.T i t0).2.2)) j t0).2.2=(U W.T j t0).2.2:=λj=>by grind
 obtain⟨t,w,_⟩:=h.parts hi;have k1:(k:Int)<pf (ld a.N S.s.y S.s.g S.s.ws (m i)):=aa;obtain⟨_,p⟩:=h.kv.inv.full.set hb.l1 hb.y1 hb.g1 (h.mem hi) aa k1;rw[<-ew] at p;have q:∀u,dL W.T u->_:=λu f=>f.mono (λj b=>(al j).2 b)
 have l:∀e,gO W.T e->gO (W.T.set i ((U W.T i t0).1,(U W.T i t0).2.1.set k v,(U W.T i t0).2.2)) e:=λe he=>⟨he.g0,(al _).2 he.g,by grind [gO.k],he.h0,(al _).2 he.h⟩
 have x:=ks (lI h.kv.inv.full (h.mem hi) (Int.natCast_nonneg k) k1) hb.y1 hb.g1;exact
 {
  kv:=o,rl:=h.rl,rv:=λu f=>q u (h.rv u f)
  fv:=λj b u f=>by grind [fv]
  rs:=h.rs
  i7:=λj b e=>(by grind [i7])
  old:=λj b e=>(by grind [old])
  inj:=λj s b c e=>h.inj j s (by grind) (by grind) e
  gR:=λu f=>by grind [gR]
  hd:=λj b=>by grind [mem,hd]
  fd:=λj b n hn=>by
   have c:=(al j).1 b;have hn:=hn;rw[gl] at hn;obtain⟨_,B,_⟩:=h.parts c;have n1:(n:Int)<pf (ld a.N S.s.y S.s.g S.s.ws (m j)):=aa;have g:=lI h.kv.inv.full (h.mem c) aa n1;have F:=ks g hb.y1 hb.g1;rw[gg g,ew,EN _ _ _ _ (by grind [cL.l1]),<-gg g,h.fd j c n hn,gt];by_cases e:i=j
   ·grind
   ·rw[aJ e,aJ (λd=>e ?_)];exact h.inj i j hi c (MF h.kv.inv.full hb.y1 (h.mem hi) (h.mem c) aa k1 aa n1 aa)
  rg:=h.rg,gv:=λe he=>l e (h.gv e he),wt:=h.wt,dH:=λe he=>l e (h.dH e he)
  tl:=λj=>by grind [tl]}
theorem CK {T:List cH}{t:cH}(ht:t.2.2.2=OU)(j:Nat):cz (T++[t]) j↔cz T j\/j=OG T:=by
 unfold cz
 grind
theorem pT {b:Type}(l:List b)(t d:b)(j:Nat)(h:j<OG l):U (l++[t]) j d=U l j d:=by grind
theorem MH {b:Type}(l:List b)(t d:b):U (l++[t]) (OG l) d=t:=by grind
def oP (m:Nat->Int)(n:Nat)(y:Int)(i:Nat):Int:=if i=n then y else m i
theorem cE.new (h:cE a S W m Y G){kd:Int}{f:List _}(hk:hc kd (OG f)=0)(x:∀v∈f,dL W.T v){b:eK}(er:b.rs=S.s.rs)(B:b.y<=a.N)(o:eA a b (Y++[(S.s.y:Int)]) G)
 (F:ld a.N b.y b.g b.ws S.s.y=hw kd (OG f))(N:∀k:Nat,k<OG f->ld a.N b.y b.g b.ws (S.s.y+1+k)=wv m (U f k (0,0)))
 (h0:∀v,(v∈Y\/v∈G)->ld a.N b.y b.g b.ws v=ld a.N S.s.y S.s.g S.s.ws v)(t:∀v,(v∈Y\/v∈G)->∀k:Nat,(k:Int)<pf (ld a.N S.s.y S.s.g S.s.ws v)->ld a.N b.y b.g b.ws (v+1+k)=ld a.N S.s.y S.s.g S.s.ws (v+1+k)):
 cE a ⟨b,S.r,S.q⟩ {W with T:=W.T++[(kd,f,OU,OU)]} (oP m (OG W.T) S.s.y) (Y++[(S.s.y:Int)]) G:=by
 have al:∀j,cz (W.T++[(kd,f,OU,OU)]) j↔cz W.T j\/j=OG W.T:=CK rfl;have l:∀i,cz W.T i->oP m (OG W.T) S.s.y i=m i:=λi hi=>by unfold oP;rw[aJ (by have:=hi.1;omega)]
 have ab:oP m (OG W.T) S.s.y (OG W.T)=S.s.y:=by grind [oP]
 have q:∀u,dL W.T u->_:=λu g=>g.mono (λj c=>(al j).2 (aK c))
 have s:∀e,gO W.T e->gO (W.T++[(kd,f,OU,OU)]) e:=λe he=>⟨he.g0,(by grind [gO.g]),(pT _ _ _ _ he.g.1▸he.k),he.h0,(by grind [gO.h])⟩
 have ad:∀j,cz W.T j->m j≠S.s.y:=λj c e=>by
  rcases h.mem c with d|d
  ·have:=h.kv.inv.full.jq _ d;omega
  ·have w:(S.s.y:Int)∈Y++[(S.s.y:Int)]:=ac;have n1:=o.inv.full.jq _ w;have ag:=o.inv.full.io _ d;omega
 exact
 {
  kv:=o,rl:=h.rl,rv:=λu g=>q u (h.rv u g)
  fv:=λj c u g=>by
   rcases(al j).1 c with d|d
   ·have g:=g;rw[pT _ _ _ _ d.1] at g;exact q u (h.fv j d u g)
   ·simp_all
  rs:=by show b.rs=W.rs.map _;rw[er,h.rs];exact sw (λv hv=>(xg l (h.rv v hv)).symm)
  i7:=λj c e=>by grind [i7]
  old:=λj c e=>by
   have e:=e;rcases(al j).1 c with d|d
   all_goals grind [old]
  inj:=λi j hi c e=>by
   rcases(al i).1 hi with d|d<;>rcases(al j).1 c with p|p
   ·rw[l i d,l j p] at e;exact h.inj i j d p e
   all_goals grind
  gR:=λv hv=>by grind [gR]
  hd:=λj c=>by
   show hc _ _=0/\ld a.N b.y b.g b.ws _=hw _ _;rcases(al j).1 c with d|d
   all_goals grind [pT,mem,hd]
  fd:=λj c k n=>by
   have n:=n;show ld a.N b.y b.g b.ws _=wv _ _;rcases(al j).1 c with d|d
   ·rw[pT _ _ _ _ d.1] at n⊢;rw[l j d,t _ (h.mem d) k (by grind [parts]),h.fd j d k n];exact(xg l (by grind [fv])).symm
   grind [xg,fL]
  rg:=by show S.r=W.rg.map _;rw[h.rg];exact sw (λe he=>(CH l (h.gv e he)).symm)
  gv:=λe he=>s e (h.gv e he)
  wt:=by show S.q=W.wt.map _;rw[h.wt];exact sw (λe he=>(CH l (h.dH e he)).symm)
  dH:=λe he=>s e (h.dH e he)
  tl:=λj=>by
   show OG (U (W.T++[(kd,f,OU,OU)]) j t0).2.1<=12;rcases Nat.lt_trichotomy j (OG W.T) with d|d|d
   ·grind [pT,tl]
   ·rw[d,MH];have:=jK _ _ hk
    grind
   ·rw[aN,pq (by simp;omega)];simp[t0]}
end
end Go.Proofs.YtjckpdepffejnaaGreatDoor
