import Derived.Test.YtjckpdepffejnaaGreatDoorJ20
open Array renaming size->OU
open Bool renaming false->O4,true->O5
open Go renaming Addr->bB,Calls->O2,Value->a7,info_parts->bM,maxLen->bL,wpList_append_own_at->bO
open Go.Ending renaming returned->Q
open Go.IntKind renaming i64->OW
open Go.Obj renaming cells->E
open Go.Proofs.Tryz renaming prog->J
open Go.RowKit renaming Below->O,intOf->bG
open Go.Value renaming agg->bz,int->U,ownBlock->A,pointer->bq,slice->Z
open Go.World renaming alloc->bu,cell?->V,frozen?->bF,heap->OT,ownsRow->aC,setCell->O8
open Int renaming toNat->K
open List renaming getD->X,getElem?_eq_none->qo,length->OQ,map_append->bV,map_congr_left->sQ,map_set->yg,mem_append->bw,mem_filter->bK,mem_iff_getElem->bP,mem_map->bS,mem_or_eq_of_mem_set->mo,mem_singleton->bN,range->lg
open Nat renaming le_succ->jl,succ_pos->jw,zero_add->bW
open Option renaming none->O0,some->OR
namespace Go.Proofs.YtjckpdepffejnaaGreatDoor
set_option maxRecDepth 100000
set_option maxHeartbeats 8000000
open Tryz
open Go.RowKit W Kp ch
def im (T:List cH)(wt:List b8)(a:Int):List (Int×Int):=if(X T (K a) t0).1=5 then(eS wt a).map (λx=>((3:Int),x)) else(X T (K a) t0).2.1
theorem Md {T:List cH}{wt:List b8}{a:Int}(b:(X T (K a) t0).1=5->(X T (K a) t0).2.1=[]):(im T wt a).map ij=iA T wt a:=by
 unfold im iA;by_cases c:(X T (K a) t0).1=5
 ·rw[aN c,aN c,b c];simp[eS,ij]
 ·rw[aJ c,aJ c,List.append_nil]
section
variable {b7:Nat}{ce grow:Int}{l:ik}{s:ck}{w:az}
theorem Me (h:dO b7 ce grow l s w)(ag:Nat)(hk:V w (av ag 0)=OR (aq b7))(a:Int)(ha:0<=a/\cz s.T (K a))(b2:OQ s.T<=10000)(hw:OQ s.wt<=10000):
 O2 J 327 #[aq ag,ak a] w λe w'=>∃ad cap,e=Q (Z ad (OQ (im s.T s.wt a)) cap)/\fP w' ad (im s.T s.wt a)/\O (OU (OT w)) w w':=by
 obtain⟨aF,hi,aR,aV,a0⟩:=bM tH;have al:a<10000:=by have:=ha.2.1;omega
 have L:=h.g2.mp.look (t:=194) (e:=271) underlying194 (nH w) (x:=a) ha.1 aa;rw[ki ha] at L;dsimp only [Option.getD_some,gX,ff] at L;obtain⟨_,_,c2,_,_,b3,_,_,b5⟩:=h.cells;have lk:=aT w _ hk;have ai:=fP.of (h.g2.fl (K a) ha.2)
 have b1:=aw w (E #[U OW (X s.T (K a) t0).1,Z (l.fm (K a)).1 (OQ (X s.T (K a) t0).2.1) (l.fm (K a)).2] 271)
 have am:=ai.nM (fT.of (B:=0) b1)
 have g1:=h.below b1;have F:=uY _ l.bp _ l.a1 l.k1 s.wt a g1.g3.sd.cY (iQ g1.g3.sd.q0) aa;have a1:=aQ (qz s.wt a) hw;by_cases g:(X s.T (K a) t0).1=5
 ·have v:im s.T s.wt a=(eS s.wt a).map (λx=>((3:Int),x)):=by unfold im;rw[aN g]
  rw[v];rw[g] at L b1 F;have i:=cg b1;generalize (l.fm (K a)).1=ad at*;generalize (l.fm (K a)).2=cp at*;generalize OQ (X s.T (K a) t0).2.1=n at*;generalize eS s.wt a=A at*;rw[a5];go_enter func327,ntmps327;go_wp2_with fail;refine F.mono ?_;rintro e w1 ⟨b6,g_,rfl,a2,bb⟩
  have an:=cg (i.o.trans (bb.mono i.o.size))
  have bd:=cg (ir a2)
  have s1:=an.o.size;go_wp2_with fail
  go_loopw [6,33] (λtv iv wr=>∃(j:Nat)(c:Option bB)(d:Nat),j<=OQ A/\iv=ak j/\tv=Z c j d/\aC wr (OU (OT w1)) 139 2 (Z c j d) j (ev ((A.take j).map (λx=>((3:Int),x))))/\O (OU (OT w1)) w1 wr) (λ_ iv _=>OQ A-K (bG iv))
  exact⟨0,O0,0,a4 _,rfl,rfl,a9 _ _ _ _,aH _ _⟩
  ·
    obtain⟨j,c,d,b,rfl,rfl,m,hb⟩:=hrel;by_cases ao:j<OQ A
    ·obtain⟨be,o,bg,lb,bi⟩:=bd.o aa;have hc:=(hb.cell (p:=av be (o+j)) lb).trans (bi j ao)
     have ap:aA (ev ((A.take (j+1)).map (λx=>((3:Int),x)))=ev ((A.take j).map (λx=>((3:Int),x)))++[ak 3,ak (X A j 0)]):=by show _=_;rw[h_ A j ao 0,bV,jL];rfl
     subst bg;have bl:=hb.size;generalize X A j 0=y at*;generalize ev ((A.take j).map (λx=>((3:Int),x)))=L at*;go_wp2_with fail;refine(pO y wr).mono ?_;rintro e bn ⟨rfl,N⟩
     have S:=cK m (λk e=>N.block k (cu m k e).2)
     have W:=hb.trans (N.mono bl)
     have bo:=W.size;clear m hb N hc;go_wp2_with (at_builtin;refine bO _ rfl _ _ 90 rfl (OU (OT w1)) 139 aF (bz #[ak 0,ak 0]) 2 16 underlying90 hi aR aV a0 rfl ae (Z c j d) j L rfl (gq S _) ⟨OU (OT bn),0,O0⟩ 1 1 [ak 3,ak y] rfl rfl ?_ ?_ ?_ ?_ ?_ ?_;(intro j u b;match j,b with|0,b=>(simp at b;subst b;simp[Addr.add])|1,b=>(simp at b;subst b;simp[Addr.add]));(intro u q;simp at q;rcases q with q|q<;>(subst q;rfl));(unfold bL;omega);omega;(simp;omega);intro b8 bp ab ar _ br;obtain⟨b4,aB,bs⟩:=fi ab (jw _);subst bs)
     have bt:aC bp (OU (OT w1)) 139 2 (Z (au b4) (j+1) aB) (j+1) (ev ((A.take (j+1)).map (λx=>((3:Int),x)))):=by rw[ap.o];exact ab
     have bx:=(W.alloc bo _).grown ar (by simp;omega) (λk e=>(cu S k e.symm).1)
     clear ab ar br S W ap;go_wp2_with fail;go_roundw;exact⟨j+1,au b4,aB,aa,aj,rfl,bt,bx⟩
     simp[bG];omega
    ·obtain rfl:j=OQ A:=aa;rw[ba] at m;go_wp2_with fail;go_ret;refine⟨c,d,rfl,?_,an.o.trans (hb.mono s1)⟩
     have b0:aC wr (OU (OT w1)) 139 2 (Z c (OQ (A.map (λx=>((3:Int),x)))) d) (OQ (A.map (λx=>((3:Int),x)))) (ev (A.map (λx=>((3:Int),x)))):=by rw[a5];exact m
     exact fP.of b0
 ·have v:im s.T s.wt a=(X s.T (K a) t0).2.1:=by unfold im;rw[aJ g]
  rw[v];have k5:((X s.T (K a) t0).1!=5)=O5:=by simpa using g
  have i:=cU am b1;clear v g ai am g1 b1 h ha F a1;generalize (X s.T (K a) t0).2.1=f at*;generalize (l.fm (K a)).1=ad at*;generalize (l.fm (K a)).2=cp at*;generalize (X s.T (K a) t0).1=kd at*;go_enter func327,ntmps327;go_wp2_with fail;go_ret;exact⟨ad,⟨cp,rfl⟩,i.o.1,i.o.2⟩
end
def rj (w0:az)(b ct b7:Nat)(T:List cH)(M:cT->Int->cT)(n:Nat):Prop:=
 ∀(w:az)(s:cT)(d:a7)(m:List ec)(a:Int),f_ w0 w b ct b7 s d m->fE (tI (OQ T)) s->0<=a/\cz T (K a)->a∉s.1->OQ T<=OQ s.1+n->
  O2 J 320 #[aq b,ak a] w λe w'=>∃f c,e=Q (ak (OQ s.1))/\f_ w0 w' b ct b7 (M s a) f c/\gA w0 w m w' c
def nN (s:cT)(a:Int):Int:=if s.1.contains a=O5 then(s.1.idxOf a:Int) else OQ s.1
def nO (M:cT->Int->cT)(s:cT)(a:Int):cT:=if s.1.contains a=O5 then s else M s a
theorem Mf {T:List cH}{M:cT->Int->cT}{s:cT}{v:Int×Int}(h:fH T v)(b:v.1=3):el M (tI (OQ T)) s (ij v)=((3,nN s v.2),nO M s v.2):=by grind [JZ,JY,nN,nO]
theorem Mk (w:az):(zeroValue 2).run J w=.ok (ak 0) w:=ah
section
variable {w0 w:az}{kb ct b7 n:Nat}{T:List cH}{kd:Int->Int}{sh:Int->List Int}{M:cT->Int->cT}{s:cT}{vn:a7}{m:List ec}
theorem Ml (hM:rj w0 kb ct b7 T M n)(h:f_ w0 w kb ct b7 s vn m)(ho:fE (tI (OQ T)) s)(hn:OQ T<=OQ s.1+n)(a:Int)(ha:0<=a/\cz T (K a))(o:OQ T<=10000):
 O2 J 290 #[aq kb,ak a] w λe w'=>∃c b,e=Q (ak (nN s a))/\f_ w0 w' kb ct b7 (nO M s a) c b/\gA w0 w m w' b:=by
 have H:=cg h;have k:=cg hM;obtain⟨c0,c1,c2,lk⟩:=h.cells;have al:a<10000:=by have:=ha.2.1;omega
 have L:=h.mp.look_ok (t:=283) (e:=2) underlying283 (Mk w) (x:=a) ha.1 aa;by_cases d:a∈s.1
 ·rw[Mb d] at L;have f:nN s a=(s.1.idxOf a:Int):=by grind [nN]
  have g:nO M s a=s:=by grind [nO]
  rw[f,g];generalize s.1.idxOf a=j at L⊢;go_enter func290,ntmps290;go_wp2;go_ret;exact⟨vn,m,rfl,H.o,gA.refl _ _ _⟩
 ·rw[CA d] at L;have f:nN s a=OQ s.1:=by grind [nN]
  have g:nO M s a=M s a:=by grind [nO]
  rw[f,g];have P:=k.o w s vn m a H.o ho ha d hn;generalize M s a=p at P⊢;generalize OQ s.1=j at P⊢;go_enter func290,ntmps290;go_wp2_with fail;refine P.mono ?_;rintro e w1 ⟨c,b,rfl,l,k1⟩
  have i:=cU l k1;go_wp2;go_ret;exact⟨c,b,rfl,i.o.1,i.o.2⟩
theorem CD (hM:rj w0 kb ct b7 T M n)(b6:mJ (tI (OQ T)) kd sh n M)(h:f_ w0 w kb ct b7 s vn m)(ho:fE (tI (OQ T)) s)(hn:OQ T<=OQ s.1+n)(b8:OQ T<=10000)(l:List (Int×Int))(hq:∀v∈l,fH T v)(ad:Option bB)(cap:Nat)(hl:fP w ad l)(hm:OQ l<=100000):
 O2 J 217 #[aq kb,Z ad (OQ l) cap] w λe w'=>∃cj a0 a2 c2,e=Q (Z a2 (OQ l) c2)/\aC w' (OU (OT w)) 139 2 (Z a2 (OQ l) c2) (OQ l) (ev (dE M (tI (OQ T)) s (l.map ij)).1)/\f_ w0 w' kb ct b7 (dE M (tI (OQ T)) s (l.map ij)).2 cj a0/\gA w0 w m w' a0/\(∀k,gf a0 k->OR k≠A (Value.slice a2 (OQ l) c2)):=by
 obtain⟨a1,hi,bb,bd,be⟩:=bM tH;have ck:=cg hM;have cl:=cg b6;have cm:=cg hl;have ap:=cg h;have cn:=cU ho hn;have co:=cg hq;have cp:=cg b8;clear hM b6 hl h ho hq hn b8;go_enter func217,ntmps217;go_wp2_with (at_make;refine wpList_make_own _ rfl _ _ 90 rfl (OU (OT w)) 139 a1 (bz #[ak 0,ak 0]) 2 underlying90 hi bb bd OW OW _ (OQ l) rfl rfl rfl (by rw[be];omega) (by unfold bL;omega) bY ?_;intro w1 b9 ca)
 have bg:=(ax w).grown ca bY (λk e=>by cases e)
 go_loopw [5,13] (λtv iv wr=>∃(j:Nat)(i:List (Int×Int))(s1:cT)(ar:a7)(m1:List ec)(a2:Option bB)(c2:Nat),j<=OQ l/\iv=ak j/\aA (dE M (tI (OQ T)) s ((l.take j).map ij)=(i,s1))/\tv=Z a2 j c2/\aC wr (OU (OT w)) 139 2 (Z a2 j c2) j (ev i)/\aA (f_ w0 wr kb ct b7 s1 ar m1)/\aA (gA w0 w m wr m1)/\aA (∀k,gf m1 k->OR k≠A (Value.slice a2 j c2))/\aA (fE (tI (OQ T)) s1/\OQ T<=OQ s1.1+n)) (λ_ iv _=>OQ l-K (bG iv))
 ·exact⟨0,[],s,vn,m,_,_,a4 _,rfl,rfl,rfl,b9,ap.o.below bg,gA.of bg,λk hk e=>by have:=ap.o.fb k hk;simp[Value.ownBlock] at e;omega,cn.o⟩
 ·
   obtain⟨j,i,s1,ar,m1,a2,c2,b,rfl,bi,rfl,q,B,F,aB,N⟩:=hrel;clear b9 ca bg;by_cases bl:j<OQ l
   ·obtain⟨cF,cG,cq,cH,hc⟩:=(cm.o.nM F.o.1).1 aa;obtain⟨cr,cs⟩:=hc j bl;subst cq;clear hc;have aF:=co.o _ (fL (x:=(0,0)) bl)
    have o:=un M (tI (OQ T)) s ((l.take j).map ij) (ij (X l j (0,0)))
    rw[bi.o] at o;have cb:(l.take (j+1)).map ij=(l.take j).map ij++[ij (X l j (0,0))]:=by rw[h_ l j bl (0,0),bV];rfl
    rw[<-cb] at o;have G:=qg cl.o N.o.1 (by rw[oL];exact N.o.2) (ij (X l j (0,0)))
    have S:aA (_/\OQ T<=OQ (el M (tI (OQ T)) s1 (ij (X l j (0,0)))).2.1+n):=⟨G.ok,by have:=G.le;have:=N.o.2;omega⟩
    have o:=cg o;clear G cb;generalize X l j (0,0)=v at*;obtain⟨v0,v1⟩:=v;dsimp only at cr cs;have cI:IntKind.i64.wrap ((j:Int)+1)=(j:Int)+1:=by rw[bc];omega
    have d:=aw wr (E #[U OW v0,U OW v1] 139)
    have bn:=aO wr (E #[U OW v0,U OW v1] 139)
    have cJ:=F.o.1.size;by_cases cc:v0=3
    ·subst cc;have aR:=Mf (M:=M) (s:=s1) aF rfl;rw[aR] at o S;dsimp only at o S;have P:=Ml ck.o (B.o.below d) N.o.1 N.o.2 v1 (aF.2 rfl) cp.o;clear aR aF;generalize nN s1 v1=z at*;generalize nO M s1 v1=s2 at*;go_wp2_with fail;refine P.mono ?_;rintro e f ⟨cv,W,rfl,cw,ab⟩
     have cd:=(ab.1.iR _ _ _ _ bn ae ae).trans bn;obtain⟨cx,y1,cy,cz⟩:=dt cd;have ce:=cK q (λk hk=>by obtain⟨aV,ag⟩:=fI q k hk;have cf:=d.block k (cu q k hk).2;exact(ab.1.iR k _ _ _ (cf.trans ag) ae ae).trans cf)
     have ch:aA (∀k,gf W k->_):=λk hk e=>(ab.2 k hk).elim (λc=>aB.o k c e) (λc=>by have:=(cu q k e).2;simp at c;omega)
     have ci:gA w0 wr m1 f W:=(gA.of d).trans ab;have cA:¬gf W (OU (OT wr)):=λc=>(ab.2 _ c).elim (λc=>by have:=B.o.fb _ c;omega) (λc=>by simp at c;omega)
     have bo:Fr (λk=>k=OU (OT wr)) f (O8 f ⟨OU (OT wr),1,O0⟩ (U OW z)):=(Fr.refl (λk=>k=OU (OT wr)) f).set (OU (OT wr)) 1 _ rfl;have ai:=cg (cw.but bo (λk _ e=>by have e:=e;rw[e];exact⟨⟨_,cd⟩,cA,by have:=B.o.e9.size;omega⟩))
     have bp:=cg (F.o.trans (ci.new bo (λk e=>by have e:k=OU (OT wr):=e;omega)))
     have al:aC (O8 f ⟨OU (OT wr),1,O0⟩ (U OW z)) (OU (OT w)) 139 2 (Z a2 j c2) j (ev i):=cK ce (λk hk=>bo.block k (cu ce k hk).2 (λc=>by have c:k=OU (OT wr):=c;have:=(cu q k hk).2;omega))
     have q0:V (O8 f ⟨OU (OT wr),1,O0⟩ (U OW z)) (av (OU (OT wr)) 0)=OR (ak 3):=(aY f ⟨OU (OT wr),1,O0⟩ ⟨OU (OT wr),0,O0⟩ _ ac).trans cx;have q1:V (O8 f ⟨OU (OT wr),1,O0⟩ (U OW z)) (av (OU (OT wr)) 1)=OR (ak z):=a6 _ _ _ y1;have cB:OU (OT (O8 f ⟨OU (OT wr),1,O0⟩ (U OW z)))=OU (OT f):=by simp[World.setCell]
     have cC:=cy 1;have cD:=ci.1.size
     go_upto_region 7 with fail
     generalize O8 f ⟨OU (OT wr),1,O0⟩ (U OW z)=t at*;have p:=cg al;have cL:OU (OT w)<=OU (OT t):=aa;clear y1 cC cz cB cD;go_wp2_with (at_builtin;refine bO _ rfl _ _ 90 rfl (OU (OT w)) 139 a1 (bz #[U OW 0,U OW 0]) 2 16 underlying90 hi bb bd be rfl ae (Z a2 j c2) j (ev i) rfl (gq al _) ⟨OU (OT t),0,O0⟩ 1 1 [U OW 3,U OW z] rfl rfl ?_ ?_ ?_ ?_ ?_ ?_;(intro j u b;match j,b with|0,b=>(simp at b;subst b;simp[Addr.add])|1,b=>(simp at b;subst b;simp[Addr.add]));(intro u g;simp at g;rcases g with g|g<;>(subst g;rfl));(unfold bL;omega);omega;(simp;omega);intro cE br am bs _ bt;obtain⟨b4,an,bx⟩:=fi am (jw _);subst bx)
     have b0:aC br (OU (OT w)) 139 2 (Z (au b4) (j+1) an) (j+1) (ev (i++[(3,z)])):=by rw[jL];simpa[ev] using am
     have d:=aw t (E #[U OW 3,U OW z] 139)
     have ao:=(Fr.refl _ _).grown bs (λk e=>aK e.symm)
     have b1:=cg ((ai.o.below d).but ao (λk _ e=>by obtain⟨aV,ag⟩:=fI p.o k e;exact⟨⟨aV,(d.block k (cu p.o k e).2).trans ag⟩,λc=>ch.o k c e,aQ ap.o.e9.size (cu p.o k e).1⟩))
     have b2:=cg ((bp.o.trans (gA.of d)).new ao (λk e=>(cu p.o k e).1))
     have b3:=bt.imp id (λe=>by simpa[Value.ownBlock] using e)
     have b5:aA (∀k,gf W k->OR k≠OR b4):=λk hk e=>b3.elim (λc=>ch.o k hk (e.trans c)) (λc=>by have:=ai.o.fb k hk;simp at e;omega)
     go_wp2_with fail;go_roundw;exact⟨j+1,i++[(3,z)],s2,cv,W,au b4,an,aa,aj,o,rfl,b0,b1,b2,b5,S⟩
     simp[bG];omega
    ·have aR:=JX (M:=M) (s:=s1) aF cc;rw[aR] at o S;have ai:=cg (B.o.below d)
     have bp:=cg (F.o.trans (gA.of d))
     have al:=cK q (λk hk=>d.block k (cu q k hk).2)
     obtain⟨q0,q1,_,_⟩:=dt bn
     go_upto_region 7 with fail
     generalize bu wr (E #[U OW v0,U OW v1] 139)=t at*;have p:=cg al;go_wp2_with (at_builtin;refine bO _ rfl _ _ 90 rfl (OU (OT w)) 139 a1 (bz #[U OW 0,U OW 0]) 2 16 underlying90 hi bb bd be rfl ae (Z a2 j c2) j (ev i) rfl (gq al _) ⟨OU (OT t),0,O0⟩ 1 1 [U OW v0,U OW v1] rfl rfl ?_ ?_ ?_ ?_ ?_ ?_;(intro j u b;match j,b with|0,b=>(simp at b;subst b;simp[Addr.add])|1,b=>(simp at b;subst b;simp[Addr.add]));(intro u g;simp at g;rcases g with g|g<;>(subst g;rfl));(unfold bL;omega);omega;(simp;omega);intro cE br am bs _ bt;obtain⟨b4,an,bx⟩:=fi am (jw _);subst bx)
     have b0:aC br (OU (OT w)) 139 2 (Z (au b4) (j+1) an) (j+1) (ev (i++[(v0,v1)])):=by rw[jL];simpa[ev] using am
     have d:=aw t (E #[U OW v0,U OW v1] 139)
     have ao:=(Fr.refl _ _).grown bs (λk e=>aK e.symm)
     have b1:=cg ((ai.o.below d).but ao (λk _ e=>by obtain⟨aV,ag⟩:=fI p.o k e;exact⟨⟨aV,(d.block k (cu p.o k e).2).trans ag⟩,λc=>aB.o k c e,aQ ap.o.e9.size (cu p.o k e).1⟩))
     have b2:=cg ((bp.o.trans (gA.of d)).new ao (λk e=>(cu p.o k e).1))
     have b3:=bt.imp id (λe=>by simpa[Value.ownBlock] using e)
     have b5:aA (∀k,gf m1 k->OR k≠OR b4):=λk hk e=>b3.elim (λc=>aB.o k hk (e.trans c)) (λc=>by have:=ai.o.fb k hk;simp at e;omega)
     go_wp2_with fail;go_roundw;exact⟨j+1,i++[(v0,v1)],s1,ar,m1,au b4,an,aa,aj,o,rfl,b0,b1,b2,b5,S⟩
     simp[bG];omega
   ·obtain rfl:j=OQ l:=aa;rw[ba] at bi;go_wp2_with fail;go_ret;rw[bi.o];exact⟨ar,m1,a2,c2,rfl,q,B.o,F.o,aB.o⟩
end
theorem Mm:(prog.info? 101).map (λi=>(i.zero,i.size,i.bytes))=OR (OR (bz #[ak 0,Z O0 0 0]),2,32):=ah
section
variable {w0 w w':az}{kb ct b7:Nat}{s:cT}{vn:a7}{m:List ec}
theorem f_.turned (h:f_ w0 w kb ct b7 s vn m)(f:Fr (λk=>k=ct) w w'):fT (OU (OT w0)) w w'/\w'.heap[kb]?=OR (E #[aq b7,.map (OR ct),vn] 285 (0,0))/\aC w' (OU (OT w0)) 101 2 vn (OQ m) (nv m)/\(∀x∈m,fP w' x.2.1 x.2.2.2)/\O (OU (OT w0)) w0 w':=by
 obtain⟨es,d,hb⟩:=h.mp.cY;have hk:fT (OU (OT w0)) w w':=⟨f.os,f.tape,f.output,f.size,λk hk hl=>f.block k hk (λe=>by have e:=e;have:=h.lo.2;omega),λk g e mm hk _ _=>(by grind [Fr.block])⟩
 refine⟨hk,(f.block kb (cj h.cY) (λc=>?_)).trans h.cY,cK h.row (λk e=>f.block k (cu h.row k e).2 (λc=>?_)),λx b=>(h.fl x b).nM hk,h.e9.trans (hk.below h.e9.size)⟩
 ·have c:=c;have:=h.cY
  grind
 ·obtain⟨i,j⟩:=fI h.row k e
  grind
end
theorem f_.grown {w0 w j c:az}{b ct b7:Nat}{ms:List Int}{l:List _}{i d:a7}{m:List ec}{kd:Int}
 (hk:w.heap[b]?=OR (E #[aq b7,.map (OR ct),i] 285 (0,0)))(lo:OU (OT w0)<=b/\OU (OT w0)<=ct)(hm:eT w ct (OQ ms) (lQ ms))(hr:aC w (OU (OT w0)) 101 2 i (OQ m) (nv m))(t:hW m=l)(u:∀x∈m,fP w x.2.1 x.2.2.2)(hb:O (OU (OT w0)) w0 w)
 (f:O (OU (OT w)) w j)(v:aC c (OU (OT w0)) 101 2 d (OQ m+1) (nv m++[ak kd,Z O0 0 0]))(g4:j.grownBy c i.ownBlock):
 f_ w0 (O8 c ⟨b,2,O0⟩ d) b ct b7 (ms,l++[(kd,[])]) d (m++[(kd,O0,0,[])])/\gA w0 w m (O8 c ⟨b,2,O0⟩ d) (m++[(kd,O0,0,[])])/\c.heap[b]?=OR (E #[aq b7,.map (OR ct),i] 285 (0,0)):=by
 obtain⟨es,B,F⟩:=hm.cY;have N:=(fT.of f).trans (fT.grown g4 (λk e=>⟨(cu hr k e.symm).1,λS ty mm hc=>by obtain⟨W,n⟩:=fI hr k e.symm;have:=(f.block k (cj n)).trans n;rw[this] at hc;simp at hc;exact aI hc.2.1.symm⟩))
 have p:=(g4.block b (aL (by grind) f.size) (by grind [fI])).trans ((f.block b (cj hk)).trans hk)
 have q:fT (OU (OT w0)) w (O8 c ⟨b,2,O0⟩ d):=(by grind [fT.trans,fT.set])
 have s:ct≠b:=λe=>by grind
 have ab:(nv (m++[(kd,O0,0,[])]:List ec))=nv m++[ak kd,Z O0 0 0]:=by rw[yi];rfl
 refine⟨⟨?_,lo,?_,?_,?_,λx g=>?_,(by grind [fT.below,Below.trans])⟩,⟨q,λk hk=>?_⟩,p⟩
 ·simp only [World.setCell,Array.getElem?_modify,if_true,p,Option.map_some];rfl
 ·refine hm.same ((aW _ _ _ _ s).trans ((g4.block ct (aL (by grind) f.size) (λe=>?_)).trans (by grind [Below.block])))
  grind [fI]
 ·grind [cK,fI,aW]
 ·grind [hW]
 ·grind [fP.nM,fP.nil]
 ·obtain⟨x,g,hl,o,e⟩:=hk;rcases bw.1 g with g|g
  ·exact aK ⟨x,g,hl,o,e⟩
  grind
theorem f_.filled {w0 w:az}{f ct b7 g cap len:Nat}{s:cT}{m:List ec}(h:f_ w0 w f ct b7 s (Z (au g) len cap) m){i:Nat}{k0:Int}{v0:List _}(hi:s.2[i]?=OR (k0,v0)){base c2:Nat}{a2:Option bB}{b:List _}
 (hr:aC w base 139 2 (Z a2 (OQ b) c2) (OQ b) (ev b)):
 f_ w0 (O8 w ⟨g,i*2+1,O0⟩ (Z a2 (OQ b) c2)) f ct b7 (s.1,s.2.set i (k0,b)) (Z (au g) len cap) (m.set i (k0,a2,c2,b))/\fT (OU (OT w0)) w (O8 w ⟨g,i*2+1,O0⟩ (Z a2 (OQ b) c2))/\(∀k,gf (m.set i (k0,a2,c2,b)) k->gf m k\/base<=k):=by
 obtain⟨l,j⟩:=fI h.row g rfl;have d:fT (OU (OT w0)) w (O8 w ⟨g,i*2+1,O0⟩ (Z a2 (OQ b) c2)):=fT.set j (by grind) (cu h.row g rfl).1;obtain⟨x,n,p⟩:∃x:ec,m[i]?=OR x/\(x.1,x.2.2.2)=(k0,v0):=by
  have:=hi;rw[<-h.nd,hW,List.getElem?_map] at this
  grind
 have q:x.1=k0:=(by grind)
 have hlen:len=OQ m:=by
  rcases h.row.2 with⟨hv,_⟩|⟨t,u,v,hv,_⟩
  all_goals grind
 refine⟨⟨(aW _ _ _ _ (λc=>?_)).trans h.cY,h.lo,h.mp.same (aW _ _ _ _ (λc=>?_)),?_,?_,λy hy=>?_,h.e9.trans (d.below h.e9.size)⟩,d,λk hk=>?_⟩
 ·have c:=c;have:=h.cY
  grind
 ·obtain⟨es,B,hb⟩:=h.mp.cY
  grind
 ·grind [uF,row,qq]
 ·rw[hW,yg];show((hW m).set i (k0,b))=_;rw[h.nd]
 ·rcases mo hy with hy|hy
  ·exact(h.fl y hy).nM d
  ·subst hy;exact(fP.of hr).nM d
 ·obtain⟨y,hy,hl,o,e⟩:=hk;exact zQ
theorem Mn {T:List cH}{x:Int}(h:0<=x/\cz T (K x))(b:OQ T<=10000):fH T (3,x):=by
 refine⟨?_,λ_=>h⟩
 have c:=h.2.1
 grind [ux,rc]
theorem Mq {T:List cH}{wt:List b8}(hv:kH T wt){a:Int}(ha:0<=a/\cz T (K a)):∀v∈im T wt a,fH T v:=λv h=>by
 unfold im at h;split at h
 ·obtain⟨x,b,rfl⟩:=bS.1 h;unfold eS at b;obtain⟨e,he,rfl⟩:=bS.1 b
  grind [Mn,kH.wv,kH.l1]
 grind [kH.fv]
theorem Mr {T:List cH}{wt:List b8}(hv:kH T wt)(a:Int):OQ (im T wt a)<=20000:=by grind [kH.tl,qz,kH.l2,im]
section
variable {w0:az}{kb ct b7:Nat}{ce grow:Int}{l:ik}{S:ck}
theorem Ms (hg:dO b7 ce grow l S w0)(hv:kH S.T S.wt)(ab:∀i,cz S.T i->(X S.T i t0).1=5->(X S.T i t0).2.1=[])(n:Nat)(M:cT->Int->cT)(hM:rj w0 kb ct b7 S.T M n)(ar:mJ (tI (OQ S.T)) (iz S.T) (iA S.T S.wt) n M):
 rj w0 kb ct b7 S.T (λs a=>((dE M (tI (OQ S.T)) (s.1++[a],s.2++[(iz S.T a,[])]) (iA S.T S.wt a)).2.1,(dE M (tI (OQ S.T)) (s.1++[a],s.2++[(iz S.T a,[])]) (iA S.T S.wt a)).2.2.set (OQ s.1) (iz S.T a,(dE M (tI (OQ S.T)) (s.1++[a],s.2++[(iz S.T a,[])]) (iA S.T S.wt a)).1))) (n+1):=by
 intro w s cS m a h ho ha hn hl;obtain⟨cl,hi,cm,cn,co⟩:=bM Mm;have aB:a∈tI (OQ S.T):=rf.2 ⟨ha.1,by have:=ha.2.1;have:=ha.1;omega⟩
 have bo:=hv.l1;have cp:=ho.lt aB hn;rw[oL] at cp;have al:a<10000:=by have:=ha.2.1;omega
 have cq:OQ m=OQ s.1:=by rw[h.len,ho.len]
 have aF:=ho.more aB hn (iz S.T a,[])
 have hlen:=o6 M (tI (OQ S.T)) (s.1++[a],s.2++[(iz S.T a,[])]) (iA S.T S.wt a)
 have G:=qh ar aF (by rw[oL];simp;omega) (iA S.T S.wt a)
 have bp:(dE M (tI (OQ S.T)) (s.1++[a],s.2++[(iz S.T a,[])]) (iA S.T S.wt a)).2.2[OQ s.1]?=OR (iz S.T a,[]):=by rw[G.old (OQ s.1) ac,List.getElem?_append_right (by rw[ho.len];exact aG _),ho.len];simp
 have cU:OQ s.1<OQ (dE M (tI (OQ S.T)) (s.1++[a],s.2++[(iz S.T a,[])]) (iA S.T S.wt a)).2.1:=by
  have:=G.le;simp at this
  omega
 have cr:OQ (dE M (tI (OQ S.T)) (s.1++[a],s.2++[(iz S.T a,[])]) (iA S.T S.wt a)).2.2=OQ (dE M (tI (OQ S.T)) (s.1++[a],s.2++[(iz S.T a,[])]) (iA S.T S.wt a)).2.1:=G.ok.len;have aR:=Md (wt:=S.wt) (ab _ ha.2)
 have br:OQ (im S.T S.wt a)=OQ (iA S.T S.wt a):=by rw[<-aR,a5]
 have bs:aA (∀(b:az)(bt:a7)(aV:List ec)(ad:Option bB)(cap:Nat),f_ w0 b kb ct b7 (s.1++[a],s.2++[(iz S.T a,[])]) bt aV->fP b ad (im S.T S.wt a)->
  O2 J 217 #[aq kb,.slice ad (OQ (im S.T S.wt a)) cap] b λe w'=>∃cs a0 a2 c2,e=Q (.slice a2 (OQ (im S.T S.wt a)) c2)/\aC w' (OU (OT b)) 139 2 (.slice a2 (OQ (im S.T S.wt a)) c2) (OQ (im S.T S.wt a)) (ev (dE M (tI (OQ S.T)) (s.1++[a],s.2++[(iz S.T a,[])]) (iA S.T S.wt a)).1)/\f_ w0 w' kb ct b7 (dE M (tI (OQ S.T)) (s.1++[a],s.2++[(iz S.T a,[])]) (iA S.T S.wt a)).2 cs a0/\gA w0 b aV w' a0/\(∀k,gf a0 k->OR k≠A (Value.slice a2 (OQ (im S.T S.wt a)) c2))):=
  λb bt aV ad cap ab cu=>by
   have P:=CD hM ar ab aF (by simp;omega) bo (im S.T S.wt a) (Mq hv ha) ad cap cu (by have:=Mr hv a;omega)
   rw[aR] at P;exact P
 have bx:aA (∀w1,O (OU (OT w0)) w0 w1->V w1 (av kb 0)=OR (aq b7)->O2 J 327 #[aq kb,ak a] w1 λe w'=>∃ad cap,e=Q (.slice ad (OQ (im S.T S.wt a)) cap)/\fP w' ad (im S.T S.wt a)/\O (OU (OT w1)) w1 w'):=
  λw1 hb hc=>Me (hg.below hb) kb hc a ha bo hv.l2
 have a1:aA (∀w1,O (OU (OT w0)) w0 w1->V w1 (av b7 2)=OR (.map (OR l.mb))/\(Instr.lookup 194 (.map (OR l.mb)) (ak a) O4).run J w1=.ok (.agg #[ak (iz S.T a),.slice (l.fm (K a)).1 (OQ (X S.T (K a) t0).2.1) (l.fm (K a)).2]) w1/\b7<OU (OT w1)):=λw1 hb=>by have g1:=hg.below hb;obtain⟨_,_,c2,_,_,_,_,_,cv⟩:=g1.cells;have L:=g1.g2.mp.look (t:=194) (e:=271) underlying194 (nH w1) (x:=a) ha.1 aa;rw[ki ha] at L;exact⟨c2,L,cv⟩
 have cV:aA (b7<OU (OT w0)):=hg.cells.2.2.2.2.2.2.2.2;obtain⟨w1,cw,bb,b0⟩:=h.mp.put (t:=283) (e:=2) underlying283 aa (x:=a) ha.1 aa (.int OW (OQ s.1))
 rw[Ma hn] at bb;have b1:Fr (λk=>k=ct) w w1:=(Fr.refl _ _).grown b0 (λk e=>aK (by cases e;rfl))
 have cx:=h.turned b1;have b2:aA (eT w1 ct (OQ (s.1++[a])) (lQ (s.1++[a]))):=by rw[aX,List.length_singleton];exact bb
 have hlo:=h.lo;obtain⟨B,dT,cy⟩:=e7 h.row;subst cy;obtain⟨c0,c1,c2,lk⟩:=h.cells;have b3:aA (hW m=s.2):=h.nd;clear hM ar G aF hv hg bb b0 b1 aR ab ha h ho aB hn hl;dsimp only;generalize dE M (tI (OQ S.T)) (s.1++[a],s.2++[(iz S.T a,[])]) (iA S.T S.wt a)=R at*;rw[<-br] at hlen;clear br;generalize im S.T S.wt a=cW at*;obtain⟨cX,cA⟩:=R;dsimp only at*;generalize iz S.T a=kd at*;generalize OQ (X S.T (K a) t0).2.1=cB at*;generalize (l.fm (K a)).1=cC at*;generalize (l.fm (K a)).2=fc at*;generalize OQ s.1=L at*;subst cq;obtain⟨bd,d,be,b5,F⟩:=cx;obtain⟨cD,G2,G3⟩:=a1.o w1 F;obtain⟨_,G4,_⟩:=a1.o w1.drew F.drew;have cE:(Instr.field 271 (.agg #[ak kd,.slice cC cB fc]) 0).run J w1.drew=.ok (ak kd) w1.drew:=by first|rfl|kernel_rfl|simp[cY]
 have cF:V w1 (av kb 0)=OR (aq b7):=aD d
 have b6:V w1 (av kb 2)=OR (.slice B (OQ m) dT):=aD d
 have b8:bF w1 (av kb 2)=O4:=aE d
 have bg:kb<OU (OT w1):=cj d;have o:aA (_/\_/\_/\_/\_):=⟨bd,d,be,b5,F⟩
 have b9:aA (gA w0 w m w1 m):=⟨bd,λk h=>aK h⟩
 have ca:OR kb≠A (Value.slice B (OQ m) dT):=λe=>by obtain⟨cZ,cb⟩:=fI be kb e;rw[d] at cb;simp at cb
 have c3:OU (OT w0)<=OU (OT w1):=F.size;clear bd d be b5 F a1 G2;have N:=(aw w1 (E #[.int OW kd,.slice O0 0 0] 101)).drew;have cc:aA (aC (bu w1 (E #[.int OW kd,.slice O0 0 0] 101)).drew (OU (OT w0)) 101 2 (.slice B (OQ m) dT) (OQ m) (nv m)):=cK (gq o.o.2.2.1 _) (λ_ _=>rfl)
 go_enter func320,ntmps320;go_wp2_with fail;clear cw c0 c1 c2 lk
 go_region_law (refine step_append_lies _ rfl (.tmp 22) (.tmp 34) 95 rfl (OU (OT w0)) 101 cl (.agg #[ak 0,.slice O0 0 0]) 2 32 underlying95 hi cm cn co rfl ae (.slice B (OQ m) dT) (OQ m) (nv m) (by simp[Act.eval]) cc.o ⟨OU (OT w1),0,O0⟩ 1 1 [ak kd,.slice O0 0 0] (by simp[Act.eval]) rfl ?_ ?_ ae (by unfold bL;omega) aa (by simp;omega) _ rfl ?_;(intro j u f;match j,f with|0,f=>(simp at f;subst f;simp[Addr.add])|1,f=>(simp at f;subst f;simp[Addr.add]));(intro u W;simp at W;rcases W with W|W<;>(subst W;rfl));intro b4 ag ai cd am cG cH;have cI:=am.cell (a:=⟨kb,2,O0⟩) (v:=.slice B (OQ m) dT) ((N.cell (p:=av kb 2) bg).trans b6) ca;have cJ:bF ai (av kb 2)=O4:=(World.frozen?_of_block (a:=⟨kb,2,O0⟩) (am.block _ (aL bg N.size) ca)).trans ((N.frozen (p:=av kb 2) bg).trans b8))
 all_goals
  have cL:=f_.grown o.o.2.1 hlo b2.o o.o.2.2.1 b3.o o.o.2.2.2.1 o.o.2.2.2.2 N cd am;obtain⟨cf,cg,_⟩:=cL;have bi:aA (gA w0 w m (O8 ai ⟨kb,2,O0⟩ (.slice (OR ⟨b4,0,O0⟩) (OQ m+1) ag)) (m++[(kd,O0,0,[])])):=b9.o.trans cg;have an:aA (f_ w0 (O8 ai ⟨kb,2,O0⟩ (.slice (OR ⟨b4,0,O0⟩) (OQ m+1) ag)) kb ct b7 (s.1++[a],s.2++[(kd,[])]) (.slice (au b4) (OQ m+1) ag) (m++[(kd,O0,0,[])])):=cf;clear cf cg b9 cc N o b2 b3 cd am cG cH cI cJ cF b6 b8 cD G3 G4 cE;go_wp2_with fail;generalize O8 ai ⟨kb,2,O0⟩ (.slice (OR ⟨b4,0,O0⟩) (OQ m+1) ag)=b at*;refine(bx.o b an.o.e9 an.o.cells.1).mono ?_;clear bx;rintro e cM ⟨ad,cap,rfl,ch,ao⟩
  go_wp2_with fail;refine(bs.o cM _ _ ad cap (an.o.below ao) ch).mono ?_;clear bs;rintro e cN ⟨c4,g,a2,c5,rfl,bl,q,ci,cO⟩
  have c6:OQ g=OQ cA.1:=q.len.trans cr;obtain⟨c7,c8,cP⟩:=fi q.row aa;subst cP;have c9:=q.cells.2.2.1;have cQ:OQ m<OQ g:=aa;obtain⟨bn,da⟩:=kt q.row ((qp g (OQ m) _ (aP cQ)).2)
  rw[<-hlen] at bl;have ap:aA (_/\_/\_):=q.filled bp bl;have ck:aA (gA w0 w m cN g):=(bi.o.trans (gA.of ao)).trans ci;have cR:=((bi.o.trans (gA.of ao)).1).size;generalize (g[OQ m]).2.1=q1 at bn;generalize OQ (g[OQ m]).2.2.2=db at bn;generalize (g[OQ m]).2.2.1=q3 at bn;rw[hlen] at ap;clear ch ao bl q ci cO bi an bp hlen;go_wp2_with fail;go_ret;exact⟨_,_,rfl,ap.o.1,ck.o.1.trans ap.o.2.1,λk hk=>(ap.o.2.2 k hk).elim (ck.o.2 k) (λc=>aI (aQ cR c))⟩
theorem CE (hg:dO b7 ce grow l S w0)(hv:kH S.T S.wt)(b:∀i,cz S.T i->(X S.T i t0).1=5->(X S.T i t0).2.1=[]):∀n,rj w0 kb ct b7 S.T (met (tI (OQ S.T)) (iz S.T) (iA S.T S.wt) n) n
 |0=>λw s d m a _ ho ha hn hl=>by have c:=ho.lt (rf.2 ⟨ha.1,by have:=ha.2.1;omega⟩) hn;rw[oL] at c;omega
 |n+1=>Ms hg hv b n _ (CE hg hv b n) (ks n)
end
section
variable {b7:Nat}{ce grow:Int}{l:ik}{S:ck}{w:az}
theorem Mt (hg:dO b7 ce grow l S w)(hv:kH S.T S.wt)(aB:∀i,cz S.T i->(X S.T i t0).1=5->(X S.T i t0).2.1=[])(hr:∀v∈S.rs,fH S.T v):
 O2 J 138 #[aq b7] w λe w'=>∃aF bp g aR o,e=Q (bz #[Z aF 12 bp,Z g aR o])/\lr w' (OU (OT w)) aF (ee.eU S.T S.wt S.rs).1/\jZ w' (OU (OT w)) g (ee.eU S.T S.wt S.rs).2.2/\aR=OQ (ee.eU S.T S.wt S.rs).2.2/\O (OU (OT w)) w w':=by
 have cb:=@run_makeMap J;have al:=aw w (E #[Z O0 0 0,Z O0 0 0] 97)
 have aV:=aO w (E #[Z O0 0 0,Z O0 0 0] 97)
 have F:=hg.below al;have am:=hg.g4.rl;obtain⟨_,_,_,_,_,_,a0,_,br⟩:=F.cells;have a1:fP (bu w (E #[Z O0 0 0,Z O0 0 0] 97)) (au l.rb) S.rs:=by
  have c:=F.g4.cells;refine⟨λhp=>⟨l.rb,0,rfl,c.1,λi hi=>?_⟩,λhp=>⟨l.rb,0,_,rfl,F.g4.rt⟩⟩
  have:=c.2.2 i aa;rw[bW];exact⟨this.1,this.2.1⟩
 have bb:OU (OT w)<OU (OT (bu w (E #[Z O0 0 0,Z O0 0 0] 97))):=ac;have W:=eT.made (bu w (E #[Z O0 0 0,Z O0 0 0] 97))
 have ab:lQ []=λ_=>O0:=by
  funext x
  exact CA ac
 rw[<-ab] at W;have b2:=((aH _ (bu w (E #[Z O0 0 0,Z O0 0 0] 97))).alloc bY (.map #[] 0)).alloc ac (E #[bq (OR ⟨b7,0,O0⟩),.map (OR (OU (OT w)+1)),Z O0 0 0] 285)
 have an:=jz (bu w (E #[Z O0 0 0,Z O0 0 0] 97)) (.map #[] 0) (E #[bq (OR ⟨b7,0,O0⟩),.map (OR (OU (OT w)+1)),Z O0 0 0] 285)
 have ag:OU (OT (bu w (E #[Z O0 0 0,Z O0 0 0] 97)))=OU (OT w)+1:=ac;rw[ag] at W an;have bd:=W.same (w':=bu (bu (bu w (E #[Z O0 0 0,Z O0 0 0] 97)) (.map #[] 0)) (E #[bq (OR ⟨b7,0,O0⟩),.map (OR (OU (OT w)+1)),Z O0 0 0] 285)) (aU _ _ _ ac)
 have be:aA (f_ (bu w (E #[Z O0 0 0,Z O0 0 0] 97)) (bu (bu (bu w (E #[Z O0 0 0,Z O0 0 0] 97)) (.map #[] 0)) (E #[bq (OR ⟨b7,0,O0⟩),.map (OR (OU (OT w)+1)),Z O0 0 0] 285)) (OU (OT w)+1+1) (OU (OT w)+1) b7 ([],[]) (Z O0 0 0) []):=
  ⟨an,⟨by rw[ag];omega,by rw[ag];exact aG _⟩,bd,a9 _ _ _ _,rfl,λx j=>by simp at j,b2⟩
 have bs:=(b2.cell (p:=av b7 6) br).trans a0;have ao:OU (OT w)<=OU (OT (bu (bu (bu w (E #[Z O0 0 0,Z O0 0 0] 97)) (.map #[] 0)) (E #[bq (OR ⟨b7,0,O0⟩),.map (OR (OU (OT w)+1)),Z O0 0 0] 285))):=by simp;omega
 have ai:=CD (CE F hv aB (OQ S.T)) (ks _) be.o (fE.start _) ac hv.l1 S.rs hr (au l.rb) 12 (a1.nM (fT.of (B:=0) b2)) aa;have bt:aA (OQ (ee.eU S.T S.wt S.rs).1=12):=by show _=_;unfold ee.eU;rw[o6,a5];exact am
 change O2 _ _ _ _ (λe w'=>∃bx ap a2 c2,e=Q (Z a2 (OQ S.rs) c2)/\aC w' _ 139 2 (Z a2 (OQ S.rs) c2) (OQ S.rs) (ev (ee.eU S.T S.wt S.rs).1)/\f_ _ w' _ _ b7 (ee.eU S.T S.wt S.rs).2 bx ap/\gA _ _ [] w' ap/\(∀k,gf ap k->OR k≠A (Value.slice a2 (OQ S.rs) c2))) at ai;rw[am] at ai;clear hg F hv aB hr a1 W bd an ab a0 be am;generalize ee.eU S.T S.wt S.rs=R at*;obtain⟨cc,s⟩:=R;dsimp only at*;have ar:=cg al;clear al;go_enter func138,ntmps138;go_wp2_with fail;refine ai.mono ?_;clear ai;rintro e w2 ⟨cd,m,a2,c2,rfl,q,f,bg,_⟩
 obtain⟨g,o,b0⟩:=e7 f.row;subst b0;have cf:=f.cells.2.2.1;have bi:=ar.o.trans (f.e9.mono ar.o.size)
 have n:=(f.e9.block _ bb).trans aV;have y0:V w2 (av (OU (OT w)) 0)=OR (Z O0 0 0):=aD n
 have y1:V w2 (av (OU (OT w)) 1)=OR (Z O0 0 0):=aD n
 have ch:bF w2 (av (OU (OT w)) 0)=O4:=aE n
 have ci:bF w2 (av (OU (OT w)) 1)=O4:=aE n
 have l2:=cj n;have b1:=cU f q;have b3:=cg f.len;have b4:=cg bi;have bl:=cg n;have b5:aA (∀k,gf m k->OU (OT w)<=k):=λk hk=>(bg.2 k hk).elim (fun⟨x,j,_⟩=>by cases j) (λd=>aQ ao d)
 have b6:=cg ao;clear f q bg bi n aV bs ar b2 ao ag bb;go_wp2_with fail;obtain⟨t,hW0⟩:∃t,t=O8 (O8 w2 ⟨OU (OT w),0,O0⟩ (Z a2 12 c2)) ⟨OU (OT w),1,O0⟩ (Z g (OQ m) o):=⟨_,rfl⟩
 rw[<-hW0];have g0:V t (av (OU (OT w)) 0)=OR (Z a2 12 c2):=by exact py
 have g1:V t (av (OU (OT w)) 1)=OR (Z g (OQ m) o):=by exact BB
 have u:Fr (λk=>k=OU (OT w)) w2 t:=by rw[hW0];exact((Fr.refl (λk=>k=OU (OT w)) w2).set (OU (OT w)) 0 _ rfl).set (OU (OT w)) 1 _ rfl
 clear hW0;obtain⟨f,q⟩:=b1.o;have bn:∀{ad:Option bB}{L:List (Int×Int)},fP w2 ad L->dQ t ad L:=λ{ad L} h=>h.1.keep u.size (λhp b e=>by
  obtain⟨b8,ck,cl,ab,hb⟩:=h.2 hp;rw[ab] at e;cases e;refine u.block _ (cj hb) (λc=>?_)
  have c:b8=OU (OT w):=c;rw[c,bl.o] at hb;simp at hb)
 refine a3 (v:=bz #[Z a2 12 c2,Z g (OQ m) o]) (by simp[results,results138,go_sem,g0,g1]) rfl ⟨a2,c2,g,OQ m,o,rfl,⟨bn (fP.of (by rw[bt.o];exact q)),λhp=>?_⟩,⟨m,f.nd,λx j=>bn (f.fl x j),b5.o,λhp=>?_⟩,b3.o,b4.o.trans (u.below (Nat.le_of_lt l2) (λk e=>Nat.le_of_eq (Eq.symm e)))⟩
 ·obtain⟨b,cap,e⟩:=fi q ae;cases e;exact⟨b,0,rfl,aQ b6.o (cu q b rfl).1⟩
 obtain⟨b,cap,e⟩:=fi f.row hp;cases e;have b9:=(cu f.row b rfl).1;simp at b9;obtain⟨cm,N⟩:=fI f.row b rfl;have bo:b≠OU (OT w):=λc=>by rw[c,bl.o] at N;simp at N
 refine⟨b,0,rfl,aa,aL (cj N) u.size,λi x j=>?_⟩
 obtain⟨n1,ca⟩:=qp m i x j;rw[bW];exact⟨(aS (a:=⟨b,i*2,O0⟩) (u.block b (cj N) bo)).trans (kt f.row n1).1,(aS (a:=⟨b,i*2+1,O0⟩) (u.block b (cj N) bo)).trans (kt f.row ca).1⟩
end
theorem Mu {T:List cH}{wt:List b8}(b:e6 T wt):∃g,dS T wt g:=by
 classical
 refine⟨λis=>(lg (OQ is)).map (λi=>decide (∀X:Nat->Prop,iM T wt X->(∀k,cx is k->X k)->X i)),λis hl c=>?_⟩
 have key:∀i,cx ((lg (OQ is)).map (λi=>decide (∀X:Nat->Prop,iM T wt X->(∀k,cx is k->X k)->X i))) i↔i<OQ is/\∀X:Nat->Prop,iM T wt X->(∀k,cx is k->X k)->X i:=by grind [cx]
 refine⟨ac,λi hi=>(by grind [cx.lt]),λi hi e v hv d=>?_,λX hX hs i hi=>(by grind)⟩
 have k2:∀X:Nat->Prop,iM T wt X->(∀k,cx is k->X k)->_:=λX hX hs=>hX i hi (by grind) v (by grind [jH.mono]) d;exact(key _).2 ⟨(hl▸(k2 (cz T) b.cls c).1),k2⟩
theorem CF:∃g:fM,∀T wt,e6 T wt->dS T wt (g T wt):=by
 classical
 refine⟨λT wt=>if h:∃g,dS T wt g then h.choose else id,λT wt b=>?_⟩
 grind [Mu]
section
variable {σ:Type}{is:σ->Int->Bool}{kp:σ->Int->σ}{I:σ->List b8->Prop}{R:List b8}
theorem xe (hk:∀s C e,I s C->e∈R->is s e.1=O5->I (kp s e.2) (C++[e])):∀(l:List b8)(s:σ)(C D:List b8),(∀e∈l,e∈R)->I s C->I (ch.pass is kp l s C D).1 (ch.pass is kp l s C D).2.1
 |[],_,_,_,_,h=>h
 |e::r,s,C,D,b,h=>by
  unfold ch.pass;have hr:_:=λx d=>b x (bj _ d)
  split
  ·rename_i c;exact xe hk r _ _ _ hr (by grind)
  ·exact xe hk r _ _ _ hr h
theorem CG (hk:∀s C e,I s C->e∈R->is s e.1=O5->I (kp s e.2) (C++[e])):∀(n:Nat)(D:List b8)(s:σ)(C:List b8),(∀e∈D,e∈R)->I s C->I (ch.turns is kp n D s C).1 (ch.turns is kp n D s C).2.1
 |0,_,_,_,_,h=>h
 |n+1,D,s,C,b,h=>by
  have c:=xe hk D s C [] b h;unfold ch.turns;split
  ·omega
  ·exact CG hk n _ _ _ (by grind [B_]) c
end
structure xf (s:ck)(g:List Bool->List Bool)(mj:Bool)(L:List Bool)(C:List b8):Prop where
 ok:hQ s.T L
 up:∀k,cx (s.c0 g mj) k->cx L k
 cl:iM s.T s.wt (cx L)
 cC:∀e∈C,e∈s.rg/\cx L (K e.1)/\cx L (K e.2)
 lt:∀X,iM s.T s.wt X->(∀k,cx (s.c0 g mj) k->X k)->(∀e∈s.rg,cZ (s.c0 g mj) e.2=O4->X (K e.2))->∀k,cx L k->X k
theorem CH {s:ck}(h:fX s){g:List Bool->List Bool}(hg:dS s.T s.wt g)(mj:Bool):pM s.T s.wt (k9 s.T s.rs mj) (s.c0 g mj)/\hQ s.T (s.c0 g mj):=by have b:=h.first mj;exact⟨hg _ b.len b.al,(hg.ok h.iv b).1⟩
theorem Mx {s:ck}(h:fX s){g:List Bool->List Bool}(hg:dS s.T s.wt g)(mj:Bool):xf s g mj (s.cR g mj).1 (s.cR g mj).2.1:=by
 obtain⟨l,m⟩:=CH h hg mj;refine CG (λL C e f he n=>?_) _ _ _ _ (λe he=>he) ⟨m,λk hk=>hk,l.cl,λe he=>by grind,λX _ hX _ k hk=>(by grind)⟩
 obtain⟨he,hn⟩:=bK.1 he;have hn:cZ (s.c0 g mj) e.2=O4:=by grind
 have ha:=(h.gv e he).2;obtain⟨j,o,q⟩:=f.ok.put ha.2;have c:=hg _ j.len j.al;have d:∀k,cx L k->_:=λk hk=>c.up k (by grind)
 refine⟨(hg.ok h.iv j).1,λk hk=>d k (f.up k hk),c.cl,λx b=>?_,λX hX h0 t k hk=>?_⟩
 ·rcases bw.1 b with b|b
  ·obtain⟨q1,p,q3⟩:=f.cC x b;exact⟨q1,d _ p,d _ q3⟩
  ·rw[bN.1 b];exact⟨he,d _ n,c.up _ o⟩
 ·refine c.lt X hX (λi hi=>?_) k hk
  grind [xf.lt,cx]
theorem My (s:ck)(g:List Bool->List Bool)(mj:Bool):OQ (s.cR g mj).2.1<=OQ (s.rg.filter (λe=>!cZ (s.c0 g mj) e.2)):=by
 have:=xY (is:=cZ) (kp:=gz g) (OQ s.rg+1) (s.rg.filter (λe=>!cZ (s.c0 g mj) e.2)) (s.c0 g mj) [];unfold ck.cR
 grind
theorem Mz {s:ck}(h:fX s){g:List Bool->List Bool}(hg:dS s.T s.wt g)(mj:Bool){v:Int×Int}(hv:v∈s.rs)(b:v.1=3):cx (s.c0 g mj) (K v.2):=
 (CH h hg mj).1.up _ ((lM _ _ _ _).2 ⟨(h.rv v hv b).2.1,aI ⟨v,hv,b,rfl⟩⟩)
theorem xg (L:List Bool)(T:List cH)(i:Nat):X (gW L T (OQ T)) i t0=if i<OQ T then gj L i (X T i t0) else t0:=by
 by_cases h:i<OQ T
 ·rw[sZ L T (OQ T) i aa h,aN h,aN h]
 grind [kE]
theorem CJ {L:List Bool}{i:Nat}{t:cH}(b:X L i O4=O4):gj L i t=(t.1,[],t.2.2.1,O5):=by grind [gj]
theorem tK (L:List Bool)(i:Nat)(t:cH):(gj L i t).1=t.1:=by grind [gj]
theorem MA {L:List Bool}{i:Nat}{t:cH}(b:X L i O4=O5):(gj L i t).2.2=(O5,t.2.2.2):=by grind [gj]
theorem MB {T:List cH}{L:List Bool}(h:hQ T L)(i:Nat):cz (gW L T (OQ T)) i↔cx L i:=by
 unfold cz;rw[kE,xg];constructor
 ·grind [CJ,cx]
 ·intro hi;have ha:=h.al i hi;refine⟨ha.1,?_⟩
  rw[aN ha.1,MA hi];exact ha.2
theorem tL {L:List Bool}{i:Nat}{t:cH}(b:X L i O4=O5):
 (t.1=4/\eN L (X t.2.1 0 (0,0))=O4/\(gj L i t).2.1=[(2,0),(2,0)])\/(t.1=3/\eN L (X t.2.1 0 (0,0))=O4/\(gj L i t).2.1=[(2,0),X t.2.1 1 (0,0)])\/((t.1=3\/t.1=4->eN L (X t.2.1 0 (0,0))=O5)/\(gj L i t).2.1=t.2.1):=by grind [gj]
def nP (T:List cH)(e:b8):Prop:=(0<=e.1/\cz T (K e.1))/\(X T (K e.1) t0).1=5/\0<=e.2/\cz T (K e.2)
structure eb (s:ck)(j:Nat):Prop where
 kd:∀i,cz s.T i->1<=(X s.T i t0).1/\(X s.T i t0).1<=5
 fl:∀i,cz s.T i->(X s.T i t0).1=3\/(X s.T i t0).1=4->OQ (X s.T i t0).2.1=2
 g5:∀i,cz s.T i->(X s.T i t0).1=5->(X s.T i t0).2.1=[]
 fv:∀i,cz s.T i->∀v∈(X s.T i t0).2.1,fH s.T v
 tl:∀i,OQ (X s.T i t0).2.1<=12
 rv:∀v∈s.rs,fH s.T v
 rl:OQ s.rs=12
 gv:∀e∈s.rg,nP s.T e
 wv:∀e∈s.wt,nP s.T e
 en:OQ s.rg+OQ s.wt<=24
 tj:OQ s.T<=j
theorem eb.more {s:ck}{j k:Nat}(h:eb s j)(hk:j<=k):eb s k:={h with tj:=aQ h.tj hk}
theorem eb.iv {s:ck}{j:Nat}(h:eb s j):e6 s.T s.wt:=⟨h.fl,λi hi v hv=>(h.fv i hi v hv).2,λe he=>(h.wv e he).2.2,h.tl⟩
theorem eb.xh {s:ck}{j:Nat}(h:eb s j)(b:j<=10000):fX s:=
 ⟨h.iv,λv hv=>(h.rv v hv).2,λe he=>⟨(h.gv e he).1,(h.gv e he).2.2⟩,λe he=>(h.wv e he).1,aQ h.tj b,by have:=h.en;omega,by have:=h.en;omega⟩
theorem eb.CK {s:ck}{j:Nat}(h:eb s j)(b:j<=10000):kH s.T s.wt:=
 ⟨h.fv,λe he=>⟨(h.wv e he).1.1,(h.wv e he).2.2⟩,h.tl,aQ h.tj b,by have:=h.en;omega⟩
theorem fH.mono {T c:List cH}{v:Int×Int}(h:fH T v)(hm:v.1=3->cz T (K v.2)->cz c (K v.2)):fH c v:=⟨h.1,λb=>⟨(h.2 b).1,hm b (h.2 b).2⟩⟩
theorem mE (T:List cH):fH T (0,0):=⟨ae,λh=>by cases h⟩
theorem CL (T:List cH):fH T (2,0):=⟨ae,λh=>by cases h⟩
theorem eb.rt {s:ck}{j:Nat}(h:eb s j)(i:Nat):fH s.T (X s.rs i (0,0)):=by grind [rv,mE]
theorem eb.cut {s:ck}{j:Nat}(h:eb s j)(u:j<=10000){g:List Bool->List Bool}(hg:dS s.T s.wt g)(grow:Int)(mj:Bool):eb (s.cut g grow mj) j:=by
 unfold ck.cut;split
 ·exact h
 have hw:=h.xh u;have f:=Mx hw hg mj;have hl:=My s g mj;generalize F:(s.cR g mj).1=L at*;generalize N:(s.cR g mj).2.1=C at*;have n:=MB f.ok;have gt:∀i,cx L i->X (gW L s.T (OQ s.T)) i t0=gj L i (X s.T i t0):=λi hi=>by rw[xg,aN (f.ok.al i hi).1]
 have tr:∀v,fH s.T v->(v.1=3->cx L (K v.2))->_:=λv hv hi=>hv.mono (λb _=>(n _).2 (hi b))
 have ev:∀e,nP s.T e->cx L (K e.1)->cx L (K e.2)->nP (gW L s.T (OQ s.T)) e:=λe he k m=>⟨⟨he.1.1,(n _).2 k⟩,by rw[gt _ k,tK];exact he.2.1,he.2.2.1,(n _).2 m⟩
 refine {kd:=λi hi=>?_,fl:=λi hi hk=>?_,g5:=λi hi hk=>?_,fv:=λi hi v hv=>?_,tl:=λi=>?_,rv:=λv hv=>?_,rl:=h.rl,gv:=λe he=>?_,wv:=λe he=>?_,en:=?_,tj:=?_}
 ·have hi:=(n i).1 hi;rw[gt i hi,tK];exact h.kd i (f.ok.al i hi)
 ·have hi:=(n i).1 hi;rw[gt i hi,tK] at hk;rw[gt i hi];have m:=h.fl i (f.ok.al i hi) hk;rcases tL (L:=L) hi with⟨_,_,e⟩|⟨_,_,e⟩|⟨_,e⟩<;>rw[e]
  all_goals grind
 ·have hi:=(n i).1 hi;rw[gt i hi,tK] at hk;rw[gt i hi];rcases tL (t:=X s.T i t0) hi with⟨d,_,_⟩|⟨d,_,_⟩|⟨_,e⟩
  ·omega
  ·omega
  ·rw[e];exact h.g5 i (f.ok.al i hi) hk
 ·have hi:=(n i).1 hi;have ha:=f.ok.al i hi;rw[gt i hi] at hv;have cl:∀v,jH s.T s.wt (cx L) i v->v.1=3->_:=λv hk b=>f.cl i ha.1 hi v hk b;rcases tL (L:=L) hi with⟨_,_,e⟩|⟨k3,_,e⟩|⟨w,e⟩
  ·rw[e] at hv
   grind [CL]
  ·rw[e] at hv;have:v=(2,0)\/v=X (X s.T i t0).2.1 1 (0,0):=by grind
   rcases this with rfl|rfl
   ·exact CL _
   ·exact tr _ (by grind [fv,fl]) (λb=>cl _ (aI (aK ⟨k3,rfl⟩)) b)
  ·rw[e] at hv;refine tr v (h.fv i ha v hv) (λb=>?_)
   have hk:=h.kd i ha;by_cases B:(X s.T i t0).1=1\/(X s.T i t0).1=2
   ·exact cl v (aK ⟨B,hv⟩) b
   ·by_cases S:(X s.T i t0).1=5
    ·grind [g5]
    ·have p:(X s.T i t0).1=3\/(X s.T i t0).1=4:=aa;have h0:=oH (w p)
     have m:=h.fl i ha p;obtain⟨q,hq,eq⟩:=bP.1 hv;have o:X (X s.T i t0).2.1 q (0,0)=v:=by grind
     match q,hq,o with
     |0,_,o=>
      grind
     |1,_,o=>
      rcases p with c|c
      ·exact cl v (aI (aK ⟨c,o.symm⟩)) b
      ·exact cl v (aI (aI (aK ⟨c,h0,o.symm⟩))) b
     |q+2,hq,_=>omega
 ·rw[xg];split
  ·cases c:X L i O4
   ·rw[CJ c];simp
   ·rcases tL (L:=L) c with⟨_,_,e⟩|⟨_,_,e⟩|⟨_,e⟩<;>rw[e]
    ·simp
    ·simp
    ·exact h.tl i
  ·simp[t0]
 ·exact tr v (h.rv v hv) (λb=>f.up _ (Mz hw hg mj hv b))
 ·obtain⟨k,m⟩:=bK.1 he;rw[Bool.and_eq_true] at m;exact ev e (h.gv e k) m.2 (f.up _ m.1)
 ·obtain⟨k,m⟩:=bK.1 he;rcases bw.1 k with k|k
  ·have hv:=h.wv e k;exact ev e hv m (f.cl (K e.1) hv.1.2.1 m (3,e.2) (aI (aI (aI ⟨hv.2.1,e,k,by have:=hv.1.1;omega,rfl⟩))) rfl)
  grind [xf.cC,gv]
 ·dsimp only;have l1:OQ (s.rg.filter (λe=>cZ (s.c0 g mj) e.2&&cZ L e.1))+OQ (s.rg.filter (λe=>!cZ (s.c0 g mj) e.2))<=OQ s.rg:=by
   have key:∀l:List b8,OQ (l.filter (λe=>cZ (s.c0 g mj) e.2&&cZ L e.1))+OQ (l.filter (λe=>!cZ (s.c0 g mj) e.2))<=OQ l:=λl=>by
    induction l with
    |nil=>simp
    |cons x l W=>
     grind
   exact key s.rg
  have l2:=List.length_filter_le (λe:b8=>cZ L e.1) (s.wt++C)
  rw[aX] at l2;have:=h.en;omega
 simp_all [kE,tj]
theorem MC (T:List cH)(t:cH)(i:Nat):X (T++[t]) i t0=if i=OQ T then t else X T i t0:=by grind
theorem CM (T:List cH)(k:Int)(fl:List _)(i:Nat):cz (T++[(k,fl,O4,O4)]) i↔cz T i\/i=OQ T:=by grind [cz]
theorem MD (g:List Bool->List Bool)(s:ck)(grow:Int)(mj:Bool):(s.cut g grow mj).rs=s.rs:=by grind [ck.cut]
theorem ME (g:fM)(ce grow:Int)(s:ck)(m:Int):(s.room g ce grow m).2.rs=s.rs:=by grind [MD,ck.room]
theorem xi {k R A B n:Int}(h:dY k R A B n=0):iS k n=0:=by grind [dY]
theorem CN {R A B n:Int}(h:dY 5 R A B n=0):0<=n/\n<=12:=by
 have b:=xi h
 grind [iS,hc]
theorem CO {R A B n:Int}(h:dY 1 R A B n=0):vc 1 n=0:=by have b:=xi h;assumption
section
variable {s:ck}{j:Nat}{g:fM}{ce grow:Int}
theorem eb.room (h:eb s j)(b:j<=10000)(hg:dS s.T s.wt (g s.T s.wt))(m:Int):eb (s.room g ce grow m).2 j:=by grind [cut,ck.room]
theorem eb.put (h:eb s j){kd:Int}{fl:List _}(c:1<=kd)(d:kd<=5)(f:kd=3\/kd=4->OQ fl=2)(g:kd=5->fl=[])(k:∀v∈fl,fH s.T v)(hl:OQ fl<=12):eb (s.put kd fl) (j+1):=by
 have b:=CM s.T kd fl;have tr:∀v,fH s.T v->_:=λv hv=>hv.mono (λ_ ha=>(b _).2 (aK ha))
 have gt:∀i,cz s.T i->X (s.T++[(kd,fl,O4,O4)]) i t0=X s.T i t0:=λi hi=>by rw[MC,aJ (by have:=hi.1;omega)]
 have l:X (s.T++[(kd,fl,O4,O4)]) (OQ s.T) t0=(kd,fl,O4,O4):=by simp_all
 have ev:∀e,nP s.T e->nP (s.T++[(kd,fl,O4,O4)]) e:=λe he=>⟨⟨he.1.1,(b _).2 (aK he.1.2)⟩,(gt _ he.1.2▸he.2.1),he.2.2.1,(b _).2 (aK he.2.2.2)⟩
 unfold ck.put;refine {kd:=λi hi=>?_,fl:=λi hi hk=>?_,g5:=λi hi hk=>?_,fv:=λi hi v hv=>?_,tl:=λi=>?_,rv:=λv hv=>tr v (h.rv v hv),rl:=h.rl,gv:=λe he=>ev e (h.gv e he),wv:=λe he=>ev e (h.wv e he),en:=h.en,tj:=?_}
 ·rcases(b i).1 hi with hi|rfl
  ·rw[gt i hi];exact h.kd i hi
  grind
 ·rcases(b i).1 hi with hi|rfl
  all_goals grind [fl]
 ·rcases(b i).1 hi with hi|rfl
  all_goals grind [g5]
 ·rcases(b i).1 hi with hi|rfl
  ·rw[gt i hi] at hv;exact tr v (h.fv i hi v hv)
  ·simp_all
 ·grind [tl]
 simp_all [tj]
theorem eb.rk (h:eb s j)(b:j<=10000)(hg:dS s.T s.wt (g s.T s.wt)){kd:Int}{fl:List _}(c:1<=kd)(d:kd<=5)(e:kd=3\/kd=4->OQ fl=2)(f:kd=5->fl=[])(i:∀v∈fl,v∈s.rs\/v=(0,0))(hl:OQ fl<=12):
 eb (s.grow g ce grow kd fl).2.2 (j+1)/\fH (s.grow g ce grow kd fl).2.2.T (s.grow g ce grow kd fl).1:=by
 have hr:=h.room b hg (ce:=ce) (grow:=grow) (1+OQ fl)
 have hs:=ME g ce grow s (1+OQ fl)
 unfold ck.grow;generalize s.room g ce grow _=p at*;split
 ·dsimp only;refine⟨hr.put c d e f (λv hv=>?_) hl,?_⟩
  ·grind [rv,mE]
  ·have k:=hr.tj;refine⟨o5 _ aa aa,λ_=>⟨aa,?_⟩⟩
   grind [CM,ck.put]
 ·exact⟨hr.more aa,mE _⟩
theorem eb.pop (h:eb s j)(b:j<=10000)(v:Int×Int):eb (s.pop v).2.2 j/\fH (s.pop v).2.2.T (s.pop v).1:=by
 unfold ck.pop;split
 ·split
  ·rename_i c;have he:=h.wv _ (fL (x:=(0,0)) c)
   have hb:=he.2.2.2.1;have ht:=h.tj;refine⟨{h with wv:=λe hm=>?_,en:=?_},o5 _ he.2.2.1 (by grind),λ_=>he.2.2⟩
   ·grind [wv]
   ·have:=h.en
    grind
  grind [mE]
 grind [mE]
theorem MF {T:List cH}{v:Int×Int}(hv:fH T v)(h:jy T v=O5):(0<=v.2/\cz T (K v.2))/\(X T (K v.2) t0).1=5:=by obtain⟨b,c⟩:=s3.1 h;exact⟨hv.2 b,c⟩
theorem eb.reg (h:eb s j){t d:Int×Int}(ht:fH s.T t)(hd:fH s.T d):eb (s.reg t d).2 j:=by
 unfold ck.reg;split
 ·rename_i c;split
  ·omega
  ·obtain⟨q1,b⟩:=MF hd c.2;refine {h with gv:=λe he=>?_,en:=?_}
   ·rcases bw.1 he with he|he
    ·grind [gv]
    ·rw[bN.1 he];exact⟨q1,b,ht.2 c.1⟩
   grind
 omega
theorem MG (T:List cH)(i q:Nat)(y:Int×Int)(k:Nat)(hi:i<OQ T):X (jT T i q y) k t0=if k=i then((X T i t0).1,(X T i t0).2.1.set q y,(X T i t0).2.2) else X T k t0:=by grind
theorem MH (T:List cH)(i q:Nat)(y:Int×Int)(hi:i<OQ T)(k:Nat):cz (jT T i q y) k↔cz T k:=by grind [cz]
theorem eb.set (h:eb s j){v y:Int×Int}(I:Int)(hv:fH s.T v)(hy:fH s.T y):eb (s.set v I y).2 j:=by
 unfold ck.set;split
 ·rename_i c;have g:lN s.T v=O5:=by grind [ck.fc]
  obtain⟨l,m⟩:=k_.1 g;obtain⟨_,ha⟩:=hv.2 l;generalize K v.2=i at*;have hi:=ha.1;have f:=MH s.T i (K I) y hi;have gt:=λk=>MG s.T i (K I) y k hi;have tr:∀v,fH s.T v->_:=λv hv=>hv.mono (λ_ ha=>(f _).2 ha)
  have k1:∀k,(X (jT s.T i (K I) y) k t0).1=(X s.T k t0).1:=λk=>by grind
  have l1:∀k,OQ (X (jT s.T i (K I) y) k t0).2.1=OQ (X s.T k t0).2.1:=λk=>by grind
  have ev:∀e,nP s.T e->nP (jT s.T i (K I) y) e:=λe he=>⟨⟨he.1.1,(f _).2 he.1.2⟩,by rw[k1];exact he.2.1,he.2.2.1,(f _).2 he.2.2.2⟩
  refine {kd:=λk hk=>?_,fl:=λk hk hq=>?_,g5:=λk hk hq=>?_,fv:=λk hk x b=>?_,tl:=λk=>?_,rv:=λx b=>tr x (h.rv x b),rl:=h.rl,gv:=λe he=>ev e (h.gv e he),wv:=λe he=>ev e (h.wv e he),en:=h.en,tj:=?_}
  ·rw[k1];exact h.kd k (by grind)
  ·grind [fl]
  ·grind [g5]
  ·rw[gt k] at b;split at b
   ·rename_i e;rcases mo b with d|d
    ·exact tr x (h.fv i ha x d)
    ·simp_all
   ·exact tr x (h.fv k ((f k).1 hk) x b)
  ·grind [tl]
  simp_all [tj]
 omega
theorem eb.root (h:eb s j)(R:Nat){v:Int×Int}(hv:fH s.T v):eb {s with rs:=s.rs.set R v} j:=
 {
  h with
  rv:=λx b=>(by grind [rv])
  rl:=by grind [rl]}
theorem xj (s:ck)(i:Nat):X s.rs i (0,0)∈s.rs\/X s.rs i (0,0)=(0,0):=by grind
theorem eb.rts (h:eb s j)(b:j<=10000)(hg:dS s.T s.wt (g s.T s.wt)){k R A B n:Int}(hc:dY k R A B n=0)(I:Int):eb (s.rt g ce grow k (K A) (K B) I n).2.2 (j+1)/\fH (s.rt g ce grow k (K A) (K B) I n).2.2.T (s.rt g ce grow k (K A) (K B) I n).1:=by
 have hs:=h.more (jl j)
 have two:∀v∈[X s.rs (K A) (0,0),X s.rs (K B) (0,0)],v∈s.rs\/v=(0,0):=λv hv=>by
  have:v=X s.rs (K A) (0,0)\/v=X s.rs (K B) (0,0):=by simpa using hv
  rcases this with rfl|rfl
  ·exact xj s _
  ·exact xj s _
 have p:∀x:Int,-1152921504606846976<=x->x<1152921504606846976->fH s.T (1,x):=λx t u=>⟨by simp[vc,rc];omega,λh=>by cases h⟩
 unfold ck.rt;by_cases k1:k=1
 ·rw[aN k1];subst k1;exact⟨hs,CO hc,λh=>by cases h⟩
 rw[aJ k1];by_cases k3:k=3
 ·rw[aN k3];exact⟨hs,h.rt _⟩
 rw[aJ k3];by_cases k4:k=4
 ·rw[aN k4];exact h.rk b hg ae ae ac ac two ac
 rw[aJ k4];by_cases k5:k=5
 ·rw[aN k5];subst k5;have hn:=CN hc;exact h.rk b hg ae ae ac ac (λv hv=>((List.mem_replicate.1 hv).2▸xj s _)) (by simp_all)
 rw[aJ k5];by_cases k6:k=6
 ·rw[aN k6];exact h.rk b hg ae ae ac ac two ac
 rw[aJ k6];by_cases d:k=7
 ·rw[aN d];exact h.rk b hg ae ae ac ac two ac
 rw[aJ d];by_cases f:k=8
 ·rw[aN f];exact h.rk b hg ae ae ac ac ac ac
 rw[aJ f];by_cases i:k=10
 ·rw[aN i];have:=h.pop b (X s.rs (K A) (0,0))
  exact⟨this.1.more (jl _),this.2⟩
 rw[aJ i];by_cases l:k=11
 ·rw[aN l];refine⟨hs,?_⟩
  split
  ·rename_i c;by_cases e:lN s.T (X s.rs (K A) (0,0))=O5
   ·obtain⟨q,_⟩:=k_.1 e;by_cases ci:K I<OQ (X s.T (K (X s.rs (K A) (0,0)).2) t0).2.1
    ·exact h.fv _ ((h.rt (K A)).2 q).2 _ (fL ci)
    ·rw[aM,qo aa];exact mE _
   ·unfold ck.fc at c;rw[aJ e] at c;omega
  ·exact mE _
 rw[aJ l];by_cases m:k=13
 ·rw[aN m];split
  ·refine⟨hs,p _ aa ?_⟩
   have:=h.tl (K (X s.rs (K A) (0,0)).2);omega
  ·exact⟨hs,mE _⟩
 rw[aJ m];by_cases o:k=14
 ·rw[aN o];refine⟨hs,?_⟩
  split
  ·simp_all
  ·simp_all
 rw[aJ o];exact⟨hs,mE _⟩
theorem eb.dI (h:eb s j)(b:j<=10000)(hg:dS s.T s.wt (g s.T s.wt))(k R A B I n:Int):eb (s.dI g ce grow k R A B I n).2 (j+1):=by
 have hs:=jl j;unfold ck.dI;by_cases hc:dY k R A B n=0
 ·rw[aN hc];split
  ·grind [more,reg,rt]
  ·split
   ·grind [more,set,rt]
   ·split
    ·exact(h.cut b hg _ _).more hs
    ·split
     ·exact(h.cut b hg _ _).more hs
     grind [rts,root]
 grind [more]
end
theorem eb.start:eb ⟨[],List.replicate 12 (0,0),[],[]⟩ 0:=
 ⟨λi hi=>absurd hi.1 ac,λi hi=>absurd hi.1 ac,λi hi=>absurd hi.1 ac,λi hi=>absurd hi.1 ac,λi=>by simp[t0],λv hv=>by grind [mE],ac,λe he=>by grind,λe he=>by grind,ac,ac⟩
open Go.RowKit W
theorem MJ (T:List cH)(wt:List b8)(l:List _):iE (tI (OQ T)) (iz T) (iA T wt) ([],[]) (ee.eU T wt l).2 (ee.eU T wt l).1:=
 qh (ks _) (fE.start _) (by rw[oL];simp) _
theorem MK {T:List cH}{wt:List b8}(hw:kH T wt)(l:List _):OQ (ee.eU T wt l).1=OQ l/\OQ (ee.eU T wt l).2.2<=10000/\∀nd∈(ee.eU T wt l).2.2,OQ nd.2<=20000:=by
 have hv:=MJ T wt l;refine⟨?_,?_,λnd b=>?_⟩
 ·grind [o6,ee.eU]
 ·rw[hv.ok.len];refine aQ hv.ok.le ?_
  grind [oL,kH.l1]
 ·obtain⟨i,hi,e⟩:=bP.1 b;obtain⟨c,q1,_,q3,_⟩:=hv.nw i (by grind) (by rw[<-hv.ok.len];omega)
  rw[aP hi,e] at q1;have q1:nd=c:=by grind
  rw[q1,q3];unfold iA;have d:=hw.tl (K (X (ee.eU T wt l).2.1 i 0));have f:=hw.l2
  grind
def wv (m:Nat->Int)(v:Int×Int):Int:=if v.1=3 then ew 3 (m (K v.2)) else ew v.1 v.2
def we (m:Nat->Int)(e:b8):b8:=(ew 3 (m (K e.1)),ew 3 (m (K e.2)))
structure dL (T:List cH)(v:Int×Int):Prop where
 t:v.1=3->0<=v.2/\cz T (K v.2)
 o:v.1≠3->vc v.1 v.2=0
structure gP (T:List cH)(e:b8):Prop where
 g0:0<=e.1
 g:cz T (K e.1)
 k:(X T (K e.1) t0).1=5
 h0:0<=e.2
 h:cz T (K e.2)
structure cE (a:Wc)(S:cv)(W:ck)(m:Nat->Int)(Y G:List Int):Prop where
 kv:eA a S.s Y G
 rl:OQ W.rs=12
 rv:∀v∈W.rs,dL W.T v
 fv:∀i,cz W.T i->∀v∈(X W.T i t0).2.1,dL W.T v
 rs:S.s.rs=W.rs.map (wv m)
 i9:∀i,cz W.T i->(X W.T i t0).2.2.1=O4->m i∈Y
 old:∀i,cz W.T i->(X W.T i t0).2.2.1=O5->m i∈G
 inj:∀i j,cz W.T i->cz W.T j->m i=m j->i=j
 gV:∀v,(v∈Y\/v∈G)->∃i,cz W.T i/\m i=v
 hd:∀i,cz W.T i->hc (X W.T i t0).1 (OQ (X W.T i t0).2.1)=0/\ld a.N S.s.y S.s.g S.s.ws (m i)=hw (X W.T i t0).1 (OQ (X W.T i t0).2.1)
 fd:∀i,cz W.T i->∀k:Nat,k<OQ (X W.T i t0).2.1->ld a.N S.s.y S.s.g S.s.ws (m i+1+k)=wv m (X (X W.T i t0).2.1 k (0,0))
 rg:S.r=W.rg.map (we m)
 gv:∀e∈W.rg,gP W.T e
 wt:S.q=W.wt.map (we m)
 dH:∀e∈W.wt,gP W.T e
 tl:∀i,OQ (X W.T i t0).2.1<=12
theorem xk {b:Type}(l:List b)(i j:Nat)(x d:b)(h:i<OQ l):X (l.set i x) j d=if i=j then x else X l j d:=by grind
theorem oP {b c:Type}(f:b->c)(l:List b)(i:Nat)(d:b)(e:c)(h:i<OQ l):X (l.map f) i e=f (X l i d):=by grind
theorem jJ {m:Nat->Int}{v:Int×Int}(h:v.1=3):wv m v=ew 3 (m (K v.2)):=by grind [wv]
theorem oQ {m:Nat->Int}{v:Int×Int}(h:v.1≠3):wv m v=ew v.1 v.2:=by grind [wv]
theorem xl {T:List cH}{m b:Nat->Int}(h:∀i,cz T i->b i=m i){v:Int×Int}(hv:dL T v):wv b v=wv m v:=by
 by_cases c:v.1=3
 ·simp_all [jJ,dL.t]
 grind [oQ]
theorem CP {T:List cH}{m b:Nat->Int}(h:∀i,cz T i->b i=m i){e:b8}(he:gP T e):we b e=we m e:=by grind [gP.g,gP.h,we]
theorem dL.of {T:List cH}{k n:Int}(b:k≠3)(h:vc k n=0):dL T (k,n):=⟨λe=>aa,λ_=>h⟩
theorem dL.nil (T:List cH):dL T (0,0):=dL.of ae ae
theorem dL.mono {T b:List cH}(h:∀i,cz T i->cz b i){v:Int×Int}(hv:dL T v):dL b v:=⟨λe=>⟨(hv.t e).1,h _ (hv.t e).2⟩,hv.o⟩
theorem MM {N y g:Nat}{ws Y G:List Int}(h:ey N y g ws Y G)(hy:y<=N){u v i j:Int}(b:u∈Y\/u∈G)(hv:v∈Y\/v∈G)(c:0<=i)(f:i<pf (ld N y g ws u))(j0:0<=j)(k:j<pf (ld N y g ws v))(e:u+1+i=v+1+j):u=v:=by
 rcases b with b|b<;>rcases hv with hv|hv
 ·rcases Int.lt_trichotomy u v with d|d|d
  ·have:=h.ty.apart u b v hv d;omega
  ·omega
  ·have:=h.ty.apart v hv u b d;omega
 ·have l:=oz h b c f;have m:=oA h hv j0 k;omega
 ·have l:=oz h hv j0 k;have m:=oA h b c f;omega
 grind [AM]
section
variable {a:Wc}{S:cv}{W:ck}{m:Nat->Int}{Y G:List Int}
theorem cE.mem (h:cE a S W m Y G){i:Nat}(hi:cz W.T i):m i∈Y\/m i∈G:=by grind [i9,old]
theorem cE.bd (h:cE a S W m Y G)(hb:cL a S.s){i:Nat}(hi:cz W.T i):0<=m i/\m i<1280:=by
 have b:=hb.n1;have c:=hb.o1;have e:=hb.y1;have f:=hb.g1;rcases h.mem hi with d|d
 ·have:=h.kv.inv.full.jr _ d;omega
 ·have:=h.kv.inv.full.io _ d;omega
theorem cE.word (h:cE a S W m Y G)(hb:cL a S.s){i:Nat}(hi:cz W.T i):vc 3 (m i)=0/\di (ew 3 (m i))=O5/\cq (ew 3 (m i))=m i:=by grind [bd,o5,o4]
theorem cE.vt (h:cE a S W m Y G)(hb:cL a S.s){v:Int×Int}(hv:dL W.T v)(b:v.1=3):di (wv m v)=O5/\cq (wv m v)=m (K v.2):=(jJ b▸(h.word hb (hv.t b).2).2)
theorem dL.no {T:List cH}{v:Int×Int}(hv:dL T v)(b:v.1≠3):di (wv m v)=O4:=by grind [oQ,o4,o]
theorem cE.xm (h:cE a S W m Y G)(hb:cL a S.s){v:Int×Int}(hv:dL W.T v):di (wv m v)=(v.1==3):=by grind [vt,dL.no]
theorem cE.at (h:cE a S W m Y G)(hb:cL a S.s){v:Int×Int}(hv:dL W.T v)(ha:di (wv m v)=O5):cq (wv m v)∈Y\/cq (wv m v)∈G:=by
 rw[h.xm hb hv] at ha;have b:v.1=3:=by grind
 rw[(h.vt hb hv b).2];exact h.mem (hv.t b).2
theorem cE.dec (h:cE a S W m Y G)(hb:cL a S.s){v:Int×Int}(hv:dL W.T v):dc (wv m v)=0/\dk (wv m v)=v.1/\dp (wv m v)=if v.1=3 then m (K v.2) else v.2:=by
 by_cases c:v.1=3
 ·rw[jJ c,aN c,c];exact rK 3 _ (h.word hb (hv.t c).2).1
 grind [oQ,rK,dL.o]
theorem cE.CQ (h:cE a S W m Y G)(hb:cL a S.s){v u:Int×Int}(hv:dL W.T v)(b:dL W.T u)(e:wv m v=wv m u):v=u:=by
 obtain⟨_,k1,n1⟩:=h.dec hb hv;obtain⟨_,k2,d⟩:=h.dec hb b;rw[e] at k1 n1;have gS:=k1.symm.trans k2;rw[d] at n1;by_cases c:v.1=3
 ·have c2:=gS▸c
  rw[aN c,aN c2] at n1;have:=h.inj _ _ (b.t c2).2 (hv.t c).2 n1;have f:=(hv.t c).1;have g:=(b.t c2).1
  grind
 grind
theorem cE.parts (h:cE a S W m Y G){i:Nat}(hi:cz W.T i):pk (ld a.N S.s.y S.s.g S.s.ws (m i))=(X W.T i t0).1/\pf (ld a.N S.s.y S.s.g S.s.ws (m i))=OQ (X W.T i t0).2.1/\pc (ld a.N S.s.y S.s.g S.s.ws (m i))=0:=by grind [hd,rL]
theorem cE.tB (h:cE a S W m Y G)(hb:cL a S.s){v:Int×Int}(hv:dL W.T v):tB a.N S.s.y S.s.g S.s.ws (wv m v)=(v.1==3):=by
 by_cases c:v.1=3
 ·rw[(jS (O:=a.O) h.kv.inv.full hb.n1 hb.y1 hb.o1 hb.g1).2 ⟨(h.vt hb hv c).1,h.at hb hv (h.vt hb hv c).1⟩,c];rfl
 ·have e:(v.1==3)=O4:=by grind
  rw[e,Bool.eq_false_iff];intro d;have:=((jS (O:=a.O) h.kv.inv.full hb.n1 hb.y1 hb.o1 hb.g1).1 d).1
  grind [dL.no]
theorem cE.root (h:cE a S W m Y G){i:Nat}(hi:i<12):X S.s.rs i 0=wv m (X W.rs i (0,0))/\dL W.T (X W.rs i (0,0)):=by
 have hl:i<OQ W.rs:=(h.rl▸hi)
 exact⟨(h.rs▸(by grind)),h.rv _ (by grind)⟩
theorem cE.code (h:cE a S W m Y G)(hb:cL a S.s){A:Nat}(b:A<12)(I:Int):eV a.N S.s.y S.s.g S.s.ws (X S.s.rs A 0) I=W.gc A I:=by
 obtain⟨e,hv⟩:=h.root b;rw[e];unfold eV ck.gc ck.th;rw[h.tB hb hv];by_cases c:(X W.rs A (0,0)).1=3
 ·have d:((X W.rs A (0,0)).1==3)=O5:=by grind
  obtain⟨z,al⟩:=hv.t c;obtain⟨f,g,_⟩:=h.parts al;rw[d,aN rfl,aN c,(h.vt hb hv c).2,h.kv.inv.full.mN hb.y1 (h.mem al),f,g]
  grind [t0]
 grind
theorem cE.put (h:cE a S W m Y G)(hb:cL a S.s)(k:Nat){v:Int×Int}(hv:dL W.T v):cE a ⟨{S.s with rs:=S.s.rs.set k (wv m v)},S.r,S.q⟩ {W with rs:=W.rs.set k v} m Y G:=
 {
  kv:=h.kv.root k _ (λha=>h.at hb hv ha),rl:=by grind [rl]
  rv:=λu b=>(by grind [rv]),fv:=h.fv
  rs:=by rw[h.rs,yg]
  i9:=h.i9,old:=h.old,inj:=h.inj,gV:=h.gV,hd:=h.hd,fd:=h.fd,rg:=h.rg,gv:=h.gv,wt:=h.wt,dH:=h.dH,tl:=h.tl}
theorem cE.beside (h:cE a S W m Y G){r q:List b8}(hr:∀e∈r,gP W.T e)(hq:∀e∈q,gP W.T e):cE a ⟨S.s,r.map (we m),q.map (we m)⟩ {W with rg:=r,wt:=q} m Y G:=
 {kv:=h.kv,rl:=h.rl,rv:=h.rv,fv:=h.fv,rs:=h.rs,i9:=h.i9,old:=h.old,inj:=h.inj,gV:=h.gV,hd:=h.hd,fd:=h.fd,rg:=rfl,gv:=hr,wt:=rfl,dH:=hq,tl:=h.tl}
theorem MN {T:List cH}{i:Nat}{t:cH}(hi:i<OQ T)(hd:t.2.2.2=(X T i t0).2.2.2)(j:Nat):cz (T.set i t) j↔cz T j:=by grind [cz]
theorem cE.store (h:cE a S W m Y G)(hb:cL a S.s){i k:Nat}(hi:cz W.T i)(hk:k<OQ (X W.T i t0).2.1){v:Int×Int}(hv:dL W.T v){ws M:List Int}(ew:ws=S.s.ws.set (K (m i+1+k)) (wv m v))(o:eA a {S.s with ws:=ws,M:=M} Y G):
 cE a ⟨{S.s with ws:=ws,M:=M},S.r,S.q⟩ {W with T:=W.T.set i ((X W.T i t0).1,(X W.T i t0).2.1.set k v,(X W.T i t0).2.2)} m Y G:=by
 have al:∀j,cz (W.T.set i ((X W.T i t0).1,(X W.T i t0).2.1.set k v,(X W.T i t0).2.2)) j↔cz W.T j:=MN hi.1 rfl;have gt:∀j,X (W.T.set i ((X W.T i t0).1,(X W.T i t0).2.1.set k v,(X W.T i t0).2.2)) j t0=if i=j then((X W.T i t0).1,(X W.T i t0).2.1.set k v,(X W.T i t0).2.2) else X W.T j t0:=λj=>xk _ _ _ _ _ hi.1
 have gl:∀j,OQ (X (W.T.set i ((X W.T i t0).1,(X W.T i t0).2.1.set k v,(X W.T i t0).2.2)) j t0).2.1=OQ (X W.T j t0).2.1:=λj=>by grind
 have g1:∀j,(X (W.T.set i ((X W.T i t0).1,(X W.T i t0).2.1.set k v,(X W.T i t0).2.2)) j t0).1=(X W.T j t0).1:=λj=>by grind
 have g2:∀j,(X (W.T.set i ((X W.T i t0).1,(X W.T i t0).2.1.set k v,(X W.T i t0).2.2)) j t0).2.2=(X W.T j t0).2.2:=λj=>by grind
 obtain⟨t,w,_⟩:=h.parts hi;have k1:(k:Int)<pf (ld a.N S.s.y S.s.g S.s.ws (m i)):=aa;obtain⟨_,p⟩:=h.kv.inv.full.set hb.l1 hb.y1 hb.g1 (h.mem hi) aa k1;rw[<-ew] at p;have q:∀u,dL W.T u->_:=λu f=>f.mono (λj b=>(al j).2 b)
 have l:∀e,gP W.T e->gP (W.T.set i ((X W.T i t0).1,(X W.T i t0).2.1.set k v,(X W.T i t0).2.2)) e:=λe he=>⟨he.g0,(al _).2 he.g,by grind [gP.k],he.h0,(al _).2 he.h⟩
 have x:=ku (lK h.kv.inv.full (h.mem hi) (Int.natCast_nonneg k) k1) hb.y1 hb.g1;exact
 {
  kv:=o,rl:=h.rl,rv:=λu f=>q u (h.rv u f)
  fv:=λj b u f=>by grind [fv]
  rs:=h.rs
  i9:=λj b e=>(by grind [i9])
  old:=λj b e=>(by grind [old])
  inj:=λj s b c e=>h.inj j s (by grind) (by grind) e
  gV:=λu f=>by grind [gV]
  hd:=λj b=>by grind [mem,hd]
  fd:=λj b n hn=>by
   have c:=(al j).1 b;have hn:=hn;rw[gl] at hn;obtain⟨_,B,_⟩:=h.parts c;have n1:(n:Int)<pf (ld a.N S.s.y S.s.g S.s.ws (m j)):=aa;have g:=lK h.kv.inv.full (h.mem c) aa n1;have F:=ku g hb.y1 hb.g1;rw[gg g,ew,EU _ _ _ _ (by grind [cL.l1]),<-gg g,h.fd j c n hn,gt];by_cases e:i=j
   ·grind
   ·rw[aJ e,aJ (λd=>e ?_)];exact h.inj i j hi c (MM h.kv.inv.full hb.y1 (h.mem hi) (h.mem c) aa k1 aa n1 aa)
  rg:=h.rg,gv:=λe he=>l e (h.gv e he),wt:=h.wt,dH:=λe he=>l e (h.dH e he)
  tl:=λj=>by grind [tl]}
theorem CR {T:List cH}{t:cH}(ht:t.2.2.2=O4)(j:Nat):cz (T++[t]) j↔cz T j\/j=OQ T:=by
 unfold cz
 grind
theorem pV {b:Type}(l:List b)(t d:b)(j:Nat)(h:j<OQ l):X (l++[t]) j d=X l j d:=by grind
theorem MO {b:Type}(l:List b)(t d:b):X (l++[t]) (OQ l) d=t:=by grind
def oR (m:Nat->Int)(n:Nat)(y:Int)(i:Nat):Int:=if i=n then y else m i
theorem cE.new (h:cE a S W m Y G){kd:Int}{f:List _}(hk:hc kd (OQ f)=0)(x:∀v∈f,dL W.T v){b:eL}(er:b.rs=S.s.rs)(B:b.y<=a.N)(o:eA a b (Y++[(S.s.y:Int)]) G)
 (F:ld a.N b.y b.g b.ws S.s.y=hw kd (OQ f))(N:∀k:Nat,k<OQ f->ld a.N b.y b.g b.ws (S.s.y+1+k)=wv m (X f k (0,0)))
 (h0:∀v,(v∈Y\/v∈G)->ld a.N b.y b.g b.ws v=ld a.N S.s.y S.s.g S.s.ws v)(t:∀v,(v∈Y\/v∈G)->∀k:Nat,(k:Int)<pf (ld a.N S.s.y S.s.g S.s.ws v)->ld a.N b.y b.g b.ws (v+1+k)=ld a.N S.s.y S.s.g S.s.ws (v+1+k)):
 cE a ⟨b,S.r,S.q⟩ {W with T:=W.T++[(kd,f,O4,O4)]} (oR m (OQ W.T) S.s.y) (Y++[(S.s.y:Int)]) G:=by
 have al:∀j,cz (W.T++[(kd,f,O4,O4)]) j↔cz W.T j\/j=OQ W.T:=CR rfl;have l:∀i,cz W.T i->oR m (OQ W.T) S.s.y i=m i:=λi hi=>by unfold oR;rw[aJ (by have:=hi.1;omega)]
 have ab:oR m (OQ W.T) S.s.y (OQ W.T)=S.s.y:=by grind [oR]
 have q:∀u,dL W.T u->_:=λu g=>g.mono (λj c=>(al j).2 (aK c))
 have s:∀e,gP W.T e->gP (W.T++[(kd,f,O4,O4)]) e:=λe he=>⟨he.g0,(by grind [gP.g]),(pV _ _ _ _ he.g.1▸he.k),he.h0,(by grind [gP.h])⟩
 have ad:∀j,cz W.T j->m j≠S.s.y:=λj c e=>by
  rcases h.mem c with d|d
  ·have:=h.kv.inv.full.jr _ d;omega
  ·have w:(S.s.y:Int)∈Y++[(S.s.y:Int)]:=ac;have n1:=o.inv.full.jr _ w;have ag:=o.inv.full.io _ d;omega
 exact
 {
  kv:=o,rl:=h.rl,rv:=λu g=>q u (h.rv u g)
  fv:=λj c u g=>by
   rcases(al j).1 c with d|d
   ·have g:=g;rw[pV _ _ _ _ d.1] at g;exact q u (h.fv j d u g)
   ·simp_all
  rs:=by show b.rs=W.rs.map _;rw[er,h.rs];exact sQ (λv hv=>(xl l (h.rv v hv)).symm)
  i9:=λj c e=>by grind [i9]
  old:=λj c e=>by
   have e:=e;rcases(al j).1 c with d|d
   all_goals grind [old]
  inj:=λi j hi c e=>by
   rcases(al i).1 hi with d|d<;>rcases(al j).1 c with p|p
   ·rw[l i d,l j p] at e;exact h.inj i j d p e
   all_goals grind
  gV:=λv hv=>by grind [gV]
  hd:=λj c=>by
   show hc _ _=0/\ld a.N b.y b.g b.ws _=hw _ _;rcases(al j).1 c with d|d
   all_goals grind [pV,mem,hd]
  fd:=λj c k n=>by
   have n:=n;show ld a.N b.y b.g b.ws _=wv _ _;rcases(al j).1 c with d|d
   ·rw[pV _ _ _ _ d.1] at n⊢;rw[l j d,t _ (h.mem d) k (by grind [parts]),h.fd j d k n];exact(xl l (by grind [fv])).symm
   grind [xl,fL]
  rg:=by show S.r=W.rg.map _;rw[h.rg];exact sQ (λe he=>(CP l (h.gv e he)).symm)
  gv:=λe he=>s e (h.gv e he)
  wt:=by show S.q=W.wt.map _;rw[h.wt];exact sQ (λe he=>(CP l (h.dH e he)).symm)
  dH:=λe he=>s e (h.dH e he)
  tl:=λj=>by
   show OQ (X (W.T++[(kd,f,O4,O4)]) j t0).2.1<=12;rcases Nat.lt_trichotomy j (OQ W.T) with d|d|d
   ·grind [pV,tl]
   ·rw[d,MO];have:=jK _ _ hk
    grind
   ·rw[aM,qo (by simp;omega)];simp[t0]}
end
end Go.Proofs.YtjckpdepffejnaaGreatDoor
