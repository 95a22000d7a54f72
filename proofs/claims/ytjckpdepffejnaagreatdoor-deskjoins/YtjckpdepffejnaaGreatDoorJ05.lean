import Derived.Test.YtjckpdepffejnaaGreatDoorJ04
open Array renaming getElem?_modify->bE,size->I
open Bool renaming false->O4,true->O5
open Classical renaming byContradiction->fo
open False renaming elim->ve
open Go renaming Addr->bB,Calls->O2,TypeId->bI,Value->a7,info_parts->bM,maxLen->bL,plainElem->l5,wpList_append_own_at->bO,wpList_lookup_own_ok_int->zg,wpList_mapUpdate_own->ry
open Go.Ending renaming returned->OV
open Go.IntKind renaming i64->R
open Go.Obj renaming cells->OX
open Go.Proofs.Tryz renaming prog->J
open Go.RowKit renaming Below->O7,intOf->bG
open Go.Value renaming agg->bz,bool->bA,int->U,ownBlock->A,pointer->bq,slice->Z,tuple->ay
open Go.World renaming alloc->bu,cell?->V,frozen?->bF,heap->G,ownsRow->aC,setCell->O8
open Int renaming le_trans->Jk,min_le_left->Kg,toNat->K
open List renaming contains->bJ,getD->X,length->OQ,range->lg
open Nat renaming succ_pos->jw
open Option renaming map_some->bH,none->Y,some->OR
namespace Go.Proofs.YtjckpdepffejnaaGreatDoor
set_option maxRecDepth 100000
set_option maxHeartbeats 2000000
open Tryz
open Go.RowKit W Kp ch
theorem zi {P:Prop}(h:P:=by
 have E2:=cg ((o2 a).trans hbt.symm)
 have E3:aA (bt=true->_=_):=λe=>o3 a (by rw[hbt] at e;simpa using e)
 clear o2 o3 hbt pr HJ;go_wp2_with (at_lookup;refine wpList_lookup_own_ok_int _ rfl _ _ 158 rfl 3 3 .i64 js underlying158 underlying3 (nl _) c.ct k.T.length D rfl o1 _ _ rfl zj ?_;intro z hat hwc;rw[E2.o];have E4:=cg (λe=>by have:=hat.symm.trans (E3.o e);simpa using this);clear hat hwc)
 go_ret2;exact⟨z,rfl,E4.o,hb1⟩):P:=h
theorem zk {P:Prop}(h:P:=by
 have hk:0<x.2.2.2.length->∀b,x.2.1=some b->w'.heap[b.block]?=w.heap[b.block]?:=λhp b e=>by obtain⟨b0,o0,cs,e0,hb⟩:=hl.2 hp;have e':=e;rw[e0] at e';cases e';exact f.block _ (by grind) (λc=>(hX _ (by grind) c).2.1 ⟨x,hx,hp,o0,e0⟩)
 refine⟨hl.1.keep f.size hk,λhp=>?_⟩
 obtain⟨b0,o0,cs,e0,hb⟩:=hl.2 hp
 grind):P:=h
theorem r5 {P:Prop}(h:P:=by
 go_wp2_with fail;refine P.mono ?_;rintro e w1 ⟨v,rfl,hv,hb1⟩
 have hv:=hv trivial;subst hv;go_wp2;go_ret;exact⟨rfl,hb1⟩):P:=h
theorem zl {P:Prop}(h:P:=by
 go_wp2_with fail;refine P.mono ?_;rintro e w1 ⟨v,rfl,hv,hb1⟩
 have hv:=hv trivial;subst hv;go_wp2_with fail;refine(uA v w1).mono ?_;rintro e w2 ⟨rfl,hb2⟩
 go_wp2;go_ret;exact⟨rfl,hb1.trans (hb2.mono hb1.size)⟩):P:=h
theorem zm {P:Prop}(h:P:=by simp only [World.setCell,Array.getElem?_modify,if_true,((hb1 _ (cj h.cb) (by grind [cQ.k1])).trans h.cb),Option.map_some];simp):P:=h
theorem zn {P:Prop}(h:P:=by
 go_wp2_with fail;refine P.mono ?_;rintro e w1 ⟨rfl,hb1⟩
 go_wp2_with fail;go_ret2;exact⟨0,rfl,λh=>by simp at h,hb1⟩):P:=h
structure Kf (B:Nat)(w w':az):Prop where
 os:w'.os=w.os
 tape:w'.tape=w.tape
 output:w'.output=w.output
 size:I (G w)<=I (G w')
 low:∀k:Nat,k<I (G w)->k<B->w'.heap[k]?=w.heap[k]?
 iR:∀(k:Nat) cs e m,w.heap[k]?=OR (Obj.cells cs e m)->e≠160->e≠101->w'.heap[k]?=w.heap[k]?
section
variable {B:Nat}{w w' w'':az}
theorem Kf.refl (B:Nat)(w:az):Kf B w w:=⟨rfl,rfl,rfl,aG _,λ_ _ _=>rfl,λ_ _ _ _ _ _ _=>rfl⟩
theorem Kf.trans (h:Kf B w w')(k:Kf B w' w''):Kf B w w'':=
 ⟨k.os.trans h.os,k.tape.trans h.tape,k.output.trans h.output,aQ h.size k.size,λi hi hb=>(k.low i (aL hi h.size) hb).trans (h.low i hi hb),λi b e m hi c d=>(k.iR i b e m (by grind [iR]) c d).trans (by grind [iR])⟩
theorem Kf.of (h:O7 (I (G w)) w w'):Kf B w w':=⟨h.os,h.tape,h.output,h.size,λk hk _=>h.block k hk,λk _ _ _ hi _ _=>h.block k (by grind)⟩
theorem Kf.below (h:Kf B w w')(hB:B<=I (G w)):O7 B w w':=⟨h.os,h.tape,h.output,h.size,λk hk=>h.low k aa hk⟩
theorem Kf.set {pk o:Nat}{b:Array a7}{m:Nat×Nat}{e:bI}{v:a7}(hp:w.heap[pk]?=OR (OX b e m))(he:e=160\/e=101)(hB:B<=pk):Kf B w (O8 w ⟨pk,o,Y⟩ v):=
 ⟨rfl,rfl,rfl,by simp[World.setCell],λk _ hk=>(by grind [aW]),λk c d f hk g i=>(by grind [aW])⟩
theorem Kf.grown {row:Option Nat}(g:w.grownBy w' row)(hr:∀k,row=OR k->B<=k/\∀b e m,w.heap[k]?=OR (OX b e m)->e=160\/e=101):Kf B w w':=
 ⟨g.os,g.tape,g.output,g.size,λk hk hb=>(by grind [World.grownBy.block]),λk b e m hk c d=>(by grind [World.grownBy.block])⟩
theorem fP.kf {ad:Option bB}{l:List _}(h:fP w ad l)(k:Kf B w w'):fP w' ad l:=by
 have hk:0<OQ l->∀b,ad=OR b->w'.heap[b.block]?=w.heap[b.block]?:=λhp b e=>by
  obtain⟨c,d,f,g,hb⟩:=h.2 hp
  grind [Kf.iR]
 refine⟨h.1.keep k.size hk,λhp=>?_⟩
 obtain⟨c,d,f,g,hb⟩:=h.2 hp
 grind
end
structure oj (w:az)(pw p q N O y g:Nat)(ws:List Int)(sd:Nat)(v0:a7)(a1:Option bB)(k1:Nat)(Q:List b8):Prop where
 c0:V w (av pw 0)=OR (aq p)
 c2:V w (av pw 2)=OR (aq sd)
 ar:At w p q N O y g ws
 hs:w.heap[sd]?=OR (OX #[v0,Z a1 (OQ Q) k1] 197 (0,0))
 hp:dQ w a1 Q
 hm:OQ Q<=90000
theorem oj.low {w0 w:az}{pw p q N O y g:Nat}{ws:List Int}{sd:Nat}{v0:a7}{a1:Option bB}{k1:Nat}{Q:List b8}(h:oj w0 pw p q N O y g ws sd v0 a1 k1 Q)(hb:O7 (I (G w0)) w0 w):oj w pw p q N O y g ws sd v0 a1 k1 Q:=
 ⟨(
  hb.cell (aT w0 _ h.c0)).trans h.c0,(hb.cell (aT w0 _ h.c2)).trans h.c2,h.ar.below hb aa,(by grind [hs,Below.block]),
  h.hp.keep hb.size (λhp a e=>by
   obtain⟨b,c,d,f,_⟩:=h.hp hp
   grind [Below.block]),h.hm⟩
def nb (ms:List Int)(a:Int):Int:=if bJ ms a=O5 then(ms.idxOf a:Int) else-1
theorem FI {ms:List Int}{a:Int}(hn:a∉ms)(b:Int):nb (ms++[a]) b=if b=a then(OQ ms:Int) else nb ms b:=by
 unfold nb
 grind
theorem FJ {ms:List Int}{a:Int}(hn:a∉ms):nb ms a=-1:=by grind [nb]
theorem FK {ms:List Int}{a:Int}(h:a∈ms):nb ms a=(ms.idxOf a:Int):=by grind [nb]
theorem js:Maps.Keyed J 3:=Maps.int_keyed underlying3
theorem nl (w:az):(zeroValue 3).run J w=.ok (ak 0) w:=ah
def Nm (w:az)(ct:Nat)(T ms:List Int):Prop:=
 ∃D:DataW Unit,w.ownsMap J 3 (l5 J 3) ct (OQ T) D/\(∀a:Int,Maps.has D (.int R a)=bJ T a)/\∀a∈T,D.atKey (.int R a) (.lit (.int R 0))=.lit (.int R (nb ms a))
theorem Nm.same {w w':az}{ct:Nat}{T ms:List Int}(h:Nm w ct T ms)(e:w'.heap[ct]?=w.heap[ct]?):Nm w' ct T ms:=by obtain⟨D,b,c,d⟩:=h;exact⟨D,uO b e,c,d⟩
structure Wk (w0 w:az)(pk ct pw:Nat)(T:List Int)(s:cT)(vn:a7)(m:List ec):Prop where
 cY:w.heap[pk]?=OR (OX #[aq pw,.map (OR ct),vn] 160 (0,0))
 lo:I (G w0)<=pk/\I (G w0)<=ct
 mp:Nm w ct T s.1
 row:aC w (I (G w0)) 101 2 vn (OQ m) (nv m)
 nd:hW m=s.2
 fl:∀x∈m,fP w x.2.1 x.2.2.2
 e9:O7 (I (G w0)) w0 w
section
variable {w0 w w':az}{pk ct pw:Nat}{T:List Int}{s:cT}{vn:a7}{m:List ec}
theorem Wk.below (h:Wk w0 w pk ct pw T s vn m)(hb:O7 (I (G w)) w w'):Wk w0 w' pk ct pw T s vn m:=by obtain⟨D,o1,c,d⟩:=h.mp;exact⟨(by grind [cY,Below.block]),h.lo,h.mp.same (hb.block ct o1.lt),cK h.row (λk hk=>hb.block k (cu h.row k hk).2),h.nd,λx b=>(h.fl x b).kf (Kf.of (B:=0) hb),h.e9.trans (hb.mono h.e9.size)⟩
theorem Wk.cells (h:Wk w0 w pk ct pw T s vn m):V w (av pk 0)=OR (aq pw)/\V w (av pk 1)=OR (.map (OR ct))/\V w (av pk 2)=OR vn/\pk<I (G w):=
 ⟨by simp[World.cell?,h.cY],by simp[World.cell?,h.cY],by simp[World.cell?,h.cY],cj h.cY⟩
theorem Wk.len (h:Wk w0 w pk ct pw T s vn m):OQ m=OQ s.2:=by rw[<-h.nd];simp[hW]
end
theorem om (x:Int)(h:(Lit.int R x).wf=O5):l5 (H:=Unit) J 3 (.int R x)=OR (.lit (.int R x),[]):=plainElem_int underlying3 h
theorem j7 {a:Int}(h0:0<=a)(b:a<1152921504606846976):keyOf J 3 (.int R a)=OR (.int R a):=Maps.keyOf_int_mk underlying3 (WalkArith.wf_i64 ⟨aa,aa⟩)
theorem Nm.add {w w':az}{ct n:Nat}{T:List Int}{a:Int}{D:DataW Unit}(c:w.ownsMap J 3 (l5 J 3) ct (OQ T) D)(f:∀a:Int,Maps.has D (.int R a)=bJ T a)(g:∀a∈T,D.atKey (.int R a) (.lit (.int R 0))=.lit (.int R (nb [] a)))
 (hn:n=OQ T+1)(d:w'.ownsMap J 3 (l5 J 3) ct n (D.put (.int R a) (.lit (.int R (-1))))):Nm w' ct (T++[a]) []:=by
 refine⟨_,by rw[hn] at d;simpa using d,λb=>?_,λb hb=>?_⟩
 ·by_cases e:b=a
  ·subst e;rw[Maps.has_put_same (k:=.int R b) c.isMap trivial];simp
  ·rw[Maps.has_put_other (by simpa using e),f];simp[e]
 ·by_cases e:b=a
  ·subst e;rw[Maps.atKey_put_same (k:=.int R b) c.isMap trivial];rfl
  ·rw[Maps.atKey_put_other (by simpa using e)];refine g b ?_;rcases List.mem_append.1 hb with hb|hb
   ·exact hb
   ·simp at hb;exact absurd hb e
theorem Nm.put {w w':az}{ct n:Nat}{T ms:List Int}{a:Int}{D:DataW Unit}(c:w.ownsMap J 3 (l5 J 3) ct (OQ T) D)(d:∀a:Int,Maps.has D (.int R a)=bJ T a)(f:∀a∈T,D.atKey (.int R a) (.lit (.int R 0))=.lit (.int R (nb ms a)))
 (ha:a∈T)(hm:a∉ms)(g:w'.ownsMap J 3 (l5 J 3) ct n (D.put (.int R a) (.lit (.int R (OQ ms))))):Nm w' ct T (ms++[a]):=by
 have hs:Maps.size (D.put (.int R a) (.lit (.int R (OQ ms))))<=OQ T:=by rw[Maps.size_put (c.tidy js),d,aN (by simpa using ha)];exact c.size_le
 refine⟨_,(uP g rfl).mono hs,λb=>?_,λb hb=>?_⟩
 ·by_cases e:b=a
  ·subst e;rw[Maps.has_put_same (k:=.int R b) c.isMap trivial];simp[ha]
  ·rw[Maps.has_put_other (by simpa using e),d]
 ·rw[FI hm];by_cases e:b=a
  ·subst e;rw[Maps.atKey_put_same (k:=.int R b) c.isMap trivial,aN rfl]
  ·rw[Maps.atKey_put_other (by simpa using e),aJ e];exact f b hb
section
variable {w:az}{pw p q N O y g:Nat}{ws:List Int}
theorem pt (a:Int)(h:a∈eQ N y g ws):0<=a/\a<y:=oa _ _ _ h
theorem r6 (a:Int)(h:a∈dM N y g ws):(N:Int)<=a/\a<(N:Int)+g:=oa _ _ _ h
theorem bf {α:Type _}(«as» bs cs:List α):«as» ++ bs ++ cs = «as» ++ (bs ++ cs):=List.append_assoc ..
theorem FL (c0:V w (av pw 0)=OR (aq p))(h:At w p q N O y g ws):
 O2 J 89 #[aq pw] w λe w'=>∃bb ct,e=OV (aq bb)/\Wk w w' bb ct pw (eQ N y g ws++dM N y g ws) ([],[]) (Z Y 0 0) []:=by
 have b8:=@run_makeMap J;have bd:OQ (eQ N y g ws)<=2000:=jp _ _;have hO:OQ (dM N y g ws)<=2000:=jp _ _;have hv:=om (-1) ae;have k1:=h.hN';have k2:=h.hy;have k3:=h.hO;have k4:=h.hg;have ag:aA (∀a∈eQ N y g ws,0<=a/\a<2000):=λa ha=>by have:=pt a ha;omega
 have ai:aA (∀a∈dM N y g ws,0<=a/\a<2000):=λa ha=>by have:=r6 a ha;omega
 have be:Nm (bu w (.map #[] 0)) (I (G w)) [] []:=⟨_,(World.ownsMap_made w J 3 (l5 (H:=Unit) J 3)),λ_=>rfl,λa ha=>by simp at ha⟩
 have n:=(aw w (.map #[] 0)).alloc ac (OX #[bq (OR ⟨pw,0,Y⟩),.map (OR (I (G w))),Z Y 0 0] 160)
 have al:=aO (bu w (.map #[] 0)) (OX #[bq (OR ⟨pw,0,Y⟩),.map (OR (I (G w))),Z Y 0 0] 160)
 have bg:=be.same (w':=bu (bu w (.map #[] 0)) (OX #[bq (OR ⟨pw,0,Y⟩),.map (OR (I (G w))),Z Y 0 0] 160)) (aU _ _ _ ac)
 have br:=(n.cell (p:=av pw 0) (aT w _ c0)).trans c0;have P:=rU _ (h.below n bY)
 clear be h;generalize eQ N y g ws=gM at P bd hO ag ai⊢;generalize dM N y g ws=d at P bd hO ag ai⊢;go_enter func89,ntmps89;go_wp2_with fail;refine P.mono ?_;clear P;rintro e ab ⟨v1,v2,rfl,u,v,ad⟩
 obtain⟨bi,bs,rfl⟩:=e7 u;obtain⟨bl,bt,rfl⟩:=e7 v;have bx:=n.trans (ad.mono n.size)
 rw[bh] at al;have am:=(ad.block (I (G w)+1) ac).trans al;have bn:=bg.same (ad.block (I (G w)) (by simp;omega))
 have an:=ir u;have ao:=ir v;have bo:∀k,OR k=A (Value.slice bi (OQ (gM)) bs)->k≠I (G w):=λk e=>by have:=(cu u k e).1;simp at this;omega
 have bp:∀k,OR k=A (Value.slice bl (OQ (d)) bt)->k≠I (G w):=λk e=>by have:=(cu v k e).1;simp at this;omega
 have b0:aA (∀s,Fr (λk=>k=I (G w)) ab s->jn s bi (gM)):=λs f=>an.keep f.size (λhp a e=>f.block _ (by obtain⟨b,o,l,hb,_⟩:=an hp;rw[e] at l;cases l;exact hb) (λc=>by obtain⟨b,cap,l⟩:=fi u hp;cases l;cases e;exact bo _ rfl c))
 have b1:aA (∀s,Fr (λk=>k=I (G w)) ab s->jn s bl (d)):=λs f=>ao.keep f.size (λhp a e=>f.block _ (by obtain⟨b,o,l,hb,_⟩:=ao hp;rw[e] at l;cases l;exact hb) (λc=>by obtain⟨b,cap,l⟩:=fi v hp;cases l;cases e;exact bp _ rfl c))
 have ap:=cj am;have ar:=cg am;clear bo bp an ao u v bg al br n ad am;go_wp2_with fail
 go_loopw [24] (λiv wr=>∃(j:Nat),j<=OQ gM/\iv=ak j/\Nm wr (I (G w)) (gM.take j) []/\Fr (λk=>k=I (G w)) ab wr) (λiv _=>OQ gM-K (bG iv))
 exact⟨0,a4 _,rfl,bn,Fr.refl _ _⟩
 ·
   obtain⟨j,b2,rfl,hN,i⟩:=hrel;clear bn;have aB:V wr (av (I (G w)+1) 1)=OR (.map (OR (I (G w)))):=by have:=(i.block (I (G w)+1) ap aa).trans ar.o;simp[World.cell?,this]
   by_cases m:j<OQ gM
   ·obtain⟨b3,b4,aF,n,hc⟩:=b0.o wr i aa;have aR:=hc j m;subst aF;clear hc;have B:X gM j 0∈gM:=by rw[aM,aP m];exact a_ m
    have aV:=ag.o _ B;have F:=cg (h_ gM j m 0)
    clear B;generalize X gM j 0=z at aR aV F;have b5:=j7 (a:=z) aa aa;obtain⟨D,o1,S,W⟩:=hN;have hlen:OQ (gM.take j)<100000:=by simp;omega
    have t:=ge o1 S W;clear S W;generalize gM.take j=a0 at*;go_wp2_with (first
     |(at_mapUpdate;refine ry _ rfl _ _ _ 158 rfl 3 3 js underlying158 (l5 (H:=Unit) J 3) (I (G w)) (OQ a0) D rfl o1 (by unfold bL;omega) _ _ _ rfl rfl b5 _ [] hv ?_;intro b6 a1 a2)
     |go_in)
    go_roundw;exact⟨j+1,aa,aj,by rw[F.o];exact Nm.add t.o.1 t.o.2.1 t.o.2.2 rfl a1,i.grown a2 (λk e=>aK (by cases e;rfl))⟩
    simp[bG];omega
   ·obtain rfl:j=OQ gM:=aa;rw[ba] at hN;clear aB;go_wp2_with fail
    go_loopw [36] (λiv wr=>∃(j:Nat),j<=OQ d/\iv=ak j/\Nm wr (I (G w)) (gM++d.take j) []/\Fr (λk=>k=I (G w)) ab wr) (λiv _=>OQ d-K (bG iv))
    exact⟨0,a4 _,rfl,by simpa using hN,i⟩
    ·
      clear hN i;obtain⟨j,b2,rfl,hN,i⟩:=hrel;rename_i b9 _ _ _ wr _ _;have aB:V wr (av (I (G w)+1) 1)=OR (.map (OR (I (G w)))):=by have:=(i.block (I (G w)+1) ap aa).trans ar.o;simp[World.cell?,this]
      by_cases m:j<OQ d
      ·obtain⟨b3,b4,aF,n,hc⟩:=b1.o wr i aa;have aR:=hc j m;subst aF;clear hc;have B:X d j 0∈d:=by rw[aM,aP m];exact a_ m
       have aV:=ai.o _ B;have F:aA (gM++d.take (j+1)=(gM++d.take j)++[X d j 0]):=by show _=_;rw[h_ d j m 0,bf]
       clear B;generalize X d j 0=z at aR aV F;obtain⟨D,o1,S,W⟩:=hN;have hlen:OQ (gM++d.take j)<100000:=by simp;omega
       have t:=ge o1 S W;clear S W;generalize gM++d.take j=a0 at*;go_wp2_with (first
        |(at_mapUpdate;refine ry _ rfl _ _ _ 158 rfl 3 3 js underlying158 (l5 (H:=Unit) J 3) (I (G w)) (OQ a0) D rfl o1 (by unfold bL;omega) _ _ _ rfl rfl (j7 (a:=z) aa aa) _ [] hv ?_;intro b6 a1 a2)
        |go_in)
       go_roundw;exact⟨j+1,aa,aj,by rw[F.o];exact Nm.add t.o.1 t.o.2.1 t.o.2.2 rfl a1,i.grown a2 (λk e=>aK (by cases e;rfl))⟩
       simp[bG];omega
      ·obtain rfl:j=OQ d:=aa;rw[ba] at hN;clear aB;go_wp2_with fail;go_ret;exact⟨I (G w)+1,I (G w),rfl,(i.block (I (G w)+1) ap aa).trans ar.o,⟨aa,aG _⟩,hN,a9 _ _ _ _,rfl,λx b7=>by simp at b7,bx.trans (i.below aa (λk e=>by have e:=e;omega))⟩
end
structure b9 (F:Nat->Prop)(w:az)(F':Nat->Prop)(w':az):Prop where
 fr:Fr F w w'
 sub:∀b,F' b->F b\/I (G w)<=b
theorem b9.refl (F:Nat->Prop)(w:az):b9 F w F w:=⟨Fr.refl _ _,λ_ h=>aK h⟩
theorem b9.trans {F d e:Nat->Prop}{w w' f:az}(h:b9 F w d w')(k:b9 d w' e f):b9 F w e f:=
 ⟨h.fr.trans k.fr h.sub,λb hb=>(k.sub b hb).elim (h.sub b) (λc=>aI (aQ h.fr.size c))⟩
theorem b9.of {F:Nat->Prop}{w w':az}(h:O7 (I (G w)) w w'):b9 F w F w':=⟨Fr.of h,λ_ h=>aK h⟩
theorem b9.below {F b:Nat->Prop}{w w' c:az}(h:b9 F w b w')(hb:O7 (I (G w')) w' c):b9 F w b c:=h.trans (b9.of hb)
theorem uZ {w:az}{base g n cap:Nat}{e:bI}{b:List a7}(h:aC w base e 1 (Z (au g) n cap) n b)(m:Nat)(hm:m<=n):aC w base e 1 (Z (au g) m cap) m (b.take m):=by
 obtain⟨k,c⟩:=h;rcases c with⟨hv,_⟩|⟨l,o,d,hv,hb,f,p,i,j,q⟩
 ·grind
 ·obtain⟨rfl,rfl⟩:=hv;refine⟨by grind,aI ⟨g,cap,d,rfl,hb,f,aa,i,j,?_⟩⟩
  grind
theorem u_ {w:az}{base g n cap:Nat}{e:bI}{b:List a7}(h:aC w base e 1 (Z (au g) n cap) n b):n<=cap/\cap<=maxLen:=by
 rcases h.2 with⟨hv,_⟩|⟨c,d,f,hv,hb,i,j,k,l,m⟩
 all_goals grind
def Mp (w:az)(ct:Nat)(T:List Int)(f:Int->Int):Prop:=
 ∃D:DataW Unit,w.ownsMap J 3 (l5 J 3) ct (OQ T) D/\(∀a:Int,Maps.has D (.int R a)=bJ T a)/\∀a∈T,D.atKey (.int R a) (.lit (.int R 0))=.lit (.int R (f a))
theorem Mp.same {w w':az}{ct:Nat}{T:List Int}{f:Int->Int}(h:Mp w ct T f)(e:w'.heap[ct]?=w.heap[ct]?):Mp w' ct T f:=by obtain⟨D,b,c,d⟩:=h;exact⟨D,uO b e,c,d⟩
theorem Mp.lt {w:az}{ct:Nat}{T:List Int}{f:Int->Int}(h:Mp w ct T f):ct<I (G w):=by obtain⟨D,b,_⟩:=h;exact b.lt
theorem Mp.put {w w':az}{ct n:Nat}{T:List Int}{f:Int->Int}{a v:Int}{D:DataW Unit}(c:w.ownsMap J 3 (l5 J 3) ct (OQ T) D)(d:∀a:Int,Maps.has D (.int R a)=bJ T a)(i:∀a∈T,D.atKey (.int R a) (.lit (.int R 0))=.lit (.int R (f a)))
 (ha:a∈T)(g:w'.ownsMap J 3 (l5 J 3) ct n (D.put (.int R a) (.lit (.int R v)))):Mp w' ct T (ic f a v):=by
 have hs:Maps.size (D.put (.int R a) (.lit (.int R v)))<=OQ T:=by rw[Maps.size_put (c.tidy js),d,aN (by grind)];exact c.size_le
 refine⟨_,(uP g rfl).mono hs,λb=>?_,λb hb=>?_⟩
 ·by_cases e:b=a
  ·subst e;rw[Maps.has_put_same (k:=.int R b) c.isMap trivial]
   grind
  grind [Maps.has_put_other]
 ·unfold ic;by_cases e:b=a
  ·subst e;rw[Maps.atKey_put_same (k:=.int R b) c.isMap trivial,aN rfl]
  grind [Maps.atKey_put_other]
theorem Mp.add {w w':az}{ct n:Nat}{T:List Int}{a v:Int}{f:Int->Int}{D:DataW Unit}(c:w.ownsMap J 3 (l5 J 3) ct (OQ T) D)(g:∀a:Int,Maps.has D (.int R a)=bJ T a)(i:∀a∈T,D.atKey (.int R a) (.lit (.int R 0))=.lit (.int R (f a)))
 (hv:f a=v)(hn:n=OQ T+1)(d:w'.ownsMap J 3 (l5 J 3) ct n (D.put (.int R a) (.lit (.int R v)))):Mp w' ct (T++[a]) f:=by
 refine⟨_,by rw[hn] at d;simpa using d,λb=>?_,λb hb=>?_⟩
 ·by_cases e:b=a
  ·subst e;rw[Maps.has_put_same (k:=.int R b) c.isMap trivial];simp
  grind [Maps.has_put_other]
 ·by_cases e:b=a
  ·subst e;rw[Maps.atKey_put_same (k:=.int R b) c.isMap trivial,hv]
  grind [Maps.atKey_put_other]
structure hY where
 pk:Nat
 ct:Nat
 pw:Nat
 p:Nat
 q:Nat
 pc:Nat
 cW:Nat
 sd:Nat
 nb:Nat
 c:Int
 M:List Int
structure cQ (c:hY)(k:cf)(own:Nat->Nat)(s:cn)(cJ cw:a7)(w:az):Prop where
 ar:At w c.p c.q k.N k.O k.y s.g s.ws
 a1:own c.p=1
 a2:own c.q=1
 cd:Cd w c.pc c.cW k.N c.c c.M
 c1:own c.pc=2
 c2:own c.cW=2
 wd:w.heap[c.pw]?=OR (OX #[aq c.p,aq c.pc,aq c.sd,Z (au c.nb) 12 12] 125 (0,0))
 w1:own c.pw=3
 rt:w.heap[c.nb]?=OR (OX (s.rs.map (Value.int R)).toArray 2 (0,0))
 rl:OQ s.rs=12
 r1:own c.nb=4
 cb:w.heap[c.pk]?=OR (OX #[aq c.pw,.map (OR c.ct),ak s.nx,cJ,cw] 254 (0,0))
 k1:own c.pk=5
 mp:Mp w c.ct k.T s.f
 m1:own c.ct=6
 wr:aC w 0 3 1 cJ (OQ s.wk) (s.wk.map (Value.int R))
 dH:∀b,OR b=A cJ->own b=7
 er:aC w 0 3 1 cw (OQ s.ep) (s.ep.map (Value.int R))
 eo:∀b,OR b=A cw->own b=8
 lt:∀b,own b≠0->b<I (G w)
section
variable {c:hY}{k:cf}{own:Nat->Nat}{s:cn}{cJ cw:a7}{w w':az}
theorem cQ.but (h:cQ c k own s cJ cw w)(L:Nat->Prop)(hs:I (G w)<=I (G w'))(hk:∀b,b<I (G w)->own b≠0->¬L (own b)->w'.heap[b]?=w.heap[b]?)
 (f:L 1->At w' c.p c.q k.N k.O k.y s.g s.ws)(g:L 4->w'.heap[c.nb]?=OR (OX (s.rs.map (Value.int R)).toArray 2 (0,0)))(i:L 5->w'.heap[c.pk]?=OR (OX #[aq c.pw,.map (OR c.ct),ak s.nx,cJ,cw] 254 (0,0)))
 (hM:L 6->Mp w' c.ct k.T s.f)(j:L 7->aC w' 0 3 1 cJ (OQ s.wk) (s.wk.map (Value.int R)))(m:L 8->aC w' 0 3 1 cw (OQ s.ep) (s.ep.map (Value.int R)))(d:¬L 2)(n:¬L 3):cQ c k own s cJ cw w' where
 ar:=by
  by_cases l:L 1
  ·grind
  ·exact h.ar.same (hk _ h.ar.fw (by grind [a1]) ((h.a1▸l))) (hk _ h.ar.fz (by grind [a2]) ((h.a2▸l)))
 a1:=h.a1
 a2:=h.a2
 cd:=h.cd.same (hk _ h.cd.fw (by grind [c1]) ((h.c1▸d))) (hk _ h.cd.fz (by grind [c2]) ((h.c2▸d)))
 c1:=h.c1
 c2:=h.c2
 wd:=(by grind [wd,w1])
 w1:=h.w1
 rt:=by grind [rt,r1]
 rl:=h.rl
 r1:=h.r1
 cb:=by grind [cb,k1]
 k1:=h.k1
 mp:=by
  by_cases l:L 6
  ·grind
  ·exact h.mp.same (hk _ h.mp.lt (by grind [m1]) ((h.m1▸l)))
 m1:=h.m1
 wr:=by
  by_cases l:L 7
  ·grind
  ·exact cK h.wr (λb e=>hk b (cu h.wr b e).2 (by grind [dH]) ((h.dH b e▸l)))
 dH:=h.dH
 er:=by
  by_cases l:L 8
  ·grind
  ·exact cK h.er (λb e=>hk b (cu h.er b e).2 (by grind [eo]) ((h.eo b e▸l)))
 eo:=h.eo
 lt:=λb hb=>aL (h.lt b hb) hs
end
def da (c:hY)(k:cf)(cJ e:a7):dr cn where
 J F s w:=∃own,cQ c k own s cJ e w/\∀b,F b↔own b≠0
 lt:=by rintro F s w ⟨own,h,d⟩ b hb;exact h.lt b ((d b).1 hb)
 keep:=by rintro F s w w' ⟨own,h,d⟩ hs hk;exact⟨own,h.but (λ_=>False) hs (λb _ hb _=>hk b ((d b).2 hb)) ve ve ve ve ve ve id id,d⟩
def eJ (c:hY)(k:cf):dr cn where
 J F s w:=∃cJ b,(da c k cJ b).J F s w
 lt:=by
  rintro F s w ⟨cJ,b,h⟩
  exact(da c k cJ b).lt h
 keep:=by rintro F s w w' ⟨cJ,b,h⟩ hs hk;exact⟨cJ,b,(da c k cJ b).keep h hs hk⟩
section
variable {c:hY}{k:cf}{cJ cw:a7}{F:Nat->Prop}{s:cn}{w w':az}
theorem ju (h:(da c k cJ cw).J F s w):At w c.p c.q k.N k.O k.y s.g s.ws/\∀w' g ws,At w' c.p c.q k.N k.O k.y g ws->dl c.p c.q w w'->(da c k cJ cw).J F {s with g:=g,ws:=ws} w'/\b9 F w F w':=by
 obtain⟨own,h,f⟩:=h;refine⟨h.ar,λw' g ws ha d=>⟨⟨own,?_,f⟩,⟨⟨d.os,d.tape,d.output,d.size,λb hb hn=>(by grind [dl.block,cQ.a1,cQ.a2])⟩,λ_ h=>aK h⟩⟩⟩
 have hb:∀b,b<I (G w)->own b≠0->¬own b=1->_=_:=λb hb _ hn=>d.block b hb (λe=>hn ((e▸h.a1))) (λe=>hn ((e▸h.a2)))
 exact {
  ar:=ha,a1:=h.a1,a2:=h.a2,c1:=h.c1,c2:=h.c2,w1:=h.w1,rl:=h.rl,r1:=h.r1,k1:=h.k1,m1:=h.m1,dH:=h.dH,eo:=h.eo,lt:=λb hb=>aL (h.lt b hb) d.size
  cd:=h.cd.same (hb _ h.cd.fw (by grind [cQ.c1]) (by grind [cQ.c1])) (hb _ h.cd.fz (by grind [cQ.c2]) (by grind [cQ.c2]))
  wd:=(by grind [cQ.wd,cQ.w1])
  rt:=(by grind [cQ.rt,cQ.r1])
  cb:=(by grind [cQ.cb,cQ.k1])
  mp:=h.mp.same (hb _ h.mp.lt (by grind [cQ.m1]) (by grind [cQ.m1]))
  wr:=cK h.wr (λb e=>hb b (cu h.wr b e).2 (by grind [cQ.dH]) (by grind [cQ.dH]))
  er:=cK h.er (λb e=>hb b (cu h.er b e).2 (by grind [cQ.eo]) (by grind [cQ.eo]))}
theorem zo (h:(da c k cJ cw).J F s w):Mp w c.ct k.T s.f/\∀w' f,Mp w' c.ct k.T f->Fr (λb=>b=c.ct) w w'->(da c k cJ cw).J F {s with f:=f} w'/\b9 F w F w':=by
 obtain⟨own,h,d⟩:=h;refine⟨h.mp,λw' f hm fr=>⟨⟨own,?_,d⟩,⟨(by grind [Fr.mono,cQ.m1]),λ_ h=>aK h⟩⟩⟩
 have hb:∀b,b<I (G w)->own b≠6->_=_:=λb hb hn=>fr.block b hb (λe=>hn ((e▸h.m1)))
 exact {
  mp:=hm,a1:=h.a1,a2:=h.a2,c1:=h.c1,c2:=h.c2,w1:=h.w1,rl:=h.rl,r1:=h.r1,k1:=h.k1,m1:=h.m1,dH:=h.dH,eo:=h.eo,lt:=λb hb=>aL (h.lt b hb) fr.size
  ar:=h.ar.same (hb _ h.ar.fw (by grind [cQ.a1])) (hb _ h.ar.fz (by grind [cQ.a2]))
  cd:=h.cd.same (hb _ h.cd.fw (by grind [cQ.c1])) (hb _ h.cd.fz (by grind [cQ.c2]))
  wd:=(by grind [cQ.wd,cQ.w1])
  rt:=(by grind [cQ.rt,cQ.r1])
  cb:=(by grind [cQ.cb,cQ.k1])
  wr:=cK h.wr (λb e=>hb b (cu h.wr b e).2 (by grind [cQ.dH]))
  er:=cK h.er (λb e=>hb b (cu h.er b e).2 (by grind [cQ.eo]))}
theorem FM (h:(da c k cJ cw).J F s w)(i:Nat)(x:Int):(da c k cJ cw).J F {s with rs:=s.rs.set i x} (O8 w ⟨c.nb,i,Y⟩ (U R x))/\b9 F w F (O8 w ⟨c.nb,i,Y⟩ (U R x)):=by
 obtain⟨own,h,d⟩:=h;have fr:Fr (λb=>b=c.nb) w (O8 w ⟨c.nb,i,Y⟩ (U R x)):=(by grind [Fr.set,Fr.refl])
 refine⟨⟨own,?_,d⟩,⟨(by grind [Fr.mono,cQ.r1]),λ_ h=>aK h⟩⟩
 have hb:∀b,b<I (G w)->own b≠4->_=_:=λb hb hn=>fr.block b hb (λe=>hn ((e▸h.r1)))
 exact {
  mp:=h.mp.same (hb _ h.mp.lt (by grind [cQ.m1])),a1:=h.a1,a2:=h.a2,c1:=h.c1,c2:=h.c2,w1:=h.w1,r1:=h.r1,k1:=h.k1,m1:=h.m1,dH:=h.dH,eo:=h.eo,lt:=λb hb=>aL (h.lt b hb) fr.size
  rl:=by grind [cQ.rl]
  ar:=h.ar.same (hb _ h.ar.fw (by grind [cQ.a1])) (hb _ h.ar.fz (by grind [cQ.a2]))
  cd:=h.cd.same (hb _ h.cd.fw (by grind [cQ.c1])) (hb _ h.cd.fz (by grind [cQ.c2]))
  wd:=(by grind [cQ.wd,cQ.w1])
  rt:=by simp only [World.setCell,bE,if_true,h.rt,bH];simp[List.map_set]
  cb:=(by grind [cQ.cb,cQ.k1])
  wr:=cK h.wr (λb e=>hb b (cu h.wr b e).2 (by grind [cQ.dH]))
  er:=cK h.er (λb e=>hb b (cu h.er b e).2 (by grind [cQ.eo]))}
theorem eK (h:(da c k cJ cw).J F s w):V w (av c.pk 0)=OR (aq c.pw)/\V w (av c.pk 1)=OR (.map (OR c.ct))/\V w (av c.pk 2)=OR (ak s.nx)/\V w (av c.pk 3)=OR cJ/\V w (av c.pk 4)=OR cw/\
 V w (av c.pw 0)=OR (aq c.p)/\V w (av c.pw 1)=OR (aq c.pc)/\V w (av c.pw 2)=OR (aq c.sd)/\V w (av c.pw 3)=OR (Z (au c.nb) 12 12)/\(∀o,bF w (av c.pk o)=O4)/\
 aC w 0 3 1 cJ (OQ s.wk) (s.wk.map (Value.int R))/\aC w 0 3 1 cw (OQ s.ep) (s.ep.map (Value.int R))/\Cd w c.pc c.cW k.N c.c c.M/\c.pk<I (G w)/\c.pw<I (G w):=by
 obtain⟨own,h,e⟩:=h;have b:=h.cb;have d:=h.wd;exact⟨by simp[World.cell?,b],by simp[World.cell?,b],by simp[World.cell?,b],by simp[World.cell?,b],by simp[World.cell?,b],by simp[World.cell?,d],by simp[World.cell?,d],by simp[World.cell?,d],by simp[World.cell?,d],λo=>by simp[World.frozen?,b],h.wr,h.er,h.cd,cj b,cj d⟩
theorem zp (h:(da c k cJ cw).J F s w):OQ s.rs=12/\c.nb<I (G w)/\∀i,i<12->V w (av c.nb i)=OR (ak (X s.rs i 0))/\bF w (av c.nb i)=O4:=by
 obtain⟨own,h,b⟩:=h;have hl:=h.rl;refine⟨hl,cj h.rt,λi hi=>⟨?_,?_⟩⟩
 ·simp[World.cell?,h.rt,List.getElem?_map,List.getElem?_eq_getElem (show i<OQ s.rs by omega),List.getD_eq_getElem?_getD]
 ·simp[World.frozen?,h.rt]
theorem FN (h:(da c k cJ cw).J F s w):c.pk≠c.ct/\c.pw≠c.ct:=by
 obtain⟨own,h,b⟩:=h
 grind [cQ.k1,cQ.m1,cQ.w1]
theorem vd (h:(da c k cJ cw).J F s w){v:a7}(hv:V w (av c.pk 3)=OR v\/V w (av c.pk 4)=OR v):OR c.pk≠A v/\OR c.pw≠A v:=by
 obtain⟨own,h,f⟩:=h;have d:=h.cb;have hl:∀b,OR b=A v->own b=7\/own b=8:=λb e=>by
  rcases hv with hv|hv
  ·simp[World.cell?,d] at hv
   grind [cQ.dH]
  ·simp[World.cell?,d] at hv
   grind [cQ.eo]
 grind [cQ.k1,cQ.w1]
theorem FO (h:(da c k cJ cw).J F s w)(n:Int):(da c k cJ cw).J F {s with nx:=n} (O8 w ⟨c.pk,2,Y⟩ (U R n))/\b9 F w F (O8 w ⟨c.pk,2,Y⟩ (U R n)):=by
 obtain⟨own,h,d⟩:=h;have fr:Fr (λb=>b=c.pk) w (O8 w ⟨c.pk,2,Y⟩ (U R n)):=(by grind [Fr.set,Fr.refl])
 refine⟨⟨own,?_,d⟩,⟨(by grind [Fr.mono,cQ.k1]),λ_ h=>aK h⟩⟩
 have hb:∀b,b<I (G w)->own b≠5->_=_:=λb hb hn=>fr.block b hb (λe=>hn ((e▸h.k1)))
 exact {
  mp:=h.mp.same (hb _ h.mp.lt (by grind [cQ.m1])),a1:=h.a1,a2:=h.a2,c1:=h.c1,c2:=h.c2,w1:=h.w1,r1:=h.r1,k1:=h.k1,m1:=h.m1,dH:=h.dH,eo:=h.eo,lt:=λb hb=>aL (h.lt b hb) fr.size
  rl:=h.rl
  ar:=h.ar.same (hb _ h.ar.fw (by grind [cQ.a1])) (hb _ h.ar.fz (by grind [cQ.a2]))
  cd:=h.cd.same (hb _ h.cd.fw (by grind [cQ.c1])) (hb _ h.cd.fz (by grind [cQ.c2]))
  wd:=(by grind [cQ.wd,cQ.w1])
  rt:=(by grind [cQ.rt,cQ.r1])
  cb:=by simp only [World.setCell,bE,if_true,h.cb,bH];simp
  wr:=cK h.wr (λb e=>hb b (cu h.wr b e).2 (by grind [cQ.dH]))
  er:=cK h.er (λb e=>hb b (cu h.er b e).2 (by grind [cQ.eo]))}
theorem FP {v0:a7}(h:(da c k v0 cw).J F s w){v1:a7}{l:List Int}{w1:az}(f:Fr (λb=>OR b=A v0) w w1)(ho:aC w1 0 3 1 v1 (OQ l) (l.map (Value.int R)))(hn:∀b,OR b=A v1->OR b=A v0\/¬F b):
 (da c k v1 cw).J (λb=>F b\/OR b=A v1) {s with wk:=l} (O8 w1 ⟨c.pk,3,Y⟩ v1)/\Fr F w (O8 w1 ⟨c.pk,3,Y⟩ v1):=by
 obtain⟨own,h,g⟩:=h;have sz:I (G (O8 w1 ⟨c.pk,3,Y⟩ v1))=I (G w1):=by simp_all
 have hb1:∀b,b<I (G w)->own b≠7->_=_:=λb hb hn=>f.block b hb (λe=>hn (h.dH b e))
 have hb:∀b,b<I (G w)->own b≠7->own b≠5->(O8 w1 ⟨c.pk,3,Y⟩ v1).heap[b]?=w.heap[b]?:=λb hb i n=>(by grind [cQ.k1,aW])
 have m:∀b,OR b=A v1->_:=λb e=>(hn b e).elim (λe=>aK (h.dH b e)) (λhl=>aI (fo (λc=>hl ((g b).2 c))))
 have d:∀b j,own b=j->j≠7->j≠0->(if OR b=A v1 then 7 else own b)=j:=λb j e i h0=>(aJ (λc=>by rcases m b c with c|c<;>omega)▸e)
 have o:=λb e=>(cu ho b e).2;refine⟨⟨λb=>if OR b=A v1 then 7 else own b,?_,λb=>?_⟩,?_⟩
 ·exact {
   ar:=h.ar.same (hb _ h.ar.fw (by grind [cQ.a1]) (by grind [cQ.a1])) (hb _ h.ar.fz (by grind [cQ.a2]) (by grind [cQ.a2]))
   a1:=d _ _ h.a1 ae ae,a2:=d _ _ h.a2 ae ae,c1:=d _ _ h.c1 ae ae,c2:=d _ _ h.c2 ae ae,w1:=d _ _ h.w1 ae ae,r1:=d _ _ h.r1 ae ae,k1:=d _ _ h.k1 ae ae,m1:=d _ _ h.m1 ae ae
   rl:=h.rl
   cd:=h.cd.same (hb _ h.cd.fw (by grind [cQ.c1]) (by grind [cQ.c1])) (hb _ h.cd.fz (by grind [cQ.c2]) (by grind [cQ.c2]))
   wd:=(by grind [cQ.wd,cQ.w1])
   rt:=(hb _ (cj h.rt) (by rw[h.r1];decide) (by rw[h.r1];decide)).trans h.rt
   cb:=by exact zm
   mp:=h.mp.same (hb _ h.mp.lt (by grind [cQ.m1]) (by grind [cQ.m1]))
   wr:=(by grind [cK,cQ.k1,aW])
   dH:=λb e=>by grind
   er:=cK h.er (λb e=>hb b (cu h.er b e).2 (by grind [cQ.eo]) (by grind [cQ.eo]))
   eo:=λb e=>(by grind [cQ.eo])
   lt:=λb hb=>by grind [cQ.lt,Fr.size,aL]}
 ·grind
 grind [Fr.mono,cQ.dH,Fr.set,cQ.k1]
theorem FQ {v0:a7}(h:(da c k v0 cw).J F s w){v1:a7}{l:List Int}{w1:az}(g:Fr (λb=>OR b=A v0) w w1)(ho:aC w1 0 3 1 v1 (OQ l) (l.map (Value.int R)))(hn:∀b,OR b=A v1->OR b=A v0\/I (G w)<=b):
 ∃f,(da c k v1 cw).J f {s with wk:=l} (O8 w1 ⟨c.pk,3,Y⟩ v1)/\b9 F w f (O8 w1 ⟨c.pk,3,Y⟩ v1):=by
 obtain⟨i,j⟩:=FP h g ho (λb e=>(hn b e).imp id (λd hb=>by have:=(da c k v0 cw).lt h b hb;omega))
 obtain⟨own,hm,m⟩:=h;exact⟨_,i,j,λb hb=>(by grind [cQ.dH])⟩
theorem zq {v0:a7}(h:(da c k cJ v0).J F s w){v1:a7}{l:List Int}{w1:az}(f:Fr (λb=>OR b=A v0) w w1)(ho:aC w1 0 3 1 v1 (OQ l) (l.map (Value.int R)))(hn:∀b,OR b=A v1->OR b=A v0\/¬F b):
 (da c k cJ v1).J (λb=>F b\/OR b=A v1) {s with ep:=l} (O8 w1 ⟨c.pk,4,Y⟩ v1)/\Fr F w (O8 w1 ⟨c.pk,4,Y⟩ v1):=by
 obtain⟨own,h,g⟩:=h;have sz:I (G (O8 w1 ⟨c.pk,4,Y⟩ v1))=I (G w1):=by simp_all
 have hb1:∀b,b<I (G w)->own b≠8->_=_:=λb hb hn=>f.block b hb (λe=>hn (h.eo b e))
 have hb:∀b,b<I (G w)->own b≠8->own b≠5->(O8 w1 ⟨c.pk,4,Y⟩ v1).heap[b]?=w.heap[b]?:=λb hb i n=>(by grind [cQ.k1,aW])
 have m:∀b,OR b=A v1->_:=λb e=>(hn b e).elim (λe=>aK (h.eo b e)) (λhl=>aI (fo (λc=>hl ((g b).2 c))))
 have d:∀b j,own b=j->j≠8->j≠0->(if OR b=A v1 then 8 else own b)=j:=λb j e i h0=>(aJ (λc=>by rcases m b c with c|c<;>omega)▸e)
 have o:=λb e=>(cu ho b e).2;refine⟨⟨λb=>if OR b=A v1 then 8 else own b,?_,λb=>?_⟩,?_⟩
 ·exact {
   ar:=h.ar.same (hb _ h.ar.fw (by grind [cQ.a1]) (by grind [cQ.a1])) (hb _ h.ar.fz (by grind [cQ.a2]) (by grind [cQ.a2]))
   a1:=d _ _ h.a1 ae ae,a2:=d _ _ h.a2 ae ae,c1:=d _ _ h.c1 ae ae,c2:=d _ _ h.c2 ae ae,w1:=d _ _ h.w1 ae ae,r1:=d _ _ h.r1 ae ae,k1:=d _ _ h.k1 ae ae,m1:=d _ _ h.m1 ae ae
   rl:=h.rl
   cd:=h.cd.same (hb _ h.cd.fw (by grind [cQ.c1]) (by grind [cQ.c1])) (hb _ h.cd.fz (by grind [cQ.c2]) (by grind [cQ.c2]))
   wd:=(by grind [cQ.wd,cQ.w1])
   rt:=(hb _ (cj h.rt) (by rw[h.r1];decide) (by rw[h.r1];decide)).trans h.rt
   cb:=by exact zm
   mp:=h.mp.same (hb _ h.mp.lt (by grind [cQ.m1]) (by grind [cQ.m1]))
   er:=(by grind [cK,cQ.k1,aW])
   eo:=λb e=>by grind
   wr:=cK h.wr (λb e=>hb b (cu h.wr b e).2 (by grind [cQ.dH]) (by grind [cQ.dH]))
   dH:=λb e=>(by grind [cQ.dH])
   lt:=λb hb=>by grind [cQ.lt,Fr.size,aL]}
 ·grind
 grind [Fr.mono,cQ.eo,Fr.set,cQ.k1]
theorem FR {v0:a7}(h:(da c k cJ v0).J F s w){v1:a7}{l:List Int}{w1:az}(g:Fr (λb=>OR b=A v0) w w1)(ho:aC w1 0 3 1 v1 (OQ l) (l.map (Value.int R)))(hn:∀b,OR b=A v1->OR b=A v0\/I (G w)<=b):
 ∃f,(da c k cJ v1).J f {s with ep:=l} (O8 w1 ⟨c.pk,4,Y⟩ v1)/\b9 F w f (O8 w1 ⟨c.pk,4,Y⟩ v1):=by
 obtain⟨i,j⟩:=zq h g ho (λb e=>(hn b e).imp id (λd hb=>by have:=(da c k cJ v0).lt h b hb;omega))
 obtain⟨own,hm,m⟩:=h;exact⟨_,i,j,λb hb=>(by grind [cQ.eo])⟩
end
def fJ (N y g:Nat)(ws:List Int)(Q:List b8)(a:Int):List Int:=
 if pk (ld N y g ws a)=5 then eS Q (ew 3 a) else(lg (K (jq N y g a (pf (ld N y g ws a))))).map (λi:Nat=>ld N y g ws (a+1+(i:Int)))
theorem FS (N y g:Nat)(ws:List Int)(Q:List b8)(a:Int):OQ (fJ N y g ws Q a)<=OQ Q+12:=by
 unfold fJ;split
 ·have:=qz Q (ew 3 a)
  omega
 ·have b:jq N y g a (pf (ld N y g ws a))<=12:=by unfold jq;exact Jk (Kg _ _) (du _).2
  simp;omega
section
variable {w:az}{pw p q N O y g:Nat}{ws:List Int}{sd:Nat}{v0:a7}{a1:Option bB}{k1:Nat}{Q:List b8}
theorem FT (h:oj w pw p q N O y g ws sd v0 a1 k1 Q)(c:Nat)(hk:V w (av c 0)=OR (aq pw))(a:Int)(l0:0<=a)(l1:a<=100000):
 O2 J 293 #[aq c,ak a,ak (pk (ld N y g ws a)),ak (pf (ld N y g ws a))] w λe w'=>∃ad cap,e=OV (Z ad (OQ (fJ N y g ws Q a)) cap)/\aC w' (I (G w)) 2 1 (Z ad (OQ (fJ N y g ws Q a)) cap) (OQ (fJ N y g ws Q a)) ((fJ N y g ws Q a).map (Value.int R))/\O7 (I (G w)) w w':=by
 obtain⟨aF,hi,aR,aV,a0⟩:=bM yc;have H:=cg h;have c0:=h.c0;have c2:=h.c2;have W:=aT w _ c0;have hZ:=aT w _ hk;clear h;by_cases d:pk (ld N y g ws a)=5
 ·have l:fJ N y g ws Q a=eS Q (ew 3 a):=by unfold fJ;rw[aN d]
  rw[l,d];clear l d;generalize pf (ld N y g ws a)=f;have hd:=(ax w).drew;go_enter func293,ntmps293;go_wp2_with fail
  go_region_held3 (λw'=>V w' (av c 0)=OR (aq pw)/\V w' (av pw 2)=OR (aq sd)) (first|exact⟨hk,c2⟩|exact⟨u0,al⟩|exact⟨a2,bb⟩|go_keep)
   (first
     |(have b2:=b;go_at_call 321;refine(uY _ sd v0 a1 k1 Q (ew 3 a) (H.o.low b).hs (H.o.low b).hp (H.o.low b).hm).mono ?_;rintro e b3 ⟨ad,cap,rfl,am,t⟩;have b5:=t.size;have a2:=(t.cell (p:=av c 0) (aL hZ v)).trans u0;have bb:=(t.cell (p:=av pw 2) (aL W v)).trans al)
     |(go_at_call 280;refine(uA a _).mono ?_;rintro e b6 ⟨rfl,bd⟩;have b:=hd.trans bd;have v:=b.size;have u0:=(b.cell (p:=av c 0) hZ).trans hk;have al:=(b.cell (p:=av pw 2) W).trans c2))
  go_wp2_with fail;go_ret;exact⟨ad,cap,rfl,fA am (λk e=>aQ v (cu am k e).1),b.trans (t.mono v)⟩
 ·have l:fJ N y g ws Q a=(lg (K (jq N y g a (pf (ld N y g ws a))))).map (λi:Nat=>ld N y g ws (a+1+(i:Int))):=by unfold fJ;rw[aJ d]
  rw[l];have be:jq N y g a (pf (ld N y g ws a))<=12:=by unfold jq;exact Jk (Kg _ _) (du _).2
  have B:=yU a (pf (ld N y g ws a)) w c0 H.o.ar l0 l1;clear l;generalize jq N y g a (pf (ld N y g ws a))=st at B be⊢;generalize pf (ld N y g ws a)=f at B⊢;generalize pk (ld N y g ws a)=kd at d⊢;have bg:aA (∀w1 x,O7 (I (G w)) w w1->_):=λw1 x hb=>kN x w1 (H.o.low hb).ar;clear H;simp only [List.length_map,List.length_range];go_enter func293,ntmps293;go_wp2_with fail;refine B.mono ?_;clear B;rintro e w1 ⟨rfl,an⟩
  go_wp2_with fail
  go_loopw [9,30] (λtv iv wr=>∃(j:Nat)(m:Option bB)(n:Nat),j<=K st/\iv=ak j/\tv=Z m j n/\aC wr (I (G w)) 2 1 (Z m j n) j (((lg j).map (λi:Nat=>ld N y g ws (a+1+(i:Int)))).map (Value.int R))/\O7 (I (G w)) w wr) (λ_ iv _=>K st-K (bG iv))
  exact⟨0,Y,0,a4 _,rfl,rfl,a9 _ _ _ _,an⟩
  ·
    obtain⟨j,m,n,o,rfl,rfl,s,hb⟩:=hrel;clear an;by_cases b7:j<K st
    ·have bi:=(hb.cell (p:=av c 0) hZ).trans hk;have bl:=(hb.cell (p:=av pw 0) W).trans c0;have bn:(j:Int)<st:=aa;have bo:=hb.size;go_wp2_with fail;refine(bg.o wr (a+1+(j:Int)) hb).mono ?_;rintro e bp ⟨rfl,ab⟩
     have F:=cK s (λk e=>ab.block k (cu s k e).2)
     have ag:=hb.trans (ab.mono bo)
     have br:=ag.size;have ao:(((lg (j+1)).map (λi:Nat=>ld N y g ws (a+1+(i:Int)))).map (Value.int R))=(((lg j).map (λi:Nat=>ld N y g ws (a+1+(i:Int)))).map (Value.int R))++[ak (ld N y g ws (a+1+(j:Int)))]:=by simp[List.range_succ]
     have S:=cg ao;clear ao s hb ab bi bl;generalize ld N y g ws (a+1+(j:Int))=z at S⊢;generalize ((lg j).map (λi:Nat=>ld N y g ws (a+1+(i:Int)))).map (Value.int R)=L at F S;go_wp2_with (at_builtin;refine bO _ rfl _ _ 66 rfl (I (G w)) 2 aF (ak 0) 1 8 underlying66 hi aR aV a0 rfl ae (Z m j n) j L rfl (gq F _) ⟨I (G bp),0,Y⟩ 1 1 [ak z] rfl rfl ?_ ?_ ?_ ?_ ?_ ?_;(intro j u o;match j,o with|0,o=>(simp at o;subst o;simp[Addr.add]));(intro u ap;simp at ap;subst ap;rfl);(unfold bL;omega);omega;(simp;omega);intro b8 bs ai ar _ bt;obtain⟨b4,aB,bx⟩:=fi ai (jw _);subst bx)
     have b0:aC bs (I (G w)) 2 1 (Z (au b4) (j+1) aB) (j+1) (((lg (j+1)).map (λi:Nat=>ld N y g ws (a+1+(i:Int)))).map (Value.int R)):=by rw[S.o];exact ai
     have b1:=(ag.alloc br _).grown ar (by simp;omega) (λk e=>(cu F k e.symm).1)
     clear ai ar bt F ag S;go_wp2_with fail;go_roundw;exact⟨j+1,au b4,aB,aa,aj,rfl,b0,b1⟩
     simp[bG];omega
    ·obtain rfl:j=K st:=aa;have bn:¬((K st:Nat):Int)<st:=aa;go_wp2_with fail;go_ret;exact⟨m,n,rfl,by rw[List.map_map] at s;exact s,hb⟩
end
def fV (w0 w:az)(m:List ec)(w':az)(b:List ec):Prop:=Kf (I (G w0)) w w'/\∀k,gf b k->gf m k\/I (G w)<=k
theorem fV.refl (w0 w:az)(m:List ec):fV w0 w m w m:=⟨Kf.refl _ _,λ_ h=>aK h⟩
theorem fV.trans {w0 w w' b:az}{m d e:List ec}(h:fV w0 w m w' d)(k:fV w0 w' d b e):fV w0 w m b e:=
 ⟨h.1.trans k.1,λi hi=>(k.2 i hi).elim (h.2 i) (λc=>aI (aQ h.1.size c))⟩
theorem fV.of {w0 w w':az}{m:List ec}(h:O7 (I (G w)) w w'):fV w0 w m w' m:=⟨Kf.of h,λ_ h=>aK h⟩
theorem fV.new {w0 w w' b:az}{m c:List ec}{X:Nat->Prop}(h:fV w0 w m w' c)(f:Fr X w' b)(j:∀k,X k->I (G w)<=k):fV w0 w m b c:=
 ⟨⟨f.os.trans h.1.os,f.tape.trans h.1.tape,f.output.trans h.1.output,aQ h.1.size f.size,λk hk hb=>(f.block k (aL hk h.1.size) (by grind)).trans (h.1.low k hk hb),
  λk d e mm hk g i=>(f.block k (aL (by grind) h.1.size) (by grind)).trans (h.1.iR k d e mm hk g i)⟩,h.2⟩
section
variable {w0 w w':az}{kb ct pw:Nat}{T:List Int}{s:cT}{vn:a7}{m:List ec}
theorem Wk.fb (h:Wk w0 w kb ct pw T s vn m)(k:Nat)(hk:gf m k):k<I (G w):=by
 obtain⟨x,c,hl,o,e⟩:=hk;obtain⟨b,d,f,g,hb⟩:=(h.fl x c).2 hl
 grind
theorem Wk.but {X:Nat->Prop}(h:Wk w0 w kb ct pw T s vn m)(f:Fr X w w')(hX:∀k,k<I (G w)->X k->(∃cs,w.heap[k]?=OR (OX cs 139 (0,0)))/\¬gf m k/\I (G w0)<=k):Wk w0 w' kb ct pw T s vn m:=by
 obtain⟨D,o1,g,i⟩:=h.mp;have n1:¬X kb:=λc=>by
  obtain⟨⟨cs,hc⟩,_⟩:=hX kb (cj h.cY) c;rw[h.cY] at hc
  grind
 have d:¬X ct:=λc=>by
  obtain⟨⟨cs,hc⟩,_⟩:=hX ct o1.lt c;obtain⟨es,j,hb,_⟩:=o1
  grind
 refine⟨(by grind [Fr.block,cY]),h.lo,h.mp.same (f.block ct o1.lt d),cK h.row (λk hk=>f.block k (cu h.row k hk).2 (λc=>?_)),h.nd,λx hx=>?_,h.e9.trans ⟨f.os,f.tape,f.output,f.size,λk hk=>f.block k (aL hk h.e9.size) (λc=>by have:=(hX k (aL hk h.e9.size) c).2.2;omega)⟩⟩
 ·obtain⟨⟨cs,hc⟩,_⟩:=hX k (cu h.row k hk).2 c;obtain⟨l,n⟩:=fI h.row k hk
  grind
 ·have hl:=h.fl x hx;exact zk
end
def pu (w0:az)(b ct pw:Nat)(T:List Int)(M:cT->Int->cT)(n:Nat):Prop:=
 ∀(w:az)(s:cT)(d:a7)(m:List ec)(a:Int),Wk w0 w b ct pw T s d m->fE T s->a∈T->a∉s.1->OQ T<=OQ s.1+n->
  O2 J 227 #[aq b,ak a] w λe w'=>∃f c,e=OV (ak (OQ s.1))/\Wk w0 w' b ct pw T (M s a) f c/\fV w0 w m w' c
theorem zr:(prog.info? 139).map (λi=>(i.zero,i.size,i.bytes))=OR (OR (bz #[ak 0,ak 0]),2,16):=ah
section
variable {w0 w:az}{kb ct pw n:Nat}{T:List Int}{M:cT->Int->cT}{s:cT}{vn:a7}{m:List ec}
theorem FU (h:Wk w0 w kb ct pw T s vn m)(a:Int)(a0:0<=a)(a1:a<1152921504606846976)(d:bJ T a=O4):
 O2 J 162 #[aq kb,ak a] w λe w'=>∃x,e=OV (ay #[ak x,bA O4])/\w'=w:=by
 obtain⟨c0,c1,c2,lk⟩:=h.cells;obtain⟨D,o1,f,g⟩:=h.mp;have b:=f a;rw[d] at b;have b:=cg b;go_enter func162,ntmps162;go_wp2_with (at_lookup;refine zg _ rfl _ _ 158 rfl 3 3 R js underlying158 underlying3 (nl _) ct (OQ T) D rfl o1 _ _ rfl (j7 a0 a1) ?_;intro c i j;rw[b.o])
 go_ret2;exact⟨c,rfl,rfl⟩
def nm (s:cT)(a:Int):Int:=if bJ s.1 a=O5 then(s.1.idxOf a:Int) else OQ s.1
def nn (M:cT->Int->cT)(s:cT)(a:Int):cT:=if bJ s.1 a=O5 then s else M s a
theorem FV (hM:pu w0 kb ct pw T M n)(h:Wk w0 w kb ct pw T s vn m)(ho:fE T s)(hn:OQ T<=OQ s.1+n)(a:Int)(a0:0<=a)(a1:a<1152921504606846976)(k:a∈T):
 O2 J 162 #[aq kb,ak a] w λe w'=>∃f b,e=OV (ay #[ak (nm s a),.bool O5])/\Wk w0 w' kb ct pw T (nn M s a) f b/\fV w0 w m w' b:=by
 have H:=cg h;have t:=cg hM;obtain⟨c0,c1,c2,lk⟩:=h.cells;obtain⟨D,o1,F,u⟩:=h.mp;have l:=j7 a0 a1;have o:aA (Maps.has D (.int R a)=O5):=(by grind)
 have d:=u a k;by_cases g:a∈s.1
 ·rw[FK g] at d;have p:aA (_=_):=d;have i:nm s a=(s.1.idxOf a:Int):=by grind [nm]
  have j:nn M s a=s:=by grind [nn]
  rw[i,j];generalize s.1.idxOf a=L at p⊢;go_enter func162,ntmps162;go_wp2_with (at_lookup;refine zg _ rfl _ _ 158 rfl 3 3 R js underlying158 underlying3 (nl _) ct (OQ T) D rfl o1 _ _ rfl l ?_;intro c v x;rw[o.o];(have hc:c=(L:Int):=by grind [Hid.out]);subst hc)
  go_ret2;exact⟨vn,m,rfl,H.o,fV.refl _ _ _⟩
 ·rw[FJ g] at d;have p:aA (_=_):=d;have i:nm s a=OQ s.1:=by grind [nm]
  have j:nn M s a=M s a:=by grind [nn]
  rw[i,j];have P:=t.o w s vn m a H.o ho k g hn;generalize M s a=N at P⊢;generalize OQ s.1=L at P⊢;go_enter func162,ntmps162;go_wp2_with (at_lookup;refine zg _ rfl _ _ 158 rfl 3 3 R js underlying158 underlying3 (nl _) ct (OQ T) D rfl o1 _ _ rfl l ?_;intro c v x;rw[o.o];(have hc:c=-1:=by grind);subst hc)
  refine P.mono ?_;rintro e w1 ⟨f,b,rfl,B,k1⟩
  have q:=cU B k1;go_wp2_with fail;go_ret2;exact⟨f,b,rfl,q.o.1,q.o.2⟩
theorem zs (x:Int)(h:dk x=3):0<=dp x/\dp x<1152921504606846976:=by grind [xW,ux,dk,rc]
theorem FX (hM:pu w0 kb ct pw T M n)(h:Wk w0 w kb ct pw T s vn m)(ho:fE T s)(hn:OQ T<=OQ s.1+n)(x:Int):
 O2 J 117 #[aq kb,ak x] w λe w'=>∃ao ag,e=OV (bz #[ak (el M T s x).1.1,ak (el M T s x).1.2])/\Wk w0 w' kb ct pw T (el M T s x).2 ao ag/\fV w0 w m w' ag:=by
 have H:aA (Wk w0 w kb ct pw T s vn m):=h;have N:=(ax w).alloc aa (OX #[U R 0,U R 0] 139)
 have S:=aO w (OX #[U R 0,U R 0] 139)
 have P:=x0 x (bu w (OX #[U R 0,U R 0] 139))
 by_cases an:dk x=3
 ·have t:=zs x an;rw[an] at P;cases hT:bJ T (dp x)
  ·have ev:el M T s x=((0,0),s):=by grind [el]
   rw[ev];generalize dp x=a at P t hT;generalize dc x=cc at P;have B:aA (∀w1,O7 (I (G w)) w w1->O2 J 162 #[aq kb,ak a] w1 λe w'=>∃x,e=OV (ay #[ak x,bA O4])/\w'=w1):=λw1 hb=>FU (H.o.below hb) a t.1 t.2 hT;go_enter func117,ntmps117;go_wp2_with fail;refine P.mono ?_;rintro e w1 ⟨rfl,g⟩
   have i:=(g.block (I (G w)) ac).trans S;have o:=N.trans (g.mono ac)
   have W:=g.size;simp at W;have q:=(ax w1).alloc aa (OX #[U R 3,U R a] 139)
   have l:=o.trans (q.mono aa)
   have j:=(q.block (I (G w)) aa).trans i;clear S i N g;go_wp2_with fail;refine(B.o _ l).mono ?_;rintro e d ⟨z,rfl,ap⟩
   rw[<-ap] at j l q;have ar:I (G w)<I (G d):=by grind
   clear ap;have aB:V d (av (I (G w)) 0)=OR (ak 0):=aD j
   have y1:V d (av (I (G w)) 1)=OR (ak 0):=aD j
   have aF:bF d (av (I (G w)) 0)=O4:=aE j
   have aR:bF d (av (I (G w)) 1)=O4:=aE j
   have aV:aA (fV w0 w m d m):=fV.of l;have a0:aA (∀ab,Fr (λk=>k=I (G w)) d ab->_):=λab f=>(H.o.below l).but f (λk _ e=>by have e:=e;rw[e];exact⟨⟨_,j⟩,λc=>by have:=H.o.fb _ c;omega,H.o.e9.size⟩)
   clear B j q o l H;go_wp2_with fail;obtain⟨b,F⟩:∃b,b=O8 (O8 d ⟨I (G w),0,Y⟩ (U R 0)) ⟨I (G w),1,Y⟩ (U R 0):=(by grind)
   rw[<-F];have g0:V b (av (I (G w)) 0)=OR (ak 0):=by grind [aY,a6]
   have g1:V b (av (I (G w)) 1)=OR (ak 0):=by grind [a6,aY]
   have ai:Fr (λk=>k=I (G w)) d b:=by grind [Fr.set,Fr.refl]
   exact a3 (v:=bz #[ak 0,ak 0]) (by simp[results,results117,go_sem,g0,g1]) rfl (by grind [fV.new,Hid.out])
  ·have a1:dp x∈T:=by grind
   have ev:el M T s x=((3,nm s (dp x)),nn M s (dp x)):=by grind [el,nm,nn]
   rw[ev];generalize dp x=a at P t a1⊢;generalize dc x=cc at P;have B:aA (∀w1,O7 (I (G w)) w w1->_):=λw1 hb=>FV hM (H.o.below hb) ho hn a t.1 t.2 a1;generalize nm s a=z at B⊢;generalize nn M s a=be at B⊢;go_enter func117,ntmps117;go_wp2_with fail;refine P.mono ?_;rintro e w1 ⟨rfl,g⟩
   have i:=(g.block (I (G w)) ac).trans S;have o:=N.trans (g.mono ac)
   have W:=g.size;simp at W;have q:=(ax w1).alloc aa (OX #[U R 3,U R a] 139)
   have l:=o.trans (q.mono aa)
   have j:=(q.block (I (G w)) aa).trans i;go_wp2_with fail;refine(B.o _ l).mono ?_;rintro e d ⟨ao,ag,rfl,a2,al⟩
   have ad:=(al.1.iR _ _ _ _ j ae ae).trans j;have ar:=al.1.size;simp at ar;have aB:V d (av (I (G w)) 0)=OR (ak 0):=aD ad
   have y1:V d (av (I (G w)) 1)=OR (ak 0):=aD ad
   have aF:bF d (av (I (G w)) 0)=O4:=aE ad
   have aR:bF d (av (I (G w)) 1)=O4:=aE ad
   have bb:¬gf ag (I (G w)):=λc=>(al.2 _ c).elim (λc=>by have:=H.o.fb _ c;omega) (by grind)
   have aV:=cg ((fV.of l).trans al)
   have a0:aA (∀ab,Fr (λk=>k=I (G w)) d ab->_):=λab f=>a2.but f (λk _ e=>by have e:=e;rw[e];exact⟨⟨_,ad⟩,bb,H.o.e9.size⟩)
   go_wp2_with fail;obtain⟨b,F⟩:∃b,b=O8 (O8 d ⟨I (G w),0,Y⟩ (U R 3)) ⟨I (G w),1,Y⟩ (U R z):=(by grind)
   rw[<-F];have g0:V b (av (I (G w)) 0)=OR (ak 3):=by grind [aY,a6]
   have g1:V b (av (I (G w)) 1)=OR (ak z):=by grind [a6,aY]
   have ai:Fr (λk=>k=I (G w)) d b:=by grind [Fr.set,Fr.refl]
   exact a3 (v:=bz #[ak 3,ak z]) (by simp[results,results117,go_sem,g0,g1]) rfl (by grind [fV.new,Hid.out])
 ·have ev:el M T s x=((dk x,dp x),s):=by grind [el]
  rw[ev];have bd:(dk x !=3)=O5:=by grind
  clear ev an hM ho hn;generalize dk x=u at P bd⊢;generalize dp x=v at P⊢;generalize dc x=cc at P;go_enter func117,ntmps117;go_wp2_with fail;refine P.mono ?_;clear P;rintro e w1 ⟨rfl,g⟩
  have i:=(g.block (I (G w)) ac).trans S;have o:=N.trans (g.mono ac)
  have W:=g.size;simp at W;have aB:V w1 (av (I (G w)) 0)=OR (ak 0):=aD i
  have y1:V w1 (av (I (G w)) 1)=OR (ak 0):=aD i
  have aF:bF w1 (av (I (G w)) 0)=O4:=aE i
  have aR:bF w1 (av (I (G w)) 1)=O4:=aE i
  have l1:I (G w)<I (G w1):=aa;have n1:¬I (G w)=I (G w1):=aa;have bg:¬I (G w1)=I (G w):=aa;have i:=cg i;clear S N g;go_wp2_with fail;obtain⟨b,F⟩:∃b,b=O8 (O8 w1 ⟨I (G w),0,Y⟩ (U R u)) ⟨I (G w),1,Y⟩ (U R v):=(by grind)
  rw[<-F];have g0:V b (av (I (G w)) 0)=OR (ak u):=by grind [aY,a6]
  have g1:V b (av (I (G w)) 1)=OR (ak v):=by grind [a6,aY]
  have ai:Fr (λk=>k=I (G w)) w1 b:=by grind [Fr.set,Fr.refl]
  have bi:I (G b)=I (G w1):=by rw[F];simp[World.setCell]
  have am:=(ax b).alloc aa (OX #[U R u,U R v] 139)
  have a0:=((H.o.below o).but ai (λk _ e=>by have e:=e;rw[e];exact⟨⟨_,(by assumption)⟩,λc=>by have:=H.o.fb _ c;omega,H.o.e9.size⟩)).below am;have aV:=((fV.of (w0:=w0) (m:=m) o).new ai aa).trans (fV.of am)
  have r0:=(am.cell (p:=av (I (G w)) 0) (by grind)).trans g0;have r1:=(am.cell (p:=av (I (G w)) 1) (by grind)).trans g1;generalize bu b (OX #[U R u,U R v] 139)=bl at*;exact a3 (v:=bz #[ak u,ak v]) (by simp[results,results117,go_sem,r0,r1]) rfl (by grind)
end
theorem vf {x:Int}(h:di x=O5):0<=cq x/\cq x<1152921504606846976:=by rw[oZ x h];unfold di at h;simp at h;exact zs x h.2
section
variable {c:hY}{k:cf}{cJ cw:a7}{F:Nat->Prop}{s:cn}{w:az}
theorem zt (h:(da c k cJ cw).J F s w)(x:Int):
 O2 prog 301 #[aq c.pk,ak x] w λe w'=>∃v,e=OV (ay #[ak v,bA (k.cP x)])/\(k.cP x=O5->v=s.f (cq x))/\O7 (I (G w)) w w':=by
 have HJ:=cg h;have P:=o8 x w;cases ha:di x
 ·rw[ha] at P;have b:k.cP x=O4:=by unfold cf.cP;rw[ha];rfl
  rw[b];go_enter func301,ntmps301;exact zn
 ·have b:k.cP x=bJ k.T (cq x):=by unfold cf.cP;rw[ha];rfl
  have d:=vf ha;rw[b];rw[ha] at P;generalize cq x=a at P d⊢;have zj:=j7 d.1 d.2;obtain⟨bt,hbt⟩:∃bt,bt=bJ k.T a:=⟨_,rfl⟩
  rw[<-hbt];go_enter func301,ntmps301;go_wp2_with fail;refine P.mono ?_;clear P;rintro e w1 ⟨rfl,hb1⟩
  have pr:=(da c k cJ cw).below HJ.o hb1;obtain⟨c0,c1,_⟩:=eK pr;obtain⟨⟨D,o1,o2,o3⟩,_⟩:=zo pr;exact zi
theorem pv (h:(da c k cJ cw).J F s w)(x:Int):
 O2 prog 254 #[aq c.pk,ak x] w λe w'=>e=OV (bA (k.ls s x))/\O7 (I (G w)) w w':=by
 have P:=zt h x;cases hy:k.cP x
 ·have b:k.ls s x=O4:=by unfold cf.ls;rw[hy];rfl
  rw[b];rw[hy] at P;go_enter func254,ntmps254;go_wp2_with fail;refine P.mono ?_;rintro e w1 ⟨v,rfl,_,hb1⟩
  go_wp2;go_ret;exact⟨rfl,hb1⟩
 ·have b:k.ls s x=(s.f (cq x)==-1):=by unfold cf.ls;rw[hy];rfl
  rw[b];rw[hy] at P;go_enter func254,ntmps254;exact r5
theorem r7 (h:(da c k cJ cw).J F s w)(x:Int):
 O2 prog 255 #[aq c.pk,ak x] w λe w'=>e=OV (ak (k.nw s x))/\O7 (I (G w)) w w':=by
 have P:=zt h x;cases hy:k.cP x
 ·have b:k.nw s x=x:=by unfold cf.nw;rw[hy];simp
  rw[b];rw[hy] at P;go_enter func255,ntmps255;go_wp2_with fail;refine P.mono ?_;rintro e w1 ⟨v,rfl,_,hb1⟩
  go_wp2_with fail;go_ret;exact⟨rfl,hb1⟩
 ·rw[hy] at P;by_cases d:s.f (cq x)=-1
  ·have b:k.nw s x=x:=by unfold cf.nw;rw[hy,d];simp
   rw[b];rw[d] at P;go_enter func255,ntmps255;exact r5
  ·have b:k.nw s x=ew 3 (s.f (cq x)):=by unfold cf.nw;rw[hy,aN (by simp[d])]
   rw[b];generalize s.f (cq x)=a at P d⊢;go_enter func255,ntmps255;exact zl
theorem r8 (h:(da c k cJ cw).J F s w)(i:CI k s)(x:Int):
 O2 prog 239 #[aq c.pk,ak x] w λe w'=>e=OV (ak (k.br s x).1)/\(da c k cJ cw).J F (k.br s x).2 w'/\b9 F w F w':=by
 have p:aA ((da c k cJ cw).J F s w):=h;have P:=pv h x;clear h;cases hl:k.ls s x
 ·have m:k.br s x=(k.nw s x,s):=by unfold cf.br;rw[hl];rfl
  rw[m];rw[hl] at P;go_enter func239,ntmps239;go_wp2_with fail;refine P.mono ?_;clear P;rintro e w1 ⟨rfl,d⟩
  have S:=(da c k cJ cw).below p.o d;have W:=r7 S x;clear S;go_wp2_with fail;refine W.mono ?_;rintro e n ⟨rfl,j⟩
  have hb:=d.trans (j.mono d.size)
  clear W d j;go_wp2_with fail;go_ret;exact⟨rfl,(da c k cJ cw).below p.o hb,b9.of hb⟩
 ·have m:k.br s x=(k.nw (k.cp s (cq x)) x,k.cp s (cq x)):=by unfold cf.br;rw[aN hl]
  rw[m];obtain⟨l1,l2,be⟩:=cf.oi hl;have ab:=vf l1;have q:=o8 x;rw[hl] at P;rw[l1] at q;have ad:=j7 ab.1 ab.2;have E:aA (k.cp s (cq x)={s with g:=kP k.N k.O k.y s.g s.ws (cq x),ws:=kQ k.N k.O k.y s.g s.ws (cq x),f:=ic s.f (cq x) (n9 k.N k.O k.y s.g s.ws (cq x))}):=rfl;have n1:=i.hN';have bs:=i.hO;have bt:=i.hg;have bx:=i.tl;have ag:(Lit.int R (n9 k.N k.O k.y s.g s.ws (cq x))).wf=O5:=by
   unfold n9;split
   ·exact WalkArith.wf_i64 ⟨aa,aa⟩
   ·decide
  have hv:=om _ ag;generalize k.cp s (cq x)=s2 at E⊢;clear i m hl l1 be ag;generalize cq x=a at*;go_enter func239,ntmps239;go_wp2_with fail;refine P.mono ?_;clear P;rintro e w1 ⟨rfl,d⟩
  go_wp2_with fail;refine(q w1).mono ?_;rintro e n ⟨rfl,j⟩
  have hb:=d.trans (j.mono d.size)
  have u:=(da c k cJ cw).below p.o hb;obtain⟨c0,c1,_,_,_,bg,_⟩:=eK u;have ai:=(da c k cJ cw).below u (aH _ n).drew;obtain⟨bi,al⟩:=ju ai;have v:aA (_/\_):=⟨hb,al⟩
  have C:=yN a n.drew bi;clear d j hb q al ai u;go_wp2_with fail
  go_region_held3 (λw'=>V w' (av c.pk 0)=OR (aq c.pw)/\V w' (av c.pk 1)=OR (.map (OR c.ct))/\V w' (av c.pw 0)=OR (aq c.p)) (go_keep)
   (first
     |(go_at_call 276;refine C.mono ?_;clear C;rintro e am ⟨rfl,an,ao⟩;obtain⟨o,ap⟩:=v.o.2 am _ _ an ao;obtain⟨ar,aB,_,_,_,aF,_⟩:=eK o;obtain⟨n4,bl⟩:=FN o;obtain⟨⟨D,o1,aR,a0⟩,hM⟩:=zo o;obtain⟨B,bn,a1,l⟩:=o1.update (t:=158) (e:=3) js underlying158 (by unfold bL;omega) ad hv;have bo:=l.cell ar (by simpa using n4);have bp:=l.cell aB (by simpa using n4);have br:=l.cell aF (by simpa using bl);obtain⟨a2,bb⟩:=hM B _ (Mp.put o1 aR a0 l2 a1) ((Fr.refl _ am).grown l (λb e=>aK (by cases e;rfl)));have N:aA ((da c k cJ cw).J F s2 B/\b9 F w F B):=⟨(by rw[E.o];exact a2),(((b9.of v.o.1).below (aH _ n).drew).trans ap).trans bb⟩;clear an ao o ap o1 aR a0 hM a1 l a2 bb))
  clear bo bp br ar aB aF bn c0 c1 bg E hv ad v;go_wp2_with fail;refine(r7 N.o.1 x).mono ?_;rintro e b0 ⟨rfl,bd⟩
  go_wp2_with fail;go_ret;exact⟨rfl,(da c k cJ cw).below N.o.1 bd,N.o.2.below bd⟩
theorem r9 (h:(da c k cJ cw).J F s w)(m:CI k s)(a:Int):
 O2 prog 297 #[aq c.pk,ak a] w λe w'=>e=OV (ay #[])/\(da c k cJ cw).J F (k.kf s a) w'/\b9 F w F w':=by
 have d:=(da c k cJ cw).below h (aH _ w).drew;obtain⟨c0,_,_,_,_,al,_⟩:=eK h;obtain⟨n,_⟩:=ju d;have L:=kN a w.drew n;have ag:aA (CI k s):=m;have o:aA ((da c k cJ cw).J F s w.drew):=d;have E:aA (k.kf s a=k.st (k.br s (k.ld s a)).2 a (k.br s (k.ld s a)).1):=rfl;have p:ld k.N k.y s.g s.ws a=k.ld s a:=rfl;rw[p] at L;generalize k.kf s a=s2 at E⊢;generalize k.ld s a=x at E L;clear h m d n p;go_enter func297,ntmps297
 go_region_held3 (λw'=>V w' (av c.pk 0)=OR (aq c.pw)/\V w' (av c.pw 0)=OR (aq c.p)) (go_keep)
  (first
    |(go_at_call 256;refine L.mono ?_;clear L;rintro e q ⟨rfl,t⟩;have f:=(da c k cJ cw).below o.o t;obtain⟨u,_,_,_,_,v,_⟩:=eK f;have B:aA ((da c k cJ cw).J F s q/\b9 F w F q):=⟨f,(b9.of (aH _ w).drew).below t⟩;clear f o)
    |(go_at_call 239;refine(r8 B.o.1 ag.o x).mono ?_;rintro e ai ⟨rfl,g,N⟩;obtain⟨u,_,_,_,_,v,_⟩:=eK g;obtain⟨S,b⟩:=ju g;have i:aA (_/\_/\_):=⟨B.o.2.trans N,S,b⟩;clear g N S b)
    |(go_at_call 169;refine(mK a (k.br s x).1 ai i.o.2.1).mono ?_;rintro e j ⟨rfl,b,W⟩;obtain⟨l,ab⟩:=i.o.2.2 j _ _ b W;obtain⟨u,_,_,_,_,v,_⟩:=eK l;have ad:aA ((da c k cJ cw).J F s2 j/\b9 F w F j):=⟨(by rw[E.o];exact l),i.o.1.trans ab⟩;clear b W l ab))
 go_wp2_with fail;go_end0;exact⟨rfl,ad.o.1,ad.o.2⟩
end
section
variable {c:hY}{k:cf}{F:Nat->Prop}{s:cn}{w:az}
theorem FY {a:Int}(h:pk (k.ld s a)=1\/pk (k.ld s a)=2):k.lk s a=k.hJ s a (K (pf (k.ld s a))):=by unfold cf.lk;rw[aN h]
theorem FZ {a:Int}(h:pk (k.ld s a)=3):k.lk s a=k.kf {s with wk:=s.wk++[a]} (a+2):=by unfold cf.lk;rw[aJ aa,aN h]
theorem F0 {a:Int}(h:pk (k.ld s a)=4):k.lk s a={s with ep:=s.ep++[a]}:=by unfold cf.lk;rw[aJ aa,aJ aa,aN h]
theorem F1 {a:Int}(d:pk (k.ld s a)≠1)(e:pk (k.ld s a)≠2)(b:pk (k.ld s a)≠3)(c:pk (k.ld s a)≠4):k.lk s a=s:=by unfold cf.lk;rw[aJ aa,aJ b,aJ c]
theorem zu (h:(eJ c k).J F s w)(p:CI k s)(a:Int)(a0:(k.N:Int)<=a)(a1:a<=2000)(hk:pk (k.ld s a)=1\/pk (k.ld s a)=2):
 O2 prog 242 #[aq c.pk,ak a] w λe w'=>∃f,e=OV (ak (1+pf (k.ld s a)))/\(eJ c k).J f (k.lk s a) w'/\b9 F w f w':=by
 rw[FY hk];obtain⟨cJ,b,h⟩:=h;obtain⟨c0,_,_,_,_,W,_⟩:=eK h;obtain⟨t,_⟩:=ju h;have L:=hC a w t;have u:ld k.N k.y s.g s.ws a=k.ld s a:=rfl;rw[u] at L;have hp:=du (k.ld s a)
 have v:=cg p;have d:aA ((da c k cJ b).J F s w):=h;generalize pf (k.ld s a)=n at L hp⊢;obtain⟨m,rfl⟩:∃m:Nat,n=m:=⟨K n,aa⟩
 rw[Int.toNat_natCast];generalize pc (k.ld s a)=q at L;rcases hk with hk|hk
 all_goals
  rw[hk] at L;go_enter func242,ntmps242;go_wp2_with fail;refine L.mono ?_;rintro e w1 ⟨rfl,g⟩
  have x:=(da c k cJ b).below d.o g;have B:b9 F w F w1:=b9.of g;go_wp2_with fail
  go_loopw [27] (λiv wr=>∃(j:Nat),j<=m/\iv=ak j/\(da c k cJ b).J F (k.hJ s a j) wr/\b9 F w F wr) (λiv _=>m-K (bG iv))
  exact⟨0,a4 _,rfl,x,B⟩
  ·
    obtain⟨j,ab,rfl,i,l⟩:=hrel;by_cases ad:j<m
    ·have d:=cU i l;go_wp2_with fail;refine(r9 d.o.1 (v.o.hJ a0 j).1 (a+1+j)).mono ?_;rintro e ag ⟨rfl,N,S⟩
     have o:=cU N (d.o.2.trans S)
     go_wp2_with fail;go_roundw;exact⟨j+1,aa,aj,o.o.1,o.o.2⟩
     simp[bG];omega
    ·obtain rfl:j=m:=aa;go_wp2_with fail;go_ret;exact⟨F,rfl,⟨cJ,b,i⟩,l⟩
theorem F4 (h:(eJ c k).J F s w)(a:Int)(g:pk (k.ld s a)≠1)(i:pk (k.ld s a)≠2)(j:pk (k.ld s a)≠3)(l:pk (k.ld s a)≠4):
 O2 prog 242 #[aq c.pk,ak a] w λe w'=>∃b,e=OV (ak (1+pf (k.ld s a)))/\(eJ c k).J b (k.lk s a) w'/\b9 F w b w':=by
 rw[F1 g i j l];obtain⟨cJ,d,h⟩:=h;obtain⟨c0,_,_,_,_,o,_⟩:=eK h;obtain⟨m,_⟩:=ju h;have L:=hC a w m;have n:ld k.N k.y s.g s.ws a=k.ld s a:=rfl;rw[n] at L;have hp:=du (k.ld s a)
 go_enter func242,ntmps242;go_wp2_with fail;refine L.mono ?_;rintro e w1 ⟨rfl,f⟩
 go_wp2;go_ret;exact⟨F,rfl,⟨cJ,d,(da c k cJ d).below (cg h).o f⟩,b9.of f⟩
theorem F5 (h:(eJ c k).J F s w)(a:Int)(a1:OQ s.ep<=10000)(i:pk (k.ld s a)=4):
 O2 prog 242 #[aq c.pk,ak a] w λe w'=>∃d,e=OV (ak (1+pf (k.ld s a)))/\(eJ c k).J d (k.lk s a) w'/\b9 F w d w':=by
 rw[F0 i];obtain⟨S,hi,W,ab,ag⟩:=bM l6;obtain⟨cJ,m,h⟩:=h;obtain⟨c0,_,_,_,_,a2,_⟩:=eK h;obtain⟨ai,_⟩:=ju h;have L:=hC a w ai;have al:ld k.N k.y s.g s.ws a=k.ld s a:=rfl;rw[al] at L;have hp:=du (k.ld s a)
 have am:aA ((da c k cJ m).J F s w):=h;rw[i] at L;generalize pf (k.ld s a)=n at L hp⊢;generalize pc (k.ld s a)=q at L;go_enter func242,ntmps242;go_wp2_with fail;refine L.mono ?_;rintro e w1 ⟨rfl,o⟩
 have g:=(da c k cJ m).below am.o o;obtain⟨bb,_,_,bd,p,be,_,_,_,an,_,er,_,lk,_⟩:=eK g;obtain⟨ao,_⟩:=vd g (aI p)
 obtain⟨ad,cap,rfl⟩:=e7 er;have ap:=an 4;have t:aA ((da c k cJ (Z ad (OQ s.ep) cap)).J F s w1/\b9 F w F w1):=⟨g,b9.of o⟩
 go_wp2_with (at_builtin;refine bO _ rfl _ _ 136 rfl 0 3 S (ak 0) 1 8 underlying136 hi W ab ag rfl ae (Z ad (OQ s.ep) cap) (OQ s.ep) (s.ep.map (Value.int R)) rfl (gq er _) ⟨I (G w1),0,Y⟩ 1 1 [ak a] rfl rfl ?_ ?_ ?_ ?_ ?_ ?_;(intro j u f;match j,f with|0,f=>(simp at f;subst f;simp[Addr.add]));(intro u v;simp at v;subst v;rfl);(unfold bL;omega);(first|omega|simp);(first|omega|(simp;done)|(simp;omega));intro bg bi x B _ ar;obtain⟨b4,aB,aF⟩:=fi x (jw _);subst aF;have N:=(B.block c.pk (by simp;omega) ao).trans (aU _ _ _ lk);have g4:=(aS (a:=⟨c.pk,4,Y⟩) N).trans p;have bl:=(World.frozen?_of_block (a:=⟨c.pk,4,Y⟩) N).trans ap)
 go_ret;obtain⟨d,aR,aV⟩:=FR t.o.1 (((Fr.refl _ w1).alloc _).grown B (λb e=>aK e.symm)) (v1:=Z (au b4) (OQ s.ep+1) aB) (l:=s.ep++[a]) (by simpa using x) (λb e=>by
  have a0:=ar.imp id (λe=>by simpa[Value.ownBlock] using e)
  simp[Value.ownBlock] at e;subst e;exact a0.imp id (λe=>by omega))
 exact⟨d,rfl,⟨_,_,aR⟩,t.o.2.trans aV⟩
theorem F6 (h:(eJ c k).J F s w)(ab:CI k s)(a:Int)(a0:(k.N:Int)<=a)(a1:a<=2000)(bn:OQ s.wk<=10000)(m:pk (k.ld s a)=3):
 O2 prog 242 #[aq c.pk,ak a] w λe w'=>∃d,e=OV (ak (1+pf (k.ld s a)))/\(eJ c k).J d (k.lk s a) w'/\b9 F w d w':=by
 rw[FZ m];obtain⟨ag,hi,ai,al,am⟩:=bM l6;obtain⟨cJ,g,h⟩:=h;obtain⟨c0,_,_,_,_,bo,_⟩:=eK h;obtain⟨an,_⟩:=ju h;have L:=hC a w an;have ao:ld k.N k.y s.g s.ws a=k.ld s a:=rfl;rw[ao] at L;have hp:=du (k.ld s a)
 have ap:aA ((da c k cJ g).J F s w):=h;have ar:aA (CI k {s with wk:=s.wk++[a]}):=ab.zf a0 a1;rw[m] at L;generalize pf (k.ld s a)=n at L hp⊢;generalize pc (k.ld s a)=q at L;go_enter func242,ntmps242;go_wp2_with fail;refine L.mono ?_;rintro e w1 ⟨rfl,o⟩
 have i:=(da c k cJ g).below ap.o o;obtain⟨bp,_,_,p,br,bs,_,_,_,aB,er,_,_,lk,_⟩:=eK i;obtain⟨aF,_⟩:=vd i (aK p)
 obtain⟨ad,cap,rfl⟩:=e7 er;have aR:=aB 3;have t:aA ((da c k (Z ad (OQ s.wk) cap) g).J F s w1/\b9 F w F w1):=⟨i,b9.of o⟩
 go_wp2_with (at_builtin;refine bO _ rfl _ _ 136 rfl 0 3 ag (ak 0) 1 8 underlying136 hi ai al am rfl ae (Z ad (OQ s.wk) cap) (OQ s.wk) (s.wk.map (Value.int R)) rfl (gq er _) ⟨I (G w1),0,Y⟩ 1 1 [ak a] rfl rfl ?_ ?_ ?_ ?_ ?_ ?_;(intro j u f;match j,f with|0,f=>(simp at f;subst f;simp[Addr.add]));(intro u v;simp at v;subst v;rfl);(unfold bL;omega);(first|omega|simp);(first|omega|(simp;done)|(simp;omega));intro bt bx x B _ aV;obtain⟨b4,a2,bb⟩:=fi x (jw _);subst bb;have N:=(B.block c.pk (by simp;omega) aF).trans (aU _ _ _ lk);have g4:=(aS (a:=⟨c.pk,3,Y⟩) N).trans p;have b0:=(World.frozen?_of_block (a:=⟨c.pk,3,Y⟩) N).trans aR)
 obtain⟨d,bd,be⟩:=FQ t.o.1 (((Fr.refl _ w1).alloc _).grown B (λb e=>aK e.symm)) (v1:=Z (au b4) (OQ s.wk+1) a2) (l:=s.wk++[a]) (by simpa using x) (λb e=>by
  have bg:=aV.imp id (λe=>by simpa[Value.ownBlock] using e)
  simp[Value.ownBlock] at e;subst e;exact bg.imp id (λe=>by omega))
 have S:=cU bd (t.o.2.trans be)
 refine(r9 S.o.1 ar.o (a+2)).mono ?_;rintro e b1 ⟨rfl,bi,bl⟩
 have W:=cU bi (S.o.2.trans bl)
 go_wp2_with fail;go_ret;exact⟨d,rfl,⟨_,_,W.o.1⟩,W.o.2⟩
theorem zv (h:(eJ c k).J F s w)(b:CI k s)(a:Int)(a0:(k.N:Int)<=a)(a1:a<=2000)(l:OQ s.wk<=10000)(m:OQ s.ep<=10000):
 O2 prog 242 #[aq c.pk,ak a] w λe w'=>∃d,e=OV (ak (1+pf (k.ld s a)))/\(eJ c k).J d (k.lk s a) w'/\b9 F w d w':=by
 by_cases f:pk (k.ld s a)=1
 ·exact zu h b a a0 a1 (aK f)
 by_cases g:pk (k.ld s a)=2
 ·exact zu h b a a0 a1 (aI g)
 by_cases i:pk (k.ld s a)=3
 ·exact F6 h b a a0 a1 l i
 by_cases j:pk (k.ld s a)=4
 ·exact F5 h a m j
 exact F4 h a f g i j
def r_ (w:az)(p:Nat):Int:=match V w (av p 2) with
 |some (U _ v)=>v
 |_=>0
theorem vg {p:Nat}{v:Int}(h:V w (av p 2)=OR (ak v)):r_ w p=v:=by unfold r_;rw[h]
theorem F7 (h:(eJ c k).J F s w)(d:CI k s)(hB:eD k s):
 O2 prog 243 #[aq c.pk] w λe w'=>∃x,e=OV (ay #[])/\(eJ c k).J x (k.lb (k.O+1) s) w'/\b9 F w x w':=by
 have an:aA (CI k s/\eD k s):=⟨d,hB⟩
 have n0:=d.hO;have n1:=d.hN';have bl:=d.i0;clear d hB;go_enter func243,ntmps243;go_wp2_with fail
 go_loopw [] (λwr=>∃(n:Nat)(f:Nat->Prop)(s1:cn),(eJ c k).J f s1 wr/\aA (CI k s1/\eD k s1)/\b9 F w f wr/\aA (k.lb n s1=k.lb (k.O+1) s)/\(k.N:Int)+k.O-s1.nx<n) (λwr=>K (2000-r_ wr c.pk))
 case atStart=>exact⟨k.O+1,F,s,h,an,b9.refl _ _,rfl,aa⟩
 case round=>
  obtain⟨n,f,s1,⟨cJ,i,j⟩,b,B,l,hn⟩:=hrel;obtain⟨c0,_,c2,_,_,ao,_,_,_,N,_⟩:=eK j;have ap:=vg c2;have ar:=N 2;obtain⟨S,_⟩:=ju ((da c k cJ i).below j (aH _ wr).drew)
  have L:=n7 s1.nx wr.drew S;have o:aA (_/\_):=⟨j,B⟩
  clear j B S N;go_wp2_with fail
  go_region_held3 (λw'=>V w' (av c.pk 0)=OR (aq c.pw)/\V w' (av c.pk 2)=OR (ak s1.nx)/\V w' (av c.pw 0)=OR (aq c.p)) (go_keep)
   (first
     |(go_at_call 172;refine L.mono ?_;clear L;rintro e p ⟨rfl,W⟩;have q:=(da c k cJ i).below ((da c k cJ i).below o.o.1 (aH _ wr).drew) W;obtain⟨aB,_,aF,_,_,aR,_,_,_,ab,_⟩:=eK q;have aV:=ab 2;have g:aA ((eJ c k).J f s1 p/\_):=⟨⟨cJ,i,q⟩,(o.o.2.below (aH _ wr).drew).below W⟩;clear q o ab c0 c2 ao ar))
  cases hb:hB k.N s1.g s1.nx
  ·go_wp2_with fail;go_end0;have e:k.lb n s1=s1:=by
    cases n with
    |zero=>rfl
    |succ n=>unfold cf.lb;rw[hb];rfl
   rw[<-l.o,e];exact⟨f,rfl,g.o.1,g.o.2⟩
  ·have b1:=kM hb;have b2:=b.o.1.hg;have b3:=b.o.1.i0;have b4:=b.o.2.wk;have b5:=b.o.2.ep;obtain⟨n,rfl⟩:∃m,n=m+1:=⟨n-1,aa⟩
   have hp:=du (k.ld s1 s1.nx)
   have a0:aA (k.lb n {k.lk s1 s1.nx with nx:=s1.nx+(1+pf (k.ld s1 s1.nx))}=k.lb (k.O+1) s):=by
    have:=l.o;unfold cf.lb at this
    rw[aN hb] at this
    exact this
   have a1:aA (_/\_):=⟨(b.o.1.l9 hb).1,eD.l9 b.o.1 hb b.o.2⟩
   have a2:=(b.o.1.lk (a:=s1.nx) b3 aa).2.nx;have L:=zv ((eJ c k).below g.o.1 (aH _ p).drew) b.o.1 s1.nx b3 aa aa aa;generalize pf (k.ld s1 s1.nx)=m at*;generalize k.lk s1 s1.nx=s2 at*;clear hb b4 b5 l;have bn:IntKind.i64.wrap (s1.nx+(1+m))=s1.nx+(1+m):=by rw[bc];omega
   go_wp2_with fail
   go_region_with (go_at_call 242;refine L.mono ?_;rintro e bo ⟨bb,rfl,⟨bp,br,t⟩,ad⟩;obtain⟨bd,_,ag,_,_,be,_,_,_,ai,_⟩:=eK t;rw[a2] at ag;have v2:=ai 2;have u:aA (_/\_):=⟨t,(g.o.2.below (aH _ p).drew).trans ad⟩;clear t ad ai)
   all_goals
    obtain⟨v,al⟩:=FO u.o.1 (s1.nx+(1+m))
    obtain⟨_,_,bg,_⟩:=eK v;have bi:=vg bg;have am:aA (_/\_):=⟨v,u.o.2.trans al⟩
    clear v al u bd ag be v2 L aB aF aR aV g;go_wp2_with fail;go_roundw
    case rel=>exact⟨n,bb,_,⟨_,_,am.o.1⟩,a1,am.o.2,a0,by show(k.N:Int)+k.O-(s1.nx+(1+m))<n;omega⟩
    case measure=>
     rw[bi,ap];show K (2000-(s1.nx+(1+m)))<_;omega
end
end Go.Proofs.YtjckpdepffejnaaGreatDoor
