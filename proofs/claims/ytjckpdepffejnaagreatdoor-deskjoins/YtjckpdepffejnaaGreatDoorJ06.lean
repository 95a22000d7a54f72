import Derived.Test.YtjckpdepffejnaaGreatDoorJ05
import Derived.OrdersHeld
open Array renaming getElem?_modify->bE,setIfInBounds_comm->zh,size->I
open Bool renaming false->O4,true->C
open Go renaming Addr->bB,Calls->M,Value->a7
open Go.Ending renaming returned->OV
open Go.IntKind renaming i64->OW
open Go.Obj renaming cells->OX
open Go.Proofs.Tryz renaming prog->J
open Go.RowKit renaming Below->O,intOf->bG
open Go.Value renaming bool->bA,int->OY,ownBlock->A,pointer->bq,slice->Z,tuple->ay
open Go.World renaming alloc->bu,cell?->V,heap->G,ownsRow->aC,setCell->O8
open Iff renaming rfl->gp
open Int renaming toNat->K
open List renaming contains->bJ,foldl_append->lD,getD->X,getElem_cons_succ->kL,getElem_cons_zero->gT,getElem_toArray->j4,length->OQ,setIfInBounds_toArray->iB,set_cons_succ->lT,set_cons_zero->lX
open Option renaming map_some->bH,none->Y,some->OR
namespace Go.Proofs.YtjckpdepffejnaaGreatDoor
set_option maxRecDepth 100000
set_option maxHeartbeats 2000000
open Tryz
open Go.RowKit W Kp ch
theorem sa {P:Prop}(h:P:=by go_ret;rw[E2.o.1,E2.o.2];exact⟨_,by simp[hll],⟨_,_,vh.o.1⟩,⟨vh.o.2,λb hb=>hb.elim (zw.o b) (λe=>aI (zx.o b e))⟩⟩):P:=h
theorem vi {P:Prop}(h:P:=by rw[aU _ _ _ ac];exact aO _ _):P:=h
section
variable {c:hY}{k:cf}{F:Nat->Prop}{s:cn}{w:az}
theorem F8 (h:(eJ c k).J F s w)(aB:CI k s)(hB:eD k s):
 M prog 244 #[aq c.pk] w λe w'=>∃bn,e=OV (bA (k.kv s).1)/\(eJ c k).J bn (k.kv s).2 w'/\b9 F w bn w':=by
 obtain⟨ch,hi,ci,cj,ck⟩:=info_parts l6;obtain⟨cJ,cv,h⟩:=h;obtain⟨c0,_,_,_,cl,cw,_,_,_,cx,_,er,_,lk,_⟩:=eK h;obtain⟨cy,_⟩:=vd h (aI cl)
 obtain⟨ad,cap,rfl⟩:=e7 er;have bo:=cg aB;have cz:=cg h;have cA:=hB.ep;have bp:=aB.i1;have br:=cg bp;have bs:aA (k.kv s=(decide (OQ (k.em s s.ep).1<OQ s.ep),{(k.em s s.ep).2 with ep:=(k.em s s.ep).1})):=rfl;have cB:(0:Int)<=k.N:=aa;clear aB hB bp;go_enter func244,ntmps244;go_wp2_with fail
 go_loopw [3,12] (λvr iv wr=>∃(j:Nat)(R:List Int)(s1:cn)(ar:Option bB)(d:Nat)(g:Nat->Prop),j<=OQ s.ep/\iv=ak j/\aA (k.em s (s.ep.take j)=(R,s1))/\vr=Z ar (OQ R) d/\aC wr (I (G w)) 3 1 (Z ar (OQ R) d) (OQ R) (R.map (Value.int OW))/\(da c k cJ (Z ad (OQ s.ep) cap)).J g s1 wr/\b9 F w g wr/\aA (∀b,OR b=A (Value.slice ar (OQ R) d)->¬g b)/\aA (CI k s1/\ez k s s1)) (λ_ iv _=>OQ s.ep-K (bG iv))
 exact⟨0,[],s,Y,0,F,a4 _,rfl,rfl,rfl,a9 _ _ _ _,h,b9.refl _ _,λb e=>by simp[Value.ownBlock] at e,⟨bo.o,ez.refl _ _⟩⟩
 ·
   obtain⟨j,R,s1,ar,d,g,v,rfl,B,rfl,i,o,m,N,S⟩:=hrel;obtain⟨bt,_,_,_,bx,b0,_,_,_,aF,_,W,_,cC,_⟩:=eK o;have b1:=aF 4;have cm:=S.o.2.ep;rw[cm] at W;have cD:OQ R<=10000:=by have ab:=(bo.o.em (s.ep.take j) (λa ha=>(br.o a (List.mem_of_mem_take ha)).1)).2.2.1;rw[B.o] at ab;simp at ab;omega
   by_cases am:j<OQ s.ep
   ·obtain⟨p,q,co,cE,hc⟩:=ir W aa;have aR:=hc j am;subst co;have b2:X s.ep j 0∈s.ep:=by rw[aM,aP am];exact a_ am
    have cp:=br.o _ b2;have aV:aA (k.em s (s.ep.take (j+1))=k.cX (R,s1) (X s.ep j 0)):=by
     show _=_;rw[h_ s.ep j am 0];unfold cf.em;rw[lD];have:=B.o;unfold cf.em at this
     rw[this];rfl
    generalize X s.ep j 0=a at aR cp aV;obtain⟨b3,_⟩:=ju o;have L:=kN (a+1) wr b3;have b5:ld k.N k.y s1.g s1.ws (a+1)=k.ld s1 (a+1):=rfl;rw[b5] at L;have n:=cU o m;have cF:=m.fr.size;have cq:aA (∀b,OR b=A (Value.slice ar (OQ R) d)->b<I (G wr)):=λb e=>(cu i b e).2;clear hc b2 o m b3 b5 aF;cases hls:k.ls s1 (k.ld s1 (a+1))
    ·have a0:aA (k.em s (s.ep.take (j+1))=(R,k.kf (k.kf s1 (a+1)) (a+2))):=by show _=_;rw[aV.o];unfold cf.cX;rw[hls];rfl
     generalize k.ld s1 (a+1)=x at L hls;go_wp2_with fail;refine L.mono ?_;clear L;rintro e w1 ⟨rfl,f⟩
     have P:=pv ((da c k cJ (Z (OR ⟨p,q,Y⟩) (OQ s.ep) cap)).below n.o.1 f) x;rw[hls] at P;clear aR bt b0 bx b1 W;go_wp2_with fail;refine P.mono ?_;clear P;rintro e b6 ⟨rfl,ag⟩
     have hb:=f.trans (ag.mono f.size)
     clear f ag;go_wp2_with fail;refine(r9 ((da c k cJ (Z (OR ⟨p,q,Y⟩) (OQ s.ep) cap)).below n.o.1 hb) S.o.1 (a+1)).mono ?_;rintro e cG ⟨rfl,b7,b8⟩
     obtain⟨ai,al⟩:=S.o.1.kf (a:=a+1) aa;have t:=jm b7 ((b9.of hb).trans b8) ai al;clear b7 b8 ai al hb;go_wp2_with fail;refine(r9 t.o.1 t.o.2.2.1 (a+2)).mono ?_;rintro e a1 ⟨rfl,an,ao⟩
     obtain⟨ai,al⟩:=t.o.2.2.1.kf (a:=a+2) aa;have a2:=t.o.2.1.trans ao;have ap:=jm an (n.o.2.trans a2) ai ((S.o.2.trans t.o.2.2.2).trans al)
     have bb:=iq i a2.fr (λb e=>N.o b e)
     clear an ao ai al a2 i t;go_wp2_with fail;go_roundw;exact⟨j+1,R,_,ar,d,g,aa,aj,a0,rfl,bb,ap.o.1,ap.o.2.1,N,⟨ap.o.2.2.1,ap.o.2.2.2⟩⟩
     simp[bG];omega
    ·have a0:aA (k.em s (s.ep.take (j+1))=(R++[a],s1)):=by show _=_;rw[aV.o];unfold cf.cX;rw[aN hls]
     generalize k.ld s1 (a+1)=x at L hls;go_wp2_with fail;refine L.mono ?_;clear L;rintro e w1 ⟨rfl,f⟩
     have P:=pv ((da c k cJ (Z (OR ⟨p,q,Y⟩) (OQ s.ep) cap)).below n.o.1 f) x;rw[hls] at P;clear aR bt b0 bx b1 W;go_wp2_with fail;refine P.mono ?_;clear P;rintro e b6 ⟨rfl,ag⟩
     have hb:=f.trans (ag.mono f.size)
     have bd:=cK i (λb e=>hb.block b (cq.o b e))
     have cH:=hb.size;clear f ag;go_wp2_with (at_builtin;refine wpList_append_own_at _ rfl _ _ 136 rfl (I (G w)) 3 ch (ak 0) 1 8 underlying136 hi ci cj ck rfl ae (Z ar (OQ R) d) (OQ R) (R.map (Value.int OW)) rfl (gq bd _) ⟨I (G b6),0,Y⟩ 1 1 [ak a] rfl rfl ?_ ?_ ?_ ?_ ?_ ?_;(intro j u v;match j,v with|0,v=>(simp at v;subst v;simp[Addr.add]));(intro u ca;simp at ca;subst ca;rfl);(unfold maxLen;omega);omega;(simp;omega);intro cI a1 be bg _ cb;obtain⟨b4,bi,cr⟩:=fi be (Nat.succ_pos _);subst cr)
     have bb:aC a1 (I (G w)) 3 1 (Z (au b4) (OQ (R++[a])) bi) (OQ (R++[a])) ((R++[a]).map (Value.int OW)):=by simpa using be
     have bl:=(da c k cJ (Z (OR ⟨p,q,Y⟩) (OQ s.ep) cap)).below n.o.1 hb;have an:=rP (da c k cJ (Z (OR ⟨p,q,Y⟩) (OQ s.ep) cap)) bl bg (λb e=>N.o b e)
     have ao:b9 F w g a1:=⟨((n.o.2.below hb).fr.alloc _).grown bg (λb e=>aI (cu bd b e.symm).1),n.o.2.sub⟩
     have cs:aA (∀b,OR b=A (Value.slice (au b4) (OQ (R++[a])) bi)->¬g b):=λb e cc=>by
      have ct:=cb.imp id (λe=>by simpa[Value.ownBlock] using e)
      simp[Value.ownBlock] at e;subst e;rcases ct with e|e
      ·exact N.o _ e cc
      ·have:=(da c k cJ (Z (OR ⟨p,q,Y⟩) (OQ s.ep) cap)).lt bl _ cc;omega
     clear bl be bg cb bd i hb;go_wp2_with fail;go_roundw;exact⟨j+1,R++[a],s1,au b4,bi,g,aa,aj,a0,ac,bb,an,ao,cs,S⟩
     simp[bG];omega
   ·obtain rfl:j=OQ s.ep:=aa;rw[ba] at B;obtain⟨cd,ce⟩:=zq o (v1:=Z ar (OQ R) d) (l:=R) (Fr.refl _ wr) (fA i (λ_ _=>a4 _)) (λb e=>aI (N.o b e))
    have vh:=cU cd (m.fr.trans ce m.sub)
    have zx:aA (∀b,OR b=A (Value.slice ar (OQ R) d)->I (G w)<=b):=λb e=>(cu i b e).1;have zw:=cg m.sub;have E2:aA ((k.kv s).1=decide (OQ R<OQ s.ep)/\(k.kv s).2={s1 with ep:=R}):=by have ab:=bs.o;rw[B.o] at ab;rw[ab];exact⟨rfl,rfl⟩
    clear cd ce o m i W B bs aF;by_cases hll:OQ R<OQ s.ep
    ·go_wp2_with fail;exact sa
    ·go_wp2_with fail;exact sa
end
theorem vj {w:az}{base size n g cap:Nat}{e:TypeId}{b:List a7}(h:aC w base e size (Z (au g) n cap) n b)(i:Nat)(u:a7):aC (O8 w ⟨g,i,Y⟩ u) base e size (Z (au g) n cap) n (b.set i u):=by
 refine⟨by rw[List.length_set];exact h.1,?_⟩
 rcases h.2 with⟨hv,_⟩|⟨k,l,c,hv,hb,hg,d,f,m,j⟩
 ·grind
 ·obtain⟨rfl,rfl⟩:=hv;refine aI ⟨g,cap,c.setIfInBounds i u,rfl,hb,?_,d,f,by grind,?_⟩
  ·simp only [World.setCell,bE,if_true,hg,bH];rfl
  ·rw[Array.toList_setIfInBounds,List.take_set,j]
theorem vk:∀(l:List b8)(i:Nat)(g z:Int),ev (l.set i (g,z))=((ev l).set (i*2) (ak g)).set (i*2+1) (ak z)
 |[],_,_,_=>rfl
 |e::l,0,g,z=>by rfl
 |e::l,i+1,g,z=>by have b:ev (e::l)=ak e.1::ak e.2::ev l:=af;have c:ev ((e::l).set (i+1) (g,z))=ak e.1::ak e.2::ev (l.set i (g,z)):=af;rw[b,c,(vk l i g z),show(i+1)*2=i*2+1+1 by omega];simp
theorem zy {ab:Type}(o:dr ab)(p:Nat)(vr:a7):r4 (dj o p vr) where
 y8:=by
  rintro F s w ⟨l,ad,cap,m,d,n,N,c,t,x,S⟩ w1 q a1 c1 hb f;have c:F p:=c;have lp:=cj d;have j:∀k,k≠p->(O8 w1 ⟨p,1,Y⟩ (Z a1 (OQ q) c1)).heap[k]?=w1.heap[k]?:=λk hk=>aW _ _ _ _ hk;have hs:I (G (O8 w1 ⟨p,1,Y⟩ (Z a1 (OQ q) c1)))=I (G w1):=by simp[World.setCell]
  have ao:=hb.size;refine⟨l,a1,c1,o.keep (o.below m hb) (by simp_all) (λk h=>j k (by grind)),?_,fA (cK f (λk e=>j k (by have:=(cu f k e).1;omega))) aa,λk h=>(by grind),aK c,t,λk e=>?_,λk h=>?_⟩
  ·have ag:=(hb.block p lp).trans d;show(O8 w1 ⟨p,1,Y⟩ _).heap[p]?=_;simp only [World.setCell,bE,if_true,ag,bH];rfl
  ·exact⟨aI e,λh=>by have ap:=S k (by grind);have:=(cu f k e).1;omega⟩
  ·show k<I (G (O8 w1 ⟨p,1,Y⟩ _));rw[hs];rcases h with h|h
   ·grind
   ·exact(cu f k h).2
 y9:=by
  rintro F s w ⟨l,ai,B,m,d,n,N,c,t,x,S⟩ ad cap hp i hi g z;have hp:w.heap[p]?=OR (OX #[vr,Z ad (OQ s.2) cap] 197 (0,0)):=hp;have hi:i<OQ s.2:=hi;have he:=d.symm.trans hp;obtain⟨rfl,rfl⟩:=he;obtain⟨b,rfl⟩:∃b,ai=OR _:=by
   rcases n.2 with⟨_,h0⟩|⟨al,ar,am,hv,_⟩
   ·omega
   ·simp at hv;exact⟨al,hv.1⟩
  obtain⟨am,W⟩:=fI n b rfl;have an:b≠p:=λe=>by grind
  have j:∀(u v:a7) k,k≠b->(O8 (O8 w ⟨b,0+i*2,Y⟩ u) ⟨b,0+i*2+1,Y⟩ v).heap[k]?=w.heap[k]?:=λu v k hk=>(by grind [aW])
  have hs:∀(u v:a7),I (G (O8 (O8 w ⟨b,0+i*2,Y⟩ u) ⟨b,0+i*2+1,Y⟩ v))=I (G w):=λu v=>by simp[World.setCell]
  refine⟨b,0,rfl,(x b rfl).1,an,by simp[World.frozen?,W],by simp[World.frozen?,W],l,au b,B,o.keep m (by grind) (λk h=>j _ _ k (λe=>(x b rfl).2 (by grind))),?_,?_,N,c,t,?_,?_⟩
  ·show((w.setCell _ _).setCell _ _).heap[p]?=OR (OX #[vr,Z (au b) (OQ (s.2.set i (g,z))) B] 197 (0,0))
   grind
  ·show aC ((w.setCell _ _).setCell _ _) 0 247 2 (Z (au b) (OQ (s.2.set i (g,z))) B) (OQ (s.2.set i (g,z))) (ev (s.2.set i (g,z)))
   simp_all [vk,vj]
  ·assumption
  grind
def zz {b:Type}(o:dr b)(I:b->Prop):dr b where
 J F t w:=o.J F t w/\I t
 lt:=λh=>o.lt h.1
 keep:=λh hs hk=>⟨o.keep h.1 hs hk,h.2⟩
def dq {f:Type}(o:dr f)(bx:Nat)(x:Obj):dr f where
 J F t w:=∃c,o.J c t w/\w.heap[bx]?=OR x/\¬c bx/\∀b,F b↔(c b\/b=bx)
 lt:=by
  rintro F t w ⟨c,h,e,_,d⟩ b hb;rcases(d b).1 hb with hb|hb
  ·exact o.lt h b hb
  ·rw[hb];exact cj e
 keep:=by rintro F t w w' ⟨c,h,e,hn,d⟩ hs hk;exact⟨c,o.keep h hs (λb hb=>hk b ((d b).2 (aK hb))),(hk bx ((d bx).2 (aI rfl))).trans e,hn,d⟩
section
variable {iP:Type}{o:dr iP}{bx p:Nat}{x:Obj}{vr:a7}{F:Nat->Prop}{w w':az}
theorem px {t:iP×List b8}(h:(dj o p vr).J F t w):∃d,o.J d t.1 w/\∀c f w',o.J c f w'->b9 d w c w'->∃j,(dj o p vr).J j (f,t.2) w'/\b9 F w j w':=by
 obtain⟨d,ad,cap,s,l,g,m,u,n,i,v⟩:=h;refine⟨d,s,λc f w' q b=>?_⟩
 have lp:=cj l;refine⟨λk=>F k\/c k,⟨c,ad,cap,q,(b.fr.block p lp n).trans l,cK g (λk e=>b.fr.block k (cu g k e).2 (i k e).2),λk h=>aI h,aK u,λh=>(b.sub p h).elim n (λh=>by omega),λk e=>⟨aK (i k e).1,λh=>(b.sub k h).elim (i k e).2 (λh=>by have:=(cu g k e).2;omega)⟩,λk h=>?_⟩,b.fr.mono m,λk h=>?_⟩
 ·rcases h with h|h
  ·exact aL (v k h) b.fr.size
  ·exact o.lt q k h
 ·rcases h with h|h
  ·exact aK h
  ·exact(b.sub k h).imp (m k) id
theorem lv {t:iP×List b8}(h:(dj o p vr).J F t w)(f:w.heap[bx]?=OR x)(hn:¬F bx):(dj (dq o bx x) p vr).J (λb=>F b\/b=bx) t w:=by obtain⟨g,ad,cap,k,l,m,i,j,n,d,q⟩:=h;refine⟨λb=>g b\/b=bx,ad,cap,⟨g,k,f,λc=>hn (i _ c),λb=>gp⟩,l,m,λb hb=>hb.imp (i b) id,aK j,λc=>c.elim n (λe=>hn (by rw[<-e];exact j)),λb e=>⟨aK (d b e).1,λc=>c.elim (d b e).2 (λs=>hn (by rw[<-s];exact(d b e).1))⟩,λb hb=>hb.elim (q b) (λe=>by rw[e];exact cj f)⟩
theorem vl {t:iP×List b8}(h:(dj (dq o bx x) p vr).J F t w):(dj o p vr).J F t w:=by obtain⟨n,ad,cap,⟨f,g1,g2,g3,g4⟩,g,i,j,k,l,d,m⟩:=h;exact⟨f,ad,cap,g1,g,i,λb hb=>j b ((g4 b).2 (aK hb)),k,λc=>l ((g4 p).2 (aK c)),λb e=>⟨(d b e).1,λc=>(d b e).2 ((g4 b).2 (aK c))⟩,m⟩
theorem vm {D:Int->Prop}{f:Nat}{b c:Array a7}{kp:iP->Int->Int×iP}(hk:pd o D f b c kp):pd (dq o bx x) D f b c kp:=by
 rintro F t w y hD ⟨k,h,d,hn,e⟩
 refine(hk k t w y hD h).mono ?_;rintro r w' ⟨g,rfl,l,i,j⟩
 refine⟨λb=>g b\/b=bx,rfl,⟨g,l,(i.block bx (cj d) hn).trans d,λc=>(j bx c).elim hn (λc=>by have:=cj d;omega),λb=>gp⟩,i.mono (λb hb=>(e b).2 (aK hb)),λb hb=>?_⟩
 rcases hb with hb|hb
 ·exact(j b hb).imp (λc=>(e b).2 (aK c)) id
 ·exact aK ((e b).2 (aI hb))
theorem ns {D:Int->Prop}{f:Nat}{b c:Array a7}{nw:iP->Int->Int}(ht:mM o D f b c nw):mM (dq o bx x) D f b c nw:=by
 rintro F t w y hD ⟨d,h,_⟩
 exact ht d t w y hD h
end
def iF (c:hY)(k:cf):dr cn:=zz (eJ c k) (λs=>CI k s/\eD k s)
abbrev jN (c:hY):Obj:=OX #[aq c.pk] 251 (0,0)
abbrev ly (bx:Nat):gI:=⟨253,#[],#[aq bx]⟩
abbrev mR (c:hY):gI:=⟨255,#[aq c.pk],#[]⟩
abbrev oo (c:hY):gI:=⟨239,#[aq c.pk],#[]⟩
abbrev oq (c:hY):gI:=⟨181,#[aq c.pk],#[]⟩
theorem zA:ef 253:=g9 func253 ah rfl
theorem zB:ef 255:=g9 func255 ah rfl
theorem F9:ef 239:=g9 func239 ah rfl
theorem F_:ef 181:=g9 func181 ah rfl
section
variable {c:hY}{k:cf}{F:Nat->Prop}{s:cn}{w:az}
theorem zC (fv:gI)(w:az)(p:Nat):
 M J 180 #[aq p,fv.v] w λe w'=>e=OV (.agg #[(ly (I (G w))).v,fv.v,.func (.func 255) #[aq p] #[]])/\w'.heap[I (G w)]?=OR (OX #[aq p] 251 (0,0))/\O (I (G w)) w w':=by
 obtain⟨f,b,c⟩:=fv;go_enter func180,ntmps180;go_wp2_with fail;refine a3 (v:=.agg #[(ly (I (G w))).v,.func (.func f) b c,.func (.func 255) #[aq p] #[]]) (by simp[results,results180,go_sem]) rfl ⟨rfl,?_,((aH _ w).alloc bY _).alloc ac _⟩
 exact vi
theorem zD (bx:Nat):lu (dq (iF c k) bx (jN c)) (λ_=>True) (ly bx).f (ly bx).b (ly bx).c k.al:=by
 rintro F s w x _ ⟨d,⟨⟨cJ,f,h⟩,_⟩,b,_⟩
 have P:=pv h x;have c0:V w (av bx 0)=OR (aq c.pk):=aD b
 have E:k.al s x=!k.ls s x:=rfl;go_enter func253,ntmps253;go_wp2_with fail;refine P.mono ?_;exact rN
theorem zE:mM (iF c k) (λ_=>True) (mR c).f (mR c).b (mR c).c k.nw:=by
 rintro F s w x _ ⟨⟨cJ,b,h⟩,_⟩
 exact r7 h x
theorem Ga:pd (iF c k) (λ_=>True) (oo c).f (oo c).b (oo c).c k.br:=by
 rintro F s w x _ ⟨⟨cJ,e,h⟩,b,hB⟩
 refine(r8 h b x).mono ?_;rintro r w' ⟨rfl,f,d⟩
 obtain⟨g,i,_⟩:=b.br x;exact⟨F,rfl,⟨⟨cJ,e,f⟩,g,i.cb hB⟩,d.fr,d.sub⟩
end
open Go
section
variable {P:Program}{ops:Array Oper}{Q:Exit->Act->az->Prop}{md:Region.Mode}{T S:az->Prop}{St:List Nat}
def came (St:List Nat)(b:Array Bool):Prop:=∃s∈St,b.getD s O4=C
def lz (P:Program)(md:Region.Mode)(ops:Array Oper)(Q:Exit->Act->az->Prop)(T S:az->Prop)(St:List Nat):Nat->Array Bool->Act->az->Prop
 |0,b,a,w=>Region.ready md ops b=[]/\Q .normal a w
 |c+1,b,a,w=>(Region.ready md ops b=[]->Q .normal a w)/\
  ∀i∈Region.ready md ops b,wpOp P ops Q i (λd w'=>(T w'/\(came St (b.setIfInBounds i C)\/S w'))/\lz P md ops Q T S St c (b.setIfInBounds i C) d w') a w
theorem vo:∀(b:Nat)(c:Array Bool)(a:Act)(w:az),lz P md ops Q T S St b c a w->wpAny P md ops Q b c a w
 |0,_,_,_,h=>h
 |b+1,_,_,_,h=>⟨h.1,λi hi=>wpOp_mono (λd w' e=>vo b _ d w' e.2) (h.2 i hi)⟩
def waits (md:Region.Mode)(ops:Array Oper)(St:List Nat)(i:Nat):Bool:=
 St.all λs=>match ops[s]? with
  |some o=>o.after.any λe=>Region.binds md e&&e.on==i
  |none=>O4
theorem Gb {i j:Nat}{b:Array Bool}(hw:waits md ops St i=C)(hi:i∈Region.ready md ops b)(c:j∈Region.ready md ops b):j∉St:=by
 intro hs;have d:=List.all_eq_true.1 hw j hs
 grind [mem_ready]
theorem zF {i:Nat}{b:Array Bool}(hn:¬came St b)(hi:i∉St):¬came St (b.setIfInBounds i C):=by
 rintro⟨s,hs,h⟩
 have c:i≠s:=λe=>(by grind)
 exact hn ⟨s,hs,by simp_all⟩
theorem OH {i:Nat}{g:Oper}{v:a7}(hi:ops[i]?=OR g)(an:i∉St)(u:waits md ops St i=C)(ao:∀(j:Nat)(o:Oper) x b,ops[j]?=OR o->o.op≠.select x b)
 (B:∀c a w,Q (.panic c) (a.put g.dst v) w->Q (.panic c) a w):
 ∀(l:Nat)(d:Array Bool)(a:Act)(w:az),
  (∀j m,ops[j]?=OR m->j≠i->d.getD j C=O4->(∀e∈m.after,Region.binds md e=C->e.on≠i)->g.apart ops m=C)->
  i∈Region.ready md ops d->¬came St d->YieldsIf P ops (λw=>T w/\S w) g v a->T w/\S w->
  lz P md ops Q T S St l (d.setIfInBounds i C) (a.put g.dst v) w->lz P md ops Q T S St (l+1) d a w:=by
 intro l
 induction l with
 |zero=>
  intro d a w _ hr _ hy p H;refine⟨λh=>(by grind),λj n=>?_⟩
  by_cases f:j=i
  ·rw[f];exact hy.wpOp hi p (by grind)
  ·have hm:=ready_mono n f;rw[H.1] at hm;simp at hm
 |succ l F=>
  intro d a w s hr N hy p H;refine⟨λh=>(by grind),λj n=>?_⟩
  by_cases f:j=i
  ·rw[f];exact hy.wpOp hi p (by grind)
  ·have W:=Gb u hr n;obtain⟨ab,m,t,ap⟩:=mem_ready.1 n;have ad:=s j m t f ab (by grind [mem_ready])
   refine wpOp_mono (λag w' h=>?_) (wpOp_putIf t ad (by grind) (by grind) B hy (H.2 j (ready_mono n f)))
   obtain⟨ai,ar,aB⟩:=h;have q:T w'/\S w':=(by grind [zF])
   refine⟨⟨q.1,aI q.2⟩,F _ ag w' (λk ok hk al aF am=>s k ok hk al ?_ am) (ready_mono hr aa) (zF N W) ai q ?_⟩
   ·by_cases aR:j=k
    ·grind
    ·simp_all
   grind [zh]
theorem Ge {i:Nat}{g:Oper}{v:a7}(hi:ops[i]?=OR g)(an:i∉St)(ao:∀(j:Nat)(o:Oper) B b,ops[j]?=OR o->o.op≠.select B b)
 (F:∀c a w,Q (.panic c) (a.put g.dst v) w->Q (.panic c) a w):
 ∀(l:Nat)(d:Array Bool)(a:Act)(w:az),
  (∀j m,ops[j]?=OR m->j≠i->d.getD j C=O4->(∀e∈m.after,Region.binds md e=C->e.on≠i)->g.apart ops m=C)->
  i∈Region.ready md ops d->YieldsIf P ops T g v a->T w->(came St d\/S w)->
  lz P md ops Q T S St l (d.setIfInBounds i C) (a.put g.dst v) w->lz P md ops Q T S St (l+1) d a w:=by
 have up:∀{d:Array Bool}{k:Nat},came St d->came St (d.setIfInBounds k C):=fun⟨s,hs,h⟩=>⟨s,hs,getD_set_true h⟩
 intro l
 induction l with
 |zero=>
  intro d a w _ hr hy p hc H;refine⟨λh=>(by grind),λj n=>?_⟩
  by_cases f:j=i
  ·rw[f];exact hy.wpOp hi p (by grind)
  ·have hm:=ready_mono n f;rw[H.1] at hm;simp at hm
 |succ l N=>
  intro d a w t hr hy p hc H;refine⟨λh=>(by grind),λj n=>?_⟩
  by_cases f:j=i
  ·rw[f];exact hy.wpOp hi p (by grind)
  ·obtain⟨W,m,u,ap⟩:=mem_ready.1 n;have ab:=t j m u f W (by grind [mem_ready])
   refine wpOp_mono (λad w' h=>?_) (wpOp_putIf u ab (by grind) (by grind) F hy (H.2 j (ready_mono n f)))
   obtain⟨ag,q,ar⟩:=h;have x:came St (d.setIfInBounds j C)\/S w':=q.2.imp (fun⟨s,hs,h⟩=>by
    have ai:i≠s:=λe=>(by grind)
    refine⟨s,hs,?_⟩
    rw[zh _ _ aa,getD_set_ne O4 ai] at h;omega) id
   refine⟨⟨q.1,x⟩,N _ ad w' (λk ok hk al aB am=>t k ok hk al ?_ am) (ready_mono hr aa) ag q.1 x ?_⟩
   ·by_cases aF:j=k
    ·grind
    ·simp_all
   grind [zh]
theorem gB {i:Nat}{d:Oper}{v:a7}{e:Nat}{b:Array Bool}{a:Act}{w:az}(hi:ops[i]?=OR d)
 (hs:Region.noSelect ops=C)(f:Region.free md ops b i=C)(hr:(Region.ready md ops b).contains i=C)(g:St.contains i=O4)
 (j:∀c a w,Q (.panic c) (a.put d.dst v) w->Q (.panic c) a w)(hy:YieldsIf P ops T d v a)(k:T w)(hc:came St b\/S w)
 (h:lz P md ops Q T S St e (b.setIfInBounds i C) (a.put d.dst v) w):lz P md ops Q T S St (e+1) b a w:=
 (by grind [Ge,Region.noSelect_spec,Region.free_spec])
theorem zG {i:Nat}{o:Oper}{K:Act->az->Prop}{a:Act}{w:az}(hi:ops[i]?=OR o)(hg:Region.wanted o (yielded ops a.tmps)=C)(h:o.wp P a w K Q):wpOp P ops Q i K a w:=by
 unfold wpOp;rw[hi];dsimp only
 grind
theorem zH {i:Nat}{c:Nat}{b:Array Bool}{a:Act}{w:az}(hr:Region.ready md ops b=[i])
 (h:wpOp P ops Q i (λd w'=>(T w'/\(came St (b.setIfInBounds i C)\/S w'))/\lz P md ops Q T S St c (b.setIfInBounds i C) d w') a w):lz P md ops Q T S St (c+1) b a w:=
 ⟨λh0=>(by simp_all),λj e=>(by simp_all)⟩
theorem zI {b:Array Bool}{a:Act}{w:az}(hr:Region.ready md ops b=[])(h:Q .normal a w):∀c,lz P md ops Q T S St c b a w
 |0=>⟨hr,h⟩
 |_+1=>⟨λ_=>h,by rw[hr];simp⟩
end
def lenOf (w:az)(p:Nat):Nat:=match V w (av p 4) with
 |some (Z _ n _)=>n
 |_=>0
def vp (w:az)(p:Nat):Int:=match V w (av p 6) with
 |some (OY _ v)=>v
 |_=>0
def vu (c:hY)(k:cf)(w:az):Nat:=K (k.N+k.O+13-r_ w c.pk)+lenOf w c.pk+(k.O-K (vp w c.p))
def sc:a7->Nat
 |bA C=>1
 |_=>0
section
variable {c:hY}{k:cf}{F:Nat->Prop}{s:cn}{w:az}{vr:a7}
theorem vv (h:(eJ c k).J F s w):vu c k w=k.mu s:=by
 obtain⟨cJ,i,h⟩:=h;obtain⟨_,_,c2,_,b,_,_,_,_,_,_,er,_⟩:=eK h;obtain⟨d,_⟩:=ju h;obtain⟨ad,cap,e⟩:=e7 er;have f:lenOf w c.pk=OQ s.ep:=by unfold lenOf;rw[b,e]
 have g:vp w c.p=s.g:=by unfold vp;rw[d.cells.2.2.2.2.2.2]
 unfold vu cf.mu;rw[vg c2,f,g,Int.toNat_natCast]
theorem Gf {f:Option bB}{g i:Nat}(j:vr=Z f g i){t:cn×List b8}(h:(dj (iF c k) c.sd vr).J F t w)(hq:OQ t.2<=90000)(bx:Nat)(l:w.heap[bx]?=OR (jN c))(hn:¬F bx):
 M prog 245 #[aq c.sd,.agg #[(ly bx).v,(oo c).v,(mR c).v]] w λe w'=>∃d,e=OV (bA (k.wa t).2)/\(dj (iF c k) c.sd vr).J d (k.wa t).1 w'/\Fr (λb=>F b\/b=bx) w w'/\(∀b,d b->F b\/b=bx\/I (G w)<=b):=by
 refine(zc _ (zy _ _ _) (λ_=>True) (ly bx) (oo c) (mR c) _ _ _ (r2 _ c.sd vr (λ_=>True) (ly bx) (oo c) (mR c) k.al k.br k.nw zA F9 zB (zD bx) (vm Ga) (ns zE)) f g i j _ t w hq (λ_ _=>⟨trivial,trivial⟩) (lv h l hn)).mono ?_;rintro e w' ⟨d,rfl,m,n,hs⟩
 exact⟨d,rfl,vl m,n,λb hb=>(hs b hb).elim (λc=>c.elim aK (λc=>aI (aK c))) (λc=>aI (aI c))⟩
theorem zJ {bx:Option bB}{b0 b1:Nat}(b2:vr=Z bx b0 b1){t:cn×List b8}(h:(dj (iF c k) c.sd vr).J F t w)(hq:OQ t.2<=90000):
 M prog 178 #[aq c.pk] w λe w'=>∃bb,e=OV (ay #[])/\(dj (iF c k) c.sd vr).J bb (k.sp t) w'/\b9 F w bb w':=by
 have b3:∀(bd:Fn)(first cap:Array a7)(w:az),(Instr.makeFunc bd first cap).run prog w=.ok (.func bd first cap) w:=λ_ _ _ _=>rfl;go_enter func178,ntmps178;go_wp2_with fail
 go_loopw [2] (λar wr=>∃(n:Nat)(ag:Nat->Prop)(d:cn×List b8)(b:Bool),ar=bA b/\(dj (iF c k) c.sd vr).J ag d wr/\b9 F w ag wr/\aA (if b=C then k.mu d.1<n/\k.de n d=k.sp t else d=k.sp t)/\OQ d.2<=90000) (λar wr=>2*vu c k wr+sc ar)
 exact⟨k.mu t.1+1,F,t,C,rfl,h,b9.refl _ _,⟨aa,rfl⟩,hq⟩
 ·
   obtain⟨n,ag,d,b,rfl,be,bg,bi,hq⟩:=hrel;cases b
   ·have x:=cg bi.o;go_wp2_with fail;go_end0;rw[<-x.o];exact⟨ag,rfl,be,bg⟩
   ·obtain⟨b4,b5⟩:=bi.o;obtain⟨m,rfl⟩:∃m,n=m+1:=⟨n-1,aa⟩
    obtain⟨cq,u,b6⟩:=px be;have aB:=vv u.1;have B:=F7 u.1 u.2.1 u.2.2;obtain⟨bl,bn,b7⟩:=u.2.1.lb u.2.2 (k.O+1)
    obtain⟨ca,j2,cI,cM⟩:=bl.kv bn;have f:aA (_/\_/\(CI k (k.lb (k.O+1) d.1)/\eD k (k.lb (k.O+1) d.1))/\(CI k (k.kv (k.lb (k.O+1) d.1)).2/\eD k (k.kv (k.lb (k.O+1) d.1)).2)):=⟨bg,b6,⟨bl,bn⟩,⟨ca,j2⟩⟩
    have ai:=jm b7 cI cM b4;have x:=cg b5;go_wp2_with fail;refine B.mono ?_;rintro e w1 ⟨cr,rfl,N,W⟩
    have al:=F8 ((eJ c k).below N (aH _ w1).drew) f.o.2.2.1.1 f.o.2.2.1.2;have W:=W.below (aH _ w1).drew;obtain⟨cs,ct,N⟩:=N;obtain⟨cb,_,_,_,_,_,_,cc,_⟩:=eK N;cases hkv:(k.kv (k.lb (k.O+1) d.1)).1
    ·rw[hkv] at al;have bo:aA ((if(k.wa ((k.kv (k.lb (k.O+1) d.1)).2,d.2)).2=C then k.de m (k.wa ((k.kv (k.lb (k.O+1) d.1)).2,d.2)).1 else(k.wa ((k.kv (k.lb (k.O+1) d.1)).2,d.2)).1)=k.sp t):=by
      have:=x.o;unfold cf.de at this
      rw[hkv] at this
      exact this
     have j:=CI.wa (s:=((k.kv (k.lb (k.O+1) d.1)).2,d.2)) f.o.2.2.2.1 f.o.2.2.2.2;have j:aA (OQ (k.wa ((k.kv (k.lb (k.O+1) d.1)).2,d.2)).1.2<=90000/\k.mu (k.wa ((k.kv (k.lb (k.O+1) d.1)).2,d.2)).1.1<=k.mu d.1/\((k.wa ((k.kv (k.lb (k.O+1) d.1)).2,d.2)).2=C->k.mu (k.wa ((k.kv (k.lb (k.O+1) d.1)).2,d.2)).1.1<k.mu d.1)):=by refine⟨by rw[j.2.2.1];exact hq,by have:=j.2.2.2.1;dsimp only at this;omega,λe=>by have:=j.2.2.2.2 e;dsimp only at this;omega⟩
     generalize k.lb (k.O+1) d.1=s1 at*;generalize (k.kv s1).2=s2 at*;go_wp2_with fail
     go_region_held3 (λw'=>V w' (av c.pk 0)=OR (aq c.pw)/\V w' (av c.pw 2)=OR (aq c.sd)) (go_keep)
      (first
        |(go_at_call 244;refine al.mono ?_;rintro e q ⟨aF,rfl,l,am⟩;obtain⟨bp,hM,an⟩:=f.o.2.1 aF s2 q ⟨l,f.o.2.2.2⟩ (W.trans am);obtain⟨cu,cv,l⟩:=l;obtain⟨g0,_,_,_,_,_,_,aR,_⟩:=eK l;have l0:=aT q _ g0;have cd:=aT q _ aR;have g:=cU hM (f.o.1.trans an))
        |(go_at_call 180;refine(zC (oo c) q c.pk).mono ?_;rintro e cw ⟨rfl,ce,aV⟩;have ch:=(aV.cell (p:=av c.pk 0) l0).trans g0;have ci:=(aV.cell (p:=av c.pw 2) cd).trans aR;have ab:=cU ce aV)
        |(go_at_call 245;refine(Gf b2 (t:=(s2,d.2)) ((dj (iF c k) c.sd vr).below g.o.1 ab.o.2) hq (I (G q)) ab.o.1 (λh=>by have:=(dj (iF c k) c.sd vr).lt g.o.1 _ h;omega)).mono ?_;rintro e cj ⟨a0,rfl,br,ck,cl⟩;have ao:aA (_/\b9 F w a0 cj):=⟨br,⟨(g.o.2.below ab.o.2).fr.trans ck (λb hb=>hb.elim (g.o.2.sub b) (λe=>aI (by have:=g.o.2.fr.size;omega))),λb hb=>(cl b hb).elim (g.o.2.sub b) (λh=>aI (by have o:=g.o.2.fr.size;have a1:=ab.o.2.size;omega))⟩⟩;obtain⟨cx,⟨⟨cm,co,bs⟩,_⟩,_⟩:=px br;have ap:=vv ⟨cm,co,bs⟩;obtain⟨r0,_,_,_,_,_,_,cp,_⟩:=eK bs))
     clear r0 cp g0 aR ch ci cb cc f g ab x b3 W;cases hbw:(k.wa (s2,d.2)).2
     ·have ad:aA (if O4=C then k.mu (k.wa (s2,d.2)).1.1<m/\k.de m (k.wa (s2,d.2)).1=k.sp t else(k.wa (s2,d.2)).1=k.sp t):=by
       have:=bo.o;rw[hbw] at this
       exact this
      go_wp2_with fail;go_roundw;exact⟨m,a0,(k.wa (s2,d.2)).1,O4,rfl,ao.o.1,ao.o.2,ad,j.o.1⟩
      ·have:=j.o.2.1;rw[ap,aB];simp[sc];omega
     ·have ad:aA (if C=C then k.mu (k.wa (s2,d.2)).1.1<m/\k.de m (k.wa (s2,d.2)).1=k.sp t else(k.wa (s2,d.2)).1=k.sp t):=by have o:=bo.o;rw[hbw] at o;have a1:=j.o.2.2 hbw;have bt:=ai.o.2.2.2;exact⟨aa,o⟩
      have a1:=j.o.2.2 hbw;go_wp2_with fail;go_roundw;exact⟨m,a0,(k.wa (s2,d.2)).1,C,rfl,ao.o.1,ao.o.2,ad,j.o.1⟩
      ·rw[ap,aB];simp[sc];omega
    ·rw[hkv] at al;have a1:k.mu (k.kv (k.lb (k.O+1) d.1)).2<k.mu d.1:=by have o:=ai.o.1;have bt:=ai.o.2.2.1 hkv;omega
     have ad:aA (if C=C then k.mu (k.kv (k.lb (k.O+1) d.1)).2<m/\k.de m ((k.kv (k.lb (k.O+1) d.1)).2,d.2)=k.sp t else((k.kv (k.lb (k.O+1) d.1)).2,d.2)=k.sp t):=by have o:=x.o;unfold cf.de at o;rw[hkv] at o;have bt:=ai.o.2.2.2;exact⟨aa,o⟩
     generalize k.lb (k.O+1) d.1=s1 at*;generalize (k.kv s1).2=s2 at*;clear N;go_wp2_with fail;refine wp_region_noPanic ?_;refine wp_region_any ah ?_;refine vo (T:=λ_=>True) (S:=λ_=>True) (St:=[]) _ _ _ _ ?_;refine gB (i:=0) (v:=?_) rfl ah ah ah ah (λ_ _ _ h=>h) (aK ⟨af,?_⟩) trivial (aI trivial) ?_
     rotate_left
     ·intro w a2;go_simp
      try rfl
     try simp only [Act.put,j4,gT,iB,lX,lT]
     refine zH (i:=1) ah ?_;refine zG rfl af ?_;simp only [j4,kL,gT];go_simp;refine al.mono ?_;rintro e q ⟨aF,rfl,l,am⟩
     obtain⟨bp,hM,an⟩:=f.o.2.1 aF s2 q ⟨l,f.o.2.2.2⟩ (W.trans am)
     have ap:=vv l;have g:=cU hM (f.o.1.trans an)
     clear l am hM an;refine gB (i:=2) (v:=?_) rfl ah ah ah ah (λ_ _ _ h=>h) (aK ⟨af,?_⟩) trivial (aI trivial) ?_
     rotate_left
     ·intro w a2;go_simp
      try rfl
     refine gB (i:=3) (v:=undef) rfl ah ah ah ah (λ_ _ _ h=>h) (aI ⟨af,rfl⟩) trivial (aI trivial) ?_;refine gB (i:=4) (v:=undef) rfl ah ah ah ah (λ_ _ _ h=>h) (aI ⟨af,rfl⟩) trivial (aI trivial) ?_;refine gB (i:=5) (v:=undef) rfl ah ah ah ah (λ_ _ _ h=>h) (aI ⟨af,rfl⟩) trivial (aI trivial) ?_;refine gB (i:=6) (v:=undef) rfl ah ah ah ah (λ_ _ _ h=>h) (aI ⟨af,rfl⟩) trivial (aI trivial) ?_
     try simp only [Act.put,j4,kL,gT,iB,lX,lT]
     refine gB (i:=7) (v:=undef) rfl ah ah ah ah (λ_ _ _ h=>h) (aI ⟨af,rfl⟩) trivial (aI trivial) ?_;refine gB (i:=8) (v:=undef) rfl ah ah ah ah (λ_ _ _ h=>h) (aI ⟨af,rfl⟩) trivial (aI trivial) ?_;refine gB (i:=9) (v:=undef) rfl ah ah ah ah (λ_ _ _ h=>h) (aI ⟨af,rfl⟩) trivial (aI trivial) ?_;refine gB (i:=10) (v:=undef) rfl ah ah ah ah (λ_ _ _ h=>h) (aI ⟨af,rfl⟩) trivial (aI trivial) ?_;refine gB (i:=11) (v:=undef) rfl ah ah ah ah (λ_ _ _ h=>h) (aI ⟨af,rfl⟩) trivial (aI trivial) ?_
     try simp only [Act.put,j4,kL,gT,iB,lX,lT]
     refine gB (i:=12) (v:=undef) rfl ah ah ah ah (λ_ _ _ h=>h) (aI ⟨af,rfl⟩) trivial (aI trivial) ?_;refine gB (i:=13) (v:=undef) rfl ah ah ah ah (λ_ _ _ h=>h) (aI ⟨af,rfl⟩) trivial (aI trivial) ?_
     try simp only [Act.put,j4,kL,gT,iB,lX,lT]
     refine gB (i:=14) (v:=undef) rfl ah ah ah ah (λ_ _ _ h=>h) (aI ⟨af,rfl⟩) trivial (aI trivial) ?_;refine gB (i:=15) (v:=?_) rfl ah ah ah ah (λ_ _ _ h=>h) (aK ⟨af,?_⟩) trivial (aI trivial) ?_
     rotate_left
     ·intro w a2;go_simp
      try rfl
     refine gB (i:=16) (v:=?_) rfl ah ah ah ah (λ_ _ _ h=>h) (aK ⟨af,?_⟩) trivial (aI trivial) ?_
     rotate_left
     ·intro w a2;go_simp
      try rfl
     try simp only [Act.put,j4,kL,gT,iB,lX,lT]
     refine zI ah ?_ _;refine NoPanic.normal ?_;go_wp2_with fail;go_roundw;exact⟨m,bp,(s2,d.2),C,rfl,g.o.1,g.o.2,ad,hq⟩
     ·rw[ap,aB];simp[sc];omega
theorem Gg {j:Option bB}{l m:Nat}(n:vr=Z j l m){t:cn×List b8}(h:(dj (iF c k) c.sd vr).J F t w)(hq:OQ t.2<=90000)(x:Int):
 M prog 181 #[aq c.pk,ak x] w λe w'=>∃b,e=OV (ak (k.ke t x).1)/\(dj (iF c k) c.sd vr).J b (k.ke t x).2 w'/\b9 F w b w':=by
 obtain⟨o,⟨⟨cJ,p,q⟩,d,hB⟩,s⟩:=px h;obtain⟨u,v,_⟩:=d.br x;have f:=ge s u (v.cb hB)
 have E:aA ((k.ke t x).1=(k.br t.1 x).1/\(k.ke t x).2=k.sp ((k.br t.1 x).2,t.2)):=⟨rfl,rfl⟩
 go_enter func181,ntmps181;go_wp2_with fail;refine(r8 q d x).mono ?_;rintro e w1 ⟨rfl,B,N⟩
 obtain⟨ag,hM,S⟩:=f.o.1 o _ w1 ⟨⟨cJ,p,B⟩,f.o.2⟩ N;have g:=cU hM S;go_wp2_with fail;refine(zJ n g.o.1 hq).mono ?_;rintro e ai ⟨W,rfl,ab,ad⟩
 have i:=cU ab (g.o.2.trans ad)
 go_wp2_with fail;go_ret;exact⟨W,rfl,i.o.1,i.o.2⟩
end
def kT {b:Type}(fd:b->Int->Int)(st:b->Int->b)(e:Int)(t:b)(a:Int):b:=if a+fd t a<e then st t a else t
def lA {b:Type}(fd:b->Int->Int)(st:b->Int->b)(e:Int)(t:b)(l:List Int):b:=l.foldl (kT fd st e) t
theorem zK {i:Type}(o:dr i)(fd:i->Int->Int)(st:i->Int->i)(G:Nat->i->Prop)(pk pw p f:Nat)(ag:Array a7)(ai:ef f)(l:List Int)(ad:Option bB)(cap:Nat)(e:Int)(F:Nat->Prop)(t:i)(w:az)
 (al:∀F t w a,o.J F t w->V w (av pk 0)=OR (aq pw)/\V w (av pw 0)=OR (aq p)/\M prog 224 #[aq p,ak a] w λr w'=>∃x z,r=OV (ay #[ak x,ak (fd t a),ak z])/\O w.heap.size w w')
 (am:∀t a,0<=fd t a/\fd t a<=12)(an:∀a∈l,0<=a/\a<=100000)(bp:OQ l<=100000)
 (ao:∀j F t w,j<OQ l->G j t->o.J F t w->X l j 0+fd t (X l j 0)<e->M prog f (#[ak (X l j 0)]++ag) w λr w'=>∃g,r=OV (ay #[])/\o.J g (st t (X l j 0)) w'/\b9 F w g w')
 (ap:∀j t,j<OQ l->G j t->G (j+1) (kT fd st e t (X l j 0)))(h0:G 0 t)(k:o.J F t w)(S:jn w ad l)(hn:0<OQ l->∀z,ad=OR z->¬F z.block):
 M prog 237 #[aq pk,Z ad (OQ l) cap,ak e,.func (.func f) #[] ag] w λr w'=>∃g,r=OV (ay #[])/\o.J g (lA fd st e t l) w'/\b9 F w g w'/\G (OQ l) (lA fd st e t l):=by
 have aV:aA (∀F t w a,o.J F t w->_):=al;have a0:aA (∀j F t w,j<OQ l->G j t->o.J F t w->X l j 0+fd t (X l j 0)<e->_):=ao;have a1:aA (∀j t,j<OQ l->G j t->_):=ap;have a2:aA (∀g w',b9 F w g w'->_):=λg w' n=>S.keep n.fr.size (λhp z e=>n.fr.block _ (by obtain⟨b,br,ar,hb,_⟩:=S hp;rw[e] at ar;cases ar;exact hb) (hn hp z e))
 have bb:aA (_):=an;have bd:aA (∀t a,_):=am;have bs:∀(args:Array a7)(w:az),_=_:=ai;clear al ao ap S hn an am ai;go_enter func237,ntmps237;go_wp2_with fail
 go_loopw [15] (λiv wr=>∃(j:Nat)(d:Nat->Prop)(c:i),j<=OQ l/\iv=ak j/\aA (lA fd st e t (l.take j)=c)/\aA (G j c)/\o.J d c wr/\b9 F w d wr) (λiv _=>OQ l-K (bG iv))
 case atStart=>exact⟨0,F,t,a4 _,rfl,rfl,h0,k,b9.refl _ _⟩
 case round=>
  clear h0 k;obtain⟨j,d,c,bt,rfl,W,ab,k,n⟩:=hrel;by_cases q:j<OQ l
  ·obtain⟨bx,b0,be,b1,hc⟩:=a2.o d wr n aa;have b2:=hc j q;subst be;have aB:X l j 0∈l:=by rw[aM,aP q];exact a_ q
   have b3:=bb.o _ aB;have aF:aA (lA fd st e t (l.take (j+1))=kT fd st e c (X l j 0)):=by
    show _=_;rw[h_ l j q 0];unfold lA;rw[lD];have:=W.o;unfold lA at this
    rw[this];rfl
   have aR:aA (_):=a1.o j c q ab.o;have s:=λw h=>a0.o j d c w q ab.o h;obtain⟨b4,b5,L⟩:=aV.o d c wr (X l j 0) k;have b6:=bd.o c (X l j 0)
   have N:=cU k n;have s:aA (∀w,o.J d c w->X l j 0+fd c (X l j 0)<e->_):=s;clear hc aB k n;by_cases hw:X l j 0+fd c (X l j 0)<e
   ·have u:aA (kT fd st e c (X l j 0)=st c (X l j 0)):=by show _=_;unfold kT;rw[aN hw]
    have bg:aA (∀w,o.J d c w->_):=λw h=>s.o w h hw;clear s;generalize X l j 0=a at*;generalize fd c a=m at*;generalize st c a=bi at*;go_wp2_with fail;refine L.mono ?_;rintro r w1 ⟨x,z,rfl,v⟩
    go_wp2_with fail;refine(bg.o w1 (o.below N.o.1 v)).mono ?_;rintro r b7 ⟨bl,rfl,bn,bo⟩
    have B:=cU bn ((N.o.2.below v).trans bo)
    go_wp2_with fail;go_roundw;exact⟨j+1,bl,bi,aa,aj,by show _=_;rw[aF.o,u.o],by show G _ _;rw[<-u.o];exact aR.o,B.o.1,B.o.2⟩
    simp[bG];omega
   ·have u:aA (kT fd st e c (X l j 0)=c):=by show _=_;unfold kT;rw[aJ hw]
    clear s;generalize X l j 0=a at*;generalize fd c a=m at*;go_wp2_with fail;refine L.mono ?_;rintro r w1 ⟨x,z,rfl,v⟩
    have B:=cU (o.below N.o.1 v) (N.o.2.below v)
    go_wp2_with fail;go_roundw;exact⟨j+1,d,c,aa,aj,by show _=_;rw[aF.o,u.o],by show G _ _;rw[<-u.o];exact aR.o,B.o.1,B.o.2⟩
    simp[bG];omega
  ·obtain rfl:j=OQ l:=aa;rw[ba] at W;go_wp2_with fail;go_end0;rw[W.o];exact⟨d,rfl,k,n,ab.o⟩
section
variable {c:hY}{k:cf}{F:Nat->Prop}{s:cn}{w:az}
def cf.md (k:cf)(c:hY)(s:cn)(a:Int):cn:=if(gR k.N c.c a&&bJ c.M (cN k.N a))=C then k.lk s a else s
theorem cf.Gh (k:cf)(c:hY)(s:cn)(l:List Int):k.lm c.c c.M s l=lA (λs a=>pf (k.ld s a)) (k.md c) s.nx s l:=rfl
theorem CI.md (h:CI k s)(c:hY){a:Int}(ha:(k.N:Int)<=a)(b:a<=2000):CI k (k.md c s a)/\Cl k s (k.md c s a):=by
 unfold cf.md;split
 ·exact h.lk ha b
 ·exact⟨h,Cl.of (ez.refl _ _)⟩
theorem Gj:ef 240:=g9 func240 ah rfl
theorem Gk (bx:Nat)(h:(dq (eJ c k) bx (jN c)).J F s w)(q:CI k s)(a:Int)(a0:(k.N:Int)<=a)(a1:a<=2000)(t:OQ s.wk<=10000)(u:OQ s.ep<=10000):
 Calls prog 240 #[ak a,aq bx] w λe w'=>∃j,e=OV (ay #[])/\(dq (eJ c k) bx (jN c)).J j (k.md c s a) w'/\b9 F w j w':=by
 have l:=cg h;have v:=cg q;obtain⟨ab,⟨cJ,ad,h0⟩,m,ag,ai⟩:=h;have x:V w (av bx 0)=OR (aq c.pk):=aD m
 have lx:=cj m;obtain⟨c0,_,_,_,_,_,al,_,_,_,_,_,B,_,_⟩:=eK h0;have D:=Ff a w B aa aa aa;cases hd:(gR k.N c.c a&&bJ c.M (cN k.N a))
 ·have E:k.md c s a=s:=by unfold cf.md;rw[hd];rfl
  rw[E];rw[hd] at D;go_enter func240,ntmps240;go_wp2_with fail;refine D.mono ?_;rintro e w1 ⟨rfl,f⟩
  go_wp2;go_end0;exact⟨F,rfl,(dq (eJ c k) bx (jN c)).below l.o f,b9.of f⟩
 ·have E:k.md c s a=k.lk s a:=by unfold cf.md;rw[aN hd]
  rw[E];rw[hd] at D;go_enter func240,ntmps240;go_wp2_with fail;refine D.mono ?_;rintro e w1 ⟨rfl,f⟩
  have am:=(f.cell (p:=av bx 0) lx).trans x;have N:=(dq (eJ c k) bx (jN c)).below l.o f;obtain⟨an,g1,g2,g3,g4⟩:=N;have L:=zv g1 v.o a a0 a1 t u;have S:=jm g2 g3 g4 f;go_wp2_with fail;refine L.mono ?_;rintro e n ⟨i,rfl,W,g⟩
  have o:aA ((dq (eJ c k) bx (jN c)).J (λb=>i b\/b=bx) (k.lk s a) n/\b9 F w (λb=>i b\/b=bx) n):=by
   obtain⟨g2,g3,g4,f⟩:=S.o;refine⟨⟨i,W,(g.fr.block bx (cj g2) g3).trans g2,λd=>(g.sub bx d).elim g3 (λd=>by have:=cj g2;omega),λb=>gp⟩,⟨(Fr.of (X:=F) f).trans (g.fr.mono (λb hb=>(g4 b).2 (aK hb))) (λ_ d=>aK d),λb hb=>?_⟩⟩
   rcases hb with hb|hb
   ·exact(g.sub b hb).elim (λd=>aK ((g4 b).2 (aK d))) (λd=>aI (by have:=f.size;omega))
   ·exact aK ((g4 b).2 (aI hb))
  go_wp2;go_end0;exact⟨_,rfl,o.o.1,o.o.2⟩
theorem Gm (h:(eJ c k).J F s w)(i:CI k s)(ai:s.wk=[])(al:s.ep=[]):
 Calls prog 177 #[aq c.pk] w λe w'=>∃am,e=OV (ay #[])/\(eJ c k).J am (k.lm c.c c.M s (dM k.N k.y s.g s.ws)) w'/\b9 F w am w'/\CI k (k.lm c.c c.M s (dM k.N k.y s.g s.ws))/\eD k (k.lm c.c c.M s (dM k.N k.y s.g s.ws))/\(k.lm c.c c.M s (dM k.N k.y s.g s.ws)).nx=s.nx:=by
 have an:=cg h;have p:=ge i ai al;have n1:=i.hN';have bx:=i.hO;have b0:=i.hg;have q:=aw w (jN c)
 have a0:=(eJ c k).below h q;obtain⟨cJ,u,h0⟩:=a0;obtain⟨c0,_,c2,_,_,ao,_⟩:=eK h0;obtain⟨n,_⟩:=ju h0;have P:=rU _ n;have a1:=cg q;clear h i h0 n q ai al;go_enter func177,ntmps177;go_wp2_with fail;refine P.mono ?_;clear P;rintro e w1 ⟨v1,v2,rfl,a2,o,ap⟩
 obtain⟨b1,b2,rfl⟩:=e7 a2;obtain⟨bb,bd,rfl⟩:=e7 o;have hb:=a1.o.trans (ap.mono ac)
 have be:=(eJ c k).below an.o hb;have ar:w1.heap[I (G w)]?=OR (jN c):=(ap.block _ ac).trans (aO _ _)
 have b3:V w1 (av (I (G w)) 0)=OR (aq c.pk):=aD ar
 obtain⟨cJ,u,v⟩:=be;obtain⟨b4,_,b5,_,_,b6,_⟩:=eK v;have b7:OQ (dM k.N k.y s.g s.ws)<=2000:=jp _ _;have x:∀a∈dM k.N k.y s.g s.ws,(k.N:Int)<=a/\a<=2000:=λa ha=>by have:=r6 a ha;omega
 have B:∀b,F b->_:=(eJ c k).lt an.o;have hX:(dq (eJ c k) (I (G w)) (jN c)).J (λb=>F b\/b=I (G w)) s w1:=⟨F,⟨cJ,u,v⟩,ar,λd=>by have:=B _ d;omega,λb=>gp⟩
 have bg:=(dq (eJ c k) (I (G w)) (jN c)).below hX (aH _ w1).drew;have E:=zK (dq (eJ c k) (I (G w)) (jN c)) (λs a=>pf (k.ld s a)) (k.md c) (λj s1=>CI k s1/\OQ s1.wk<=j/\OQ s1.ep<=j/\s1.nx=s.nx) c.pk c.pw c.p 240 #[aq (I (G w))] Gj (dM k.N k.y s.g s.ws) bb bd s.nx (λb=>F b\/b=I (G w)) s w1.drew
  (by
    rintro F t aB a ⟨b8,⟨cJ,u,g1⟩,_⟩
    obtain⟨c0,_,_,_,_,ao,_⟩:=eK g1;obtain⟨n,_⟩:=ju g1;refine⟨c0,ao,(hC a aB n).mono ?_⟩
    rintro r w' ⟨rfl,hb⟩
    exact⟨_,_,rfl,hb⟩)
  (λt a=>du _) (λa ha=>by have:=x a ha;omega) aa
  (by
    rintro j F t aB l ⟨g1,g2,g3,g4⟩ bi _;have hm:(dM k.N k.y s.g s.ws).getD j 0∈dM k.N k.y s.g s.ws:=by rw[aM,aP l];exact a_ l
    have:=x _ hm;exact Gk (I (G w)) bi g1 _ this.1 this.2 aa aa)
  (by
    rintro j t l ⟨g1,g2,g3,g4⟩
    have hm:(dM k.N k.y s.g s.ws).getD j 0∈dM k.N k.y s.g s.ws:=by rw[aM,aP l];exact a_ l
    have hb:=x _ hm;unfold kT;split
    ·obtain⟨f,g⟩:=g1.md c hb.1 hb.2;have:=g.wk;have:=g.ep;exact⟨f,aa,aa,g.nx.trans g4⟩
    ·exact⟨g1,aa,aa,g4⟩)
  ⟨p.o.1,by rw[p.o.2.1];simp,by rw[p.o.2.2];simp,rfl⟩ bg ((ir o).below (aH _ w1).drew)
  (λhp z e=>by
    obtain⟨b,cap,bl⟩:=fi o hp;cases bl;cases e;have bn:=(cu o b rfl).1;simp at bn;rintro(d|d)
    ·have d:F b:=d;have:=B b d;omega
    ·have d:b=I (G w):=d;omega)
 rw[<-cf.Gh] at E;have aF:=cU B hb;obtain⟨s2,aR⟩:∃s2,k.lm c.c c.M s (dM k.N k.y s.g s.ws)=s2:=⟨_,rfl⟩
 rw[aR] at E;have bo:=cg aR;go_wp2_with fail
 go_region_held3 (λw'=>V w' (av (I (G w)) 0)=OR (aq c.pk)/\V w' (av c.pk 2)=OR (ak s.nx)) (go_keep)
  (first
    |(go_at_call 237;refine E.mono ?_;clear E;rintro e N ⟨ca,rfl,⟨S,g1,g2,g3,g4⟩,W,f,g,ab,m⟩;obtain⟨bp,br,ad⟩:=g1;obtain⟨_,_,bs,_⟩:=eK ad;have g1:(eJ c k).J S s2 N:=⟨bp,br,ad⟩;rw[m] at bs;have bt:=jm f g ab m;clear ad f g ab m;have cb:V N (av (I (G w)) 0)=OR (aq c.pk):=aD g2;have aV:aA (_/\b9 F w S N):=⟨g1,⟨((Fr.of (X:=F) aF.o.2).drew).trans W.fr (λb d=>d.imp id (λd=>by omega)),λb d=>(W.sub b ((g4 b).2 (aK d))).elim (λd=>d.imp id (λd=>by omega)) (λd=>aI (by have:=aF.o.2.size;simp at d;omega))⟩⟩;clear g1 g2 g3 g4 W))
 have ag:aA (CI k s2/\eD k s2/\s2.nx=s.nx):=by obtain⟨f,g,ab,m⟩:=bt.o;have v:=f.i0;exact⟨f,⟨aa,aa⟩,m⟩
 go_wp2_with fail;go_end0;rw[bo.o];exact⟨S,rfl,aV.o.1,aV.o.2,ag.o.1,ag.o.2.1,ag.o.2.2⟩
end
structure Wc where
 pw:Nat
 p:Nat
 q:Nat
 pc:Nat
 sd:Nat
 nb:Nat
 N:Nat
 O:Nat
structure eL where
 y:Nat
 g:Nat
 ws:List Int
 M:List Int
 rs:List Int
structure eg (a:Wc)(own:Nat->Nat)(s:eL)(cW:Nat)(w:az):Prop where
 ar:At w a.p a.q a.N a.O s.y s.g s.ws
 a1:own a.p=1
 a2:own a.q=1
 cd:Cd w a.pc cW a.N (dT a.O) s.M
 c1:own a.pc=2
 c2:own cW=2
 wd:w.heap[a.pw]?=OR (OX #[aq a.p,aq a.pc,aq a.sd,Z (au a.nb) 12 12] 125 (0,0))
 w1:own a.pw=3
 rt:w.heap[a.nb]?=OR (OX (s.rs.map (Value.int OW)).toArray 2 (0,0))
 rl:OQ s.rs=12
 r1:own a.nb=4
 le:∀b,own b<=4
 lt:∀b,own b≠0->b<I (G w)
theorem eg.keep {a:Wc}{own:Nat->Nat}{s:eL}{cW:Nat}{w w':az}(h:eg a own s cW w)(hs:I (G w)<=I (G w'))(hk:∀b,own b≠0->w'.heap[b]?=w.heap[b]?):eg a own s cW w':=
 {
  ar:=h.ar.same (by grind [a1]) (by grind [a2]),a1:=h.a1,a2:=h.a2
  cd:=h.cd.same (by grind [c1]) (by grind [c2]),c1:=h.c1,c2:=h.c2
  wd:=(by grind [w1,wd]),w1:=h.w1
  rt:=(by grind [r1,rt]),rl:=h.rl,r1:=h.r1,le:=h.le,lt:=λb hb=>aL (h.lt b hb) hs}
def eH (a:Wc):dr eL where
 J F s w:=∃own cW,eg a own s cW w/\∀b,F b↔own b≠0
 lt:=by rintro F s w ⟨own,cW,h,c⟩ b hb;exact h.lt b ((c b).1 hb)
 keep:=by rintro F s w w' ⟨own,cW,h,c⟩ hs hk;exact⟨own,cW,h.keep hs (λb hb=>hk b ((c b).2 hb)),c⟩
section
variable {a:Wc}{F:Nat->Prop}{s:eL}{w:az}
theorem l_ (h:(eH a).J F s w):At w a.p a.q a.N a.O s.y s.g s.ws/\∀w' y g ws,At w' a.p a.q a.N a.O y g ws->dl a.p a.q w w'->(eH a).J F {s with y:=y,g:=g,ws:=ws} w'/\b9 F w F w':=by
 obtain⟨own,cW,h,d⟩:=h;refine⟨h.ar,λw' y g ws ha c=>⟨⟨own,cW,?_,d⟩,⟨⟨c.os,c.tape,c.output,c.size,λb hb hn=>(by grind [dl.block,eg.a1,eg.a2])⟩,λ_ h=>aK h⟩⟩⟩
 have hb:∀b,b<I (G w)->own b≠1->_=_:=λb hb hn=>c.block b hb (λe=>hn (by rw[e];exact h.a1)) (λe=>hn (by rw[e];exact h.a2))
 exact {
  ar:=ha,a1:=h.a1,a2:=h.a2,c1:=h.c1,c2:=h.c2,w1:=h.w1,rl:=h.rl,r1:=h.r1,le:=h.le,lt:=λb hb=>aL (h.lt b hb) c.size
  cd:=h.cd.same (hb _ h.cd.fw (by grind [eg.c1])) (hb _ h.cd.fz (by grind [eg.c2]))
  wd:=(by grind [eg.wd,eg.w1])
  rt:=(by grind [eg.rt,eg.r1])}
theorem zL (h:(eH a).J F s w)(i:Nat)(x:Int):(eH a).J F {s with rs:=s.rs.set i x} (O8 w ⟨a.nb,i,Y⟩ (OY OW x))/\b9 F w F (O8 w ⟨a.nb,i,Y⟩ (OY OW x)):=by
 obtain⟨own,cW,h,c⟩:=h;have fr:Fr (λb=>b=a.nb) w (O8 w ⟨a.nb,i,Y⟩ (OY OW x)):=(by grind [Fr.set,Fr.refl])
 refine⟨⟨own,cW,?_,c⟩,⟨(by grind [Fr.mono,eg.r1]),λ_ h=>aK h⟩⟩
 have hb:∀b,b<I (G w)->own b≠4->_=_:=λb hb hn=>fr.block b hb (λe=>hn (by rw[e];exact h.r1))
 exact {
  a1:=h.a1,a2:=h.a2,c1:=h.c1,c2:=h.c2,w1:=h.w1,r1:=h.r1,le:=h.le,lt:=λb hb=>aL (h.lt b hb) fr.size
  rl:=by grind [eg.rl]
  ar:=h.ar.same (hb _ h.ar.fw (by grind [eg.a1])) (hb _ h.ar.fz (by grind [eg.a2]))
  cd:=h.cd.same (hb _ h.cd.fw (by grind [eg.c1])) (hb _ h.cd.fz (by grind [eg.c2]))
  wd:=(by grind [eg.wd,eg.w1])
  rt:=by simp only [World.setCell,bE,if_true,h.rt,bH];simp[List.map_set]}
theorem zM (h:(eH a).J F s w):∃cW,Cd w a.pc cW a.N (dT a.O) s.M/\∀w' c M,Cd w' a.pc c a.N (dT a.O) M->dl a.pc cW w w'->(c=cW\/I (G w)<=c)->∃g,(eH a).J g {s with M:=M} w'/\b9 F w g w':=by
 obtain⟨own,cW,h,i⟩:=h;refine⟨cW,h.cd,λw' c M hc d hp=>⟨λb=>F b\/b=c,⟨λb=>if b=c then 2 else own b,c,?_,λb=>?_⟩,⟨⟨d.os,d.tape,d.output,d.size,λb hb hn=>(by grind [dl.block,eg.c1,eg.c2])⟩,λb hb=>(by grind [eg.c2])⟩⟩⟩
 ·have hb:∀b,b<I (G w)->own b≠2->_=_:=λb hb hn=>d.block b hb (λe=>hn (by rw[e];exact h.c1)) (λe=>hn (by rw[e];exact h.c2))
  have f:∀b j,own b=j->j≠0->j≠2->(if b=c then 2 else own b)=j:=λb j e h0 k=>by grind [eg.c2,eg.lt]
  exact {
   cd:=hc,a1:=f _ _ h.a1 ae ae,a2:=f _ _ h.a2 ae ae,w1:=f _ _ h.w1 ae ae,r1:=f _ _ h.r1 ae ae,c2:=by grind,c1:=by grind [eg.c1]
   rl:=h.rl
   ar:=h.ar.same (hb _ h.ar.fw (by grind [eg.a1])) (hb _ h.ar.fz (by grind [eg.a2]))
   wd:=(by grind [eg.wd,eg.w1])
   rt:=(by grind [eg.rt,eg.r1])
   le:=λb=>by
    split
    ·decide
    ·exact h.le b
   lt:=λb hb=>by
    by_cases e:b=c
    ·rw[e];exact hc.fz
    grind [eg.lt,dl.size,aL]}
 grind
theorem kU (h:(eH a).J F s w):V w (av a.pw 0)=OR (aq a.p)/\V w (av a.pw 1)=OR (aq a.pc)/\V w (av a.pw 2)=OR (aq a.sd)/\V w (av a.pw 3)=OR (Z (au a.nb) 12 12)/\a.pw<I (G w)/\OQ s.rs=12/\a.nb<I (G w)/\∀i,i<12->V w (av a.nb i)=OR (ak (X s.rs i 0))/\w.frozen? (av a.nb i)=O4:=by
 obtain⟨own,cW,h,c⟩:=h;have b:=h.wd;have hl:=h.rl;refine⟨by simp[World.cell?,b],by simp[World.cell?,b],by simp[World.cell?,b],by simp[World.cell?,b],cj b,hl,cj h.rt,λi hi=>⟨?_,?_⟩⟩
 ·simp[World.cell?,h.rt,List.getElem?_map,List.getElem?_eq_getElem (show i<OQ s.rs by omega),List.getD_eq_getElem?_getD]
 ·simp[World.frozen?,h.rt]
end
abbrev Gn (a:Wc):Obj:=OX #[aq a.p,aq a.pc,aq a.sd,Z (au a.nb) 12 12] 125 (0,0)
def se (pk ct bx:Nat)(nx:Int)(a:Wc)(y g:Nat)(ws:List Int):dr (List Int) where
 J F U w:=(w.heap[pk]?=OR (OX #[aq a.pw,.map (OR ct),ak nx,Z Y 0 0,Z Y 0 0] 254 (0,0))/\Mp w ct U (λ_=>-1)/\At w a.p a.q a.N a.O y g ws/\w.heap[a.pw]?=OR (Gn a)/\w.heap[bx]?=OR (OX #[aq pk] 251 (0,0)))/\(ct≠pk/\ct≠a.pw/\ct≠a.p/\ct≠a.q/\ct≠bx)/\∀b,F b↔(b=pk\/b=ct\/b=a.pw\/b=a.p\/b=a.q\/b=bx)
 lt:=by
  rintro F U w ⟨⟨e,f,d,i,j⟩,_,c⟩ b hb;rcases(c b).1 hb with rfl|rfl|rfl|rfl|rfl|rfl
  ·exact cj e
  ·exact f.lt
  ·exact cj i
  ·exact d.fw
  ·exact d.fz
  ·exact cj j
 keep:=by rintro F U w w' ⟨⟨e,f,d,i,j⟩,hn,c⟩ hs hk;exact⟨⟨(hk _ ((c _).2 (aK rfl))).trans e,f.same (hk _ ((c _).2 (aI (aK rfl)))),d.same (hk _ ((c _).2 (aI (aI (aI (aK rfl)))))) (hk _ ((c _).2 (aI (aI (aI (aI (aK rfl))))))),(hk _ ((c _).2 (aI (aI (aK rfl))))).trans i,(hk _ ((c _).2 (aI (aI (aI (aI (aI rfl))))))).trans j⟩,hn,c⟩
theorem Gp:ef 238:=g9 func238 ah rfl
theorem Gq {pk ct bx:Nat}{nx:Int}{a:Wc}{y g:Nat}{ws:List Int}{F:Nat->Prop}{c:List Int}{w:az}(h:(se pk ct bx nx a y g ws).J F c w)(v:Int)(v0:0<=v)(v1:v<=100000)(s:OQ c<=100000):
 M prog 238 #[ak v,aq bx] w λe w'=>∃d,e=OV (ay #[])/\(se pk ct bx nx a y g ws).J d (c++[v]) w'/\b9 F w d w':=by
 obtain⟨⟨f,⟨D,o1,k,l⟩,m,n,i⟩,hn,o⟩:=h;have c1:V w (av pk 1)=OR (.map (OR ct)):=aD f
 have t:V w (av bx 0)=OR (aq pk):=aD i
 go_wp2_with (first
  |(refine wpList_mapUpdate_own _ rfl _ _ _ 158 rfl 3 3 js underlying158 _ ct (OQ c) D rfl o1 (by unfold maxLen;omega) _ _ _ rfl rfl (j7 (a:=v) v0 aa) _ [] (om (-1) ae) ?_;intro u p j)
  |go_in)
 go_end0;have hb:∀b,b<I (G w)->b≠ct->_=_:=λb hb q=>j.block b hb (by simpa using q)
 refine⟨rfl,F,⟨⟨(hb _ (by grind) aa).trans f,Mp.add (by assumption) k l rfl rfl p,m.same (by grind [At.fw]) (by grind [At.fz]),(hb _ (by grind) aa).trans n,(hb _ (by grind) aa).trans i⟩,hn,o⟩,⟨((Fr.refl _ w).grown j (by grind)),λ_ h=>aK h⟩⟩
def ot (N y g:Nat)(ws:List Int):List Int:=(eQ N y g ws).filter (λa=>decide (a+pf (ld N y g ws a)<y))
theorem zN (h:Int->Int)(e:Int):∀(l b:List Int),lA (λ_ a=>h a) (λb a=>b++[a]) e b l=b++l.filter (λa=>decide (a+h a<e))
 |[],b=>by simp[lA]
 |a::l,b=>by
  have c:=zN h e l;have d:lA (λ_ a=>h a) (λb a=>b++[a]) e b (a::l)=lA (λ_ a=>h a) (λb a=>b++[a]) e (kT (λ_ a=>h a) (λb a=>b++[a]) e b a) l:=rfl
  grind [kT]
theorem Gr {a:Wc}{F:Nat->Prop}{s:eL}{w:az}(h:(eH a).J F s w):
 Calls prog 175 #[aq a.pw] w λe w'=>∃pk ct cW i,e=OV (aq pk)/\(eJ ⟨pk,ct,a.pw,a.p,a.q,a.pc,cW,a.sd,a.nb,dT a.O,s.M⟩ ⟨a.N,a.O,s.y,ot a.N s.y s.g s.ws⟩).J i ⟨s.g,s.ws,λ_=>-1,(a.N:Int)+s.g,[],[],s.rs⟩ w'/\b9 F w i w':=by
 have ca:=@run_makeMap prog;obtain⟨own,cW,hM,ad⟩:=h;have an:aA (eg a own s cW w/\∀b,F b↔own b≠0):=⟨hM,ad⟩
 have c0:V w (av a.pw 0)=OR (aq a.p):=by have ao:=hM.wd;simp[World.cell?,ao]
 have ap:=cj hM.wd;have g:=hM.ar;have n1:=g.hN';have cc:=g.hO;have bo:=g.hg;have n4:=g.hy;have ce:=g.hN;clear hM ad;go_enter func175,ntmps175;go_wp2_with fail;refine(lZ w g).mono ?_;rintro e w1 ⟨rfl,o⟩
 have c1:=(o.cell (p:=av a.pw 0) ap).trans c0;have aB:=g.below o aa;go_wp2_with fail;refine(n8 w1 aB).mono ?_;rintro e c ⟨rfl,aF⟩
 have q:=o.trans (aF.mono o.size)
 have c2:=(q.cell (p:=av a.pw 0) ap).trans c0;have aR:=g.below q aa;have cf:=q.size;have l2:a.pw<I (G c):=aa;clear o aF aB c1;have u:Below (I (G c)) c (bu (bu (bu c (.map #[] 0)) (OX #[bq (OR ⟨a.pw,0,Y⟩),.map (OR (I (G c))),OY OW ((a.N:Int)+s.g),Z Y 0 0,Z Y 0 0] 254)) (OX #[bq (OR ⟨I (G c)+1,0,Y⟩)] 251)):=(((aH _ c).alloc aa _).alloc ac _).alloc (by simp;omega) _;have S:=aR.below u aa;have c3:=(u.cell (p:=av a.pw 0) l2).trans c2;have P:=rU _ S;obtain⟨W,l⟩:∃W,W=bu (bu (bu c (.map #[] 0)) (OX #[bq (OR ⟨a.pw,0,Y⟩),.map (OR (I (G c))),OY OW ((a.N:Int)+s.g),Z Y 0 0,Z Y 0 0] 254)) (OX #[bq (OR ⟨I (G c)+1,0,Y⟩)] 251):=(by grind)
 have aV:aA (I (G W)=I (G c)+3/\Below (I (G c)) c W/\Mp W (I (G c)) [] (λ_=>-1)/\W.heap[I (G c)+1]?=OR (OX #[aq a.pw,.map (OR (I (G c))),ak ((a.N:Int)+s.g),Z Y 0 0,Z Y 0 0] 254 (0,0))/\W.heap[I (G c)+2]?=OR (OX #[aq (I (G c)+1)] 251 (0,0))/\At W a.p a.q a.N a.O s.y s.g s.ws):=by
  rw[<-l] at u S;refine⟨by simp_all,u,?_,?_,?_,S⟩
  ·have bp:=World.ownsMap_made c prog 3 (plainElem (H:=Unit) prog 3)
   refine Mp.same (w:=bu c (.map #[] 0)) ⟨_,bp,λ_=>rfl,λa ha=>by grind⟩ ?_
   grind [aU,bh]
  ·rw[l,aU _ _ _ ac];simpa using aO (bu c (.map #[] 0)) (OX #[bq (OR ⟨a.pw,0,Y⟩),.map (OR (I (G c))),OY OW ((a.N:Int)+s.g),Z Y 0 0,Z Y 0 0] 254)
  ·rw[l];simpa using aO (bu (bu c (.map #[] 0)) (OX #[bq (OR ⟨a.pw,0,Y⟩),.map (OR (I (G c))),OY OW ((a.N:Int)+s.g),Z Y 0 0,Z Y 0 0] 254)) (OX #[bq (OR ⟨I (G c)+1,0,Y⟩)] 251)
 have a0:=cg l;rw[<-l] at P;clear u S l;go_wp2_with fail;rw[<-a0.o];refine P.mono ?_;clear P;rintro e m ⟨v1,v2,rfl,v,bb,f⟩
 obtain⟨br,bs,rfl⟩:=e7 v;obtain⟨ch,ci,rfl⟩:=e7 bb;obtain⟨bt,B,bd,be,ag,bg⟩:=aV.o;have ck:=f.size;have cl:V m (av (I (G c)+1+1) 0)=OR (aq (I (G c)+1)):=by have:=(f.block (I (G c)+2) aa).trans ag;simp[World.cell?,this]
 have lx:I (G c)+1+1<I (G m):=aa;have cm:OQ (eQ a.N s.y s.g s.ws)<=2000:=jp _ _;have bi:∀x∈eQ a.N s.y s.g s.ws,0<=x/\x<=2000:=λx bx=>by have:=pt x bx;omega
 have ai:=an.o.1.ar;have np:=ai.fw;have nq:=ai.fz;have bl:(se (I (G c)+1) (I (G c)) (I (G c)+2) ((a.N:Int)+s.g) a s.y s.g s.ws).J (λb=>b=I (G c)+1\/b=I (G c)\/b=a.pw\/b=a.p\/b=a.q\/b=I (G c)+2) [] m:=
  ⟨⟨(f.block _ aa).trans be,bd.same (f.block _ aa),bg.below f aa,((f.block _ aa).trans (B.block _ l2)).trans (by grind [eg.wd,Below.block,Hid.out]),(f.block _ aa).trans ag⟩,⟨aa,aa,aa,aa,aa⟩,λb=>gp⟩
 have E:=zK (se (I (G c)+1) (I (G c)) (I (G c)+2) ((a.N:Int)+s.g) a s.y s.g s.ws) (λ_ x=>pf (ld a.N s.y s.g s.ws x)) (λal x=>al++[x]) (λj al=>OQ al<=j) (I (G c)+1) a.pw a.p 238 #[aq (I (G c)+1+1)] Gp (eQ a.N s.y s.g s.ws) br bs s.y _ [] m
  (by
    rintro F t bn x ⟨⟨g1,g2,g3,g4,g5⟩,_⟩
    refine⟨by simp[World.cell?,g1],by simp[World.cell?,g4],(hC x bn g3).mono ?_⟩
    grind)
  (λt x=>du _) (by grind) aa
  (by
    rintro j F t bn b0 N b1 _;have hm:(eQ a.N s.y s.g s.ws).getD j 0∈eQ a.N s.y s.g s.ws:=by grind
    have hb:=bi _ hm;have N:=N;exact Gq b1 _ hb.1 aa aa)
  (by
    intro j t b0 N;have N:=N;show OQ (kT _ _ _ _ _:List Int)<=j+1;unfold kT
    grind)
  ac bl (ir v)
  (λhp z e=>by
    obtain⟨b,cap,b2⟩:=fi v hp;cases b2;cases e;have ao:=(cu v b rfl).1
    grind)
 rw[zN (λx=>pf (ld a.N s.y s.g s.ws x)) s.y (eQ a.N s.y s.g s.ws) [],List.nil_append] at E;have b3:aA (∀b,b<I (G c)->m.heap[b]?=c.heap[b]?):=λb hb=>(by grind [Below.block])
 have k:=jm q (f.os.trans B.os) (f.tape.trans B.tape) (f.output.trans B.output)
 clear bl v bb bt B bd be ag bg aV a0 f bi ai g aR q c0 c2;go_wp2_with fail;refine E.mono ?_;clear E;rintro e ab ⟨cn,rfl,⟨⟨g1,g2,g3,g4,g5⟩,b4,b5⟩,am,_⟩
 have co:V ab (av (I (G c)+1+1) 0)=OR (aq (I (G c)+1)):=aD g5
 have cp:=cj g5;have b6:aA (∃i,(eJ ⟨I (G c)+1,I (G c),a.pw,a.p,a.q,a.pc,cW,a.sd,a.nb,dT a.O,s.M⟩ ⟨a.N,a.O,s.y,ot a.N s.y s.g s.ws⟩).J i ⟨s.g,s.ws,λ_=>-1,(a.N:Int)+s.g,[],[],s.rs⟩ ab/\b9 F w i ab):=by
  obtain⟨hM,ad⟩:=an.o;have keep:∀b,b<I (G w)->own b≠1->own b≠3->ab.heap[b]?=w.heap[b]?:=λb hb n1 bo=>
   (am.fr.block b aa (by grind [eg.w1,eg.a1,eg.a2])).trans (by grind [Hid.out,Below.block])
  have cq:=hM.lt;have lo:∀b,own b≠0->b≠I (G c)+1/\b≠I (G c):=λb hb=>by grind
  have n:∀b j,own b=j->j≠0->(if b=I (G c)+1 then 5 else if b=I (G c) then 6 else own b)=j:=λb j e h0=>by grind
  refine⟨λb=>F b\/b=I (G c)+1\/b=I (G c),⟨Z Y 0 0,Z Y 0 0,λb=>if b=I (G c)+1 then 5 else if b=I (G c) then 6 else own b,?_,λb=>?_⟩,⟨?_,λb hb=>?_⟩⟩
  ·exact {
    ar:=g3,a1:=n _ _ hM.a1 ae,a2:=n _ _ hM.a2 ae,c1:=n _ _ hM.c1 ae,c2:=n _ _ hM.c2 ae,w1:=n _ _ hM.w1 ae,r1:=n _ _ hM.r1 ae,rl:=hM.rl
    cd:=hM.cd.same (by grind [eg.c1]) (by grind [eg.c2])
    wd:=g4
    rt:=(by grind [eg.rt,eg.r1])
    cb:=g1
    k1:=by grind
    mp:=g2
    m1:=by grind
    wr:=a9 _ _ _ _
    dH:=λb e=>by simp[Value.ownBlock] at e
    er:=a9 _ _ _ _
    eo:=λb e=>by simp[Value.ownBlock] at e
    lt:=λb hb=>by grind}
  ·grind
  ·have b7:Below (I (G w)) w m:=⟨k.o.2.1.trans k.o.1.os,k.o.2.2.1.trans k.o.1.tape,k.o.2.2.2.trans k.o.1.output,aa,λb hb=>(by grind [Hid.out,Below.block])⟩
   refine(Fr.of (X:=F) b7).trans am.fr (λb d=>?_)
   grind [eg.w1,eg.a1,eg.a2]
  grind
 clear g1 g2 g3 g4 g5 b4 b5 am b3 k;go_wp2_with fail;go_ret;obtain⟨i,b8,j2⟩:=b6.o;exact⟨_,_,_,i,rfl,b8,j2⟩
section
variable {iP:Type}{o:dr iP}{bx p:Nat}{x:Obj}{vr:a7}{F:Nat->Prop}{w w':az}
theorem sf {t:iP×List b8}(h:(dj (dq o bx x) p vr).J F t w):(dj o p vr).J (λb=>F b/\b≠bx) t w/\w.heap[bx]?=OR x/\F bx:=by obtain⟨m,ad,cap,⟨d,g1,g2,g3,g4⟩,f,g,i,j,k,n,q⟩:=h;have l:=(g4 bx).2 aa;exact⟨⟨d,ad,cap,g1,f,g,λb hb=>(by grind),⟨j,λe=>k (by simp_all)⟩,λc=>(by grind),λb e=>(by grind),λb hb=>(by grind)⟩,g2,i _ l⟩
theorem jO {t:iP×List b8}(h:(dj o p vr).J F t w):∃d,o.J d t.1 w/\∀{m:Type}(f:dr m) c g w',f.J c g w'->b9 d w c w'->∃i,(dj f p vr).J i (g,t.2) w'/\b9 F w i w':=by
 obtain⟨d,ad,cap,n,j,q,s,u,v,x,B⟩:=h;refine⟨d,n,λf c g w' l b=>?_⟩
 have lp:=cj j;refine⟨λk=>F k\/c k,⟨c,ad,cap,l,(b.fr.block p lp v).trans j,cK q (λk e=>b.fr.block k (by grind) (by grind)),λk h=>aI h,aK u,λh=>(by grind [b9.sub]),λk e=>⟨aK (x k e).1,λh=>(b.sub k h).elim (by grind) (by grind)⟩,λk h=>?_⟩,b.fr.mono s,λk h=>?_⟩
 ·rcases h with h|h
  ·exact aL (by grind) b.fr.size
  ·exact f.lt l k h
 ·rcases h with h|h
  ·grind
  ·exact(b.sub k h).imp (by grind) id
end
def Gs (b:Type):dr b where
 J _ _ _:=False
 lt:=λh=>h.elim
 keep:=λh=>h.elim
def et (b:Type):gh (b×List b8):=dj (Gs b) 0 (Z Y 0 0)
def cf.fB (k:cf)(t:cn×List b8)(r:List b8):cn×List b8:=gu (et cn) (λs x=>k.al s.1 x) k.ke t r
def cf.sR (k:cf)(t:cn×List b8)(r:List b8):List b8:=fp (et cn) (λs x=>k.al s.1 x) k.ke (λs x=>k.nw s.1 x) t r
def cf.j8 (k:cf)(t:cn×List b8)(r:List b8):List b8:=fq (et cn) (λs x=>k.al s.1 x) k.ke (λs x=>k.nw s.1 x) t r
theorem qA {b:Type}(is:b->Int->Bool)(kp:b->Int->Int×b)(s:b×List b8):∀n,OQ (it is kp s n).1.2=OQ s.2
 |0=>rfl
 |n+1=>by
  have e:it is kp s (n+1)=dN is kp (it is kp s n) n:=by simp[it,List.range_succ]
  rw[e];have c:=qA is kp s n
  grind [dN]
theorem qB (k:cf):∀(n:Nat)(t:cn×List b8),OQ (k.de n t).2=OQ t.2
 |0,_=>rfl
 |n+1,t=>by
  unfold cf.de;split
  ·exact qB k n _
  ·split
   ·exact(qB k n _).trans (qA _ _ _ _)
   ·exact qA _ _ _ _
theorem vx (k:cf)(t:cn×List b8)(x:Int):OQ (k.ke t x).2.2=OQ t.2:=qB k _ _
section
variable {c:hY}{k:cf}{F:Nat->Prop}{s:cn}{w:az}{vr:a7}
theorem Gt (bx:Nat){g:Option bB}{i j:Nat}(l:vr=Z g i j):ob (dj (dq (iF c k) bx (jN c)) c.sd vr) (λ_=>True) (oq c).f (oq c).b (oq c).c k.ke:=by
 intro F t w x _ hn m;have hn:OQ (k.ke t x).2.2<=90000:=hn;obtain⟨n,f,q⟩:=sf m;rw[vx] at hn;refine(Gg l n hn x).mono ?_;rintro r w' ⟨o,rfl,hM,e⟩
 have lx:=cj f;have p:_:=λd=>(e.sub bx d).elim (λd=>d.2 rfl) (λd=>by omega)
 refine⟨λb=>o b\/b=bx,rfl,lv hM ((e.fr.block bx lx (λd=>d.2 rfl)).trans f) p,e.fr.mono (by grind),λb d=>?_⟩
 rcases d with d|d
 ·exact(e.sub b d).imp (λd=>d.1) id
 ·simp_all
theorem Gu (bx:Nat){e:Option bB}{f g:Nat}(i:vr=Z e f g):ni (dj (dq (iF c k) bx (jN c)) c.sd vr) (λ_=>True) (ly bx) (oq c) (mR c) (λs x=>k.al s.1 x) k.ke (λs x=>k.nw s.1 x) where
 ea:=zA
 gS:=F_
 en:=zB
 ha:=by
  rintro F s w x _ ⟨b,ad,cap,d,_⟩
  exact zD bx b s.1 w x trivial d
 hk:=Gt bx i
 ht:=by
  rintro F s w x _ ⟨b,ad,cap,d,_⟩
  exact ns zE b s.1 w x trivial d
 hl:=λs x=>vx k s x
theorem Gv {m:Option bB}{n:Nat}{r:List b8}(o:vr=Z m (OQ r) n){t:cn×List b8}(h:(dj (iF c k) c.sd vr).J F t w)(hr:aC w 0 247 2 vr (OQ r) (ev r))(hq:OQ t.2+OQ r<=90000)(bx:Nat)(p:w.heap[bx]?=OR (jN c))(hn:¬F bx):
 M prog 179 #[aq c.sd,.agg #[(ly bx).v,(oq c).v,(mR c).v]] w λe w'=>∃a1 c1 i,e=OV (ay #[])/\(dj (iF c k) c.sd (Z a1 (OQ (k.sR t r)) c1)).J i ((k.fB t r).1,k.j8 t r) w'/\
  aC w' 0 247 2 (Z a1 (OQ (k.sR t r)) c1) (OQ (k.sR t r)) (ev (k.sR t r))/\(∀b,OR b=A (Value.slice a1 (OQ (k.sR t r)) c1)->¬i b/\I (G w)<=b)/\Fr (λb=>F b\/b=bx) w w'/\(∀b,i b->F b\/I (G w)<=b):=by
 subst o;refine(rZ _ (λ_=>True) (ly bx) (oq c) (mR c) _ _ _ (Gu bx rfl) r m n rfl aa (by grind) _ t w (by grind) hq (lv h p hn) (iQ hr)).mono ?_;rintro e w' ⟨a1,c1,a2,c2,q,W,rfl,⟨ab,ad,cap,⟨g,g1,g2,g3,g4⟩,ag,ai,al,am,s,an,ao⟩,q3,u,j,f,l,v,ap,x,ar,B⟩
 have j:w'.heap[c.sd]?=OR (OX #[Z a1 (OQ (k.sR t r)) c1,Z a2 (OQ (k.j8 t r)) c2] 197 (0,0)):=j;have f:=f;have l:=l;have aB:∀b,g b->q b:=λb hb=>(by grind)
 have N:∀b,g b->b≠c.sd:=λb hb e=>s (by simp_all)
 have S:=(iF c k).keep (w':=w') g1 u (λb hb=>q3 b (by grind) (N b hb))
 have aF:F c.sd:=by obtain⟨_,_,_,_,_,_,_,aR,_⟩:=h;omega
 refine⟨a1,c1,λb=>g b\/b=c.sd\/OR b=A (Value.slice a2 (OQ (k.j8 t r)) c2),rfl,⟨g,a2,c2,S,j,fA l aa,λb hb=>(by grind),aI (aK rfl),λd=>(by grind),λb e=>(by grind),λb hb=>?_⟩,fA f aa,λb e=>⟨λd=>?_,(cu f b e).1⟩,v,λb hb=>?_⟩
 ·grind [cu]
 ·rcases d with d|d|d
  ·exact x b e (by grind)
  ·obtain⟨aV,hc⟩:=fI f b e
   grind
  ·exact B b e d
 grind [cu]
end
theorem Gw {pk ct cW y:Nat}{a:Wc}{M T:List Int}{F:Nat->Prop}{s:cn}{w:az}(h:(eJ ⟨pk,ct,a.pw,a.p,a.q,a.pc,cW,a.sd,a.nb,dT a.O,M⟩ ⟨a.N,a.O,y,T⟩).J F s w):∃d,(eH a).J d ⟨y,s.g,s.ws,M,s.rs⟩ w/\(∀b,d b->F b)/\¬d pk:=by
 obtain⟨cJ,f,own,h,g⟩:=h;have c:∀b j,own b=j->j<=4->(if own b<=4 then own b else 0)=j:=λb j e i=>by simp_all
 refine⟨λb=>(if own b<=4 then own b else 0)≠0,⟨λb=>if own b<=4 then own b else 0,cW,?_,λb=>gp⟩,λb hb=>(by grind),λhb=>hb ?_⟩
 ·exact {
   ar:=h.ar,a1:=c _ _ h.a1 ae,a2:=c _ _ h.a2 ae,cd:=h.cd,c1:=c _ _ h.c1 ae,c2:=c _ _ h.c2 ae,wd:=h.wd,w1:=c _ _ h.w1 ae,rt:=h.rt,rl:=h.rl,r1:=c _ _ h.r1 ae
   le:=λb=>by grind
   lt:=λb hb=>h.lt b (by grind)}
 ·have:=h.k1
  grind
structure cv where
 s:eL
 r:List b8
 q:List b8
def gC (a:Wc):dr cv where
 J F S w:=∃d ar c,(dj (eH a) a.sd (Z ar (OQ S.r) c)).J d (S.s,S.q) w/\aC w 0 247 2 (Z ar (OQ S.r) c) (OQ S.r) (ev S.r)/\(∀b,OR b=A (Value.slice ar (OQ S.r) c)->¬d b)/\∀b,F b↔(d b\/OR b=A (Value.slice ar (OQ S.r) c))
 lt:=by
  rintro F S w ⟨d,ar,c,g,i,j,f⟩ b hb;rcases(f b).1 hb with hb|hb
  ·exact(dj (eH a) a.sd (Z ar (OQ S.r) c)).lt g b hb
  ·exact(cu i b hb).2
 keep:=by rintro F S w w' ⟨d,ar,c,g,i,j,f⟩ hs hk;exact⟨d,ar,c,(dj (eH a) a.sd (Z ar (OQ S.r) c)).keep g hs (λb hb=>hk b ((f b).2 (aK hb))),cK i (λb e=>hk b ((f b).2 (aI e))),j,f⟩
section
variable {N y g:Nat}{ws:List Int}{hi:Int}
theorem sg:∀(k:Nat)(a:Int),(e4 N y g ws hi k a).Nodup
 |0,a=>by exact List.nodup_nil
 |k+1,a=>by
  unfold e4;split
  ·split
   ·rw[List.nodup_cons];refine⟨λh=>?_,sg k _⟩
    have b:=(oa k _ _ h).1;have c:=du (ld N y g ws a)
    omega
   grind
  grind
theorem zO:∀(k:Nat)(a x:Int),x∈e4 N y g ws hi k a->pc (ld N y g ws x)=0
 |0,a,x,h=>by simp[e4] at h
 |k+1,a,x,h=>by
  unfold e4 at h;split at h
  ·split at h
   ·rcases List.mem_cons.1 h with h|h
    ·grind
    ·exact zO k _ x h
   grind
  grind
theorem zP:∀(k:Nat)(a:Int),(((e4 N y g ws y k a).filter (λa=>decide (a+pf (ld N y g ws a)<y))).map (λa=>1+K (pf (ld N y g ws a)))).sum<=K ((y:Int)-a)
 |0,a=>by simp[e4]
 |k+1,a=>by
  unfold e4;split
  ·split
   ·have b:=zP k (a+(1+pf (ld N y g ws a)))
    have c:=du (ld N y g ws a)
    grind
   ·simp
  ·simp
end
def eL.k0 (a:Wc)(s:eL):cf:=⟨a.N,a.O,s.y,ot a.N s.y s.g s.ws⟩
def eL.s0 (a:Wc)(s:eL):cn:=⟨s.g,s.ws,λ_=>-1,(a.N:Int)+s.g,[],[],s.rs⟩
theorem CI.start {a:Wc}{s:eL}(hN:16<=a.N)(hN':a.N<=256)(hO:a.O<=1024)(hy:s.y<=a.N)(hg:s.g<=a.O)(hl:OQ s.ws=a.N+a.O)(hr:s.y<=a.O-s.g):CI (s.k0 a) (s.s0 a):=by
 have d:∀x∈ot a.N s.y s.g s.ws,x∈eQ a.N s.y s.g s.ws/\x+pf (ld a.N s.y s.g s.ws x)<s.y:=λx c=>by grind [ot]
 refine⟨hN,hN',hO,hy,hg,hl,λx c=>?_,(sg 2000 0).filter _,?_,?_,?_,by simp[eL.s0],by simp[eL.s0],?_⟩
 ·obtain⟨b,i⟩:=d x c;exact⟨(pt x b).1,zO _ _ _ b,by show x+1+pf (ld a.N s.y s.g s.ws x)<=s.y;omega⟩
 ·have b:=zP (N:=a.N) (y:=s.y) (g:=s.g) (ws:=s.ws) 2000 0;have e:(s.k0 a).sz (s.s0 a)=(((e4 a.N s.y s.g s.ws s.y 2000 0).filter (λx=>decide (x+pf (ld a.N s.y s.g s.ws x)<s.y))).map (λx=>1+K (pf (ld a.N s.y s.g s.ws x)))).sum:=by
   unfold cf.sz;have f:(s.k0 a).T.filter (λx=>(s.s0 a).f x==-1)=(s.k0 a).T:=List.filter_eq_self.2 (λ_ _=>rfl)
   rw[f];rfl
  show _<=a.O-s.g;omega
 ·show(a.N:Int)<=(a.N:Int)+s.g;omega
 ·show(a.N:Int)+s.g<=(a.N:Int)+a.O+13;omega
 ·exact aQ (List.length_filter_le _ _) (jp _ _)
def eL.s1 (a:Wc)(s:eL):cn:=(s.k0 a).cO (s.s0 a) 12
def eL.s2 (a:Wc)(s:eL):cn:=(s.k0 a).lm (dT a.O) s.M (s.s1 a) (dM a.N s.y (s.s1 a).g (s.s1 a).ws)
def cv.t3 (a:Wc)(S:cv):cn×List b8:=(S.s.k0 a).sp (S.s.s2 a,S.q)
def cv.s4 (a:Wc)(S:cv):cn:=((S.s.k0 a).fB (S.t3 a) S.r).1
def cv.s5 (a:Wc)(S:cv):cn:=(S.s.k0 a).mw (S.s4 a) (S.s4 a).wk
def cv.s6 (a:Wc)(S:cv):cn:=(S.s.k0 a).be (S.s5 a) (S.s5 a).ep
def cv.full (a:Wc)(S:cv):Bool:=decide (a.O-S.s.g<S.s.y)
def cv.cut (a:Wc)(S:cv):cv:=if S.full a=C then S else⟨⟨0,(S.s6 a).g,(S.s6 a).ws,[],(S.s6 a).rs⟩,(S.s.k0 a).sR (S.t3 a) S.r,(S.s.k0 a).j8 (S.t3 a) S.r⟩
def cv.code (a:Wc)(S:cv):Int:=if S.full a=C then 3 else 0
end Go.Proofs.YtjckpdepffejnaaGreatDoor
