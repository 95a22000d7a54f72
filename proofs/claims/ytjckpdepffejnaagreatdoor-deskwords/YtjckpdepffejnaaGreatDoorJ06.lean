import Derived.Test.YtjckpdepffejnaaGreatDoorJ05
import Derived.OrdersHeld
open Array renaming getElem?_modify->bE,setIfInBounds_comm->Bi,size->I
open Bool renaming false->OU,true->C
open Go renaming Addr->bB,Calls->M,Value->a7
open Go.Ending renaming returned->OL
open Go.IntKind renaming i64->OM
open Go.Obj renaming cells->ON
open Go.Proofs.Tryz renaming prog->O
open Go.RowKit renaming Below->J,intOf->bG
open Go.Value renaming bool->bA,int->OP,ownBlock->OY,pointer->bq,slice->Z,tuple->ay
open Go.World renaming alloc->bu,cell?->V,heap->G,ownsRow->aC,setCell->A
open Iff renaming rfl->bX
open Int renaming toNat->K
open List renaming contains->bJ,foldl_append->la,getD->U,getElem_cons_succ->kg,getElem_cons_zero->fo,getElem_toArray->jl,length->OG,setIfInBounds_toArray->iy,set_cons_succ->lG,set_cons_zero->lT
open Option renaming map_some->bH,none->Y,some->OH
namespace Go.Proofs.YtjckpdepffejnaaGreatDoor
set_option maxRecDepth 100000
set_option maxHeartbeats 2000000
open Tryz
open Go.RowKit W Kp ch
theorem r9 {P:Prop}(h:P:=by go_ret;rw[E2.o.1,E2.o.2];exact⟨_,by simp[hll],⟨_,_,uY.o.1⟩,⟨uY.o.2,λb hb=>hb.elim (zp.o b) (λe=>aI (zq.o b e))⟩⟩):P:=h
theorem uZ {P:Prop}(h:P:=by rw[aU _ _ _ ac];exact aO _ _):P:=h
section
variable {c:hQ}{k:cf}{F:Nat->Prop}{s:cn}{w:az}
theorem FZ (h:(eI c k).J F s w)(aB:CI k s)(hB:eC k s):
 M O 244 #[aq c.pk] w λe w'=>∃bn,e=OL (bA (k.kv s).1)/\(eI c k).J bn (k.kv s).2 w'/\b9 F w bn w':=by
 obtain⟨ch,hi,ci,cj,ck⟩:=info_parts lY;obtain⟨cJ,cv,h⟩:=h;obtain⟨c0,_,_,_,cl,cw,_,_,_,cx,_,er,_,lk,_⟩:=eJ h;obtain⟨cy,_⟩:=uV h (aI cl)
 obtain⟨ad,cap,rfl⟩:=e5 er;have bo:=cg aB;have cz:=cg h;have cA:=hB.ep;have bp:=aB.iZ;have br:=cg bp;have bs:aA (k.kv s=(decide (OG (k.em s s.ep).1<OG s.ep),{(k.em s s.ep).2 with ep:=(k.em s s.ep).1})):=rfl;have cB:(0:Int)<=k.N:=aa;clear aB hB bp;go_enter func244,ntmps244;go_wp2_with fail
 go_loopw [3,12] (λvr iv wr=>∃(j:Nat)(R:List Int)(s1:cn)(ar:Option bB)(d:Nat)(g:Nat->Prop),j<=OG s.ep/\iv=ak j/\aA (k.em s (s.ep.take j)=(R,s1))/\vr=Z ar (OG R) d/\aC wr (I (G w)) 3 1 (Z ar (OG R) d) (OG R) (R.map (Value.int OM))/\(da c k cJ (Z ad (OG s.ep) cap)).J g s1 wr/\b9 F w g wr/\aA (∀b,OH b=OY (Value.slice ar (OG R) d)->¬g b)/\aA (CI k s1/\ez k s s1)) (λ_ iv _=>OG s.ep-K (bG iv))
 exact⟨0,[],s,Y,0,F,a4 _,rfl,rfl,rfl,a9 _ _ _ _,h,b9.refl _ _,λb e=>by simp[Value.ownBlock] at e,⟨bo.o,ez.refl _ _⟩⟩
 ·
   obtain⟨j,R,s1,ar,d,g,v,rfl,B,rfl,i,o,m,N,S⟩:=hrel;obtain⟨bt,_,_,_,bx,b0,_,_,_,aF,_,W,_,cC,_⟩:=eJ o;have b1:=aF 4;have cm:=S.o.2.ep;rw[cm] at W;have cD:OG R<=10000:=by have ab:=(bo.o.em (s.ep.take j) (λa ha=>(br.o a (List.mem_of_mem_take ha)).1)).2.2.1;rw[B.o] at ab;simp at ab;omega
   by_cases am:j<OG s.ep
   ·obtain⟨p,q,co,cE,hc⟩:=im W aa;have aR:=hc j am;subst co;have b2:U s.ep j 0∈s.ep:=by rw[aN,aP am];exact a_ am
    have cp:=br.o _ b2;have aV:aA (k.em s (s.ep.take (j+1))=k.cW (R,s1) (U s.ep j 0)):=by
     show _=_;rw[h7 s.ep j am 0];unfold cf.em;rw[la];have:=B.o;unfold cf.em at this
     rw[this];rfl
    generalize U s.ep j 0=a at aR cp aV;obtain⟨b3,_⟩:=js o;have L:=kK (a+1) wr b3;have b5:ld k.N k.y s1.g s1.ws (a+1)=k.ld s1 (a+1):=rfl;rw[b5] at L;have n:=cY o m;have cF:=m.fr.size;have cq:aA (∀b,OH b=OY (Value.slice ar (OG R) d)->b<I (G wr)):=λb e=>(cu i b e).2;clear hc b2 o m b3 b5 aF;cases hls:k.ls s1 (k.ld s1 (a+1))
    ·have a0:aA (k.em s (s.ep.take (j+1))=(R,k.kf (k.kf s1 (a+1)) (a+2))):=by show _=_;rw[aV.o];unfold cf.cW;rw[hls];rfl
     generalize k.ld s1 (a+1)=x at L hls;go_wp2_with fail;refine L.mono ?_;clear L;rintro e w1 ⟨rfl,f⟩
     have P:=pt ((da c k cJ (Z (OH ⟨p,q,Y⟩) (OG s.ep) cap)).below n.o.1 f) x;rw[hls] at P;clear aR bt b0 bx b1 W;go_wp2_with fail;refine P.mono ?_;clear P;rintro e b6 ⟨rfl,ag⟩
     have hb:=f.trans (ag.mono f.size)
     clear f ag;go_wp2_with fail;refine(r7 ((da c k cJ (Z (OH ⟨p,q,Y⟩) (OG s.ep) cap)).below n.o.1 hb) S.o.1 (a+1)).mono ?_;rintro e cG ⟨rfl,b7,b8⟩
     obtain⟨ai,al⟩:=S.o.1.kf (a:=a+1) aa;have t:=jk b7 ((b9.of hb).trans b8) ai al;clear b7 b8 ai al hb;go_wp2_with fail;refine(r7 t.o.1 t.o.2.2.1 (a+2)).mono ?_;rintro e a1 ⟨rfl,an,ao⟩
     obtain⟨ai,al⟩:=t.o.2.2.1.kf (a:=a+2) aa;have a2:=t.o.2.1.trans ao;have ap:=jk an (n.o.2.trans a2) ai ((S.o.2.trans t.o.2.2.2).trans al)
     have bb:=il i a2.fr (λb e=>N.o b e)
     clear an ao ai al a2 i t;go_wp2_with fail;go_roundw;exact⟨j+1,R,_,ar,d,g,aa,aj,a0,rfl,bb,ap.o.1,ap.o.2.1,N,⟨ap.o.2.2.1,ap.o.2.2.2⟩⟩
     simp[bG];omega
    ·have a0:aA (k.em s (s.ep.take (j+1))=(R++[a],s1)):=by show _=_;rw[aV.o];unfold cf.cW;rw[aM hls]
     generalize k.ld s1 (a+1)=x at L hls;go_wp2_with fail;refine L.mono ?_;clear L;rintro e w1 ⟨rfl,f⟩
     have P:=pt ((da c k cJ (Z (OH ⟨p,q,Y⟩) (OG s.ep) cap)).below n.o.1 f) x;rw[hls] at P;clear aR bt b0 bx b1 W;go_wp2_with fail;refine P.mono ?_;clear P;rintro e b6 ⟨rfl,ag⟩
     have hb:=f.trans (ag.mono f.size)
     have bd:=cK i (λb e=>hb.block b (cq.o b e))
     have cH:=hb.size;clear f ag;go_wp2_with (at_builtin;refine wpList_append_own_at _ rfl _ _ 136 rfl (I (G w)) 3 ch (ak 0) 1 8 underlying136 hi ci cj ck rfl ae (Z ar (OG R) d) (OG R) (R.map (Value.int OM)) rfl (gq bd _) ⟨I (G b6),0,Y⟩ 1 1 [ak a] rfl rfl ?_ ?_ ?_ ?_ ?_ ?_;(intro j u v;match j,v with|0,v=>(simp at v;subst v;simp[Addr.add]));(intro u ca;simp at ca;subst ca;rfl);(unfold maxLen;omega);omega;(simp;omega);intro cI a1 be bg _ cb;obtain⟨b4,bi,cr⟩:=ff be (Nat.succ_pos _);subst cr)
     have bb:aC a1 (I (G w)) 3 1 (Z (au b4) (OG (R++[a])) bi) (OG (R++[a])) ((R++[a]).map (Value.int OM)):=by simpa using be
     have bl:=(da c k cJ (Z (OH ⟨p,q,Y⟩) (OG s.ep) cap)).below n.o.1 hb;have an:=rN (da c k cJ (Z (OH ⟨p,q,Y⟩) (OG s.ep) cap)) bl bg (λb e=>N.o b e)
     have ao:b9 F w g a1:=⟨((n.o.2.below hb).fr.alloc _).grown bg (λb e=>aI (cu bd b e.symm).1),n.o.2.sub⟩
     have cs:aA (∀b,OH b=OY (Value.slice (au b4) (OG (R++[a])) bi)->¬g b):=λb e cc=>by
      have ct:=cb.imp id (λe=>by simpa[Value.ownBlock] using e)
      simp[Value.ownBlock] at e;subst e;rcases ct with e|e
      ·exact N.o _ e cc
      ·have:=(da c k cJ (Z (OH ⟨p,q,Y⟩) (OG s.ep) cap)).lt bl _ cc;omega
     clear bl be bg cb bd i hb;go_wp2_with fail;go_roundw;exact⟨j+1,R++[a],s1,au b4,bi,g,aa,aj,a0,ac,bb,an,ao,cs,S⟩
     simp[bG];omega
   ·obtain rfl:j=OG s.ep:=aa;rw[bc] at B;obtain⟨cd,ce⟩:=zj o (v1:=Z ar (OG R) d) (l:=R) (Fr.refl _ wr) (fz i (λ_ _=>a4 _)) (λb e=>aI (N.o b e))
    have uY:=cY cd (m.fr.trans ce m.sub)
    have zq:aA (∀b,OH b=OY (Value.slice ar (OG R) d)->I (G w)<=b):=λb e=>(cu i b e).1;have zp:=cg m.sub;have E2:aA ((k.kv s).1=decide (OG R<OG s.ep)/\(k.kv s).2={s1 with ep:=R}):=by have ab:=bs.o;rw[B.o] at ab;rw[ab];exact⟨rfl,rfl⟩
    clear cd ce o m i W B bs aF;by_cases hll:OG R<OG s.ep
    ·go_wp2_with fail;exact r9
    ·go_wp2_with fail;exact r9
end
theorem u_ {w:az}{base size n g cap:Nat}{e:TypeId}{b:List a7}(h:aC w base e size (Z (au g) n cap) n b)(i:Nat)(u:a7):aC (A w ⟨g,i,Y⟩ u) base e size (Z (au g) n cap) n (b.set i u):=by
 refine⟨by rw[List.length_set];exact h.1,?_⟩
 rcases h.2 with⟨hv,_⟩|⟨k,l,c,hv,hb,hg,d,f,m,j⟩
 ·grind
 ·obtain⟨rfl,rfl⟩:=hv;refine aI ⟨g,cap,c.setIfInBounds i u,rfl,hb,?_,d,f,by grind,?_⟩
  ·simp only [World.setCell,bE,if_true,hg,bH];rfl
  ·rw[Array.toList_setIfInBounds,List.take_set,j]
theorem vd:∀(l:List b8)(i:Nat)(g z:Int),ev (l.set i (g,z))=((ev l).set (i*2) (ak g)).set (i*2+1) (ak z)
 |[],_,_,_=>rfl
 |e::l,0,g,z=>by rfl
 |e::l,i+1,g,z=>by have b:ev (e::l)=ak e.1::ak e.2::ev l:=af;have c:ev ((e::l).set (i+1) (g,z))=ak e.1::ak e.2::ev (l.set i (g,z)):=af;rw[b,c,(vd l i g z),show(i+1)*2=i*2+1+1 by omega];simp
theorem zr {ab:Type}(o:dr ab)(p:Nat)(vr:a7):rZ (dj o p vr) where
 yY:=by
  rintro F s w ⟨l,ad,cap,m,d,n,N,c,t,x,S⟩ w1 q a1 c1 hb f;have c:F p:=c;have lp:=ck d;have j:∀k,k≠p->(A w1 ⟨p,1,Y⟩ (Z a1 (OG q) c1)).heap[k]?=w1.heap[k]?:=λk hk=>aW _ _ _ _ hk;have hs:I (G (A w1 ⟨p,1,Y⟩ (Z a1 (OG q) c1)))=I (G w1):=by simp[World.setCell]
  have ao:=hb.size;refine⟨l,a1,c1,o.keep (o.below m hb) (by simp_all) (λk h=>j k (by grind)),?_,fz (cK f (λk e=>j k (by have:=(cu f k e).1;omega))) aa,λk h=>(by grind),aK c,t,λk e=>?_,λk h=>?_⟩
  ·have ag:=(hb.block p lp).trans d;show(A w1 ⟨p,1,Y⟩ _).heap[p]?=_;simp only [World.setCell,bE,if_true,ag,bH];rfl
  ·exact⟨aI e,λh=>by have ap:=S k (by grind);have:=(cu f k e).1;omega⟩
  ·show k<I (G (A w1 ⟨p,1,Y⟩ _));rw[hs];rcases h with h|h
   ·grind
   ·exact(cu f k h).2
 yZ:=by
  rintro F s w ⟨l,ai,B,m,d,n,N,c,t,x,S⟩ ad cap hp i hi g z;have hp:w.heap[p]?=OH (ON #[vr,Z ad (OG s.2) cap] 197 (0,0)):=hp;have hi:i<OG s.2:=hi;have he:=d.symm.trans hp;obtain⟨rfl,rfl⟩:=he;obtain⟨b,rfl⟩:∃b,ai=OH _:=by
   rcases n.2 with⟨_,h0⟩|⟨al,ar,am,hv,_⟩
   ·omega
   ·simp at hv;exact⟨al,hv.1⟩
  obtain⟨am,W⟩:=fI n b rfl;have an:b≠p:=λe=>by grind
  have j:∀(u v:a7) k,k≠b->(A (A w ⟨b,0+i*2,Y⟩ u) ⟨b,0+i*2+1,Y⟩ v).heap[k]?=w.heap[k]?:=λu v k hk=>(by grind [aW])
  have hs:∀(u v:a7),I (G (A (A w ⟨b,0+i*2,Y⟩ u) ⟨b,0+i*2+1,Y⟩ v))=I (G w):=λu v=>by simp[World.setCell]
  refine⟨b,0,rfl,(x b rfl).1,an,by simp[World.frozen?,W],by simp[World.frozen?,W],l,au b,B,o.keep m (by grind) (λk h=>j _ _ k (λe=>(x b rfl).2 (by grind))),?_,?_,N,c,t,?_,?_⟩
  ·show((w.setCell _ _).setCell _ _).heap[p]?=OH (ON #[vr,Z (au b) (OG (s.2.set i (g,z))) B] 197 (0,0))
   grind
  ·show aC ((w.setCell _ _).setCell _ _) 0 247 2 (Z (au b) (OG (s.2.set i (g,z))) B) (OG (s.2.set i (g,z))) (ev (s.2.set i (g,z)))
   simp_all [vd,u_]
  ·assumption
  grind
def zt {b:Type}(o:dr b)(I:b->Prop):dr b where
 J F t w:=o.J F t w/\I t
 lt:=λh=>o.lt h.1
 keep:=λh hs hk=>⟨o.keep h.1 hs hk,h.2⟩
def dq {f:Type}(o:dr f)(bx:Nat)(x:Obj):dr f where
 J F t w:=∃c,o.J c t w/\w.heap[bx]?=OH x/\¬c bx/\∀b,F b↔(c b\/b=bx)
 lt:=by
  rintro F t w ⟨c,h,e,_,d⟩ b hb;rcases(d b).1 hb with hb|hb
  ·exact o.lt h b hb
  ·rw[hb];exact ck e
 keep:=by rintro F t w w' ⟨c,h,e,hn,d⟩ hs hk;exact⟨c,o.keep h hs (λb hb=>hk b ((d b).2 (aK hb))),(hk bx ((d bx).2 (aI rfl))).trans e,hn,d⟩
section
variable {iM:Type}{o:dr iM}{bx p:Nat}{x:Obj}{vr:a7}{F:Nat->Prop}{w w':az}
theorem pu {t:iM×List b8}(h:(dj o p vr).J F t w):∃d,o.J d t.1 w/\∀c f w',o.J c f w'->b9 d w c w'->∃j,(dj o p vr).J j (f,t.2) w'/\b9 F w j w':=by
 obtain⟨d,ad,cap,s,l,g,m,u,n,i,v⟩:=h;refine⟨d,s,λc f w' q b=>?_⟩
 have lp:=ck l;refine⟨λk=>F k\/c k,⟨c,ad,cap,q,(b.fr.block p lp n).trans l,cK g (λk e=>b.fr.block k (cu g k e).2 (i k e).2),λk h=>aI h,aK u,λh=>(b.sub p h).elim n (λh=>by omega),λk e=>⟨aK (i k e).1,λh=>(b.sub k h).elim (i k e).2 (λh=>by have:=(cu g k e).2;omega)⟩,λk h=>?_⟩,b.fr.mono m,λk h=>?_⟩
 ·rcases h with h|h
  ·exact aL (v k h) b.fr.size
  ·exact o.lt q k h
 ·rcases h with h|h
  ·exact aK h
  ·exact(b.sub k h).imp (m k) id
theorem lr {t:iM×List b8}(h:(dj o p vr).J F t w)(f:w.heap[bx]?=OH x)(hn:¬F bx):(dj (dq o bx x) p vr).J (λb=>F b\/b=bx) t w:=by obtain⟨g,ad,cap,k,l,m,i,j,n,d,q⟩:=h;refine⟨λb=>g b\/b=bx,ad,cap,⟨g,k,f,λc=>hn (i _ c),λb=>bX⟩,l,m,λb hb=>hb.imp (i b) id,aK j,λc=>c.elim n (λe=>hn (by rw[<-e];exact j)),λb e=>⟨aK (d b e).1,λc=>c.elim (d b e).2 (λs=>hn (by rw[<-s];exact(d b e).1))⟩,λb hb=>hb.elim (q b) (λe=>by rw[e];exact ck f)⟩
theorem vf {t:iM×List b8}(h:(dj (dq o bx x) p vr).J F t w):(dj o p vr).J F t w:=by obtain⟨n,ad,cap,⟨f,g1,g2,g3,g4⟩,g,i,j,k,l,d,m⟩:=h;exact⟨f,ad,cap,g1,g,i,λb hb=>j b ((g4 b).2 (aK hb)),k,λc=>l ((g4 p).2 (aK c)),λb e=>⟨(d b e).1,λc=>(d b e).2 ((g4 b).2 (aK c))⟩,m⟩
theorem vg {D:Int->Prop}{f:Nat}{b c:Array a7}{kp:iM->Int->Int×iM}(hk:pa o D f b c kp):pa (dq o bx x) D f b c kp:=by
 rintro F t w y hD ⟨k,h,d,hn,e⟩
 refine(hk k t w y hD h).mono ?_;rintro r w' ⟨g,rfl,l,i,j⟩
 refine⟨λb=>g b\/b=bx,rfl,⟨g,l,(i.block bx (ck d) hn).trans d,λc=>(j bx c).elim hn (λc=>by have:=ck d;omega),λb=>bX⟩,i.mono (λb hb=>(e b).2 (aK hb)),λb hb=>?_⟩
 rcases hb with hb|hb
 ·exact(j b hb).imp (λc=>(e b).2 (aK c)) id
 ·exact aK ((e b).2 (aI hb))
theorem nn {D:Int->Prop}{f:Nat}{b c:Array a7}{nw:iM->Int->Int}(ht:mL o D f b c nw):mL (dq o bx x) D f b c nw:=by
 rintro F t w y hD ⟨d,h,_⟩
 exact ht d t w y hD h
end
def iC (c:hQ)(k:cf):dr cn:=zt (eI c k) (λs=>CI k s/\eC k s)
abbrev jN (c:hQ):Obj:=ON #[aq c.pk] 251 (0,0)
abbrev lu (bx:Nat):gH:=⟨253,#[],#[aq bx]⟩
abbrev mQ (c:hQ):gH:=⟨255,#[aq c.pk],#[]⟩
abbrev oj (c:hQ):gH:=⟨239,#[aq c.pk],#[]⟩
abbrev om (c:hQ):gH:=⟨181,#[aq c.pk],#[]⟩
theorem zu:eh 253:=gZ func253 ah rfl
theorem zv:eh 255:=gZ func255 ah rfl
theorem F0:eh 239:=gZ func239 ah rfl
theorem F1:eh 181:=gZ func181 ah rfl
section
variable {c:hQ}{k:cf}{F:Nat->Prop}{s:cn}{w:az}
theorem zw (fv:gH)(w:az)(p:Nat):
 M O 180 #[aq p,fv.v] w λe w'=>e=OL (.agg #[(lu (I (G w))).v,fv.v,.func (.func 255) #[aq p] #[]])/\w'.heap[I (G w)]?=OH (ON #[aq p] 251 (0,0))/\J (I (G w)) w w':=by
 obtain⟨f,b,c⟩:=fv;go_enter func180,ntmps180;go_wp2_with fail;refine a3 (v:=.agg #[(lu (I (G w))).v,.func (.func f) b c,.func (.func 255) #[aq p] #[]]) (by simp[results,results180,go_sem]) rfl ⟨rfl,?_,((aH _ w).alloc bY _).alloc ac _⟩
 exact uZ
theorem zx (bx:Nat):lq (dq (iC c k) bx (jN c)) (λ_=>True) (lu bx).f (lu bx).b (lu bx).c k.al:=by
 rintro F s w x _ ⟨d,⟨⟨cJ,f,h⟩,_⟩,b,_⟩
 have P:=pt h x;have c0:V w (av bx 0)=OH (aq c.pk):=aD b
 have E:k.al s x=!k.ls s x:=rfl;go_enter func253,ntmps253;go_wp2_with fail;refine P.mono ?_;exact rL
theorem zy:mL (iC c k) (λ_=>True) (mQ c).f (mQ c).b (mQ c).c k.nw:=by
 rintro F s w x _ ⟨⟨cJ,b,h⟩,_⟩
 exact r5 h x
theorem F4:pa (iC c k) (λ_=>True) (oj c).f (oj c).b (oj c).c k.br:=by
 rintro F s w x _ ⟨⟨cJ,e,h⟩,b,hB⟩
 refine(r6 h b x).mono ?_;rintro r w' ⟨rfl,f,d⟩
 obtain⟨g,i,_⟩:=b.br x;exact⟨F,rfl,⟨⟨cJ,e,f⟩,g,i.cb hB⟩,d.fr,d.sub⟩
end
open Go
section
variable {P:Program}{ops:Array Oper}{Q:Exit->Act->az->Prop}{md:Region.Mode}{T S:az->Prop}{St:List Nat}
def came (St:List Nat)(b:Array Bool):Prop:=∃s∈St,b.getD s OU=C
def lv (P:Program)(md:Region.Mode)(ops:Array Oper)(Q:Exit->Act->az->Prop)(T S:az->Prop)(St:List Nat):Nat->Array Bool->Act->az->Prop
 |0,b,a,w=>Region.ready md ops b=[]/\Q .normal a w
 |c+1,b,a,w=>(Region.ready md ops b=[]->Q .normal a w)/\
  ∀i∈Region.ready md ops b,wpOp P ops Q i (λd w'=>(T w'/\(came St (b.setIfInBounds i C)\/S w'))/\lv P md ops Q T S St c (b.setIfInBounds i C) d w') a w
theorem vh:∀(b:Nat)(c:Array Bool)(a:Act)(w:az),lv P md ops Q T S St b c a w->wpAny P md ops Q b c a w
 |0,_,_,_,h=>h
 |b+1,_,_,_,h=>⟨h.1,λi hi=>wpOp_mono (λd w' e=>vh b _ d w' e.2) (h.2 i hi)⟩
def waits (md:Region.Mode)(ops:Array Oper)(St:List Nat)(i:Nat):Bool:=
 St.all λs=>match ops[s]? with
  |some o=>o.after.any λe=>Region.binds md e&&e.on==i
  |none=>OU
theorem F5 {i j:Nat}{b:Array Bool}(hw:waits md ops St i=C)(hi:i∈Region.ready md ops b)(c:j∈Region.ready md ops b):j∉St:=by
 intro hs;have d:=List.all_eq_true.1 hw j hs
 grind [mem_ready]
theorem zz {i:Nat}{b:Array Bool}(hn:¬came St b)(hi:i∉St):¬came St (b.setIfInBounds i C):=by
 rintro⟨s,hs,h⟩
 have c:i≠s:=λe=>(by grind)
 exact hn ⟨s,hs,by simp_all⟩
theorem OB {i:Nat}{g:Oper}{v:a7}(hi:ops[i]?=OH g)(an:i∉St)(u:waits md ops St i=C)(ao:∀(j:Nat)(o:Oper) x b,ops[j]?=OH o->o.op≠.select x b)
 (B:∀c a w,Q (.panic c) (a.put g.dst v) w->Q (.panic c) a w):
 ∀(l:Nat)(d:Array Bool)(a:Act)(w:az),
  (∀j m,ops[j]?=OH m->j≠i->d.getD j C=OU->(∀e∈m.after,Region.binds md e=C->e.on≠i)->g.apart ops m=C)->
  i∈Region.ready md ops d->¬came St d->YieldsIf P ops (λw=>T w/\S w) g v a->T w/\S w->
  lv P md ops Q T S St l (d.setIfInBounds i C) (a.put g.dst v) w->lv P md ops Q T S St (l+1) d a w:=by
 intro l
 induction l with
 |zero=>
  intro d a w _ hr _ hy p H;refine⟨λh=>(by grind),λj n=>?_⟩
  by_cases f:j=i
  ·rw[f];exact hy.wpOp hi p (by grind)
  ·have hm:=ready_mono n f;rw[H.1] at hm;simp at hm
 |succ l F=>
  intro d a w s hr N hy p H;refine⟨λh=>(by grind),λj n=>?_⟩
  by_cases f:j=i
  ·rw[f];exact hy.wpOp hi p (by grind)
  ·have W:=F5 u hr n;obtain⟨ab,m,t,ap⟩:=mem_ready.1 n;have ad:=s j m t f ab (by grind [mem_ready])
   refine wpOp_mono (λag w' h=>?_) (wpOp_putIf t ad (by grind) (by grind) B hy (H.2 j (ready_mono n f)))
   obtain⟨ai,ar,aB⟩:=h;have q:T w'/\S w':=(by grind [zz])
   refine⟨⟨q.1,aI q.2⟩,F _ ag w' (λk ok hk al aF am=>s k ok hk al ?_ am) (ready_mono hr aa) (zz N W) ai q ?_⟩
   ·by_cases aR:j=k
    ·grind
    ·simp_all
   grind [Bi]
theorem F6 {i:Nat}{g:Oper}{v:a7}(hi:ops[i]?=OH g)(an:i∉St)(ao:∀(j:Nat)(o:Oper) B b,ops[j]?=OH o->o.op≠.select B b)
 (F:∀c a w,Q (.panic c) (a.put g.dst v) w->Q (.panic c) a w):
 ∀(l:Nat)(d:Array Bool)(a:Act)(w:az),
  (∀j m,ops[j]?=OH m->j≠i->d.getD j C=OU->(∀e∈m.after,Region.binds md e=C->e.on≠i)->g.apart ops m=C)->
  i∈Region.ready md ops d->YieldsIf P ops T g v a->T w->(came St d\/S w)->
  lv P md ops Q T S St l (d.setIfInBounds i C) (a.put g.dst v) w->lv P md ops Q T S St (l+1) d a w:=by
 have up:∀{d:Array Bool}{k:Nat},came St d->came St (d.setIfInBounds k C):=fun⟨s,hs,h⟩=>⟨s,hs,getD_set_true h⟩
 intro l
 induction l with
 |zero=>
  intro d a w _ hr hy p hc H;refine⟨λh=>(by grind),λj n=>?_⟩
  by_cases f:j=i
  ·rw[f];exact hy.wpOp hi p (by grind)
  ·have hm:=ready_mono n f;rw[H.1] at hm;simp at hm
 |succ l N=>
  intro d a w t hr hy p hc H;refine⟨λh=>(by grind),λj n=>?_⟩
  by_cases f:j=i
  ·rw[f];exact hy.wpOp hi p (by grind)
  ·obtain⟨W,m,u,ap⟩:=mem_ready.1 n;have ab:=t j m u f W (by grind [mem_ready])
   refine wpOp_mono (λad w' h=>?_) (wpOp_putIf u ab (by grind) (by grind) F hy (H.2 j (ready_mono n f)))
   obtain⟨ag,q,ar⟩:=h;have x:came St (d.setIfInBounds j C)\/S w':=q.2.imp (fun⟨s,hs,h⟩=>by
    have ai:i≠s:=λe=>(by grind)
    refine⟨s,hs,?_⟩
    rw[Bi _ _ aa,getD_set_ne OU ai] at h;omega) id
   refine⟨⟨q.1,x⟩,N _ ad w' (λk ok hk al aB am=>t k ok hk al ?_ am) (ready_mono hr aa) ag q.1 x ?_⟩
   ·by_cases aF:j=k
    ·grind
    ·simp_all
   grind [Bi]
theorem gB {i:Nat}{d:Oper}{v:a7}{e:Nat}{b:Array Bool}{a:Act}{w:az}(hi:ops[i]?=OH d)
 (hs:Region.noSelect ops=C)(f:Region.free md ops b i=C)(hr:(Region.ready md ops b).contains i=C)(g:St.contains i=OU)
 (j:∀c a w,Q (.panic c) (a.put d.dst v) w->Q (.panic c) a w)(hy:YieldsIf P ops T d v a)(k:T w)(hc:came St b\/S w)
 (h:lv P md ops Q T S St e (b.setIfInBounds i C) (a.put d.dst v) w):lv P md ops Q T S St (e+1) b a w:=
 (by grind [F6,Region.noSelect_spec,Region.free_spec])
theorem zA {i:Nat}{o:Oper}{K:Act->az->Prop}{a:Act}{w:az}(hi:ops[i]?=OH o)(hg:Region.wanted o (yielded ops a.tmps)=C)(h:o.wp P a w K Q):wpOp P ops Q i K a w:=by
 unfold wpOp;rw[hi];dsimp only
 grind
theorem zB {i:Nat}{c:Nat}{b:Array Bool}{a:Act}{w:az}(hr:Region.ready md ops b=[i])
 (h:wpOp P ops Q i (λd w'=>(T w'/\(came St (b.setIfInBounds i C)\/S w'))/\lv P md ops Q T S St c (b.setIfInBounds i C) d w') a w):lv P md ops Q T S St (c+1) b a w:=
 ⟨λh0=>(by simp_all),λj e=>(by simp_all)⟩
theorem zC {b:Array Bool}{a:Act}{w:az}(hr:Region.ready md ops b=[])(h:Q .normal a w):∀c,lv P md ops Q T S St c b a w
 |0=>⟨hr,h⟩
 |_+1=>⟨λ_=>h,by rw[hr];simp⟩
end
def lenOf (w:az)(p:Nat):Nat:=match V w (av p 4) with
 |some (Z _ n _)=>n
 |_=>0
def vi (w:az)(p:Nat):Int:=match V w (av p 6) with
 |some (OP _ v)=>v
 |_=>0
def vj (c:hQ)(k:cf)(w:az):Nat:=K (k.N+k.O+13-r8 w c.pk)+lenOf w c.pk+(k.O-K (vi w c.p))
def r_:a7->Nat
 |bA C=>1
 |_=>0
section
variable {c:hQ}{k:cf}{F:Nat->Prop}{s:cn}{w:az}{vr:a7}
theorem vk (h:(eI c k).J F s w):vj c k w=k.mu s:=by
 obtain⟨cJ,i,h⟩:=h;obtain⟨_,_,c2,_,b,_,_,_,_,_,_,er,_⟩:=eJ h;obtain⟨d,_⟩:=js h;obtain⟨ad,cap,e⟩:=e5 er;have f:lenOf w c.pk=OG s.ep:=by unfold lenOf;rw[b,e]
 have g:vi w c.p=s.g:=by unfold vi;rw[d.cells.2.2.2.2.2.2]
 unfold vj cf.mu;rw[uX c2,f,g,Int.toNat_natCast]
theorem F7 {f:Option bB}{g i:Nat}(j:vr=Z f g i){t:cn×List b8}(h:(dj (iC c k) c.sd vr).J F t w)(hq:OG t.2<=90000)(bx:Nat)(l:w.heap[bx]?=OH (jN c))(hn:¬F bx):
 M O 245 #[aq c.sd,.agg #[(lu bx).v,(oj c).v,(mQ c).v]] w λe w'=>∃d,e=OL (bA (k.wa t).2)/\(dj (iC c k) c.sd vr).J d (k.wa t).1 w'/\Fr (λb=>F b\/b=bx) w w'/\(∀b,d b->F b\/b=bx\/I (G w)<=b):=by
 refine(y6 _ (zr _ _ _) (λ_=>True) (lu bx) (oj c) (mQ c) _ _ _ (rY _ c.sd vr (λ_=>True) (lu bx) (oj c) (mQ c) k.al k.br k.nw zu F0 zv (zx bx) (vg F4) (nn zy)) f g i j _ t w hq (λ_ _=>⟨trivial,trivial⟩) (lr h l hn)).mono ?_;rintro e w' ⟨d,rfl,m,n,hs⟩
 exact⟨d,rfl,vf m,n,λb hb=>(hs b hb).elim (λc=>c.elim aK (λc=>aI (aK c))) (λc=>aI (aI c))⟩
theorem zD {bx:Option bB}{b0 b1:Nat}(b2:vr=Z bx b0 b1){t:cn×List b8}(h:(dj (iC c k) c.sd vr).J F t w)(hq:OG t.2<=90000):
 M prog 178 #[aq c.pk] w λe w'=>∃bb,e=OL (ay #[])/\(dj (iC c k) c.sd vr).J bb (k.sp t) w'/\b9 F w bb w':=by
 have b3:∀(bd:Fn)(first cap:Array a7)(w:az),(Instr.makeFunc bd first cap).run prog w=.ok (.func bd first cap) w:=λ_ _ _ _=>rfl;go_enter func178,ntmps178;go_wp2_with fail
 go_loopw [2] (λar wr=>∃(n:Nat)(ag:Nat->Prop)(d:cn×List b8)(b:Bool),ar=bA b/\(dj (iC c k) c.sd vr).J ag d wr/\b9 F w ag wr/\aA (if b=C then k.mu d.1<n/\k.de n d=k.sp t else d=k.sp t)/\OG d.2<=90000) (λar wr=>2*vj c k wr+r_ ar)
 exact⟨k.mu t.1+1,F,t,C,rfl,h,b9.refl _ _,⟨aa,rfl⟩,hq⟩
 ·
   obtain⟨n,ag,d,b,rfl,be,bg,bi,hq⟩:=hrel;cases b
   ·have x:=cg bi.o;go_wp2_with fail;go_end0;rw[<-x.o];exact⟨ag,rfl,be,bg⟩
   ·obtain⟨b4,b5⟩:=bi.o;obtain⟨m,rfl⟩:∃m,n=m+1:=⟨n-1,aa⟩
    obtain⟨cq,u,b6⟩:=pu be;have aB:=vk u.1;have B:=FY u.1 u.2.1 u.2.2;obtain⟨bl,bn,b7⟩:=u.2.1.lb u.2.2 (k.O+1)
    obtain⟨ca,j2,cI,cM⟩:=bl.kv bn;have f:aA (_/\_/\(CI k (k.lb (k.O+1) d.1)/\eC k (k.lb (k.O+1) d.1))/\(CI k (k.kv (k.lb (k.O+1) d.1)).2/\eC k (k.kv (k.lb (k.O+1) d.1)).2)):=⟨bg,b6,⟨bl,bn⟩,⟨ca,j2⟩⟩
    have ai:=jk b7 cI cM b4;have x:=cg b5;go_wp2_with fail;refine B.mono ?_;rintro e w1 ⟨cr,rfl,N,W⟩
    have al:=FZ ((eI c k).below N (aH _ w1).drew) f.o.2.2.1.1 f.o.2.2.1.2;have W:=W.below (aH _ w1).drew;obtain⟨cs,ct,N⟩:=N;obtain⟨cb,_,_,_,_,_,_,cc,_⟩:=eJ N;cases hkv:(k.kv (k.lb (k.O+1) d.1)).1
    ·rw[hkv] at al;have bo:aA ((if(k.wa ((k.kv (k.lb (k.O+1) d.1)).2,d.2)).2=C then k.de m (k.wa ((k.kv (k.lb (k.O+1) d.1)).2,d.2)).1 else(k.wa ((k.kv (k.lb (k.O+1) d.1)).2,d.2)).1)=k.sp t):=by
      have:=x.o;unfold cf.de at this
      rw[hkv] at this
      exact this
     have j:=CI.wa (s:=((k.kv (k.lb (k.O+1) d.1)).2,d.2)) f.o.2.2.2.1 f.o.2.2.2.2;have j:aA (OG (k.wa ((k.kv (k.lb (k.O+1) d.1)).2,d.2)).1.2<=90000/\k.mu (k.wa ((k.kv (k.lb (k.O+1) d.1)).2,d.2)).1.1<=k.mu d.1/\((k.wa ((k.kv (k.lb (k.O+1) d.1)).2,d.2)).2=C->k.mu (k.wa ((k.kv (k.lb (k.O+1) d.1)).2,d.2)).1.1<k.mu d.1)):=by refine⟨by rw[j.2.2.1];exact hq,by have:=j.2.2.2.1;dsimp only at this;omega,λe=>by have:=j.2.2.2.2 e;dsimp only at this;omega⟩
     generalize k.lb (k.O+1) d.1=s1 at*;generalize (k.kv s1).2=s2 at*;go_wp2_with fail
     go_region_held3 (λw'=>V w' (av c.pk 0)=OH (aq c.pw)/\V w' (av c.pw 2)=OH (aq c.sd)) (go_keep)
      (first
        |(go_at_call 244;refine al.mono ?_;rintro e q ⟨aF,rfl,l,am⟩;obtain⟨bp,hM,an⟩:=f.o.2.1 aF s2 q ⟨l,f.o.2.2.2⟩ (W.trans am);obtain⟨cu,cv,l⟩:=l;obtain⟨g0,_,_,_,_,_,_,aR,_⟩:=eJ l;have l0:=aT q _ g0;have cd:=aT q _ aR;have g:=cY hM (f.o.1.trans an))
        |(go_at_call 180;refine(zw (oj c) q c.pk).mono ?_;rintro e cw ⟨rfl,ce,aV⟩;have ch:=(aV.cell (p:=av c.pk 0) l0).trans g0;have ci:=(aV.cell (p:=av c.pw 2) cd).trans aR;have ab:=cY ce aV)
        |(go_at_call 245;refine(F7 b2 (t:=(s2,d.2)) ((dj (iC c k) c.sd vr).below g.o.1 ab.o.2) hq (I (G q)) ab.o.1 (λh=>by have:=(dj (iC c k) c.sd vr).lt g.o.1 _ h;omega)).mono ?_;rintro e cj ⟨a0,rfl,br,ck,cl⟩;have ao:aA (_/\b9 F w a0 cj):=⟨br,⟨(g.o.2.below ab.o.2).fr.trans ck (λb hb=>hb.elim (g.o.2.sub b) (λe=>aI (by have:=g.o.2.fr.size;omega))),λb hb=>(cl b hb).elim (g.o.2.sub b) (λh=>aI (by have o:=g.o.2.fr.size;have a1:=ab.o.2.size;omega))⟩⟩;obtain⟨cx,⟨⟨cm,co,bs⟩,_⟩,_⟩:=pu br;have ap:=vk ⟨cm,co,bs⟩;obtain⟨r0,_,_,_,_,_,_,cp,_⟩:=eJ bs))
     clear r0 cp g0 aR ch ci cb cc f g ab x b3 W;cases hbw:(k.wa (s2,d.2)).2
     ·have ad:aA (if OU=C then k.mu (k.wa (s2,d.2)).1.1<m/\k.de m (k.wa (s2,d.2)).1=k.sp t else(k.wa (s2,d.2)).1=k.sp t):=by
       have:=bo.o;rw[hbw] at this
       exact this
      go_wp2_with fail;go_roundw;exact⟨m,a0,(k.wa (s2,d.2)).1,OU,rfl,ao.o.1,ao.o.2,ad,j.o.1⟩
      ·have:=j.o.2.1;rw[ap,aB];simp[r_];omega
     ·have ad:aA (if C=C then k.mu (k.wa (s2,d.2)).1.1<m/\k.de m (k.wa (s2,d.2)).1=k.sp t else(k.wa (s2,d.2)).1=k.sp t):=by have o:=bo.o;rw[hbw] at o;have a1:=j.o.2.2 hbw;have bt:=ai.o.2.2.2;exact⟨aa,o⟩
      have a1:=j.o.2.2 hbw;go_wp2_with fail;go_roundw;exact⟨m,a0,(k.wa (s2,d.2)).1,C,rfl,ao.o.1,ao.o.2,ad,j.o.1⟩
      ·rw[ap,aB];simp[r_];omega
    ·rw[hkv] at al;have a1:k.mu (k.kv (k.lb (k.O+1) d.1)).2<k.mu d.1:=by have o:=ai.o.1;have bt:=ai.o.2.2.1 hkv;omega
     have ad:aA (if C=C then k.mu (k.kv (k.lb (k.O+1) d.1)).2<m/\k.de m ((k.kv (k.lb (k.O+1) d.1)).2,d.2)=k.sp t else((k.kv (k.lb (k.O+1) d.1)).2,d.2)=k.sp t):=by have o:=x.o;unfold cf.de at o;rw[hkv] at o;have bt:=ai.o.2.2.2;exact⟨aa,o⟩
     generalize k.lb (k.O+1) d.1=s1 at*;generalize (k.kv s1).2=s2 at*;clear N;go_wp2_with fail;refine wp_region_noPanic ?_;refine wp_region_any ah ?_;refine vh (T:=λ_=>True) (S:=λ_=>True) (St:=[]) _ _ _ _ ?_;refine gB (i:=0) (v:=?_) rfl ah ah ah ah (λ_ _ _ h=>h) (aK ⟨af,?_⟩) trivial (aI trivial) ?_
     rotate_left
     ·intro w a2;go_simp
      try rfl
     try simp only [Act.put,jl,fo,iy,lT,lG]
     refine zB (i:=1) ah ?_;refine zA rfl af ?_;simp only [jl,kg,fo];go_simp;refine al.mono ?_;rintro e q ⟨aF,rfl,l,am⟩
     obtain⟨bp,hM,an⟩:=f.o.2.1 aF s2 q ⟨l,f.o.2.2.2⟩ (W.trans am)
     have ap:=vk l;have g:=cY hM (f.o.1.trans an)
     clear l am hM an;refine gB (i:=2) (v:=?_) rfl ah ah ah ah (λ_ _ _ h=>h) (aK ⟨af,?_⟩) trivial (aI trivial) ?_
     rotate_left
     ·intro w a2;go_simp
      try rfl
     refine gB (i:=3) (v:=undef) rfl ah ah ah ah (λ_ _ _ h=>h) (aI ⟨af,rfl⟩) trivial (aI trivial) ?_;refine gB (i:=4) (v:=undef) rfl ah ah ah ah (λ_ _ _ h=>h) (aI ⟨af,rfl⟩) trivial (aI trivial) ?_;refine gB (i:=5) (v:=undef) rfl ah ah ah ah (λ_ _ _ h=>h) (aI ⟨af,rfl⟩) trivial (aI trivial) ?_;refine gB (i:=6) (v:=undef) rfl ah ah ah ah (λ_ _ _ h=>h) (aI ⟨af,rfl⟩) trivial (aI trivial) ?_
     try simp only [Act.put,jl,kg,fo,iy,lT,lG]
     refine gB (i:=7) (v:=undef) rfl ah ah ah ah (λ_ _ _ h=>h) (aI ⟨af,rfl⟩) trivial (aI trivial) ?_;refine gB (i:=8) (v:=undef) rfl ah ah ah ah (λ_ _ _ h=>h) (aI ⟨af,rfl⟩) trivial (aI trivial) ?_;refine gB (i:=9) (v:=undef) rfl ah ah ah ah (λ_ _ _ h=>h) (aI ⟨af,rfl⟩) trivial (aI trivial) ?_;refine gB (i:=10) (v:=undef) rfl ah ah ah ah (λ_ _ _ h=>h) (aI ⟨af,rfl⟩) trivial (aI trivial) ?_;refine gB (i:=11) (v:=undef) rfl ah ah ah ah (λ_ _ _ h=>h) (aI ⟨af,rfl⟩) trivial (aI trivial) ?_
     try simp only [Act.put,jl,kg,fo,iy,lT,lG]
     refine gB (i:=12) (v:=undef) rfl ah ah ah ah (λ_ _ _ h=>h) (aI ⟨af,rfl⟩) trivial (aI trivial) ?_;refine gB (i:=13) (v:=undef) rfl ah ah ah ah (λ_ _ _ h=>h) (aI ⟨af,rfl⟩) trivial (aI trivial) ?_
     try simp only [Act.put,jl,kg,fo,iy,lT,lG]
     refine gB (i:=14) (v:=undef) rfl ah ah ah ah (λ_ _ _ h=>h) (aI ⟨af,rfl⟩) trivial (aI trivial) ?_;refine gB (i:=15) (v:=?_) rfl ah ah ah ah (λ_ _ _ h=>h) (aK ⟨af,?_⟩) trivial (aI trivial) ?_
     rotate_left
     ·intro w a2;go_simp
      try rfl
     refine gB (i:=16) (v:=?_) rfl ah ah ah ah (λ_ _ _ h=>h) (aK ⟨af,?_⟩) trivial (aI trivial) ?_
     rotate_left
     ·intro w a2;go_simp
      try rfl
     try simp only [Act.put,jl,kg,fo,iy,lT,lG]
     refine zC ah ?_ _;refine NoPanic.normal ?_;go_wp2_with fail;go_roundw;exact⟨m,bp,(s2,d.2),C,rfl,g.o.1,g.o.2,ad,hq⟩
     ·rw[ap,aB];simp[r_];omega
theorem F8 {j:Option bB}{l m:Nat}(n:vr=Z j l m){t:cn×List b8}(h:(dj (iC c k) c.sd vr).J F t w)(hq:OG t.2<=90000)(x:Int):
 M O 181 #[aq c.pk,ak x] w λe w'=>∃b,e=OL (ak (k.ke t x).1)/\(dj (iC c k) c.sd vr).J b (k.ke t x).2 w'/\b9 F w b w':=by
 obtain⟨o,⟨⟨cJ,p,q⟩,d,hB⟩,s⟩:=pu h;obtain⟨u,v,_⟩:=d.br x;have f:=ge s u (v.cb hB)
 have E:aA ((k.ke t x).1=(k.br t.1 x).1/\(k.ke t x).2=k.sp ((k.br t.1 x).2,t.2)):=⟨rfl,rfl⟩
 go_enter func181,ntmps181;go_wp2_with fail;refine(r6 q d x).mono ?_;rintro e w1 ⟨rfl,B,N⟩
 obtain⟨ag,hM,S⟩:=f.o.1 o _ w1 ⟨⟨cJ,p,B⟩,f.o.2⟩ N;have g:=cY hM S;go_wp2_with fail;refine(zD n g.o.1 hq).mono ?_;rintro e ai ⟨W,rfl,ab,ad⟩
 have i:=cY ab (g.o.2.trans ad)
 go_wp2_with fail;go_ret;exact⟨W,rfl,i.o.1,i.o.2⟩
end
def kQ {b:Type}(fd:b->Int->Int)(st:b->Int->b)(e:Int)(t:b)(a:Int):b:=if a+fd t a<e then st t a else t
def ly {b:Type}(fd:b->Int->Int)(st:b->Int->b)(e:Int)(t:b)(l:List Int):b:=l.foldl (kQ fd st e) t
theorem zE {i:Type}(o:dr i)(fd:i->Int->Int)(st:i->Int->i)(G:Nat->i->Prop)(pk pw p f:Nat)(ag:Array a7)(ai:eh f)(l:List Int)(ad:Option bB)(cap:Nat)(e:Int)(F:Nat->Prop)(t:i)(w:az)
 (al:∀F t w a,o.J F t w->V w (av pk 0)=OH (aq pw)/\V w (av pw 0)=OH (aq p)/\M O 224 #[aq p,ak a] w λr w'=>∃x z,r=OL (ay #[ak x,ak (fd t a),ak z])/\Below w.heap.size w w')
 (am:∀t a,0<=fd t a/\fd t a<=12)(an:∀a∈l,0<=a/\a<=100000)(bp:OG l<=100000)
 (ao:∀j F t w,j<OG l->G j t->o.J F t w->U l j 0+fd t (U l j 0)<e->M O f (#[ak (U l j 0)]++ag) w λr w'=>∃g,r=OL (ay #[])/\o.J g (st t (U l j 0)) w'/\b9 F w g w')
 (ap:∀j t,j<OG l->G j t->G (j+1) (kQ fd st e t (U l j 0)))(h0:G 0 t)(k:o.J F t w)(S:jm w ad l)(hn:0<OG l->∀z,ad=OH z->¬F z.block):
 M O 237 #[aq pk,Z ad (OG l) cap,ak e,.func (.func f) #[] ag] w λr w'=>∃g,r=OL (ay #[])/\o.J g (ly fd st e t l) w'/\b9 F w g w'/\G (OG l) (ly fd st e t l):=by
 have aV:aA (∀F t w a,o.J F t w->_):=al;have a0:aA (∀j F t w,j<OG l->G j t->o.J F t w->U l j 0+fd t (U l j 0)<e->_):=ao;have a1:aA (∀j t,j<OG l->G j t->_):=ap;have a2:aA (∀g w',b9 F w g w'->_):=λg w' n=>S.keep n.fr.size (λhp z e=>n.fr.block _ (by obtain⟨b,br,ar,hb,_⟩:=S hp;rw[e] at ar;cases ar;exact hb) (hn hp z e))
 have bb:aA (_):=an;have bd:aA (∀t a,_):=am;have bs:∀(args:Array a7)(w:az),_=_:=ai;clear al ao ap S hn an am ai;go_enter func237,ntmps237;go_wp2_with fail
 go_loopw [15] (λiv wr=>∃(j:Nat)(d:Nat->Prop)(c:i),j<=OG l/\iv=ak j/\aA (ly fd st e t (l.take j)=c)/\aA (G j c)/\o.J d c wr/\b9 F w d wr) (λiv _=>OG l-K (bG iv))
 case atStart=>exact⟨0,F,t,a4 _,rfl,rfl,h0,k,b9.refl _ _⟩
 case round=>
  clear h0 k;obtain⟨j,d,c,bt,rfl,W,ab,k,n⟩:=hrel;by_cases q:j<OG l
  ·obtain⟨bx,b0,be,b1,hc⟩:=a2.o d wr n aa;have b2:=hc j q;subst be;have aB:U l j 0∈l:=by rw[aN,aP q];exact a_ q
   have b3:=bb.o _ aB;have aF:aA (ly fd st e t (l.take (j+1))=kQ fd st e c (U l j 0)):=by
    show _=_;rw[h7 l j q 0];unfold ly;rw[la];have:=W.o;unfold ly at this
    rw[this];rfl
   have aR:aA (_):=a1.o j c q ab.o;have s:=λw h=>a0.o j d c w q ab.o h;obtain⟨b4,b5,L⟩:=aV.o d c wr (U l j 0) k;have b6:=bd.o c (U l j 0)
   have N:=cY k n;have s:aA (∀w,o.J d c w->U l j 0+fd c (U l j 0)<e->_):=s;clear hc aB k n;by_cases hw:U l j 0+fd c (U l j 0)<e
   ·have u:aA (kQ fd st e c (U l j 0)=st c (U l j 0)):=by show _=_;unfold kQ;rw[aM hw]
    have bg:aA (∀w,o.J d c w->_):=λw h=>s.o w h hw;clear s;generalize U l j 0=a at*;generalize fd c a=m at*;generalize st c a=bi at*;go_wp2_with fail;refine L.mono ?_;rintro r w1 ⟨x,z,rfl,v⟩
    go_wp2_with fail;refine(bg.o w1 (o.below N.o.1 v)).mono ?_;rintro r b7 ⟨bl,rfl,bn,bo⟩
    have B:=cY bn ((N.o.2.below v).trans bo)
    go_wp2_with fail;go_roundw;exact⟨j+1,bl,bi,aa,aj,by show _=_;rw[aF.o,u.o],by show G _ _;rw[<-u.o];exact aR.o,B.o.1,B.o.2⟩
    simp[bG];omega
   ·have u:aA (kQ fd st e c (U l j 0)=c):=by show _=_;unfold kQ;rw[aJ hw]
    clear s;generalize U l j 0=a at*;generalize fd c a=m at*;go_wp2_with fail;refine L.mono ?_;rintro r w1 ⟨x,z,rfl,v⟩
    have B:=cY (o.below N.o.1 v) (N.o.2.below v)
    go_wp2_with fail;go_roundw;exact⟨j+1,d,c,aa,aj,by show _=_;rw[aF.o,u.o],by show G _ _;rw[<-u.o];exact aR.o,B.o.1,B.o.2⟩
    simp[bG];omega
  ·obtain rfl:j=OG l:=aa;rw[bc] at W;go_wp2_with fail;go_end0;rw[W.o];exact⟨d,rfl,k,n,ab.o⟩
section
variable {c:hQ}{k:cf}{F:Nat->Prop}{s:cn}{w:az}
def cf.md (k:cf)(c:hQ)(s:cn)(a:Int):cn:=if(gP k.N c.c a&&bJ c.M (cN k.N a))=C then k.lk s a else s
theorem cf.F9 (k:cf)(c:hQ)(s:cn)(l:List Int):k.lm c.c c.M s l=ly (λs a=>pf (k.ld s a)) (k.md c) s.nx s l:=rfl
theorem CI.md (h:CI k s)(c:hQ){a:Int}(ha:(k.N:Int)<=a)(b:a<=2000):CI k (k.md c s a)/\Cl k s (k.md c s a):=by
 unfold cf.md;split
 ·exact h.lk ha b
 ·exact⟨h,Cl.of (ez.refl _ _)⟩
theorem F_:eh 240:=gZ func240 ah rfl
theorem Ga (bx:Nat)(h:(dq (eI c k) bx (jN c)).J F s w)(q:CI k s)(a:Int)(a0:(k.N:Int)<=a)(a1:a<=2000)(t:OG s.wk<=10000)(u:OG s.ep<=10000):
 Calls O 240 #[ak a,aq bx] w λe w'=>∃j,e=OL (ay #[])/\(dq (eI c k) bx (jN c)).J j (k.md c s a) w'/\b9 F w j w':=by
 have l:=cg h;have v:=cg q;obtain⟨ab,⟨cJ,ad,h0⟩,m,ag,ai⟩:=h;have x:V w (av bx 0)=OH (aq c.pk):=aD m
 have lx:=ck m;obtain⟨c0,_,_,_,_,_,al,_,_,_,_,_,B,_,_⟩:=eJ h0;have D:=E7 a w B aa aa aa;cases hd:(gP k.N c.c a&&bJ c.M (cN k.N a))
 ·have E:k.md c s a=s:=by unfold cf.md;rw[hd];rfl
  rw[E];rw[hd] at D;go_enter func240,ntmps240;go_wp2_with fail;refine D.mono ?_;rintro e w1 ⟨rfl,f⟩
  go_wp2;go_end0;exact⟨F,rfl,(dq (eI c k) bx (jN c)).below l.o f,b9.of f⟩
 ·have E:k.md c s a=k.lk s a:=by unfold cf.md;rw[aM hd]
  rw[E];rw[hd] at D;go_enter func240,ntmps240;go_wp2_with fail;refine D.mono ?_;rintro e w1 ⟨rfl,f⟩
  have am:=(f.cell (p:=av bx 0) lx).trans x;have N:=(dq (eI c k) bx (jN c)).below l.o f;obtain⟨an,g1,g2,g3,g4⟩:=N;have L:=zo g1 v.o a a0 a1 t u;have S:=jk g2 g3 g4 f;go_wp2_with fail;refine L.mono ?_;rintro e n ⟨i,rfl,W,g⟩
  have o:aA ((dq (eI c k) bx (jN c)).J (λb=>i b\/b=bx) (k.lk s a) n/\b9 F w (λb=>i b\/b=bx) n):=by
   obtain⟨g2,g3,g4,f⟩:=S.o;refine⟨⟨i,W,(g.fr.block bx (ck g2) g3).trans g2,λd=>(g.sub bx d).elim g3 (λd=>by have:=ck g2;omega),λb=>bX⟩,⟨(Fr.of (X:=F) f).trans (g.fr.mono (λb hb=>(g4 b).2 (aK hb))) (λ_ d=>aK d),λb hb=>?_⟩⟩
   rcases hb with hb|hb
   ·exact(g.sub b hb).elim (λd=>aK ((g4 b).2 (aK d))) (λd=>aI (by have:=f.size;omega))
   ·exact aK ((g4 b).2 (aI hb))
  go_wp2;go_end0;exact⟨_,rfl,o.o.1,o.o.2⟩
theorem Gb (h:(eI c k).J F s w)(i:CI k s)(ai:s.wk=[])(al:s.ep=[]):
 Calls O 177 #[aq c.pk] w λe w'=>∃am,e=OL (ay #[])/\(eI c k).J am (k.lm c.c c.M s (dM k.N k.y s.g s.ws)) w'/\b9 F w am w'/\CI k (k.lm c.c c.M s (dM k.N k.y s.g s.ws))/\eC k (k.lm c.c c.M s (dM k.N k.y s.g s.ws))/\(k.lm c.c c.M s (dM k.N k.y s.g s.ws)).nx=s.nx:=by
 have an:=cg h;have p:=ge i ai al;have n1:=i.hN';have bx:=i.hO;have b0:=i.hg;have q:=aw w (jN c)
 have a0:=(eI c k).below h q;obtain⟨cJ,u,h0⟩:=a0;obtain⟨c0,_,c2,_,_,ao,_⟩:=eJ h0;obtain⟨n,_⟩:=js h0;have P:=rR _ n;have a1:=cg q;clear h i h0 n q ai al;go_enter func177,ntmps177;go_wp2_with fail;refine P.mono ?_;clear P;rintro e w1 ⟨v1,v2,rfl,a2,o,ap⟩
 obtain⟨b1,b2,rfl⟩:=e5 a2;obtain⟨bb,bd,rfl⟩:=e5 o;have hb:=a1.o.trans (ap.mono ac)
 have be:=(eI c k).below an.o hb;have ar:w1.heap[I (G w)]?=OH (jN c):=(ap.block _ ac).trans (aO _ _)
 have b3:V w1 (av (I (G w)) 0)=OH (aq c.pk):=aD ar
 obtain⟨cJ,u,v⟩:=be;obtain⟨b4,_,b5,_,_,b6,_⟩:=eJ v;have b7:OG (dM k.N k.y s.g s.ws)<=2000:=jo _ _;have x:∀a∈dM k.N k.y s.g s.ws,(k.N:Int)<=a/\a<=2000:=λa ha=>by have:=r4 a ha;omega
 have B:∀b,F b->_:=(eI c k).lt an.o;have hX:(dq (eI c k) (I (G w)) (jN c)).J (λb=>F b\/b=I (G w)) s w1:=⟨F,⟨cJ,u,v⟩,ar,λd=>by have:=B _ d;omega,λb=>bX⟩
 have bg:=(dq (eI c k) (I (G w)) (jN c)).below hX (aH _ w1).drew;have E:=zE (dq (eI c k) (I (G w)) (jN c)) (λs a=>pf (k.ld s a)) (k.md c) (λj s1=>CI k s1/\OG s1.wk<=j/\OG s1.ep<=j/\s1.nx=s.nx) c.pk c.pw c.p 240 #[aq (I (G w))] F_ (dM k.N k.y s.g s.ws) bb bd s.nx (λb=>F b\/b=I (G w)) s w1.drew
  (by
    rintro F t aB a ⟨b8,⟨cJ,u,g1⟩,_⟩
    obtain⟨c0,_,_,_,_,ao,_⟩:=eJ g1;obtain⟨n,_⟩:=js g1;refine⟨c0,ao,(g7 a aB n).mono ?_⟩
    rintro r w' ⟨rfl,hb⟩
    exact⟨_,_,rfl,hb⟩)
  (λt a=>du _) (λa ha=>by have:=x a ha;omega) aa
  (by
    rintro j F t aB l ⟨g1,g2,g3,g4⟩ bi _;have hm:U (dM k.N k.y s.g s.ws) j 0∈dM k.N k.y s.g s.ws:=by rw[aN,aP l];exact a_ l
    have:=x _ hm;exact Ga (I (G w)) bi g1 _ this.1 this.2 aa aa)
  (by
    rintro j t l ⟨g1,g2,g3,g4⟩
    have hm:U (dM k.N k.y s.g s.ws) j 0∈dM k.N k.y s.g s.ws:=by rw[aN,aP l];exact a_ l
    have hb:=x _ hm;unfold kQ;split
    ·obtain⟨f,g⟩:=g1.md c hb.1 hb.2;have:=g.wk;have:=g.ep;exact⟨f,aa,aa,g.nx.trans g4⟩
    ·exact⟨g1,aa,aa,g4⟩)
  ⟨p.o.1,by rw[p.o.2.1];simp,by rw[p.o.2.2];simp,rfl⟩ bg ((im o).below (aH _ w1).drew)
  (λhp z e=>by
    obtain⟨b,cap,bl⟩:=ff o hp;cases bl;cases e;have bn:=(cu o b rfl).1;simp at bn;rintro(d|d)
    ·have d:F b:=d;have:=B b d;omega
    ·have d:b=I (G w):=d;omega)
 rw[<-cf.F9] at E;have aF:=cY B hb;obtain⟨s2,aR⟩:∃s2,k.lm c.c c.M s (dM k.N k.y s.g s.ws)=s2:=⟨_,rfl⟩
 rw[aR] at E;have bo:=cg aR;go_wp2_with fail
 go_region_held3 (λw'=>V w' (av (I (G w)) 0)=OH (aq c.pk)/\V w' (av c.pk 2)=OH (ak s.nx)) (go_keep)
  (first
    |(go_at_call 237;refine E.mono ?_;clear E;rintro e N ⟨ca,rfl,⟨S,g1,g2,g3,g4⟩,W,f,g,ab,m⟩;obtain⟨bp,br,ad⟩:=g1;obtain⟨_,_,bs,_⟩:=eJ ad;have g1:(eI c k).J S s2 N:=⟨bp,br,ad⟩;rw[m] at bs;have bt:=jk f g ab m;clear ad f g ab m;have cb:V N (av (I (G w)) 0)=OH (aq c.pk):=aD g2;have aV:aA (_/\b9 F w S N):=⟨g1,⟨((Fr.of (X:=F) aF.o.2).drew).trans W.fr (λb d=>d.imp id (λd=>by omega)),λb d=>(W.sub b ((g4 b).2 (aK d))).elim (λd=>d.imp id (λd=>by omega)) (λd=>aI (by have:=aF.o.2.size;simp at d;omega))⟩⟩;clear g1 g2 g3 g4 W))
 have ag:aA (CI k s2/\eC k s2/\s2.nx=s.nx):=by obtain⟨f,g,ab,m⟩:=bt.o;have v:=f.iY;exact⟨f,⟨aa,aa⟩,m⟩
 go_wp2_with fail;go_end0;rw[bo.o];exact⟨S,rfl,aV.o.1,aV.o.2,ag.o.1,ag.o.2.1,ag.o.2.2⟩
end
structure Wc where
 pw:Nat
 p:Nat
 q:Nat
 pc:Nat
 sd:Nat
 nb:Nat
 N:Nat
 O:Nat
structure eK where
 y:Nat
 g:Nat
 ws:List Int
 M:List Int
 rs:List Int
structure ei (a:Wc)(own:Nat->Nat)(s:eK)(cV:Nat)(w:az):Prop where
 ar:At w a.p a.q a.N a.O s.y s.g s.ws
 a1:own a.p=1
 a2:own a.q=1
 cd:Cd w a.pc cV a.N (dS a.O) s.M
 c1:own a.pc=2
 c2:own cV=2
 wd:w.heap[a.pw]?=OH (ON #[aq a.p,aq a.pc,aq a.sd,Z (au a.nb) 12 12] 125 (0,0))
 w1:own a.pw=3
 rt:w.heap[a.nb]?=OH (ON (s.rs.map (Value.int OM)).toArray 2 (0,0))
 rl:OG s.rs=12
 r1:own a.nb=4
 le:∀b,own b<=4
 lt:∀b,own b≠0->b<I (G w)
theorem ei.keep {a:Wc}{own:Nat->Nat}{s:eK}{cV:Nat}{w w':az}(h:ei a own s cV w)(hs:I (G w)<=I (G w'))(hk:∀b,own b≠0->w'.heap[b]?=w.heap[b]?):ei a own s cV w':=
 {
  ar:=h.ar.same (by grind [a1]) (by grind [a2]),a1:=h.a1,a2:=h.a2
  cd:=h.cd.same (by grind [c1]) (by grind [c2]),c1:=h.c1,c2:=h.c2
  wd:=(by grind [w1,wd]),w1:=h.w1
  rt:=(by grind [r1,rt]),rl:=h.rl,r1:=h.r1,le:=h.le,lt:=λb hb=>aL (h.lt b hb) hs}
def eF (a:Wc):dr eK where
 J F s w:=∃own cV,ei a own s cV w/\∀b,F b↔own b≠0
 lt:=by rintro F s w ⟨own,cV,h,c⟩ b hb;exact h.lt b ((c b).1 hb)
 keep:=by rintro F s w w' ⟨own,cV,h,c⟩ hs hk;exact⟨own,cV,h.keep hs (λb hb=>hk b ((c b).2 hb)),c⟩
section
variable {a:Wc}{F:Nat->Prop}{s:eK}{w:az}
theorem l8 (h:(eF a).J F s w):At w a.p a.q a.N a.O s.y s.g s.ws/\∀w' y g ws,At w' a.p a.q a.N a.O y g ws->dl a.p a.q w w'->(eF a).J F {s with y:=y,g:=g,ws:=ws} w'/\b9 F w F w':=by
 obtain⟨own,cV,h,d⟩:=h;refine⟨h.ar,λw' y g ws ha c=>⟨⟨own,cV,?_,d⟩,⟨⟨c.os,c.tape,c.output,c.size,λb hb hn=>(by grind [dl.block,ei.a1,ei.a2])⟩,λ_ h=>aK h⟩⟩⟩
 have hb:∀b,b<I (G w)->own b≠1->_=_:=λb hb hn=>c.block b hb (λe=>hn (by rw[e];exact h.a1)) (λe=>hn (by rw[e];exact h.a2))
 exact {
  ar:=ha,a1:=h.a1,a2:=h.a2,c1:=h.c1,c2:=h.c2,w1:=h.w1,rl:=h.rl,r1:=h.r1,le:=h.le,lt:=λb hb=>aL (h.lt b hb) c.size
  cd:=h.cd.same (hb _ h.cd.fu (by grind [ei.c1])) (hb _ h.cd.fw (by grind [ei.c2]))
  wd:=(by grind [ei.wd,ei.w1])
  rt:=(by grind [ei.rt,ei.r1])}
theorem zF (h:(eF a).J F s w)(i:Nat)(x:Int):(eF a).J F {s with rs:=s.rs.set i x} (A w ⟨a.nb,i,Y⟩ (OP OM x))/\b9 F w F (A w ⟨a.nb,i,Y⟩ (OP OM x)):=by
 obtain⟨own,cV,h,c⟩:=h;have fr:Fr (λb=>b=a.nb) w (A w ⟨a.nb,i,Y⟩ (OP OM x)):=(by grind [Fr.set,Fr.refl])
 refine⟨⟨own,cV,?_,c⟩,⟨(by grind [Fr.mono,ei.r1]),λ_ h=>aK h⟩⟩
 have hb:∀b,b<I (G w)->own b≠4->_=_:=λb hb hn=>fr.block b hb (λe=>hn (by rw[e];exact h.r1))
 exact {
  a1:=h.a1,a2:=h.a2,c1:=h.c1,c2:=h.c2,w1:=h.w1,r1:=h.r1,le:=h.le,lt:=λb hb=>aL (h.lt b hb) fr.size
  rl:=by grind [ei.rl]
  ar:=h.ar.same (hb _ h.ar.fu (by grind [ei.a1])) (hb _ h.ar.fw (by grind [ei.a2]))
  cd:=h.cd.same (hb _ h.cd.fu (by grind [ei.c1])) (hb _ h.cd.fw (by grind [ei.c2]))
  wd:=(by grind [ei.wd,ei.w1])
  rt:=by simp only [World.setCell,bE,if_true,h.rt,bH];simp[List.map_set]}
theorem zG (h:(eF a).J F s w):∃cV,Cd w a.pc cV a.N (dS a.O) s.M/\∀w' c M,Cd w' a.pc c a.N (dS a.O) M->dl a.pc cV w w'->(c=cV\/I (G w)<=c)->∃g,(eF a).J g {s with M:=M} w'/\b9 F w g w':=by
 obtain⟨own,cV,h,i⟩:=h;refine⟨cV,h.cd,λw' c M hc d hp=>⟨λb=>F b\/b=c,⟨λb=>if b=c then 2 else own b,c,?_,λb=>?_⟩,⟨⟨d.os,d.tape,d.output,d.size,λb hb hn=>(by grind [dl.block,ei.c1,ei.c2])⟩,λb hb=>(by grind [ei.c2])⟩⟩⟩
 ·have hb:∀b,b<I (G w)->own b≠2->_=_:=λb hb hn=>d.block b hb (λe=>hn (by rw[e];exact h.c1)) (λe=>hn (by rw[e];exact h.c2))
  have f:∀b j,own b=j->j≠0->j≠2->(if b=c then 2 else own b)=j:=λb j e h0 k=>by grind [ei.c2,ei.lt]
  exact {
   cd:=hc,a1:=f _ _ h.a1 ae ae,a2:=f _ _ h.a2 ae ae,w1:=f _ _ h.w1 ae ae,r1:=f _ _ h.r1 ae ae,c2:=by grind,c1:=by grind [ei.c1]
   rl:=h.rl
   ar:=h.ar.same (hb _ h.ar.fu (by grind [ei.a1])) (hb _ h.ar.fw (by grind [ei.a2]))
   wd:=(by grind [ei.wd,ei.w1])
   rt:=(by grind [ei.rt,ei.r1])
   le:=λb=>by
    split
    ·decide
    ·exact h.le b
   lt:=λb hb=>by
    by_cases e:b=c
    ·rw[e];exact hc.fw
    grind [ei.lt,dl.size,aL]}
 grind
theorem kR (h:(eF a).J F s w):V w (av a.pw 0)=OH (aq a.p)/\V w (av a.pw 1)=OH (aq a.pc)/\V w (av a.pw 2)=OH (aq a.sd)/\V w (av a.pw 3)=OH (Z (au a.nb) 12 12)/\a.pw<I (G w)/\OG s.rs=12/\a.nb<I (G w)/\∀i,i<12->V w (av a.nb i)=OH (ak (U s.rs i 0))/\w.frozen? (av a.nb i)=OU:=by
 obtain⟨own,cV,h,c⟩:=h;have b:=h.wd;have hl:=h.rl;refine⟨by simp[World.cell?,b],by simp[World.cell?,b],by simp[World.cell?,b],by simp[World.cell?,b],ck b,hl,ck h.rt,λi hi=>⟨?_,?_⟩⟩
 ·simp[World.cell?,h.rt,List.getElem?_map,List.getElem?_eq_getElem (show i<OG s.rs by omega),List.getD_eq_getElem?_getD]
 ·simp[World.frozen?,h.rt]
end
abbrev Ge (a:Wc):Obj:=ON #[aq a.p,aq a.pc,aq a.sd,Z (au a.nb) 12 12] 125 (0,0)
def sa (pk ct bx:Nat)(nx:Int)(a:Wc)(y g:Nat)(ws:List Int):dr (List Int) where
 J F U w:=(w.heap[pk]?=OH (ON #[aq a.pw,.map (OH ct),ak nx,Z Y 0 0,Z Y 0 0] 254 (0,0))/\Mp w ct U (λ_=>-1)/\At w a.p a.q a.N a.O y g ws/\w.heap[a.pw]?=OH (Ge a)/\w.heap[bx]?=OH (ON #[aq pk] 251 (0,0)))/\(ct≠pk/\ct≠a.pw/\ct≠a.p/\ct≠a.q/\ct≠bx)/\∀b,F b↔(b=pk\/b=ct\/b=a.pw\/b=a.p\/b=a.q\/b=bx)
 lt:=by
  rintro F U w ⟨⟨e,f,d,i,j⟩,_,c⟩ b hb;rcases(c b).1 hb with rfl|rfl|rfl|rfl|rfl|rfl
  ·exact ck e
  ·exact f.lt
  ·exact ck i
  ·exact d.fu
  ·exact d.fw
  ·exact ck j
 keep:=by rintro F U w w' ⟨⟨e,f,d,i,j⟩,hn,c⟩ hs hk;exact⟨⟨(hk _ ((c _).2 (aK rfl))).trans e,f.same (hk _ ((c _).2 (aI (aK rfl)))),d.same (hk _ ((c _).2 (aI (aI (aI (aK rfl)))))) (hk _ ((c _).2 (aI (aI (aI (aI (aK rfl))))))),(hk _ ((c _).2 (aI (aI (aK rfl))))).trans i,(hk _ ((c _).2 (aI (aI (aI (aI (aI rfl))))))).trans j⟩,hn,c⟩
theorem Gf:eh 238:=gZ func238 ah rfl
theorem Gg {pk ct bx:Nat}{nx:Int}{a:Wc}{y g:Nat}{ws:List Int}{F:Nat->Prop}{c:List Int}{w:az}(h:(sa pk ct bx nx a y g ws).J F c w)(v:Int)(v0:0<=v)(v1:v<=100000)(s:OG c<=100000):
 M O 238 #[ak v,aq bx] w λe w'=>∃d,e=OL (ay #[])/\(sa pk ct bx nx a y g ws).J d (c++[v]) w'/\b9 F w d w':=by
 obtain⟨⟨f,⟨D,o1,k,l⟩,m,n,i⟩,hn,o⟩:=h;have c1:V w (av pk 1)=OH (.map (OH ct)):=aD f
 have t:V w (av bx 0)=OH (aq pk):=aD i
 go_wp2_with (first
  |(refine wpList_mapUpdate_own _ rfl _ _ _ 158 rfl 3 3 jr underlying158 _ ct (OG c) D rfl o1 (by unfold maxLen;omega) _ _ _ rfl rfl (j6 (a:=v) v0 aa) _ [] (oi (-1) ae) ?_;intro u p j)
  |go_in)
 go_end0;have hb:∀b,b<I (G w)->b≠ct->_=_:=λb hb q=>j.block b hb (by simpa using q)
 refine⟨rfl,F,⟨⟨(hb _ (by grind) aa).trans f,Mp.add (by assumption) k l rfl rfl p,m.same (by grind [At.fu]) (by grind [At.fw]),(hb _ (by grind) aa).trans n,(hb _ (by grind) aa).trans i⟩,hn,o⟩,⟨((Fr.refl _ w).grown j (by grind)),λ_ h=>aK h⟩⟩
def oo (N y g:Nat)(ws:List Int):List Int:=(eP N y g ws).filter (λa=>decide (a+pf (ld N y g ws a)<y))
theorem zH (h:Int->Int)(e:Int):∀(l b:List Int),ly (λ_ a=>h a) (λb a=>b++[a]) e b l=b++l.filter (λa=>decide (a+h a<e))
 |[],b=>by simp[ly]
 |a::l,b=>by
  have c:=zH h e l;have d:ly (λ_ a=>h a) (λb a=>b++[a]) e b (a::l)=ly (λ_ a=>h a) (λb a=>b++[a]) e (kQ (λ_ a=>h a) (λb a=>b++[a]) e b a) l:=rfl
  grind [kQ]
theorem Gh {a:Wc}{F:Nat->Prop}{s:eK}{w:az}(h:(eF a).J F s w):
 Calls prog 175 #[aq a.pw] w λe w'=>∃pk ct cV i,e=OL (aq pk)/\(eI ⟨pk,ct,a.pw,a.p,a.q,a.pc,cV,a.sd,a.nb,dS a.O,s.M⟩ ⟨a.N,a.O,s.y,oo a.N s.y s.g s.ws⟩).J i ⟨s.g,s.ws,λ_=>-1,(a.N:Int)+s.g,[],[],s.rs⟩ w'/\b9 F w i w':=by
 have ca:=@run_makeMap prog;obtain⟨own,cV,hM,ad⟩:=h;have an:aA (ei a own s cV w/\∀b,F b↔own b≠0):=⟨hM,ad⟩
 have c0:V w (av a.pw 0)=OH (aq a.p):=by have ao:=hM.wd;simp[World.cell?,ao]
 have ap:=ck hM.wd;have g:=hM.ar;have n1:=g.hN';have cc:=g.hO;have bo:=g.hg;have n4:=g.hy;have ce:=g.hN;clear hM ad;go_enter func175,ntmps175;go_wp2_with fail;refine(lW w g).mono ?_;rintro e w1 ⟨rfl,o⟩
 have c1:=(o.cell (p:=av a.pw 0) ap).trans c0;have aB:=g.below o aa;go_wp2_with fail;refine(n6 w1 aB).mono ?_;rintro e c ⟨rfl,aF⟩
 have q:=o.trans (aF.mono o.size)
 have c2:=(q.cell (p:=av a.pw 0) ap).trans c0;have aR:=g.below q aa;have cf:=q.size;have l2:a.pw<I (G c):=aa;clear o aF aB c1;have u:Below (I (G c)) c (bu (bu (bu c (.map #[] 0)) (ON #[bq (OH ⟨a.pw,0,Y⟩),.map (OH (I (G c))),OP OM ((a.N:Int)+s.g),Z Y 0 0,Z Y 0 0] 254)) (ON #[bq (OH ⟨I (G c)+1,0,Y⟩)] 251)):=(((aH _ c).alloc aa _).alloc ac _).alloc (by simp;omega) _;have S:=aR.below u aa;have c3:=(u.cell (p:=av a.pw 0) l2).trans c2;have P:=rR _ S;obtain⟨W,l⟩:∃W,W=bu (bu (bu c (.map #[] 0)) (ON #[bq (OH ⟨a.pw,0,Y⟩),.map (OH (I (G c))),OP OM ((a.N:Int)+s.g),Z Y 0 0,Z Y 0 0] 254)) (ON #[bq (OH ⟨I (G c)+1,0,Y⟩)] 251):=(by grind)
 have aV:aA (I (G W)=I (G c)+3/\Below (I (G c)) c W/\Mp W (I (G c)) [] (λ_=>-1)/\W.heap[I (G c)+1]?=OH (ON #[aq a.pw,.map (OH (I (G c))),ak ((a.N:Int)+s.g),Z Y 0 0,Z Y 0 0] 254 (0,0))/\W.heap[I (G c)+2]?=OH (ON #[aq (I (G c)+1)] 251 (0,0))/\At W a.p a.q a.N a.O s.y s.g s.ws):=by
  rw[<-l] at u S;refine⟨by simp_all,u,?_,?_,?_,S⟩
  ·have bp:=World.ownsMap_made c prog 3 (plainElem (H:=Unit) prog 3)
   refine Mp.same (w:=bu c (.map #[] 0)) ⟨_,bp,λ_=>rfl,λa ha=>by grind⟩ ?_
   grind [aU,bh]
  ·rw[l,aU _ _ _ ac];simpa using aO (bu c (.map #[] 0)) (ON #[bq (OH ⟨a.pw,0,Y⟩),.map (OH (I (G c))),OP OM ((a.N:Int)+s.g),Z Y 0 0,Z Y 0 0] 254)
  ·rw[l];simpa using aO (bu (bu c (.map #[] 0)) (ON #[bq (OH ⟨a.pw,0,Y⟩),.map (OH (I (G c))),OP OM ((a.N:Int)+s.g),Z Y 0 0,Z Y 0 0] 254)) (ON #[bq (OH ⟨I (G c)+1,0,Y⟩)] 251)
 have a0:=cg l;rw[<-l] at P;clear u S l;go_wp2_with fail;rw[<-a0.o];refine P.mono ?_;clear P;rintro e m ⟨v1,v2,rfl,v,bb,f⟩
 obtain⟨br,bs,rfl⟩:=e5 v;obtain⟨ch,ci,rfl⟩:=e5 bb;obtain⟨bt,B,bd,be,ag,bg⟩:=aV.o;have cj:=f.size;have cl:V m (av (I (G c)+1+1) 0)=OH (aq (I (G c)+1)):=by have:=(f.block (I (G c)+2) aa).trans ag;simp[World.cell?,this]
 have lx:I (G c)+1+1<I (G m):=aa;have cm:OG (eP a.N s.y s.g s.ws)<=2000:=jo _ _;have bi:∀x∈eP a.N s.y s.g s.ws,0<=x/\x<=2000:=λx bx=>by have:=po x bx;omega
 have ai:=an.o.1.ar;have np:=ai.fu;have nq:=ai.fw;have bl:(sa (I (G c)+1) (I (G c)) (I (G c)+2) ((a.N:Int)+s.g) a s.y s.g s.ws).J (λb=>b=I (G c)+1\/b=I (G c)\/b=a.pw\/b=a.p\/b=a.q\/b=I (G c)+2) [] m:=
  ⟨⟨(f.block _ aa).trans be,bd.same (f.block _ aa),bg.below f aa,((f.block _ aa).trans (B.block _ l2)).trans (by grind [ei.wd,Below.block,Hid.out]),(f.block _ aa).trans ag⟩,⟨aa,aa,aa,aa,aa⟩,λb=>bX⟩
 have E:=zE (sa (I (G c)+1) (I (G c)) (I (G c)+2) ((a.N:Int)+s.g) a s.y s.g s.ws) (λ_ x=>pf (ld a.N s.y s.g s.ws x)) (λal x=>al++[x]) (λj al=>OG al<=j) (I (G c)+1) a.pw a.p 238 #[aq (I (G c)+1+1)] Gf (eP a.N s.y s.g s.ws) br bs s.y _ [] m
  (by
    rintro F t bn x ⟨⟨g1,g2,g3,g4,g5⟩,_⟩
    refine⟨by simp[World.cell?,g1],by simp[World.cell?,g4],(g7 x bn g3).mono ?_⟩
    grind)
  (λt x=>du _) (by grind) aa
  (by
    rintro j F t bn b0 N b1 _;have hm:U (eP a.N s.y s.g s.ws) j 0∈eP a.N s.y s.g s.ws:=by grind
    have hb:=bi _ hm;have N:=N;exact Gg b1 _ hb.1 aa aa)
  (by
    intro j t b0 N;have N:=N;show OG (kQ _ _ _ _ _:List Int)<=j+1;unfold kQ
    grind)
  ac bl (im v)
  (λhp z e=>by
    obtain⟨b,cap,b2⟩:=ff v hp;cases b2;cases e;have ao:=(cu v b rfl).1
    grind)
 rw[zH (λx=>pf (ld a.N s.y s.g s.ws x)) s.y (eP a.N s.y s.g s.ws) [],List.nil_append] at E;have b3:aA (∀b,b<I (G c)->m.heap[b]?=c.heap[b]?):=λb hb=>(by grind [Below.block])
 have k:=jk q (f.os.trans B.os) (f.tape.trans B.tape) (f.output.trans B.output)
 clear bl v bb bt B bd be ag bg aV a0 f bi ai g aR q c0 c2;go_wp2_with fail;refine E.mono ?_;clear E;rintro e ab ⟨cn,rfl,⟨⟨g1,g2,g3,g4,g5⟩,b4,b5⟩,am,_⟩
 have co:V ab (av (I (G c)+1+1) 0)=OH (aq (I (G c)+1)):=aD g5
 have cp:=ck g5;have b6:aA (∃i,(eI ⟨I (G c)+1,I (G c),a.pw,a.p,a.q,a.pc,cV,a.sd,a.nb,dS a.O,s.M⟩ ⟨a.N,a.O,s.y,oo a.N s.y s.g s.ws⟩).J i ⟨s.g,s.ws,λ_=>-1,(a.N:Int)+s.g,[],[],s.rs⟩ ab/\b9 F w i ab):=by
  obtain⟨hM,ad⟩:=an.o;have keep:∀b,b<I (G w)->own b≠1->own b≠3->ab.heap[b]?=w.heap[b]?:=λb hb n1 bo=>
   (am.fr.block b aa (by grind [ei.w1,ei.a1,ei.a2])).trans (by grind [Hid.out,Below.block])
  have cq:=hM.lt;have lo:∀b,own b≠0->b≠I (G c)+1/\b≠I (G c):=λb hb=>by grind
  have n:∀b j,own b=j->j≠0->(if b=I (G c)+1 then 5 else if b=I (G c) then 6 else own b)=j:=λb j e h0=>by grind
  refine⟨λb=>F b\/b=I (G c)+1\/b=I (G c),⟨Z Y 0 0,Z Y 0 0,λb=>if b=I (G c)+1 then 5 else if b=I (G c) then 6 else own b,?_,λb=>?_⟩,⟨?_,λb hb=>?_⟩⟩
  ·exact {
    ar:=g3,a1:=n _ _ hM.a1 ae,a2:=n _ _ hM.a2 ae,c1:=n _ _ hM.c1 ae,c2:=n _ _ hM.c2 ae,w1:=n _ _ hM.w1 ae,r1:=n _ _ hM.r1 ae,rl:=hM.rl
    cd:=hM.cd.same (by grind [ei.c1]) (by grind [ei.c2])
    wd:=g4
    rt:=(by grind [ei.rt,ei.r1])
    cb:=g1
    k1:=by grind
    mp:=g2
    m1:=by grind
    wr:=a9 _ _ _ _
    dH:=λb e=>by simp[Value.ownBlock] at e
    er:=a9 _ _ _ _
    eo:=λb e=>by simp[Value.ownBlock] at e
    lt:=λb hb=>by grind}
  ·grind
  ·have b7:Below (I (G w)) w m:=⟨k.o.2.1.trans k.o.1.os,k.o.2.2.1.trans k.o.1.tape,k.o.2.2.2.trans k.o.1.output,aa,λb hb=>(by grind [Hid.out,Below.block])⟩
   refine(Fr.of (X:=F) b7).trans am.fr (λb d=>?_)
   grind [ei.w1,ei.a1,ei.a2]
  grind
 clear g1 g2 g3 g4 g5 b4 b5 am b3 k;go_wp2_with fail;go_ret;obtain⟨i,b8,j2⟩:=b6.o;exact⟨_,_,_,i,rfl,b8,j2⟩
section
variable {iM:Type}{o:dr iM}{bx p:Nat}{x:Obj}{vr:a7}{F:Nat->Prop}{w w':az}
theorem sc {t:iM×List b8}(h:(dj (dq o bx x) p vr).J F t w):(dj o p vr).J (λb=>F b/\b≠bx) t w/\w.heap[bx]?=OH x/\F bx:=by obtain⟨m,ad,cap,⟨d,g1,g2,g3,g4⟩,f,g,i,j,k,n,q⟩:=h;have l:=(g4 bx).2 aa;exact⟨⟨d,ad,cap,g1,f,g,λb hb=>(by grind),⟨j,λe=>k (by simp_all)⟩,λc=>(by grind),λb e=>(by grind),λb hb=>(by grind)⟩,g2,i _ l⟩
theorem jO {t:iM×List b8}(h:(dj o p vr).J F t w):∃d,o.J d t.1 w/\∀{m:Type}(f:dr m) c g w',f.J c g w'->b9 d w c w'->∃i,(dj f p vr).J i (g,t.2) w'/\b9 F w i w':=by
 obtain⟨d,ad,cap,n,j,q,s,u,v,x,B⟩:=h;refine⟨d,n,λf c g w' l b=>?_⟩
 have lp:=ck j;refine⟨λk=>F k\/c k,⟨c,ad,cap,l,(b.fr.block p lp v).trans j,cK q (λk e=>b.fr.block k (by grind) (by grind)),λk h=>aI h,aK u,λh=>(by grind [b9.sub]),λk e=>⟨aK (x k e).1,λh=>(b.sub k h).elim (by grind) (by grind)⟩,λk h=>?_⟩,b.fr.mono s,λk h=>?_⟩
 ·rcases h with h|h
  ·exact aL (by grind) b.fr.size
  ·exact f.lt l k h
 ·rcases h with h|h
  ·grind
  ·exact(b.sub k h).imp (by grind) id
end
def Gj (b:Type):dr b where
 J _ _ _:=False
 lt:=λh=>h.elim
 keep:=λh=>h.elim
def et (b:Type):gh (b×List b8):=dj (Gj b) 0 (Z Y 0 0)
def cf.fA (k:cf)(t:cn×List b8)(r:List b8):cn×List b8:=gu (et cn) (λs x=>k.al s.1 x) k.ke t r
def cf.sR (k:cf)(t:cn×List b8)(r:List b8):List b8:=fi (et cn) (λs x=>k.al s.1 x) k.ke (λs x=>k.nw s.1 x) t r
def cf.j7 (k:cf)(t:cn×List b8)(r:List b8):List b8:=fj (et cn) (λs x=>k.al s.1 x) k.ke (λs x=>k.nw s.1 x) t r
theorem qv {b:Type}(is:b->Int->Bool)(kp:b->Int->Int×b)(s:b×List b8):∀n,OG (ip is kp s n).1.2=OG s.2
 |0=>rfl
 |n+1=>by
  have e:ip is kp s (n+1)=dN is kp (ip is kp s n) n:=by simp[ip,List.range_succ]
  rw[e];have c:=qv is kp s n
  grind [dN]
theorem qw (k:cf):∀(n:Nat)(t:cn×List b8),OG (k.de n t).2=OG t.2
 |0,_=>rfl
 |n+1,t=>by
  unfold cf.de;split
  ·exact qw k n _
  ·split
   ·exact(qw k n _).trans (qv _ _ _ _)
   ·exact qv _ _ _ _
theorem vl (k:cf)(t:cn×List b8)(x:Int):OG (k.ke t x).2.2=OG t.2:=qw k _ _
section
variable {c:hQ}{k:cf}{F:Nat->Prop}{s:cn}{w:az}{vr:a7}
theorem Gk (bx:Nat){g:Option bB}{i j:Nat}(l:vr=Z g i j):n_ (dj (dq (iC c k) bx (jN c)) c.sd vr) (λ_=>True) (om c).f (om c).b (om c).c k.ke:=by
 intro F t w x _ hn m;have hn:OG (k.ke t x).2.2<=90000:=hn;obtain⟨n,f,q⟩:=sc m;rw[vl] at hn;refine(F8 l n hn x).mono ?_;rintro r w' ⟨o,rfl,hM,e⟩
 have lx:=ck f;have p:_:=λd=>(e.sub bx d).elim (λd=>d.2 rfl) (λd=>by omega)
 refine⟨λb=>o b\/b=bx,rfl,lr hM ((e.fr.block bx lx (λd=>d.2 rfl)).trans f) p,e.fr.mono (by grind),λb d=>?_⟩
 rcases d with d|d
 ·exact(e.sub b d).imp (λd=>d.1) id
 ·simp_all
theorem Gm (bx:Nat){e:Option bB}{f g:Nat}(i:vr=Z e f g):nh (dj (dq (iC c k) bx (jN c)) c.sd vr) (λ_=>True) (lu bx) (om c) (mQ c) (λs x=>k.al s.1 x) k.ke (λs x=>k.nw s.1 x) where
 ea:=zu
 h9:=F1
 en:=zv
 ha:=by
  rintro F s w x _ ⟨b,ad,cap,d,_⟩
  exact zx bx b s.1 w x trivial d
 hk:=Gk bx i
 ht:=by
  rintro F s w x _ ⟨b,ad,cap,d,_⟩
  exact nn zy b s.1 w x trivial d
 hl:=λs x=>vl k s x
theorem Gn {m:Option bB}{n:Nat}{r:List b8}(o:vr=Z m (OG r) n){t:cn×List b8}(h:(dj (iC c k) c.sd vr).J F t w)(hr:aC w 0 247 2 vr (OG r) (ev r))(hq:OG t.2+OG r<=90000)(bx:Nat)(p:w.heap[bx]?=OH (jN c))(hn:¬F bx):
 M O 179 #[aq c.sd,.agg #[(lu bx).v,(om c).v,(mQ c).v]] w λe w'=>∃a1 c1 i,e=OL (ay #[])/\(dj (iC c k) c.sd (Z a1 (OG (k.sR t r)) c1)).J i ((k.fA t r).1,k.j7 t r) w'/\
  aC w' 0 247 2 (Z a1 (OG (k.sR t r)) c1) (OG (k.sR t r)) (ev (k.sR t r))/\(∀b,OH b=OY (Value.slice a1 (OG (k.sR t r)) c1)->¬i b/\I (G w)<=b)/\Fr (λb=>F b\/b=bx) w w'/\(∀b,i b->F b\/I (G w)<=b):=by
 subst o;refine(rX _ (λ_=>True) (lu bx) (om c) (mQ c) _ _ _ (Gm bx rfl) r m n rfl aa (by grind) _ t w (by grind) hq (lr h p hn) (iN hr)).mono ?_;rintro e w' ⟨a1,c1,a2,c2,q,W,rfl,⟨ab,ad,cap,⟨g,g1,g2,g3,g4⟩,ag,ai,al,am,s,an,ao⟩,q3,u,j,f,l,v,ap,x,ar,B⟩
 have j:w'.heap[c.sd]?=OH (ON #[Z a1 (OG (k.sR t r)) c1,Z a2 (OG (k.j7 t r)) c2] 197 (0,0)):=j;have f:=f;have l:=l;have aB:∀b,g b->q b:=λb hb=>(by grind)
 have N:∀b,g b->b≠c.sd:=λb hb e=>s (by simp_all)
 have S:=(iC c k).keep (w':=w') g1 u (λb hb=>q3 b (by grind) (N b hb))
 have aF:F c.sd:=by obtain⟨_,_,_,_,_,_,_,aR,_⟩:=h;omega
 refine⟨a1,c1,λb=>g b\/b=c.sd\/OH b=OY (Value.slice a2 (OG (k.j7 t r)) c2),rfl,⟨g,a2,c2,S,j,fz l aa,λb hb=>(by grind),aI (aK rfl),λd=>(by grind),λb e=>(by grind),λb hb=>?_⟩,fz f aa,λb e=>⟨λd=>?_,(cu f b e).1⟩,v,λb hb=>?_⟩
 ·grind [cu]
 ·rcases d with d|d|d
  ·exact x b e (by grind)
  ·obtain⟨aV,hc⟩:=fI f b e
   grind
  ·exact B b e d
 grind [cu]
end
theorem Gp {pk ct cV y:Nat}{a:Wc}{M T:List Int}{F:Nat->Prop}{s:cn}{w:az}(h:(eI ⟨pk,ct,a.pw,a.p,a.q,a.pc,cV,a.sd,a.nb,dS a.O,M⟩ ⟨a.N,a.O,y,T⟩).J F s w):∃d,(eF a).J d ⟨y,s.g,s.ws,M,s.rs⟩ w/\(∀b,d b->F b)/\¬d pk:=by
 obtain⟨cJ,f,own,h,g⟩:=h;have c:∀b j,own b=j->j<=4->(if own b<=4 then own b else 0)=j:=λb j e i=>by simp_all
 refine⟨λb=>(if own b<=4 then own b else 0)≠0,⟨λb=>if own b<=4 then own b else 0,cV,?_,λb=>bX⟩,λb hb=>(by grind),λhb=>hb ?_⟩
 ·exact {
   ar:=h.ar,a1:=c _ _ h.a1 ae,a2:=c _ _ h.a2 ae,cd:=h.cd,c1:=c _ _ h.c1 ae,c2:=c _ _ h.c2 ae,wd:=h.wd,w1:=c _ _ h.w1 ae,rt:=h.rt,rl:=h.rl,r1:=c _ _ h.r1 ae
   le:=λb=>by grind
   lt:=λb hb=>h.lt b (by grind)}
 ·have:=h.k1
  grind
structure cv where
 s:eK
 r:List b8
 q:List b8
def gC (a:Wc):dr cv where
 J F S w:=∃d ar c,(dj (eF a) a.sd (Z ar (OG S.r) c)).J d (S.s,S.q) w/\aC w 0 247 2 (Z ar (OG S.r) c) (OG S.r) (ev S.r)/\(∀b,OH b=OY (Value.slice ar (OG S.r) c)->¬d b)/\∀b,F b↔(d b\/OH b=OY (Value.slice ar (OG S.r) c))
 lt:=by
  rintro F S w ⟨d,ar,c,g,i,j,f⟩ b hb;rcases(f b).1 hb with hb|hb
  ·exact(dj (eF a) a.sd (Z ar (OG S.r) c)).lt g b hb
  ·exact(cu i b hb).2
 keep:=by rintro F S w w' ⟨d,ar,c,g,i,j,f⟩ hs hk;exact⟨d,ar,c,(dj (eF a) a.sd (Z ar (OG S.r) c)).keep g hs (λb hb=>hk b ((f b).2 (aK hb))),cK i (λb e=>hk b ((f b).2 (aI e))),j,f⟩
section
variable {N y g:Nat}{ws:List Int}{hi:Int}
theorem se:∀(k:Nat)(a:Int),(e3 N y g ws hi k a).Nodup
 |0,a=>by exact List.nodup_nil
 |k+1,a=>by
  unfold e3;split
  ·split
   ·rw[List.nodup_cons];refine⟨λh=>?_,se k _⟩
    have b:=(n9 k _ _ h).1;have c:=du (ld N y g ws a)
    omega
   grind
  grind
theorem zI:∀(k:Nat)(a x:Int),x∈e3 N y g ws hi k a->pc (ld N y g ws x)=0
 |0,a,x,h=>by simp[e3] at h
 |k+1,a,x,h=>by
  unfold e3 at h;split at h
  ·split at h
   ·rcases List.mem_cons.1 h with h|h
    ·grind
    ·exact zI k _ x h
   grind
  grind
theorem zJ:∀(k:Nat)(a:Int),(((e3 N y g ws y k a).filter (λa=>decide (a+pf (ld N y g ws a)<y))).map (λa=>1+K (pf (ld N y g ws a)))).sum<=K ((y:Int)-a)
 |0,a=>by simp[e3]
 |k+1,a=>by
  unfold e3;split
  ·split
   ·have b:=zJ k (a+(1+pf (ld N y g ws a)))
    have c:=du (ld N y g ws a)
    grind
   ·simp
  ·simp
end
def eK.k0 (a:Wc)(s:eK):cf:=⟨a.N,a.O,s.y,oo a.N s.y s.g s.ws⟩
def eK.s0 (a:Wc)(s:eK):cn:=⟨s.g,s.ws,λ_=>-1,(a.N:Int)+s.g,[],[],s.rs⟩
theorem CI.start {a:Wc}{s:eK}(hN:16<=a.N)(hN':a.N<=256)(hO:a.O<=1024)(hy:s.y<=a.N)(hg:s.g<=a.O)(hl:OG s.ws=a.N+a.O)(hr:s.y<=a.O-s.g):CI (s.k0 a) (s.s0 a):=by
 have d:∀x∈oo a.N s.y s.g s.ws,x∈eP a.N s.y s.g s.ws/\x+pf (ld a.N s.y s.g s.ws x)<s.y:=λx c=>by grind [oo]
 refine⟨hN,hN',hO,hy,hg,hl,λx c=>?_,(se 2000 0).filter _,?_,?_,?_,by simp[eK.s0],by simp[eK.s0],?_⟩
 ·obtain⟨b,i⟩:=d x c;exact⟨(po x b).1,zI _ _ _ b,by show x+1+pf (ld a.N s.y s.g s.ws x)<=s.y;omega⟩
 ·have b:=zJ (N:=a.N) (y:=s.y) (g:=s.g) (ws:=s.ws) 2000 0;have e:(s.k0 a).sz (s.s0 a)=(((e3 a.N s.y s.g s.ws s.y 2000 0).filter (λx=>decide (x+pf (ld a.N s.y s.g s.ws x)<s.y))).map (λx=>1+K (pf (ld a.N s.y s.g s.ws x)))).sum:=by
   unfold cf.sz;have f:(s.k0 a).T.filter (λx=>(s.s0 a).f x==-1)=(s.k0 a).T:=List.filter_eq_self.2 (λ_ _=>rfl)
   rw[f];rfl
  show _<=a.O-s.g;omega
 ·show(a.N:Int)<=(a.N:Int)+s.g;omega
 ·show(a.N:Int)+s.g<=(a.N:Int)+a.O+13;omega
 ·exact aS (List.length_filter_le _ _) (jo _ _)
def eK.s1 (a:Wc)(s:eK):cn:=(s.k0 a).cO (s.s0 a) 12
def eK.s2 (a:Wc)(s:eK):cn:=(s.k0 a).lm (dS a.O) s.M (s.s1 a) (dM a.N s.y (s.s1 a).g (s.s1 a).ws)
def cv.t3 (a:Wc)(S:cv):cn×List b8:=(S.s.k0 a).sp (S.s.s2 a,S.q)
def cv.s4 (a:Wc)(S:cv):cn:=((S.s.k0 a).fA (S.t3 a) S.r).1
def cv.s5 (a:Wc)(S:cv):cn:=(S.s.k0 a).mw (S.s4 a) (S.s4 a).wk
def cv.s6 (a:Wc)(S:cv):cn:=(S.s.k0 a).be (S.s5 a) (S.s5 a).ep
def cv.full (a:Wc)(S:cv):Bool:=decide (a.O-S.s.g<S.s.y)
def cv.cut (a:Wc)(S:cv):cv:=if S.full a=C then S else⟨⟨0,(S.s6 a).g,(S.s6 a).ws,[],(S.s6 a).rs⟩,(S.s.k0 a).sR (S.t3 a) S.r,(S.s.k0 a).j7 (S.t3 a) S.r⟩
def cv.code (a:Wc)(S:cv):Int:=if S.full a=C then 3 else 0
end Go.Proofs.YtjckpdepffejnaaGreatDoor
