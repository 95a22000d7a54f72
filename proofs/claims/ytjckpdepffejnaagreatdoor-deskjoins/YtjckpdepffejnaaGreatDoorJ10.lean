import Derived.Test.YtjckpdepffejnaaGreatDoorJ09
import Derived.Lib.SliceRun
open Array renaming size->I
open Bool renaming false->O4,true->C
open Go renaming Addr->bB,Calls->M,Value->a7
open Go.Ending renaming returned->Q
open Go.IntKind renaming i64->R
open Go.Obj renaming cells->OX
open Go.Proofs.Tryz renaming prog->J
open Go.RowKit renaming Below->O,intOf->bG
open Go.Value renaming bool->bA,int->U,ownBlock->A,pointer->bq,slice->Z,tuple->ay
open Go.World renaming cell?->V,heap->G,ownsRow->aC,setCell->O8
open Iff renaming rfl->gp
open Int renaming eq_ofNat_of_zero_le->bC,toNat->K,toNat_natCast->bD
open List renaming getD->X,getElem?_append_right->tQ,getElem?_drop->Cc,getElem?_map->iy,length->L,length_filter_le->bX,mem_append->bw,replicate->aZ
open Nat renaming sub_self->Jl
open Option renaming none->Y,some->H
namespace Go.Proofs.YtjckpdepffejnaaGreatDoor
set_option maxRecDepth 100000
set_option maxHeartbeats 4000000
open Tryz
open Go.RowKit W Kp ch
theorem vS {P:Prop}(h:P:=by
 rintro e w2 ⟨rfl,hA2,hs2⟩
 obtain⟨F2,h2,t2⟩:=hU w2 _ _ _ hA2 hs2;exact⟨F2,rfl,⟨h2,ea,vU,vV⟩,t2⟩):P:=h
def b_.ar (k:b_)(y g:Nat)(ws:List Int):b_:={k with s:={k.s with y:=y,g:=g,ws:=ws}}
def b_.i5 (k:b_)(a x:Int):b_:=k.ar k.s.y k.s.g (if dB k.a.N k.s.y k.s.g a=C then k.s.ws.set (K a) x else k.s.ws)
def b_.sx (k:b_)(i:Nat)(x:Int):b_:={k with s:={k.s with rs:=k.s.rs.set i x}}
def b_.brk (k:b_)(s:cy)(a:Int):b_:=
 if(pk (k.ld a)=3\/pk (k.ld a)=4)/\k.dd s (k.ld (a+1))=C then(if pk (k.ld a)=4 then(k.i5 (a+1) 3).i5 (a+2) 3 else k.i5 (a+1) 3) else k
section
variable {c:fR}{k:b_}{vt cw:a7}{F:Nat->Prop}{s:cy}{w:az}
open Classical in
theorem qL (h:(c9 c k vt cw).J F s w):∃f,(eH k.a).J f k.s w/\∀g n w',(eH k.a).J g n w'->b9 f w g w'->∃p,(c9 c {k with s:=n} vt cw).J p s w'/\b9 F w p w':=by
 obtain⟨f,own,h,o⟩:=h;refine⟨f,h.wd,λg n w' q m=>⟨_,⟨g,λb=>if g b then 1 else if f b then 0 else own b,?_,λb=>gp⟩,⟨m.fr.mono (λb d=>(o b).2 (by rw[(h.w1 b).1 d];decide)),λb hb=>?_⟩⟩⟩
 ·have l:∀b j,own b=j->j≠0->j≠1->(if g b then 1 else if f b then 0 else own b)=j:=λb j e h0 t=>by
   have n1:_:=λd=>t (e.symm.trans ((h.w1 b).1 d))
   rw[aJ (λd=>(m.sub b d).elim n1 (λd=>by have:=h.lt b aa;omega)),aJ n1];exact e
  have hk:∀b,b<I (G w)->own b≠1->_=_:=λb hb hn=>m.fr.block b hb (λd=>hn ((h.w1 b).1 d))
  exact {
   wd:=q,w1:=λb=>⟨λd=>by rw[aN d],λd=>by
    by_cases e:g b
    ·exact e
    ·rw[aJ e] at d;by_cases i:f b
     ·rw[aN i] at d;omega
     ·rw[aJ i] at d;exact absurd ((h.w1 b).2 d) i⟩
   cb:=(hk _ (cj h.cb) (by rw[h.k1];decide)).trans h.cb,k1:=l _ _ h.k1 ae ae
   mp:=h.mp.same (hk _ h.mp.lt (by rw[h.m1];decide)),m1:=l _ _ h.m1 ae ae
   tr:=cK h.tr (λb e=>hk b (cu h.tr b e).2 (by rw[h.iG b e];decide)),iG:=λb e=>l _ _ (h.iG b e) ae ae
   er:=cK h.er (λb e=>hk b (cu h.er b e).2 (by rw[h.eo b e];decide)),eo:=λb e=>l _ _ (h.eo b e) ae ae
   yr:=cK h.yr (λb e=>hk b (cu h.yr b e).2 (by rw[h.i3 b e];decide)),i3:=λb e=>l _ _ (h.i3 b e) ae ae
   gr:=cK h.gr (λb e=>hk b (cu h.gr b e).2 (by rw[h.go b e];decide)),go:=λb e=>l _ _ (h.go b e) ae ae
   lt:=λb hb=>by
    by_cases e:g b
    ·exact(eH k.a).lt q b e
    ·rw[aJ e] at hb;by_cases i:f b
     ·rw[aN i] at hb;exact absurd rfl hb
     ·rw[aJ i] at hb;exact aL (h.lt b hb) m.fr.size}
 ·dsimp only at hb;by_cases e:g b
  ·exact(m.sub b e).imp (λd=>(o b).2 (by rw[(h.w1 b).1 d];decide)) id
  ·rw[aJ e] at hb;by_cases i:f b
   ·rw[aN i] at hb;exact absurd rfl hb
   ·rw[aJ i] at hb;exact aK ((o b).2 hb)
theorem pB (h:(c9 c k vt cw).J F s w):At w k.a.p k.a.q k.a.N k.a.O k.s.y k.s.g k.s.ws/\∀w' y g ws,At w' k.a.p k.a.q k.a.N k.a.O y g ws->dl k.a.p k.a.q w w'->∃b,(c9 c (k.ar y g ws) vt cw).J b s w'/\b9 F w b w':=by
 obtain⟨j,d,e⟩:=qL h;obtain⟨g1,g2⟩:=l_ d;refine⟨g1,λw' y g ws ha f=>?_⟩
 obtain⟨i,j2⟩:=g2 w' y g ws ha f;exact e _ _ _ i j2
theorem HS (h:(c9 c k vt cw).J F s w)(i:Nat)(x:Int):∃b,(c9 c (k.sx i x) vt cw).J b s (O8 w ⟨k.a.nb,i,Y⟩ (U R x))/\b9 F w b (O8 w ⟨k.a.nb,i,Y⟩ (U R x)):=by obtain⟨g,d,e⟩:=qL h;obtain⟨f,j2⟩:=zL d i x;exact e _ _ _ f j2
theorem HU (h:(c9 c k vt cw).J F s w)(a:Int)(ha:0<=a/\a<=2000):
 M prog 271 #[aq c.pk,ak a] w λe w'=>∃ap,e=Q (ay #[])/\(c9 c (k.brk s a) vt cw).J ap s w'/\b9 F w ap w':=by
 have p:aA ((c9 c k vt cw).J F s w):=h;obtain⟨ar,_⟩:=e3 h;obtain⟨ai,c0,_⟩:=ig h;have P:=hC a w ai;have q:aA (k.brk s a=if(pk (ld k.a.N k.s.y k.s.g k.s.ws a)=3\/pk (ld k.a.N k.s.y k.s.g k.s.ws a)=4)/\k.dd s (k.ld (a+1))=C then(if pk (ld k.a.N k.s.y k.s.g k.s.ws a)=4 then(k.i5 (a+1) 3).i5 (a+2) 3 else k.i5 (a+1) 3) else k):=rfl;have bg:IntKind.i64.wrap (a+1)=a+1:=by rw[bc];omega
 have bi:IntKind.i64.wrap (a+2)=a+2:=by rw[bc];omega
 generalize k.brk s a=k2 at q⊢;generalize pk (ld k.a.N k.s.y k.s.g k.s.ws a)=aB at P q;generalize pf (ld k.a.N k.s.y k.s.g k.s.ws a)=bl at P;generalize pc (ld k.a.N k.s.y k.s.g k.s.ws a)=cc at P;clear h ai;by_cases am:aB=3\/aB=4
 ·have al:aA (∀w1,O (I (G w)) w w1->M prog 256 #[aq k.a.p,ak (a+1)] w1 λe w'=>e=Q (ak (k.ld (a+1)))/\O (I (G w1)) w1 w'):=λw1 hb=>kN (a+1) w1 (ig ((c9 c k vt cw).below p.o hb)).1;have S:aA (∀w1,O (I (G w)) w w1->M prog 265 #[aq c.pk,ak (k.ld (a+1))] w1 λe w'=>e=Q (bA (k.dd s (k.ld (a+1))))/\O (I (G w1)) w1 w'):=λw1 hb=>qI ((c9 c k vt cw).below p.o hb) _;generalize k.ld (a+1)=x at al S q;cases hl:k.dd s x
  ·have E:aA (k2=k):=by show k2=k;rw[q.o,hl,aJ (λd=>by simp at d)]
   rw[hl] at S;clear q;rcases am with rfl|rfl
   all_goals
    go_enter func271,ntmps271;go_wp2_with fail;refine P.mono ?_;clear P;rintro e w1 ⟨rfl,f⟩
    have j:=(c9 c k vt cw).below p.o f;obtain⟨W,_⟩:=e3 j;obtain⟨_,ab,_⟩:=ig j;clear j ar c0;go_wp2_with fail;refine(al.o w1 f).mono ?_;rintro e n ⟨rfl,v⟩
    have i:=f.trans (v.mono f.size)
    go_wp2_with fail;refine(S.o n i).mono ?_;rintro e o ⟨rfl,B⟩
    have l:aA ((c9 c k2 vt cw).J F s o/\b9 F w F o):=by
     have hb:=i.trans (B.mono i.size)
     rw[E.o];exact⟨(c9 c k vt cw).below p.o hb,b9.of hb⟩
    clear f v B i ab W;go_wp2_with fail;refine a3 (results_none rfl _ _ _) rfl ?_;exact⟨F,rfl,l.o.1,l.o.2⟩
  ·rw[hl] at S;have an:aA (∀k w1,(∃g,(c9 c k vt cw).J g s w1/\b9 F w g w1)->∀(a:Int),M prog 169 #[aq k.a.p,ak a,ak 3] w1 λe w'=>∃b,e=Q (bA b)/\(∃g,(c9 c (k.i5 a 3) vt cw).J g s w'/\b9 F w g w')/\V w' (av c.pk 0)=H (aq k.a.pw)/\V w' (av k.a.pw 0)=H (aq k.a.p)):=by
    rintro k w1 ⟨g,j,aV⟩ a;obtain⟨ai,a0⟩:=pB j;refine(mK a 3 w1 ai).mono ?_;rintro e n ⟨rfl,a1,a2⟩
    obtain⟨bb,ao,bd⟩:=a0 n _ _ _ a1 a2;obtain⟨W,_⟩:=e3 ao;obtain⟨_,ab,_⟩:=ig ao;exact⟨_,rfl,⟨bb,ao,aV.trans bd⟩,W,ab⟩
   rcases am with rfl|rfl
   ·have E:aA (k2=k.i5 (a+1) 3):=by show k2=_;rw[q.o,aN ⟨aK rfl,hl⟩,aJ ae]
    clear q;go_enter func271,ntmps271;go_wp2_with fail;refine P.mono ?_;clear P;rintro e w1 ⟨rfl,f⟩
    have j:=(c9 c k vt cw).below p.o f;obtain⟨W,_⟩:=e3 j;obtain⟨_,ab,_⟩:=ig j;clear j ar c0;go_wp2_with fail;refine(al.o w1 f).mono ?_;rintro e n ⟨rfl,v⟩
    have i:=f.trans (v.mono f.size)
    go_wp2_with fail;refine(S.o n i).mono ?_;rintro e o ⟨rfl,B⟩
    have hb:=i.trans (B.mono i.size)
    have t:=(c9 c k vt cw).below p.o hb;obtain⟨aF,_⟩:=e3 t;obtain⟨_,l0,_⟩:=ig t;have ad:=an.o k o.drew ⟨F,(c9 c k vt cw).below t (aH _ o).drew,(b9.of hb).below (aH _ o).drew⟩ (a+1)
    clear f v B i ab W t hb;go_wp2_with fail
    go_region_held3 (λw'=>V w' (av c.pk 0)=H (aq k.a.pw)/\V w' (av k.a.pw 0)=H (aq k.a.p)) (go_keep)
     (first
       |(go_at_call 257;refine(o7 _).mono ?_;rintro e n ⟨rfl,m⟩;have m:=m.symm;subst m)
       |(go_at_call 169;refine ad.mono ?_;clear ad;rintro e N ⟨be,rfl,u,aR,y1⟩;have l:aA (∃g,(c9 c k2 vt cw).J g s N/\b9 F w g N):=(by rw[E.o];exact u);clear u))
    clear aR y1 aF l0;go_wp2_with fail;go_end0;obtain⟨g,ag,j2⟩:=l.o;exact⟨g,rfl,ag,j2⟩
   ·have E:aA (k2=(k.i5 (a+1) 3).i5 (a+2) 3):=by show k2=_;rw[q.o,aN ⟨aI rfl,hl⟩,aN rfl]
    go_enter func271,ntmps271;go_wp2_with fail;refine P.mono ?_;rintro e w1 ⟨rfl,f⟩
    have j:=(c9 c k vt cw).below p.o f;obtain⟨W,_⟩:=e3 j;obtain⟨_,ab,_⟩:=ig j;go_wp2_with fail;refine(al.o w1 f).mono ?_;rintro e n ⟨rfl,v⟩
    have i:=f.trans (v.mono f.size)
    go_wp2_with fail;refine(S.o n i).mono ?_;rintro e o ⟨rfl,B⟩
    have hb:=i.trans (B.mono i.size)
    have t:=(c9 c k vt cw).below p.o hb;obtain⟨aF,_⟩:=e3 t;obtain⟨_,l0,_⟩:=ig t;have ad:=an.o k o.drew ⟨F,(c9 c k vt cw).below t (aH _ o).drew,(b9.of hb).below (aH _ o).drew⟩ (a+1)
    go_wp2_with fail
    go_region_held3 (λw'=>V w' (av c.pk 0)=H (aq k.a.pw)/\V w' (av k.a.pw 0)=H (aq k.a.p)) (go_keep)
     (first
       |(go_at_call 257;refine(o7 _).mono ?_;rintro e n ⟨rfl,m⟩;have m:=m.symm;subst m)
       |(go_at_call 169;refine ad.mono ?_;rintro e N ⟨be,rfl,u,aR,y1⟩;have l:=cg u;clear u))
    have ad:M prog 169 #[aq k.a.p,ak (a+2),ak 3] N.drew λe w'=>∃b,e=Q (bA b)/\(∃g,(c9 c k2 vt cw).J g s w'/\b9 F w g w')/\V w' (av c.pk 0)=H (aq k.a.pw)/\V w' (av k.a.pw 0)=H (aq k.a.p):=by rw[E.o];obtain⟨g,ag,j2⟩:=l.o;exact an.o (k.i5 (a+1) 3) N.drew ⟨g,(c9 c _ vt cw).below ag (aH _ N).drew,j2.below (aH _ N).drew⟩ (a+2)
    go_wp2_with fail
    go_region_held3 (λw'=>V w' (av c.pk 0)=H (aq k.a.pw)/\V w' (av k.a.pw 0)=H (aq k.a.p)) (go_keep)
     (first
       |(go_at_call 257;refine(o7 _).mono ?_;rintro e n ⟨rfl,m⟩;have m:=m.symm;subst m)
       |(go_at_call 169;refine ad.mono ?_;rintro e bn ⟨bo,rfl,u,z0,bp⟩;have l:=cg u;clear u))
    go_wp2_with fail;go_end0;obtain⟨g,ag,j2⟩:=l.o;exact⟨g,rfl,ag,j2⟩
 ·have E:aA (k2=k):=by show k2=k;rw[q.o,aJ (λd=>am d.1)]
  go_enter func271,ntmps271;go_wp2_with fail;refine P.mono ?_;rintro e w1 ⟨rfl,f⟩
  have l:aA ((c9 c k2 vt cw).J F s w1/\b9 F w F w1):=by rw[E.o];exact⟨(c9 c k vt cw).below p.o f,b9.of f⟩
  go_wp2_with fail;refine a3 (results_none rfl _ _ _) rfl ?_;exact⟨F,rfl,l.o.1,l.o.2⟩
end
def ds (c:fR)(k0:b_)(s:cy)(vt b:a7):dr b_ where
 J F k w:=(c9 c k vt b).J F s w/\k.a=k0.a/\k.Y=k0.Y/\k.G=k0.G
 lt:=λh=>(c9 c _ vt b).lt h.1
 keep:=λh hs hk=>⟨(c9 c _ vt b).keep h.1 hs hk,h.2⟩
def b_.iu (k:b_)(s:cy)(a:Int):Nat->b_
 |0=>k
 |n+1=>(k.iu s a n).i5 (a+1+n) (k.nw s ((k.iu s a n).ld (a+1+n)))
def b_.kX (k:b_)(s:cy)(a:Int):b_:=(k.brk s a).iu s a (K (pf (k.ld a)))
theorem b_.me {k k0:b_}(s:cy)(x:Int)(b:k.Y=k0.Y)(c:k.G=k0.G):k.nw s x=k0.nw s x:=by unfold b_.nw b_.jt b_.T;rw[b,c]
theorem vW (k:b_)(s:cy)(a:Int):(k.brk s a).a=k.a/\(k.brk s a).Y=k.Y/\(k.brk s a).G=k.G:=by
 unfold b_.brk;split
 ·split<;>exact⟨rfl,rfl,rfl⟩
 ·exact⟨rfl,rfl,rfl⟩
section
variable {c:fR}{k0 k:b_}{vt cw:a7}{F:Nat->Prop}{s:cy}{w:az}{bp:Nat}
theorem i6 (h:(ds c k0 s vt cw).J F k w):V w (av c.pk 0)=H (aq k0.a.pw)/\V w (av c.pk 3)=H (.map (H c.ct))/\V w (av k0.a.pw 0)=H (aq k0.a.p)/\Mp w c.ct k0.T s.f/\At w k0.a.p k0.a.q k0.a.N k0.a.O k.s.y k.s.g k.s.ws:=by
 obtain⟨h,ea,e,f⟩:=h;obtain⟨b,_,_,g,_⟩:=e3 h;obtain⟨d,c0,_⟩:=ig h;obtain⟨hM,_⟩:=qH h;rw[ea] at b d c0;have i:k.T=k0.T:=by unfold b_.T;rw[e,f]
 rw[i] at hM;exact⟨b,g,c0,hM,d⟩
theorem HV (h:(ds c k0 s vt cw).J F k w)(a:Int):M prog 256 #[aq k0.a.p,ak a] w λe w'=>e=Q (ak (k.ld a))/\O (I (G w)) w w':=by
 have e:k.ld a=ld k0.a.N k.s.y k.s.g k.s.ws a:=by unfold b_.ld;rw[h.2.1]
 rw[e];exact kN a w (i6 h).2.2.2.2
theorem Aq (h:(ds c k0 s vt cw).J F k w)(x:Int):M prog 267 #[aq c.pk,ak x] w λe w'=>e=Q (ak (k0.nw s x))/\O (I (G w)) w w':=by have P:=Ad h.1 x;rw[b_.me s x h.2.2.1 h.2.2.2] at P;exact P
theorem HW (h:(ds c k0 s vt cw).J F k w)(a x:Int):M prog 169 #[aq k0.a.p,ak a,ak x] w λe w'=>∃b d,e=Q (bA b)/\(ds c k0 s vt cw).J d (k.i5 a x) w'/\b9 F w d w':=by
 obtain⟨h,ea,f,g⟩:=h;obtain⟨i,j⟩:=pB h;rw[<-ea];refine(mK a x w i).mono ?_;rintro e l ⟨rfl,m,n⟩
 obtain⟨o,p,q⟩:=j l _ _ _ m n;exact⟨_,o,rfl,⟨p,ea,f,g⟩,q⟩
theorem HX (h:(ds c k0 s vt cw).J F k w)(a:Int)(ha:0<=a/\a<=2000):M prog 271 #[aq c.pk,ak a] w λe w'=>∃b,e=Q (ay #[])/\(ds c k0 s vt cw).J b (k.brk s a) w'/\b9 F w b w':=by
 refine(HU h.1 a ha).mono ?_;rintro e m ⟨d,rfl,f,g⟩
 obtain⟨i,j,l⟩:=vW k s a;exact⟨d,rfl,⟨f,i.trans h.2.1,j.trans h.2.2.1,l.trans h.2.2.2⟩,g⟩
theorem HY (h:(dq (ds c k0 s vt cw) bp (dw c)).J F k w)(a:Int)(ha:0<=a/\a<=2000)(m:Nat)(hm:m<=12):
 M prog 270 #[ak a,ak (1+m),aq bp] w λe w'=>∃ab,e=Q (ay #[])/\(dq (ds c k0 s vt cw) bp (dw c)).J ab ((k.brk s a).iu s a m) w'/\b9 F w ab w':=by
 have ad:aA (∀x,(k.brk s a).nw s x=k0.nw s x):=by obtain⟨_,aR,aV⟩:=vW k s a;obtain⟨_,⟨_,_,g2,g3⟩,_⟩:=h;exact λx=>b_.me s x (aR.trans g2) (aV.trans g3)
 obtain⟨bs,h0,f,lb,o⟩:=ih h;have P:=HX h0 a ha;have q:=cg o;have t:V w (av bp 0)=H (aq c.pk):=aD f
 generalize k.brk s a=k1 at P ad⊢;go_enter func270,ntmps270;go_wp2_with fail;refine P.mono ?_;rintro e w1 ⟨a0,rfl,a1,a2⟩
 obtain⟨bb,bd⟩:=q.o a0 _ w1 a1 a2;go_wp2_with fail
 go_loopw [5] (λiv wr=>∃(j:Nat)(g:Nat->Prop),j<=m/\iv=ak (a+1+j)/\aA ((dq (ds c k0 s vt cw) bp (dw c)).J g (k1.iu s a j) wr/\b9 F w g wr)) (λiv _=>m-K (bG iv-a-1))
 exact⟨0,_,a4 _,aj,⟨bb,bd⟩⟩
 ·
   obtain⟨j,g,bt,rfl,d⟩:=hrel;by_cases bx:j<m
   ·obtain⟨ag,i,f,lb,o⟩:=ih d.o.1;have q:=cg o;have ai:=cU f lb;have u:=cg i;have t:V wr (av bp 0)=H (aq c.pk):=aD f
    obtain⟨b0,_,c0,_,_⟩:=i6 i;have al:=HV ((ds c k0 s vt cw).below i (aH _ wr).drew) (a+1+j)
    have l:aA (k1.iu s a (j+1)=(k1.iu s a j).i5 (a+1+j) (k0.nw s ((k1.iu s a j).ld (a+1+j)))):=by show _=_;rw[<-ad.o];rfl
    generalize (k1.iu s a j).ld (a+1+j)=x at al l;obtain⟨k3,am⟩:∃k3,k1.iu s a (j+1)=k3:=⟨_,rfl⟩
    rw[am] at l;have be:=cg am;generalize k1.iu s a j=k2 at u d i l;go_wp2_with fail
    go_region_held3 (λw'=>V w' (av bp 0)=H (aq c.pk)/\V w' (av c.pk 0)=H (aq k0.a.pw)/\V w' (av k0.a.pw 0)=H (aq k0.a.p)) (go_keep)
     (first
       |(go_at_call 256;refine al.mono ?_;rintro e v ⟨rfl,bg⟩;have B:O (I (G wr)) wr v:=((aH _ wr).drew).trans (bg.mono ac);have an:=(ds c k0 s vt cw).below u.o B;obtain⟨y1,_,b1,_,_⟩:=i6 an;have b2:=(B.cell (p:=av bp 0) ai.o.2).trans t;have N:aA ((ds c k0 s vt cw).J ag k2 v/\O (I (G wr)) wr v):=⟨an,B⟩)
       |(go_at_call 267;refine(Aq N.o.1 x).mono ?_;rintro e ao ⟨rfl,bi⟩;have S:=N.o.2.trans (bi.mono N.o.2.size);have ap:=(ds c k0 s vt cw).below u.o S;obtain⟨b3,_,b4,_,_⟩:=i6 ap;have z0:=(S.cell (p:=av bp 0) ai.o.2).trans t;have ar:aA ((ds c k0 s vt cw).J ag k2 ao/\O (I (G wr)) wr ao):=⟨ap,S⟩)
       |(go_at_call 169;refine(HW ar.o.1 (a+1+j) (k0.nw s x)).mono ?_;rintro e n ⟨b5,W,rfl,aB,bl⟩;obtain⟨r1,_,b6,_,_⟩:=i6 aB;obtain⟨aF,bn⟩:=q.o W _ n aB ((b9.of ar.o.2).trans bl);have r0:V n (av bp 0)=H (aq c.pk):=(by obtain⟨_,_,bo,_⟩:=aF;simp[World.cell?,bo]);have br:aA ((dq (ds c k0 s vt cw) bp (dw c)).J (λb=>W b\/b=bp) k3 n/\b9 F w (λb=>W b\/b=bp) n):=⟨(by rw[l.o];exact aF),d.o.2.trans bn⟩))
    go_wp2_with fail;go_roundw
    case rel=>exact⟨j+1,_,aa,aj,by rw[be.o];exact br⟩
    case measure=>simp[bG];omega
   ·obtain rfl:j=m:=aa;go_wp2_with fail;go_end0;exact⟨g,rfl,d.o.1,d.o.2⟩
end
def b_.gJ (k:b_)(s:cy):Nat->b_
 |0=>k
 |n+1=>(k.gJ s n).sx n (k.nw s (X (k.gJ s n).s.rs n 0))
def b_.pC (k:b_)(s:cy)(l:List Int):b_:=iH (fun(_:b_) a=>s.f a) (λk a=>k.kX s a) k l
def b_.ct (k:b_)(t:cy×List b8)(x:Int):Int×(cy×List b8):=((k.mp t.1 x).1,((k.mp t.1 x).2,t.2))
def b_.tS (k:b_)(t:cy×List b8)(r:List b8):cy×List b8:=gu (et cy) (λs x=>k.al s.1 x) k.ct t r
def b_.tR (k:b_)(t:cy×List b8)(r:List b8):List b8:=fp (et cy) (λs x=>k.al s.1 x) k.ct (λs x=>k.nw s.1 x) t r
def b_.i7 (k:b_)(t:cy×List b8)(r:List b8):List b8:=fq (et cy) (λs x=>k.al s.1 x) k.ct (λs x=>k.nw s.1 x) t r
theorem HZ:ef 270:=g9 func270 ah rfl
section
variable {c:fR}{k0 k:b_}{vt cw vr:a7}{F:Nat->Prop}{s:cy}{w:az}{bp:Nat}
theorem H0 (h:(ds c k0 s vt cw).J F k w)(i:Nat)(x:Int):∃b,(ds c k0 s vt cw).J b (k.sx i x) (O8 w ⟨k0.a.nb,i,Y⟩ (U R x))/\b9 F w b (O8 w ⟨k0.a.nb,i,Y⟩ (U R x)):=by obtain⟨h,ea,f,g⟩:=h;obtain⟨b,d,e⟩:=HS h i x;rw[ea] at d e;exact⟨b,⟨d,ea,f,g⟩,e⟩
theorem vX (h:(ds c k0 s vt cw).J F k w):V w (av k0.a.pw 3)=H (Z (au k0.a.nb) 12 12)/\∀i,i<12->V w (av k0.a.nb i)=H (ak (X k.s.rs i 0))/\w.frozen? (av k0.a.nb i)=O4:=by
 obtain⟨h,ea,d,e⟩:=h;obtain⟨_,b,_⟩:=qL h;obtain⟨_,_,_,c3,_,_,_,rt⟩:=kU b
 grind
theorem H2 (h:(dq (ds c k0 s vt cw) bp (dw c)).J F k w)(ht:L k0.T<=4000)(hp:∀a∈k0.T,0<=a/\a<=2000){ad:Option bB}{d B:Nat}(hr:aC w B 3 1 (Z ad (L k0.T) d) (L k0.T) (k0.T.map (Value.int R)))(hB:∀b,F b->b<B):
 M prog 268 #[aq c.pk,Z ad (L k0.T) d,.func (.func 270) #[] #[aq bp]] w λe w'=>∃g,e=Q (ay #[])/\(dq (ds c k0 s vt cw) bp (dw c)).J g (k.pC s k0.T) w'/\b9 F w g w':=by
 have E:=Ao _ (fun(_:b_) a=>s.f a) (λk a=>pf (k.ld a)) (λk a=>k.kX s a) (λ_ _=>True) k0.T c.pk k0.a.pw k0.a.p c.ct 270 #[bq _] HZ k0.T ad d F k w
  (by
    rintro F t l a m;obtain⟨_,f,_⟩:=ih m;obtain⟨c0,c3,n,hM,o⟩:=i6 f;refine⟨c0,c3,n,hM,(hC a l o).mono ?_⟩
    rintro r w' ⟨rfl,hb⟩
    have v:pf (t.ld a)=pf (ld k0.a.N t.s.y t.s.g t.s.ws a):=by unfold b_.ld;rw[f.2.1]
    simp_all)
  (λt a=>du _) (by grind) aa
  (by
    rintro j F t l x _ p _;have hm:X k0.T j 0∈k0.T:=by grind
    have f:=hp _ hm;have i:=du (t.ld (X k0.T j 0))
    have P:=HY p _ f (K (pf (t.ld (X k0.T j 0)))) aa;rw[show((K (pf (t.ld (X k0.T j 0))):Nat):Int)=pf (t.ld (X k0.T j 0)) from by omega] at P;exact P)
  (by grind) trivial h (ir hr)
  (λq z e hz=>by
    obtain⟨b,cap,u⟩:=fi hr q;cases u;cases e;have i:=(cu hr b rfl).1
    grind)
 refine E.mono ?_;rintro r w' ⟨g,rfl,f,i,_⟩
 exact⟨g,rfl,f,i⟩
theorem H3 {n:Option bB}{o:Nat}{r:List b8}(p:vr=Z n (L r) o){t:cy×List b8}(h:(dj (eu c k) c.bs vr).J F t w)(hr:aC w 0 247 2 vr (L r) (ev r))(hq:L t.2+L r<=90000)(bx f:Nat)(q:bx≠f)(s:w.heap[bx]?=H (dw c))(hy:w.heap[f]?=H (kz (lC c)))(hn:¬F bx)(hm:¬F f):
 M prog 179 #[aq c.bs,.agg #[(jF bx).v,(i4 f).v,(ka c).v]] w λe w'=>∃a1 c1 j,e=Q (ay #[])/\(dj (eu c k) c.bs (Z a1 (L (k.tR t r)) c1)).J j ((k.tS t r).1,k.i7 t r) w'/\
  aC w' 0 247 2 (Z a1 (L (k.tR t r)) c1) (L (k.tR t r)) (ev (k.tR t r))/\(∀b,H b=A (Value.slice a1 (L (k.tR t r)) c1)->¬j b/\I (G w)<=b)/\Fr (λb=>F b\/b=f\/b=bx) w w'/\(∀b,j b->F b\/I (G w)<=b):=by
 subst p;refine(rZ _ (λ_=>True) (jF bx) (i4 f) (ka c) _ _ _ (r2 _ c.bs _ (λ_=>True) (jF bx) (i4 f) (ka c) k.al k.mp k.nw vL vM vN (vQ bx f (lC c)) (vm (Af f)) (ns (ns vP))) r n o rfl aa (by grind) _ t w (by grind) hq (lv (lv h hy hm) s (λd=>d.elim hn q)) (iQ hr)).mono ?_;rintro e w' ⟨a1,c1,a2,c2,u,ag,rfl,⟨v,ad,cap,⟨gf,⟨g,g1,ai,al,am⟩,g2,g3,g4⟩,an,ao,ap,ar,aB,aF,aR⟩,q3,x,l,i,m,B,aV,N,a0,S⟩
 have l:w'.heap[c.bs]?=H (OX #[Z a1 (L (k.tR t r)) c1,Z a2 (L (k.i7 t r)) c2] 197 (0,0)):=l;have i:=i;have m:=m;have bb:∀b,g b->v b:=λb hb=>(by grind)
 have bd:∀b,g b->u b:=λb hb=>(by grind)
 have W:∀b,g b->b≠c.bs:=λb hb e=>(by grind)
 have ab:=(eu c k).keep (w':=w') g1 x (λb hb=>q3 b (by grind) (W b hb))
 have be:F c.bs:=by obtain⟨_,_,_,_,_,_,_,bg,_⟩:=h;omega
 refine⟨a1,c1,λb=>g b\/b=c.bs\/H b=A (Value.slice a2 (L (k.i7 t r)) c2),rfl,⟨g,a2,c2,ab,l,fA m aa,λb hb=>(by grind),aI (aK rfl),λd=>(by grind),λb e=>(by grind),λb hb=>?_⟩,fA i aa,λb e=>⟨λd=>?_,(cu i b e).1⟩,B.mono (λb d=>?_),λb hb=>?_⟩
 ·grind [cu]
 ·rcases d with d|d|d
  ·exact N b e (by grind)
  ·obtain⟨bi,hc⟩:=fI i b e
   grind
  ·exact S b e d
 ·grind
 grind [cu]
end
def b_.fK (k:b_)(s:cy):b_:=(k.gJ s 12).pC s k.T
section
variable {c:fR}{k0 k:b_}{vt cw vr:a7}{F:Nat->Prop}{s:cy}{w:az}{bp:Nat}
theorem c8.of {k k0:b_}(h:c8 k0 s)(b:k.Y=k0.Y)(c:k.G=k0.G):c8 k s:=by
 have e:k.T=k0.T:=by unfold b_.T;rw[b,c]
 exact⟨by rw[e];exact h.nd,by rw[e];exact h.ps,by rw[e];exact h.td,by rw[e];exact h.ep,by rw[e];exact h.tl,by unfold b_.lost;rw[e];exact h.sum⟩
theorem Ar (h:(ds c k0 s vt cw).J F k w):k0.a.nb≠c.pk/\k0.a.nb≠k0.a.pw/\F k0.a.nb:=by
 obtain⟨⟨i,own,h,j⟩,ea,_⟩:=h;have hw:=h.wd;rw[<-ea];have f:=h.w1;obtain⟨m,cW,b,l⟩:=hw;have g:i k.a.nb:=(l _).2 (by rw[b.r1];decide)
 refine⟨λe=>?_,λe=>?_,(j _).2 (by rw[(f _).1 g];decide)⟩
 ·have d:=(f _).1 g;rw[e,h.k1] at d;omega
 ·have d:=b.r1;rw[e,b.w1] at d;omega
theorem H4 {cU:Option bB}{cV:Nat}{r:List b8}(cW:vr=Z cU (L r) cV){t:cy×List b8}(h:(dj (eu c k) c.bs vr).J F t w)(hr:aC w 0 247 2 vr (L r) (ev r))(cX:∀b,H b=A vr->¬F b)(hq:L t.2+L r<=90000){v1 v2:a7}(hs:w.heap[k.a.sd]?=H (OX #[v1,v2] 197 (0,0)))(cs:¬F k.a.sd):
 M prog 193 #[aq c.pk] w λe w'=>∃a1 c1 o,e=Q (ay #[])/\(dj (eu c (k.fK t.1)) c.bs (Z a1 (L ((k.fK t.1).tR t r)) c1)).J o (((k.fK t.1).tS t r).1,(k.fK t.1).i7 t r) w'/\aC w' 0 247 2 (Z a1 (L ((k.fK t.1).tR t r)) c1) (L ((k.fK t.1).tR t r)) (ev ((k.fK t.1).tR t r))/\(∀b,H b=A (Value.slice a1 (L ((k.fK t.1).tR t r)) c1)->¬o b/\I (G w)<=b)/\w'.heap[k.a.sd]?=w'.heap[c.bs]?/\¬o k.a.sd/\Fr (λb=>F b\/b=k.a.sd) w w'/\(∀b,o b->F b\/I (G w)<=b):=by
 have dF:∀(ct:Fn)(first cap:Array a7)(w:az),(Instr.makeFunc ct first cap).run prog w=.ok (.func ct first cap) w:=λ_ _ _ _=>rfl;obtain⟨S,⟨⟨vt,cw,h0⟩,cv⟩,cx⟩:=jO h;have b5:aA (c8 k t.1):=cv;have cY:=aw w (dw c)
 have cZ:∀b,S b->b<I (G w):=(c9 c k vt cw).lt h0;have hX:(dq (ds c k t.1 vt cw) (I (G w)) (dw c)).J (λb=>S b\/b=I (G w)) k (w.alloc (dw c)):=⟨S,⟨(c9 c k vt cw).below h0 cY,rfl,rfl,rfl⟩,aO _ _,λd=>by have:=cZ _ d;omega,λb=>gp⟩
 obtain⟨_,b6,W,_,_⟩:=ih hX;obtain⟨bd,_,c0,_,_⟩:=i6 b6;obtain⟨c3,_⟩:=vX b6;have am:V (w.alloc (dw c)) (av (I (G w)) 0)=H (aq c.pk):=by simp only [World.cell?];rw[W];rfl
 clear b6 W cv;go_enter func193,ntmps193;go_wp2_with fail
 go_loopw [12] (λiv wr=>∃(j:Nat)(ab:Nat->Prop),j<=12/\iv=ak j/\aA ((dq (ds c k t.1 vt cw) (I (G w)) (dw c)).J ab (k.gJ t.1 j) wr/\b9 (λb=>S b\/b=I (G w)) (w.alloc (dw c)) ab wr)) (λiv _=>12-K (bG iv))
 case atStart=>exact⟨0,_,a4 _,rfl,⟨hX,b9.refl _ _⟩⟩
 case round=>
  clear hX am bd c0 c3;obtain⟨j,ab,dG,rfl,N⟩:=hrel;obtain⟨be,u,W,lb,b7⟩:=ih N.o.1;have am:V wr (av (I (G w)) 0)=H (aq c.pk):=aD W
  obtain⟨bd,_,c0,_,_⟩:=i6 u;obtain⟨c3,rt⟩:=vX u;by_cases ca:j<12
  ·have cz:aA (∀bg bi w1,(ds c k t.1 vt cw).J bg bi w1->b9 be wr bg w1->(dq (ds c k t.1 vt cw) (I (G w)) (dw c)).J (λb=>bg b\/b=I (G w)) bi w1/\b9 ab wr (λb=>bg b\/b=I (G w)) w1):=b7;have v:aA (wr.heap[I (G w)]?=H (dw c)/\I (G w)<I (G wr)/\(ds c k t.1 vt cw).J be (k.gJ t.1 j) wr):=⟨W,lb,u⟩
   obtain⟨n1,dH,c2⟩:=Ar u;have n4:k.a.nb≠I (G w):=λe=>by obtain⟨ad,g1,_,g3,_⟩:=N.o.1;exact g3 (by rw[<-e];exact(Ar g1).2.2)
   obtain⟨cA,c4⟩:=rt j ca;have cb:=Aq ((ds c k t.1 vt cw).below u (aH _ wr).drew) ((k.gJ t.1 j).s.rs.getD j 0)
   have bl:aA (k.gJ t.1 (j+1)=(k.gJ t.1 j).sx j (k.nw t.1 ((k.gJ t.1 j).s.rs.getD j 0))):=rfl;obtain⟨k3,cc⟩:∃k3,k.gJ t.1 (j+1)=k3:=⟨_,rfl⟩
   rw[cc] at bl;have c5:aA (k.gJ t.1 (j+1)=k3):=cc;clear cc u W lb b7 rt c2;generalize (k.gJ t.1 j).s.rs.getD j 0=x at cb bl cA;generalize k.gJ t.1 j=k2 at bl v N;have j0:(0:Int)<=(j:Int):=aa;have dI:(j:Int)<12:=aa;go_wp2_with fail
   go_region_held3 (λw'=>V w' (av (I (G w)) 0)=H (aq c.pk)/\V w' (av c.pk 0)=H (aq k.a.pw)/\V w' (av k.a.pw 3)=H (Z (au k.a.nb) 12 12)) (go_keep)
    (first
      |(go_at_call 267;refine cb.mono ?_;clear cb;rintro e g ⟨rfl,cB⟩;have bn:O (I (G wr)) wr g:=((aH _ wr).drew).trans (cB.mono ac);have ag:=(ds c k t.1 vt cw).below v.o.2.2 bn;obtain⟨y1,_,_,_,_⟩:=i6 ag;obtain⟨c6,cC⟩:=vX ag;obtain⟨c7,da⟩:=cC j ca;have cd:=(bn.cell (p:=av (I (G w)) 0) v.o.2.1).trans am;have i:aA ((ds c k t.1 vt cw).J be k2 g/\O (I (G wr)) wr g):=⟨ag,bn⟩;clear cB bn ag cC))
   have B:aA (∃ad,(dq (ds c k t.1 vt cw) (I (G w)) (dw c)).J ad k3 (O8 g ⟨k.a.nb,j,Y⟩ (U R (k.nw t.1 x)))/\b9 (λb=>S b\/b=I (G w)) (w.alloc (dw c)) ad (O8 g ⟨k.a.nb,j,Y⟩ (U R (k.nw t.1 x)))):=by
    obtain⟨ad,db,dc⟩:=H0 i.o.1 j (k.nw t.1 x)
    obtain⟨d_,ce⟩:=cz.o ad _ _ db ((b9.of i.o.2).trans dc)
    exact⟨_,by rw[bl.o];exact d_,N.o.2.trans ce⟩
   clear i cz v N cd y1 c6 c7 da am bd c0 c3 cA c4;go_wp2_with fail;go_roundw
   case rel=>
    obtain⟨ad,d_,ce⟩:=B.o;exact⟨j+1,ad,aa,aj,by rw[c5.o];exact⟨d_,ce⟩⟩
   case measure=>simp[bG];omega
  ·obtain rfl:j=12:=aa;clear ca rt b7;have cf:aA (L k.T<=4000/\∀a∈k.T,0<=a/\a<=2000):=⟨b5.o.tl,b5.o.ps⟩
   have hd:=(ax wr).drew;have cD:M prog 260 #[aq c.pk] wr.drew λe w'=>∃a d,e=Q (Z a (L k.T) d)/\aC w' (I (G wr.drew)) 3 1 (Z a (L k.T) d) (L k.T) (k.T.map (Value.int R))/\O (I (G wr.drew)) wr.drew w':=by
    have e:(k.gJ t.1 12).T=k.T:=by unfold b_.T;rw[u.2.2.1,u.2.2.2]
    have P:=An (c:=c) (k:=k.gJ t.1 12) (F:=be) (s:=t.1) (w:=wr.drew) ⟨vt,cw,(c9 c _ vt cw).below u.1 hd⟩ (by rw[e];exact cf.o.1)
    rw[e] at P;exact P
   have v:aA (I (G w)<I (G wr)/\(dq (ds c k t.1 vt cw) (I (G w)) (dw c)).J ab (k.gJ t.1 12) wr.drew/\b9 (λb=>S b\/b=I (G w)) (w.alloc (dw c)) ab wr.drew/\∀b,ab b->b<I (G wr.drew)):=⟨lb,(dq (ds c k t.1 vt cw) (I (G w)) (dw c)).below N.o.1 hd,N.o.2.below hd,λb hb=>by have:=(dq (ds c k t.1 vt cw) (I (G w)) (dw c)).lt N.o.1 b hb;simpa using this⟩
   have bo:aA (k.fK t.1=(k.gJ t.1 12).pC t.1 k.T):=rfl;obtain⟨f,cg⟩:∃f,k.fK t.1=f:=⟨_,rfl⟩
   rw[cg] at bo;have dd:aA (k.fK t.1=f):=cg;clear cg;generalize k.gJ t.1 12=k2 at bo v N u;clear u W lb hd N bd c0 c3;go_wp2_with fail
   go_region_held3 (λw'=>V w' (av (I (G w)) 0)=H (aq c.pk)) (go_keep)
    (first
      |(go_at_call 260;refine cD.mono ?_;clear cD;rintro e ch ⟨de,df,rfl,cE,ci⟩;have cd:V ch (av (I (G w)) 0)=H (aq c.pk):=(ci.cell (p:=av (I (G w)) 0) (by have:=v.o.1;simpa using this)).trans am;have bp:aA (aC ch (I (G wr.drew)) 3 1 (Z de (L k.T) df) (L k.T) (k.T.map (Value.int R))/\O (I (G wr.drew)) wr.drew ch):=⟨cE,ci⟩;clear cE ci)
      |(go_at_call 268;refine(H2 ((dq (ds c k t.1 vt cw) (I (G w)) (dw c)).below v.o.2.1 bp.o.2) cf.o.1 cf.o.2 bp.o.1 v.o.2.2.2).mono ?_;rintro e g ⟨br,rfl,ck,cF⟩;obtain⟨cG,an,q,_,_⟩:=ih ck;have cH:V g (av (I (G w)) 0)=H (aq c.pk):=aD q;clear an q;have cI:aA ((dq (ds c k t.1 vt cw) (I (G w)) (dw c)).J br f g/\b9 (λb=>S b\/b=I (G w)) (w.alloc (dw c)) br g):=⟨(by rw[bo.o];exact ck),(v.o.2.2.1.below bp.o.2).trans cF⟩;clear ck cF))
   all_goals
    have bs:aA (∃n,(dj (eu c f) c.bs vr).J n (t.1,t.2) g/\¬n (I (G w))/\g.heap[I (G w)]?=H (dw c)/\Fr F w g/\(∀b,n b->F b\/I (G w)<=b))/\f.a=k.a:=by
     obtain⟨cG,an,q,dg,dh⟩:=cI.o.1;have cJ:=cI.o.2;have di:b9 S w br g:=⟨(Fr.of (X:=S) (aw w (dw c))).trans cJ.fr (λb d=>d.imp id (λe=>by omega)),λb hb=>(cJ.sub b hb).elim (λd=>d.imp id (λe=>by omega)) (λd=>aI (by simp at d;omega))⟩
     obtain⟨n,hM,cL⟩:=cx (dq (eu c f) (I (G w)) (dw c)) br t.1 g ⟨cG,⟨⟨vt,cw,an.1⟩,b5.o.of an.2.2.1 an.2.2.2⟩,q,dg,dh⟩ di;obtain⟨g1,g2,g3⟩:=sf hM;exact⟨⟨_,g1,λd=>d.2 rfl,g2,cL.fr,λb d=>cL.sub b d.1⟩,an.2.1⟩
    obtain⟨bs,dk⟩:=bs;obtain⟨n,hM,cM,cl,bt,cm⟩:=bs.o;have cN:aC g 0 247 2 vr (L r) (ev r):=cK hr (λb e=>bt.block b (cu hr b e).2 (cX b e))
    have cO:g.heap[k.a.sd]?=H (OX #[v1,v2] 197 (0,0)):=(bt.block _ (cj hs) cs).trans hs;have cP:∀b,n b->b<I (G g):=(dj (eu c f) c.bs vr).lt hM;obtain⟨_,⟨⟨dJ,dK,ag⟩,_⟩,_⟩:=jO hM;obtain⟨_,_,_,_,cn,_⟩:=e3 ag;have cQ:=aT g _ cn;have cR:=cj cl;have ao:¬n k.a.sd/\k.a.sd<I (G w):=⟨λd=>(cm _ d).elim cs (λd=>by have:=cj hs;omega),cj hs⟩
    have i:aA ((dj (eu c f) c.bs vr).J n (t.1,t.2) g/\aC g 0 247 2 vr (L r) (ev r)/\g.heap[k.a.sd]?=H (OX #[v1,v2] 197 (0,0))/\(∀b,n b->b<I (G g))/\¬n (I (G w))/\I (G w)<I (G g)/\(¬n k.a.sd/\k.a.sd<I (G w))/\c.pk<I (G g)/\g.heap[I (G w)]?=H (dw c)):=⟨hM,cN,cO,cP,cM,cR,ao,cQ,cl⟩
    have bx:aA (Fr F w g/\∀b,n b->F b\/I (G w)<=b):=⟨bt,cm⟩
    have dl:aA (∀m,O (I (G g)) g m->m.heap[I (G g)]?=H (dw c)->m.heap[I (G g)+1]?=H (kz (lC c))->M prog 179 #[aq c.bs,.agg #[(jF (I (G g))).v,(i4 (I (G g)+1)).v,(ka c).v]] m λe w'=>∃a1 c1 o,e=Q (ay #[])/\(dj (eu c f) c.bs (Z a1 (L (f.tR t r)) c1)).J o ((f.tS t r).1,f.i7 t r) w'/\aC w' 0 247 2 (Z a1 (L (f.tR t r)) c1) (L (f.tR t r)) (ev (f.tR t r))/\(∀b,H b=A (Value.slice a1 (L (f.tR t r)) c1)->¬o b/\I (G m)<=b)/\Fr (λb=>n b\/b=I (G g)+1\/b=I (G g)) m w'/\(∀b,o b->n b\/I (G m)<=b)):=λm aB b0 b2=>
     H3 cW ((dj (eu c f) c.bs vr).below i.o.1 aB) (cK i.o.2.1 (λb e=>aB.block b (cu i.o.2.1 b e).2)) hq (I (G g)) (I (G g)+1) aa b0 b2 (λd=>by have:=i.o.2.2.2.1 _ d;omega) (λd=>by have:=i.o.2.2.2.1 _ d;omega)
    clear cd am bp v bo hM cN cO cP cM cR ao cQ cl bt cm ag bs cx h0 hr hs h;go_wp2_with fail
    go_region_held3 (λw'=>V w' (av (I (G w)) 0)=H (aq c.pk)/\V w' (av c.pk 4)=H (aq c.bs)) (go_keep)
     (first
       |(go_at_call 189;refine(vO (lC c) g.drew c.pk).mono ?_;rintro e m ⟨rfl,b0,b2,aB⟩;have b3:O (I (G g)) g m:=((aH _ g).drew).trans (aB.mono ac);have co:=(b3.cell (p:=av c.pk 4) i.o.2.2.2.2.2.2.2.1).trans cn;have cp:=(b3.cell (p:=av (I (G w)) 0) i.o.2.2.2.2.2.1).trans cH;have B:aA (m.heap[I (G g)]?=H (dw c)/\m.heap[I (G g)+1]?=H (kz (lC c))/\O (I (G g)) g m):=⟨b0,b2,b3⟩;clear b0 b2 aB b3)
       |(go_at_call 179;refine(dl.o m B.o.2.2 B.o.1 B.o.2.1).mono ?_;rintro e l ⟨a1,c1,ap,rfl,q,aF,ar,aR,aV⟩;obtain⟨_,⟨⟨dm,dn,cq⟩,_⟩,_⟩:=jO q;obtain⟨u0,_,_,_,dp,_⟩:=e3 cq;have dr:V l (av (I (G w)) 0)=H (aq c.pk):=(by have cr:=B.o.2.2.block (I (G w)) i.o.2.2.2.2.2.1;have dt:=aR.block (I (G w)) (by have:=B.o.2.2.size;have:=i.o.2.2.2.2.2.1;omega) (λd=>by rcases d with d|d|d;(exact i.o.2.2.2.2.1 d);(have:=i.o.2.2.2.2.2.1;omega);(have:=i.o.2.2.2.2.2.1;omega));simp[World.cell?,dt,cr,i.o.2.2.2.2.2.2.2.2]);have b4:aA ((dj (eu c f) c.bs (Z a1 (L (f.tR t r)) c1)).J ap ((f.tS t r).1,f.i7 t r) l/\aC l 0 247 2 (Z a1 (L (f.tR t r)) c1) (L (f.tR t r)) (ev (f.tR t r))/\(∀b,H b=A (Value.slice a1 (L (f.tR t r)) c1)->¬ap b/\I (G m)<=b)/\Fr (λb=>n b\/b=I (G g)+1\/b=I (G g)) m l/\(∀b,ap b->n b\/I (G m)<=b)/\(c9 c f dm dn).J _ (f.tS t r).1 l):=⟨q,aF,ar,aR,aV,cq⟩;clear q aF ar aR aV cq))
    all_goals
     clear co cp cH cn;have a0:aA (l.heap[k.a.sd]?=H (OX #[v1,v2] 197 (0,0))):=by have l1:=i.o.2.2.2.2.2.2.1;have l2:=i.o.2.2.2.2.2.1;have du:=B.o.2.2.size;exact((b4.o.2.2.2.1.block k.a.sd aa (λd=>by rcases d with d|d|d;(exact l1.1 d);omega;omega)).trans (B.o.2.2.block k.a.sd aa)).trans i.o.2.2.1
     obtain⟨_,cS,_⟩:=qL b4.o.2.2.2.2.2;obtain⟨_,_,cT,_⟩:=kU cS;rw[dk] at cT u0;obtain⟨dL,ai,al,_,a2,_⟩:=b4.o.1;have dv:V l (av c.bs 0)=H (Z a1 (L (f.tR t r)) c1):=aD a2
     have b1:V l (av c.bs 1)=H (Z ai (L (f.i7 t r)) al):=aD a2
     have s0:V l (av k.a.sd 0)=H v1:=aD a0.o
     have s1:V l (av k.a.sd 1)=H v2:=aD a0.o
     have t0:l.frozen? (av k.a.sd 0)=O4:=aE a0.o
     have bi:l.frozen? (av k.a.sd 1)=O4:=aE a0.o
     have dx:aA (∃o,(dj (eu c f) c.bs (Z a1 (L (f.tR t r)) c1)).J o ((f.tS t r).1,f.i7 t r) (O8 (O8 l ⟨k.a.sd,0,Y⟩ (Z a1 (L (f.tR t r)) c1)) ⟨k.a.sd,1,Y⟩ (Z ai (L (f.i7 t r)) al)).drew/\aC (O8 (O8 l ⟨k.a.sd,0,Y⟩ (Z a1 (L (f.tR t r)) c1)) ⟨k.a.sd,1,Y⟩ (Z ai (L (f.i7 t r)) al)).drew 0 247 2 (Z a1 (L (f.tR t r)) c1) (L (f.tR t r)) (ev (f.tR t r))/\(∀b,H b=A (Value.slice a1 (L (f.tR t r)) c1)->¬o b/\I (G w)<=b)/\(O8 (O8 l ⟨k.a.sd,0,Y⟩ (Z a1 (L (f.tR t r)) c1)) ⟨k.a.sd,1,Y⟩ (Z ai (L (f.i7 t r)) al)).drew.heap[k.a.sd]?=(O8 (O8 l ⟨k.a.sd,0,Y⟩ (Z a1 (L (f.tR t r)) c1)) ⟨k.a.sd,1,Y⟩ (Z ai (L (f.i7 t r)) al)).drew.heap[c.bs]?/\¬o k.a.sd/\Fr (λb=>F b\/b=k.a.sd) w (O8 (O8 l ⟨k.a.sd,0,Y⟩ (Z a1 (L (f.tR t r)) c1)) ⟨k.a.sd,1,Y⟩ (Z ai (L (f.i7 t r)) al)).drew/\(∀b,o b->F b\/I (G w)<=b)):=by
      have l1:=i.o.2.2.2.2.2.2.1;have l2:=i.o.2.2.2.2.2.1;have du:=B.o.2.2.size;obtain⟨q,aF,ar,aR,aV,_⟩:=b4.o;have ao:¬ap k.a.sd:=λd=>(aV _ d).elim l1.1 (λd=>by omega)
      have bb:Fr (λb=>b=k.a.sd) l (O8 (O8 l ⟨k.a.sd,0,Y⟩ (Z a1 (L (f.tR t r)) c1)) ⟨k.a.sd,1,Y⟩ (Z ai (L (f.i7 t r)) al)).drew:=(((Fr.refl (λb=>b=k.a.sd) l).set k.a.sd 0 _ rfl).set k.a.sd 1 _ rfl).drew;have dy:ap c.bs:=by obtain⟨_,_,_,_,_,_,_,cr,_⟩:=q;exact cr
      have dz:Fr F w l:=(bx.o.1.trans (Fr.of (X:=F) B.o.2.2) (λb d=>aK d)).trans aR (λb d=>by
       have:=bx.o.1.size;rcases d with d|d|d
       ·exact bx.o.2 b d
       ·exact aI aa
       ·exact aI aa)
      refine⟨ap,(dj (eu c f) c.bs _).keep q bb.size (λb hb=>bb.block b ((dj (eu c f) c.bs _).lt q b hb) (λe=>ao (by rw[<-e];exact hb))),cK aF (λb e=>bb.block b (cu aF b e).2 (λdM=>by have:=(ar b e).2;omega)),λb e=>⟨(ar b e).1,by have:=(ar b e).2;omega⟩,?_,ao,(dz.mono (λb d=>aK d)).trans bb (λb e=>aK (aI e)),λb hb=>(aV b hb).elim (bx.o.2 b) (λd=>aI aa)⟩
      rw[bb.block c.bs (cj a2) (λe=>ao (by rw[<-e];exact dy)),a2];show((l.setCell _ _).setCell _ _).heap[k.a.sd]?=_;simp only [World.setCell,Array.getElem?_modify,if_true,a0.o,Option.map_some];simp
     clear cS a2;go_wp2_with fail
     go_region
     clear dv b1 s0 s1 t0 bi cT u0 dp dr;obtain⟨o,dA,dB,dC,co,cp,dD,dE⟩:=dx.o;go_end0;rw[dd.o];exact⟨a1,c1,o,rfl,dA,dB,dC,co,cp,dD,dE⟩
end
def b_.mV (k:b_)(t f n:Nat):b_:=k.ar k.s.y k.s.g (splice k.s.ws t ((k.s.ws.drop f).take n))
def b_.cop (k:b_)(a:Int):b_:=k.ar k.s.y (kP k.a.N k.a.O k.s.y k.s.g k.s.ws a) (kQ k.a.N k.a.O k.s.y k.s.g k.s.ws a)
section
variable {c:fR}{k0 k:b_}{vt cw:a7}{F:Nat->Prop}{s:cy}{w:az}{bp gU:Nat}
theorem H5 (h:(ds c k0 s vt cw).J F k w)(t f n:Nat)(d:t+n<=k0.a.N+k0.a.O)(h2:f+n<=k0.a.N+k0.a.O):M prog 273 #[aq k0.a.p,ak t,ak f,ak n] w λe w'=>∃b,e=Q (ay #[])/\(ds c k0 s vt cw).J b (k.mV t f n) w'/\b9 F w b w':=by obtain⟨h,ea,vU,vV⟩:=h;obtain⟨g,hU⟩:=pB h;rw[<-ea];refine(yy t f n w g (by rw[ea];exact d) (by rw[ea];exact h2)).mono ?_;exact vS
theorem H6 (h:(ds c k0 s vt cw).J F k w)(a:Int):M prog 276 #[aq k0.a.p,ak a] w λe w'=>∃b v,e=Q (ak v)/\(ds c k0 s vt cw).J b (k.cop a) w'/\b9 F w b w':=by
 obtain⟨h,ea,d,f⟩:=h;obtain⟨g,i⟩:=pB h;rw[<-ea];refine(yN a w g).mono ?_;rintro e j ⟨rfl,l,m⟩
 obtain⟨n,o,p⟩:=i j _ _ _ l m;exact⟨n,_,rfl,⟨o,ea,d,f⟩,p⟩
theorem H7 {u:Int}(h:(iT (dq (ds c k0 s vt cw) bp (dw c)) gU).J F (k,u) w)(a:Int)(m:Nat)(ha:a∈k0.T)(hp:0<=a/\a<=2000)(x:0<=s.f a)(B:s.f a+m<=k0.a.N+k0.a.O)(N:a+m<=k0.a.N+k0.a.O)(bl:0<=u/\u<=100000)(hm:m<=13):
 M prog 272 #[ak a,ak m,aq bp,aq gU] w λe w'=>∃j,e=Q (ay #[])/\(iT (dq (ds c k0 s vt cw) bp (dw c)) gU).J j (k.mV (K (s.f a)) (K a) m,u+m) w'/\b9 F w j w':=by
 have l:=j7 hp.1 aa;obtain⟨bo,g1,_,_,S⟩:=mU h;obtain⟨g,g2,W,lb,ab⟩:=ih g1;have ad:V w (av bp 0)=H (aq c.pk):=aD W
 obtain⟨ag,ai,c0,_,_⟩:=i6 g2;have n:=(ds c k0 s vt cw).below g2 (aH _ w).drew;obtain⟨_,_,_,⟨D,o1,br,al⟩,_⟩:=i6 n;obtain⟨z,i,am,bs⟩:=o1.lookup_int (t:=158) (e:=3) (q:=R) js underlying158 underlying3 (nl _) l;obtain rfl:z=s.f a:=by have:=am.symm.trans (al a ha);simpa using this
 obtain⟨tn,ao⟩:=bC x;obtain⟨an,ap⟩:=bC hp.1;rw[ao] at i B⊢;rw[ap] at i N l⊢;have P:=H5 n tn an m aa aa;rw[bD,bD];have ar:aA (∀b d w1,(ds c k0 s vt cw).J b d w1->b9 g w b w1->∃f,(iT (dq (ds c k0 s vt cw) bp (dw c)) gU).J f (d,u) w1/\b9 F w f w1):=λb d w1 aB t=>by obtain⟨j2,aF⟩:=ab b d w1 aB t;obtain⟨cI,t3⟩:=S _ d w1 j2 aF;exact⟨_,cI,t3⟩
 have aR:aA (b9 g w g w.drew):=b9.of (aH _ w).drew;go_enter func272,ntmps272;go_wp2_with fail
 go_region_held3 (λw'=>V w' (av bp 0)=H (aq c.pk)/\V w' (av c.pk 0)=H (aq k0.a.pw)/\V w' (av c.pk 3)=H (.map (H c.ct))/\V w' (av k0.a.pw 0)=H (aq k0.a.p)) (go_keep)
  (first
    |(go_at_call 273;refine P.mono ?_;rintro e o ⟨b,rfl,cI,t3⟩;obtain⟨aV,a0,a1,_,_⟩:=i6 cI;have a2:=ar.o b _ o cI (aR.o.trans t3);obtain⟨f,cM,p⟩:=a2;have bb:=(pA cM).1;have bt:=(pA cM).2;dsimp only at bb;have bd:V o (av bp 0)=H (aq c.pk):=(by obtain⟨_,be,_⟩:=mU cM;obtain⟨_,_,bg,_⟩:=ih be;simp[World.cell?,bg]);have v:aA (_/\_):=⟨cM,p⟩;clear cI t3 cM p))
 all_goals
  clear ad ag ai c0 aV a0 a1 bd i;go_wp2_with fail;go_end0;obtain⟨d_,bi⟩:=Ap v.o.1 (u+m)
  exact⟨f,rfl,d_,v.o.2.trans bi⟩
theorem H8 (h:(dq (ds c k0 s vt cw) bp (dw c)).J F k w)(a m:Int):
 M prog 275 #[ak a,ak m,aq bp] w λe w'=>∃b,e=Q (ay #[])/\(dq (ds c k0 s vt cw) bp (dw c)).J b (k.cop a) w'/\b9 F w b w':=by
 obtain⟨n,g2,f,lb,g⟩:=ih h;have o:V w (av bp 0)=H (aq c.pk):=aD f
 obtain⟨p,q,c0,_,_⟩:=i6 g2;go_enter func275,ntmps275;go_wp2_with fail;refine(H6 g2 a).mono ?_;rintro e w1 ⟨i,v,rfl,j,l⟩
 have d:=cg ((cg g).o i _ w1 j l)
 go_wp2;go_end0;exact⟨_,rfl,d.o.1,d.o.2⟩
end
def b_.jQ (s:cy)(t:b_×Int)(a:Int):b_×Int:=(t.1.mV (K (s.f a)) (K a) (1+K (pf (t.1.ld a))),t.2+(1+pf (t.1.ld a)))
def b_.mW (k:b_)(s:cy)(l:List Int):b_×Int:=iH (λ_ a=>s.f a) (b_.jQ s) (k,0) l
def b_.qM (k:b_)(s:cy)(l:List Int):b_:=iH (fun(_:b_) a=>s.f a) (λk a=>k.cop a) k l
def b_.vY (k:b_):b_:={k with s:={k.s with M:=[]}}
def b_.sl1 (k:b_)(s:cy):b_:=(k.mW s k.G).1.ar (k.mW s k.G).1.s.y (K (k.mW s k.G).2) (k.mW s k.G).1.s.ws
def b_.sl2 (k:b_)(s:cy):b_:=(k.sl1 s).qM s k.Y
def b_.sl (k:b_)(s:cy):b_:=((k.sl2 s).ar 0 (k.sl2 s).s.g (k.sl2 s).s.ws).vY
theorem H9:ef 272:=g9 func272 ah rfl
theorem H_:ef 275:=g9 func275 ah rfl
section
variable {c:fR}{k0 k:b_}{vt cw:a7}{F:Nat->Prop}{s:cy}{w:az}{bp gU:Nat}
theorem Ia (h:(ds c k0 s vt cw).J F k w)(n:Int)(h0:0<=n)(f:n<=k0.a.O):M prog 274 #[aq k0.a.p,ak n] w λe w'=>∃b,e=Q (ay #[])/\(ds c k0 s vt cw).J b (k.ar k.s.y (K n) k.s.ws) w'/\b9 F w b w':=by obtain⟨h,ea,vU,vV⟩:=h;obtain⟨d,hU⟩:=pB h;rw[<-ea];refine(Eu n w d h0 (by grind)).mono ?_;exact vS
theorem Ib (h:(ds c k0 s vt cw).J F k w):M prog 184 #[aq k0.a.p] w λe w'=>∃b,e=Q (ay #[])/\(ds c k0 s vt cw).J b (k.ar 0 k.s.g k.s.ws) w'/\b9 F w b w':=by obtain⟨h,ea,vU,vV⟩:=h;obtain⟨d,hU⟩:=pB h;rw[<-ea];refine(yk w d).mono ?_;exact vS
theorem Ic (h:(ds c k0 s vt cw).J F k w):V w (av k0.a.pw 1)=H (aq k0.a.pc)/\M prog 185 #[aq k0.a.pc] w λe w'=>∃f,e=Q (ay #[])/\(ds c k0 s vt cw).J f k.vY w'/\b9 F w f w':=by
 obtain⟨h,ea,j,l⟩:=h;obtain⟨u,g1,g2⟩:=qL h;obtain⟨_,c1,_⟩:=kU g1;obtain⟨cW,hc,m⟩:=zM g1;have P:=uQ w hc.hp;rw[ea] at c1 P;refine⟨c1,P.mono ?_⟩
 rintro e n ⟨rfl,g,d⟩
 rw[<-ea] at g d;obtain⟨v,o,p⟩:=m n _ _ g ⟨d.os,d.tape,d.output,d.size,λb hb i _=>d.block b hb i i⟩ aa;obtain⟨q,j2,t⟩:=g2 _ _ _ o p;exact⟨q,rfl,⟨j2,ea,j,l⟩,t⟩
theorem pD (h:(ds c k0 s vt cw).J F k w):V w (av c.pk 1)=H c.yv/\V w (av c.pk 2)=H c.ov/\aC w 0 3 1 c.yv (L k0.Y) (k0.Y.map (Value.int R))/\aC w 0 3 1 c.ov (L k0.G) (k0.G.map (Value.int R)):=by
 obtain⟨h,ea,b,d⟩:=h;obtain⟨_,e,f,_⟩:=e3 h
 grind [Am]
def je (k0:b_)(s:cy)(G:Nat->b_×Int->Prop):Prop:=
 (∀j t,j<L k0.G->G j t->s.f (X k0.G j 0)≠-1->0<=s.f (X k0.G j 0)/\s.f (X k0.G j 0)+(1+pf (t.1.ld (X k0.G j 0)))<=k0.a.N+k0.a.O/\X k0.G j 0+(1+pf (t.1.ld (X k0.G j 0)))<=k0.a.N+k0.a.O/\0<=t.2/\t.2<=100000)/\
 (∀j t,j<L k0.G->G j t->G (j+1) (fW (λ_ a=>s.f a) (b_.jQ s) t (X k0.G j 0)))/\(∀t,G (L k0.G) t->0<=t.2/\t.2<=k0.a.O)
theorem Ie {G:Nat->b_×Int->Prop}(k:je k0 s G){t:b_×Int}(h0:G 0 t)(h:(iT (dq (ds c k0 s vt cw) bp (dw c)) gU).J F t w)(hl:L k0.G<=4000)(hp:∀a∈k0.G,0<=a/\a<=2000){ad:Option bB}{d:Nat}(hv:c.ov=Z ad (L k0.G) d):
 M prog 268 #[aq c.pk,Z ad (L k0.G) d,.func (.func 272) #[] #[aq bp,aq gU]] w λe w'=>∃f,e=Q (ay #[])/\(iT (dq (ds c k0 s vt cw) bp (dw c)) gU).J f (iH (λ_ a=>s.f a) (b_.jQ s) t k0.G) w'/\b9 F w f w'/\G (L k0.G) (iH (λ_ a=>s.f a) (b_.jQ s) t k0.G):=by
 have l:∀a∈k0.G,a∈k0.T:=λa ha=>bw.2 (aK ha)
 refine vR _ (λ_ a=>s.f a) (λt a=>pf _) _ G k0.T c.pk k0.a.pw k0.a.p c.ct 272 #[bq _,bq _] H9 k0.G ad d F t w
  (by
    rintro F t m a o;obtain⟨_,g,_⟩:=mU o;obtain⟨_,b,_⟩:=ih g;obtain⟨c0,c3,p,hM,q⟩:=i6 b;refine⟨c0,c3,p,hM,(hC a m q).mono ?_⟩
    rintro r w' ⟨rfl,hb⟩
    have u:pf (t.1.ld a)=pf (ld k0.a.N t.1.s.y t.1.s.g t.1.s.ws a):=by unfold b_.ld;rw[b.2.1]
    exact⟨pk _,pc _,by rw[u],hb⟩)
  (λt a=>du _) (λa ha=>⟨by have:=hp a ha;omega,l a ha⟩) aa
  (by
    rintro j F t m v hg i x;have hm:X k0.G j 0∈k0.G:=by simp_all
    have b:=hp _ hm;have W:=du (t.1.ld (X k0.G j 0))
    obtain⟨a1,a2,B,N,S⟩:=k.1 j t v hg x;have n:((1+K (pf (t.1.ld (X k0.G j 0))):Nat):Int)=1+pf (t.1.ld (X k0.G j 0)):=aa;have P:=H7 i _ _ (l _ hm) b a1 aa ((n▸B)) ⟨N,S⟩ aa;rw[n] at P;exact P)
  k.2.1 h0 h (λf ab w' i _=>?_)
 obtain⟨_,g,_⟩:=mU i;obtain⟨_,b,_⟩:=ih g;have hr:=(pD b).2.2.2
 grind [ir]
theorem If (h:(dq (ds c k0 s vt cw) bp (dw c)).J F k w)(hl:L k0.Y<=4000)(hp:∀a∈k0.Y,0<=a/\a<=2000){ad:Option bB}{d:Nat}(hv:c.yv=Z ad (L k0.Y) d):
 M prog 268 #[aq c.pk,Z ad (L k0.Y) d,.func (.func 275) #[] #[aq bp]] w λe w'=>∃f,e=Q (ay #[])/\(dq (ds c k0 s vt cw) bp (dw c)).J f (k.qM s k0.Y) w'/\b9 F w f w':=by
 have p:∀a∈k0.Y,a∈k0.T:=λa ha=>bw.2 (by grind)
 have E:=vR _ (fun(_:b_) a=>s.f a) (λt a=>pf (t.ld a)) (λk a=>k.cop a) (λ_ _=>True) k0.T c.pk k0.a.pw k0.a.p c.ct 275 #[bq _] H_ k0.Y ad d F k w
  (by
    rintro F t i a l;obtain⟨_,b,_⟩:=ih l;obtain⟨c0,c3,m,hM,n⟩:=i6 b;refine⟨c0,c3,m,hM,(hC a i n).mono ?_⟩
    rintro r w' ⟨rfl,hb⟩
    have q:pf (t.ld a)=pf (ld k0.a.N t.s.y t.s.g t.s.ws a):=by unfold b_.ld;rw[b.2.1]
    simp_all)
  (λt a=>du _) (by grind) aa
  (λj F t i _ _ g _=>H8 g _ _)
  (by grind) trivial h (λf u w' g _=>by
    obtain⟨_,b,_⟩:=ih g;have hr:=(pD b).2.2.1
    grind [ir])
 refine E.mono ?_;rintro r w' ⟨f,rfl,b,o,_⟩
 exact⟨f,rfl,b,o⟩
end
theorem b9.less {X F c:Nat->Prop}{w w':az}(h:b9 X w F w')(hs:∀b,c b->F b):b9 X w c w':=⟨h.fr,λb d=>h.sub b (hs b d)⟩
theorem Ig {g:Type}{o:dr g}{bx:Nat}{x:Obj}{F:Nat->Prop}{w:az}{t:g}(h:(dq o bx x).J F t w):∃e,o.J e t w/\w.heap[bx]?=H x/\bx<I (G w)/\(∀c f w1,o.J c f w1->b9 e w c w1->(dq o bx x).J (λb=>c b\/b=bx) f w1/\b9 F w (λb=>c b\/b=bx) w1)/\∀b,e b->F b:=by
 obtain⟨e,h,g2,g3,g4⟩:=h;refine⟨e,h,g2,cj g2,λc f w1 i hT=>⟨⟨c,i,(hT.fr.block bx (cj g2) g3).trans g2,λd=>(hT.sub bx d).elim g3 (λd=>by have:=cj g2;omega),λb=>gp⟩,⟨hT.fr.mono (λb hb=>(g4 b).2 (aK hb)),λb hb=>?_⟩⟩,λb hb=>(g4 b).2 (aK hb)⟩
 exact vK
section
variable {c:fR}{k:b_}{vt cw:a7}{F:Nat->Prop}{s:cy}{w:az}
theorem Ih {G:Nat->b_×Int->Prop}(b0:je k s G)(b1:G 0 (k,0))(h:(c9 c k vt cw).J F s w)(hl:L k.T<=4000)(hp:∀a∈k.T,0<=a/\a<=2000):
 M prog 194 #[aq c.pk] w λe w'=>∃al,e=Q (ay #[])/\(c9 c (k.sl s) vt cw).J al s w'/\b9 F w al w':=by
 have cG:L k.T=L k.G+L k.Y:=by unfold b_.T;rw[aX]
 have m:aA (_/\_/\(∀a∈k.G,0<=a/\a<=2000)/\(∀a∈k.Y,0<=a/\a<=2000)/\L k.G<=4000/\L k.Y<=4000):=⟨b0,b1,λa ha=>hp a (bw.2 (aK ha)),λa ha=>hp a (bw.2 (aI ha)),aa,aa⟩
 have am:=(c9 c k vt cw).lt h;obtain⟨w0,u⟩:∃w0,w.alloc (dw c)=w0:=⟨_,rfl⟩
 have b2:O w.heap.size w w0:=by rw[<-u];exact aw w (dw c)
 have b3:w0.heap.size=w.heap.size+1:=by rw[<-u];simp
 have b4:w0.heap[w.heap.size]?=H (dw c):=by rw[<-u];exact aO _ _
 obtain⟨w1,W⟩:∃w1,w0.alloc (lE 0)=w1:=⟨_,rfl⟩
 have an:O w0.heap.size w0 w1:=by rw[<-W];exact aw w0 (lE 0)
 have b5:w1.heap[w0.heap.size]?=H (lE 0):=by rw[<-W];exact aO _ _
 have ao:=b2.trans (an.mono aa)
 have ap:(ds c k s vt cw).J F k w1:=⟨(c9 c k vt cw).below h ao,rfl,rfl,rfl⟩
 have b6:(dq (ds c k s vt cw) w.heap.size (dw c)).J (λb=>F b\/b=w.heap.size) k w1:=⟨F,ap,(an.block _ aa).trans b4,λd=>by have:=am _ d;omega,λb=>gp⟩
 have b7:(iT (dq (ds c k s vt cw) w.heap.size (dw c)) (w.heap.size+1)).J (λb=>(F b\/b=w.heap.size)\/b=w.heap.size+1) (k,0) w1:=⟨_,b6,by rw[<-b3];exact b5,λd=>d.elim (λd=>by have:=am _ d;omega) (λd=>by omega),λb=>gp⟩
 have b8:=(e3 h).2.2.1;obtain⟨_,ca,yr,gr⟩:=pD ap;obtain⟨ar,aB,cb⟩:=e7 yr;obtain⟨ab,gc,v⟩:=e7 gr;have cH:V w1 (av c.pk 2)=H (Z ab (L k.G) gc):=by rw[ca,v]
 rw[v] at b8;have ad:=cg cb;have cc:=cg v;have hd:=(ax w1).drew;have cd:aA (b9 F w (λb=>(F b\/b=w.heap.size)\/b=w.heap.size+1) w1.drew):=⟨(Fr.of (X:=F) ao).trans (Fr.of (X:=F) hd) (λb d=>aK d),λb d=>d.elim (λd=>d.imp id (λe=>by omega)) (λe=>aI aa)⟩
 have aF:=Ie m.o.1 m.o.2.1 ((iT (dq (ds c k s vt cw) w.heap.size (dw c)) (w.heap.size+1)).below b7 hd) m.o.2.2.2.2.1 m.o.2.2.1 v;obtain⟨f,aR⟩:∃f,iH (λ_ a=>s.f a) (b_.jQ s) (k,0) k.G=f:=⟨_,rfl⟩
 rw[aR] at aF;have aV:aA (k.sl1 s=f.1.ar f.1.s.y (K f.2) f.1.s.ws):=by show k.sl1 s=_;unfold b_.sl1 b_.mW;rw[aR]
 have o:aA (k.sl s=((k.sl2 s).ar 0 (k.sl2 s).s.g (k.sl2 s).s.ws).vY/\k.sl2 s=(k.sl1 s).qM s k.Y):=⟨rfl,rfl⟩
 generalize k.sl s=cJ at o⊢;generalize k.sl2 s=k3 at o;generalize k.sl1 s=k2 at o aV;subst W;subst u;go_enter func194,ntmps194;go_wp2_with fail
 go_region_held3 (λw'=>V w' (av w.heap.size 0)=H (aq c.pk)/\V w' (av c.pk 2)=H (Z ab (L k.G) gc)) (go_keep)
  (first
    |(go_at_call 268;refine aF.mono ?_;rintro e i ⟨cK,rfl,cI,t3,g3⟩;have p:=ge cI (cd.o.trans t3) (m.o.1.2.2 _ g3);obtain⟨_,q1,_⟩:=mU cI;obtain⟨_,q,q3,_⟩:=ih q1;obtain⟨_,ce,_⟩:=pD q;have cL:V i (av w.heap.size 0)=H (aq c.pk):=aD q3;have cN:V i (av c.pk 2)=H (Z ab (L k.G) gc):=(by rw[ce,cc.o])))
 all_goals
  have x:aA (∃n,(dq (ds c k s vt cw) w.heap.size (dw c)).J n f.1 i.drew/\b9 F w n i.drew/\¬n (w.heap.size+1)/\w.heap.size+1<i.heap.size):=by obtain⟨n,cM,d_,B,N⟩:=p.o.1;exact⟨n,(dq (ds c k s vt cw) w.heap.size (dw c)).below cM (aH _ i).drew,(p.o.2.1.less (λb d=>(N b).2 (aK d))).below (aH _ i).drew,B,cj d_⟩
  obtain⟨n,cM,cf,n4,ch⟩:=x.o;obtain⟨a0,d_,cO,cP,a1,ci⟩:=Ig cM;obtain⟨ck,_,cl,_,_⟩:=i6 d_;have cm:=(pA p.o.1).1;have S:=Ia d_ f.2 p.o.2.2.1 p.o.2.2.2;rw[<-aV.o] at S;have v0:_=_:=ck;have cn:_=_:=cl;have co:aA (∀g f w1,(ds c k s vt cw).J g f w1->b9 a0 i.drew g w1->_/\_):=λg f w1 j l=>⟨(a1 g f w1 j l).1,cf.trans (a1 g f w1 j l).2⟩
  have a2:_/\¬a0 (w.heap.size+1):=⟨ch,λd=>n4 (ci _ d)⟩
  go_wp2_with fail
  go_region_held3 (λw'=>V w' (av w.heap.size 0)=H (aq c.pk)/\V w' (av c.pk 0)=H (aq k.a.pw)/\V w' (av k.a.pw 0)=H (aq k.a.p)/\V w' (av (w.heap.size+1) 0)=H (ak f.2)) (go_keep)
   (first
     |(go_at_call 274;refine S.mono ?_;rintro e t ⟨cp,rfl,B,bb⟩;obtain⟨r0,_,cQ,_,_⟩:=i6 B;obtain⟨N,cq⟩:=co.o cp _ t B bb;obtain⟨_,_,cr,_⟩:=ih N;have r1:V t (av w.heap.size 0)=H (aq c.pk):=aD cr;have cR:=(aS (a:=⟨w.heap.size+1,0,none⟩) (bb.fr.block _ (by simpa using a2.1) a2.2)).trans cm;have ag:=cU N cq))
  all_goals
   have x:=cU ((dq (ds c k s vt cw) w.heap.size (dw c)).below ag.o.1 (aH _ t).drew) (ag.o.2.below (aH _ t).drew)
   have bd:=If x.o.1 m.o.2.2.2.2.2 m.o.2.2.2.1 ad.o;rw[<-o.o.2] at bd;have cS:V t (av c.pk 1)=H (Z ar (L k.Y) aB):=by obtain⟨_,q,_⟩:=ih ag.o.1;exact(pD q).1.trans (by rw[ad.o])
   go_wp2_with fail
   go_region_held3 (λw'=>V w' (av w.heap.size 0)=H (aq c.pk)/\V w' (av c.pk 1)=H (Z ar (L k.Y) aB)) (go_keep)
    (first
      |(go_at_call 268;refine bd.mono ?_;rintro e be ⟨cT,rfl,bg,cs⟩;obtain⟨_,q,q3,_⟩:=ih bg;have cV:V be (av w.heap.size 0)=H (aq c.pk):=aD q3;have m1:_=_:=(pD q).1.trans (by rw[ad.o]);have bi:=cU bg (x.o.2.trans cs)))
   all_goals
    obtain⟨ct,bl,cW,cX,bn⟩:=ih bi.o.1;obtain⟨v0,_,cn,_,_⟩:=i6 bl;have S:=Ib bl;have cu:aA (∀g f w1,(ds c k s vt cw).J g f w1->b9 ct be g w1->_/\_):=λg f w1 j l=>⟨(bn g f w1 j l).1,bi.o.2.trans (bn g f w1 j l).2⟩
    go_wp2_with fail;refine S.mono ?_;rintro e ai ⟨cv,rfl,cx,cy⟩
    obtain⟨cz,cA⟩:=cu.o cv _ ai cx cy;obtain⟨cB,bo,cC,cY,bp⟩:=ih cz;have z0:V ai (av w.heap.size 0)=H (aq c.pk):=aD cC
    obtain⟨cZ,_,_,_,_⟩:=i6 bo;obtain⟨c0,br⟩:=Ic bo;rw[<-o.o.1] at br;have cD:aA (∀g f w1,(ds c k s vt cw).J g f w1->b9 cB ai g w1->_/\_):=λg f w1 j l=>⟨(bp g f w1 j l).1,cA.trans (bp g f w1 j l).2⟩
    go_wp2_with fail;refine br.mono ?_;rintro e cE ⟨bs,rfl,bt,cF⟩
    have bx:=cU bt.1 ((cD.o bs _ cE bt cF).2.less (λb d=>aK d))
    go_wp2_with fail;go_end0;exact⟨bs,rfl,bx.o.1,bx.o.2⟩
end
theorem As (f:Nat)(c:Array a7)(p:Int->Bool)(k:ef f)(w:az)(l:List Int)
 (hl:∀(w':az)(x:Int),x∈l->O (I (G w)) w w'->M J f (#[ak x]++c) w' λr o=>r=Q (bA (p x))/\O (I (G w')) w' o)
 (ad:Option bB)(cap:Nat)(hm:L l<=100000)(hp:jn w ad l):
 M J 323 #[Z ad (L l) cap,.func (.func f) #[] c] w λr w'=>O (I (G w)) w w'/\((r=Q (ak (-1))/\∀e∈l,p e=O4)\/∃i:Nat,r=Q (ak i)/\i<L l/\p (X l i 0)=C/\∀e∈l.take i,p e=O4):=by
 have q:=cg hl;have s:=cg hp;have N:∀(args:Array a7)(w:az),_=_:=k;clear hl hp k;go_enter func323,ntmps323;go_wp2_with fail
 go_loopw [8] (λiv wr=>∃j:Nat,j<=L l/\iv=ak j/\aA (∀e∈l.take j,p e=O4)/\O (I (G w)) w wr) (λiv _=>L l-K (bG iv))
 case atStart=>exact⟨0,a4 _,rfl,by simp[aA,Hid],aH _ _⟩
 case round=>
  obtain⟨j,S,rfl,d,hb⟩:=hrel;by_cases b:j<L l
  ·obtain⟨W,ab,t,ag,hc⟩:=s.o.below hb aa;have u:=hc j b;have hd:X l j 0∈l:=by rw[aM,aP b];exact a_ b
   obtain⟨x,g⟩:∃x,X l j 0=x:=⟨_,rfl⟩
   have m:aA (_=_):=g;rw[g] at u hd;have P:=q.o wr x hd hb;clear hc g hd;subst t;go_wp2_with fail;refine P.mono ?_;rintro r w1 ⟨rfl,v⟩
   have n:=hb.trans (v.mono hb.size)
   cases hp:p x
   ·have B:aA (∀e∈l.take (j+1),p e=O4):=λe he=>by
     rw[h_ l j b 0,bw,List.mem_singleton] at he;rcases he with he|he
     ·exact d.o e he
     ·rw[he,m.o];exact hp
    go_wp2_with fail;go_roundw
    case rel=>exact⟨j+1,aa,aj,B,n⟩
    case measure=>simp[bG];omega
   ·have F:aA (p (X l j 0)=C):=by show _=_;rw[m.o];exact hp
    go_wp2_with fail;go_ret;exact⟨n,aI ⟨j,rfl,b,F.o,d.o⟩⟩
  ·obtain rfl:j=L l:=aa;rw[ba] at d;go_wp2_with fail;go_ret;exact⟨hb,aK ⟨rfl,d.o⟩⟩
theorem Ii:ef 303:=g9 func303 ah rfl
theorem Ij {pk pw p q N O y g bx be:Nat}{ws:List Int}{e:Int}(w:az)(b:At w p q N O y g ws)(c0:V w (av bx 0)=H (aq pk))(c1:V w (av pk 0)=H (aq pw))(c2:V w (av pw 0)=H (aq p))(c3:V w (av be 0)=H (ak e))(a:Int)(ha:0<=a/\a<=100000):
 M J 303 #[ak a,aq bx,aq be] w λr w'=>r=Q (bA (decide (e<=a+pf (ld N y g ws a))))/\Below (I (G w)) w w':=by
 have P:=hC a w b;have d:=du (ld N y g ws a)
 clear b;go_enter func303,ntmps303;go_wp2_with fail;refine P.mono ?_;clear P;rintro r w1 ⟨rfl,c⟩
 have f:=(c.cell (p:=av be 0) (aT w _ c3)).trans c3;clear c0 c1 c2 c3;go_wp2;go_ret;exact⟨by first|rfl|(done)|(omega),c⟩
def eM (p:Int->Bool)(l:List Int):List Int:=l.filter (λx=>!p x)
theorem vZ (p:Int->Bool)(l:List Int)(x:Int):eM p (l++[x])=if p x=C then eM p l else eM p l++[x]:=by unfold eM;cases h:p x<;>simp[h]
theorem sy {p:Int->Bool}{l:List Int}(h:∀e∈l,p e=O4):eM p l=l:=by unfold eM;rw[List.filter_eq_self];intro a ha;rw[h a ha];rfl
theorem Au {base size n g cap i:Nat}{e:TypeId}:∀(d:List a7)(o:Nat){w:az}{b:List a7},aC w base e size (Z (au g) n cap) n b->i<=o->∃c,aC (w.setCells g o d) base e size (Z (au g) n cap) n c/\c.take i=b.take i
 |[],o,w,b,h,_=>⟨b,h,rfl⟩
 |v::d,o,w,b,h,hi=>by
  obtain⟨c,f,j⟩:=Au d (o+1) (vj h o v) (by omega:i<=o+1)
  refine⟨c,f,j.trans ?_⟩
  rw[List.take_set_of_le hi]
theorem Av {g:Nat}:∀(c:List a7)(o:Nat)(w:az),Fr (λb=>b=g) w (w.setCells g o c)
 |[],_,w=>Fr.refl _ w
 |v::c,o,w=>((Fr.refl (λb=>b=g) w).set g o v rfl).trans (Av c (o+1) _) (λ_ e=>aK e)
theorem Ik (f:Nat)(c:Array a7)(p:Int->Bool)(ab:ef f)(w:az)(l:List Int)(g cap B:Nat)
 (hl:∀(w':az)(x:Int),x∈l->Fr (λb=>b=g) w w'->M J f (#[ak x]++c) w' λr a1=>r=Q (bA (p x))/\O (I (G w')) w' a1)
 (hm:L l<=100000)(hr:aC w B 3 1 (Z (au g) (L l) cap) (L l) (l.map (Value.int R))):
 M J 302 #[Z (au g) (L l) cap,.func (.func f) #[] c] w λr w'=>r=Q (Z (au g) (L (eM p l)) cap)/\aC w' B 3 1 (Z (au g) (L (eM p l)) cap) (L (eM p l)) ((eM p l).map (Value.int R))/\Fr (λb=>b=g) w w':=by
 have an:=cg hl;have P:=As f c p ab w l (λw' x F hb=>an.o w' x F (Fr.of hb)) (au g) cap hm (ir hr)
 have N:aA (_):=hr;have bg:=u_ hr;have bi:∀(args:Array a7)(w:az),(callFunc f args).run J w=.ok (.enter f args) w:=ab;clear hl hr ab;go_enter func302,ntmps302;go_wp2_with fail;refine P.mono ?_;clear P;rintro r w1 ⟨o,⟨rfl,hn⟩|⟨n,rfl,ao,ap,hn⟩⟩
 ·have ar:aA (eM p l=l/\aC w1 B 3 1 (Z (au g) (L l) cap) (L l) (l.map (Value.int R))/\Fr (λb=>b=g) w w1):=⟨sy hn,cK N.o (λb e=>o.block b (cu N.o b e).2),Fr.of o⟩
  clear o hn;go_wp2_with fail;go_ret;rw[ar.o.1];exact⟨rfl,ar.o.2⟩
 ·have a2:(n:Int)<L l:=aa;have aB:aA (eM p (l.take (n+1))=l.take n/\aC w1 B 3 1 (Z (au g) (L l) cap) (L l) (l.map (Value.int R))/\Fr (λb=>b=g) w w1):=by
   refine⟨?_,cK N.o (λb e=>o.block b (cu N.o b e).2),Fr.of o⟩
   rw[h_ l n ao 0,vZ,aN ap,sy hn]
  clear hn ap o;go_wp2_with fail;have aF:((n:Int)==-1)=O4:=by rw[beq_eq_false_iff_ne];omega
  rw[aF];clear aF
  go_loopw [5,6] (λiv ad wr=>∃(i j:Nat),i<j/\j<=L l/\iv=ak i/\ad=ak j/\aA (L (eM p (l.take j))=i/\aC wr B 3 1 (Z (au g) (L l) cap) (L l) ((eM p (l.take j)++l.drop i).map (Value.int R))/\Fr (λb=>b=g) w wr)) (λ_ ad _=>L l-K (bG ad))
  ·
    refine⟨n,n+1,aa,aa,rfl,aj,?_⟩
    obtain⟨t,S,ag⟩:=aB.o;refine⟨by rw[t,List.length_take];omega,?_,ag⟩
    rw[t,List.take_append_drop];exact S
  ·
    clear aB ao a2;obtain⟨i,j,bl,bn,rfl,rfl,m⟩:=hrel;by_cases q:j<L l
    ·have hd:l.getD j 0∈l:=by rw[aM,aP q];exact a_ q
     have F:((eM p (l.take j)++l.drop i).map (Value.int R))[j]?=H (ak (l.getD j 0)):=by have e:=m.o.1;rw[iy,tQ aa,Cc,e,show i+(j-i)=j from by omega,aP q,aM,aP q];rfl
     have aR:=(kt m.o.2.1 F).1;have P:=an.o wr (l.getD j 0) hd m.o.2.2;have u:aA (_=_):=h_ l j q 0;generalize l.getD j 0=x at aR P u;have j0:(0:Int)<=(j:Int):=aa;have bo:(j:Int)<L l:=aa;have n:(0:Int)<=(i:Int):=aa;have bb:(i:Int)<L l:=aa;clear F hd;go_wp2_with fail;refine P.mono ?_;clear P aR;rintro r v ⟨rfl,ai⟩
     have s:=cU (cK m.o.2.1 (λb e=>ai.block b (cu m.o.2.1 b e).2)) (m.o.2.2.trans (Fr.of (X:=λb=>b=g) ai) (λ_ d=>aK d))
     clear ai;cases hp:p x
     ·have hy:∃y,((eM p (l.take j)++l.drop i).map (Value.int R))[i]?=H (Value.int R y):=by
       have e:=m.o.1;have al:i<L l:=aa;refine⟨l[i],?_⟩
       rw[iy,tQ aa,Cc,e,Jl,Nat.add_zero,aP al];rfl
      obtain⟨y,hy⟩:=hy;obtain⟨y1,bp⟩:=kt s.o.1 hy;have am:aA (L (eM p (l.take (j+1)))=i+1/\aC (O8 v ⟨g,i,Y⟩ (U R x)) B 3 1 (Z (au g) (L l) cap) (L l) ((eM p (l.take (j+1))++l.drop (i+1)).map (Value.int R))/\Fr (λb=>b=g) w (O8 v ⟨g,i,Y⟩ (U R x))):=by
       have e:=m.o.1;have al:i<L l:=aa;have gS:eM p (l.take (j+1))=eM p (l.take j)++[x]:=by rw[u.o,vZ,hp];rfl
       refine⟨by rw[gS,aX,e];rfl,?_,s.o.2.trans ((Fr.refl (λb=>b=g) v).set g i _ rfl) (λ_ d=>aK d)⟩
       have W:=vj s.o.1 i (Value.int R x)
       have bd:((eM p (l.take j)++l.drop i).map (Value.int R)).set i (ak x)=(eM p (l.take (j+1))++l.drop (i+1)).map (Value.int R):=by rw[gS,<-List.map_set,List.set_append_right _ _ aa,e,Jl,List.drop_eq_getElem_cons al,List.set_cons_zero,bf];rfl
       rw[bd] at W;exact W
      clear hp hy m s u;go_wp2_with fail;go_roundw;exact⟨i+1,j+1,aa,aa,aj,aj,am⟩
      simp[bG];omega
     ·have am:aA (L (eM p (l.take (j+1)))=i/\aC v B 3 1 (Z (au g) (L l) cap) (L l) ((eM p (l.take (j+1))++l.drop i).map (Value.int R))/\Fr (λb=>b=g) w v):=by
       have gS:eM p (l.take (j+1))=eM p (l.take j):=by rw[u.o,vZ,hp];rfl
       rw[gS];exact⟨m.o.1,s.o⟩
      clear hp m s u;go_wp2_with fail;go_roundw;exact⟨i,j+1,aa,aa,rfl,aj,am⟩
      simp[bG];omega
    ·obtain rfl:j=L l:=aa;have hlen:L ((eM p (l.take (L l))++l.drop i).map (Value.int R))=L l:=by have e:=m.o.1;rw[a5,aX,e,List.length_drop];omega
     have br:∀ty,(Builtin.clear_ #[136] ty #[Z (H ⟨g,i,Y⟩) (L l-i) (cap-i)]).run J wr=.ok (ay #[]) (wr.setCells g i (aZ (L l-i) (ak 0))):=λty=>
      Lib.run_clear_slice wr _ _ ty _ underlying136 (λw=>nl w) rfl rfl g i _ _ aa (λk hk=>by rw[(kt m.o.2.1 (aP (by rw[hlen];omega:i+k<_))).1];rfl) (λk hk=>(kt m.o.2.1 (aP (by rw[hlen];omega:i+k<_))).2)
     have aV:aA (L (eM p l)=i/\aC (wr.setCells g i (aZ (L l-i) (ak 0))) B 3 1 (Z (au g) i cap) i ((eM p l).map (Value.int R))/\Fr (λb=>b=g) w (wr.setCells g i (aZ (L l-i) (ak 0)))):=by
      obtain⟨t,S,ag⟩:=m.o;rw[ba] at t S;refine⟨t,?_,ag.trans (Av _ _ _) (λ_ d=>aK d)⟩
      obtain⟨bs,be,W⟩:=Au (i:=i) (aZ (L l-i) (Value.int R 0)) i S bY
      have a0:=uZ be i aa;rw[W,List.map_append,List.take_append_of_le_length (by simp;omega),List.take_of_length_le (by simp;omega)] at a0;exact a0
     have n:(0:Int)<=(i:Int):=aa;have bb:(i:Int)<L l:=aa;clear q m hlen;go_wp2_with fail;go_ret;rw[aV.o.1];exact⟨rfl,aV.o.2⟩
def eL.j0 (a:Wc)(s:eL):b_:=⟨a,s,eM (λx=>decide ((s.y:Int)<=x+pf (ld a.N s.y s.g s.ws x))) (eQ a.N s.y s.g s.ws),eM (λx=>decide ((a.N:Int)+s.g<=x+pf (ld a.N s.y s.g s.ws x))) (dM a.N s.y s.g s.ws)⟩
def iw:cy:=⟨λ_=>-1,[],[]⟩
def cv.j2 (a:Wc)(S:cv):cy×List b8:=(S.s.j0 a).sp ((S.s.j0 a).cO iw 12,S.q)
def cv.cI (a:Wc)(S:cv):cy:=((S.s.j0 a).fB (S.j2 a) S.r).1
def cv.r3 (a:Wc)(S:cv):List b8:=(S.s.j0 a).sR (S.j2 a) S.r
def cv.q3 (a:Wc)(S:cv):List b8:=(S.s.j0 a).j8 (S.j2 a) S.r
def cv.cM (a:Wc)(S:cv):cy:=((S.s.j0 a).pl (S.cI a)).1
def cv.n4 (a:Wc)(S:cv):Int:=((S.s.j0 a).pl (S.cI a)).2-a.N
def cv.gD (a:Wc)(S:cv):Bool:=decide ((a.O:Int)<S.n4 a)
def cv.k5 (a:Wc)(S:cv):b_:=(S.s.j0 a).fK (S.cM a)
def cv.d_ (a:Wc)(S:cv):cy:=((S.k5 a).tS (S.cM a,S.q3 a) (S.r3 a)).1
def cv.k6 (a:Wc)(S:cv):b_:=(S.k5 a).sl (S.d_ a)
def cv.dR (a:Wc)(S:cv):cv:=if S.gD a=C then S else⟨(S.k6 a).s,(S.k5 a).tR (S.cM a,S.q3 a) (S.r3 a),(S.k5 a).i7 (S.cM a,S.q3 a) (S.r3 a)⟩
def cv.jf (a:Wc)(S:cv):Int:=if S.gD a=C then 3 else 0
section
variable {a:Wc}{s:eL}
theorem Aw {p:Int->Bool}{l:List Int}{x:Int}(h:x∈eM p l):x∈l:=(List.mem_filter.1 h).1
theorem Ax (p:Int->Bool)(l:List Int):L (eM p l)<=L l:=bX _ _
theorem c8.start (hN:a.N<=256)(hO:a.O<=1024)(hy:s.y<=a.N)(hg:s.g<=a.O):c8 (s.j0 a) iw:=by
 have f:∀x∈(s.j0 a).Y,0<=x/\x<s.y:=λx b=>by
  have c:=pt x (Aw b)
  omega
 have g:∀x∈(s.j0 a).G,(a.N:Int)<=x/\x<(a.N:Int)+s.g:=λx b=>by
  have c:=oa _ _ x (Aw b)
  omega
 have nd:(s.j0 a).T.Nodup:=by
  unfold b_.T;rw[List.nodup_append];refine⟨(sg 2000 _).filter _,(sg 2000 0).filter _,λx b z hz e=>?_⟩
  grind
 have tl:L (s.j0 a).T<=4000:=by
  unfold b_.T;rw[aX];have c:L (s.j0 a).G<=2000:=aQ (Ax _ _) (jp _ _)
  have i:L (s.j0 a).Y<=2000:=aQ (Ax _ _) (jp _ _)
  omega
 refine⟨nd,λx b=>?_,λx b=>by simp[iw] at b,λx b=>by simp[iw] at b,tl,?_⟩
 ·rcases bw.1 b with d|d
  all_goals grind
 ·exact bX _ _
end
def b_.pE (k:b_)(s:cy)(a:Int):Prop:=∀i:Nat,(i:Int)<pf (k.ld a)->k.dd s (k.ld (a+1+i))=O4
section
variable {k:b_}{s:cy}
theorem b_.sA {x:Int}(h:k.jt x=C):k.dd s x=O4↔s.f (cq x)≠-1:=by grind [dd]
theorem qN {x:Int}(h:k.jt x=C):cq x∈k.T:=by grind [b_.jt]
structure dx (k:b_)(s t:cy):Prop where
 f:∀b,s.f b≠-1->t.f b=s.f b
theorem dx.dd {t:cy}(h:dx k s t){y:Int}(hy:k.dd s y=O4):k.dd t y=O4:=by grind [f,b_.dd]
theorem dx.refl (s:cy):dx k s s:=⟨λ_ _=>rfl⟩
theorem dx.trans {t u:cy}(h:dx k s t)(j:dx k t u):dx k s u:=⟨λb hb=>by
 have e:=h.f b hb
 grind [f]⟩
theorem dx.pE {t:cy}(h:dx k s t){a:Int}(ha:k.pE s a):k.pE t a:=λi hi=>h.dd (ha i hi)
end
end Go.Proofs.YtjckpdepffejnaaGreatDoor
