import Derived.Test.YtpkjkjhanlbcoaaGreatJ16
namespace Go.Proofs.YtpkjkjhanlbcoaaGreat
set_option maxRecDepth 100000
set_option maxHeartbeats 4000000
open Tryz
open Go.RowKit W Kp ch
theorem tL {P:Prop}(h:P:=by
 rintro e w2 ⟨rfl,hA2,hs2⟩
 obtain⟨F2,h2,t2⟩:=hU w2 _ _ _ hA2 hs2;exact⟨F2,rfl,⟨h2,ea,tM,tN⟩,t2⟩):P:=h
theorem qD {P:Prop}(h:P:=by unfold co.full at hf;have:=of_decide_eq_false hf;omega):P:=h
def b_.ar (k:b_)(y g:Nat)(ws:List Int):b_:={k with s:={k.s with y:=y,g:=g,ws:=ws}}
def b_.hX (k:b_)(a x:Int):b_:=k.ar k.s.y k.s.g (if dm k.a.N k.s.y k.s.g a=true then k.s.ws.set a.toNat x else k.s.ws)
def b_.qE (k:b_)(i:Nat)(x:Int):b_:={k with s:={k.s with rs:=k.s.rs.set i x}}
def b_.brk (k:b_)(s:cu)(a:Int):b_:=
 if(pk (k.ld a)=3\/pk (k.ld a)=4)/\k.cV s (k.ld (a+1))=true then(if pk (k.ld a)=4 then(k.hX (a+1) 3).hX (a+2) 3 else k.hX (a+1) 3) else k
section
variable {c:e7}{k:b_}{vt ct:Value}{F:Nat->Prop}{s:cu}{w:aw}
open Classical in
theorem o_ (h:(cW c k vt ct).J F s w):∃f,(d5 k.a).J f k.s w/\∀g n w',(d5 k.a).J g n w'->ce f w g w'->∃p,(cW c {k with s:=n} vt ct).J p s w'/\ce F w p w':=by
 obtain⟨f,own,h,o⟩:=h;refine⟨f,h.wd,fun g n w' q m=>⟨_,⟨g,fun b=>if g b then 1 else if f b then 0 else own b,?_,fun b=>Iff.rfl⟩,⟨m.fr.mono (fun b d=>(o b).2 (by rw[(h.w1 b).1 d];decide)),fun b hb=>?_⟩⟩⟩
 ·have l:∀b j,own b=j->j≠0->j≠1->(if g b then 1 else if f b then 0 else own b)=j:=fun b j e h0 t=>by
   have n1:_:=fun d=>t (e.symm.trans ((h.w1 b).1 d))
   rw[aH (fun d=>(m.sub b d).elim n1 (fun d=>by have:=h.lt b aa;omega)),aH n1];exact e
  have hk:∀b,b<w.heap.size->own b≠1->_=_:=fun b hb u=>m.fr.block b hb (fun d=>u ((h.w1 b).1 d))
  exact {
   wd:=q,w1:=fun b=>⟨fun d=>by rw[aJ d],fun d=>by
    by_cases e:g b
    ·exact e
    ·rw[aH e] at d;by_cases i:f b
     ·rw[aJ i] at d;omega
     ·rw[aH i] at d;exact absurd ((h.w1 b).2 d) i⟩
   cb:=(hk _ (lt_of_some h.cb) (by rw[h.k1];decide)).trans h.cb,k1:=l _ _ h.k1 ae ae
   mp:=h.mp.same (hk _ h.mp.lt (by rw[h.m1];decide)),m1:=l _ _ h.m1 ae ae
   tr:=cy h.tr (fun b e=>hk b (cg h.tr b e).2 (by rw[h.gP b e];decide)),gP:=fun b e=>l _ _ (h.gP b e) ae ae
   er:=cy h.er (fun b e=>hk b (cg h.er b e).2 (by rw[h.eo b e];decide)),eo:=fun b e=>l _ _ (h.eo b e) ae ae
   yr:=cy h.yr (fun b e=>hk b (cg h.yr b e).2 (by rw[h.hP b e];decide)),hP:=fun b e=>l _ _ (h.hP b e) ae ae
   gr:=cy h.gr (fun b e=>hk b (cg h.gr b e).2 (by rw[h.go b e];decide)),go:=fun b e=>l _ _ (h.go b e) ae ae
   lt:=fun b hb=>by
    by_cases e:g b
    ·exact(d5 k.a).lt q b e
    ·rw[aH e] at hb;by_cases i:f b
     ·rw[aJ i] at hb;exact absurd rfl hb
     ·rw[aH i] at hb;exact aO (h.lt b hb) m.fr.size}
 ·dsimp only at hb;by_cases e:g b
  ·exact(m.sub b e).imp (fun d=>(o b).2 (by rw[(h.w1 b).1 d];decide)) id
  ·rw[aH e] at hb;by_cases i:f b
   ·rw[aJ i] at hb;exact absurd rfl hb
   ·rw[aH i] at hb;exact aL ((o b).2 hb)
theorem nO (h:(cW c k vt ct).J F s w):At w k.a.p k.a.q k.a.N k.a.O k.s.y k.s.g k.s.ws/\∀w' y g ws,At w' k.a.p k.a.q k.a.N k.a.O y g ws->c_ k.a.p k.a.q w w'->∃b,(cW c (k.ar y g ws) vt ct).J b s w'/\ce F w b w':=by
 obtain⟨j,d,e⟩:=o_ h;obtain⟨g1,g2⟩:=jX d;refine⟨g1,fun w' y g ws ha f=>?_⟩
 obtain⟨i,j2⟩:=g2 w' y g ws ha f;exact e _ _ _ i j2
theorem F7 (h:(cW c k vt ct).J F s w)(i:Nat)(x:Int):∃b,(cW c (k.qE i x) vt ct).J b s (w.setCell ⟨k.a.nb,i,none⟩ (.int .i64 x))/\ce F w b (w.setCell ⟨k.a.nb,i,none⟩ (.int .i64 x)):=by obtain⟨g,d,e⟩:=o_ h;obtain⟨f,j2⟩:=yE d i x;exact e _ _ _ f j2
theorem F8 (h:(cW c k vt ct).J F s w)(a:Int)(ha:0<=a/\a<=2000):
 Calls prog 160 #[am c.pk,ak a] w fun e w'=>∃aB,e=.returned (.tuple #[])/\(cW c (k.brk s a) vt ct).J aB s w'/\ce F w aB w':=by
 have o:ay ((cW c k vt ct).J F s w):=h;obtain⟨aF,_⟩:=eE h;obtain⟨ag,c0,_⟩:=gz h;have P:=f6 a w ag;have p:ay (k.brk s a=if(pk (ld k.a.N k.s.y k.s.g k.s.ws a)=3\/pk (ld k.a.N k.s.y k.s.g k.s.ws a)=4)/\k.cV s (k.ld (a+1))=true then(if pk (ld k.a.N k.s.y k.s.g k.s.ws a)=4 then(k.hX (a+1) 3).hX (a+2) 3 else k.hX (a+1) 3) else k):=rfl;have bg:IntKind.i64.wrap (a+1)=a+1:=by rw[bw];omega
 have bi:IntKind.i64.wrap (a+2)=a+2:=by rw[bw];omega
 generalize k.brk s a=i at p⊢;generalize pk (ld k.a.N k.s.y k.s.g k.s.ws a)=aR at P p;generalize pf (ld k.a.N k.s.y k.s.g k.s.ws a)=bl at P;generalize pc (ld k.a.N k.s.y k.s.g k.s.ws a)=cc at P;clear h ag;by_cases al:aR=3\/aR=4
 ·have ai:ay (∀w1,Below w.heap.size w w1->Calls prog 98 #[am k.a.p,ak (a+1)] w1 fun e w'=>e=.returned (ak (k.ld (a+1)))/\Below w1.heap.size w1 w'):=fun w1 hb=>jr (a+1) w1 (gz ((cW c k vt ct).below o.o hb)).1;have N:ay (∀w1,Below w.heap.size w w1->Calls prog 154 #[am c.pk,ak (k.ld (a+1))] w1 fun e w'=>e=.returned (.bool (k.cV s (k.ld (a+1))))/\Below w1.heap.size w1 w'):=fun w1 hb=>o5 ((cW c k vt ct).below o.o hb) _;generalize k.ld (a+1)=x at ai N p;cases hl:k.cV s x
  ·have E:ay (i=k):=by show i=k;rw[p.o,hl,aH (fun ap=>by simp at ap)]
   rw[hl] at N;clear p;rcases al with rfl|rfl
   all_goals
    go_enter func160,ntmps160;go_wp2_with fail;refine P.mono ?_;clear P;rintro e w1 ⟨rfl,d⟩
    have j:=(cW c k vt ct).below o.o d;obtain⟨S,_⟩:=eE j;obtain⟨_,W,_⟩:=gz j;clear j aF c0;go_wp2_with fail;refine(ai.o w1 d).mono ?_;rintro e n ⟨rfl,u⟩
    have g:=d.trans (u.mono d.size)
    go_wp2_with fail;refine(N.o n g).mono ?_;rintro e w3 ⟨rfl,v⟩
    have l:ay ((cW c i vt ct).J F s w3/\ce F w F w3):=by
     have hb:=g.trans (v.mono g.size)
     rw[E.o];exact⟨(cW c k vt ct).below o.o hb,ce.of hb⟩
    clear d u v g W S;go_wp2_with fail;refine bz (results_none rfl _ _ _) rfl ?_;exact⟨F,rfl,l.o.1,l.o.2⟩
  ·rw[hl] at N;have ar:ay (∀k w1,(∃f,(cW c k vt ct).J f s w1/\ce F w f w1)->∀(a:Int),Calls prog 93 #[am k.a.p,ak a,ak 3] w1 fun e w'=>∃b,e=.returned (.bool b)/\(∃f,(cW c (k.hX a 3) vt ct).J f s w'/\ce F w f w')/\w'.cell? (ao c.pk 0)=some (am k.a.pw)/\w'.cell? (ao k.a.pw 0)=some (am k.a.p)):=by
    rintro k w1 ⟨f,j,a0⟩ a;obtain⟨ag,a1⟩:=nO j;refine(ki a 3 w1 ag).mono ?_;rintro e n ⟨rfl,a2,a3⟩
    obtain⟨bb,ax,bd⟩:=a1 n _ _ _ a2 a3;obtain⟨S,_⟩:=eE ax;obtain⟨_,W,_⟩:=gz ax;exact⟨_,rfl,⟨bb,ax,a0.trans bd⟩,S,W⟩
   rcases al with rfl|rfl
   ·have E:ay (i=k.hX (a+1) 3):=by show i=_;rw[p.o,aJ ⟨aL rfl,hl⟩,aH ae]
    clear p;go_enter func160,ntmps160;go_wp2_with fail;refine P.mono ?_;clear P;rintro e w1 ⟨rfl,d⟩
    have j:=(cW c k vt ct).below o.o d;obtain⟨S,_⟩:=eE j;obtain⟨_,W,_⟩:=gz j;clear j aF c0;go_wp2_with fail;refine(ai.o w1 d).mono ?_;rintro e n ⟨rfl,u⟩
    have g:=d.trans (u.mono d.size)
    go_wp2_with fail;refine(N.o n g).mono ?_;rintro e w3 ⟨rfl,v⟩
    have hb:=g.trans (v.mono g.size)
    have q:=(cW c k vt ct).below o.o hb;obtain⟨aT,_⟩:=eE q;obtain⟨_,l0,_⟩:=gz q;have ab:=ar.o k w3.drew ⟨F,(cW c k vt ct).below q (aE _ w3).drew,(ce.of hb).below (aE _ w3).drew⟩ (a+1)
    clear d u v g W S q hb;go_wp2_with fail
    go_region_held3 (fun w'=>w'.cell? (ao c.pk 0)=some (am k.a.pw)/\w'.cell? (ao k.a.pw 0)=some (am k.a.p)) (go_keep)
     (first
       |(go_at_call 191;refine(m8 _).mono ?_;rintro e n ⟨rfl,m⟩;have m:=m.symm;subst m)
       |(go_at_call 93;refine ab.mono ?_;clear ab;rintro e B ⟨be,rfl,t,aV,y1⟩;have l:ay (∃f,(cW c i vt ct).J f s B/\ce F w f B):=(by rw[E.o];exact t);clear t))
    clear aV y1 aT l0;go_wp2_with fail;go_end0;obtain⟨f,ad,j2⟩:=l.o;exact⟨f,rfl,ad,j2⟩
   ·have E:ay (i=(k.hX (a+1) 3).hX (a+2) 3):=by show i=_;rw[p.o,aJ ⟨aK rfl,hl⟩,aJ rfl]
    go_enter func160,ntmps160;go_wp2_with fail;refine P.mono ?_;rintro e w1 ⟨rfl,d⟩
    have j:=(cW c k vt ct).below o.o d;obtain⟨S,_⟩:=eE j;obtain⟨_,W,_⟩:=gz j;go_wp2_with fail;refine(ai.o w1 d).mono ?_;rintro e n ⟨rfl,u⟩
    have g:=d.trans (u.mono d.size)
    go_wp2_with fail;refine(N.o n g).mono ?_;rintro e w3 ⟨rfl,v⟩
    have hb:=g.trans (v.mono g.size)
    have q:=(cW c k vt ct).below o.o hb;obtain⟨aT,_⟩:=eE q;obtain⟨_,l0,_⟩:=gz q;have ab:=ar.o k w3.drew ⟨F,(cW c k vt ct).below q (aE _ w3).drew,(ce.of hb).below (aE _ w3).drew⟩ (a+1)
    go_wp2_with fail
    go_region_held3 (fun w'=>w'.cell? (ao c.pk 0)=some (am k.a.pw)/\w'.cell? (ao k.a.pw 0)=some (am k.a.p)) (go_keep)
     (first
       |(go_at_call 191;refine(m8 _).mono ?_;rintro e n ⟨rfl,m⟩;have m:=m.symm;subst m)
       |(go_at_call 93;refine ab.mono ?_;rintro e B ⟨be,rfl,t,aV,y1⟩;have l:=hide t;clear t))
    have ab:Calls prog 93 #[am k.a.p,ak (a+2),ak 3] B.drew fun e w'=>∃b,e=.returned (.bool b)/\(∃f,(cW c i vt ct).J f s w'/\ce F w f w')/\w'.cell? (ao c.pk 0)=some (am k.a.pw)/\w'.cell? (ao k.a.pw 0)=some (am k.a.p):=by rw[E.o];obtain⟨f,ad,j2⟩:=l.o;exact ar.o (k.hX (a+1) 3) B.drew ⟨f,(cW c _ vt ct).below ad (aE _ B).drew,j2.below (aE _ B).drew⟩ (a+2)
    go_wp2_with fail
    go_region_held3 (fun w'=>w'.cell? (ao c.pk 0)=some (am k.a.pw)/\w'.cell? (ao k.a.pw 0)=some (am k.a.p)) (go_keep)
     (first
       |(go_at_call 191;refine(m8 _).mono ?_;rintro e n ⟨rfl,m⟩;have m:=m.symm;subst m)
       |(go_at_call 93;refine ab.mono ?_;rintro e bn ⟨bo,rfl,t,z0,bp⟩;have l:=hide t;clear t))
    go_wp2_with fail;go_end0;obtain⟨f,ad,j2⟩:=l.o;exact⟨f,rfl,ad,j2⟩
 ·have E:ay (i=k):=by show i=k;rw[p.o,aH (fun ap=>al ap.1)]
  go_enter func160,ntmps160;go_wp2_with fail;refine P.mono ?_;rintro e w1 ⟨rfl,d⟩
  have l:ay ((cW c i vt ct).J F s w1/\ce F w F w1):=by rw[E.o];exact⟨(cW c k vt ct).below o.o d,ce.of d⟩
  go_wp2_with fail;refine bz (results_none rfl _ _ _) rfl ?_;exact⟨F,rfl,l.o.1,l.o.2⟩
end
def dj (c:e7)(k0:b_)(s:cu)(vt b:Value):dS b_ where
 J F k w:=(cW c k vt b).J F s w/\k.a=k0.a/\k.Y=k0.Y/\k.G=k0.G
 lt:=fun h=>(cW c _ vt b).lt h.1
 keep:=fun h hs hk=>⟨(cW c _ vt b).keep h.1 hs hk,h.2⟩
def b_.gI (k:b_)(s:cu)(a:Int):Nat->b_
 |0=>k
 |n+1=>(k.gI s a n).hX (a+1+n) (k.nw s ((k.gI s a n).ld (a+1+n)))
def b_.jC (k:b_)(s:cu)(a:Int):b_:=(k.brk s a).gI s a (pf (k.ld a)).toNat
theorem b_.j6 {k k0:b_}(s:cu)(x:Int)(b:k.Y=k0.Y)(c:k.G=k0.G):k.nw s x=k0.nw s x:=by unfold b_.nw b_.jt b_.T;rw[b,c]
theorem tO (k:b_)(s:cu)(a:Int):(k.brk s a).a=k.a/\(k.brk s a).Y=k.Y/\(k.brk s a).G=k.G:=by
 unfold b_.brk;split
 ·split<;>exact⟨rfl,rfl,rfl⟩
 ·exact⟨rfl,rfl,rfl⟩
section
variable {c:e7}{k0 k:b_}{vt ct:Value}{F:Nat->Prop}{s:cu}{w:aw}{bp:Nat}
theorem hY (h:(dj c k0 s vt ct).J F k w):w.cell? (ao c.pk 0)=some (am k0.a.pw)/\w.cell? (ao c.pk 3)=some (.map (some c.cr))/\w.cell? (ao k0.a.pw 0)=some (am k0.a.p)/\Mp w c.cr k0.T s.f/\At w k0.a.p k0.a.q k0.a.N k0.a.O k.s.y k.s.g k.s.ws:=by
 obtain⟨h,ea,e,f⟩:=h;obtain⟨b,_,_,g,_⟩:=eE h;obtain⟨d,c0,_⟩:=gz h;obtain⟨hM,_⟩:=o4 h;rw[ea] at b d c0;have i:k.T=k0.T:=by unfold b_.T;rw[e,f]
 rw[i] at hM;exact⟨b,g,c0,hM,d⟩
theorem F9 (h:(dj c k0 s vt ct).J F k w)(a:Int):Calls prog 98 #[am k0.a.p,ak a] w fun e w'=>e=.returned (ak (k.ld a))/\Below w.heap.size w w':=by
 have e:k.ld a=ld k0.a.N k.s.y k.s.g k.s.ws a:=by unfold b_.ld;rw[h.2.1]
 rw[e];exact jr a w (hY h).2.2.2.2
theorem yZ (h:(dj c k0 s vt ct).J F k w)(x:Int):Calls prog 156 #[am c.pk,ak x] w fun e w'=>e=.returned (ak (k0.nw s x))/\Below w.heap.size w w':=by have P:=yL h.1 x;rw[b_.j6 s x h.2.2.1 h.2.2.2] at P;exact P
theorem F_ (h:(dj c k0 s vt ct).J F k w)(a x:Int):Calls prog 93 #[am k0.a.p,ak a,ak x] w fun e w'=>∃b d,e=.returned (.bool b)/\(dj c k0 s vt ct).J d (k.hX a x) w'/\ce F w d w':=by
 obtain⟨h,ea,f,g⟩:=h;obtain⟨i,j⟩:=nO h;rw[<-ea];refine(ki a x w i).mono ?_;rintro e l ⟨rfl,m,n⟩
 obtain⟨o,p,q⟩:=j l _ _ _ m n;exact⟨_,o,rfl,⟨p,ea,f,g⟩,q⟩
theorem Ga (h:(dj c k0 s vt ct).J F k w)(a:Int)(ha:0<=a/\a<=2000):Calls prog 160 #[am c.pk,ak a] w fun e w'=>∃b,e=.returned (.tuple #[])/\(dj c k0 s vt ct).J b (k.brk s a) w'/\ce F w b w':=by
 refine(F8 h.1 a ha).mono ?_;rintro e m ⟨d,rfl,f,g⟩
 obtain⟨i,j,l⟩:=tO k s a;exact⟨d,rfl,⟨f,i.trans h.2.1,j.trans h.2.2.1,l.trans h.2.2.2⟩,g⟩
theorem Gb (h:(di (dj c k0 s vt ct) bp (dt c)).J F k w)(a:Int)(ha:0<=a/\a<=2000)(m:Nat)(hm:m<=12):
 Calls prog 159 #[ak a,ak (1+m),am bp] w fun e w'=>∃ad,e=.returned (.tuple #[])/\(di (dj c k0 s vt ct) bp (dt c)).J ad ((k.brk s a).gI s a m) w'/\ce F w ad w':=by
 have ag:ay (∀x,(k.brk s a).nw s x=k0.nw s x):=by obtain⟨_,a1,a2⟩:=tO k s a;obtain⟨_,⟨_,_,g2,g3⟩,_⟩:=h;exact fun x=>b_.j6 s x (a1.trans g2) (a2.trans g3)
 obtain⟨bx,h0,f,lb,o⟩:=gA h;have P:=Ga h0 a ha;have q:=hide o;have t:w.cell? (ao bp 0)=some (am c.pk):=aA f
 generalize k.brk s a=k1 at P ag⊢;go_enter func159,ntmps159;go_wp2_with fail;refine P.mono ?_;rintro e w1 ⟨a3,rfl,bb,bd⟩
 obtain⟨be,bg⟩:=q.o a3 _ w1 bb bd;go_wp2_with fail
 go_loopw [5] (fun iv wr=>∃(j:Nat)(g:Nat->Prop),j<=m/\iv=ak (a+1+j)/\ay ((di (dj c k0 s vt ct) bp (dt c)).J g (k1.gI s a j) wr/\ce F w g wr)) (fun iv _=>m-(intOf iv-a-1).toNat)
 exact⟨0,_,aX _,aj,⟨be,bg⟩⟩
 ·
   obtain⟨j,g,b0,rfl,d⟩:=hrel;by_cases b1:j<m
   ·obtain⟨ai,i,f,lb,o⟩:=gA d.o.1;have q:=hide o;have al:=dq f lb;have u:=hide i;have t:wr.cell? (ao bp 0)=some (am c.pk):=aA f
    obtain⟨b2,_,c0,_,_⟩:=hY i;have ap:=F9 ((dj c k0 s vt ct).below i (aE _ wr).drew) (a+1+j)
    have l:ay (k1.gI s a (j+1)=(k1.gI s a j).hX (a+1+j) (k0.nw s ((k1.gI s a j).ld (a+1+j)))):=by show _=_;rw[<-ag.o];rfl
    generalize (k1.gI s a j).ld (a+1+j)=x at ap l;obtain⟨v,ar⟩:∃v,k1.gI s a (j+1)=v:=⟨_,rfl⟩
    rw[ar] at l;have bi:=hide ar;generalize k1.gI s a j=ax at u d i l;go_wp2_with fail
    go_region_held3 (fun w'=>w'.cell? (ao bp 0)=some (am c.pk)/\w'.cell? (ao c.pk 0)=some (am k0.a.pw)/\w'.cell? (ao k0.a.pw 0)=some (am k0.a.p)) (go_keep)
     (first
       |(go_at_call 98;refine ap.mono ?_;rintro e B ⟨rfl,bl⟩;have N:Below wr.heap.size wr B:=((aE _ wr).drew).trans (bl.mono ac);have aB:=(dj c k0 s vt ct).below u.o N;obtain⟨y1,_,b3,_,_⟩:=hY aB;have b4:=(N.cell (p:=ao bp 0) al.o.2).trans t;have S:ay ((dj c k0 s vt ct).J ai ax B/\Below wr.heap.size wr B):=⟨aB,N⟩)
       |(go_at_call 156;refine(yZ S.o.1 x).mono ?_;rintro e aF ⟨rfl,bn⟩;have W:=S.o.2.trans (bn.mono S.o.2.size);have aR:=(dj c k0 s vt ct).below u.o W;obtain⟨b5,_,b6,_,_⟩:=hY aR;have z0:=(W.cell (p:=ao bp 0) al.o.2).trans t;have aT:ay ((dj c k0 s vt ct).J ai ax aF/\Below wr.heap.size wr aF):=⟨aR,W⟩)
       |(go_at_call 93;refine(F_ aT.o.1 (a+1+j) (k0.nw s x)).mono ?_;rintro e n ⟨b7,ab,rfl,aV,bo⟩;obtain⟨r1,_,b8,_,_⟩:=hY aV;obtain⟨a0,br⟩:=q.o ab _ n aV ((ce.of aT.o.2).trans bo);have r0:n.cell? (ao bp 0)=some (am c.pk):=(by obtain⟨_,_,bs,_⟩:=a0;simp[World.cell?,bs]);have bt:ay ((di (dj c k0 s vt ct) bp (dt c)).J (fun b=>ab b\/b=bp) v n/\ce F w (fun b=>ab b\/b=bp) n):=⟨(by rw[l.o];exact a0),d.o.2.trans br⟩))
    go_wp2_with fail;go_roundw
    case rel=>exact⟨j+1,_,aa,aj,by rw[bi.o];exact bt⟩
    case measure=>simp[intOf];omega
   ·obtain rfl:j=m:=aa;go_wp2_with fail;go_end0;exact⟨g,rfl,d.o.1,d.o.2⟩
end
def b_.fO (k:b_)(s:cu):Nat->b_
 |0=>k
 |n+1=>(k.fO s n).qE n (k.nw s ((k.fO s n).s.rs.getD n 0))
def b_.nP (k:b_)(s:cu)(l:List Int):b_:=gQ (fun(_:b_) a=>s.f a) (fun k a=>k.jC s a) k l
def b_.cr (k:b_)(t:cu×List b9)(x:Int):Int×(cu×List b9):=((k.mp t.1 x).1,((k.mp t.1 x).2,t.2))
def b_.tS (k:b_)(t:cu×List b9)(r:List b9):cu×List b9:=fu (dM cu) (fun s x=>k.al s.1 x) k.cr t r
def b_.tR (k:b_)(t:cu×List b9)(r:List b9):List b9:=eV (dM cu) (fun s x=>k.al s.1 x) k.cr (fun s x=>k.nw s.1 x) t r
def b_.hZ (k:b_)(t:cu×List b9)(r:List b9):List b9:=eW (dM cu) (fun s x=>k.al s.1 x) k.cr (fun s x=>k.nw s.1 x) t r
theorem Ge:d7 159:=gW func159 ah rfl
section
variable {c:e7}{k0 k:b_}{vt ct vr:Value}{F:Nat->Prop}{s:cu}{w:aw}{bp:Nat}
theorem Gf (h:(dj c k0 s vt ct).J F k w)(i:Nat)(x:Int):∃b,(dj c k0 s vt ct).J b (k.qE i x) (w.setCell ⟨k0.a.nb,i,none⟩ (.int .i64 x))/\ce F w b (w.setCell ⟨k0.a.nb,i,none⟩ (.int .i64 x)):=by obtain⟨h,ea,f,g⟩:=h;obtain⟨b,d,e⟩:=F7 h i x;rw[ea] at d e;exact⟨b,⟨d,ea,f,g⟩,e⟩
theorem tP (h:(dj c k0 s vt ct).J F k w):w.cell? (ao k0.a.pw 3)=some (.slice (an k0.a.nb) 12 12)/\∀i,i<12->w.cell? (ao k0.a.nb i)=some (ak (k.s.rs.getD i 0))/\w.frozen? (ao k0.a.nb i)=false:=by obtain⟨h,ea,d,e⟩:=h;obtain⟨_,b,_⟩:=o_ h;obtain⟨_,_,_,c3,_,_,_,rt⟩:=jh b;rw[ea] at c3 rt;exact⟨c3,rt⟩
theorem Gg (h:(di (dj c k0 s vt ct) bp (dt c)).J F k w)(ht:k0.T.length<=4000)(hp:∀a∈k0.T,0<=a/\a<=2000){g:Option Addr}{i B:Nat}(l:w.ownsRow B 3 1 (.slice g k0.T.length i) k0.T.length (k0.T.map (Value.int .i64)))(hB:∀b,F b->b<B):
 Calls prog 157 #[am c.pk,.slice g k0.T.length i,.func (.func 159) #[] #[am bp]] w fun e w'=>∃f,e=.returned (.tuple #[])/\(di (dj c k0 s vt ct) bp (dt c)).J f (k.nP s k0.T) w'/\ce F w f w':=by
 have E:=yX _ (fun(_:b_) a=>s.f a) (fun k a=>pf (k.ld a)) (fun k a=>k.jC s a) (fun _ _=>True) k0.T c.pk k0.a.pw k0.a.p c.cr 159 #[.pointer _] Ge k0.T g i F k w
  (by
    rintro F t n a p;obtain⟨_,d,_⟩:=gA p;obtain⟨c0,c3,c5,hM,q⟩:=hY d;refine⟨c0,c3,c5,hM,(f6 a n q).mono ?_⟩
    rintro r w' ⟨rfl,hb⟩
    have u:pf (t.ld a)=pf (ld k0.a.N t.s.y t.s.g t.s.ws a):=by unfold b_.ld;rw[d.2.1]
    exact⟨pk _,pc _,by rw[u],hb⟩)
  (fun t a=>dp _) (fun a ha=>⟨by have:=hp a ha;omega,ha⟩) aa
  (by
    rintro j F t n o _ v _;have hm:k0.T.getD j 0∈k0.T:=by rw[aG,aI o];exact a_ o
    have d:=hp _ hm;have m:=dp (t.ld (k0.T.getD j 0))
    have P:=Gb v _ d (pf (t.ld (k0.T.getD j 0))).toNat aa;rw[show(((pf (t.ld (k0.T.getD j 0))).toNat:Nat):Int)=pf (t.ld (k0.T.getD j 0)) from by omega] at P;exact P)
  (fun _ _ _ _=>trivial) trivial h (gV l)
  (fun x z e hz=>by obtain⟨b,S,N⟩:=d4 l x;cases N;cases e;have m:=(cg l b rfl).1;have:=hB b hz;omega)
 refine E.mono ?_;rintro r w' ⟨f,rfl,d,m,_⟩
 exact⟨f,rfl,d,m⟩
theorem Gh {o:Option Addr}{p:Nat}{r:List b9}(B:vr=.slice o r.length p){t:cu×List b9}(h:(de (dQ c k) c.bs vr).J F t w)(N:w.ownsRow 0 103 2 vr r.length (ev r))(hq:t.2.length+r.length<=90000)(bx f:Nat)(S:bx≠f)(W:w.heap[bx]?=some (dt c))(hy:w.heap[f]?=some (jj (jY c)))(ab:¬F bx)(hm:¬F f):
 Calls prog 78 #[am c.bs,.agg #[(iO bx).v,(hQ f).v,(i5 c).v]] w fun e w'=>∃a1 c1 n,e=.returned (.tuple #[])/\(de (dQ c k) c.bs (.slice a1 (k.tR t r).length c1)).J n ((k.tS t r).1,k.hZ t r) w'/\
  w'.ownsRow 0 103 2 (.slice a1 (k.tR t r).length c1) (k.tR t r).length (ev (k.tR t r))/\(∀b,some b=(Value.slice a1 (k.tR t r).length c1).ownBlock->¬n b/\w.heap.size<=b)/\Fr (fun b=>F b\/b=f\/b=bx) w w'/\(∀b,n b->F b\/w.heap.size<=b):=by
 subst B;refine(s_ _ (fun _=>True) (iO bx) (hQ f) (i5 c) _ _ _ (ta _ c.bs _ (fun _=>True) (iO bx) (hQ f) (i5 c) k.al k.mp k.nw tC tD tE (tH bx f (jY c)) (ts (yN f)) (lQ (lQ tG))) r o p rfl aa (fun _ _=>⟨trivial,trivial⟩) _ t w (fun _ _=>⟨trivial,trivial⟩) hq (jU (jU h hy hm) W (fun d=>d.elim ab S)) (gn N)).mono ?_;rintro e w' ⟨a1,c1,a2,c2,ad,a3,rfl,⟨q,bb,bd,⟨fF,⟨g,g1,be,ag,s⟩,g2,g3,ai⟩,bg,bi,al,bl,ap,bn,bo⟩,q3,ar,i,j,l,ax,aB,aF,aR,aT⟩
 have i:w'.heap[c.bs]?=some (.cells #[.slice a1 (k.tR t r).length c1,.slice a2 (k.hZ t r).length c2] 153 (0,0)):=i;have j:=j;have l:=l;have u:∀b,g b->q b:=fun b hb=>(ai b).2 (aL ((s b).2 (aL hb)))
 have m:∀b,g b->ad b:=fun b hb=>al b (u b hb)
 have v:∀b,g b->b≠c.bs:=fun b hb e=>ap (by show q c.bs;rw[<-e];exact u b hb)
 have x:=(dQ c k).keep (w':=w') g1 ar (fun b hb=>q3 b (m b hb) (v b hb))
 have aV:F c.bs:=by obtain⟨_,_,_,_,_,_,_,a0,_⟩:=h;exact a0
 refine⟨a1,c1,fun b=>g b\/b=c.bs\/some b=(Value.slice a2 (k.hZ t r).length c2).ownBlock,rfl,⟨g,a2,c2,x,i,ec l (fun _ _=>aX _),fun b hb=>aL hb,aK (aL rfl),fun d=>v _ d rfl,fun b e=>⟨aK (aK e),fun d=>aR b e (m b d)⟩,fun b hb=>?_⟩,ec j (fun _ _=>aX _),fun b e=>⟨fun d=>?_,(cg j b e).1⟩,ax.mono (fun b d=>?_),fun b hb=>?_⟩
 ·rcases hb with hb|hb|hb
  ·exact(dQ c k).lt x b hb
  ·rw[hb];exact lt_of_some i
  ·exact(cg l b hb).2
 ·rcases d with d|d|d
  ·exact aF b e (m b d)
  ·obtain⟨bp,hc⟩:=d6 j b e;rw[d,i] at hc;simp at hc
  ·exact aT b e d
 ·rcases d with(d|d)|d
  ·exact aL d
  ·exact aK (aL d)
  ·exact aK (aK d)
 ·rcases hb with hb|hb|hb
  ·rcases aB b (m b hb) with((d|d)|d)|d
   ·exact aL d
   ·exact absurd hb (by rw[d];exact ag)
   ·exact absurd ((s b).2 (aL hb)) (by rw[d];exact g3)
   ·exact aK d
  ·exact aL (by rw[hb];exact aV)
  ·exact aK (cg l b hb).1
end
def b_.e4 (k:b_)(s:cu):b_:=(k.fO s 12).nP s k.T
section
variable {c:e7}{k0 k:b_}{vt ct vr:Value}{F:Nat->Prop}{s:cu}{w:aw}{bp:Nat}
theorem cX.of {k k0:b_}(h:cX k0 s)(b:k.Y=k0.Y)(c:k.G=k0.G):cX k s:=by
 have e:k.T=k0.T:=by unfold b_.T;rw[b,c]
 exact⟨by rw[e];exact h.nd,by rw[e];exact h.ps,by rw[e];exact h.td,by rw[e];exact h.ep,by rw[e];exact h.tl,by unfold b_.lost;rw[e];exact h.sum⟩
theorem y3 (h:(dj c k0 s vt ct).J F k w):k0.a.nb≠c.pk/\k0.a.nb≠k0.a.pw/\F k0.a.nb:=by
 obtain⟨⟨i,own,h,j⟩,ea,_⟩:=h;have hw:=h.wd;rw[<-ea];have f:=h.w1;obtain⟨m,cQ,b,l⟩:=hw;have g:i k.a.nb:=(l _).2 (by rw[b.r1];decide)
 refine⟨fun e=>?_,fun e=>?_,(j _).2 (by rw[(f _).1 g];decide)⟩
 ·have d:=(f _).1 g;rw[e,h.k1] at d;omega
 ·have d:=b.r1;rw[e,b.w1] at d;omega
theorem Gj {cZ:Option Addr}{c2:Nat}{r:List b9}(c4:vr=.slice cZ r.length c2){t:cu×List b9}(h:(de (dQ c k) c.bs vr).J F t w)(b6:w.ownsRow 0 103 2 vr r.length (ev r))(c5:∀b,some b=vr.ownBlock->¬F b)(hq:t.2.length+r.length<=90000){v1 v2:Value}(hs:w.heap[k.a.sd]?=some (.cells #[v1,v2] 153 (0,0)))(cw:¬F k.a.sd):
 Calls prog 83 #[am c.pk] w fun e w'=>∃a1 c1 o,e=.returned (.tuple #[])/\(de (dQ c (k.e4 t.1)) c.bs (.slice a1 ((k.e4 t.1).tR t r).length c1)).J o (((k.e4 t.1).tS t r).1,(k.e4 t.1).hZ t r) w'/\w'.ownsRow 0 103 2 (.slice a1 ((k.e4 t.1).tR t r).length c1) ((k.e4 t.1).tR t r).length (ev ((k.e4 t.1).tR t r))/\(∀b,some b=(Value.slice a1 ((k.e4 t.1).tR t r).length c1).ownBlock->¬o b/\w.heap.size<=b)/\w'.heap[k.a.sd]?=w'.heap[c.bs]?/\¬o k.a.sd/\Fr (fun b=>F b\/b=k.a.sd) w w'/\(∀b,o b->F b\/w.heap.size<=b):=by
 have dJ:∀(cx:Fn)(first cz:Array Value)(w:aw),(Instr.makeFunc cx first cz).run prog w=.ok (.func cx first cz) w:=fun _ _ _ _=>rfl;obtain⟨S,⟨⟨vt,ct,h0⟩,cA⟩,cB⟩:=iV h;have b7:ay (cX k t.1):=cA;have c6:=aq w (dt c)
 have c7:∀b,S b->b<w.heap.size:=(cW c k vt ct).lt h0;have b8:(di (dj c k t.1 vt ct) w.heap.size (dt c)).J (fun b=>S b\/b=w.heap.size) k (w.alloc (dt c)):=⟨S,⟨(cW c k vt ct).below h0 c6,rfl,rfl,rfl⟩,aN _ _,fun f=>by have:=c7 _ f;omega,fun b=>Iff.rfl⟩
 obtain⟨_,ca,W,_,_⟩:=gA b8;obtain⟨bd,_,c0,_,_⟩:=hY ca;obtain⟨c3,_⟩:=tP ca;have ap:(w.alloc (dt c)).cell? (ao w.heap.size 0)=some (am c.pk):=by simp only [World.cell?];rw[W];rfl
 clear ca W cA;go_enter func83,ntmps83;go_wp2_with fail
 go_loopw [12] (fun iv wr=>∃(j:Nat)(ab:Nat->Prop),j<=12/\iv=ak j/\ay ((di (dj c k t.1 vt ct) w.heap.size (dt c)).J ab (k.fO t.1 j) wr/\ce (fun b=>S b\/b=w.heap.size) (w.alloc (dt c)) ab wr)) (fun iv _=>12-(intOf iv).toNat)
 case atStart=>exact⟨0,_,aX _,rfl,⟨b8,ce.refl _ _⟩⟩
 case round=>
  clear b8 ap bd c0 c3;obtain⟨j,ab,dK,rfl,N⟩:=hrel;obtain⟨be,u,W,lb,cb⟩:=gA N.o.1;have ap:wr.cell? (ao w.heap.size 0)=some (am c.pk):=aA W
  obtain⟨bd,_,c0,_,_⟩:=hY u;obtain⟨c3,rt⟩:=tP u;by_cases cc:j<12
  ·have cC:ay (∀bg bi w1,(dj c k t.1 vt ct).J bg bi w1->ce be wr bg w1->(di (dj c k t.1 vt ct) w.heap.size (dt c)).J (fun b=>bg b\/b=w.heap.size) bi w1/\ce ab wr (fun b=>bg b\/b=w.heap.size) w1):=cb;have v:ay (wr.heap[w.heap.size]?=some (dt c)/\w.heap.size<wr.heap.size/\(dj c k t.1 vt ct).J be (k.fO t.1 j) wr):=⟨W,lb,u⟩
   obtain⟨n1,dL,c8⟩:=y3 u;have n4:k.a.nb≠w.heap.size:=fun e=>by obtain⟨ad,g1,_,g3,_⟩:=N.o.1;exact g3 (by rw[<-e];exact(y3 g1).2.2)
   obtain⟨cD,c9⟩:=rt j cc;have cd:=yZ ((dj c k t.1 vt ct).below u (aE _ wr).drew) ((k.fO t.1 j).s.rs.getD j 0)
   have bl:ay (k.fO t.1 (j+1)=(k.fO t.1 j).qE j (k.nw t.1 ((k.fO t.1 j).s.rs.getD j 0))):=rfl;obtain⟨bn,cf⟩:∃bn,k.fO t.1 (j+1)=bn:=⟨_,rfl⟩
   rw[cf] at bl;have da:ay (k.fO t.1 (j+1)=bn):=cf;clear cf u W lb cb rt c8;generalize (k.fO t.1 j).s.rs.getD j 0=x at cd bl cD;generalize k.fO t.1 j=cE at bl v N;have j0:(0:Int)<=(j:Int):=aa;have dM:(j:Int)<12:=aa;go_wp2_with fail
   go_region_held3 (fun w'=>w'.cell? (ao w.heap.size 0)=some (am c.pk)/\w'.cell? (ao c.pk 0)=some (am k.a.pw)/\w'.cell? (ao k.a.pw 3)=some (.slice (an k.a.nb) 12 12)) (go_keep)
    (first
      |(go_at_call 156;refine cd.mono ?_;clear cd;rintro e g ⟨rfl,cF⟩;have bo:Below wr.heap.size wr g:=((aE _ wr).drew).trans (cF.mono ac);have ag:=(dj c k t.1 vt ct).below v.o.2.2 bo;obtain⟨y1,_,_,_,_⟩:=hY ag;obtain⟨db,cG⟩:=tP ag;obtain⟨dc,dd⟩:=cG j cc;have ch:=(bo.cell (p:=ao w.heap.size 0) v.o.2.1).trans ap;have i:ay ((dj c k t.1 vt ct).J be cE g/\Below wr.heap.size wr g):=⟨ag,bo⟩;clear cF bo ag cG))
   have B:ay (∃ad,(di (dj c k t.1 vt ct) w.heap.size (dt c)).J ad bn (g.setCell ⟨k.a.nb,j,none⟩ (.int .i64 (k.nw t.1 x)))/\ce (fun b=>S b\/b=w.heap.size) (w.alloc (dt c)) ad (g.setCell ⟨k.a.nb,j,none⟩ (.int .i64 (k.nw t.1 x)))):=by
    obtain⟨ad,df,dg⟩:=Gf i.o.1 j (k.nw t.1 x)
    obtain⟨dI,ci⟩:=cC.o ad _ _ df ((ce.of i.o.2).trans dg)
    exact⟨_,by rw[bl.o];exact dI,N.o.2.trans ci⟩
   clear i cC v N ch y1 db dc dd ap bd c0 c3 cD c9;go_wp2_with fail;go_roundw
   case rel=>
    obtain⟨ad,dI,ci⟩:=B.o;exact⟨j+1,ad,aa,aj,by rw[da.o];exact⟨dI,ci⟩⟩
   case measure=>simp[intOf];omega
  ·obtain rfl:j=12:=aa;clear cc rt cb;have cj:ay (k.T.length<=4000/\∀a∈k.T,0<=a/\a<=2000):=⟨b7.o.tl,b7.o.ps⟩
   have hd:=(au wr).drew;have cH:Calls prog 141 #[am c.pk] wr.drew fun e w'=>∃a f,e=.returned (.slice a k.T.length f)/\w'.ownsRow wr.drew.heap.size 3 1 (.slice a k.T.length f) k.T.length (k.T.map (Value.int .i64))/\Below wr.drew.heap.size wr.drew w':=by
    have e:(k.fO t.1 12).T=k.T:=by unfold b_.T;rw[u.2.2.1,u.2.2.2]
    have P:=yW (c:=c) (k:=k.fO t.1 12) (F:=be) (s:=t.1) (w:=wr.drew) ⟨vt,ct,(cW c _ vt ct).below u.1 hd⟩ (by rw[e];exact cj.o.1)
    rw[e] at P;exact P
   have v:ay (w.heap.size<wr.heap.size/\(di (dj c k t.1 vt ct) w.heap.size (dt c)).J ab (k.fO t.1 12) wr.drew/\ce (fun b=>S b\/b=w.heap.size) (w.alloc (dt c)) ab wr.drew/\∀b,ab b->b<wr.drew.heap.size):=⟨lb,(di (dj c k t.1 vt ct) w.heap.size (dt c)).below N.o.1 hd,N.o.2.below hd,fun b hb=>by have:=(di (dj c k t.1 vt ct) w.heap.size (dt c)).lt N.o.1 b hb;simpa using this⟩
   have bp:ay (k.e4 t.1=(k.fO t.1 12).nP t.1 k.T):=rfl;obtain⟨d,ck⟩:∃d,k.e4 t.1=d:=⟨_,rfl⟩
   rw[ck] at bp;have dh:ay (k.e4 t.1=d):=ck;clear ck;generalize k.fO t.1 12=cE at bp v N u;clear u W lb hd N bd c0 c3;go_wp2_with fail
   go_region_held3 (fun w'=>w'.cell? (ao w.heap.size 0)=some (am c.pk)) (go_keep)
    (first
      |(go_at_call 141;refine cH.mono ?_;clear cH;rintro e w3 ⟨dk,dl,rfl,cI,cl⟩;have ch:w3.cell? (ao w.heap.size 0)=some (am c.pk):=(cl.cell (p:=ao w.heap.size 0) (by have:=v.o.1;simpa using this)).trans ap;have br:ay (w3.ownsRow wr.drew.heap.size 3 1 (.slice dk k.T.length dl) k.T.length (k.T.map (Value.int .i64))/\Below wr.drew.heap.size wr.drew w3):=⟨cI,cl⟩;clear cI cl)
      |(go_at_call 157;refine(Gg ((di (dj c k t.1 vt ct) w.heap.size (dt c)).below v.o.2.1 br.o.2) cj.o.1 cj.o.2 br.o.1 v.o.2.2.2).mono ?_;rintro e g ⟨bs,rfl,cm,cJ⟩;obtain⟨cK,ar,q,_,_⟩:=gA cm;have cL:g.cell? (ao w.heap.size 0)=some (am c.pk):=aA q;clear ar q;have cM:ay ((di (dj c k t.1 vt ct) w.heap.size (dt c)).J bs d g/\ce (fun b=>S b\/b=w.heap.size) (w.alloc (dt c)) bs g):=⟨(by rw[bp.o];exact cm),(v.o.2.2.1.below br.o.2).trans cJ⟩;clear cm cJ))
   all_goals
    have bt:ay (∃n,(de (dQ c d) c.bs vr).J n (t.1,t.2) g/\¬n w.heap.size/\g.heap[w.heap.size]?=some (dt c)/\Fr F w g/\(∀b,n b->F b\/w.heap.size<=b))/\d.a=k.a:=by
     obtain⟨cK,ar,q,dm,dn⟩:=cM.o.1;have cN:=cM.o.2;have dp:ce S w bs g:=⟨(Fr.of (X:=S) (aq w (dt c))).trans cN.fr (fun b f=>f.imp id (fun e=>by omega)),fun b hb=>(cN.sub b hb).elim (fun f=>f.imp id (fun e=>by omega)) (fun f=>aK (by simp at f;omega))⟩
     obtain⟨n,hM,cO⟩:=cB (di (dQ c d) w.heap.size (dt c)) bs t.1 g ⟨cK,⟨⟨vt,ct,ar.1⟩,b7.o.of ar.2.2.1 ar.2.2.2⟩,q,dm,dn⟩ dp;obtain⟨g1,g2,g3⟩:=qB hM;exact⟨⟨_,g1,fun f=>f.2 rfl,g2,cO.fr,fun b f=>cO.sub b f.1⟩,ar.2.1⟩
    obtain⟨bt,dq⟩:=bt;obtain⟨n,hM,cP,cn,bx,co⟩:=bt.o;have cQ:g.ownsRow 0 103 2 vr r.length (ev r):=cy b6 (fun b e=>bx.block b (cg b6 b e).2 (c5 b e))
    have cR:g.heap[k.a.sd]?=some (.cells #[v1,v2] 153 (0,0)):=(bx.block _ (lt_of_some hs) cw).trans hs;have cS:∀b,n b->b<g.heap.size:=(de (dQ c d) c.bs vr).lt hM;obtain⟨_,⟨⟨dN,dO,ag⟩,_⟩,_⟩:=iV hM;obtain⟨_,_,_,_,cp,_⟩:=eE ag;have cT:=aM g _ cp;have cU:=lt_of_some cn;have ax:¬n k.a.sd/\k.a.sd<w.heap.size:=⟨fun f=>(co _ f).elim cw (fun f=>by have:=lt_of_some hs;omega),lt_of_some hs⟩
    have i:ay ((de (dQ c d) c.bs vr).J n (t.1,t.2) g/\g.ownsRow 0 103 2 vr r.length (ev r)/\g.heap[k.a.sd]?=some (.cells #[v1,v2] 153 (0,0))/\(∀b,n b->b<g.heap.size)/\¬n w.heap.size/\w.heap.size<g.heap.size/\(¬n k.a.sd/\k.a.sd<w.heap.size)/\c.pk<g.heap.size/\g.heap[w.heap.size]?=some (dt c)):=⟨hM,cQ,cR,cS,cP,cU,ax,cT,cn⟩
    have b0:ay (Fr F w g/\∀b,n b->F b\/w.heap.size<=b):=⟨bx,co⟩
    have dr:ay (∀m,Below g.heap.size g m->m.heap[g.heap.size]?=some (dt c)->m.heap[g.heap.size+1]?=some (jj (jY c))->Calls prog 78 #[am c.bs,.agg #[(iO g.heap.size).v,(hQ (g.heap.size+1)).v,(i5 c).v]] m fun e w'=>∃a1 c1 o,e=.returned (.tuple #[])/\(de (dQ c d) c.bs (.slice a1 (d.tR t r).length c1)).J o ((d.tS t r).1,d.hZ t r) w'/\w'.ownsRow 0 103 2 (.slice a1 (d.tR t r).length c1) (d.tR t r).length (ev (d.tR t r))/\(∀b,some b=(Value.slice a1 (d.tR t r).length c1).ownBlock->¬o b/\m.heap.size<=b)/\Fr (fun b=>n b\/b=g.heap.size+1\/b=g.heap.size) m w'/\(∀b,o b->n b\/m.heap.size<=b)):=fun m aR b2 b3=>
     Gh c4 ((de (dQ c d) c.bs vr).below i.o.1 aR) (cy i.o.2.1 (fun b e=>aR.block b (cg i.o.2.1 b e).2)) hq g.heap.size (g.heap.size+1) aa b2 b3 (fun f=>by have:=i.o.2.2.2.1 _ f;omega) (fun f=>by have:=i.o.2.2.2.1 _ f;omega)
    clear ch ap br v bp hM cQ cR cS cP cU ax cT cn bx co ag bt cB h0 b6 hs h;go_wp2_with fail
    go_region_held3 (fun w'=>w'.cell? (ao w.heap.size 0)=some (am c.pk)/\w'.cell? (ao c.pk 4)=some (am c.bs)) (go_keep)
     (first
       |(go_at_call 79;refine(tF (jY c) g.drew c.pk).mono ?_;rintro e m ⟨rfl,b2,b3,aR⟩;have b4:Below g.heap.size g m:=((aE _ g).drew).trans (aR.mono ac);have cq:=(b4.cell (p:=ao c.pk 4) i.o.2.2.2.2.2.2.2.1).trans cp;have cr:=(b4.cell (p:=ao w.heap.size 0) i.o.2.2.2.2.2.1).trans cL;have B:ay (m.heap[g.heap.size]?=some (dt c)/\m.heap[g.heap.size+1]?=some (jj (jY c))/\Below g.heap.size g m):=⟨b2,b3,b4⟩;clear b2 b3 aR b4)
       |(go_at_call 78;refine(dr.o m B.o.2.2 B.o.1 B.o.2.1).mono ?_;rintro e l ⟨a1,c1,aB,rfl,q,aT,aF,aV,a0⟩;obtain⟨_,⟨⟨ds,du,cs⟩,_⟩,_⟩:=iV q;obtain⟨u0,_,_,_,dv,_⟩:=eE cs;have dw:l.cell? (ao w.heap.size 0)=some (am c.pk):=(by have cv:=B.o.2.2.block w.heap.size i.o.2.2.2.2.2.1;have dx:=aV.block w.heap.size (by have:=B.o.2.2.size;have:=i.o.2.2.2.2.2.1;omega) (fun f=>by rcases f with f|f|f;(exact i.o.2.2.2.2.1 f);(have:=i.o.2.2.2.2.2.1;omega);(have:=i.o.2.2.2.2.2.1;omega));simp[World.cell?,dx,cv,i.o.2.2.2.2.2.2.2.2]);have b5:ay ((de (dQ c d) c.bs (.slice a1 (d.tR t r).length c1)).J aB ((d.tS t r).1,d.hZ t r) l/\l.ownsRow 0 103 2 (.slice a1 (d.tR t r).length c1) (d.tR t r).length (ev (d.tR t r))/\(∀b,some b=(Value.slice a1 (d.tR t r).length c1).ownBlock->¬aB b/\m.heap.size<=b)/\Fr (fun b=>n b\/b=g.heap.size+1\/b=g.heap.size) m l/\(∀b,aB b->n b\/m.heap.size<=b)/\(cW c d ds du).J _ (d.tS t r).1 l):=⟨q,aT,aF,aV,a0,cs⟩;clear q aT aF aV a0 cs))
    all_goals
     clear cq cr cL cp;have a2:ay (l.heap[k.a.sd]?=some (.cells #[v1,v2] 153 (0,0))):=by have l1:=i.o.2.2.2.2.2.2.1;have l2:=i.o.2.2.2.2.2.1;have dy:=B.o.2.2.size;exact((b5.o.2.2.2.1.block k.a.sd aa (fun f=>by rcases f with f|f|f;(exact l1.1 f);omega;omega)).trans (B.o.2.2.block k.a.sd aa)).trans i.o.2.2.1
     obtain⟨_,cV,_⟩:=o_ b5.o.2.2.2.2.2;obtain⟨_,_,cY,_⟩:=jh cV;rw[dq] at cY u0;obtain⟨dP,ai,al,_,a3,_⟩:=b5.o.1;have dz:l.cell? (ao c.bs 0)=some (.slice a1 (d.tR t r).length c1):=aA a3
     have b1:l.cell? (ao c.bs 1)=some (.slice ai (d.hZ t r).length al):=aA a3
     have s0:l.cell? (ao k.a.sd 0)=some v1:=aA a2.o
     have s1:l.cell? (ao k.a.sd 1)=some v2:=aA a2.o
     have t0:l.frozen? (ao k.a.sd 0)=false:=aC a2.o
     have bi:l.frozen? (ao k.a.sd 1)=false:=aC a2.o
     have dA:ay (∃o,(de (dQ c d) c.bs (.slice a1 (d.tR t r).length c1)).J o ((d.tS t r).1,d.hZ t r) ((l.setCell ⟨k.a.sd,0,none⟩ (.slice a1 (d.tR t r).length c1)).setCell ⟨k.a.sd,1,none⟩ (.slice ai (d.hZ t r).length al)).drew/\((l.setCell ⟨k.a.sd,0,none⟩ (.slice a1 (d.tR t r).length c1)).setCell ⟨k.a.sd,1,none⟩ (.slice ai (d.hZ t r).length al)).drew.ownsRow 0 103 2 (.slice a1 (d.tR t r).length c1) (d.tR t r).length (ev (d.tR t r))/\(∀b,some b=(Value.slice a1 (d.tR t r).length c1).ownBlock->¬o b/\w.heap.size<=b)/\((l.setCell ⟨k.a.sd,0,none⟩ (.slice a1 (d.tR t r).length c1)).setCell ⟨k.a.sd,1,none⟩ (.slice ai (d.hZ t r).length al)).drew.heap[k.a.sd]?=((l.setCell ⟨k.a.sd,0,none⟩ (.slice a1 (d.tR t r).length c1)).setCell ⟨k.a.sd,1,none⟩ (.slice ai (d.hZ t r).length al)).drew.heap[c.bs]?/\¬o k.a.sd/\Fr (fun b=>F b\/b=k.a.sd) w ((l.setCell ⟨k.a.sd,0,none⟩ (.slice a1 (d.tR t r).length c1)).setCell ⟨k.a.sd,1,none⟩ (.slice ai (d.hZ t r).length al)).drew/\(∀b,o b->F b\/w.heap.size<=b)):=by
      have l1:=i.o.2.2.2.2.2.2.1;have l2:=i.o.2.2.2.2.2.1;have dy:=B.o.2.2.size;obtain⟨q,aT,aF,aV,a0,_⟩:=b5.o;have ax:¬aB k.a.sd:=fun f=>(a0 _ f).elim l1.1 (fun f=>by omega)
      have bb:Fr (fun b=>b=k.a.sd) l ((l.setCell ⟨k.a.sd,0,none⟩ (.slice a1 (d.tR t r).length c1)).setCell ⟨k.a.sd,1,none⟩ (.slice ai (d.hZ t r).length al)).drew:=(((Fr.refl (fun b=>b=k.a.sd) l).set k.a.sd 0 _ rfl).set k.a.sd 1 _ rfl).drew;have dB:aB c.bs:=by obtain⟨_,_,_,_,_,_,_,cv,_⟩:=q;exact cv
      have dC:Fr F w l:=(b0.o.1.trans (Fr.of (X:=F) B.o.2.2) (fun b f=>aL f)).trans aV (fun b f=>by
       have:=b0.o.1.size;rcases f with f|f|f
       ·exact b0.o.2 b f
       ·exact aK aa
       ·exact aK aa)
      refine⟨aB,(de (dQ c d) c.bs _).keep q bb.size (fun b hb=>bb.block b ((de (dQ c d) c.bs _).lt q b hb) (fun e=>ax (by rw[<-e];exact hb))),cy aT (fun b e=>bb.block b (cg aT b e).2 (fun dR=>by have:=(aF b e).2;omega)),fun b e=>⟨(aF b e).1,by have:=(aF b e).2;omega⟩,?_,ax,(dC.mono (fun b f=>aL f)).trans bb (fun b e=>aL (aK e)),fun b hb=>(a0 b hb).elim (b0.o.2 b) (fun f=>aK aa)⟩
      rw[bb.block c.bs (lt_of_some a3) (fun e=>ax (by rw[<-e];exact dB)),a3];show((l.setCell _ _).setCell _ _).heap[k.a.sd]?=_;simp only [World.setCell,Array.getElem?_modify,if_true,a2.o,Option.map_some];simp
     clear cV a3;go_wp2_with fail
     go_region
     clear dz b1 s0 s1 t0 bi cY u0 dv dw;obtain⟨o,dD,dE,dF,cq,cr,dG,dH⟩:=dA.o;go_end0;rw[dh.o];exact⟨a1,c1,o,rfl,dD,dE,dF,cq,cr,dG,dH⟩
end
def b_.k8 (k:b_)(t f n:Nat):b_:=k.ar k.s.y k.s.g (splice k.s.ws t ((k.s.ws.drop f).take n))
def b_.cop (k:b_)(a:Int):b_:=k.ar k.s.y (js k.a.N k.a.O k.s.y k.s.g k.s.ws a) (ju k.a.N k.a.O k.s.y k.s.g k.s.ws a)
section
variable {c:e7}{k0 k:b_}{vt ct vr:Value}{F:Nat->Prop}{s:cu}{w:aw}{bp fY:Nat}
theorem Gk (h:(dj c k0 s vt ct).J F k w)(t f n:Nat)(d:t+n<=k0.a.N+k0.a.O)(h2:f+n<=k0.a.N+k0.a.O):Calls prog 162 #[am k0.a.p,ak t,ak f,ak n] w fun e w'=>∃b,e=.returned (.tuple #[])/\(dj c k0 s vt ct).J b (k.k8 t f n) w'/\ce F w b w':=by obtain⟨h,ea,tM,tN⟩:=h;obtain⟨g,hU⟩:=nO h;rw[<-ea];refine(vO t f n w g (by rw[ea];exact d) (by rw[ea];exact h2)).mono ?_;exact tL
theorem Gm (h:(dj c k0 s vt ct).J F k w)(a:Int):Calls prog 165 #[am k0.a.p,ak a] w fun e w'=>∃b v,e=.returned (ak v)/\(dj c k0 s vt ct).J b (k.cop a) w'/\ce F w b w':=by
 obtain⟨h,ea,d,f⟩:=h;obtain⟨g,i⟩:=nO h;rw[<-ea];refine(v5 a w g).mono ?_;rintro e j ⟨rfl,l,m⟩
 obtain⟨n,o,p⟩:=i j _ _ _ l m;exact⟨n,_,rfl,⟨o,ea,d,f⟩,p⟩
theorem Gn {u:Int}(h:(g8 (di (dj c k0 s vt ct) bp (dt c)) fY).J F (k,u) w)(a:Int)(m:Nat)(ha:a∈k0.T)(hp:0<=a/\a<=2000)(p:0<=s.f a)(v:s.f a+m<=k0.a.N+k0.a.O)(x:a+m<=k0.a.N+k0.a.O)(bg:0<=u/\u<=100000)(hm:m<=13):
 Calls prog 161 #[ak a,ak m,am bp,am fY] w fun e w'=>∃j,e=.returned (.tuple #[])/\(g8 (di (dj c k0 s vt ct) bp (dt c)) fY).J j (k.k8 (s.f a).toNat a.toNat m,u+m) w'/\ce F w j w':=by
 have l:=i1 hp.1 aa;obtain⟨bi,g1,_,_,B⟩:=k7 h;obtain⟨g,g2,N,lb,S⟩:=gA g1;have W:w.cell? (ao bp 0)=some (am c.pk):=aA N
 obtain⟨ab,ad,c0,_,_⟩:=hY g2;have gd:=(dj c k0 s vt ct).below g2 (aE _ w).drew;obtain⟨_,_,_,⟨D,o1,bl,ag⟩,_⟩:=hY gd;obtain⟨z,i,ai,bo⟩:=o1.lookup_int (t:=127) (e:=3) (q:=.i64) iE underlying127 underlying3 (lC _) l;obtain rfl:z=s.f a:=by have:=ai.symm.trans (ag a ha);simpa using this
 obtain⟨tn,al⟩:=Int.eq_ofNat_of_zero_le p;obtain⟨ap,ar⟩:=Int.eq_ofNat_of_zero_le hp.1;rw[al] at i v⊢;rw[ar] at i x l⊢;have P:=Gk gd tn ap m aa aa;rw[Int.toNat_natCast,Int.toNat_natCast];have ax:ay (∀b d w1,(dj c k0 s vt ct).J b d w1->ce g w b w1->∃f,(g8 (di (dj c k0 s vt ct) bp (dt c)) fY).J f (d,u) w1/\ce F w f w1):=fun b d w1 aB t=>by obtain⟨j2,aF⟩:=S b d w1 aB t;obtain⟨cA,t3⟩:=B _ d w1 j2 aF;exact⟨_,cA,t3⟩
 have aR:ay (ce g w g w.drew):=ce.of (aE _ w).drew;go_enter func161,ntmps161;go_wp2_with fail
 go_region_held3 (fun w'=>w'.cell? (ao bp 0)=some (am c.pk)/\w'.cell? (ao c.pk 0)=some (am k0.a.pw)/\w'.cell? (ao c.pk 3)=some (.map (some c.cr))/\w'.cell? (ao k0.a.pw 0)=some (am k0.a.p)) (go_keep)
  (first
    |(go_at_call 162;refine P.mono ?_;rintro e w3 ⟨b,rfl,cA,t3⟩;obtain⟨aT,aV,a0,_,_⟩:=hY cA;have a1:=ax.o b _ w3 cA (aR.o.trans t3);obtain⟨f,cD,n⟩:=a1;have a2:=(nN cD).1;have br:=(nN cD).2;dsimp only at a2;have a3:w3.cell? (ao bp 0)=some (am c.pk):=(by obtain⟨_,bb,_⟩:=k7 cD;obtain⟨_,_,bd,_⟩:=gA bb;simp[World.cell?,bd]);have o:ay (_/\_):=⟨cD,n⟩;clear cA t3 cD n))
 all_goals
  clear W ab ad c0 aT aV a0 a3 i;go_wp2_with fail;go_end0;obtain⟨dI,be⟩:=yY o.o.1 (u+m)
  exact⟨f,rfl,dI,o.o.2.trans be⟩
theorem Gp (h:(di (dj c k0 s vt ct) bp (dt c)).J F k w)(a m:Int):
 Calls prog 164 #[ak a,ak m,am bp] w fun e w'=>∃b,e=.returned (.tuple #[])/\(di (dj c k0 s vt ct) bp (dt c)).J b (k.cop a) w'/\ce F w b w':=by
 obtain⟨n,g2,f,lb,g⟩:=gA h;have o:w.cell? (ao bp 0)=some (am c.pk):=aA f
 obtain⟨p,q,c0,_,_⟩:=hY g2;go_enter func164,ntmps164;go_wp2_with fail;refine(Gm g2 a).mono ?_;rintro e w1 ⟨i,v,rfl,j,l⟩
 have d:=hide ((hide g).o i _ w1 j l)
 go_wp2;go_end0;exact⟨_,rfl,d.o.1,d.o.2⟩
end
section
variable {N y g:Nat}{ws:List Int}{hi:Int}
theorem qF:∀(k:Nat)(a:Int),(eH N y g ws hi k a).Nodup
 |0,a=>by exact List.nodup_nil
 |k+1,a=>by
  unfold eH;split
  ·split
   ·rw[List.nodup_cons];refine⟨fun h=>?_,qF k _⟩
    have b:=(mm k _ _ h).1;have c:=dp (ld N y g ws a)
    omega
   ·exact List.nodup_nil
  ·exact List.nodup_nil
theorem y4:∀(k:Nat)(a x:Int),x∈eH N y g ws hi k a->pc (ld N y g ws x)=0
 |0,a,x,h=>by simp[eH] at h
 |k+1,a,x,h=>by
  unfold eH at h;split at h
  ·split at h
   ·rcases List.mem_cons.1 h with h|h
    ·rw[h];assumption
    ·exact y4 k _ x h
   ·simp at h
  ·simp at h
theorem y5:∀(k:Nat)(a:Int),(((eH N y g ws y k a).filter (fun a=>decide (a+pf (ld N y g ws a)<y))).map (fun a=>1+(pf (ld N y g ws a)).toNat)).sum<=((y:Int)-a).toNat
 |0,a=>by simp[eH]
 |k+1,a=>by
  unfold eH;split
  ·split
   ·have b:=y5 k (a+(1+pf (ld N y g ws a)))
    have d:=dp (ld N y g ws a)
    by_cases c:a+pf (ld N y g ws a)<y
    ·rw[List.filter_cons_of_pos (by simpa using c)];simp only [List.map_cons,List.sum_cons];omega
    ·rw[List.filter_cons_of_neg (by simpa using c)];omega
   ·simp
  ·simp
end
def eh.k0 (a:Wc)(s:eh):cf:=⟨a.N,a.O,s.y,mO a.N s.y s.g s.ws⟩
def eh.s0 (a:Wc)(s:eh):ck:=⟨s.g,s.ws,fun _=>-1,(a.N:Int)+s.g,[],[],s.rs⟩
theorem CI.start {a:Wc}{s:eh}(hN:16<=a.N)(hN':a.N<=256)(hO:a.O<=1024)(hy:s.y<=a.N)(hg:s.g<=a.O)(hl:s.ws.length=a.N+a.O)(i:s.y<=a.O-s.g):CI (s.k0 a) (s.s0 a):=by
 have d:∀x∈mO a.N s.y s.g s.ws,x∈dW a.N s.y s.g s.ws/\x+pf (ld a.N s.y s.g s.ws x)<s.y:=fun x b=>by simpa[mO] using b
 refine⟨hN,hN',hO,hy,hg,hl,fun x b=>?_,(qF 2000 0).filter _,?_,?_,?_,by simp[eh.s0],by simp[eh.s0],?_⟩
 ·obtain⟨c,j⟩:=d x b;exact⟨(mx x c).1,y4 _ _ _ c,by show x+1+pf (ld a.N s.y s.g s.ws x)<=s.y;omega⟩
 ·have c:=y5 (N:=a.N) (y:=s.y) (g:=s.g) (ws:=s.ws) 2000 0;have e:(s.k0 a).sz (s.s0 a)=(((eH a.N s.y s.g s.ws s.y 2000 0).filter (fun x=>decide (x+pf (ld a.N s.y s.g s.ws x)<s.y))).map (fun x=>1+(pf (ld a.N s.y s.g s.ws x)).toNat)).sum:=by
   unfold cf.sz;have f:(s.k0 a).T.filter (fun x=>(s.s0 a).f x==-1)=(s.k0 a).T:=List.filter_eq_self.2 (fun _ _=>rfl)
   rw[f];rfl
  show _<=a.O-s.g;omega
 ·show(a.N:Int)<=(a.N:Int)+s.g;omega
 ·show(a.N:Int)+s.g<=(a.N:Int)+a.O+13;omega
 ·exact aS (bk _ _) (iD _ _)
def eh.s1 (a:Wc)(s:eh):ck:=(s.k0 a).cK (s.s0 a) 12
def eh.s2 (a:Wc)(s:eh):ck:=(s.k0 a).lm (dY a.O) s.M (s.s1 a) (dB a.N s.y (s.s1 a).g (s.s1 a).ws)
def co.t3 (a:Wc)(S:co):ck×List b9:=(S.s.k0 a).sp (S.s.s2 a,S.q)
def co.s4 (a:Wc)(S:co):ck:=((S.s.k0 a).eT (S.t3 a) S.r).1
def co.s5 (a:Wc)(S:co):ck:=(S.s.k0 a).mw (S.s4 a) (S.s4 a).wk
def co.s6 (a:Wc)(S:co):ck:=(S.s.k0 a).be (S.s5 a) (S.s5 a).ep
def co.full (a:Wc)(S:co):Bool:=decide (a.O-S.s.g<S.s.y)
def co.cut (a:Wc)(S:co):co:=if S.full a=true then S else⟨⟨0,(S.s6 a).g,(S.s6 a).ws,[],(S.s6 a).rs⟩,(S.s.k0 a).sR (S.t3 a) S.r,(S.s.k0 a).i6 (S.t3 a) S.r⟩
def co.code (a:Wc)(S:co):Int:=if S.full a=true then 3 else 0
section
variable {c:gm}{k:cf}{F:Nat->Prop}{s:ck}{w:aw}
theorem Gq (h:(ef c k).J F s w)(aB:CI k s)(hl:s.wk.length<=10000):
 Calls prog 112 #[am c.pk] w fun e w'=>e=.returned (.tuple #[])/\(ef c k).J F (k.mw s s.wk) w'/\ce F w F w':=by
 obtain⟨cE,b,h⟩:=h;obtain⟨c0,_,_,c4,_,c5,_,_,_,bl,er,_,_,lk,_⟩:=eg h;obtain⟨bn,d,rfl⟩:=dU er;have bo:ay (CI k s):=aB;have bp:ay (∀a∈s.wk,(k.N:Int)<=a/\a<=2000):=aB.ip;have b2:(0:Int)<=k.N:=aa;clear aB bl;go_enter func112,ntmps112;go_wp2_with fail
 go_loopw [10] (fun iv wr=>∃(j:Nat)(s1:ck),j<=s.wk.length/\iv=ak j/\ay (k.mw s (s.wk.take j)=s1)/\(cutV c k (.slice bn s.wk.length d) b).J F s1 wr/\ce F w F wr/\ay (CI k s1/\dZ k s s1)) (fun iv _=>s.wk.length-(intOf iv).toNat)
 case atStart=>exact⟨0,s,aX _,rfl,rfl,h,ce.refl _ _,⟨bo.o,dZ.refl _ _⟩⟩
 case round=>
  obtain⟨j,s1,b3,rfl,aF,N,aR,aT⟩:=hrel;obtain⟨u,_,_,br,_,v,_,_,_,bs,aV,_,_,b4,_⟩:=eg N;have bt:=aT.o.2.wk;rw[bt] at aV;by_cases ap:j<s.wk.length
  ·obtain⟨f,g,bx,b5,hc⟩:=gV aV aa;have a0:=hc j ap;subst bx;have bd:s.wk.getD j 0∈s.wk:=by rw[aG,aI ap];exact a_ ap
   have be:=bp.o _ bd;have S:ay (k.mw s (s.wk.take (j+1))=k.eL s1 (s.wk.getD j 0)):=by
    show _=_;rw[fE s.wk j ap 0];unfold cf.mw;rw[List.foldl_append];have:=aF.o;unfold cf.mw at this
    rw[this];rfl
   generalize s.wk.getD j 0=a at a0 be S;have ar:ay (CI k (k.eL s1 a)/\dZ k s (k.eL s1 a)):=by obtain⟨b0,b1⟩:=aT.o.1.eL be.1;exact⟨b0,aT.o.2.trans b1⟩
   have b6:IntKind.i64.wrap (a+1)=a+1:=by rw[bw];omega
   obtain⟨bg,_⟩:=iG N;have L:=jr (a+1) wr bg;have bi:ld k.N k.y s1.g s1.ws (a+1)=k.ld s1 (a+1):=rfl;rw[bi] at L;have n:ay ((cutV c k (.slice (some ⟨f,g,none⟩) s.wk.length d) b).J F s1 wr/\ce F w F wr):=⟨N,aR⟩
   clear hc bd N aR bg bi bs aV br;cases hls:k.ls s1 (k.ld s1 (a+1))
   ·have B:ay (k.eL s1 a=k.st s1 (a+1) (k.nw s1 (k.ld s1 (a+1)))):=by show _=_;unfold cf.eL;rw[hls];rfl
    generalize k.eL s1 a=W at S ar B;generalize k.ld s1 (a+1)=x at L hls B;go_wp2_with fail;refine L.mono ?_;clear L;rintro e w1 ⟨rfl,l⟩
    have P:=nL ((cutV c k (.slice (some ⟨f,g,none⟩) s.wk.length d) b).below n.o.1 l) x;rw[hls] at P;clear a0 u v;go_wp2_with fail;refine P.mono ?_;clear P;rintro e o ⟨rfl,ab⟩
    have hb:=l.trans (ab.mono l.size)
    have p:=(cutV c k (.slice (some ⟨f,g,none⟩) s.wk.length d) b).below n.o.1 hb;obtain⟨u,_,_,_,_,v,_⟩:=eg p;have ax:ay ((cutV c k (.slice (some ⟨f,g,none⟩) s.wk.length d) b).J F s1 o.drew/\ce F w F o.drew):=⟨(cutV c k (.slice (some ⟨f,g,none⟩) s.wk.length d) b).below p (aE _ o).drew,(n.o.2.below hb).below (aE _ o).drew⟩
    clear l ab p hb n;go_wp2_with fail
    go_region_held3 (fun w'=>w'.cell? (ao c.pk 0)=some (am c.pw)/\w'.cell? (ao c.pw 0)=some (am c.p)) (go_keep)
     (first
       |(go_at_call 190;refine(qt ax.o.1 x).mono ?_;rintro e w3 ⟨rfl,a1⟩;have a2:=(cutV c k (.slice (some ⟨f,g,none⟩) s.wk.length d) b).below ax.o.1 a1;obtain⟨g0,_,_,_,_,g5,_⟩:=eg a2;obtain⟨i,ad⟩:=iG a2;have m:ay (_/\_/\_):=⟨i,ad,ax.o.2.below a1⟩;clear a1 a2 i ad ax)
       |(go_at_call 93;refine(ki (a+1) (k.nw s1 x) w3 m.o.1).mono ?_;rintro e q ⟨rfl,i,ag⟩;obtain⟨t,ai⟩:=m.o.2.1 q _ _ i ag;obtain⟨r0,_,_,_,_,a3,_⟩:=eg t;have al:ay ((cutV c k (.slice (some ⟨f,g,none⟩) s.wk.length d) b).J F W q/\ce F w F q):=⟨(by rw[B.o];exact t),m.o.2.2.trans ai⟩;clear i ag t ai m))
    clear g0 g5 r0 a3 u v;go_wp2_with fail;go_roundw
    case rel=>exact⟨j+1,W,aa,aj,S,al.o.1,al.o.2,ar⟩
    case measure=>simp[intOf];omega
   ·have B:ay (k.eL s1 a=k.st s1 (a+1) 3):=by show _=_;unfold cf.eL;rw[aJ hls]
    generalize k.eL s1 a=W at S ar B;generalize k.ld s1 (a+1)=x at L hls;go_wp2_with fail;refine L.mono ?_;clear L;rintro e w1 ⟨rfl,l⟩
    have P:=nL ((cutV c k (.slice (some ⟨f,g,none⟩) s.wk.length d) b).below n.o.1 l) x;rw[hls] at P;clear a0 u v;go_wp2_with fail;refine P.mono ?_;clear P;rintro e o ⟨rfl,ab⟩
    have hb:=l.trans (ab.mono l.size)
    have p:=(cutV c k (.slice (some ⟨f,g,none⟩) s.wk.length d) b).below n.o.1 hb;obtain⟨u,_,_,_,_,v,_⟩:=eg p;obtain⟨i,ad⟩:=iG ((cutV c k (.slice (some ⟨f,g,none⟩) s.wk.length d) b).below p (aE _ o).drew)
    have m:ay (_/\_/\_):=⟨i,ad,(n.o.2.below hb).below (aE _ o).drew⟩
    clear l ab p hb n i ad;go_wp2_with fail
    go_region_held3 (fun w'=>w'.cell? (ao c.pk 0)=some (am c.pw)/\w'.cell? (ao c.pw 0)=some (am c.p)) (go_keep)
     (first
       |(go_at_call 191;refine(m8 _).mono ?_;rintro e b7 ⟨rfl,bb⟩;have bb:=bb.symm;subst bb)
       |(go_at_call 93;refine(ki (a+1) 3 o.drew m.o.1).mono ?_;rintro e q ⟨rfl,i,ag⟩;obtain⟨t,ai⟩:=m.o.2.1 q _ _ i ag;obtain⟨r0,_,_,_,_,a3,_⟩:=eg t;have al:ay ((cutV c k (.slice (some ⟨f,g,none⟩) s.wk.length d) b).J F W q/\ce F w F q):=⟨(by rw[B.o];exact t),m.o.2.2.trans ai⟩;clear i ag t ai m))
    clear r0 a3 u v;go_wp2_with fail;go_roundw
    case rel=>exact⟨j+1,W,aa,aj,S,al.o.1,al.o.2,ar⟩
    case measure=>simp[intOf];omega
  ·obtain rfl:j=s.wk.length:=aa;rw[ba] at aF;go_wp2_with fail;go_end0;rw[aF.o];exact⟨rfl,⟨_,_,N⟩,aR⟩
theorem Gr {cE d:Value}(h:(cutV c k cE d).J F s w):c.nb≠c.pk/\c.nb≠c.pw:=by
 obtain⟨own,h,f⟩:=h;refine⟨fun e=>?_,fun e=>?_⟩
 ·have b:=h.r1;rw[e,h.k1] at b;omega
 ·have b:=h.r1;rw[e,h.w1] at b;omega
theorem Gs (h:(ef c k).J F s w)(p:CI k s):
 Calls prog 107 #[am c.pk] w fun e w'=>e=.returned (.tuple #[])/\(ef c k).J F (k.cK s 12) w'/\ce F w F w':=by
 obtain⟨cE,d,h⟩:=h;obtain⟨c0,_,_,_,_,_,_,_,aB,_⟩:=eg h;have ab:ay (CI k s):=p;clear p;go_enter func107,ntmps107;go_wp2_with fail
 go_loopw [12] (fun iv wr=>∃(j:Nat),j<=12/\iv=ak j/\(cutV c k cE d).J F (k.cK s j) wr/\ce F w F wr) (fun iv _=>12-(intOf iv).toNat)
 case atStart=>exact⟨0,aX _,rfl,h,ce.refl _ _⟩
 case round=>
  obtain⟨j,aF,rfl,b,i⟩:=hrel;by_cases q:j<12
  ·obtain⟨ad,_,_,_,_,_,_,_,ag,_⟩:=eg b;obtain⟨aR,aT,t⟩:=yj b;obtain⟨u,ai⟩:=t j q;obtain⟨n1,aV⟩:=Gr b;have l:ay (k.cK s (j+1)={(k.br (k.cK s j) ((k.cK s j).rs.getD j 0)).2 with rs:=(k.br (k.cK s j) ((k.cK s j).rs.getD j 0)).2.rs.set j (k.br (k.cK s j) ((k.cK s j).rs.getD j 0)).1}):=rfl;have al:ay (CI k (k.cK s j)):=(ab.o.cK j).1;have m:ay ((cutV c k cE d).J F (k.cK s j) wr.drew/\ce F w F wr.drew):=⟨(cutV c k cE d).below b (aE _ wr).drew,i.below (aE _ wr).drew⟩
   obtain⟨f,n⟩:∃f,f=k.cK s (j+1):=⟨_,rfl⟩
   rw[<-n] at l;have ap:ay (f=k.cK s (j+1)):=n;clear n;generalize (k.cK s j).rs.getD j 0=x at u l;generalize k.cK s j=s1 at*;have j0:(0:Int)<=(j:Int):=aa;have a0:(j:Int)<12:=aa;clear t b i;go_wp2_with fail
   go_region_held3 (fun w'=>w'.cell? (ao c.pk 0)=some (am c.pw)/\w'.cell? (ao c.pw 3)=some (.slice (an c.nb) 12 12)) (go_keep)
    (first
      |(go_at_call 182;refine(qu m.o.1 al.o x).mono ?_;rintro e w3 ⟨rfl,g,v⟩;obtain⟨g0,_,_,_,_,_,_,_,ar,_⟩:=eg g;obtain⟨_,a1,B⟩:=yj g;obtain⟨y1,ax⟩:=B j q;have o:ay ((cutV c k cE d).J F (k.br s1 x).2 w3/\ce F w F w3):=⟨g,m.o.2.trans v⟩;clear g v B m))
   obtain⟨N,S⟩:=EY o.o.1 j (k.br s1 x).1;have W:ay ((cutV c k cE d).J F f (w3.setCell ⟨c.nb,j,none⟩ (.int .i64 (k.br s1 x).1))/\ce F w F (w3.setCell ⟨c.nb,j,none⟩ (.int .i64 (k.br s1 x).1))):=⟨by rw[l.o];exact N,o.o.2.trans S⟩
   clear N S o g0 ar y1 ax ad ag u ai;go_wp2_with fail;go_roundw
   case rel=>exact⟨j+1,aa,aj,by rw[<-ap.o];exact W.o.1,W.o.2⟩
   case measure=>simp[intOf];omega
  ·obtain rfl:j=12:=aa;go_wp2_with fail;go_end0;exact⟨rfl,⟨_,_,b⟩,i⟩
end
section
variable {a:Wc}{F:Nat->Prop}{S:co}{w:aw}
theorem Gt (h:(fB a).J F S w)(d:S.full a=true):
 Calls prog 50 #[am a.pw] w fun e w'=>e=.returned (ak 3)/\Below w.heap.size w w':=by
 obtain⟨j,ar,k,f,_⟩:=h;obtain⟨l,hw,_⟩:=iV f;obtain⟨b,_⟩:=jX hw;have b:=b;obtain⟨c0,_,_,_,g,_⟩:=jh hw;have n1:=b.hg;have m:a.O-S.s.g<S.s.y:=by simpa[co.full] using d
 go_enter func50,ntmps50;go_wp2_with fail;refine(kj w b).mono ?_;rintro e w1 ⟨rfl,c⟩
 have c1:=(c.cell (p:=ao a.pw 0) g).trans c0;go_wp2_with fail;refine(om w1 (b.below c bY)).mono ?_;rintro e n ⟨rfl,i⟩
 have hb:=c.trans (i.mono c.size)
 go_wp2_with fail;go_ret;exact⟨rfl,hb⟩
theorem Gu (h:(fB a).J F S w)(hf:S.full a=false)(hq:S.q.length+S.r.length<=90000):
 Calls prog 50 #[am a.pw] w fun e w'=>∃i,e=.returned (ak 0)/\(fB a).J i (S.cut a) w'/\ce F w i w':=by
 have dy:∀(b0:Fn)(first b1:Array Value)(w:aw),(Instr.makeFunc b0 first b1).run prog w=.ok (.func b0 first b1) w:=fun _ _ _ _=>rfl;obtain⟨cu,ar,bb,g,b2,b3,b4⟩:=h;obtain⟨b6,hw,b7⟩:=iV g;obtain⟨f,_⟩:=jX hw;have f:At w a.p a.q a.N a.O S.s.y S.s.g S.s.ws:=f;obtain⟨c0,_,_,_,cv,_⟩:=jh hw;have n1:=f.hg;have cw:S.s.y<=a.O-S.s.g:=by exact qD
 have dz:¬(a.O:Int)-S.s.g<S.s.y:=aa;have n4:=f.hO;have dA:=f.hy;have dB:=f.hN';have b8:ay (_):=CI.start f.hN f.hN' f.hO f.hy f.hg f.hl cw;have b9:=kj w f;have ca:ay (_/\_):=⟨hw,f⟩
 have cx:ay (∀{bd:Type}(be:dS bd) B bg w',be.J B bg w'->ce b6 w B w'->_):=b7;have n:=gM b2 b3 b4;clear g hw f b7 b2 b3 b4 hf;go_enter func50,ntmps50;go_wp2_with fail;refine b9.mono ?_;clear b9;rintro e w1 ⟨rfl,N⟩
 have c1:=(N.cell (p:=ao a.pw 0) cv).trans c0;have cb:=om w1 (ca.o.2.below N bY)
 go_wp2_with fail;refine cb.mono ?_;clear cb;rintro e dC ⟨rfl,cc⟩
 have hb:=N.trans (cc.mono N.size)
 have cz:=Fz ((d5 a).below ca.o.1 hb)
 have cA:=hide hb;clear N cc c0 c1 hb;go_wp2_with fail;refine cz.mono ?_;rintro e w3 ⟨pk,cr,cQ,dD,rfl,W,bi⟩
 have bi:=(ce.of (F:=b6) cA.o).trans bi;obtain⟨c,hc⟩:∃c:gm,c=⟨pk,cr,a.pw,a.p,a.q,a.pc,cQ,a.sd,a.nb,dY a.O,S.s.M⟩:=⟨_,rfl⟩
 have cB:pk=c.pk:=by rw[hc]
 have m:ay (_/\a.sd=c.sd/\c.c=dY a.O/\c.M=S.s.M/\a.pw=c.pw):=⟨hc,by rw[hc],by rw[hc],by rw[hc],by rw[hc]⟩
 rw[<-hc] at W;clear hc;subst cB;have W:=W;have cC:=Gs W b8.o;clear W;go_wp2_with fail;refine cC.mono ?_;rintro e dE ⟨rfl,bl,cD⟩
 have bl:=bl;obtain⟨k1,dF,cF,cG,k5,k6⟩:=b8.o.cK 12;have cH:=Fu bl (s:=S.s.s1 a) k1 cF cG;have cI:=hide (bi.trans cD)
 go_wp2_with fail;refine cH.mono ?_;rintro e cJ ⟨cK,rfl,aB,cL,aF,b5,dG⟩
 rw[m.o.2.2.1,m.o.2.2.2.1] at aB aF b5;have aB:=aB;have aF:=aF;have b5:=b5;obtain⟨dH,cd,cM⟩:=cx.o (gO c (S.s.k0 a)) cK (S.s.s2 a) cJ ⟨aB,aF,b5⟩ (cI.o.trans cL)
 rw[m.o.2.1] at cd;have cN:=yA (c:=c) rfl cd (by show S.q.length<=90000;omega)
 have cO:=hide cM;go_wp2_with fail;refine cN.mono ?_;rintro e j ⟨dI,rfl,aR,bn⟩
 have aR:=aR;have bn:=cO.o.trans bn;obtain⟨dJ,⟨⟨dK,dL,cP⟩,_⟩,_⟩:=iV aR;obtain⟨o,_,_,_,_,_,_,cf,_⟩:=eg cP;have l0:=aM j _ o;have cR:=aM j _ cf;have k:ay (_/\_):=⟨(de (gO c (S.s.k0 a)) c.sd (.slice ar S.r.length bb)).below aR (aE _ j).drew,bn.below (aE _ j).drew⟩
 have cS:(S.t3 a).2.length+S.r.length<=90000:=by have:(S.t3 a).2.length=S.q.length:=o8 _ _ _;omega
 go_wp2_with fail
 go_region_held3 (fun w'=>w'.cell? (ao c.pk 0)=some (am c.pw)/\w'.cell? (ao c.pw 2)=some (am c.sd)) (go_keep)
  (first
    |(go_at_call 110;refine(yx (mN c) j.drew c.pk).mono ?_;rintro e cT ⟨rfl,cU,bo⟩;have dM:=(bo.cell (p:=ao c.pk 0) l0).trans o;have dN:=(bo.cell (p:=ao c.pw 2) cR).trans cf;have q:ay (_/\_):=⟨cU,bo⟩)
    |(go_at_call 78;refine(FQ (t:=S.t3 a) (r:=S.r) rfl ((de (gO c (S.s.k0 a)) c.sd (.slice ar S.r.length bb)).below k.o.1 q.o.2) (by exact cy n.o.1 (fun b e=>(q.o.2.block b (aO (cg n.o.1 b e).2 k.o.2.fr.size)).trans (k.o.2.fr.block b (cg n.o.1 b e).2 (n.o.2.1 b e)))) cS j.heap.size q.o.1 (fun d=>by have:=(de (gO c (S.s.k0 a)) c.sd (.slice ar S.r.length bb)).lt k.o.1 _ d;have cV:j.drew.heap.size=j.heap.size:=rfl;omega)).mono ?_;rintro e aT ⟨a1,c1,cW,rfl,ch,aV,ab,cX,cY⟩;obtain⟨ad,⟨⟨dO,dP,ag⟩,_⟩,_⟩:=iV ch;obtain⟨r0,_,_,_,_,_,_,dQ,_⟩:=eg ag;have ci:ay (_/\_/\_/\w.heap.size<=cT.heap.size/\ce cu w cW aT):=⟨ch,aV,ab,aS k.o.2.fr.size q.o.2.size,⟨(k.o.2.below q.o.2).fr.trans cX (fun b d=>d.elim (k.o.2.sub b) (fun d=>aK (by have:=k.o.2.fr.size;have cV:j.drew.heap.size=j.heap.size:=rfl;omega))),fun b d=>(cY b d).elim (k.o.2.sub b) (fun d=>aK (by have g:=k.o.2.fr.size;have a0:=q.o.2.size;omega))⟩⟩))
 obtain⟨ad,⟨ag,ai,a2⟩,cZ⟩:=iV ci.o.1;have ag:(ef c (S.s.k0 a)).J ad (S.s4 a) aT:=ag;have ai:CI (S.s.k0 a) (S.s4 a):=ai;have a2:ez (S.s.k0 a) (S.s4 a):=a2;obtain⟨bp,c2⟩:=ai.mw (l:=(S.s4 a).wk) (fun x c3=>(ai.ip x c3).1)
 have bp:CI (S.s.k0 a) (S.s5 a):=bp;have c4:=Gq ag ai (by have:=a2.wk;omega)
 have cj:ay (CI (S.s.k0 a) (S.s5 a)/\(S.s5 a).ep.length<=10000):=⟨bp,by have g:(S.s5 a).ep=(S.s4 a).ep:=c2.ep;rw[g];have:=a2.ep;omega⟩
 have c5:ay (∀{bd:Type}(be:dS bd) B bg w',be.J B bg w'->ce ad aT B w'->_):=cZ;go_wp2_with fail;refine c4.mono ?_;rintro e dR ⟨rfl,br,c6⟩
 have br:=br;have c7:=F6 br cj.o.1 cj.o.2;go_wp2_with fail;refine c7.mono ?_;rintro e u ⟨rfl,v,bs⟩
 have v:=v;obtain⟨cE,c8,ck⟩:=v;obtain⟨o,_,_,_,_,cl,_⟩:=eg ck;have v:(ef c (S.s.k0 a)).J ad (S.s6 a) u:=⟨cE,c8,ck⟩
 rw[m.o.1] at v;obtain⟨al,c9,da,db⟩:=FR (pk:=c.pk) (a:=a) v;obtain⟨dc,dd⟩:=jX c9;have bs:ce ad aT al u:=⟨(c6.trans bs).fr,fun b hb=>aL (da b hb)⟩
 have df:=vL u dc;have bt:ay (_/\_/\∀w',At w' a.p a.q a.N a.O 0 (S.s6 a).g (S.s6 a).ws->c_ a.p a.q u w'->(d5 a).J al ⟨0,(S.s6 a).g,(S.s6 a).ws,S.s.M,(S.s6 a).rs⟩ w'/\ce al u al w'):=⟨bs,db,fun w' g a0=>dd w' _ _ _ g a0⟩
 have dg:=aM u _ o;have dh:=m.o.2.2.2.2.symm;have ep:c.p=a.p:=by rw[m.o.1]
 rw[dh] at o cl;rw[ep] at cl;go_wp2_with fail;refine df.mono ?_;rintro e ap ⟨rfl,di,dj⟩
 obtain⟨cm,cn⟩:=bt.o.2.2 ap di dj;obtain⟨dk,dl,dm⟩:=yF cm;obtain⟨_,dT,_⟩:=jh cm;have dU:=(aW (a:=⟨c.pk,0,none⟩) (cn.fr.block c.pk dg bt.o.2.1)).trans o;have dn:=r_ ap dl.hp;have cp:ay (_/\∀w',Cd w' a.pc ap.heap.size a.N (dY a.O) []->c_ a.pc dk ap w'->∃i,(d5 a).J i ⟨0,(S.s6 a).g,(S.s6 a).ws,[],(S.s6 a).rs⟩ w'/\ce al ap i w'):=⟨bt.o.1.trans cn,fun w' g a0=>dm w' _ _ g a0 (aK bY)⟩
 go_wp2_with fail;refine dn.mono ?_;rintro e a3 ⟨rfl,dp,ax⟩
 have dq:ay (∃i,(fB a).J i (S.cut a) a3/\ce F w i a3):=by
  obtain⟨dr,ds,dt⟩:=cp.o.2 a3 dp ⟨ax.os,ax.tape,ax.output,ax.size,fun b hb g _=>ax.block b hb g g⟩
  obtain⟨cq,cs,bx⟩:=c5.o (d5 a) dr _ a3 ds (cp.o.1.trans dt)
  obtain⟨_,aV,ab,du,dv⟩:=ci.o;have dw:S.cut a=⟨⟨0,(S.s6 a).g,(S.s6 a).ws,[],(S.s6 a).rs⟩,(S.s.k0 a).sR (S.t3 a) S.r,(S.s.k0 a).i6 (S.t3 a) S.r⟩:=by unfold co.cut;rw[aH];unfold co.full;simp;omega
  rw[dw];rw[<-m.o.2.1] at cs;have ct:=dv.trans bx;refine⟨fun b=>cq b\/some b=(Value.slice a1 ((S.s.k0 a).sR (S.t3 a) S.r).length c1).ownBlock,⟨cq,a1,c1,cs,gN aV bx.fr (fun b e=>(ab b e).1),fun b e d=>(bx.sub b d).elim (ab b e).1 (fun d=>by have:=(cg aV b e).2;omega),fun b=>Iff.rfl⟩,⟨ct.fr.mono (fun b d=>(n.o.2.2 b).2 (aL d)),fun b d=>?_⟩⟩
  rcases d with d|d
  ·exact(ct.sub b d).imp (fun d=>(n.o.2.2 b).2 (aL d)) id
  ·exact aK (aS du (ab b d).2)
 go_wp2_with fail;go_ret;obtain⟨i,dx,j2⟩:=dq.o;exact⟨i,rfl,dx,j2⟩
theorem Gv (h:(fB a).J F S w)(hq:S.q.length+S.r.length<=90000):
 Calls prog 50 #[am a.pw] w fun e w'=>∃c,e=.returned (ak (S.code a))/\(fB a).J c (S.cut a) w'/\ce F w c w':=by
 cases hf:S.full a
 ·have b:S.code a=0:=by unfold co.code;rw[hf];rfl
  rw[b];exact Gu h hf hq
 ·have b:S.code a=3:=by unfold co.code;rw[aJ hf]
  have d:S.cut a=S:=by unfold co.cut;rw[aJ hf]
  rw[b,d];refine(Gt h hf).mono ?_;rintro e w' ⟨rfl,hb⟩
  exact⟨F,rfl,(fB a).below h hb,ce.of hb⟩
end
def b_.iW (s:cu)(t:b_×Int)(a:Int):b_×Int:=(t.1.k8 (s.f a).toNat a.toNat (1+(pf (t.1.ld a)).toNat),t.2+(1+pf (t.1.ld a)))
def b_.k9 (k:b_)(s:cu)(l:List Int):b_×Int:=gQ (fun _ a=>s.f a) (b_.iW s) (k,0) l
def b_.pa (k:b_)(s:cu)(l:List Int):b_:=gQ (fun(_:b_) a=>s.f a) (fun k a=>k.cop a) k l
def b_.tT (k:b_):b_:={k with s:={k.s with M:=[]}}
def b_.sl1 (k:b_)(s:cu):b_:=(k.k9 s k.G).1.ar (k.k9 s k.G).1.s.y (k.k9 s k.G).2.toNat (k.k9 s k.G).1.s.ws
def b_.sl2 (k:b_)(s:cu):b_:=(k.sl1 s).pa s k.Y
def b_.sl (k:b_)(s:cu):b_:=((k.sl2 s).ar 0 (k.sl2 s).s.g (k.sl2 s).s.ws).tT
theorem Gw:d7 161:=gW func161 ah rfl
theorem Gx:d7 164:=gW func164 ah rfl
section
variable {c:e7}{k0 k:b_}{vt ct vr:Value}{F:Nat->Prop}{s:cu}{w:aw}{bp fY:Nat}
theorem Gy (h:(dj c k0 s vt ct).J F k w)(n:Int)(h0:0<=n)(d:n<=k0.a.O):Calls prog 163 #[am k0.a.p,ak n] w fun e w'=>∃b,e=.returned (.tuple #[])/\(dj c k0 s vt ct).J b (k.ar k.s.y n.toNat k.s.ws) w'/\ce F w b w':=by obtain⟨h,ea,tM,tN⟩:=h;obtain⟨f,hU⟩:=nO h;rw[<-ea];refine(BF n w f h0 ((ea▸d))).mono ?_;exact tL
theorem Gz (h:(dj c k0 s vt ct).J F k w):Calls prog 114 #[am k0.a.p] w fun e w'=>∃b,e=.returned (.tuple #[])/\(dj c k0 s vt ct).J b (k.ar 0 k.s.g k.s.ws) w'/\ce F w b w':=by obtain⟨h,ea,tM,tN⟩:=h;obtain⟨d,hU⟩:=nO h;rw[<-ea];refine(vL w d).mono ?_;exact tL
theorem GA (h:(dj c k0 s vt ct).J F k w):w.cell? (ao k0.a.pw 1)=some (am k0.a.pc)/\Calls prog 115 #[am k0.a.pc] w fun e w'=>∃f,e=.returned (.tuple #[])/\(dj c k0 s vt ct).J f k.tT w'/\ce F w f w':=by
 obtain⟨h,ea,j,l⟩:=h;obtain⟨u,g1,g2⟩:=o_ h;obtain⟨_,c1,_⟩:=jh g1;obtain⟨cQ,hc,m⟩:=yF g1;have P:=r_ w hc.hp;rw[ea] at c1 P;refine⟨c1,P.mono ?_⟩
 rintro e n ⟨rfl,g,d⟩
 rw[<-ea] at g d;obtain⟨v,o,p⟩:=m n _ _ g ⟨d.os,d.tape,d.output,d.size,fun b hb i _=>d.block b hb i i⟩ (aK bY)
 obtain⟨q,j2,t⟩:=g2 _ _ _ o p;exact⟨q,rfl,⟨j2,ea,j,l⟩,t⟩
theorem nQ (h:(dj c k0 s vt ct).J F k w):w.cell? (ao c.pk 1)=some c.yv/\w.cell? (ao c.pk 2)=some c.ov/\w.ownsRow 0 3 1 c.yv k0.Y.length (k0.Y.map (Value.int .i64))/\w.ownsRow 0 3 1 c.ov k0.G.length (k0.G.map (Value.int .i64)):=by obtain⟨h,ea,b,d⟩:=h;obtain⟨_,e,f,_⟩:=eE h;obtain⟨y,g⟩:=yV h;rw[b] at y;rw[d] at g;exact⟨e,f,y,g⟩
def ir (k0:b_)(s:cu)(G:Nat->b_×Int->Prop):Prop:=
 (∀j t,j<k0.G.length->G j t->s.f (k0.G.getD j 0)≠-1->0<=s.f (k0.G.getD j 0)/\s.f (k0.G.getD j 0)+(1+pf (t.1.ld (k0.G.getD j 0)))<=k0.a.N+k0.a.O/\k0.G.getD j 0+(1+pf (t.1.ld (k0.G.getD j 0)))<=k0.a.N+k0.a.O/\0<=t.2/\t.2<=100000)/\
 (∀j t,j<k0.G.length->G j t->G (j+1) (e9 (fun _ a=>s.f a) (b_.iW s) t (k0.G.getD j 0)))/\(∀t,G k0.G.length t->0<=t.2/\t.2<=k0.a.O)
theorem GB {G:Nat->b_×Int->Prop}(l:ir k0 s G){t:b_×Int}(h0:G 0 t)(h:(g8 (di (dj c k0 s vt ct) bp (dt c)) fY).J F t w)(hl:k0.G.length<=4000)(hp:∀a∈k0.G,0<=a/\a<=2000){d:Option Addr}{f:Nat}(q:c.ov=.slice d k0.G.length f):
 Calls prog 157 #[am c.pk,.slice d k0.G.length f,.func (.func 161) #[] #[am bp,am fY]] w fun e w'=>∃g,e=.returned (.tuple #[])/\(g8 (di (dj c k0 s vt ct) bp (dt c)) fY).J g (gQ (fun _ a=>s.f a) (b_.iW s) t k0.G) w'/\ce F w g w'/\G k0.G.length (gQ (fun _ a=>s.f a) (b_.iW s) t k0.G):=by
 have m:∀a∈k0.G,a∈k0.T:=fun a ha=>List.mem_append.2 (aL ha)
 refine tK _ (fun _ a=>s.f a) (fun t a=>pf _) _ G k0.T c.pk k0.a.pw k0.a.p c.cr 161 #[.pointer _,.pointer _] Gw k0.G d f F t w
  (by
    rintro F t n a u;obtain⟨_,i,_⟩:=k7 u;obtain⟨_,b,_⟩:=gA i;obtain⟨c0,c3,c5,hM,v⟩:=hY b;refine⟨c0,c3,c5,hM,(f6 a n v).mono ?_⟩
    rintro r w' ⟨rfl,hb⟩
    have x:pf (t.1.ld a)=pf (ld k0.a.N t.1.s.y t.1.s.g t.1.s.ws a):=by unfold b_.ld;rw[b.2.1]
    exact⟨pk _,pc _,by rw[x],hb⟩)
  (fun t a=>dp _) (fun a ha=>⟨by have:=hp a ha;omega,m a ha⟩) aa
  (by
    rintro j F t n B hg k N;have hm:k0.G.getD j 0∈k0.G:=by simp_all
    have b:=hp _ hm;have ad:=dp (t.1.ld (k0.G.getD j 0))
    obtain⟨a1,a2,S,W,ab⟩:=l.1 j t B hg N;have o:((1+(pf (t.1.ld (k0.G.getD j 0))).toNat:Nat):Int)=1+pf (t.1.ld (k0.G.getD j 0)):=aa;have P:=Gn k _ _ (m _ hm) b a1 aa ((o▸S)) ⟨W,ab⟩ aa;rw[o] at P;exact P)
  l.2.1 h0 h (fun g ag w' k _=>?_)
 obtain⟨_,i,_⟩:=k7 k;obtain⟨_,b,_⟩:=gA i;have p:=(nQ b).2.2.2;rw[q] at p;exact gV p
theorem GC (h:(di (dj c k0 s vt ct) bp (dt c)).J F k w)(hl:k0.Y.length<=4000)(hp:∀a∈k0.Y,0<=a/\a<=2000){f:Option Addr}{g:Nat}(n:c.yv=.slice f k0.Y.length g):
 Calls prog 157 #[am c.pk,.slice f k0.Y.length g,.func (.func 164) #[] #[am bp]] w fun e w'=>∃d,e=.returned (.tuple #[])/\(di (dj c k0 s vt ct) bp (dt c)).J d (k.pa s k0.Y) w'/\ce F w d w':=by
 have o:∀a∈k0.Y,a∈k0.T:=fun a ha=>List.mem_append.2 (aK ha)
 have E:=tK _ (fun(_:b_) a=>s.f a) (fun t a=>pf (t.ld a)) (fun k a=>k.cop a) (fun _ _=>True) k0.T c.pk k0.a.pw k0.a.p c.cr 164 #[.pointer _] Gx k0.Y f g F k w
  (by
    rintro F t l a p;obtain⟨_,b,_⟩:=gA p;obtain⟨c0,c3,c5,hM,q⟩:=hY b;refine⟨c0,c3,c5,hM,(f6 a l q).mono ?_⟩
    rintro r w' ⟨rfl,hb⟩
    have u:pf (t.ld a)=pf (ld k0.a.N t.s.y t.s.g t.s.ws a):=by unfold b_.ld;rw[b.2.1]
    exact⟨pk _,pc _,by rw[u],hb⟩)
  (fun t a=>dp _) (fun a ha=>⟨by have:=hp a ha;omega,o a ha⟩) aa
  (fun j F t l _ _ i _=>Gp i _ _)
  (fun _ _ _ _=>trivial) trivial h (fun d x w' i _=>by obtain⟨_,b,_⟩:=gA i;have m:=(nQ b).2.2.1;rw[n] at m;exact gV m)
 refine E.mono ?_;rintro r w' ⟨d,rfl,b,v,_⟩
 exact⟨d,rfl,b,v⟩
end
end Go.Proofs.YtpkjkjhanlbcoaaGreat
