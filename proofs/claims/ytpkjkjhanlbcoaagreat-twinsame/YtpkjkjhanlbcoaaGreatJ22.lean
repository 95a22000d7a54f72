import Derived.Test.YtpkjkjhanlbcoaaGreatJ21
namespace Go.Proofs.YtpkjkjhanlbcoaaGreat
set_option maxRecDepth 100000
set_option maxHeartbeats 8000000
open Tryz
open Go.RowKit W Kp cf
theorem uP {P:Prop}(h:P:=by go_wp2_with fail;refine fin _ ?_;intro w1 hb;obtain⟨c0,c1,hz⟩:=vV hb;obtain⟨_,hf⟩:=nJ hb;have f0:=hf w.heap.size 0 Z;have f1:=hf w.heap.size 1 Z;simp[go_sem] at f0 f1;go_wp2;exact a3 (v:=.agg #[ah 1,ah (-1)]) (by simp[results,results14,go_sem,c0,c1]) rfl ⟨rfl,(((bX.alloc bW _).trans (hb.mono Z)).setCell bW _).setCell bW _⟩):P:=h
def gG (T:List cD)(wt:List b7)(a:Int):List (Int×Int):=if(T.getD a.toNat t0).1=5 then(ef wt a).map (fun x=>((3:Int),x)) else(T.getD a.toNat t0).2.1
theorem JQ {T:List cD}{wt:List b7}{a:Int}(b:(T.getD a.toNat t0).1=5->(T.getD a.toNat t0).2.1=[]):(gG T wt a).map gq=gQ T wt a:=by
 unfold gG gQ;by_cases c:(T.getD a.toNat t0).1=5
 ·rw[aI c,aI c,b c];simp[ef,gq]
 ·rw[aG c,aG c,List.append_nil]
section
variable {bY:Nat}{b_ bZ:Int}{l:gF}{s:ck}{w:ax}
theorem JR (h:dS bY b_ bZ l s w)(G:Nat)(hk:w.cell? (aq G 0)=some (aj bY))(a:Int)(ha:0<=a/\cv s.T a.toNat)(a1:s.T.length<=10000)(hw:s.wt.length<=10000):
 Calls prog 254 #[aj G,ah a] w fun e w'=>∃ad cap,e=.returned (.slice ad (gG s.T s.wt a).length cap)/\fj w' ad (gG s.T s.wt a)/\Below w.heap.size w w':=by
 obtain⟨P,hi,Q,R,S⟩:=info_parts rF;have al:a<10000:=by have:=ha.2.1;omega
 have L:=h.g2.mp.look (t:=184) (e:=220) underlying184 (mf w) (x:=a) ha.1 V;rw[i_ ha] at L;dsimp only [Option.getD_some,fW,eD] at L;obtain⟨_,_,c2,_,_,c5,_,_,a2⟩:=h.cells;have lk:=aQ w _ hk;have H:=fj.of (h.g2.fl a.toNat ha.2)
 have b1:=au w (.cells #[.int .i64 (s.T.getD a.toNat t0).1,.slice (l.fm a.toNat).1 (s.T.getD a.toNat t0).2.1.length (l.fm a.toNat).2] 220)
 have I:=H.mA (fB.of (B:=0) b1)
 have g1:=h.below b1;have v:=sL _ l.bp _ l.a1 l.k1 s.wt a g1.g3.sd.blk (g7 g1.g3.sd.q0) V;have U:=aT (oU s.wt a) hw;by_cases g:(s.T.getD a.toNat t0).1=5
 ·have u:gG s.T s.wt a=(ef s.wt a).map (fun x=>((3:Int),x)):=by unfold gG;rw[aI g]
  rw[u];rw[g] at L b1 v;have i:=hide b1;generalize (l.fm a.toNat).1=ad at*;generalize (l.fm a.toNat).2=cp at*;generalize (s.T.getD a.toNat t0).2.1.length=n at*;generalize ef s.wt a=A at*;rw[aW];go_enter func254,ntmps254;go_wp2_with fail;refine v.mono ?_;rintro e w1 ⟨bb,gb,rfl,W,X⟩
  have J:=hide (i.o.trans (X.mono i.o.size))
  have Y:=hide (gH W)
  have s1:=J.o.size;go_wp2_with fail
  go_loopw [6,33] (fun tv iv wr=>∃(j:Nat)(c:Option Addr)(d:Nat),j<=A.length/\iv=ah j/\tv=.slice c j d/\wr.ownsRow w1.heap.size 97 2 (.slice c j d) j (ev ((A.take j).map (fun x=>((3:Int),x))))/\Below w1.heap.size w1 wr) (fun _ iv _=>A.length-(intOf iv).toNat)
  exact⟨0,none,0,aY _,rfl,rfl,bc _ _ _ _,aH _ _⟩
  ·
    obtain⟨j,c,d,b,rfl,rfl,m,hb⟩:=hrel;by_cases K:j<A.length
    ·obtain⟨ab,o,ag,lb,ai⟩:=Y.o V;have hc:=(hb.cell (p:=aq ab (o+j)) lb).trans (ai j K)
     have M:ay (ev ((A.take (j+1)).map (fun x=>((3:Int),x)))=ev ((A.take j).map (fun x=>((3:Int),x)))++[ah 3,ah (A.getD j 0)]):=by show _=_;rw[gx A j K 0,List.map_append,iT];rfl
     subst ag;have am:=hb.size;generalize A.getD j 0=y at*;generalize ev ((A.take j).map (fun x=>((3:Int),x)))=L at*;go_wp2_with fail;refine(ow y wr).mono ?_;rintro e an ⟨rfl,C⟩
     have D:=cH m (fun k e=>C.block k (cn m k e).2)
     have E:=hb.trans (C.mono am)
     have ao:=E.size;clear m hb C hc;go_wp2_with (at_builtin;refine wpList_append_own_at _ rfl _ _ 57 rfl w1.heap.size 97 P (.agg #[ah 0,ah 0]) 2 16 underlying57 hi Q R S rfl aa (.slice c j d) j L rfl (ga D _) ⟨an.heap.size,0,none⟩ 1 1 [ah 3,ah y] rfl rfl ?_ ?_ ?_ ?_ ?_ ?_;(intro j ap b;match j,b with|0,b=>(simp at b;subst b;simp[Addr.add])|1,b=>(simp at b;subst b;simp[Addr.add]));(intro ap q;simp at q;rcases q with q|q<;>(subst q;rfl));(unfold maxLen;omega);omega;(simp;omega);intro bd ar F N _ aB;obtain⟨b4,O,aF⟩:=eT F (Nat.succ_pos _);subst aF)
     have aR:ar.ownsRow w1.heap.size 97 2 (.slice (ak b4) (j+1) O) (j+1) (ev ((A.take (j+1)).map (fun x=>((3:Int),x)))):=by rw[M.o];exact F
     have aV:=(E.alloc ao _).grown N (by simp;omega) (fun k e=>(cn D k e.symm).1)
     clear F N aB D E M;go_wp2_with fail;go_roundw;exact⟨j+1,ak b4,O,V,af,rfl,aR,aV⟩
     simp[intOf];omega
    ·obtain rfl:j=A.length:=V;rw[bu] at m;go_wp2_with fail;go_ret;refine⟨c,d,rfl,?_,J.o.trans (hb.mono s1)⟩
     have a0:wr.ownsRow w1.heap.size 97 2 (.slice c (A.map (fun x=>((3:Int),x))).length d) (A.map (fun x=>((3:Int),x))).length (ev (A.map (fun x=>((3:Int),x)))):=by rw[aW];exact m
     exact fj.of a0
 ·have u:gG s.T s.wt a=(s.T.getD a.toNat t0).2.1:=by unfold gG;rw[aG g]
  rw[u];have k5:((s.T.getD a.toNat t0).1!=5)=true:=by simpa using g
  have i:=dq I b1;clear u g H I g1 b1 h ha v U;generalize (s.T.getD a.toNat t0).2.1=f at*;generalize (l.fm a.toNat).1=ad at*;generalize (l.fm a.toNat).2=cp at*;generalize (s.T.getD a.toNat t0).1=kd at*;go_enter func254,ntmps254;go_wp2_with fail;go_ret;exact⟨ad,⟨cp,rfl⟩,i.o.1,i.o.2⟩
end
def pM (w0:ax)(b ch bY:Nat)(T:List cD)(M:cQ->Int->cQ)(n:Nat):Prop:=
 ∀(w:ax)(s:cQ)(d:Value)(m:List dT)(a:Int),fg w0 w b ch bY s d m->e9 (tI T.length) s->0<=a/\cv T a.toNat->a∉s.1->T.length<=s.1.length+n->
  Calls prog 251 #[aj b,ah a] w fun e w'=>∃f c,e=.returned (ah s.1.length)/\fg w0 w' b ch bY (M s a) f c/\fI w0 w m w' c
def mB (s:cQ)(a:Int):Int:=if s.1.contains a=true then(s.1.idxOf a:Int) else s.1.length
def mC (M:cQ->Int->cQ)(s:cQ)(a:Int):cQ:=if s.1.contains a=true then s else M s a
theorem JS {T:List cD}{M:cQ->Int->cQ}{s:cQ}{v:Int×Int}(h:eZ T v)(b:v.1=3):eg M (tI T.length) s (gq v)=((3,mB s v.2),mC M s v.2):=by
 unfold mB mC;cases hs:s.1.contains v.2
 ·rw[HQ h b hs,aG Z,aG Z]
 ·rw[HO h b hs,aI rfl,aI rfl]
theorem JT (w:ax):(zeroValue 2).run prog w=.ok (ah 0) w:=ae
section
variable {w0 w:ax}{kb ch bY n:Nat}{T:List cD}{kd:Int->Int}{sh:Int->List Int}{M:cQ->Int->cQ}{s:cQ}{vn:Value}{m:List dT}
theorem JU (hM:pM w0 kb ch bY T M n)(h:fg w0 w kb ch bY s vn m)(ho:e9 (tI T.length) s)(hn:T.length<=s.1.length+n)(a:Int)(ha:0<=a/\cv T a.toNat)(o:T.length<=10000):
 Calls prog 240 #[aj kb,ah a] w fun e w'=>∃d c,e=.returned (ah (mB s a))/\fg w0 w' kb ch bY (mC M s a) d c/\fI w0 w m w' c:=by
 have H:=hide h;have k:=hide hM;obtain⟨c0,c1,c2,lk⟩:=h.cells;have al:a<10000:=by have:=ha.2.1;omega
 have L:=h.mp.look_ok (t:=229) (e:=2) underlying229 (JT w) (x:=a) ha.1 V;by_cases b:a∈s.1
 ·rw[JP b] at L;have f:mB s a=(s.1.idxOf a:Int):=by unfold mB;rw[aI (by simpa using b)]
  have g:mC M s a=s:=by unfold mC;rw[aI (by simpa using b)]
  rw[f,g];generalize s.1.idxOf a=j at L⊢;go_enter func240,ntmps240;go_wp2;go_ret;exact⟨vn,m,rfl,H.o,fI.refl _ _ _⟩
 ·rw[AM b] at L;have f:mB s a=s.1.length:=by unfold mB;rw[aG (by simpa using b)]
  have g:mC M s a=M s a:=by unfold mC;rw[aG (by simpa using b)]
  rw[f,g];have P:=k.o w s vn m a H.o ho ha b hn;generalize M s a=p at P⊢;generalize s.1.length=j at P⊢;go_enter func240,ntmps240;go_wp2_with fail;refine P.mono ?_;rintro e w1 ⟨d,c,rfl,l,k1⟩
  have i:=dq l k1;go_wp2;go_ret;exact⟨d,c,rfl,i.o.1,i.o.2⟩
theorem AN (hM:pM w0 kb ch bY T M n)(bg:kX (tI T.length) kd sh n M)(h:fg w0 w kb ch bY s vn m)(ho:e9 (tI T.length) s)(hn:T.length<=s.1.length+n)(bi:T.length<=10000)(l:List (Int×Int))(hq:∀v∈l,eZ T v)(ad:Option Addr)(cap:Nat)(hl:fj w ad l)(hm:l.length<=100000):
 Calls prog 211 #[aj kb,.slice ad l.length cap] w fun e w'=>∃b0 W a2 c2,e=.returned (.slice a2 l.length c2)/\w'.ownsRow w.heap.size 97 2 (.slice a2 l.length c2) l.length (ev (dz M (tI T.length) s (l.map gq)).1)/\fg w0 w' kb ch bY (dz M (tI T.length) s (l.map gq)).2 b0 W/\fI w0 w m w' W/\(∀k,fp W k->some k≠(Value.slice a2 l.length c2).ownBlock):=by
 obtain⟨X,hi,Y,ab,ag⟩:=info_parts rF;have b1:=hide hM;have b2:=hide bg;have b3:=hide hl;have N:=hide h;have b5:=dq ho hn;have b6:=hide hq;have b7:=hide bi;clear hM bg hl h ho hq hn bi;go_enter func211,ntmps211;go_wp2_with (at_make;refine wpList_make_own _ rfl _ _ 57 rfl w.heap.size 97 X (.agg #[ah 0,ah 0]) 2 underlying57 hi Y ab .i64 .i64 _ l.length rfl rfl rfl (by rw[ag];omega) (by unfold maxLen;omega) bW ?_;intro w1 bl bn)
 have ai:=(av w).grown bn bW (fun k e=>by cases e)
 go_loopw [5,13] (fun tv iv wr=>∃(j:Nat)(i:List (Int×Int))(s1:cQ)(O:Value)(m1:List dT)(a2:Option Addr)(c2:Nat),j<=l.length/\iv=ah j/\ay (dz M (tI T.length) s ((l.take j).map gq)=(i,s1))/\tv=.slice a2 j c2/\wr.ownsRow w.heap.size 97 2 (.slice a2 j c2) j (ev i)/\ay (fg w0 wr kb ch bY s1 O m1)/\ay (fI w0 w m wr m1)/\ay (∀k,fp m1 k->some k≠(Value.slice a2 j c2).ownBlock)/\ay (e9 (tI T.length) s1/\T.length<=s1.1.length+n)) (fun _ iv _=>l.length-(intOf iv).toNat)
 ·exact⟨0,[],s,vn,m,_,_,aY _,rfl,rfl,rfl,bl,N.o.below ai,fI.of ai,fun k hk e=>by have:=N.o.fb k hk;simp[Value.ownBlock] at e;omega,b5.o⟩
 ·
   obtain⟨j,i,s1,O,m1,a2,c2,b,rfl,al,rfl,q,u,A,Q,B⟩:=hrel;clear bl bn ai;by_cases am:j<l.length
   ·obtain⟨cm,co,b8,cp,hc⟩:=(b3.o.mA A.o.1).1 V;obtain⟨b9,ca⟩:=hc j am;subst b8;clear hc;have R:=b6.o _ (getD_in (x:=(0,0)) am)
    have o:=rZ M (tI T.length) s ((l.take j).map gq) (gq (l.getD j (0,0)))
    rw[al.o] at o;have bo:(l.take (j+1)).map gq=(l.take j).map gq++[gq (l.getD j (0,0))]:=by rw[gx l j am (0,0),List.map_append];rfl
    rw[<-bo] at o;have G:=oG b2.o B.o.1 (by rw[nm];exact B.o.2) (gq (l.getD j (0,0)))
    have C:ay (_/\T.length<=(eg M (tI T.length) s1 (gq (l.getD j (0,0)))).2.1.length+n):=⟨G.ok,by have:=G.le;have:=B.o.2;omega⟩
    have o:=hide o;clear G bo;generalize l.getD j (0,0)=v at*;obtain⟨v0,v1⟩:=v;dsimp only at b9 ca;have cq:IntKind.i64.wrap ((j:Int)+1)=(j:Int)+1:=by rw[bk];omega
    have d:=au wr (.cells #[.int .i64 v0,.int .i64 v1] 97)
    have an:=aN wr (.cells #[.int .i64 v0,.int .i64 v1] 97)
    have cr:=A.o.1.size;by_cases bp:v0=3
    ·subst bp;have S:=JS (M:=M) (s:=s1) R rfl;rw[S] at o C;dsimp only at o C;have P:=JU b1.o (u.o.below d) B.o.1 B.o.2 v1 (R.2 rfl) b7.o;clear S R;generalize mB s1 v1=z at*;generalize mC M s1 v1=s2 at*;go_wp2_with fail;refine P.mono ?_;rintro e f ⟨cb,D,rfl,cc,E⟩
     have br:=(E.1.h8 _ _ _ _ an aa aa).trans an;obtain⟨cd,y1,ce,cf⟩:=di br;have bs:=cH q (fun k hk=>by obtain⟨U,F⟩:=e5 q k hk;have bt:=d.block k (cn q k hk).2;exact(E.1.h8 k _ _ _ (bt.trans F) aa aa).trans bt)
     have bx:ay (∀k,fp D k->_):=fun k hk e=>(E.2 k hk).elim (fun c=>Q.o k c e) (fun c=>by have:=(cn q k e).2;simp at c;omega)
     have bZ:fI w0 wr m1 f D:=(fI.of d).trans E;have cg:¬fp D wr.heap.size:=fun c=>(E.2 _ c).elim (fun c=>by have:=u.o.fb _ c;omega) (fun c=>by simp at c;omega)
     have ao:Fr (fun k=>k=wr.heap.size) f (f.setCell ⟨wr.heap.size,1,none⟩ (.int .i64 z)):=(Fr.refl (fun k=>k=wr.heap.size) f).set wr.heap.size 1 _ rfl;have H:=hide (cc.but ao (fun k _ e=>by have e:=e;rw[e];exact⟨⟨_,br⟩,cg,by have:=u.o.eH.size;omega⟩))
     have ap:=hide (A.o.trans (bZ.new ao (fun k e=>by have e:k=wr.heap.size:=e;omega)))
     have I:(f.setCell ⟨wr.heap.size,1,none⟩ (.int .i64 z)).ownsRow w.heap.size 97 2 (.slice a2 j c2) j (ev i):=cH bs (fun k hk=>ao.block k (cn bs k hk).2 (fun c=>by have c:k=wr.heap.size:=c;have:=(cn q k hk).2;omega))
     have q0:(f.setCell ⟨wr.heap.size,1,none⟩ (.int .i64 z)).cell? (aq wr.heap.size 0)=some (ah 3):=(a5 f ⟨wr.heap.size,1,none⟩ ⟨wr.heap.size,0,none⟩ _ Z).trans cd;have q1:(f.setCell ⟨wr.heap.size,1,none⟩ (.int .i64 z)).cell? (aq wr.heap.size 1)=some (ah z):=bf _ _ _ y1;have ci:(f.setCell ⟨wr.heap.size,1,none⟩ (.int .i64 z)).heap.size=f.heap.size:=by simp[World.setCell]
     have cj:=ce 1;have ck:=bZ.1.size
     go_upto_region 7 with fail
     generalize f.setCell ⟨wr.heap.size,1,none⟩ (.int .i64 z)=t at*;have p:=hide I;have cs:w.heap.size<=t.heap.size:=V;clear y1 cj cf ci ck;go_wp2_with (at_builtin;refine wpList_append_own_at _ rfl _ _ 57 rfl w.heap.size 97 X (.agg #[.int .i64 0,.int .i64 0]) 2 16 underlying57 hi Y ab ag rfl aa (.slice a2 j c2) j (ev i) rfl (ga I _) ⟨t.heap.size,0,none⟩ 1 1 [.int .i64 3,.int .i64 z] rfl rfl ?_ ?_ ?_ ?_ ?_ ?_;(intro j ar b;match j,b with|0,b=>(simp at b;subst b;simp[Addr.add])|1,b=>(simp at b;subst b;simp[Addr.add]));(intro ar g;simp at g;rcases g with g|g<;>(subst g;rfl));(unfold maxLen;omega);omega;(simp;omega);intro cl aB J aF _ aR;obtain⟨b4,K,aV⟩:=eT J (Nat.succ_pos _);subst aV)
     have a0:aB.ownsRow w.heap.size 97 2 (.slice (ak b4) (j+1) K) (j+1) (ev (i++[(3,z)])):=by rw[iT];simpa[ev] using J
     have d:=au t (.cells #[.int .i64 3,.int .i64 z] 97)
     have L:=(Fr.refl _ _).grown aF (fun k e=>aK e.symm)
     have a1:=hide ((H.o.below d).but L (fun k _ e=>by obtain⟨U,F⟩:=e5 p.o k e;exact⟨⟨U,(d.block k (cn p.o k e).2).trans F⟩,fun c=>bx.o k c e,aT N.o.eH.size (cn p.o k e).1⟩))
     have bb:=hide ((ap.o.trans (fI.of d)).new L (fun k e=>(cn p.o k e).1))
     have bd:=aR.imp id (fun e=>by simpa[Value.ownBlock] using e)
     have be:ay (∀k,fp D k->some k≠some b4):=fun k hk e=>bd.elim (fun c=>bx.o k hk (e.trans c)) (fun c=>by have:=H.o.fb k hk;simp at e;omega)
     go_wp2_with fail;go_roundw;exact⟨j+1,i++[(3,z)],s2,cb,D,ak b4,K,V,af,o,rfl,a0,a1,bb,be,C⟩
     simp[intOf];omega
    ·have S:=HM (M:=M) (s:=s1) R bp;rw[S] at o C;have H:=hide (u.o.below d)
     have ap:=hide (A.o.trans (fI.of d))
     have I:=cH q (fun k hk=>d.block k (cn q k hk).2)
     obtain⟨q0,q1,_,_⟩:=di an
     go_upto_region 7 with fail
     generalize wr.alloc (.cells #[.int .i64 v0,.int .i64 v1] 97)=t at*;have p:=hide I;go_wp2_with (at_builtin;refine wpList_append_own_at _ rfl _ _ 57 rfl w.heap.size 97 X (.agg #[.int .i64 0,.int .i64 0]) 2 16 underlying57 hi Y ab ag rfl aa (.slice a2 j c2) j (ev i) rfl (ga I _) ⟨t.heap.size,0,none⟩ 1 1 [.int .i64 v0,.int .i64 v1] rfl rfl ?_ ?_ ?_ ?_ ?_ ?_;(intro j ar b;match j,b with|0,b=>(simp at b;subst b;simp[Addr.add])|1,b=>(simp at b;subst b;simp[Addr.add]));(intro ar g;simp at g;rcases g with g|g<;>(subst g;rfl));(unfold maxLen;omega);omega;(simp;omega);intro cl aB J aF _ aR;obtain⟨b4,K,aV⟩:=eT J (Nat.succ_pos _);subst aV)
     have a0:aB.ownsRow w.heap.size 97 2 (.slice (ak b4) (j+1) K) (j+1) (ev (i++[(v0,v1)])):=by rw[iT];simpa[ev] using J
     have d:=au t (.cells #[.int .i64 v0,.int .i64 v1] 97)
     have L:=(Fr.refl _ _).grown aF (fun k e=>aK e.symm)
     have a1:=hide ((H.o.below d).but L (fun k _ e=>by obtain⟨U,F⟩:=e5 p.o k e;exact⟨⟨U,(d.block k (cn p.o k e).2).trans F⟩,fun c=>Q.o k c e,aT N.o.eH.size (cn p.o k e).1⟩))
     have bb:=hide ((ap.o.trans (fI.of d)).new L (fun k e=>(cn p.o k e).1))
     have bd:=aR.imp id (fun e=>by simpa[Value.ownBlock] using e)
     have be:ay (∀k,fp m1 k->some k≠some b4):=fun k hk e=>bd.elim (fun c=>Q.o k hk (e.trans c)) (fun c=>by have:=H.o.fb k hk;simp at e;omega)
     go_wp2_with fail;go_roundw;exact⟨j+1,i++[(v0,v1)],s1,O,m1,ak b4,K,V,af,o,rfl,a0,a1,bb,be,C⟩
     simp[intOf];omega
   ·obtain rfl:j=l.length:=V;rw[bu] at al;go_wp2_with fail;go_ret;rw[al.o];exact⟨O,m1,a2,c2,rfl,q,u.o,A.o,Q.o⟩
end
theorem JV:(prog.info? 107).map (fun i=>(i.zero,i.size,i.bytes))=some (some (.agg #[ah 0,.slice none 0 0]),2,32):=ae
section
variable {w0 w w' w'':ax}{kb ch bY n:Nat}{s:cQ}{vn:Value}{m:List dT}
theorem fg.turned (h:fg w0 w kb ch bY s vn m)(f:Fr (fun k=>k=ch) w w'):fB w0.heap.size w w'/\w'.heap[kb]?=some (.cells #[aj bY,.map (some ch),vn] 231 (0,0))/\w'.ownsRow w0.heap.size 107 2 vn m.length (nv m)/\(∀x∈m,fj w' x.2.1 x.2.2.2)/\Below w0.heap.size w0 w':=by
 obtain⟨g,i,hb⟩:=h.mp.blk;have hk:fB w0.heap.size w w':=⟨f.os,f.tape,f.output,f.size,fun k hk hl=>f.block k hk (fun e=>by have e:k=ch:=e;have:=h.lo.2;omega),fun k j e mm hk _ _=>f.block k (lt_of_some hk) (fun c=>by have c:k=ch:=c;rw[c,hb] at hk;simp at hk)⟩
 refine⟨hk,(f.block kb (lt_of_some h.blk) (fun c=>?_)).trans h.blk,cH h.row (fun k e=>f.block k (cn h.row k e).2 (fun c=>?_)),fun x d=>(h.fl x d).mA hk,h.eH.trans (hk.below h.eH.size)⟩
 ·have c:kb=ch:=c;have:=h.blk;rw[c,hb] at this
  simp at this
 ·have c:k=ch:=c;obtain⟨l,b⟩:=e5 h.row k e;rw[c,hb] at b;simp at b
end
theorem fg.grown {w0 w t g:ax}{b ch bY:Nat}{ms:List Int}{u:List (Int×List (Int×Int))}{j l:Value}{m:List dT}{kd:Int}
 (hk:w.heap[b]?=some (.cells #[aj bY,.map (some ch),j] 231 (0,0)))(lo:w0.heap.size<=b/\w0.heap.size<=ch)(hm:es w ch ms.length (kz ms))(hr:w.ownsRow w0.heap.size 107 2 j m.length (nv m))(v:hQ m=u)(B:∀x∈m,fj w x.2.1 x.2.2.2)(hb:Below w0.heap.size w0 w)
 (i:Below w.heap.size w t)(A:g.ownsRow w0.heap.size 107 2 l (m.length+1) (nv m++[ah kd,.slice none 0 0]))(g4:t.grownBy g j.ownBlock):
 fg w0 (g.setCell ⟨b,2,none⟩ l) b ch bY (ms,u++[(kd,[])]) l (m++[(kd,none,0,[])])/\fI w0 w m (g.setCell ⟨b,2,none⟩ l) (m++[(kd,none,0,[])])/\g.heap[b]?=some (.cells #[aj bY,.map (some ch),j] 231 (0,0)):=by
 have C:=hm;obtain⟨G,H,n⟩:=hm.blk;have D:fB w0.heap.size w g:=(fB.of i).trans (fB.grown g4 (fun k e=>⟨(cn hr k e.symm).1,fun I ty mm hc=>by obtain⟨q,f⟩:=e5 hr k e.symm;have:=(i.block k (lt_of_some f)).trans f;rw[this] at hc;simp at hc;exact aJ hc.2.1.symm⟩))
 have p:g.heap[b]?=some (.cells #[aj bY,.map (some ch),j] 231 (0,0)):=(g4.block b (aM (lt_of_some hk) i.size) (fun e=>by obtain⟨q,f⟩:=e5 hr b e;rw[hk] at f;simp at f)).trans ((i.block b (lt_of_some hk)).trans hk)
 have s:fB w0.heap.size w (g.setCell ⟨b,2,none⟩ l):=D.trans (fB.set p (aK rfl) lo.1)
 have E:ch≠b:=fun e=>by rw[e,hk] at n;simp at n
 have F:(nv (m++[(kd,none,0,[])]:List dT))=nv m++[ah kd,.slice none 0 0]:=by rw[v8];rfl
 refine⟨⟨?_,lo,?_,?_,?_,fun x d=>?_,hb.trans (s.below hb.size)⟩,⟨s,fun k hk=>?_⟩,p⟩
 ·simp only [World.setCell,Array.getElem?_modify,if_true,p,Option.map_some];rfl
 ·refine C.same ((aU _ _ _ _ E).trans ((g4.block ch (aM (lt_of_some n) i.size) (fun e=>?_)).trans (i.block ch (lt_of_some n))))
  obtain⟨q,f⟩:=e5 hr ch e;rw[n] at f;simp at f
 ·rw[F,aZ];refine cH A (fun k e=>aU _ _ _ _ (fun c=>?_))
  have c:k=b:=c;obtain⟨q,f⟩:=e5 A k e;rw[c,p] at f;simp at f
 ·simp[hQ] at v⊢;exact v
 ·rcases List.mem_append.1 d with d|d
  ·exact(B x d).mA s
  ·simp at d;subst d;exact fj.nil
 ·obtain⟨x,d,hl,o,e⟩:=hk;rcases List.mem_append.1 d with d|d
  ·exact aK ⟨x,d,hl,o,e⟩
  ·simp at d;subst d;simp at hl
theorem fg.filled {w0 w:ax}{f ch bY g cap len:Nat}{s:cQ}{m:List dT}(h:fg w0 w f ch bY s (.slice (ak g) len cap) m){i:Nat}{k0:Int}{v0:List (Int×Int)}(hi:s.2[i]?=some (k0,v0)){base c2:Nat}{a2:Option Addr}{b:List (Int×Int)}
 (hr:w.ownsRow base 97 2 (.slice a2 b.length c2) b.length (ev b)):
 fg w0 (w.setCell ⟨g,i*2+1,none⟩ (.slice a2 b.length c2)) f ch bY (s.1,s.2.set i (k0,b)) (.slice (ak g) len cap) (m.set i (k0,a2,c2,b))/\fB w0.heap.size w (w.setCell ⟨g,i*2+1,none⟩ (.slice a2 b.length c2))/\(∀k,fp (m.set i (k0,a2,c2,b)) k->fp m k\/base<=k):=by
 obtain⟨q,j⟩:=e5 h.row g rfl;have hg:=(cn h.row g rfl).1;have d:fB w0.heap.size w (w.setCell ⟨g,i*2+1,none⟩ (.slice a2 b.length c2)):=fB.set j (aJ rfl) hg;obtain⟨x,hx,l⟩:∃x:dT,m[i]?=some x/\(x.1,x.2.2.2)=(k0,v0):=by exact x1
 have n:x.1=k0:=congrArg Prod.fst l;have p:len=m.length:=by
  rcases h.row.2 with⟨hv,_⟩|⟨t,u,v,hv,_⟩
  ·simp at hv
  ·simp at hv;exact hv.2.1
 refine⟨⟨(aU _ _ _ _ (fun c=>?_)).trans h.blk,h.lo,h.mp.same (aU _ _ _ _ (fun c=>?_)),?_,?_,fun y hy=>?_,h.eH.trans (d.below h.eH.size)⟩,d,fun k hk=>?_⟩
 ·have c:f=g:=c;have:=h.blk;rw[c,j] at this
  simp at this
 ·have c:ch=g:=c;obtain⟨A,B,hb⟩:=h.mp.blk;rw[c,j] at hb;simp at hb
 ·rw[a4,<-n,sk m i x a2 c2 b hx];have:=h.row;rw[<-p] at this⊢
  exact nP this _ _
 ·rw[hQ,List.map_set];show((hQ m).set i (k0,b))=_;rw[h.nd]
 ·rcases List.mem_or_eq_of_mem_set hy with hy|hy
  ·exact(h.fl y hy).mA d
  ·subst hy;exact(fj.of hr).mA d
 ·obtain⟨y,hy,hl,o,e⟩:=hk;exact x0
theorem JW {T:List cD}{x:Int}(h:0<=x/\cv T x.toNat)(b:T.length<=10000):eZ T (3,x):=by
 refine⟨?_,fun _=>h⟩
 have c:=h.2.1;have d:=h.1;dsimp only;rw[sa];unfold rc;rw[aG V,aG V]
theorem JX {T:List cD}{wt:List b7}(hv:nn T wt){a:Int}(ha:0<=a/\cv T a.toNat):∀v∈gG T wt a,eZ T v:=fun v h=>by
 unfold gG at h;split at h
 ·obtain⟨x,b,rfl⟩:=List.mem_map.1 h;unfold ef at b;obtain⟨e,he,rfl⟩:=List.mem_map.1 b;exact JW (hv.wv e (List.mem_filter.1 he).1).2 hv.l1
 ·exact hv.fv _ ha.2 v h
theorem JY {T:List cD}{wt:List b7}(hv:nn T wt)(a:Int):(gG T wt a).length<=20000:=by
 unfold gG;split
 ·rw[aW];have b:=oU wt a;have c:=hv.l2;omega
 ·have:=hv.tl a.toNat;omega
section
variable {w0:ax}{kb ch bY:Nat}{b_ bZ:Int}{l:gF}{S:ck}
theorem JZ (hg:dS bY b_ bZ l S w0)(hv:nn S.T S.wt)(D:∀i,cv S.T i->(S.T.getD i t0).1=5->(S.T.getD i t0).2.1=[])(n:Nat)(M:cQ->Int->cQ)(hM:pM w0 kb ch bY S.T M n)(O:kX (tI S.T.length) (gP S.T) (gQ S.T S.wt) n M):
 pM w0 kb ch bY S.T (fun s a=>((dz M (tI S.T.length) (s.1++[a],s.2++[(gP S.T a,[])]) (gQ S.T S.wt a)).2.1,(dz M (tI S.T.length) (s.1++[a],s.2++[(gP S.T a,[])]) (gQ S.T S.wt a)).2.2.set s.1.length (gP S.T a,(dz M (tI S.T.length) (s.1++[a],s.2++[(gP S.T a,[])]) (gQ S.T S.wt a)).1))) (n+1):=by
 intro w s cC m a h ho ha hn hl;obtain⟨b5,hi,b6,b7,b8⟩:=info_parts JV;have Q:a∈tI S.T.length:=pH.2 ⟨ha.1,by have:=ha.2.1;have:=ha.1;omega⟩
 have aB:=hv.l1;have b9:=ho.lt Q hn;rw[nm] at b9;have al:a<10000:=by have:=ha.2.1;omega
 have ca:m.length=s.1.length:=by rw[h.len,ho.len]
 have U:=ho.more Q hn (gP S.T a,[])
 have E:=nH M (tI S.T.length) (s.1++[a],s.2++[(gP S.T a,[])]) (gQ S.T S.wt a)
 have G:=pV O U (by rw[nm];simp;omega) (gQ S.T S.wt a)
 have aF:(dz M (tI S.T.length) (s.1++[a],s.2++[(gP S.T a,[])]) (gQ S.T S.wt a)).2.2[s.1.length]?=some (gP S.T a,[]):=by rw[G.old s.1.length Z,List.getElem?_append_right (by rw[ho.len];exact aD _),ho.len];simp
 have cD:s.1.length<(dz M (tI S.T.length) (s.1++[a],s.2++[(gP S.T a,[])]) (gQ S.T S.wt a)).2.1.length:=by
  have:=G.le;simp at this
  omega
 have cb:(dz M (tI S.T.length) (s.1++[a],s.2++[(gP S.T a,[])]) (gQ S.T S.wt a)).2.2.length=(dz M (tI S.T.length) (s.1++[a],s.2++[(gP S.T a,[])]) (gQ S.T S.wt a)).2.1.length:=G.ok.len;have W:=JQ (wt:=S.wt) (D _ ha.2)
 have aR:(gG S.T S.wt a).length=(gQ S.T S.wt a).length:=by rw[<-W,aW]
 have aV:ay (∀(b:ax)(a0:Value)(X:List dT)(ad:Option Addr)(cap:Nat),fg w0 b kb ch bY (s.1++[a],s.2++[(gP S.T a,[])]) a0 X->fj b ad (gG S.T S.wt a)->
  Calls prog 211 #[aj kb,.slice ad (gG S.T S.wt a).length cap] b fun e w'=>∃cc Y a2 c2,e=.returned (.slice a2 (gG S.T S.wt a).length c2)/\w'.ownsRow b.heap.size 97 2 (.slice a2 (gG S.T S.wt a).length c2) (gG S.T S.wt a).length (ev (dz M (tI S.T.length) (s.1++[a],s.2++[(gP S.T a,[])]) (gQ S.T S.wt a)).1)/\fg w0 w' kb ch bY (dz M (tI S.T.length) (s.1++[a],s.2++[(gP S.T a,[])]) (gQ S.T S.wt a)).2 cc Y/\fI w0 b X w' Y/\(∀k,fp Y k->some k≠(Value.slice a2 (gG S.T S.wt a).length c2).ownBlock)):=
  fun b a0 X ad cap D cd=>by
   have P:=AN hM O D U (by simp;omega) aB (gG S.T S.wt a) (JX hv ha) ad cap cd (by have:=JY hv a;omega)
   rw[W] at P;exact P
 have a1:ay (∀w1,Below w0.heap.size w0 w1->w1.cell? (aq kb 0)=some (aj bY)->Calls prog 254 #[aj kb,ah a] w1 fun e w'=>∃ad cap,e=.returned (.slice ad (gG S.T S.wt a).length cap)/\fj w' ad (gG S.T S.wt a)/\Below w1.heap.size w1 w'):=
  fun w1 hb hc=>JR (hg.below hb) kb hc a ha aB hv.l2
 have ab:ay (∀w1,Below w0.heap.size w0 w1->w1.cell? (aq bY 2)=some (.map (some l.mb))/\(Instr.lookup 184 (.map (some l.mb)) (ah a) false).run prog w1=.ok (.agg #[ah (gP S.T a),.slice (l.fm a.toNat).1 (S.T.getD a.toNat t0).2.1.length (l.fm a.toNat).2]) w1/\bY<w1.heap.size):=fun w1 hb=>by have g1:=hg.below hb;obtain⟨_,_,c2,_,_,_,_,_,ce⟩:=g1.cells;have L:=g1.g2.mp.look (t:=184) (e:=220) underlying184 (mf w1) (x:=a) ha.1 V;rw[i_ ha] at L;exact⟨c2,L,ce⟩
 have cE:ay (bY<w0.heap.size):=hg.cells.2.2.2.2.2.2.2.2;obtain⟨w1,cf,ag,bb⟩:=h.mp.put (t:=229) (e:=2) underlying229 V (x:=a) ha.1 V (.int .i64 s.1.length)
 rw[JO hn] at ag;have bd:Fr (fun k=>k=ch) w w1:=(Fr.refl _ _).grown bb (fun k e=>aK (by cases e;rfl))
 have cg:=h.turned bd;have be:ay (es w1 ch (s.1++[a]).length (kz (s.1++[a]))):=by rw[aZ,List.length_singleton];exact ag
 have hlo:=h.lo;obtain⟨u,dF,ci⟩:=eE h.row;subst ci;obtain⟨c0,c1,c2,lk⟩:=h.cells;have bg:ay (hQ m=s.2):=h.nd;clear hM O G U hv hg ag bb bd W D ha h ho Q hn hl;dsimp only;generalize dz M (tI S.T.length) (s.1++[a],s.2++[(gP S.T a,[])]) (gQ S.T S.wt a)=R at*;rw[<-aR] at E;clear aR;generalize gG S.T S.wt a=cF at*;obtain⟨cG,cj⟩:=R;dsimp only at*;generalize gP S.T a=kd at*;generalize (S.T.getD a.toNat t0).2.1.length=ck at*;generalize (l.fm a.toNat).1=cl at*;generalize (l.fm a.toNat).2=fc at*;generalize s.1.length=L at*;subst ca;obtain⟨ai,d,am,bi,A⟩:=cg;obtain⟨cm,G2,G3⟩:=ab.o w1 A;obtain⟨_,G4,_⟩:=ab.o w1.drew A.drew;have cn:(Instr.field 220 (.agg #[ah kd,.slice cl ck fc]) 0).run prog w1.drew=.ok (ah kd) w1.drew:=by first|rfl|kernel_rfl|simp[cI]
 have co:w1.cell? (aq kb 0)=some (aj bY):=aA d
 have bl:w1.cell? (aq kb 2)=some (.slice u m.length dF):=aA d
 have bn:w1.frozen? (aq kb 2)=false:=aC d
 have an:kb<w1.heap.size:=lt_of_some d;have o:ay (_/\_/\_/\_/\_):=⟨ai,d,am,bi,A⟩
 have bo:ay (fI w0 w m w1 m):=⟨ai,fun k h=>aK h⟩
 have bp:some kb≠(Value.slice u m.length dF).ownBlock:=fun e=>by obtain⟨cJ,br⟩:=e5 am kb e;rw[d] at br;simp at br
 have cK:w0.heap.size<=w1.heap.size:=A.size;clear ai d am bi A ab G2;have B:=(au w1 (.cells #[.int .i64 kd,.slice none 0 0] 107)).drew;have bs:ay ((w1.alloc (.cells #[.int .i64 kd,.slice none 0 0] 107)).drew.ownsRow w0.heap.size 107 2 (.slice u m.length dF) m.length (nv m)):=cH (ga o.o.2.2.1 _) (fun _ _=>rfl)
 go_enter func251,ntmps251;go_wp2_with fail;clear cf c0 c1 c2 lk
 go_region_law (refine step_append_lies _ rfl (.tmp 22) (.tmp 34) 58 rfl w0.heap.size 107 b5 (.agg #[ah 0,.slice none 0 0]) 2 32 underlying58 hi b6 b7 b8 rfl aa (.slice u m.length dF) m.length (nv m) (by simp[Act.eval]) bs.o ⟨w1.heap.size,0,none⟩ 1 1 [ah kd,.slice none 0 0] (by simp[Act.eval]) rfl ?_ ?_ aa (by unfold maxLen;omega) V (by simp;omega) _ rfl ?_;(intro j cp f;match j,f with|0,f=>(simp at f;subst f;simp[Addr.add])|1,f=>(simp at f;subst f;simp[Addr.add]));(intro cp C;simp at C;rcases C with C|C<;>(subst C;rfl));intro b4 F H bt I cq cr;have cs:=I.cell (a:=⟨kb,2,none⟩) (v:=.slice u m.length dF) ((B.cell (p:=aq kb 2) an).trans bl) bp;have ct:H.frozen? (aq kb 2)=false:=(World.frozen?_of_block (a:=⟨kb,2,none⟩) (I.block _ (aM an B.size) bp)).trans ((B.frozen (p:=aq kb 2) an).trans bn))
 all_goals
  have cu:=fg.grown o.o.2.1 hlo be.o o.o.2.2.1 bg.o o.o.2.2.2.1 o.o.2.2.2.2 B bt I;obtain⟨bx,b0,_⟩:=cu;have ao:ay (fI w0 w m (H.setCell ⟨kb,2,none⟩ (.slice (some ⟨b4,0,none⟩) (m.length+1) F)) (m++[(kd,none,0,[])])):=bo.o.trans b0;have J:ay (fg w0 (H.setCell ⟨kb,2,none⟩ (.slice (some ⟨b4,0,none⟩) (m.length+1) F)) kb ch bY (s.1++[a],s.2++[(kd,[])]) (.slice (ak b4) (m.length+1) F) (m++[(kd,none,0,[])])):=bx;clear bx b0 bo bs B o be bg bt I cq cr cs ct co bl bn cm G3 G4 cn;go_wp2_with fail;generalize H.setCell ⟨kb,2,none⟩ (.slice (some ⟨b4,0,none⟩) (m.length+1) F)=b at*;refine(a1.o b J.o.eH J.o.cells.1).mono ?_;clear a1;rintro e cw ⟨ad,cap,rfl,b1,K⟩
  go_wp2_with fail;refine(aV.o cw _ _ ad cap (J.o.below K) b1).mono ?_;clear aV;rintro e cx ⟨cL,g,a2,cM,rfl,ap,q,b2,cy⟩
  have cN:g.length=cj.1.length:=q.len.trans cb;obtain⟨cO,cP,cz⟩:=eT q.row V;subst cz;have cR:=q.cells.2.2.1;have cA:m.length<g.length:=V;obtain⟨ar,cS⟩:=kB q.row ((oM g m.length _ (aL cA)).2)
  rw[<-E] at ap;have N:ay (_/\_/\_):=q.filled aF ap;have b3:ay (fI w0 w m cx g):=(ao.o.trans (fI.of K)).trans b2;have cB:=((ao.o.trans (fI.of K)).1).size;generalize (g[m.length]).2.1=q1 at ar;generalize (g[m.length]).2.2.2.length=cT at ar;generalize (g[m.length]).2.2.1=q3 at ar;rw[E] at N;clear b1 K ap q b2 cy ao J aF E;go_wp2_with fail;go_ret;exact⟨_,_,rfl,N.o.1,b3.o.1.trans N.o.2.1,fun k hk=>(N.o.2.2 k hk).elim (b3.o.2 k) (fun c=>aJ (aT cB c))⟩
theorem AO (hg:dS bY b_ bZ l S w0)(hv:nn S.T S.wt)(b:∀i,cv S.T i->(S.T.getD i t0).1=5->(S.T.getD i t0).2.1=[]):∀n,pM w0 kb ch bY S.T (met (tI S.T.length) (gP S.T) (gQ S.T S.wt) n) n
 |0=>fun w s d m a _ ho ha hn hl=>by have c:=ho.lt (pH.2 ⟨ha.1,by have:=ha.2.1;have:=ha.1;omega⟩) hn;rw[nm] at c;omega
 |n+1=>JZ hg hv b n _ (AO hg hv b n) (jG n)
end
section
variable {bY:Nat}{b_ bZ:Int}{l:gF}{S:ck}{w:ax}
theorem J0 (hg:dS bY b_ bZ l S w)(hv:nn S.T S.wt)(N:∀i,cv S.T i->(S.T.getD i t0).1=5->(S.T.getD i t0).2.1=[])(hr:∀v∈S.rs,eZ S.T v):
 Calls prog 138 #[aj bY] w fun e w'=>∃O ap f Q n,e=.returned (.agg #[.slice O 12 ap,.slice f Q n])/\nQ w' w.heap.size O (dU.ez S.T S.wt S.rs).1/\lN w' w.heap.size f (dU.ez S.T S.wt S.rs).2.2/\Q=(dU.ez S.T S.wt S.rs).2.2.length/\Below w.heap.size w w':=by
 have bo:=@run_makeMap prog;have G:=au w (.cells #[.slice none 0 0,.slice none 0 0] 60)
 have U:=aN w (.cells #[.slice none 0 0,.slice none 0 0] 60)
 have u:=hg.below G;have H:=hg.g4.rl;obtain⟨_,_,_,_,_,_,W,_,ar⟩:=u.cells;have X:fj (w.alloc (.cells #[.slice none 0 0,.slice none 0 0] 60)) (ak l.rb) S.rs:=by
  have c:=u.g4.cells;refine⟨fun hp=>⟨l.rb,0,rfl,c.1,fun i hi=>?_⟩,fun hp=>⟨l.rb,0,_,rfl,u.g4.rt⟩⟩
  have:=c.2.2 i V;rw[Nat.zero_add];exact⟨this.1,this.2.1⟩
 have Y:w.heap.size<(w.alloc (.cells #[.slice none 0 0,.slice none 0 0] 60)).heap.size:=Z;have C:=es.made (w.alloc (.cells #[.slice none 0 0,.slice none 0 0] 60))
 have D:kz []=fun _=>none:=by
  funext x
  exact AM Z
 rw[<-D] at C;have b2:=((aH _ (w.alloc (.cells #[.slice none 0 0,.slice none 0 0] 60))).alloc bW (.map #[] 0)).alloc Z (.cells #[.pointer (some ⟨bY,0,none⟩),.map (some (w.heap.size+1)),.slice none 0 0] 231)
 have I:=iP (w.alloc (.cells #[.slice none 0 0,.slice none 0 0] 60)) (.map #[] 0) (.cells #[.pointer (some ⟨bY,0,none⟩),.map (some (w.heap.size+1)),.slice none 0 0] 231)
 have E:(w.alloc (.cells #[.slice none 0 0,.slice none 0 0] 60)).heap.size=w.heap.size+1:=Z;rw[E] at C I;have ab:=C.same (w':=((w.alloc (.cells #[.slice none 0 0,.slice none 0 0] 60)).alloc (.map #[] 0)).alloc (.cells #[.pointer (some ⟨bY,0,none⟩),.map (some (w.heap.size+1)),.slice none 0 0] 231)) (aS _ _ _ Z)
 have ag:ay (fg (w.alloc (.cells #[.slice none 0 0,.slice none 0 0] 60)) (((w.alloc (.cells #[.slice none 0 0,.slice none 0 0] 60)).alloc (.map #[] 0)).alloc (.cells #[.pointer (some ⟨bY,0,none⟩),.map (some (w.heap.size+1)),.slice none 0 0] 231)) (w.heap.size+1+1) (w.heap.size+1) bY ([],[]) (.slice none 0 0) []):=
  ⟨I,⟨by rw[E];omega,by rw[E];exact aD _⟩,ab,bc _ _ _ _,rfl,fun x g=>by simp at g,b2⟩
 have aB:=(b2.cell (p:=aq bY 6) ar).trans W;have J:w.heap.size<=(((w.alloc (.cells #[.slice none 0 0,.slice none 0 0] 60)).alloc (.map #[] 0)).alloc (.cells #[.pointer (some ⟨bY,0,none⟩),.map (some (w.heap.size+1)),.slice none 0 0] 231)).heap.size:=by simp;omega
 have F:=AN (AO u hv N S.T.length) (jG _) ag.o (e9.start _) Z hv.l1 S.rs hr (ak l.rb) 12 (X.mA (fB.of (B:=0) b2)) V;have aF:ay ((dU.ez S.T S.wt S.rs).1.length=12):=by show _=_;unfold dU.ez;rw[nH,aW];exact H
 change Calls _ _ _ _ (fun e w'=>∃aR K a2 c2,e=.returned (.slice a2 S.rs.length c2)/\w'.ownsRow _ 97 2 (.slice a2 S.rs.length c2) S.rs.length (ev (dU.ez S.T S.wt S.rs).1)/\fg _ w' _ _ bY (dU.ez S.T S.wt S.rs).2 aR K/\fI _ _ [] w' K/\(∀k,fp K k->some k≠(Value.slice a2 S.rs.length c2).ownBlock)) at F;rw[H] at F;clear hg u hv N hr X C ab I D W ag H;generalize dU.ez S.T S.wt S.rs=R at*;obtain⟨bp,s⟩:=R;dsimp only at*;have M:=hide G;clear G;go_enter func138,ntmps138;go_wp2_with fail;refine F.mono ?_;clear F;rintro e w2 ⟨br,m,a2,c2,rfl,o,d,ai,_⟩
 obtain⟨f,n,aV⟩:=eE d.row;subst aV;have bs:=d.cells.2.2.1;have al:=M.o.trans (d.eH.mono M.o.size)
 have j:=(d.eH.block _ Y).trans U;have y0:w2.cell? (aq w.heap.size 0)=some (.slice none 0 0):=aA j
 have y1:w2.cell? (aq w.heap.size 1)=some (.slice none 0 0):=aA j
 have bt:w2.frozen? (aq w.heap.size 0)=false:=aC j
 have bx:w2.frozen? (aq w.heap.size 1)=false:=aC j
 have l2:=lt_of_some j;have a0:=dq d o;have a1:=hide d.len;have bb:=hide al;have am:=hide j;have bd:ay (∀k,fp m k->w.heap.size<=k):=fun k hk=>(ai.2 k hk).elim (fun⟨x,g,_⟩=>by cases g) (fun be=>aT J be)
 have bg:=hide J;clear d o ai al j U aB M b2 J E Y;go_wp2_with fail;obtain⟨q,hW0⟩:∃q,q=(w2.setCell ⟨w.heap.size,0,none⟩ (.slice a2 12 c2)).setCell ⟨w.heap.size,1,none⟩ (.slice f m.length n):=⟨_,rfl⟩
 rw[<-hW0];have g0:q.cell? (aq w.heap.size 0)=some (.slice a2 12 c2):=by exact ll
 have g1:q.cell? (aq w.heap.size 1)=some (.slice f m.length n):=by exact zR
 have t:Fr (fun k=>k=w.heap.size) w2 q:=by rw[hW0];exact((Fr.refl (fun k=>k=w.heap.size) w2).set w.heap.size 0 _ rfl).set w.heap.size 1 _ rfl
 clear hW0;obtain⟨d,o⟩:=a0.o;have an:∀{ad:Option Addr}{L:List (Int×Int)},fj w2 ad L->dv q ad L:=fun {ad L} h=>h.1.keep t.size (fun hp b e=>by
  obtain⟨bi,b0,b1,D,hb⟩:=h.2 hp;rw[D] at e;cases e;refine t.block _ (lt_of_some hb) (fun c=>?_)
  have c:bi=w.heap.size:=c;rw[c,am.o] at hb;simp at hb)
 refine a3 (v:=.agg #[.slice a2 12 c2,.slice f m.length n]) (by simp[results,results138,go_sem,g0,g1]) rfl ⟨a2,c2,f,m.length,n,rfl,⟨an (fj.of (by rw[aF.o];exact o)),fun hp=>?_⟩,⟨m,d.nd,fun x g=>an (d.fl x g),bd.o,fun hp=>?_⟩,a1.o,bb.o.trans (t.below (Nat.le_of_lt l2) (fun k e=>Nat.le_of_eq (Eq.symm e)))⟩
 ·obtain⟨b,cap,e⟩:=eT o aa;cases e;exact⟨b,0,rfl,aT bg.o (cn o b rfl).1⟩
 obtain⟨b,cap,e⟩:=eT d.row hp;cases e;have bl:=(cn d.row b rfl).1;simp at bl;obtain⟨b3,A⟩:=e5 d.row b rfl;have ao:b≠w.heap.size:=fun c=>by rw[c,am.o] at A;simp at A
 refine⟨b,0,rfl,V,aM (lt_of_some A) t.size,fun i x g=>?_⟩
 obtain⟨n1,bn⟩:=oM m i x g;rw[Nat.zero_add];exact⟨(aP (a:=⟨b,i*2,none⟩) (t.block b (lt_of_some A) ao)).trans (kB d.row n1).1,(aP (a:=⟨b,i*2+1,none⟩) (t.block b (lt_of_some A) ao)).trans (kB d.row bn).1⟩
end
theorem J3 {T:List cD}{wt:List b7}(d:e4 T wt):∃g,dR T wt g:=by
 classical
 refine⟨fun is=>(List.range is.length).map (fun i=>decide (∀X:Nat->Prop,gX T wt X->(∀k,ct is k->X k)->X i)),fun is hl e=>?_⟩
 have key:∀i,ct ((List.range is.length).map (fun i=>decide (∀X:Nat->Prop,gX T wt X->(∀k,ct is k->X k)->X i))) i↔i<is.length/\∀X:Nat->Prop,gX T wt X->(∀k,ct is k->X k)->X i:=by
  intro i;unfold ct;by_cases hi:i<is.length
  ·rw[aE,List.getElem?_map,List.getElem?_range hi];simp[hi]
  ·simp[hi]
 refine⟨Z,fun i hi=>(key i).2 ⟨hi.lt,fun X _ b=>b i hi⟩,fun i hi f v hv j=>?_,fun X b hs i hi=>((key i).1 hi).2 X b hs⟩
 have c:∀X:Nat->Prop,gX T wt X->(∀k,ct is k->X k)->_:=fun X b hs=>b i hi (((key i).1 f).2 X b hs) v (hv.mono (fun k hk=>((key k).1 hk).2 X b hs)) j;exact(key _).2 ⟨by rw[hl];exact(c (cv T) d.cls e).1,c⟩
theorem AP:∃g:gO,∀T wt,e4 T wt->dR T wt (g T wt):=by
 classical
 refine⟨fun T wt=>if h:∃g,dR T wt g then h.choose else id,fun T wt b=>?_⟩
 have h:=J3 b;dsimp only;rw[dif_pos h];exact h.choose_spec
section
variable {σ:Type}{is:σ->Int->Bool}{kp:σ->Int->σ}{I:σ->List b7->Prop}{R:List b7}
theorem uQ (hk:∀s C e,I s C->e∈R->is s e.1=true->I (kp s e.2) (C++[e])):∀(l:List b7)(s:σ)(C D:List b7),(∀e∈l,e∈R)->I s C->I (cf.pass is kp l s C D).1 (cf.pass is kp l s C D).2.1
 |[],_,_,_,_,h=>h
 |e::r,s,C,D,b,h=>by
  unfold cf.pass;have hr:_:=fun x d=>b x (aO _ d)
  split
  ·rename_i c;exact uQ hk r _ _ _ hr (hk s C e h (b e Z) c)
  ·exact uQ hk r _ _ _ hr h
theorem AQ (hk:∀s C e,I s C->e∈R->is s e.1=true->I (kp s e.2) (C++[e])):∀(n:Nat)(D:List b7)(s:σ)(C:List b7),(∀e∈D,e∈R)->I s C->I (cf.turns is kp n D s C).1 (cf.turns is kp n D s C).2.1
 |0,_,_,_,_,h=>h
 |n+1,D,s,C,b,h=>by
  have c:=uQ hk D s C [] b h;unfold cf.turns;split
  ·exact c
  ·exact AQ hk n _ _ _ (fun e he=>b e (Au _ _ D s C e he)) c
end
structure J4 (s:ck)(g:List Bool->List Bool)(mj:Bool)(L:List Bool)(C:List b7):Prop where
 ok:gD s.T L
 up:∀k,ct (s.c0 g mj) k->ct L k
 cl:gX s.T s.wt (ct L)
 cC:∀e∈C,e∈s.rg/\ct L e.1.toNat/\ct L e.2.toNat
 lt:∀X,gX s.T s.wt X->(∀k,ct (s.c0 g mj) k->X k)->(∀e∈s.rg,cL (s.c0 g mj) e.2=false->X e.2.toNat)->∀k,ct L k->X k
theorem AR {s:ck}(h:fH s){g:List Bool->List Bool}(hg:dR s.T s.wt g)(mj:Bool):ou s.T s.wt (jW s.T s.rs mj) (s.c0 g mj)/\gD s.T (s.c0 g mj):=by have b:=h.first mj;exact⟨hg _ b.len b.al,(hg.ok h.iv b).1⟩
theorem J5 {s:ck}(h:fH s){g:List Bool->List Bool}(hg:dR s.T s.wt g)(mj:Bool):J4 s g mj (s.cR g mj).1 (s.cR g mj).2.1:=by
 obtain⟨n,o⟩:=AR h hg mj;refine AQ (fun L C e b he p=>?_) _ _ _ _ (fun e he=>he) ⟨o,fun k hk=>hk,n.cl,fun e he=>by simp at he,fun X _ d _ k hk=>d k hk⟩
 obtain⟨he,hn⟩:=List.mem_filter.1 he;have hn:cL (s.c0 g mj) e.2=false:=by simpa using hn
 have ha:=(h.gv e he).2;obtain⟨l,q,t⟩:=b.ok.put ha.2;have f:=hg _ l.len l.al;have j:∀k,ct L k->_:=fun k hk=>f.up k (t k hk)
 refine⟨(hg.ok h.iv l).1,fun k hk=>j k (b.up k hk),f.cl,fun x c=>?_,fun X d h0 m k hk=>?_⟩
 ·rcases List.mem_append.1 c with c|c
  ·obtain⟨q1,u,q3⟩:=b.cC x c;exact⟨q1,j _ u,j _ q3⟩
  ·rw[List.mem_singleton.1 c];exact⟨he,j _ p,f.up _ q⟩
 ·refine f.lt X d (fun i hi=>?_) k hk;unfold ct at hi;rw[i7 _ _ _ (by rw[b.ok.len];exact ha.2.1)] at hi;split at hi
  ·rename_i v;rw[<-v];exact m e he hn
  ·exact b.lt X d h0 m i hi
theorem J6 (s:ck)(g:List Bool->List Bool)(mj:Bool):(s.cR g mj).2.1.length<=(s.rg.filter (fun e=>!cL (s.c0 g mj) e.2)).length:=by
 have:=vD (is:=cL) (kp:=fw g) (s.rg.length+1) (s.rg.filter (fun e=>!cL (s.c0 g mj) e.2)) (s.c0 g mj) [];unfold ck.cR;simp only [List.length_nil] at this
 omega
theorem J7 {s:ck}(h:fH s){g:List Bool->List Bool}(hg:dR s.T s.wt g)(mj:Bool){v:Int×Int}(hv:v∈s.rs)(b:v.1=3):ct (s.c0 g mj) v.2.toNat:=
 (AR h hg mj).1.up _ ((kt _ _ _ _).2 ⟨(h.rv v hv b).2.1,aJ ⟨v,hv,b,rfl⟩⟩)
theorem uR (L:List Bool)(T:List cD)(i:Nat):(f6 L T T.length).getD i t0=if i<T.length then fz L i (T.getD i t0) else t0:=by
 by_cases h:i<T.length
 ·rw[q7 L T T.length i bW h,aI h,aI h]
 ·rw[aG h,aE,List.getElem?_eq_none (by rw[jB];omega)];rfl
theorem AS {L:List Bool}{i:Nat}{t:cD}(b:L.getD i false=false):fz L i t=(t.1,[],t.2.2.1,true):=by unfold fz;rw[aG (by rw[b];simp)]
theorem rH (L:List Bool)(i:Nat)(t:cD):(fz L i t).1=t.1:=by unfold fz;split<;>rfl
theorem J8 {L:List Bool}{i:Nat}{t:cD}(b:L.getD i false=true):(fz L i t).2.2=(true,t.2.2.2):=by unfold fz;rw[aI b]
theorem J9 {T:List cD}{L:List Bool}(h:gD T L)(i:Nat):cv (f6 L T T.length) i↔ct L i:=by
 unfold cv;rw[jB,uR];constructor
 ·rintro⟨d,b⟩
  rw[aI d] at b;unfold ct;cases c:L.getD i false
  ·rw[AS c] at b;cases b
  ·rfl
 ·intro hi;have ha:=h.al i hi;refine⟨ha.1,?_⟩
  rw[aI ha.1,J8 hi];exact ha.2
theorem rI {L:List Bool}{i:Nat}{t:cD}(b:L.getD i false=true):
 (t.1=4/\dH L (t.2.1.getD 0 (0,0))=false/\(fz L i t).2.1=[(2,0),(2,0)])\/(t.1=3/\dH L (t.2.1.getD 0 (0,0))=false/\(fz L i t).2.1=[(2,0),t.2.1.getD 1 (0,0)])\/((t.1=3\/t.1=4->dH L (t.2.1.getD 0 (0,0))=true)/\(fz L i t).2.1=t.2.1):=by
 unfold fz;rw[aI b];by_cases c4:t.1=4/\dH L (t.2.1.getD 0 (0,0))=false
 ·rw[aI c4];exact aK ⟨c4.1,c4.2,rfl⟩
 ·rw[aG c4];by_cases c3:t.1=3/\dH L (t.2.1.getD 0 (0,0))=false
  ·rw[aI c3];exact aJ (aK ⟨c3.1,c3.2,rfl⟩)
  ·rw[aG c3];refine aJ (aJ ⟨fun h=>?_,rfl⟩)
   cases c:dH L _
   ·rcases h with h|h
    ·exact absurd ⟨h,c⟩ c3
    ·exact absurd ⟨h,c⟩ c4
   ·rfl
def mD (T:List cD)(e:b7):Prop:=(0<=e.1/\cv T e.1.toNat)/\(T.getD e.1.toNat t0).1=5/\0<=e.2/\cv T e.2.toNat
structure d3 (s:ck)(j:Nat):Prop where
 kd:∀i,cv s.T i->1<=(s.T.getD i t0).1/\(s.T.getD i t0).1<=5
 fl:∀i,cv s.T i->(s.T.getD i t0).1=3\/(s.T.getD i t0).1=4->(s.T.getD i t0).2.1.length=2
 g5:∀i,cv s.T i->(s.T.getD i t0).1=5->(s.T.getD i t0).2.1=[]
 fv:∀i,cv s.T i->∀v∈(s.T.getD i t0).2.1,eZ s.T v
 tl:∀i,(s.T.getD i t0).2.1.length<=12
 rv:∀v∈s.rs,eZ s.T v
 rl:s.rs.length=12
 gv:∀e∈s.rg,mD s.T e
 wv:∀e∈s.wt,mD s.T e
 en:s.rg.length+s.wt.length<=24
 tj:s.T.length<=j
theorem d3.more {s:ck}{j k:Nat}(h:d3 s j)(hk:j<=k):d3 s k:={h with tj:=aT h.tj hk}
theorem d3.iv {s:ck}{j:Nat}(h:d3 s j):e4 s.T s.wt:=⟨h.fl,fun i hi v hv=>(h.fv i hi v hv).2,fun e he=>(h.wv e he).2.2,h.tl⟩
theorem d3.uS {s:ck}{j:Nat}(h:d3 s j)(b:j<=10000):fH s:=
 ⟨h.iv,fun v hv=>(h.rv v hv).2,fun e he=>⟨(h.gv e he).1,(h.gv e he).2.2⟩,fun e he=>(h.wv e he).1,aT h.tj b,by have:=h.en;omega,by have:=h.en;omega⟩
theorem d3.AT {s:ck}{j:Nat}(h:d3 s j)(b:j<=10000):nn s.T s.wt:=
 ⟨h.fv,fun e he=>⟨(h.wv e he).1.1,(h.wv e he).2.2⟩,h.tl,aT h.tj b,by have:=h.en;omega⟩
theorem eZ.mono {T c:List cD}{v:Int×Int}(h:eZ T v)(hm:v.1=3->cv T v.2.toNat->cv c v.2.toNat):eZ c v:=⟨h.1,fun b=>⟨(h.2 b).1,hm b (h.2 b).2⟩⟩
theorem kS (T:List cD):eZ T (0,0):=⟨aa,fun h=>by cases h⟩
theorem AU (T:List cD):eZ T (2,0):=⟨aa,fun h=>by cases h⟩
theorem d3.rt {s:ck}{j:Nat}(h:d3 s j)(i:Nat):eZ s.T (s.rs.getD i (0,0)):=by
 by_cases c:i<s.rs.length
 ·exact h.rv _ (getD_in c)
 ·rw[aE,List.getElem?_eq_none V];exact kS _
theorem d3.cut {s:ck}{j:Nat}(h:d3 s j)(w:j<=10000){g:List Bool->List Bool}(hg:dR s.T s.wt g)(bZ:Int)(mj:Bool):d3 (s.cut g bZ mj) j:=by
 unfold ck.cut;split
 ·exact h
 have hw:=h.uS w;have d:=J5 hw hg mj;have hl:=J6 s g mj;generalize F:(s.cR g mj).1=L at*;generalize G:(s.cR g mj).2.1=C at*;have m:=J9 d.ok;have gt:∀i,ct L i->(f6 L s.T s.T.length).getD i t0=fz L i (s.T.getD i t0):=fun i hi=>by rw[uR,aI (d.ok.al i hi).1]
 have tr:∀v,eZ s.T v->(v.1=3->ct L v.2.toNat)->_:=fun v hv hi=>hv.mono (fun b _=>(m _).2 (hi b))
 have ev:∀e,mD s.T e->ct L e.1.toNat->ct L e.2.toNat->mD (f6 L s.T s.T.length) e:=fun e he f k=>⟨⟨he.1.1,(m _).2 f⟩,by rw[gt _ f,rH];exact he.2.1,he.2.2.1,(m _).2 k⟩
 refine {kd:=fun i hi=>?_,fl:=fun i hi hk=>?_,g5:=fun i hi hk=>?_,fv:=fun i hi v hv=>?_,tl:=fun i=>?_,rv:=fun v hv=>?_,rl:=h.rl,gv:=fun e he=>?_,wv:=fun e he=>?_,en:=?_,tj:=?_}
 ·have hi:=(m i).1 hi;rw[gt i hi,rH];exact h.kd i (d.ok.al i hi)
 ·have hi:=(m i).1 hi;rw[gt i hi,rH] at hk;rw[gt i hi];have k:=h.fl i (d.ok.al i hi) hk;rcases rI (L:=L) hi with⟨_,_,e⟩|⟨_,_,e⟩|⟨_,e⟩<;>rw[e]
  ·rfl
  ·rfl
  ·exact k
 ·have hi:=(m i).1 hi;rw[gt i hi,rH] at hk;rw[gt i hi];rcases rI (t:=s.T.getD i t0) hi with⟨A,_,_⟩|⟨A,_,_⟩|⟨_,e⟩
  ·omega
  ·omega
  ·rw[e];exact h.g5 i (d.ok.al i hi) hk
 ·have hi:=(m i).1 hi;have ha:=d.ok.al i hi;rw[gt i hi] at hv;have cl:∀v,jA s.T s.wt (ct L) i v->v.1=3->_:=fun v hk b=>d.cl i ha.1 hi v hk b;rcases rI (L:=L) hi with⟨_,_,e⟩|⟨u,_,e⟩|⟨B,e⟩
  ·rw[e] at hv;have:v=(2,0):=by simpa using hv
   rw[this];exact AU _
  ·rw[e] at hv;have:v=(2,0)\/v=(s.T.getD i t0).2.1.getD 1 (0,0):=by simpa using hv
   rcases this with rfl|rfl
   ·exact AU _
   ·exact tr _ (h.fv i ha _ (getD_in (by rw[h.fl i ha (aK u)];decide))) (fun b=>cl _ (aJ (aK ⟨u,rfl⟩)) b)
  ·rw[e] at hv;refine tr v (h.fv i ha v hv) (fun b=>?_)
   have hk:=h.kd i ha;by_cases D:(s.T.getD i t0).1=1\/(s.T.getD i t0).1=2
   ·exact cl v (aK ⟨D,hv⟩) b
   ·by_cases c5:(s.T.getD i t0).1=5
    ·rw[h.g5 i ha c5] at hv;cases hv
    ·have o:(s.T.getD i t0).1=3\/(s.T.getD i t0).1=4:=V;have h0:=ng (B o)
     have k:=h.fl i ha o;obtain⟨q,hq,eq⟩:=List.mem_iff_getElem.1 hv;have n:(s.T.getD i t0).2.1.getD q (0,0)=v:=by rw[aE,aL V,eq];rfl
     match q,hq,n with
     |0,_,n=>
      rw[n] at h0;exact h0 b
     |1,_,n=>
      rcases o with c|c
      ·exact cl v (aJ (aK ⟨c,n.symm⟩)) b
      ·exact cl v (aJ (aJ (aK ⟨c,h0,n.symm⟩))) b
     |q+2,hq,_=>omega
 ·rw[uR];split
  ·cases c:L.getD i false
   ·rw[AS c];simp
   ·rcases rI (L:=L) c with⟨_,_,e⟩|⟨_,_,e⟩|⟨_,e⟩<;>rw[e]
    ·simp
    ·simp
    ·exact h.tl i
  ·simp[t0]
 ·exact tr v (h.rv v hv) (fun b=>d.up _ (J7 hw hg mj hv b))
 ·obtain⟨f,k⟩:=List.mem_filter.1 he;rw[a_] at k;exact ev e (h.gv e f) k.2 (d.up _ k.1)
 ·obtain⟨f,k⟩:=List.mem_filter.1 he;rcases List.mem_append.1 f with f|f
  ·have hv:=h.wv e f;exact ev e hv k (d.cl e.1.toNat hv.1.2.1 k (3,e.2) (aJ (aJ (aJ ⟨hv.2.1,e,f,by have:=hv.1.1;omega,rfl⟩))) rfl)
  ·obtain⟨q1,E,q3⟩:=d.cC e f;exact ev e (h.gv e q1) E q3
 ·dsimp only;have l1:(s.rg.filter (fun e=>cL (s.c0 g mj) e.2&&cL L e.1)).length+(s.rg.filter (fun e=>!cL (s.c0 g mj) e.2)).length<=s.rg.length:=by
   have key:∀l:List b7,(l.filter (fun e=>cL (s.c0 g mj) e.2&&cL L e.1)).length+(l.filter (fun e=>!cL (s.c0 g mj) e.2)).length<=l.length:=fun l=>by
    induction l with
    |nil=>simp
    |cons x l H=>
     cases c:cL (s.c0 g mj) x.2
     ·rw[List.filter_cons_of_neg (by rw[c];simp),List.filter_cons_of_pos (by rw[c];rfl)];simp only [List.length_cons];omega
     ·rw[List.filter_cons_of_neg (p:=fun e:b7=>!cL (s.c0 g mj) e.2) (by rw[c];simp)];have:(List.filter (fun e:b7=>cL (s.c0 g mj) e.2&&cL L e.1) (x::l)).length<=(List.filter (fun e:b7=>cL (s.c0 g mj) e.2&&cL L e.1) l).length+1:=by
       rw[List.filter_cons];split
       ·simp
       ·omega
      simp only [List.length_cons];omega
   exact key s.rg
  have l2:=bm (fun e:b7=>cL L e.1) (s.wt++C)
  rw[aZ] at l2;have:=h.en;omega
 ·rw[jB];exact h.tj
theorem rJ (T:List cD)(t:cD)(i:Nat):(T++[t]).getD i t0=if i=T.length then t else T.getD i t0:=by exact Aw
theorem AV (T:List cD)(k:Int)(fl:List _)(i:Nat):cv (T++[(k,fl,false,false)]) i↔cv T i\/i=T.length:=by unfold cv;rw[rJ,aZ,List.length_singleton];exact Ax
theorem J_ (g:List Bool->List Bool)(s:ck)(bZ:Int)(mj:Bool):(s.cut g bZ mj).rs=s.rs:=by unfold ck.cut;split<;>rfl
theorem Ka (g:gO)(b_ bZ:Int)(s:ck)(m:Int):(s.room g b_ bZ m).2.rs=s.rs:=by
 unfold ck.room;split
 ·rfl
 ·exact J_ _ _ _ _
theorem uT {k R A B n:Int}(h:dJ k R A B n=0):gR k n=0:=by
 unfold dJ at h;split at h
 ·omega
 ·split at h
  ·omega
  ·exact h
theorem AW {R A B n:Int}(h:dJ 5 R A B n=0):0<=n/\n<=12:=by
 have b:=uT h;unfold gR at b;rw[aG aa,aI rfl] at b;unfold hc at b;split at b
 ·omega
 ·split at b<;>omega
theorem AX {R A B n:Int}(h:dJ 1 R A B n=0):vc 1 n=0:=by have b:=uT h;unfold gR at b;rwa [aI rfl] at b
section
variable {s:ck}{j:Nat}{g:gO}{b_ bZ:Int}
theorem d3.room (h:d3 s j)(b:j<=10000)(hg:dR s.T s.wt (g s.T s.wt))(m:Int):d3 (s.room g b_ bZ m).2 j:=by
 unfold ck.room;split
 ·exact h
 ·exact h.cut b hg _ _
theorem d3.put (h:d3 s j){kd:Int}{fl:List _}(d:1<=kd)(f:kd<=5)(g:kd=3\/kd=4->fl.length=2)(k:kd=5->fl=[])(l:∀v∈fl,eZ s.T v)(hl:fl.length<=12):d3 (s.put kd fl) (j+1):=by
 have b:=AV s.T kd fl;have tr:∀v,eZ s.T v->_:=fun v hv=>hv.mono (fun _ ha=>(b _).2 (aK ha))
 have gt:∀i,cv s.T i->(s.T++[(kd,fl,false,false)]).getD i t0=s.T.getD i t0:=fun i hi=>by rw[rJ,aG (by have:=hi.1;omega)]
 have c:(s.T++[(kd,fl,false,false)]).getD s.T.length t0=(kd,fl,false,false):=by rw[rJ,aI rfl]
 have ev:∀e,mD s.T e->mD (s.T++[(kd,fl,false,false)]) e:=fun e he=>⟨⟨he.1.1,(b _).2 (aK he.1.2)⟩,by rw[gt _ he.1.2];exact he.2.1,he.2.2.1,(b _).2 (aK he.2.2.2)⟩
 unfold ck.put;refine {kd:=fun i hi=>?_,fl:=fun i hi hk=>?_,g5:=fun i hi hk=>?_,fv:=fun i hi v hv=>?_,tl:=fun i=>?_,rv:=fun v hv=>tr v (h.rv v hv),rl:=h.rl,gv:=fun e he=>ev e (h.gv e he),wv:=fun e he=>ev e (h.wv e he),en:=h.en,tj:=?_}
 ·rcases(b i).1 hi with hi|rfl
  ·rw[gt i hi];exact h.kd i hi
  ·rw[c];exact⟨d,f⟩
 ·rcases(b i).1 hi with hi|rfl
  ·rw[gt i hi] at hk⊢;exact h.fl i hi hk
  ·rw[c] at hk⊢;exact g hk
 ·rcases(b i).1 hi with hi|rfl
  ·rw[gt i hi] at hk⊢;exact h.g5 i hi hk
  ·rw[c] at hk⊢;exact k hk
 ·rcases(b i).1 hi with hi|rfl
  ·rw[gt i hi] at hv;exact tr v (h.fv i hi v hv)
  ·rw[c] at hv;exact tr v (l v hv)
 ·rw[rJ];split
  ·exact hl
  ·exact h.tl i
 ·rw[aZ,List.length_singleton];have:=h.tj;omega
theorem d3.pN (h:d3 s j)(c:j<=10000)(hg:dR s.T s.wt (g s.T s.wt)){kd:Int}{fl:List _}(d:1<=kd)(e:kd<=5)(f:kd=3\/kd=4->fl.length=2)(i:kd=5->fl=[])(k:∀v∈fl,v∈s.rs\/v=(0,0))(hl:fl.length<=12):
 d3 (s.bZ g b_ bZ kd fl).2.2 (j+1)/\eZ (s.bZ g b_ bZ kd fl).2.2.T (s.bZ g b_ bZ kd fl).1:=by
 have hr:=h.room c hg (b_:=b_) (bZ:=bZ) (1+fl.length)
 have hs:=Ka g b_ bZ s (1+fl.length)
 unfold ck.bZ;generalize s.room g b_ bZ _=p at*;split
 ·dsimp only;refine⟨hr.put d e f i (fun v hv=>?_) hl,?_⟩
  ·rcases k v hv with b|b
   ·exact hr.rv v (by rw[hs];exact b)
   ·rw[b];exact kS _
  ·have l:=hr.tj;refine⟨nG _ V V,fun _=>⟨V,?_⟩⟩
   unfold ck.put;exact(AV _ _ _ _).2 (aJ V)
 ·exact⟨hr.more (Nat.le_succ _),kS _⟩
theorem d3.pop (h:d3 s j)(d:j<=10000)(v:Int×Int):d3 (s.pop v).2.2 j/\eZ (s.pop v).2.2.T (s.pop v).1:=by
 unfold ck.pop;split
 ·split
  ·rename_i c;have he:=h.wv _ (getD_in (x:=(0,0)) c)
   have hb:=he.2.2.2.1;have ht:=h.tj;refine⟨{h with wv:=fun e hm=>?_,en:=?_},nG _ he.2.2.1 (by dsimp only;omega),fun _=>he.2.2⟩
   ·refine h.wv e ?_;rcases List.mem_append.1 hm with b|b
    ·exact List.mem_of_mem_take b
    ·exact List.mem_of_mem_drop b
   ·have:=h.en;dsimp only;rw[aZ,bw,List.length_drop];omega
  ·exact⟨h,kS _⟩
 ·exact⟨h,kS _⟩
theorem Kb {T:List cD}{v:Int×Int}(hv:eZ T v)(h:iE T v=true):(0<=v.2/\cv T v.2.toNat)/\(T.getD v.2.toNat t0).1=5:=by obtain⟨b,c⟩:=q8.1 h;exact⟨hv.2 b,c⟩
theorem d3.reg (h:d3 s j){t b:Int×Int}(ht:eZ s.T t)(hd:eZ s.T b):d3 (s.reg t b).2 j:=by
 unfold ck.reg;split
 ·rename_i c;split
  ·exact h
  ·obtain⟨q1,d⟩:=Kb hd c.2;refine {h with gv:=fun e he=>?_,en:=?_}
   ·rcases List.mem_append.1 he with he|he
    ·exact h.gv e he
    ·rw[List.mem_singleton.1 he];exact⟨q1,d,ht.2 c.1⟩
   ·dsimp only;exact qY
 ·exact h
theorem AY (T:List cD)(i q:Nat)(y:Int×Int)(k:Nat)(hi:i<T.length):(i8 T i q y).getD k t0=if k=i then((T.getD i t0).1,(T.getD i t0).2.1.set q y,(T.getD i t0).2.2) else T.getD k t0:=by
 rw[aE,List.getElem?_set];by_cases e:i=k
 ·subst e;rw[aI rfl,aI hi,aI rfl];rfl
 ·rw[aG e,aG (fun c=>e c.symm),<-aE]
theorem Kc (T:List cD)(i q:Nat)(y:Int×Int)(hi:i<T.length)(k:Nat):cv (i8 T i q y) k↔cv T k:=by
 unfold cv;rw[AY T i q y k hi,a4];split
 ·rename_i e;rw[e]
 ·exact Iff.rfl
theorem d3.set (h:d3 s j){v y:Int×Int}(I:Int)(hv:eZ s.T v)(hy:eZ s.T y):d3 (s.set v I y).2 j:=by
 unfold ck.set;split
 ·rename_i c;have g:jC s.T v=true:=by
   cases e:jC s.T v
   ·unfold ck.fc at c;rw[e,aG Z] at c;omega
   ·rfl
  obtain⟨l,m⟩:=jD.1 g;obtain⟨_,ha⟩:=hv.2 l;generalize v.2.toNat=i at*;have hi:=ha.1;have b:=Kc s.T i I.toNat y hi;have gt:=fun k=>AY s.T i I.toNat y k hi;have tr:∀v,eZ s.T v->_:=fun v hv=>hv.mono (fun _ ha=>(b _).2 ha)
  have k1:∀k,((i8 s.T i I.toNat y).getD k t0).1=(s.T.getD k t0).1:=fun k=>by
   rw[gt k];split
   ·rename_i e;rw[e]
   ·rfl
  have l1:∀k,((i8 s.T i I.toNat y).getD k t0).2.1.length=(s.T.getD k t0).2.1.length:=fun k=>by
   rw[gt k];split
   ·rename_i e;rw[e,a4]
   ·rfl
  have ev:∀e,mD s.T e->mD (i8 s.T i I.toNat y) e:=fun e he=>⟨⟨he.1.1,(b _).2 he.1.2⟩,by rw[k1];exact he.2.1,he.2.2.1,(b _).2 he.2.2.2⟩
  refine {kd:=fun k hk=>?_,fl:=fun k hk hq=>?_,g5:=fun k hk hq=>?_,fv:=fun k hk x d=>?_,tl:=fun k=>?_,rv:=fun x d=>tr x (h.rv x d),rl:=h.rl,gv:=fun e he=>ev e (h.gv e he),wv:=fun e he=>ev e (h.wv e he),en:=h.en,tj:=?_}
  ·rw[k1];exact h.kd k ((b k).1 hk)
  ·rw[k1] at hq;rw[l1];exact h.fl k ((b k).1 hk) hq
  ·rw[k1] at hq;have n:k≠i:=fun e=>m (by rw[<-e];exact hq)
   rw[gt k,aG n];exact h.g5 k ((b k).1 hk) hq
  ·rw[gt k] at d;split at d
   ·rename_i e;rcases List.mem_or_eq_of_mem_set d with f|f
    ·exact tr x (h.fv i ha x f)
    ·rw[f];exact tr y hy
   ·exact tr x (h.fv k ((b k).1 hk) x d)
  ·rw[l1];exact h.tl k
  ·rw[a4];exact h.tj
 ·exact h
theorem d3.root (h:d3 s j)(R:Nat){v:Int×Int}(hv:eZ s.T v):d3 {s with rs:=s.rs.set R v} j:=
 {
  h with
  rv:=fun x b=>(List.mem_or_eq_of_mem_set b).elim (h.rv x) (fun e=>by rw[e];exact hv)
  rl:=by rw[a4];exact h.rl}
theorem uU (s:ck)(i:Nat):s.rs.getD i (0,0)∈s.rs\/s.rs.getD i (0,0)=(0,0):=by
 by_cases c:i<s.rs.length
 ·exact aK (getD_in c)
 ·rw[aE,List.getElem?_eq_none V];exact aJ rfl
theorem d3.rts (h:d3 s j)(b:j<=10000)(hg:dR s.T s.wt (g s.T s.wt)){k R A B n:Int}(hc:dJ k R A B n=0)(I:Int):d3 (s.rt g b_ bZ k A.toNat B.toNat I n).2.2 (j+1)/\eZ (s.rt g b_ bZ k A.toNat B.toNat I n).2.2.T (s.rt g b_ bZ k A.toNat B.toNat I n).1:=by
 have hs:=h.more (Nat.le_succ j)
 have two:∀v∈[s.rs.getD A.toNat (0,0),s.rs.getD B.toNat (0,0)],v∈s.rs\/v=(0,0):=fun v hv=>by
  have:v=s.rs.getD A.toNat (0,0)\/v=s.rs.getD B.toNat (0,0):=by simpa using hv
  rcases this with rfl|rfl
  ·exact uU s _
  ·exact uU s _
 have d:∀x:Int,-1152921504606846976<=x->x<1152921504606846976->eZ s.T (1,x):=fun x w C=>⟨by simp[vc,rc];omega,fun h=>by cases h⟩
 unfold ck.rt;by_cases k1:k=1
 ·rw[aI k1];subst k1;exact⟨hs,AX hc,fun h=>by cases h⟩
 rw[aG k1];by_cases f:k=3
 ·rw[aI f];exact⟨hs,h.rt _⟩
 rw[aG f];by_cases i:k=4
 ·rw[aI i];exact h.pN b hg aa aa Z Z two Z
 rw[aG i];by_cases k5:k=5
 ·rw[aI k5];subst k5;have hn:=AW hc;exact h.pN b hg aa aa Z Z (fun v hv=>by rw[(List.mem_replicate.1 hv).2];exact uU s _) (by rw[List.length_replicate];omega)
 rw[aG k5];by_cases k6:k=6
 ·rw[aI k6];exact h.pN b hg aa aa Z Z two Z
 rw[aG k6];by_cases l:k=7
 ·rw[aI l];exact h.pN b hg aa aa Z Z two Z
 rw[aG l];by_cases m:k=8
 ·rw[aI m];exact h.pN b hg aa aa Z Z Z Z
 rw[aG m];by_cases o:k=10
 ·rw[aI o];have:=h.pop b (s.rs.getD A.toNat (0,0))
  exact⟨this.1.more (Nat.le_succ _),this.2⟩
 rw[aG o];by_cases p:k=11
 ·rw[aI p];refine⟨hs,?_⟩
  split
  ·rename_i c;by_cases e:jC s.T (s.rs.getD A.toNat (0,0))=true
   ·obtain⟨u,_⟩:=jD.1 e;by_cases ci:I.toNat<(s.T.getD (s.rs.getD A.toNat (0,0)).2.toNat t0).2.1.length
    ·exact h.fv _ ((h.rt A.toNat).2 u).2 _ (getD_in ci)
    ·rw[aE,List.getElem?_eq_none V];exact kS _
   ·unfold ck.fc at c;rw[aG e] at c;omega
  ·exact kS _
 rw[aG p];by_cases q:k=13
 ·rw[aI q];split
  ·refine⟨hs,d _ V ?_⟩
   have:=h.tl (s.rs.getD A.toNat (0,0)).2.toNat;omega
  ·exact⟨hs,kS _⟩
 rw[aG q];by_cases t:k=14
 ·rw[aI t];refine⟨hs,?_⟩
  split
  ·exact d _ aa aa
  ·exact d _ aa aa
 rw[aG t];exact⟨hs,kS _⟩
theorem d3.ij (h:d3 s j)(b:j<=10000)(hg:dR s.T s.wt (g s.T s.wt))(k R A B I n:Int):d3 (s.ij g b_ bZ k R A B I n).2 (j+1):=by
 have hs:=Nat.le_succ j;unfold ck.ij;by_cases hc:dJ k R A B n=0
 ·rw[aI hc];split
  ·exact(h.reg (h.rt _) (h.rt _)).more hs
  ·split
   ·exact(h.set I (h.rt _) (h.rt _)).more hs
   ·split
    ·exact(h.cut b hg _ _).more hs
    ·split
     ·exact(h.cut b hg _ _).more hs
     ·have hr:=h.rts b hg hc I (b_:=b_) (bZ:=bZ)
      split
      ·exact hr.1.root _ hr.2
      ·exact hr.1
 ·rw[aG hc];exact h.more hs
end
theorem d3.start:d3 ⟨[],List.replicate 12 (0,0),[],[]⟩ 0:=
 ⟨fun i hi=>absurd hi.1 Z,fun i hi=>absurd hi.1 Z,fun i hi=>absurd hi.1 Z,fun i hi=>absurd hi.1 Z,fun i=>by simp[t0],fun v hv=>by rw[(List.mem_replicate.1 hv).2];exact kS _,Z,fun e he=>by simp at he,fun e he=>by simp at he,Z,Z⟩
open Go.RowKit W
theorem Kd (c a:Int)(w:ax):
 Calls prog 39 #[ah c,ah a] w fun e w'=>e=.returned (.agg #[ah c,ah a])/\Below w.heap.size w w':=by
 go_enter func39,ntmps39;go_wp2_with fail;exact a3 (v:=.agg #[ah c,ah a]) (by simp[results,results39,go_sem]) rfl ⟨rfl,bX.alloc bW _⟩
theorem Ke (n o:Int)(w:ax)(h0:16<=n)(b:n<=256)(c:0<=o)(d:o<=1024):
 Calls prog 14 #[ah n,ah o] w fun e w'=>e=.returned (.agg #[ah 0,ah 0])/\Below w.heap.size w w':=by
 go_enter func14,ntmps14;go_wp2_with fail;exact a3 (v:=.agg #[ah 0,ah 0]) (by simp[results,results14,go_sem]) rfl ⟨rfl,bX.alloc bW _⟩
theorem Kh (n o:Int)(w:ax)(h:n<16\/256<n\/o<0\/1024<o):
 Calls prog 14 #[ah n,ah o] w fun e w'=>e=.returned (.agg #[ah 1,ah (-1)])/\Below w.heap.size w w':=by
 have fin:∀(R:Ending->ax->Prop),(∀w1,Below (w.alloc (.cells #[.int .i64 0,.int .i64 0] 28)).heap.size (w.alloc (.cells #[.int .i64 0,.int .i64 0] 28)) w1->R (.returned (.agg #[ah 1,ah (-1)])) w1)->Calls prog 39 #[ah 1,ah (-1)] (w.alloc (.cells #[.int .i64 0,.int .i64 0] 28)) R:=by
  intro R b;refine(Kd 1 (-1) _).mono ?_;rintro e w1 ⟨rfl,hb⟩
  exact b w1 hb
 by_cases c:n<16
 ·go_enter func14,ntmps14;exact uP
 by_cases d:256<n
 ·go_enter func14,ntmps14;exact uP
 by_cases f:o<0
 ·go_enter func14,ntmps14;exact uP
 have g:1024<o:=V;go_enter func14,ntmps14;go_wp2_with fail;refine fin _ ?_;intro w1 hb;obtain⟨c0,c1,hz⟩:=vV hb;obtain⟨_,hf⟩:=nJ hb;have f0:=hf w.heap.size 0 Z;have f1:=hf w.heap.size 1 Z;simp[go_sem] at f0 f1;go_wp2;exact a3 (v:=.agg #[ah 1,ah (-1)]) (by simp[results,results14,go_sem,c0,c1]) rfl ⟨rfl,(((bX.alloc bW _).trans (hb.mono Z)).setCell bW _).setCell bW _⟩
theorem Ki (T:List cD)(wt:List b7)(l:List _):ip (tI T.length) (gP T) (gQ T wt) ([],[]) (dU.ez T wt l).2 (dU.ez T wt l).1:=
 pV (jG _) (e9.start _) (by rw[nm];simp) _
theorem Kj {T:List cD}{wt:List b7}(hw:nn T wt)(l:List _):(dU.ez T wt l).1.length=l.length/\(dU.ez T wt l).2.2.length<=10000/\∀nd∈(dU.ez T wt l).2.2,nd.2.length<=20000:=by
 have hv:=Ki T wt l;refine⟨?_,?_,fun nd b=>?_⟩
 ·unfold dU.ez;rw[nH,aW]
 ·rw[hv.ok.len];refine aT hv.ok.le ?_;rw[nm];exact hw.l1
 ·obtain⟨i,hi,e⟩:=List.mem_iff_getElem.1 b;obtain⟨c,q1,_,q3,_⟩:=hv.nw i (aY _) (by rw[<-hv.ok.len];exact hi)
  rw[aL hi,e] at q1;have q1:nd=c:=by simpa using q1
  rw[q1,q3];unfold gQ;have d:=hw.tl ((dU.ez T wt l).2.1.getD i 0).toNat;have f:=hw.l2;rw[aZ,aW];split
  ·rw[aW];have:=bm (fun e:b7=>e.1==(dU.ez T wt l).2.1.getD i 0) wt;omega
  ·rw[List.length_nil];omega
section
variable {w:ax}{p:Nat}{T:List cD}{wt:List b7}{is:List Bool}
end
section
variable {rp rb:Nat}{b_ bZ:Int}{F:Nat->Prop}{s:ck}{w:ax}
end
section
variable {w:ax}{s:ck}{db mb xb:Nat}{v0 v1 v2:Value}{b_ bZ:Int}{D:List Bool}{wr:ax}{Kk:Option Addr}{ci:Nat}{L M:List Bool}{C:List b7}
end
section
variable {rp rb:Nat}{b_ bZ:Int}{F:Nat->Prop}{s:ck}{w:ax}
end
end Go.Proofs.YtpkjkjhanlbcoaaGreat
