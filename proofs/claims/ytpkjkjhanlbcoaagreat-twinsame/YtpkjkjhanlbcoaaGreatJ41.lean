import Derived.Test.YtpkjkjhanlbcoaaGreatJ40
namespace Go.Proofs.YtpkjkjhanlbcoaaGreat
set_option maxRecDepth 100000
set_option maxHeartbeats 4000000
open Tryz
open Go.RowKit W Kp cf
def pM (w0:ax)(b ch bY:Nat)(T:List cD)(M:cQ->Int->cQ)(n:Nat):Prop:=
 ∀(w:ax)(s:cQ)(d:Value)(m:List dT)(a:Int),fg w0 w b ch bY s d m->e9 (tI T.length) s->0<=a/\cv T a.toNat->a∉s.1->T.length<=s.1.length+n->
  Calls prog 251 #[aj b,ah a] w fun e w'=>∃f c,e=.returned (ah s.1.length)/\fg w0 w' b ch bY (M s a) f c/\fI w0 w m w' c
def mC (s:cQ)(a:Int):Int:=if s.1.contains a=true then(s.1.idxOf a:Int) else s.1.length
def mD (M:cQ->Int->cQ)(s:cQ)(a:Int):cQ:=if s.1.contains a=true then s else M s a
theorem JM {T:List cD}{M:cQ->Int->cQ}{s:cQ}{v:Int×Int}(h:eZ T v)(b:v.1=3):eg M (tI T.length) s (gq v)=((3,mC s v.2),mD M s v.2):=by
 unfold mC mD;cases hs:s.1.contains v.2
 ·rw[HG h b hs,aG Z,aG Z]
 ·rw[HE h b hs,aI rfl,aI rfl]
theorem JN (w:ax):(zeroValue 2).run prog w=.ok (ah 0) w:=ae
section
variable {w0 w:ax}{kb ch bY n:Nat}{T:List cD}{kd:Int->Int}{sh:Int->List Int}{M:cQ->Int->cQ}{s:cQ}{vn:Value}{m:List dT}
theorem JO (hM:pM w0 kb ch bY T M n)(h:fg w0 w kb ch bY s vn m)(ho:e9 (tI T.length) s)(hn:T.length<=s.1.length+n)(a:Int)(ha:0<=a/\cv T a.toNat)(o:T.length<=10000):
 Calls prog 240 #[aj kb,ah a] w fun e w'=>∃d c,e=.returned (ah (mC s a))/\fg w0 w' kb ch bY (mD M s a) d c/\fI w0 w m w' c:=by
 have H:=hide h;have k:=hide hM;obtain⟨c0,c1,c2,lk⟩:=h.cells;have al:a<10000:=by have:=ha.2.1;omega
 have L:=h.mp.look_ok (t:=229) (e:=2) Tryz.underlying229 (JN w) (x:=a) ha.1 V;by_cases b:a∈s.1
 ·rw[JJ b] at L;have f:mC s a=(s.1.idxOf a:Int):=by unfold mC;rw[aI (by simpa using b)]
  have g:mD M s a=s:=by unfold mD;rw[aI (by simpa using b)]
  rw[f,g];generalize s.1.idxOf a=j at L⊢;go_enter func240,ntmps240;go_wp2;go_ret;exact⟨vn,m,rfl,H.out,fI.refl _ _ _⟩
 ·rw[AH b] at L;have f:mC s a=s.1.length:=by unfold mC;rw[aG (by simpa using b)]
  have g:mD M s a=M s a:=by unfold mD;rw[aG (by simpa using b)]
  rw[f,g];have P:=k.out w s vn m a H.out ho ha b hn;generalize M s a=p at P⊢;generalize s.1.length=j at P⊢;go_enter func240,ntmps240;go_wp2_with fail;refine P.mono ?_;rintro e w1 ⟨d,c,rfl,l,k1⟩
  have i:=dq l k1;go_wp2;go_ret;exact⟨d,c,rfl,i.out.1,i.out.2⟩
theorem AI (hM:pM w0 kb ch bY T M n)(bg:kY (tI T.length) kd sh n M)(h:fg w0 w kb ch bY s vn m)(ho:e9 (tI T.length) s)(hn:T.length<=s.1.length+n)(bi:T.length<=10000)(l:List (Int×Int))(hq:∀v∈l,eZ T v)(ad:Option Addr)(cap:Nat)(hl:fj w ad l)(hm:l.length<=100000):
 Calls prog 211 #[aj kb,.slice ad l.length cap] w fun e w'=>∃b0 W a2 c2,e=.returned (.slice a2 l.length c2)/\w'.ownsRow w.heap.size 97 2 (.slice a2 l.length c2) l.length (ev (dz M (tI T.length) s (l.map gq)).1)/\fg w0 w' kb ch bY (dz M (tI T.length) s (l.map gq)).2 b0 W/\fI w0 w m w' W/\(∀k,fp W k->some k≠(Value.slice a2 l.length c2).ownBlock):=by
 obtain⟨X,hi,Y,ab,ag⟩:=info_parts rA;have b1:=hide hM;have b2:=hide bg;have b3:=hide hl;have N:=hide h;have b5:=dq ho hn;have b6:=hide hq;have b7:=hide bi;clear hM bg hl h ho hq hn bi;go_enter func211,ntmps211;go_wp2_with (at_make;refine wpList_make_own _ rfl _ _ 57 rfl w.heap.size 97 X (.agg #[ah 0,ah 0]) 2 Tryz.underlying57 hi Y ab .i64 .i64 _ l.length rfl rfl rfl (by rw[ag];omega) (by unfold maxLen;omega) bW ?_;intro w1 bl bn)
 have ai:=(av w).grown bn bW (fun k e=>by cases e)
 go_loopw [5,13] (fun tv iv wr=>∃(j:Nat)(i:List (Int×Int))(s1:cQ)(O:Value)(m1:List dT)(a2:Option Addr)(c2:Nat),j<=l.length/\iv=ah j/\ay (dz M (tI T.length) s ((l.take j).map gq)=(i,s1))/\tv=.slice a2 j c2/\wr.ownsRow w.heap.size 97 2 (.slice a2 j c2) j (ev i)/\ay (fg w0 wr kb ch bY s1 O m1)/\ay (fI w0 w m wr m1)/\ay (∀k,fp m1 k->some k≠(Value.slice a2 j c2).ownBlock)/\ay (e9 (tI T.length) s1/\T.length<=s1.1.length+n)) (fun _ iv _=>l.length-(intOf iv).toNat)
 ·exact⟨0,[],s,vn,m,_,_,aZ _,rfl,rfl,rfl,bl,N.out.below ai,fI.of ai,fun k hk e=>by have:=N.out.fb k hk;simp[Value.ownBlock] at e;omega,b5.out⟩
 ·
   obtain⟨j,i,s1,O,m1,a2,c2,b,rfl,al,rfl,q,u,A,Q,B⟩:=hrel;clear bl bn ai;by_cases am:j<l.length
   ·obtain⟨cm,co,b8,cp,hc⟩:=(b3.out.mB A.out.1).1 V;obtain⟨b9,ca⟩:=hc j am;subst b8;clear hc;have R:=b6.out _ (getD_in (x:=(0,0)) am)
    have o:=rU M (tI T.length) s ((l.take j).map gq) (gq (l.getD j (0,0)))
    rw[al.out] at o;have bo:(l.take (j+1)).map gq=(l.take j).map gq++[gq (l.getD j (0,0))]:=by rw[gx l j am (0,0),List.map_append];rfl
    rw[<-bo] at o;have G:=oG b2.out B.out.1 (by rw[nm];exact B.out.2) (gq (l.getD j (0,0)))
    have C:ay (_/\T.length<=(eg M (tI T.length) s1 (gq (l.getD j (0,0)))).2.1.length+n):=⟨G.ok,by have:=G.le;have:=B.out.2;omega⟩
    have o:=hide o;clear G bo;generalize l.getD j (0,0)=v at*;obtain⟨v0,v1⟩:=v;dsimp only at b9 ca;have cq:IntKind.i64.wrap ((j:Int)+1)=(j:Int)+1:=by rw[bk];omega
    have d:=au wr (.cells #[.int .i64 v0,.int .i64 v1] 97)
    have an:=aN wr (.cells #[.int .i64 v0,.int .i64 v1] 97)
    have cr:=A.out.1.size;by_cases bp:v0=3
    ·subst bp;have S:=JM (M:=M) (s:=s1) R rfl;rw[S] at o C;dsimp only at o C;have P:=JO b1.out (u.out.below d) B.out.1 B.out.2 v1 (R.2 rfl) b7.out;clear S R;generalize mC s1 v1=z at*;generalize mD M s1 v1=s2 at*;go_wp2_with fail;refine P.mono ?_;rintro e f ⟨cb,D,rfl,cc,E⟩
     have br:=(E.1.h9 _ _ _ _ an aa aa).trans an;obtain⟨cd,y1,ce,cf⟩:=di br;have bs:=cH q (fun k hk=>by obtain⟨U,F⟩:=e5 q k hk;have bt:=d.block k (cn q k hk).2;exact(E.1.h9 k _ _ _ (bt.trans F) aa aa).trans bt)
     have bx:ay (∀k,fp D k->_):=fun k hk e=>(E.2 k hk).elim (fun c=>Q.out k c e) (fun c=>by have:=(cn q k e).2;simp at c;omega)
     have bZ:fI w0 wr m1 f D:=(fI.of d).trans E;have cg:¬fp D wr.heap.size:=fun c=>(E.2 _ c).elim (fun c=>by have:=u.out.fb _ c;omega) (fun c=>by simp at c;omega)
     have ao:Fr (fun k=>k=wr.heap.size) f (f.setCell ⟨wr.heap.size,1,none⟩ (.int .i64 z)):=(Fr.refl (fun k=>k=wr.heap.size) f).set wr.heap.size 1 _ rfl;have H:=hide (cc.but ao (fun k _ e=>by have e:=e;rw[e];exact⟨⟨_,br⟩,cg,by have:=u.out.eH.size;omega⟩))
     have ap:=hide (A.out.trans (bZ.new ao (fun k e=>by have e:k=wr.heap.size:=e;omega)))
     have I:(f.setCell ⟨wr.heap.size,1,none⟩ (.int .i64 z)).ownsRow w.heap.size 97 2 (.slice a2 j c2) j (ev i):=cH bs (fun k hk=>ao.block k (cn bs k hk).2 (fun c=>by have c:k=wr.heap.size:=c;have:=(cn q k hk).2;omega))
     have q0:(f.setCell ⟨wr.heap.size,1,none⟩ (.int .i64 z)).cell? (aq wr.heap.size 0)=some (ah 3):=(a5 f ⟨wr.heap.size,1,none⟩ ⟨wr.heap.size,0,none⟩ _ Z).trans cd;have q1:(f.setCell ⟨wr.heap.size,1,none⟩ (.int .i64 z)).cell? (aq wr.heap.size 1)=some (ah z):=bf _ _ _ y1;have ci:(f.setCell ⟨wr.heap.size,1,none⟩ (.int .i64 z)).heap.size=f.heap.size:=by simp[World.setCell]
     have cj:=ce 1;have ck:=bZ.1.size
     go_upto_region 7 with fail
     generalize f.setCell ⟨wr.heap.size,1,none⟩ (.int .i64 z)=t at*;have p:=hide I;have cs:w.heap.size<=t.heap.size:=V;clear y1 cj cf ci ck;go_wp2_with (at_builtin;refine wpList_append_own_at _ rfl _ _ 57 rfl w.heap.size 97 X (.agg #[.int .i64 0,.int .i64 0]) 2 16 Tryz.underlying57 hi Y ab ag rfl aa (.slice a2 j c2) j (ev i) rfl (ga I _) ⟨t.heap.size,0,none⟩ 1 1 [.int .i64 3,.int .i64 z] rfl rfl ?_ ?_ ?_ ?_ ?_ ?_;(intro j ar b;match j,b with|0,b=>(simp at b;subst b;simp[Addr.add])|1,b=>(simp at b;subst b;simp[Addr.add]));(intro ar g;simp at g;rcases g with g|g<;>(subst g;rfl));(unfold maxLen;omega);omega;(simp;omega);intro cl aB J aF _ aR;obtain⟨b4,K,aV⟩:=eU J (Nat.succ_pos _);subst aV)
     have a0:aB.ownsRow w.heap.size 97 2 (.slice (ak b4) (j+1) K) (j+1) (ev (i++[(3,z)])):=by rw[iV];simpa[ev] using J
     have d:=au t (.cells #[.int .i64 3,.int .i64 z] 97)
     have L:=(Fr.refl _ _).grown aF (fun k e=>aK e.symm)
     have a1:=hide ((H.out.below d).but L (fun k _ e=>by obtain⟨U,F⟩:=e5 p.out k e;exact⟨⟨U,(d.block k (cn p.out k e).2).trans F⟩,fun c=>bx.out k c e,aT N.out.eH.size (cn p.out k e).1⟩))
     have bb:=hide ((ap.out.trans (fI.of d)).new L (fun k e=>(cn p.out k e).1))
     have bd:=aR.imp id (fun e=>by simpa[Value.ownBlock] using e)
     have be:ay (∀k,fp D k->some k≠some b4):=fun k hk e=>bd.elim (fun c=>bx.out k hk (e.trans c)) (fun c=>by have:=H.out.fb k hk;simp at e;omega)
     go_wp2_with fail;go_roundw;exact⟨j+1,i++[(3,z)],s2,cb,D,ak b4,K,V,af,o,rfl,a0,a1,bb,be,C⟩
     simp[intOf];omega
    ·have S:=HD (M:=M) (s:=s1) R bp;rw[S] at o C;have H:=hide (u.out.below d)
     have ap:=hide (A.out.trans (fI.of d))
     have I:=cH q (fun k hk=>d.block k (cn q k hk).2)
     obtain⟨q0,q1,_,_⟩:=di an
     go_upto_region 7 with fail
     generalize wr.alloc (.cells #[.int .i64 v0,.int .i64 v1] 97)=t at*;have p:=hide I;go_wp2_with (at_builtin;refine wpList_append_own_at _ rfl _ _ 57 rfl w.heap.size 97 X (.agg #[.int .i64 0,.int .i64 0]) 2 16 Tryz.underlying57 hi Y ab ag rfl aa (.slice a2 j c2) j (ev i) rfl (ga I _) ⟨t.heap.size,0,none⟩ 1 1 [.int .i64 v0,.int .i64 v1] rfl rfl ?_ ?_ ?_ ?_ ?_ ?_;(intro j ar b;match j,b with|0,b=>(simp at b;subst b;simp[Addr.add])|1,b=>(simp at b;subst b;simp[Addr.add]));(intro ar g;simp at g;rcases g with g|g<;>(subst g;rfl));(unfold maxLen;omega);omega;(simp;omega);intro cl aB J aF _ aR;obtain⟨b4,K,aV⟩:=eU J (Nat.succ_pos _);subst aV)
     have a0:aB.ownsRow w.heap.size 97 2 (.slice (ak b4) (j+1) K) (j+1) (ev (i++[(v0,v1)])):=by rw[iV];simpa[ev] using J
     have d:=au t (.cells #[.int .i64 v0,.int .i64 v1] 97)
     have L:=(Fr.refl _ _).grown aF (fun k e=>aK e.symm)
     have a1:=hide ((H.out.below d).but L (fun k _ e=>by obtain⟨U,F⟩:=e5 p.out k e;exact⟨⟨U,(d.block k (cn p.out k e).2).trans F⟩,fun c=>Q.out k c e,aT N.out.eH.size (cn p.out k e).1⟩))
     have bb:=hide ((ap.out.trans (fI.of d)).new L (fun k e=>(cn p.out k e).1))
     have bd:=aR.imp id (fun e=>by simpa[Value.ownBlock] using e)
     have be:ay (∀k,fp m1 k->some k≠some b4):=fun k hk e=>bd.elim (fun c=>Q.out k hk (e.trans c)) (fun c=>by have:=H.out.fb k hk;simp at e;omega)
     go_wp2_with fail;go_roundw;exact⟨j+1,i++[(v0,v1)],s1,O,m1,ak b4,K,V,af,o,rfl,a0,a1,bb,be,C⟩
     simp[intOf];omega
   ·obtain rfl:j=l.length:=V;rw[bu] at al;go_wp2_with fail;go_ret;rw[al.out];exact⟨O,m1,a2,c2,rfl,q,u.out,A.out,Q.out⟩
end
theorem JP:(prog.info? 107).map (fun i=>(i.zero,i.size,i.bytes))=some (some (.agg #[ah 0,.slice none 0 0]),2,32):=ae
section
variable {w0 w w' w'':ax}{kb ch bY n:Nat}{s:cQ}{vn:Value}{m:List dT}
theorem fg.turned (h:fg w0 w kb ch bY s vn m)(f:Fr (fun k=>k=ch) w w'):fB w0.heap.size w w'/\w'.heap[kb]?=some (.cells #[aj bY,.map (some ch),vn] 231 (0,0))/\w'.ownsRow w0.heap.size 107 2 vn m.length (nv m)/\(∀x∈m,fj w' x.2.1 x.2.2.2)/\aw w0 w':=by
 obtain⟨g,i,hb⟩:=h.mp.blk;have hk:fB w0.heap.size w w':=⟨f.os,f.tape,f.output,f.size,fun k hk hl=>f.block k hk (fun e=>by have e:k=ch:=e;have:=h.lo.2;omega),fun k j e mm hk _ _=>f.block k (lt_of_some hk) (fun c=>by have c:k=ch:=c;rw[c,hb] at hk;simp at hk)⟩
 refine⟨hk,(f.block kb (lt_of_some h.blk) (fun c=>?_)).trans h.blk,cH h.row (fun k e=>f.block k (cn h.row k e).2 (fun c=>?_)),fun x d=>(h.fl x d).mB hk,h.eH.trans (hk.below h.eH.size)⟩
 ·have c:kb=ch:=c;have:=h.blk;rw[c,hb] at this
  simp at this
 ·have c:k=ch:=c;obtain⟨l,b⟩:=e5 h.row k e;rw[c,hb] at b;simp at b
end
theorem fg.grown {w0 w t g:ax}{b ch bY:Nat}{ms:List Int}{u:List (Int×List (Int×Int))}{j l:Value}{m:List dT}{kd:Int}
 (hk:w.heap[b]?=some (.cells #[aj bY,.map (some ch),j] 231 (0,0)))(lo:w0.heap.size<=b/\w0.heap.size<=ch)(hm:es w ch ms.length (kA ms))(hr:w.ownsRow w0.heap.size 107 2 j m.length (nv m))(v:hY m=u)(B:∀x∈m,fj w x.2.1 x.2.2.2)(hb:aw w0 w)
 (i:aw w t)(A:g.ownsRow w0.heap.size 107 2 l (m.length+1) (nv m++[ah kd,.slice none 0 0]))(g4:t.grownBy g j.ownBlock):
 fg w0 (g.setCell ⟨b,2,none⟩ l) b ch bY (ms,u++[(kd,[])]) l (m++[(kd,none,0,[])])/\fI w0 w m (g.setCell ⟨b,2,none⟩ l) (m++[(kd,none,0,[])])/\g.heap[b]?=some (.cells #[aj bY,.map (some ch),j] 231 (0,0)):=by
 have C:=hm;obtain⟨G,H,n⟩:=hm.blk;have D:fB w0.heap.size w g:=(fB.of i).trans (fB.grown g4 (fun k e=>⟨(cn hr k e.symm).1,fun I ty mm hc=>by obtain⟨q,f⟩:=e5 hr k e.symm;have:=(i.block k (lt_of_some f)).trans f;rw[this] at hc;simp at hc;exact aJ hc.2.1.symm⟩))
 have p:g.heap[b]?=some (.cells #[aj bY,.map (some ch),j] 231 (0,0)):=(g4.block b (aM (lt_of_some hk) i.size) (fun e=>by obtain⟨q,f⟩:=e5 hr b e;rw[hk] at f;simp at f)).trans ((i.block b (lt_of_some hk)).trans hk)
 have s:fB w0.heap.size w (g.setCell ⟨b,2,none⟩ l):=D.trans (fB.set p (aK rfl) lo.1)
 have E:ch≠b:=fun e=>by rw[e,hk] at n;simp at n
 have F:(nv (m++[(kd,none,0,[])]:List dT))=nv m++[ah kd,.slice none 0 0]:=by rw[vY];rfl
 refine⟨⟨?_,lo,?_,?_,?_,fun x d=>?_,hb.trans (s.below hb.size)⟩,⟨s,fun k hk=>?_⟩,p⟩
 ·simp only [World.setCell,Array.getElem?_modify,if_true,p,Option.map_some];rfl
 ·refine C.same ((aU _ _ _ _ E).trans ((g4.block ch (aM (lt_of_some n) i.size) (fun e=>?_)).trans (i.block ch (lt_of_some n))))
  obtain⟨q,f⟩:=e5 hr ch e;rw[n] at f;simp at f
 ·rw[F,aX];refine cH A (fun k e=>aU _ _ _ _ (fun c=>?_))
  have c:k=b:=c;obtain⟨q,f⟩:=e5 A k e;rw[c,p] at f;simp at f
 ·simp[hY] at v⊢;exact v
 ·rcases List.mem_append.1 d with d|d
  ·exact(B x d).mB s
  ·simp at d;subst d;exact fj.nil
 ·obtain⟨x,d,hl,o,e⟩:=hk;rcases List.mem_append.1 d with d|d
  ·exact aK ⟨x,d,hl,o,e⟩
  ·simp at d;subst d;simp at hl
theorem fg.filled {w0 w:ax}{f ch bY g cap len:Nat}{s:cQ}{m:List dT}(h:fg w0 w f ch bY s (.slice (ak g) len cap) m){i:Nat}{k0:Int}{v0:List (Int×Int)}(hi:s.2[i]?=some (k0,v0)){base c2:Nat}{a2:Option Addr}{b:List (Int×Int)}
 (hr:w.ownsRow base 97 2 (.slice a2 b.length c2) b.length (ev b)):
 fg w0 (w.setCell ⟨g,i*2+1,none⟩ (.slice a2 b.length c2)) f ch bY (s.1,s.2.set i (k0,b)) (.slice (ak g) len cap) (m.set i (k0,a2,c2,b))/\fB w0.heap.size w (w.setCell ⟨g,i*2+1,none⟩ (.slice a2 b.length c2))/\(∀k,fp (m.set i (k0,a2,c2,b)) k->fp m k\/base<=k):=by
 obtain⟨q,j⟩:=e5 h.row g rfl;have hg:=(cn h.row g rfl).1;have d:fB w0.heap.size w (w.setCell ⟨g,i*2+1,none⟩ (.slice a2 b.length c2)):=fB.set j (aJ rfl) hg;obtain⟨x,hx,l⟩:∃x:dT,m[i]?=some x/\(x.1,x.2.2.2)=(k0,v0):=by exact xW
 have n:x.1=k0:=congrArg Prod.fst l;have p:len=m.length:=by
  rcases h.row.2 with⟨hv,_⟩|⟨t,u,v,hv,_⟩
  ·simp at hv
  ·simp at hv;exact hv.2.1
 refine⟨⟨(aU _ _ _ _ (fun c=>?_)).trans h.blk,h.lo,h.mp.same (aU _ _ _ _ (fun c=>?_)),?_,?_,fun y hy=>?_,h.eH.trans (d.below h.eH.size)⟩,d,fun k hk=>?_⟩
 ·have c:f=g:=c;have:=h.blk;rw[c,j] at this
  simp at this
 ·have c:ch=g:=c;obtain⟨A,B,hb⟩:=h.mp.blk;rw[c,j] at hb;simp at hb
 ·rw[a4,<-n,sc m i x a2 c2 b hx];have:=h.row;rw[<-p] at this⊢
  exact nQ this _ _
 ·rw[hY,List.map_set];show((hY m).set i (k0,b))=_;rw[h.nd]
 ·rcases List.mem_or_eq_of_mem_set hy with hy|hy
  ·exact(h.fl y hy).mB d
  ·subst hy;exact(fj.of hr).mB d
 ·obtain⟨y,hy,hl,o,e⟩:=hk;exact xV
theorem JQ {T:List cD}{x:Int}(h:0<=x/\cv T x.toNat)(b:T.length<=10000):eZ T (3,x):=by
 refine⟨?_,fun _=>h⟩
 have c:=h.2.1;have d:=h.1;dsimp only;rw[rZ];unfold rc;rw[aG V,aG V]
theorem JR {T:List cD}{wt:List b7}(hv:nn T wt){a:Int}(ha:0<=a/\cv T a.toNat):∀v∈gG T wt a,eZ T v:=fun v h=>by
 unfold gG at h;split at h
 ·obtain⟨x,b,rfl⟩:=List.mem_map.1 h;unfold ef at b;obtain⟨e,he,rfl⟩:=List.mem_map.1 b;exact JQ (hv.wv e (List.mem_filter.1 he).1).2 hv.l1
 ·exact hv.fv _ ha.2 v h
theorem JS {T:List cD}{wt:List b7}(hv:nn T wt)(a:Int):(gG T wt a).length<=20000:=by
 unfold gG;split
 ·rw[aW];have b:=oU wt a;have c:=hv.l2;omega
 ·have:=hv.tl a.toNat;omega
section
variable {w0:ax}{kb ch bY:Nat}{b_ bZ:Int}{l:gF}{S:ck}
theorem JT (hg:dS bY b_ bZ l S w0)(hv:nn S.T S.wt)(D:∀i,cv S.T i->(S.T.getD i t0).1=5->(S.T.getD i t0).2.1=[])(n:Nat)(M:cQ->Int->cQ)(hM:pM w0 kb ch bY S.T M n)(O:kY (tI S.T.length) (gP S.T) (gQ S.T S.wt) n M):
 pM w0 kb ch bY S.T (fun s a=>((dz M (tI S.T.length) (s.1++[a],s.2++[(gP S.T a,[])]) (gQ S.T S.wt a)).2.1,(dz M (tI S.T.length) (s.1++[a],s.2++[(gP S.T a,[])]) (gQ S.T S.wt a)).2.2.set s.1.length (gP S.T a,(dz M (tI S.T.length) (s.1++[a],s.2++[(gP S.T a,[])]) (gQ S.T S.wt a)).1))) (n+1):=by
 intro w s cC m a h ho ha hn hl;obtain⟨b5,hi,b6,b7,b8⟩:=info_parts JP;have Q:a∈tI S.T.length:=pH.2 ⟨ha.1,by have:=ha.2.1;have:=ha.1;omega⟩
 have aB:=hv.l1;have b9:=ho.lt Q hn;rw[nm] at b9;have al:a<10000:=by have:=ha.2.1;omega
 have ca:m.length=s.1.length:=by rw[h.len,ho.len]
 have U:=ho.more Q hn (gP S.T a,[])
 have E:=nH M (tI S.T.length) (s.1++[a],s.2++[(gP S.T a,[])]) (gQ S.T S.wt a)
 have G:=pV O U (by rw[nm];simp;omega) (gQ S.T S.wt a)
 have aF:(dz M (tI S.T.length) (s.1++[a],s.2++[(gP S.T a,[])]) (gQ S.T S.wt a)).2.2[s.1.length]?=some (gP S.T a,[]):=by rw[G.old s.1.length Z,List.getElem?_append_right (by rw[ho.len];exact aD _),ho.len];simp
 have cD:s.1.length<(dz M (tI S.T.length) (s.1++[a],s.2++[(gP S.T a,[])]) (gQ S.T S.wt a)).2.1.length:=by
  have:=G.le;simp at this
  omega
 have cb:(dz M (tI S.T.length) (s.1++[a],s.2++[(gP S.T a,[])]) (gQ S.T S.wt a)).2.2.length=(dz M (tI S.T.length) (s.1++[a],s.2++[(gP S.T a,[])]) (gQ S.T S.wt a)).2.1.length:=G.ok.len;have W:=JK (wt:=S.wt) (D _ ha.2)
 have aR:(gG S.T S.wt a).length=(gQ S.T S.wt a).length:=by rw[<-W,aW]
 have aV:ay (∀(b:ax)(a0:Value)(X:List dT)(ad:Option Addr)(cap:Nat),fg w0 b kb ch bY (s.1++[a],s.2++[(gP S.T a,[])]) a0 X->fj b ad (gG S.T S.wt a)->
  Calls prog 211 #[aj kb,.slice ad (gG S.T S.wt a).length cap] b fun e w'=>∃cc Y a2 c2,e=.returned (.slice a2 (gG S.T S.wt a).length c2)/\w'.ownsRow b.heap.size 97 2 (.slice a2 (gG S.T S.wt a).length c2) (gG S.T S.wt a).length (ev (dz M (tI S.T.length) (s.1++[a],s.2++[(gP S.T a,[])]) (gQ S.T S.wt a)).1)/\fg w0 w' kb ch bY (dz M (tI S.T.length) (s.1++[a],s.2++[(gP S.T a,[])]) (gQ S.T S.wt a)).2 cc Y/\fI w0 b X w' Y/\(∀k,fp Y k->some k≠(Value.slice a2 (gG S.T S.wt a).length c2).ownBlock)):=
  fun b a0 X ad cap D cd=>by
   have P:=AI hM O D U (by simp;omega) aB (gG S.T S.wt a) (JR hv ha) ad cap cd (by have:=JS hv a;omega)
   rw[W] at P;exact P
 have a1:ay (∀w1,aw w0 w1->w1.cell? (aq kb 0)=some (aj bY)->Calls prog 254 #[aj kb,ah a] w1 fun e w'=>∃ad cap,e=.returned (.slice ad (gG S.T S.wt a).length cap)/\fj w' ad (gG S.T S.wt a)/\aw w1 w'):=
  fun w1 hb hc=>JL (hg.below hb) kb hc a ha aB hv.l2
 have ab:ay (∀w1,aw w0 w1->w1.cell? (aq bY 2)=some (.map (some l.mb))/\(Instr.lookup 184 (.map (some l.mb)) (ah a) false).run prog w1=.ok (.agg #[ah (gP S.T a),.slice (l.fm a.toNat).1 (S.T.getD a.toNat t0).2.1.length (l.fm a.toNat).2]) w1/\bY<w1.heap.size):=fun w1 hb=>by have g1:=hg.below hb;obtain⟨_,_,c2,_,_,_,_,_,ce⟩:=g1.cells;have L:=g1.g2.mp.look (t:=184) (e:=220) Tryz.underlying184 (mr w1) (x:=a) ha.1 V;rw[jb ha] at L;exact⟨c2,L,ce⟩
 have cE:ay (bY<w0.heap.size):=hg.cells.2.2.2.2.2.2.2.2;obtain⟨w1,cf,ag,bb⟩:=h.mp.put (t:=229) (e:=2) Tryz.underlying229 V (x:=a) ha.1 V (.int .i64 s.1.length)
 rw[JH hn] at ag;have bd:Fr (fun k=>k=ch) w w1:=(Fr.refl _ _).grown bb (fun k e=>aK (by cases e;rfl))
 have cg:=h.turned bd;have be:ay (es w1 ch (s.1++[a]).length (kA (s.1++[a]))):=by rw[aX,List.length_singleton];exact ag
 have hlo:=h.lo;obtain⟨u,dF,ci⟩:=eE h.row;subst ci;obtain⟨c0,c1,c2,lk⟩:=h.cells;have bg:ay (hY m=s.2):=h.nd;clear hM O G U hv hg ag bb bd W D ha h ho Q hn hl;dsimp only;generalize dz M (tI S.T.length) (s.1++[a],s.2++[(gP S.T a,[])]) (gQ S.T S.wt a)=R at*;rw[<-aR] at E;clear aR;generalize gG S.T S.wt a=cF at*;obtain⟨cG,cj⟩:=R;dsimp only at*;generalize gP S.T a=kd at*;generalize (S.T.getD a.toNat t0).2.1.length=ck at*;generalize (l.fm a.toNat).1=cl at*;generalize (l.fm a.toNat).2=fc at*;generalize s.1.length=L at*;subst ca;obtain⟨ai,d,am,bi,A⟩:=cg;obtain⟨cm,G2,G3⟩:=ab.out w1 A;obtain⟨_,G4,_⟩:=ab.out w1.drew A.drew;have cn:(Instr.field 220 (.agg #[ah kd,.slice cl ck fc]) 0).run prog w1.drew=.ok (ah kd) w1.drew:=by first|rfl|kernel_rfl|simp[cI]
 have co:w1.cell? (aq kb 0)=some (aj bY):=by simp[World.cell?,d]
 have bl:w1.cell? (aq kb 2)=some (.slice u m.length dF):=by simp[World.cell?,d]
 have bn:w1.frozen? (aq kb 2)=false:=by simp[World.frozen?,d]
 have an:kb<w1.heap.size:=lt_of_some d;have o:ay (_/\_/\_/\_/\_):=⟨ai,d,am,bi,A⟩
 have bo:ay (fI w0 w m w1 m):=⟨ai,fun k h=>aK h⟩
 have bp:some kb≠(Value.slice u m.length dF).ownBlock:=fun e=>by obtain⟨cJ,br⟩:=e5 am kb e;rw[d] at br;simp at br
 have cK:w0.heap.size<=w1.heap.size:=A.size;clear ai d am bi A ab G2;have B:=(au w1 (.cells #[.int .i64 kd,.slice none 0 0] 107)).drew;have bs:ay ((w1.alloc (.cells #[.int .i64 kd,.slice none 0 0] 107)).drew.ownsRow w0.heap.size 107 2 (.slice u m.length dF) m.length (nv m)):=cH (ga o.out.2.2.1 _) (fun _ _=>rfl)
 go_enter func251,ntmps251;go_wp2_with fail;clear cf c0 c1 c2 lk
 go_region_law (refine step_append_lies _ rfl (.tmp 22) (.tmp 34) 58 rfl w0.heap.size 107 b5 (.agg #[ah 0,.slice none 0 0]) 2 32 Tryz.underlying58 hi b6 b7 b8 rfl aa (.slice u m.length dF) m.length (nv m) (by simp[Act.eval]) bs.out ⟨w1.heap.size,0,none⟩ 1 1 [ah kd,.slice none 0 0] (by simp[Act.eval]) rfl ?_ ?_ aa (by unfold maxLen;omega) V (by simp;omega) _ rfl ?_;(intro j cp f;match j,f with|0,f=>(simp at f;subst f;simp[Addr.add])|1,f=>(simp at f;subst f;simp[Addr.add]));(intro cp C;simp at C;rcases C with C|C<;>(subst C;rfl));intro b4 F H bt I cq cr;have cs:=I.cell (a:=⟨kb,2,none⟩) (v:=.slice u m.length dF) ((B.cell (p:=aq kb 2) an).trans bl) bp;have ct:H.frozen? (aq kb 2)=false:=(World.frozen?_of_block (a:=⟨kb,2,none⟩) (I.block _ (aM an B.size) bp)).trans ((B.frozen (p:=aq kb 2) an).trans bn))
 all_goals
  have cu:=fg.grown o.out.2.1 hlo be.out o.out.2.2.1 bg.out o.out.2.2.2.1 o.out.2.2.2.2 B bt I;obtain⟨bx,b0,_⟩:=cu;have ao:ay (fI w0 w m (H.setCell ⟨kb,2,none⟩ (.slice (some ⟨b4,0,none⟩) (m.length+1) F)) (m++[(kd,none,0,[])])):=bo.out.trans b0;have J:ay (fg w0 (H.setCell ⟨kb,2,none⟩ (.slice (some ⟨b4,0,none⟩) (m.length+1) F)) kb ch bY (s.1++[a],s.2++[(kd,[])]) (.slice (ak b4) (m.length+1) F) (m++[(kd,none,0,[])])):=bx;clear bx b0 bo bs B o be bg bt I cq cr cs ct co bl bn cm G3 G4 cn;go_wp2_with fail;generalize H.setCell ⟨kb,2,none⟩ (.slice (some ⟨b4,0,none⟩) (m.length+1) F)=b at*;refine(a1.out b J.out.eH J.out.cells.1).mono ?_;clear a1;rintro e cw ⟨ad,cap,rfl,b1,K⟩
  go_wp2_with fail;refine(aV.out cw _ _ ad cap (J.out.below K) b1).mono ?_;clear aV;rintro e cx ⟨cL,g,a2,cM,rfl,ap,q,b2,cy⟩
  have cN:g.length=cj.1.length:=q.len.trans cb;obtain⟨cO,cP,cz⟩:=eU q.row V;subst cz;have cR:=q.cells.2.2.1;have cA:m.length<g.length:=V;obtain⟨ar,cS⟩:=kC q.row ((oM g m.length _ (aL cA)).2)
  rw[<-E] at ap;have N:ay (_/\_/\_):=q.filled aF ap;have b3:ay (fI w0 w m cx g):=(ao.out.trans (fI.of K)).trans b2;have cB:=((ao.out.trans (fI.of K)).1).size;generalize (g[m.length]).2.1=q1 at ar;generalize (g[m.length]).2.2.2.length=cT at ar;generalize (g[m.length]).2.2.1=q3 at ar;rw[E] at N;clear b1 K ap q b2 cy ao J aF E;go_wp2_with fail;go_ret;exact⟨_,_,rfl,N.out.1,b3.out.1.trans N.out.2.1,fun k hk=>(N.out.2.2 k hk).elim (b3.out.2 k) (fun c=>aJ (aT cB c))⟩
theorem AJ (hg:dS bY b_ bZ l S w0)(hv:nn S.T S.wt)(b:∀i,cv S.T i->(S.T.getD i t0).1=5->(S.T.getD i t0).2.1=[]):∀n,pM w0 kb ch bY S.T (met (tI S.T.length) (gP S.T) (gQ S.T S.wt) n) n
 |0=>fun w s d m a _ ho ha hn hl=>by have c:=ho.lt (pH.2 ⟨ha.1,by have:=ha.2.1;have:=ha.1;omega⟩) hn;rw[nm] at c;omega
 |n+1=>JT hg hv b n _ (AJ hg hv b n) (jI n)
end
section
variable {bY:Nat}{b_ bZ:Int}{l:gF}{S:ck}{w:ax}
theorem JU (hg:dS bY b_ bZ l S w)(hv:nn S.T S.wt)(N:∀i,cv S.T i->(S.T.getD i t0).1=5->(S.T.getD i t0).2.1=[])(hr:∀v∈S.rs,eZ S.T v):
 Calls prog 138 #[aj bY] w fun e w'=>∃O ap f Q n,e=.returned (.agg #[.slice O 12 ap,.slice f Q n])/\nR w' w.heap.size O (dU.ez S.T S.wt S.rs).1/\lO w' w.heap.size f (dU.ez S.T S.wt S.rs).2.2/\Q=(dU.ez S.T S.wt S.rs).2.2.length/\aw w w':=by
 have bo:=@run_makeMap prog;have G:=au w (.cells #[.slice none 0 0,.slice none 0 0] 60)
 have U:=aN w (.cells #[.slice none 0 0,.slice none 0 0] 60)
 have u:=hg.below G;have H:=hg.g4.rl;obtain⟨_,_,_,_,_,_,W,_,ar⟩:=u.cells;have X:fj (w.alloc (.cells #[.slice none 0 0,.slice none 0 0] 60)) (ak l.rb) S.rs:=by
  have c:=u.g4.cells;refine⟨fun hp=>⟨l.rb,0,rfl,c.1,fun i hi=>?_⟩,fun hp=>⟨l.rb,0,_,rfl,u.g4.rt⟩⟩
  have:=c.2.2 i V;rw[Nat.zero_add];exact⟨this.1,this.2.1⟩
 have Y:w.heap.size<(w.alloc (.cells #[.slice none 0 0,.slice none 0 0] 60)).heap.size:=Z;have C:=es.made (w.alloc (.cells #[.slice none 0 0,.slice none 0 0] 60))
 have D:kA []=fun _=>none:=by
  funext x
  exact AH Z
 rw[<-D] at C;have b2:=((aH _ (w.alloc (.cells #[.slice none 0 0,.slice none 0 0] 60))).alloc bW (.map #[] 0)).alloc Z (.cells #[.pointer (some ⟨bY,0,none⟩),.map (some (w.heap.size+1)),.slice none 0 0] 231)
 have I:=iR (w.alloc (.cells #[.slice none 0 0,.slice none 0 0] 60)) (.map #[] 0) (.cells #[.pointer (some ⟨bY,0,none⟩),.map (some (w.heap.size+1)),.slice none 0 0] 231)
 have E:(w.alloc (.cells #[.slice none 0 0,.slice none 0 0] 60)).heap.size=w.heap.size+1:=Z;rw[E] at C I;have ab:=C.same (w':=((w.alloc (.cells #[.slice none 0 0,.slice none 0 0] 60)).alloc (.map #[] 0)).alloc (.cells #[.pointer (some ⟨bY,0,none⟩),.map (some (w.heap.size+1)),.slice none 0 0] 231)) (aS _ _ _ Z)
 have ag:ay (fg (w.alloc (.cells #[.slice none 0 0,.slice none 0 0] 60)) (((w.alloc (.cells #[.slice none 0 0,.slice none 0 0] 60)).alloc (.map #[] 0)).alloc (.cells #[.pointer (some ⟨bY,0,none⟩),.map (some (w.heap.size+1)),.slice none 0 0] 231)) (w.heap.size+1+1) (w.heap.size+1) bY ([],[]) (.slice none 0 0) []):=
  ⟨I,⟨by rw[E];omega,by rw[E];exact aD _⟩,ab,bc _ _ _ _,rfl,fun x g=>by simp at g,b2⟩
 have aB:=(b2.cell (p:=aq bY 6) ar).trans W;have J:w.heap.size<=(((w.alloc (.cells #[.slice none 0 0,.slice none 0 0] 60)).alloc (.map #[] 0)).alloc (.cells #[.pointer (some ⟨bY,0,none⟩),.map (some (w.heap.size+1)),.slice none 0 0] 231)).heap.size:=by simp;omega
 have F:=AI (AJ u hv N S.T.length) (jI _) ag.out (e9.start _) Z hv.l1 S.rs hr (ak l.rb) 12 (X.mB (fB.of (B:=0) b2)) V;have aF:ay ((dU.ez S.T S.wt S.rs).1.length=12):=by show _=_;unfold dU.ez;rw[nH,aW];exact H
 change Calls _ _ _ _ (fun e w'=>∃aR K a2 c2,e=.returned (.slice a2 S.rs.length c2)/\w'.ownsRow _ 97 2 (.slice a2 S.rs.length c2) S.rs.length (ev (dU.ez S.T S.wt S.rs).1)/\fg _ w' _ _ bY (dU.ez S.T S.wt S.rs).2 aR K/\fI _ _ [] w' K/\(∀k,fp K k->some k≠(Value.slice a2 S.rs.length c2).ownBlock)) at F;rw[H] at F;clear hg u hv N hr X C ab I D W ag H;generalize dU.ez S.T S.wt S.rs=R at*;obtain⟨bp,s⟩:=R;dsimp only at*;have M:=hide G;clear G;go_enter func138,ntmps138;go_wp2_with fail;refine F.mono ?_;clear F;rintro e w2 ⟨br,m,a2,c2,rfl,o,d,ai,_⟩
 obtain⟨f,n,aV⟩:=eE d.row;subst aV;have bs:=d.cells.2.2.1;have al:=M.out.trans (d.eH.mono M.out.size)
 have j:=(d.eH.block _ Y).trans U;have y0:w2.cell? (aq w.heap.size 0)=some (.slice none 0 0):=by simp[World.cell?,j]
 have y1:w2.cell? (aq w.heap.size 1)=some (.slice none 0 0):=by simp[World.cell?,j]
 have bt:w2.frozen? (aq w.heap.size 0)=false:=by simp[World.frozen?,j]
 have bx:w2.frozen? (aq w.heap.size 1)=false:=by simp[World.frozen?,j]
 have l2:=lt_of_some j;have a0:=dq d o;have a1:=hide d.len;have bb:=hide al;have am:=hide j;have bd:ay (∀k,fp m k->w.heap.size<=k):=fun k hk=>(ai.2 k hk).elim (fun⟨x,g,_⟩=>by cases g) (fun be=>aT J be)
 have bg:=hide J;clear d o ai al j U aB M b2 J E Y;go_wp2_with fail;obtain⟨q,hW0⟩:∃q,q=(w2.setCell ⟨w.heap.size,0,none⟩ (.slice a2 12 c2)).setCell ⟨w.heap.size,1,none⟩ (.slice f m.length n):=⟨_,rfl⟩
 rw[<-hW0];have g0:q.cell? (aq w.heap.size 0)=some (.slice a2 12 c2):=by exact lq
 have g1:q.cell? (aq w.heap.size 1)=some (.slice f m.length n):=by exact zP
 have t:Fr (fun k=>k=w.heap.size) w2 q:=by rw[hW0];exact((Fr.refl (fun k=>k=w.heap.size) w2).set w.heap.size 0 _ rfl).set w.heap.size 1 _ rfl
 clear hW0;obtain⟨d,o⟩:=a0.out;have an:∀{ad:Option Addr}{L:List (Int×Int)},fj w2 ad L->dv q ad L:=fun {ad L} h=>h.1.keep t.size (fun hp b e=>by
  obtain⟨bi,b0,b1,D,hb⟩:=h.2 hp;rw[D] at e;cases e;refine t.block _ (lt_of_some hb) (fun c=>?_)
  have c:bi=w.heap.size:=c;rw[c,am.out] at hb;simp at hb)
 refine a3 (v:=.agg #[.slice a2 12 c2,.slice f m.length n]) (by simp[results,results138,go_sem,g0,g1]) rfl ⟨a2,c2,f,m.length,n,rfl,⟨an (fj.of (by rw[aF.out];exact o)),fun hp=>?_⟩,⟨m,d.nd,fun x g=>an (d.fl x g),bd.out,fun hp=>?_⟩,a1.out,bb.out.trans (t.below (Nat.le_of_lt l2) (fun k e=>Nat.le_of_eq (Eq.symm e)))⟩
 ·obtain⟨b,cap,e⟩:=eU o aa;cases e;exact⟨b,0,rfl,aT bg.out (cn o b rfl).1⟩
 obtain⟨b,cap,e⟩:=eU d.row hp;cases e;have bl:=(cn d.row b rfl).1;simp at bl;obtain⟨b3,A⟩:=e5 d.row b rfl;have ao:b≠w.heap.size:=fun c=>by rw[c,am.out] at A;simp at A
 refine⟨b,0,rfl,V,aM (lt_of_some A) t.size,fun i x g=>?_⟩
 obtain⟨n1,bn⟩:=oM m i x g;rw[Nat.zero_add];exact⟨(aP (a:=⟨b,i*2,none⟩) (t.block b (lt_of_some A) ao)).trans (kC d.row n1).1,(aP (a:=⟨b,i*2+1,none⟩) (t.block b (lt_of_some A) ao)).trans (kC d.row bn).1⟩
end
theorem JV {T:List cD}{wt:List b7}(d:e4 T wt):∃g,dR T wt g:=by
 classical
 refine⟨fun is=>(List.range is.length).map (fun i=>decide (∀X:Nat->Prop,gX T wt X->(∀k,ct is k->X k)->X i)),fun is hl e=>?_⟩
 have key:∀i,ct ((List.range is.length).map (fun i=>decide (∀X:Nat->Prop,gX T wt X->(∀k,ct is k->X k)->X i))) i↔i<is.length/\∀X:Nat->Prop,gX T wt X->(∀k,ct is k->X k)->X i:=by
  intro i;unfold ct;by_cases hi:i<is.length
  ·rw[aE,List.getElem?_map,List.getElem?_range hi];simp[hi]
  ·simp[hi]
 refine⟨Z,fun i hi=>(key i).2 ⟨hi.lt,fun X _ b=>b i hi⟩,fun i hi f v hv j=>?_,fun X b hs i hi=>((key i).1 hi).2 X b hs⟩
 have c:∀X:Nat->Prop,gX T wt X->(∀k,ct is k->X k)->_:=fun X b hs=>b i hi (((key i).1 f).2 X b hs) v (hv.mono (fun k hk=>((key k).1 hk).2 X b hs)) j;exact(key _).2 ⟨by rw[hl];exact(c (cv T) d.cls e).1,c⟩
theorem AK:∃g:gO,∀T wt,e4 T wt->dR T wt (g T wt):=by
 classical
 refine⟨fun T wt=>if h:∃g,dR T wt g then h.choose else id,fun T wt b=>?_⟩
 have h:=JV b;dsimp only;rw[dif_pos h];exact h.choose_spec
section
variable {σ:Type}{is:σ->Int->Bool}{kp:σ->Int->σ}{I:σ->List b7->Prop}{R:List b7}
theorem uJ (hk:∀s C e,I s C->e∈R->is s e.1=true->I (kp s e.2) (C++[e])):∀(l:List b7)(s:σ)(C D:List b7),(∀e∈l,e∈R)->I s C->I (cf.pass is kp l s C D).1 (cf.pass is kp l s C D).2.1
 |[],_,_,_,_,h=>h
 |e::r,s,C,D,b,h=>by
  unfold cf.pass;have hr:_:=fun x d=>b x (aO _ d)
  split
  ·rename_i c;exact uJ hk r _ _ _ hr (hk s C e h (b e Z) c)
  ·exact uJ hk r _ _ _ hr h
theorem AL (hk:∀s C e,I s C->e∈R->is s e.1=true->I (kp s e.2) (C++[e])):∀(n:Nat)(D:List b7)(s:σ)(C:List b7),(∀e∈D,e∈R)->I s C->I (cf.turns is kp n D s C).1 (cf.turns is kp n D s C).2.1
 |0,_,_,_,_,h=>h
 |n+1,D,s,C,b,h=>by
  have c:=uJ hk D s C [] b h;unfold cf.turns;split
  ·exact c
  ·exact AL hk n _ _ _ (fun e he=>b e (Ao _ _ D s C e he)) c
end
structure JW (s:ck)(g:List Bool->List Bool)(mj:Bool)(L:List Bool)(C:List b7):Prop where
 ok:gD s.T L
 up:∀k,ct (s.c0 g mj) k->ct L k
 cl:gX s.T s.wt (ct L)
 cC:∀e∈C,e∈s.rg/\ct L e.1.toNat/\ct L e.2.toNat
 lt:∀X,gX s.T s.wt X->(∀k,ct (s.c0 g mj) k->X k)->(∀e∈s.rg,cL (s.c0 g mj) e.2=false->X e.2.toNat)->∀k,ct L k->X k
theorem AM {s:ck}(h:fH s){g:List Bool->List Bool}(hg:dR s.T s.wt g)(mj:Bool):ou s.T s.wt (jX s.T s.rs mj) (s.c0 g mj)/\gD s.T (s.c0 g mj):=by have b:=h.first mj;exact⟨hg _ b.len b.al,(hg.ok h.iv b).1⟩
theorem JX {s:ck}(h:fH s){g:List Bool->List Bool}(hg:dR s.T s.wt g)(mj:Bool):JW s g mj (s.cR g mj).1 (s.cR g mj).2.1:=by
 obtain⟨n,o⟩:=AM h hg mj;refine AL (fun L C e b he p=>?_) _ _ _ _ (fun e he=>he) ⟨o,fun k hk=>hk,n.cl,fun e he=>by simp at he,fun X _ d _ k hk=>d k hk⟩
 obtain⟨he,hn⟩:=List.mem_filter.1 he;have hn:cL (s.c0 g mj) e.2=false:=by simpa using hn
 have ha:=(h.gv e he).2;obtain⟨l,q,t⟩:=b.ok.put ha.2;have f:=hg _ l.len l.al;have j:∀k,ct L k->_:=fun k hk=>f.up k (t k hk)
 refine⟨(hg.ok h.iv l).1,fun k hk=>j k (b.up k hk),f.cl,fun x c=>?_,fun X d h0 m k hk=>?_⟩
 ·rcases List.mem_append.1 c with c|c
  ·obtain⟨q1,u,q3⟩:=b.cC x c;exact⟨q1,j _ u,j _ q3⟩
  ·rw[List.mem_singleton.1 c];exact⟨he,j _ p,f.up _ q⟩
 ·refine f.lt X d (fun i hi=>?_) k hk;unfold ct at hi;rw[i9 _ _ _ (by rw[b.ok.len];exact ha.2.1)] at hi;split at hi
  ·rename_i v;rw[<-v];exact m e he hn
  ·exact b.lt X d h0 m i hi
theorem JY (s:ck)(g:List Bool->List Bool)(mj:Bool):(s.cR g mj).2.1.length<=(s.rg.filter (fun e=>!cL (s.c0 g mj) e.2)).length:=by
 have:=vx (is:=cL) (kp:=fw g) (s.rg.length+1) (s.rg.filter (fun e=>!cL (s.c0 g mj) e.2)) (s.c0 g mj) [];unfold ck.cR;simp only [List.length_nil] at this
 omega
theorem JZ {s:ck}(h:fH s){g:List Bool->List Bool}(hg:dR s.T s.wt g)(mj:Bool){v:Int×Int}(hv:v∈s.rs)(b:v.1=3):ct (s.c0 g mj) v.2.toNat:=
 (AM h hg mj).1.up _ ((ku _ _ _ _).2 ⟨(h.rv v hv b).2.1,aJ ⟨v,hv,b,rfl⟩⟩)
theorem uK (L:List Bool)(T:List cD)(i:Nat):(f6 L T T.length).getD i t0=if i<T.length then fz L i (T.getD i t0) else t0:=by
 by_cases h:i<T.length
 ·rw[qV L T T.length i bW h,aI h,aI h]
 ·rw[aG h,aE,List.getElem?_eq_none (by rw[jD];omega)];rfl
theorem AN {L:List Bool}{i:Nat}{t:cD}(b:L.getD i false=false):fz L i t=(t.1,[],t.2.2.1,true):=by unfold fz;rw[aG (by rw[b];simp)]
theorem rC (L:List Bool)(i:Nat)(t:cD):(fz L i t).1=t.1:=by unfold fz;split<;>rfl
theorem J0 {L:List Bool}{i:Nat}{t:cD}(b:L.getD i false=true):(fz L i t).2.2=(true,t.2.2.2):=by unfold fz;rw[aI b]
theorem J3 {T:List cD}{L:List Bool}(h:gD T L)(i:Nat):cv (f6 L T T.length) i↔ct L i:=by
 unfold cv;rw[jD,uK];constructor
 ·rintro⟨d,b⟩
  rw[aI d] at b;unfold ct;cases c:L.getD i false
  ·rw[AN c] at b;cases b
  ·rfl
 ·intro hi;have ha:=h.al i hi;refine⟨ha.1,?_⟩
  rw[aI ha.1,J0 hi];exact ha.2
theorem rD {L:List Bool}{i:Nat}{t:cD}(b:L.getD i false=true):
 (t.1=4/\dH L (t.2.1.getD 0 (0,0))=false/\(fz L i t).2.1=[(2,0),(2,0)])\/(t.1=3/\dH L (t.2.1.getD 0 (0,0))=false/\(fz L i t).2.1=[(2,0),t.2.1.getD 1 (0,0)])\/((t.1=3\/t.1=4->dH L (t.2.1.getD 0 (0,0))=true)/\(fz L i t).2.1=t.2.1):=by
 unfold fz;rw[aI b];by_cases c4:t.1=4/\dH L (t.2.1.getD 0 (0,0))=false
 ·rw[aI c4];exact aK ⟨c4.1,c4.2,rfl⟩
 ·rw[aG c4];by_cases c3:t.1=3/\dH L (t.2.1.getD 0 (0,0))=false
  ·rw[aI c3];exact aJ (aK ⟨c3.1,c3.2,rfl⟩)
  ·rw[aG c3];refine aJ (aJ ⟨fun h=>?_,rfl⟩)
   cases c:dH L _
   ·rcases h with h|h
    ·exact absurd ⟨h,c⟩ c3
    ·exact absurd ⟨h,c⟩ c4
   ·rfl
end Go.Proofs.YtpkjkjhanlbcoaaGreat
