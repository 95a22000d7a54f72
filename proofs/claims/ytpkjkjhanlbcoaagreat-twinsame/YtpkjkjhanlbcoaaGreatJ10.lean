import Derived.Test.YtpkjkjhanlbcoaaGreatJ09
namespace Go.Proofs.YtpkjkjhanlbcoaaGreat
set_option maxRecDepth 100000
set_option maxHeartbeats 2000000
open Tryz
open Go.RowKit W Kp cf
theorem xq {P:Prop}(h:P:=by
 have E2:=hide ((o2 a).trans hbt.symm)
 have E3:ay (bt=true->_=_):=fun e=>o3 a (by rw[hbt] at e;simpa using e)
 clear o2 o3 hbt n7 HJ;go_wp2_with (at_lookup;refine wpList_lookup_own_ok_int _ rfl _ _ 127 rfl 3 3 .i64 iN Tryz.underlying127 Tryz.underlying3 (lW _) c.ch k.T.length D rfl o1 _ _ rfl xr ?_;intro z hat hwc;rw[E2.out];have E4:=hide (fun e=>by have:=hat.symm.trans (E3.out e);simpa using this);clear hat hwc)
 go_ret2;exact⟨z,rfl,E4.out,hb1⟩):P:=h
theorem qg {P:Prop}(h:P:=by go_ret;rw[E2.out.1,E2.out.2];exact⟨_,by simp[hll],⟨_,_,sJ.out.1⟩,⟨sJ.out.2,fun b hb=>hb.elim (xs.out b) (fun e=>aJ (xt.out b e))⟩⟩):P:=h
theorem qh {P:Prop}(h:P:=by
 go_wp2_with fail;refine P.mono ?_;rintro e w1 ⟨v,rfl,hv,hb1⟩
 have hv:=hv trivial;subst hv;go_wp2;go_ret;exact⟨rfl,hb1⟩):P:=h
theorem xu {P:Prop}(h:P:=by
 go_wp2_with fail;refine P.mono ?_;rintro e w1 ⟨v,rfl,hv,hb1⟩
 have hv:=hv trivial;subst hv;go_wp2_with fail;refine(r5 v w1).mono ?_;rintro e w2 ⟨rfl,hb2⟩
 go_wp2;go_ret;exact⟨rfl,hb1.trans (hb2.mono hb1.size)⟩):P:=h
theorem xv {P:Prop}(h:P:=by
 go_wp2_with fail;refine P.mono ?_;rintro e w1 ⟨rfl,hb1⟩
 go_wp2_with fail;go_ret2;exact⟨0,rfl,fun h=>by simp at h,hb1⟩):P:=h
theorem sK {x:Int}(h:cY x=true):0<=cg x/\cg x<1152921504606846976:=by rw[lN x h];unfold cY at h;simp at h;exact xp x h.2
section
variable {c:gj}{k:ce}{cG cr:Value}{F:Nat->Prop}{s:cj}{w:ax}
theorem xw (h:(cutV c k cG cr).J F s w)(x:Int):
 Calls prog 227 #[aj c.pk,ah x] w fun e w'=>∃v,e=.returned (.tuple #[ah v,.bool (k.cK x)])/\(k.cK x=true->v=s.f (cg x))/\aw w w':=by
 have HJ:=hide h;have P:=nM x w;cases ha:cY x
 ·rw[ha] at P;have b:k.cK x=false:=by unfold ce.cK;rw[ha];rfl
  rw[b];go_enter func227,ntmps227;exact xv
 ·have b:k.cK x=k.T.contains (cg x):=by unfold ce.cK;rw[ha];rfl
  have d:=sK ha;rw[b];rw[ha] at P;generalize cg x=a at P d⊢;have xr:=je d.1 d.2;obtain⟨bt,hbt⟩:∃bt,bt=k.T.contains a:=⟨_,rfl⟩
  rw[<-hbt];go_enter func227,ntmps227;go_wp2_with fail;refine P.mono ?_;clear P;rintro e w1 ⟨rfl,hb1⟩
  have n7:=(cutV c k cG cr).below HJ.out hb1;obtain⟨c0,c1,_⟩:=d8 n7;obtain⟨⟨D,o1,o2,o3⟩,_⟩:=xl n7;exact xq
theorem n8 (h:(cutV c k cG cr).J F s w)(x:Int):
 Calls prog 189 #[aj c.pk,ah x] w fun e w'=>e=.returned (.bool (k.ls s x))/\aw w w':=by
 have P:=xw h x;cases hy:k.cK x
 ·have b:k.ls s x=false:=by unfold ce.ls;rw[hy];rfl
  rw[b];rw[hy] at P;go_enter func189,ntmps189;go_wp2_with fail;refine P.mono ?_;rintro e w1 ⟨v,rfl,_,hb1⟩
  go_wp2;go_ret;exact⟨rfl,hb1⟩
 ·have b:k.ls s x=(s.f (cg x)==-1):=by unfold ce.ls;rw[hy];rfl
  rw[b];rw[hy] at P;go_enter func189,ntmps189;exact qh
theorem qi (h:(cutV c k cG cr).J F s w)(x:Int):
 Calls prog 190 #[aj c.pk,ah x] w fun e w'=>e=.returned (ah (k.nw s x))/\aw w w':=by
 have P:=xw h x;cases hy:k.cK x
 ·have b:k.nw s x=x:=by unfold ce.nw;rw[hy];simp
  rw[b];rw[hy] at P;go_enter func190,ntmps190;go_wp2_with fail;refine P.mono ?_;rintro e w1 ⟨v,rfl,_,hb1⟩
  go_wp2_with fail;go_ret;exact⟨rfl,hb1⟩
 ·rw[hy] at P;by_cases d:s.f (cg x)=-1
  ·have b:k.nw s x=x:=by unfold ce.nw;rw[hy,d];simp
   rw[b];rw[d] at P;go_enter func190,ntmps190;exact qh
  ·have b:k.nw s x=ew 3 (s.f (cg x)):=by unfold ce.nw;rw[hy,aI (by simp[d])]
   rw[b];generalize s.f (cg x)=a at P d⊢;go_enter func190,ntmps190;exact xu
theorem qj (h:(cutV c k cG cr).J F s w)(i:CI k s)(x:Int):
 Calls prog 182 #[aj c.pk,ah x] w fun e w'=>e=.returned (ah (k.br s x).1)/\(cutV c k cG cr).J F (k.br s x).2 w'/\b8 F w F w':=by
 have p:ay ((cutV c k cG cr).J F s w):=h;have P:=n8 h x;clear h;cases hl:k.ls s x
 ·have m:k.br s x=(k.nw s x,s):=by unfold ce.br;rw[hl];rfl
  rw[m];rw[hl] at P;go_enter func182,ntmps182;go_wp2_with fail;refine P.mono ?_;clear P;rintro e w1 ⟨rfl,d⟩
  have G:=(cutV c k cG cr).below p.out d;have H:=qi G x;clear G;go_wp2_with fail;refine H.mono ?_;rintro e n ⟨rfl,j⟩
  have hb:=d.trans (j.mono d.size)
  clear H d j;go_wp2_with fail;go_ret;exact⟨rfl,(cutV c k cG cr).below p.out hb,b8.of hb⟩
 ·have m:k.br s x=(k.nw (k.cp s (cg x)) x,k.cp s (cg x)):=by unfold ce.br;rw[aI hl]
  rw[m];obtain⟨l1,l2,al⟩:=ce.mV hl;have I:=sK l1;have q:=nM x;rw[hl] at P;rw[l1] at q;have J:=je I.1 I.2;have E:ay (k.cp s (cg x)={s with g:=jL k.N k.O k.y s.g s.ws (cg x),ws:=jM k.N k.O k.y s.g s.ws (cg x),f:=gz s.f (cg x) (mN k.N k.O k.y s.g s.ws (cg x))}):=rfl;have n1:=i.hN';have aF:=i.hO;have aR:=i.hg;have a0:=i.tl;have K:(Lit.int .i64 (mN k.N k.O k.y s.g s.ws (cg x))).wf=true:=by
   unfold mN;split
   ·exact WalkArith.wf_i64 ⟨V,V⟩
   ·decide
  have hv:=mX _ K;generalize k.cp s (cg x)=s2 at E⊢;clear i m hl l1 al K;generalize cg x=a at*;go_enter func182,ntmps182;go_wp2_with fail;refine P.mono ?_;clear P;rintro e w1 ⟨rfl,d⟩
  go_wp2_with fail;refine(q w1).mono ?_;rintro e n ⟨rfl,j⟩
  have hb:=d.trans (j.mono d.size)
  have u:=(cutV c k cG cr).below p.out hb;obtain⟨c0,c1,_,_,_,c5,_⟩:=d8 u;have L:=(cutV c k cG cr).below u (aH _ n).drew;obtain⟨am,M⟩:=iO L;have v:ay (_/\_):=⟨hb,M⟩
  have C:=wH a n.drew am;clear d j hb q M L u;go_wp2_with fail
  go_region_held3 (fun w'=>w'.cell? (aq c.pk 0)=some (aj c.pw)/\w'.cell? (aq c.pk 1)=some (.map (some c.ch))/\w'.cell? (aq c.pw 0)=some (aj c.p)) (go_keep)
   (first
     |(go_at_call 165;refine C.mono ?_;clear C;rintro e N ⟨rfl,O,Q⟩;obtain⟨o,R⟩:=v.out.2 N _ _ O Q;obtain⟨S,U,_,_,_,W,_⟩:=d8 o;obtain⟨n4,an⟩:=Dw o;obtain⟨⟨D,o1,X,Y⟩,hM⟩:=xl o;obtain⟨A,ao,ab,l⟩:=o1.update (t:=127) (e:=3) iN Tryz.underlying127 (by unfold maxLen;omega) J hv;have ap:=l.cell S (by simpa using n4);have ar:=l.cell U (by simpa using n4);have aB:=l.cell W (by simpa using an);obtain⟨ad,ag⟩:=hM A _ (Mp.put o1 X Y l2 ab) ((Fr.refl _ N).grown l (fun b e=>aK (by cases e;rfl)));have B:ay ((cutV c k cG cr).J F s2 A/\b8 F w F A):=⟨(by rw[E.out];exact ad),(((b8.of v.out.1).below (aH _ n).drew).trans R).trans ag⟩;clear O Q o R o1 X Y hM ab l ad ag))
  clear ap ar aB S U W ao c0 c1 c5 E hv J v;go_wp2_with fail;refine(qi B.out.1 x).mono ?_;rintro e a1 ⟨rfl,ai⟩
  go_wp2_with fail;go_ret;exact⟨rfl,(cutV c k cG cr).below B.out.1 ai,B.out.2.below ai⟩
theorem qk (h:(cutV c k cG cr).J F s w)(m:CI k s)(a:Int):
 Calls prog 226 #[aj c.pk,ah a] w fun e w'=>e=.returned (.tuple #[])/\(cutV c k cG cr).J F (k.kf s a) w'/\b8 F w F w':=by
 have d:=(cutV c k cG cr).below h (aH _ w).drew;obtain⟨c0,_,_,_,_,c5,_⟩:=d8 h;obtain⟨n,_⟩:=iO d;have L:=jJ a w.drew n;have I:ay (CI k s):=m;have o:ay ((cutV c k cG cr).J F s w.drew):=d;have E:ay (k.kf s a=k.st (k.br s (k.ld s a)).2 a (k.br s (k.ld s a)).1):=rfl;have p:ld k.N k.y s.g s.ws a=k.ld s a:=rfl;rw[p] at L;generalize k.kf s a=s2 at E⊢;generalize k.ld s a=x at E L;clear h m d n p;go_enter func226,ntmps226
 go_region_held3 (fun w'=>w'.cell? (aq c.pk 0)=some (aj c.pw)/\w'.cell? (aq c.pw 0)=some (aj c.p)) (go_keep)
  (first
    |(go_at_call 98;refine L.mono ?_;clear L;rintro e q ⟨rfl,t⟩;have f:=(cutV c k cG cr).below o.out t;obtain⟨u,_,_,_,_,v,_⟩:=d8 f;have A:ay ((cutV c k cG cr).J F s q/\b8 F w F q):=⟨f,(b8.of (aH _ w).drew).below t⟩;clear f o)
    |(go_at_call 182;refine(qj A.out.1 I.out x).mono ?_;rintro e J ⟨rfl,g,B⟩;obtain⟨u,_,_,_,_,v,_⟩:=d8 g;obtain⟨C,b⟩:=iO g;have i:ay (_/\_/\_):=⟨A.out.2.trans B,C,b⟩;clear g B C b)
    |(go_at_call 93;refine(k3 a (k.br s x).1 J i.out.2.1).mono ?_;rintro e j ⟨rfl,b,D⟩;obtain⟨l,G⟩:=i.out.2.2 j _ _ b D;obtain⟨u,_,_,_,_,v,_⟩:=d8 l;have H:ay ((cutV c k cG cr).J F s2 j/\b8 F w F j):=⟨(by rw[E.out];exact l),i.out.1.trans G⟩;clear b D l G))
 go_wp2_with fail;go_end0;exact⟨rfl,H.out.1,H.out.2⟩
end
section
variable {c:gj}{k:ce}{F:Nat->Prop}{s:cj}{w:ax}
theorem DH {a:Int}(h:pk (k.ld s a)=1\/pk (k.ld s a)=2):k.lk s a=k.fU s a (pf (k.ld s a)).toNat:=by unfold ce.lk;rw[aI h]
theorem DI {a:Int}(h:pk (k.ld s a)=3):k.lk s a=k.kf {s with wk:=s.wk++[a]} (a+2):=by unfold ce.lk;rw[aG V,aI h]
theorem DJ {a:Int}(h:pk (k.ld s a)=4):k.lk s a={s with ep:=s.ep++[a]}:=by unfold ce.lk;rw[aG V,aG V,aI h]
theorem DK {a:Int}(d:pk (k.ld s a)≠1)(e:pk (k.ld s a)≠2)(b:pk (k.ld s a)≠3)(c:pk (k.ld s a)≠4):k.lk s a=s:=by unfold ce.lk;rw[aG V,aG b,aG c]
theorem xx (h:(d7 c k).J F s w)(l:CI k s)(a:Int)(a0:(k.N:Int)<=a)(a1:a<=2000)(hk:pk (k.ld s a)=1\/pk (k.ld s a)=2):
 Calls prog 185 #[aj c.pk,ah a] w fun e w'=>∃o,e=.returned (ah (1+pf (k.ld s a)))/\(d7 c k).J o (k.lk s a) w'/\b8 F w o w':=by
 rw[DH hk];obtain⟨cG,b,h⟩:=h;obtain⟨c0,_,_,_,_,c5,_⟩:=d8 h;obtain⟨p,_⟩:=iO h;have L:=gd a w p;have t:ld k.N k.y s.g s.ws a=k.ld s a:=rfl;rw[t] at L;have hp:=dj (k.ld s a)
 have D:ay (CI k s):=l;have d:ay ((cutV c k cG b).J F s w):=h;clear p l h t;generalize pf (k.ld s a)=n at L hp⊢;obtain⟨m,rfl⟩:∃m:Nat,n=m:=⟨n.toNat,V⟩
 rw[Int.toNat_natCast];have hm:m<=12:=V;generalize pc (k.ld s a)=q at L;have E:(0:Int)<=k.N:=V;rcases hk with hk|hk
 all_goals
  rw[hk] at L;clear hk;go_enter func185,ntmps185;go_wp2_with fail;refine L.mono ?_;clear L;rintro e w1 ⟨rfl,f⟩
  have u:=(cutV c k cG b).below d.out f;have v:b8 F w F w1:=b8.of f;clear d f c0 c5;go_wp2_with fail
  go_loopw [27] (fun iv wr=>∃(j:Nat),j<=m/\iv=ah j/\(cutV c k cG b).J F (k.fU s a j) wr/\b8 F w F wr) (fun iv _=>m-(intOf iv).toNat)
  case atStart=>exact⟨0,aZ _,rfl,u,v⟩
  case round=>
   clear u v;obtain⟨j,G,rfl,g,i⟩:=hrel;by_cases H:j<m
   ·have d:ay ((cutV c k cG b).J F (k.fU s a j) wr/\b8 F w F wr):=⟨g,i⟩
    clear g i;go_wp2_with fail;refine(qk d.out.1 (D.out.fU a0 j).1 (a+1+j)).mono ?_;rintro e x ⟨rfl,A,B⟩
    have C:ay ((cutV c k cG b).J F (k.fU s a (j+1)) x/\b8 F w F x):=⟨A,d.out.2.trans B⟩
    clear A B d;go_wp2_with fail;go_roundw
    case rel=>exact⟨j+1,V,af,C.out.1,C.out.2⟩
    case measure=>simp[intOf];omega
   ·obtain rfl:j=m:=V;go_wp2_with fail;go_ret;exact⟨F,rfl,⟨cG,b,g⟩,i⟩
theorem DL (h:(d7 c k).J F s w)(a:Int)(b:pk (k.ld s a)≠1)(d:pk (k.ld s a)≠2)(f:pk (k.ld s a)≠3)(g:pk (k.ld s a)≠4):
 Calls prog 185 #[aj c.pk,ah a] w fun e w'=>∃j,e=.returned (ah (1+pf (k.ld s a)))/\(d7 c k).J j (k.lk s a) w'/\b8 F w j w':=by
 rw[DK b d f g];obtain⟨cG,i,h⟩:=h;obtain⟨c0,_,_,_,_,c5,_⟩:=d8 h;obtain⟨l,_⟩:=iO h;have L:=gd a w l;have m:ld k.N k.y s.g s.ws a=k.ld s a:=rfl;rw[m] at L;have hp:=dj (k.ld s a)
 have p:ay ((cutV c k cG i).J F s w):=h;clear l h m;generalize pf (k.ld s a)=n at L hp⊢;generalize pc (k.ld s a)=q at L;generalize pk (k.ld s a)=kd at L b d f g;have t:(kd==1)=false:=by simpa using b
 have u:(kd==2)=false:=by simpa using d
 have v:(kd==3)=false:=by simpa using f
 have x:(kd==4)=false:=by simpa using g
 go_enter func185,ntmps185;go_wp2_with fail;refine L.mono ?_;clear L;rintro e w1 ⟨rfl,o⟩
 go_wp2_with fail;go_ret;exact⟨F,rfl,⟨cG,i,(cutV c k cG i).below p.out o⟩,b8.of o⟩
theorem DM (h:(d7 c k).J F s w)(a:Int)(W:s.ep.length<=10000)(i:pk (k.ld s a)=4):
 Calls prog 185 #[aj c.pk,ah a] w fun e w'=>∃d,e=.returned (ah (1+pf (k.ld s a)))/\(d7 c k).J d (k.lk s a) w'/\b8 F w d w':=by
 rw[DJ i];obtain⟨G,hi,H,I,J⟩:=info_parts kE;obtain⟨cG,o,h⟩:=h;obtain⟨c0,_,_,_,_,c5,_⟩:=d8 h;obtain⟨p,_⟩:=iO h;have L:=gd a w p;have t:ld k.N k.y s.g s.ws a=k.ld s a:=rfl;rw[t] at L;have hp:=dj (k.ld s a)
 have u:ay ((cutV c k cG o).J F s w):=h;clear p h t;rw[i] at L;generalize pf (k.ld s a)=n at L hp⊢;generalize pc (k.ld s a)=q at L;clear i;go_enter func185,ntmps185;go_wp2_with fail;refine L.mono ?_;clear L;rintro e w1 ⟨rfl,m⟩
 have f:=(cutV c k cG o).below u.out m;obtain⟨X,_,_,Y,v,ab,_,_,_,x,_,er,_,lk,_⟩:=d8 f;obtain⟨K,_⟩:=sI f (aJ v)
 obtain⟨ad,cap,rfl⟩:=eE er;have M:=x 4;have A:ay ((cutV c k cG (.slice ad s.ep.length cap)).J F s w1/\b8 F w F w1):=⟨f,b8.of m⟩
 clear f c0 c5 m u x;go_wp2_with (at_builtin;refine wpList_append_own_at _ rfl _ _ 74 rfl 0 3 G (ah 0) 1 8 Tryz.underlying74 hi H I J rfl aa (.slice ad s.ep.length cap) s.ep.length (s.ep.map (Value.int .i64)) rfl (ga er _) ⟨w1.heap.size,0,none⟩ 1 1 [ah a] rfl rfl ?_ ?_ ?_ ?_ ?_ ?_;(intro j N g;match j,g with|0,g=>(simp at g;subst g;simp[Addr.add]));(intro N B;simp at B;subst B;rfl);(unfold maxLen;omega);(first|omega|simp);(first|omega|(simp;done)|(simp;omega));intro ag ai C D _ O;obtain⟨b4,P,Q⟩:=eU C (Nat.succ_pos _);subst Q;have E:=(D.block c.pk (by simp;omega) K).trans (aS _ _ _ lk);have g4:=(aP (a:=⟨c.pk,4,none⟩) E).trans v;have al:=(World.frozen?_of_block (a:=⟨c.pk,4,none⟩) E).trans M)
 go_ret;obtain⟨d,R,S⟩:=DB A.out.1 (((Fr.refl _ w1).alloc _).grown D (fun b e=>aK e.symm)) (v1:=.slice (ak b4) (s.ep.length+1) P) (l:=s.ep++[a]) (by simpa using C) (fun b e=>by
  have U:some b4=(Value.slice ad s.ep.length cap).ownBlock\/b4=w1.heap.size+1:=O.imp id (fun e=>by simpa[Value.ownBlock] using e)
  simp[Value.ownBlock] at e;subst e;exact U.imp id (fun e=>by omega))
 exact⟨d,rfl,⟨_,_,R⟩,A.out.2.trans S⟩
theorem DN (h:(d7 c k).J F s w)(x:CI k s)(a:Int)(a0:(k.N:Int)<=a)(a1:a<=2000)(ap:s.wk.length<=10000)(i:pk (k.ld s a)=3):
 Calls prog 185 #[aj c.pk,ah a] w fun e w'=>∃d,e=.returned (ah (1+pf (k.ld s a)))/\(d7 c k).J d (k.lk s a) w'/\b8 F w d w':=by
 rw[DI i];obtain⟨P,hi,Q,R,S⟩:=info_parts kE;obtain⟨cG,m,h⟩:=h;obtain⟨c0,_,_,_,_,c5,_⟩:=d8 h;obtain⟨A,_⟩:=iO h;have L:=gd a w A;have B:ld k.N k.y s.g s.ws a=k.ld s a:=rfl;rw[B] at L;have hp:=dj (k.ld s a)
 have C:ay ((cutV c k cG m).J F s w):=h;have U:ay (CI k {s with wk:=s.wk++[a]}):=x.xf a0 a1;clear A h B x;rw[i] at L;generalize pf (k.ld s a)=n at L hp⊢;generalize pc (k.ld s a)=q at L;clear i;have ar:(0:Int)<=k.N:=V;go_enter func185,ntmps185;go_wp2_with fail;refine L.mono ?_;clear L;rintro e w1 ⟨rfl,o⟩
 have f:=(cutV c k cG m).below C.out o;obtain⟨W,_,_,p,X,Y,_,_,_,D,er,_,_,lk,_⟩:=d8 f;obtain⟨ab,_⟩:=sI f (aK p)
 obtain⟨ad,cap,rfl⟩:=eE er;have ag:=D 3;have E:ay ((cutV c k (.slice ad s.wk.length cap) m).J F s w1/\b8 F w F w1):=⟨f,b8.of o⟩
 clear f c0 c5 o C D X;go_wp2_with (at_builtin;refine wpList_append_own_at _ rfl _ _ 74 rfl 0 3 P (ah 0) 1 8 Tryz.underlying74 hi Q R S rfl aa (.slice ad s.wk.length cap) s.wk.length (s.wk.map (Value.int .i64)) rfl (ga er _) ⟨w1.heap.size,0,none⟩ 1 1 [ah a] rfl rfl ?_ ?_ ?_ ?_ ?_ ?_;(intro j ai g;match j,g with|0,g=>(simp at g;subst g;simp[Addr.add]));(intro ai G;simp at G;subst G;rfl);(unfold maxLen;omega);(first|omega|simp);(first|omega|(simp;done)|(simp;omega));intro aB aF t u _ H;obtain⟨b4,al,am⟩:=eU t (Nat.succ_pos _);subst am;have v:=(u.block c.pk (by simp;omega) ab).trans (aS _ _ _ lk);have g4:=(aP (a:=⟨c.pk,3,none⟩) v).trans p;have an:=(World.frozen?_of_block (a:=⟨c.pk,3,none⟩) v).trans ag)
 obtain⟨d,I,J⟩:=DA E.out.1 (((Fr.refl _ w1).alloc _).grown u (fun b e=>aK e.symm)) (v1:=.slice (ak b4) (s.wk.length+1) al) (l:=s.wk++[a]) (by simpa using t) (fun b e=>by
  have ao:some b4=(Value.slice ad s.wk.length cap).ownBlock\/b4=w1.heap.size+1:=H.imp id (fun e=>by simpa[Value.ownBlock] using e)
  simp[Value.ownBlock] at e;subst e;exact ao.imp id (fun e=>by omega))
 have K:ay (_/\_):=⟨I,E.out.2.trans J⟩
 refine(qk K.out.1 U.out (a+2)).mono ?_;clear I J g4 an v t u H W p Y er;rintro e aR ⟨rfl,M,N⟩
 have O:ay (_/\_):=⟨M,K.out.2.trans N⟩
 clear M N;go_wp2_with fail;go_ret;exact⟨d,rfl,⟨_,_,O.out.1⟩,O.out.2⟩
theorem xy (h:(d7 c k).J F s w)(b:CI k s)(a:Int)(a0:(k.N:Int)<=a)(a1:a<=2000)(l:s.wk.length<=10000)(m:s.ep.length<=10000):
 Calls prog 185 #[aj c.pk,ah a] w fun e w'=>∃d,e=.returned (ah (1+pf (k.ld s a)))/\(d7 c k).J d (k.lk s a) w'/\b8 F w d w':=by
 by_cases f:pk (k.ld s a)=1
 ·exact xx h b a a0 a1 (aK f)
 by_cases g:pk (k.ld s a)=2
 ·exact xx h b a a0 a1 (aJ g)
 by_cases i:pk (k.ld s a)=3
 ·exact DN h b a a0 a1 l i
 by_cases j:pk (k.ld s a)=4
 ·exact DM h a m j
 exact DL h a f g i j
def ql (w:ax)(p:Nat):Int:=match w.cell? (aq p 2) with
 |some (.int _ v)=>v
 |_=>0
theorem sL {p:Nat}{v:Int}(h:w.cell? (aq p 2)=some (ah v)):ql w p=v:=by unfold ql;rw[h]
theorem DO (h:(d7 c k).J F s w)(f:CI k s)(hB:ee k s):
 Calls prog 186 #[aj c.pk] w fun e w'=>∃A,e=.returned (.tuple #[])/\(d7 c k).J A (k.lb (k.O+1) s) w'/\b8 F w A w':=by
 have O:ay (CI k s/\ee k s):=⟨f,hB⟩
 have n0:=f.hO;have n1:=f.hN';have ao:=f.g8;clear f hB;go_enter func186,ntmps186;go_wp2_with fail
 go_loopw [] (fun wr=>∃(n:Nat)(d:Nat->Prop)(s1:cj),(d7 c k).J d s1 wr/\ay (CI k s1/\ee k s1)/\b8 F w d wr/\ay (k.lb n s1=k.lb (k.O+1) s)/\(k.N:Int)+k.O-s1.nx<n) (fun wr=>(2000-ql wr c.pk).toNat)
 case atStart=>exact⟨k.O+1,F,s,h,O,b8.refl _ _,rfl,V⟩
 case round=>
  obtain⟨n,d,s1,⟨cG,g,j⟩,b,B,o,hn⟩:=hrel;obtain⟨c0,_,c2,_,_,c5,_,_,_,C,_⟩:=d8 j;have P:=sL c2;have Q:=C 2;obtain⟨D,_⟩:=iO ((cutV c k cG g).below j (aH _ wr).drew)
  have L:=mL s1.nx wr.drew D;have p:ay ((cutV c k cG g).J d s1 wr/\b8 F w d wr):=⟨j,B⟩
  clear j B D C;go_wp2_with fail
  go_region_held3 (fun w'=>w'.cell? (aq c.pk 0)=some (aj c.pw)/\w'.cell? (aq c.pk 2)=some (ah s1.nx)/\w'.cell? (aq c.pw 0)=some (aj c.p)) (go_keep)
   (first
     |(go_at_call 96;refine L.mono ?_;clear L;rintro e l ⟨rfl,E⟩;have q:=(cutV c k cG g).below ((cutV c k cG g).below p.out.1 (aH _ wr).drew) E;obtain⟨R,_,S,_,_,U,_,_,_,G,_⟩:=d8 q;have W:=G 2;have i:ay ((d7 c k).J d s1 l/\b8 F w d l):=⟨⟨cG,g,q⟩,(p.out.2.below (aH _ wr).drew).below E⟩;clear q p G c0 c2 c5 Q))
  cases hb:hB k.N s1.g s1.nx
  ·go_wp2_with fail;go_end0;have e:k.lb n s1=s1:=by
    cases n with
    |zero=>rfl
    |succ n=>unfold ce.lb;rw[hb];rfl
   rw[<-o.out,e];exact⟨d,rfl,i.out.1,i.out.2⟩
  ·have b1:=js hb;have b2:=b.out.1.hg;have b3:=b.out.1.g8;have b4:=b.out.2.wk;have b5:=b.out.2.ep;obtain⟨n,rfl⟩:∃m,n=m+1:=⟨n-1,V⟩
   have hp:=dj (k.ld s1 s1.nx)
   have X:ay (k.lb n {k.lk s1 s1.nx with nx:=s1.nx+(1+pf (k.ld s1 s1.nx))}=k.lb (k.O+1) s):=by
    have:=o.out;unfold ce.lb at this
    rw[aI hb] at this
    exact this
   have Y:ay (CI k {k.lk s1 s1.nx with nx:=s1.nx+(1+pf (k.ld s1 s1.nx))}/\ee k {k.lk s1 s1.nx with nx:=s1.nx+(1+pf (k.ld s1 s1.nx))}):=⟨(b.out.1.kH hb).1,ee.kH b.out.1 hb b.out.2⟩
   have ab:=(b.out.1.lk (a:=s1.nx) b3 V).2.nx;have L:=xy ((d7 c k).below i.out.1 (aH _ l).drew) b.out.1 s1.nx b3 V V V;generalize pf (k.ld s1 s1.nx)=m at*;generalize k.lk s1 s1.nx=s2 at*;clear hb b4 b5 o;have ap:IntKind.i64.wrap (s1.nx+(1+m))=s1.nx+(1+m):=by rw[bk];omega
   go_wp2_with fail
   go_region_with (go_at_call 185;refine L.mono ?_;rintro e H ⟨t,rfl,⟨ad,ag,u⟩,I⟩;obtain⟨ai,_,J,_,_,al,_,_,_,K,_⟩:=d8 u;rw[ab] at J;have v2:=K 2;have v:ay ((cutV c k ad ag).J t s2 H/\b8 F w t H):=⟨u,(i.out.2.below (aH _ l).drew).trans I⟩;clear u I K)
   all_goals
    obtain⟨x,M⟩:=Dy v.out.1 (s1.nx+(1+m))
    obtain⟨_,_,am,_⟩:=d8 x;have an:=sL am;have N:ay (_/\_):=⟨x,v.out.2.trans M⟩
    clear x M v ai J al v2 L R S U W i;go_wp2_with fail;go_roundw
    case rel=>exact⟨n,t,_,⟨_,_,N.out.1⟩,Y,N.out.2,X,by show(k.N:Int)+k.O-(s1.nx+(1+m))<n;omega⟩
    case measure=>
     rw[an,P];show(2000-(s1.nx+(1+m))).toNat<_;omega
end
section
variable {c:gj}{k:ce}{F:Nat->Prop}{s:cj}{w:ax}
theorem DP (h:(d7 c k).J F s w)(N:CI k s)(hB:ee k s):
 Calls prog 187 #[aj c.pk] w fun e w'=>∃an,e=.returned (.bool (k.kv s).1)/\(d7 c k).J an (k.kv s).2 w'/\b8 F w an w':=by
 obtain⟨bs,hi,bt,bx,bY⟩:=info_parts kE;obtain⟨cG,b9,h⟩:=h;obtain⟨c0,_,_,_,c4,c5,_,_,_,ca,_,er,_,lk,_⟩:=d8 h;obtain⟨cb,_⟩:=sI h (aJ c4)
 obtain⟨ad,cap,rfl⟩:=eE er;have ao:=hide N;have cc:=hide h;have cd:=hB.ep;have ap:=N.h8;have aB:=hide ap;have aF:ay (k.kv s=(decide ((k.du s s.ep).1.length<s.ep.length),{(k.du s s.ep).2 with ep:=(k.du s s.ep).1})):=rfl;have cf:(0:Int)<=k.N:=V;clear N hB ap;go_enter func187,ntmps187;go_wp2_with fail
 go_loopw [3,12] (fun vr iv wr=>∃(j:Nat)(R:List Int)(s1:cj)(ar:Option Addr)(d:Nat)(g:Nat->Prop),j<=s.ep.length/\iv=ah j/\ay (k.du s (s.ep.take j)=(R,s1))/\vr=.slice ar R.length d/\wr.ownsRow w.heap.size 3 1 (.slice ar R.length d) R.length (R.map (Value.int .i64))/\(cutV c k cG (.slice ad s.ep.length cap)).J g s1 wr/\b8 F w g wr/\ay (∀b,some b=(Value.slice ar R.length d).ownBlock->¬g b)/\ay (CI k s1/\eC k s s1)) (fun _ iv _=>s.ep.length-(intOf iv).toNat)
 exact⟨0,[],s,none,0,F,aZ _,rfl,rfl,rfl,bc _ _ _ _,h,b8.refl _ _,fun b e=>by simp[Value.ownBlock] at e,⟨ao.out,eC.refl _ _⟩⟩
 ·
   obtain⟨j,R,s1,ar,d,g,u,rfl,v,rfl,i,o,m,A,B⟩:=hrel;obtain⟨aR,_,_,_,aV,a0,_,_,_,O,_,C,_,cg,_⟩:=d8 o;have a1:=O 4;have bZ:=B.out.2.ep;rw[bZ] at C;have ch:R.length<=10000:=by have D:=(ao.out.du (s.ep.take j) (fun a ha=>(aB.out a (List.mem_of_mem_take ha)).1)).2.2.1;rw[v.out] at D;simp at D;omega
   by_cases I:j<s.ep.length
   ·obtain⟨p,q,b0,ci,hc⟩:=gH C V;have Q:=hc j I;subst b0;have a2:s.ep.getD j 0∈s.ep:=by rw[aE,aL I];exact a6 I
    have b1:=aB.out _ a2;have S:ay (k.du s (s.ep.take (j+1))=k.cP (R,s1) (s.ep.getD j 0)):=by
     show _=_;rw[gx s.ep j I 0];unfold ce.du;rw[List.foldl_append];have:=v.out;unfold ce.du at this
     rw[this];rfl
    generalize s.ep.getD j 0=a at Q b1 S;obtain⟨bb,_⟩:=iO o;have L:=jJ (a+1) wr bb;have bd:ld k.N k.y s1.g s1.ws (a+1)=k.ld s1 (a+1):=rfl;rw[bd] at L;have n:=dq o m;have ck:=m.fr.size;have b2:ay (∀b,some b=(Value.slice ar R.length d).ownBlock->b<wr.heap.size):=fun b e=>(cn i b e).2;clear hc a2 o m bb bd O;cases hls:k.ls s1 (k.ld s1 (a+1))
    ·have U:ay (k.du s (s.ep.take (j+1))=(R,k.kf (k.kf s1 (a+1)) (a+2))):=by show _=_;rw[S.out];unfold ce.cP;rw[hls];rfl
     generalize k.ld s1 (a+1)=x at L hls;go_wp2_with fail;refine L.mono ?_;clear L;rintro e w1 ⟨rfl,f⟩
     have P:=n8 ((cutV c k cG (.slice (some ⟨p,q,none⟩) s.ep.length cap)).below n.out.1 f) x;rw[hls] at P;clear Q aR a0 aV a1 C;go_wp2_with fail;refine P.mono ?_;clear P;rintro e be ⟨rfl,E⟩
     have hb:=f.trans (E.mono f.size)
     clear f E;go_wp2_with fail;refine(qk ((cutV c k cG (.slice (some ⟨p,q,none⟩) s.ep.length cap)).below n.out.1 hb) B.out.1 (a+1)).mono ?_;rintro e cl ⟨rfl,bg,bi⟩
     obtain⟨G,H⟩:=B.out.1.kf (a:=a+1) V;have t:=jr bg ((b8.of hb).trans bi) G H;clear bg bi G H hb;go_wp2_with fail;refine(qk t.out.1 t.out.2.2.1 (a+2)).mono ?_;rintro e W ⟨rfl,J,K⟩
     obtain⟨G,H⟩:=t.out.2.2.1.kf (a:=a+2) V;have X:=t.out.2.1.trans K;have M:=jr J (n.out.2.trans X) G ((B.out.2.trans t.out.2.2.2).trans H)
     have Y:=hQ i X.fr (fun b e=>A.out b e)
     clear J K G H X i t;go_wp2_with fail;go_roundw;exact⟨j+1,R,_,ar,d,g,V,af,U,rfl,Y,M.out.1,M.out.2.1,A,⟨M.out.2.2.1,M.out.2.2.2⟩⟩
     simp[intOf];omega
    ·have U:ay (k.du s (s.ep.take (j+1))=(R++[a],s1)):=by show _=_;rw[S.out];unfold ce.cP;rw[aI hls]
     generalize k.ld s1 (a+1)=x at L hls;go_wp2_with fail;refine L.mono ?_;clear L;rintro e w1 ⟨rfl,f⟩
     have P:=n8 ((cutV c k cG (.slice (some ⟨p,q,none⟩) s.ep.length cap)).below n.out.1 f) x;rw[hls] at P;clear Q aR a0 aV a1 C;go_wp2_with fail;refine P.mono ?_;clear P;rintro e be ⟨rfl,E⟩
     have hb:=f.trans (E.mono f.size)
     have ab:=cH i (fun b e=>hb.block b (b2.out b e))
     have cm:=hb.size;clear f E;go_wp2_with (at_builtin;refine wpList_append_own_at _ rfl _ _ 74 rfl w.heap.size 3 bs (ah 0) 1 8 Tryz.underlying74 hi bt bx bY rfl aa (.slice ar R.length d) R.length (R.map (Value.int .i64)) rfl (ga ab _) ⟨be.heap.size,0,none⟩ 1 1 [ah a] rfl rfl ?_ ?_ ?_ ?_ ?_ ?_;(intro j b3 u;match j,u with|0,u=>(simp at u;subst u;simp[Addr.add]));(intro b3 bl;simp at bl;subst bl;rfl);(unfold maxLen;omega);omega;(simp;omega);intro co W ag ai _ bn;obtain⟨b4,al,b5⟩:=eU ag (Nat.succ_pos _);subst b5)
     have Y:W.ownsRow w.heap.size 3 1 (.slice (ak b4) (R++[a]).length al) (R++[a]).length ((R++[a]).map (Value.int .i64)):=by simpa using ag
     have am:=(cutV c k cG (.slice (some ⟨p,q,none⟩) s.ep.length cap)).below n.out.1 hb;have J:=pX (cutV c k cG (.slice (some ⟨p,q,none⟩) s.ep.length cap)) am ai (fun b e=>A.out b e)
     have K:b8 F w g W:=⟨((n.out.2.below hb).fr.alloc _).grown ai (fun b e=>aJ (cn ab b e.symm).1),n.out.2.sub⟩
     have b6:ay (∀b,some b=(Value.slice (ak b4) (R++[a]).length al).ownBlock->¬g b):=fun b e bo=>by
      have b7:=bn.imp id (fun e=>by simpa[Value.ownBlock] using e)
      simp[Value.ownBlock] at e;subst e;rcases b7 with e|e
      ·exact A.out _ e bo
      ·have:=(cutV c k cG (.slice (some ⟨p,q,none⟩) s.ep.length cap)).lt am _ bo;omega
     clear am ag ai bn ab i hb;go_wp2_with fail;go_roundw;exact⟨j+1,R++[a],s1,ak b4,al,g,V,af,U,Z,Y,J,K,b6,B⟩
     simp[intOf];omega
   ·obtain rfl:j=s.ep.length:=V;rw[bu] at v;obtain⟨bp,br⟩:=xn o (v1:=.slice ar R.length d) (l:=R) (Fr.refl _ wr) (eT i (fun _ _=>aZ _)) (fun b e=>aJ (A.out b e))
    have sJ:=dq bp (m.fr.trans br m.sub)
    have xt:ay (∀b,some b=(Value.slice ar R.length d).ownBlock->w.heap.size<=b):=fun b e=>(cn i b e).1;have xs:=hide m.sub;have E2:ay ((k.kv s).1=decide (R.length<s.ep.length)/\(k.kv s).2={s1 with ep:=R}):=by have D:=aF.out;rw[v.out] at D;rw[D];exact⟨rfl,rfl⟩
    clear bp br o m i C v aF O;by_cases hll:R.length<s.ep.length
    ·go_wp2_with fail;exact qg
    ·go_wp2_with fail;exact qg
end
theorem qm {w:ax}{base size n g cap:Nat}{e:TypeId}{b:List Value}(h:w.ownsRow base e size (.slice (ak g) n cap) n b)(i:Nat)(u:Value):(w.setCell ⟨g,i,none⟩ u).ownsRow base e size (.slice (ak g) n cap) n (b.set i u):=by exact vQ
theorem sM:∀(l:List b7)(i:Nat)(g z:Int),ev (l.set i (g,z))=((ev l).set (i*2) (ah g)).set (i*2+1) (ah z)
 |[],_,_,_=>rfl
 |e::l,0,g,z=>by simp[ev]
 |e::l,i+1,g,z=>by
  have b:ev (e::l)=ah e.1::ah e.2::ev l:=by simp[ev]
  have c:ev ((e::l).set (i+1) (g,z))=ah e.1::ah e.2::ev (l.set i (g,z)):=by simp[ev]
  rw[b,c,(sM l i g z),show(i+1)*2=i*2+1+1 by omega];simp
theorem xz {G:Type}(o:dr G)(p:Nat)(vr:Value):qa (c7 o p vr) where
 w7:=by
  rintro F s w ⟨B,ad,cap,C,c,l,m,d,n,t,u⟩ w1 q a1 c1 hb x;have d:F p:=d;have lp:=lt_of_some c;have f:∀k,k≠p->(w1.setCell ⟨p,1,none⟩ (.slice a1 q.length c1)).heap[k]?=w1.heap[k]?:=fun k hk=>aU _ _ _ _ hk;have hs:(w1.setCell ⟨p,1,none⟩ (.slice a1 q.length c1)).heap.size=w1.heap.size:=by simp[World.setCell]
  have L:=hb.size;refine⟨B,a1,c1,o.keep (o.below C hb) (by show w1.heap.size<=(w1.setCell ⟨p,1,none⟩ _).heap.size;rw[hs];exact aD _) (fun k h=>f k (fun e=>n (by rw[<-e];exact h))),?_,eT (cH x (fun k e=>f k (by have:=(cn x k e).1;omega))) (fun _ _=>aZ _),fun k h=>aK (m k h),aK d,n,fun k e=>?_,fun k h=>?_⟩
  ·have H:=(hb.block p lp).trans c;show(w1.setCell ⟨p,1,none⟩ _).heap[p]?=_;simp only [World.setCell,Array.getElem?_modify,if_true,H,Option.map_some];simp;rfl
  ·exact⟨aJ e,fun h=>by have M:=u k (m k h);have:=(cn x k e).1;omega⟩
  ·show k<(w1.setCell ⟨p,1,none⟩ _).heap.size;rw[hs];rcases h with h|h
   ·have:=u k h;omega
   ·exact(cn x k h).2
 w8:=by
  rintro F s w ⟨B,I,D,C,c,l,m,d,n,t,u⟩ ad cap hp i hi g z;have hp:w.heap[p]?=some (.cells #[vr,.slice ad s.2.length cap] 153 (0,0)):=hp;have hi:i<s.2.length:=hi;have he:=c.symm.trans hp;obtain⟨rfl,rfl⟩:=he;obtain⟨b,rfl⟩:∃b,I=some _:=by
   rcases l.2 with⟨_,h0⟩|⟨J,N,K,hv,_⟩
   ·omega
   ·simp at hv;exact⟨J,hv.1⟩
  obtain⟨K,A⟩:=e5 l b rfl;have E:b≠p:=fun e=>by rw[e,c] at A;simp at A
  have f:∀(j v:Value) k,k≠b->((w.setCell ⟨b,0+i*2,none⟩ j).setCell ⟨b,0+i*2+1,none⟩ v).heap[k]?=w.heap[k]?:=fun j v k hk=>(aU _ _ _ _ hk).trans (aU _ _ _ _ hk)
  have hs:∀(j v:Value),((w.setCell ⟨b,0+i*2,none⟩ j).setCell ⟨b,0+i*2+1,none⟩ v).heap.size=w.heap.size:=fun j v=>by simp[World.setCell]
  refine⟨b,0,rfl,(t b rfl).1,E,by simp[World.frozen?,A],by simp[World.frozen?,A],B,ak b,D,o.keep C (by rw[hs];exact aD _) (fun k h=>f _ _ k (fun e=>(t b rfl).2 (by rw[<-e];exact h))),?_,?_,m,d,n,?_,?_⟩
  ·show((w.setCell _ _).setCell _ _).heap[p]?=some (.cells #[vr,.slice (ak b) (s.2.set i (g,z)).length D] 153 (0,0))
   rw[a4];exact(f _ _ p (Ne.symm E)).trans c
  ·show((w.setCell _ _).setCell _ _).ownsRow 0 103 2 (.slice (ak b) (s.2.set i (g,z)).length D) (s.2.set i (g,z)).length (ev (s.2.set i (g,z)))
   rw[a4,sM,Nat.zero_add];exact qm (qm l (i*2) _) _ _
  ·intro k e;exact t k e
  ·intro k h;rw[hs];exact u k h
def xA {b:Type}(o:dr b)(I:b->Prop):dr b where
 J F t w:=o.J F t w/\I t
 lt:=fun h=>o.lt h.1
 keep:=fun h hs hk=>⟨o.keep h.1 hs hk,h.2⟩
def da {f:Type}(o:dr f)(bx:Nat)(x:Obj):dr f where
 J F t w:=∃c,o.J c t w/\w.heap[bx]?=some x/\¬c bx/\∀b,F b↔(c b\/b=bx)
 lt:=by
  rintro F t w ⟨c,h,e,_,d⟩ b hb;rcases(d b).1 hb with hb|hb
  ·exact o.lt h b hb
  ·rw[hb];exact lt_of_some e
 keep:=by rintro F t w w' ⟨c,h,e,hn,d⟩ hs hk;exact⟨c,o.keep h hs (fun b hb=>hk b ((d b).2 (aK hb))),(hk bx ((d bx).2 (aJ rfl))).trans e,hn,d⟩
section
variable {gZ:Type}{o:dr gZ}{bx p:Nat}{x:Obj}{vr:Value}{F:Nat->Prop}{w w':ax}
theorem n9 {t:gZ×List b7}(h:(c7 o p vr).J F t w):∃d,o.J d t.1 w/\∀c f w',o.J c f w'->b8 d w c w'->∃j,(c7 o p vr).J j (f,t.2) w'/\b8 F w j w':=by
 obtain⟨d,ad,cap,s,l,g,m,u,n,i,v⟩:=h;refine⟨d,s,fun c f w' q b=>?_⟩
 have lp:=lt_of_some l;refine⟨fun k=>F k\/c k,⟨c,ad,cap,q,(b.fr.block p lp n).trans l,cH g (fun k e=>b.fr.block k (cn g k e).2 (i k e).2),fun k h=>aJ h,aK u,fun h=>(b.sub p h).elim n (fun h=>by omega),fun k e=>⟨aK (i k e).1,fun h=>(b.sub k h).elim (i k e).2 (fun h=>by have:=(cn g k e).2;omega)⟩,fun k h=>?_⟩,b.fr.mono m,fun k h=>?_⟩
 ·rcases h with h|h
  ·exact aM (v k h) b.fr.size
  ·exact o.lt q k h
 ·rcases h with h|h
  ·exact aK h
  ·exact(b.sub k h).imp (m k) id
theorem ka {t:gZ×List b7}(h:(c7 o p vr).J F t w)(f:w.heap[bx]?=some x)(hn:¬F bx):(c7 (da o bx x) p vr).J (fun b=>F b\/b=bx) t w:=by obtain⟨g,ad,cap,k,l,m,i,j,n,d,q⟩:=h;refine⟨fun b=>g b\/b=bx,ad,cap,⟨g,k,f,fun c=>hn (i _ c),fun b=>Iff.rfl⟩,l,m,fun b hb=>hb.imp (i b) id,aK j,fun c=>c.elim n (fun e=>hn (by rw[<-e];exact j)),fun b e=>⟨aK (d b e).1,fun c=>c.elim (d b e).2 (fun s=>hn (by rw[<-s];exact(d b e).1))⟩,fun b hb=>hb.elim (q b) (fun e=>by rw[e];exact lt_of_some f)⟩
theorem sN {t:gZ×List b7}(h:(c7 (da o bx x) p vr).J F t w):(c7 o p vr).J F t w:=by obtain⟨n,ad,cap,⟨f,g1,g2,g3,g4⟩,g,i,j,k,l,d,m⟩:=h;exact⟨f,ad,cap,g1,g,i,fun b hb=>j b ((g4 b).2 (aK hb)),k,fun c=>l ((g4 p).2 (aK c)),fun b e=>⟨(d b e).1,fun c=>(d b e).2 ((g4 b).2 (aK c))⟩,m⟩
theorem sO {D:Int->Prop}{f:Nat}{b c:Array Value}{kp:gZ->Int->Int×gZ}(hk:nU o D f b c kp):nU (da o bx x) D f b c kp:=by
 rintro F t w y k ⟨l,h,d,hn,e⟩
 refine(hk l t w y k h).mono ?_;rintro r w' ⟨g,rfl,m,i,j⟩
 refine⟨fun b=>g b\/b=bx,rfl,⟨g,m,(i.block bx (lt_of_some d) hn).trans d,fun c=>(j bx c).elim hn (fun c=>by have:=lt_of_some d;omega),fun b=>Iff.rfl⟩,i.mono (fun b hb=>(e b).2 (aK hb)),fun b hb=>?_⟩
 rcases hb with hb|hb
 ·exact(j b hb).imp (fun c=>(e b).2 (aK c)) id
 ·exact aK ((e b).2 (aJ hb))
theorem lZ {D:Int->Prop}{f:Nat}{b c:Array Value}{nw:gZ->Int->Int}(ht:k7 o D f b c nw):k7 (da o bx x) D f b c nw:=by
 rintro F t w y d ⟨e,h,_⟩
 exact ht e t w y d h
end
def gJ (c:gj)(k:ce):dr cj:=xA (d7 c k) (fun s=>CI k s/\ee k s)
abbrev i2 (c:gj):Obj:=.cells #[aj c.pk] 164 (0,0)
abbrev kc (bx:Nat):fP:=⟨188,#[],#[aj bx]⟩
abbrev lr (c:gj):fP:=⟨190,#[aj c.pk],#[]⟩
abbrev mY (c:gj):fP:=⟨182,#[aj c.pk],#[]⟩
abbrev mZ (c:gj):fP:=⟨111,#[aj c.pk],#[]⟩
theorem xB:dN 188:=f_ func188 ae rfl
theorem xC:dN 190:=f_ func190 ae rfl
theorem DQ:dN 182:=f_ func182 ae rfl
theorem DR:dN 111:=f_ func111 ae rfl
section
variable {c:gj}{k:ce}{F:Nat->Prop}{s:cj}{w:ax}
theorem xD (fv:fP)(w:ax)(p:Nat):
 Calls prog 110 #[aj p,fv.v] w fun e w'=>e=.returned (.agg #[(kc w.heap.size).v,fv.v,.func (.func 190) #[aj p] #[]])/\w'.heap[w.heap.size]?=some (.cells #[aj p] 164 (0,0))/\aw w w':=by
 obtain⟨f,b,c⟩:=fv;go_enter func110,ntmps110;go_wp2_with fail;refine a3 (v:=.agg #[(kc w.heap.size).v,.func (.func f) b c,.func (.func 190) #[aj p] #[]]) (by simp[results,results110,go_sem]) rfl ⟨rfl,?_,((aH _ w).alloc bW _).alloc Z _⟩
 rw[aS _ _ _ Z];exact aN _ _
theorem xE (bx:Nat):j9 (da (gJ c k) bx (i2 c)) (fun _=>True) (kc bx).f (kc bx).b (kc bx).c k.al:=by
 rintro F s w x _ ⟨f,⟨⟨cG,g,h⟩,_⟩,b,_⟩
 have P:=n8 h x;have c0:w.cell? (aq bx 0)=some (aj c.pk):=by simp[World.cell?,b]
 have E:k.al s x=!k.ls s x:=rfl;go_enter func188,ntmps188;go_wp2_with fail;refine P.mono ?_;rintro e w1 ⟨rfl,d⟩
 go_wp2;go_ret;exact⟨rfl,d⟩
theorem xF:k7 (gJ c k) (fun _=>True) (lr c).f (lr c).b (lr c).c k.nw:=by
 rintro F s w x _ ⟨⟨cG,b,h⟩,_⟩
 exact qi h x
theorem DS:nU (gJ c k) (fun _=>True) (mY c).f (mY c).b (mY c).c k.br:=by
 rintro F s w x _ ⟨⟨cG,e,h⟩,b,hB⟩
 refine(qj h b x).mono ?_;rintro r w' ⟨rfl,f,d⟩
 obtain⟨g,i,_⟩:=b.br x;exact⟨F,rfl,⟨⟨cG,e,f⟩,g,i.cb hB⟩,d.fr,d.sub⟩
end
end Go.Proofs.YtpkjkjhanlbcoaaGreat
