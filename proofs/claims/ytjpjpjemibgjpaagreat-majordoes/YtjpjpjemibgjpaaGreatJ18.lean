import Derived.Test.YtjpjpjemibgjpaaGreatJ17
import Derived.Test.YtjpjpjemibgjpaaGreatJ06
import Derived.Test.YtjpjpjemibgjpaaGreatJ16
import Derived.Test.YtjpjpjemibgjpaaGreatJ01
import Derived.Test.YtjpjpjemibgjpaaGreatJ00
import Derived.Test.YtjpjpjemibgjpaaGreatJ02
import Derived.Test.YtjpjpjemibgjpaaGreatJ03
namespace Go.Proofs.YtjpjpjemibgjpaaGreat
set_option maxRecDepth 100000
set_option maxHeartbeats 2000000
open Tryz
open Go.RowKit W Kp bY
theorem pB {x:Int}(h:cI x=true):0<=bQ x/\bQ x<1152921504606846976:=by rw[iD x h];unfold cI at h;simp at h;exact rP x h.2
section
variable {c:fs}{k:bP}{ch bO:Value}{F:Nat->Prop}{s:bU}{w:World}
theorem sN (h:(cutV c k ch bO).J F s w)(x:Int):
 Calls prog 181 #[af c.pk,ae x] w fun e w'=>∃v,e=.returned (.tuple #[ae v,.bool (k.cq x)])/\(k.cq x=true->v=s.f (bQ x))/\Below w.heap.size w w':=by
 have l:Hid ((cutV c k ch bO).J F s w):=h;have P:=lu x w;clear h;cases ha:cI x
 ·rw[ha] at P;have d:k.cq x=false:=by unfold bP.cq;rw[ha];rfl
  rw[d];go_enter func181,ntmps181;go_wp2_with fail;refine P.mono ?_;clear P;rintro e w1 ⟨rfl,f⟩
  go_wp2_with fail;go_ret2;exact⟨0,rfl,fun h=>by simp at h,f⟩
 ·have d:k.cq x=k.T.contains (bQ x):=by unfold bP.cq;rw[ha];rfl
  have i:=pB ha;rw[d];rw[ha] at P;clear ha d;generalize bQ x=a at P i⊢;have p:=hF i.1 i.2;obtain⟨b,g⟩:∃b,b=k.T.contains a:=⟨_,rfl⟩
  rw[<-g];go_enter func181,ntmps181;go_wp2_with fail;refine P.mono ?_;clear P;rintro e w1 ⟨rfl,f⟩
  have j:=(cutV c k ch bO).below l.out f;obtain⟨c0,c1,_⟩:=dL j;obtain⟨⟨D,o1,m,n⟩,_⟩:=sK j;have q:Hid (Maps.has D (.int .i64 a)=b):=(m a).trans g.symm;have t:Hid (b=true->D.atKey (.int .i64 a) (.lit (.int .i64 0))=.lit (.int .i64 (s.f a))):=fun e=>n a (by rw[g] at e;simpa using e)
  clear m n g j l;go_wp2_with (at_lookup;refine wpList_lookup_own_ok_int _ rfl _ _ 108 rfl 3 3 .i64 gz Tryz.underlying108 Tryz.underlying3 (jm _) c.bW k.T.length D rfl o1 _ _ rfl p ?_;intro z o u;rw[q.out];have A:Hid (b=true->z=s.f a):=(fun e=>by have:=o.symm.trans (t.out e);simpa using this);clear o u)
  go_ret2;exact⟨z,rfl,A.out,f⟩
theorem lH (h:(cutV c k ch bO).J F s w)(x:Int):
 Calls prog 156 #[af c.pk,ae x] w fun e w'=>e=.returned (.bool (k.ls s x))/\Below w.heap.size w w':=by
 have P:=sN h x;clear h;cases hy:k.cq x
 ·have b:k.ls s x=false:=by unfold bP.ls;rw[hy];rfl
  rw[b];rw[hy] at P;go_enter func156,ntmps156;go_wp2_with fail;refine P.mono ?_;clear P;rintro e w1 ⟨v,rfl,_,d⟩
  go_wp2_with fail;go_ret;exact⟨rfl,d⟩
 ·have b:k.ls s x=(s.f (bQ x)==-1):=by unfold bP.ls;rw[hy];rfl
  rw[b];rw[hy] at P;generalize s.f (bQ x)=a at P⊢;go_enter func156,ntmps156;go_wp2_with fail;refine P.mono ?_;clear P;rintro e w1 ⟨v,rfl,f,d⟩
  have f:=f trivial;subst f;go_wp2_with fail;go_ret;exact⟨rfl,d⟩
theorem nH (h:(cutV c k ch bO).J F s w)(x:Int):
 Calls prog 157 #[af c.pk,ae x] w fun e w'=>e=.returned (ae (k.nw s x))/\Below w.heap.size w w':=by
 have P:=sN h x;clear h;cases hy:k.cq x
 ·have f:k.nw s x=x:=by unfold bP.nw;rw[hy];simp
  rw[f];rw[hy] at P;go_enter func157,ntmps157;go_wp2_with fail;refine P.mono ?_;clear P;rintro e w1 ⟨v,rfl,_,d⟩
  go_wp2_with fail;go_ret;exact⟨rfl,d⟩
 ·rw[hy] at P;by_cases g:s.f (bQ x)=-1
  ·have f:k.nw s x=x:=by unfold bP.nw;rw[hy,g];simp
   rw[f];rw[g] at P;go_enter func157,ntmps157;go_wp2_with fail;refine P.mono ?_;clear P;rintro e w1 ⟨v,rfl,b,d⟩
   have b:=b trivial;subst b;go_wp2_with fail;go_ret;exact⟨rfl,d⟩
  ·have f:k.nw s x=ew 3 (s.f (bQ x)):=by unfold bP.nw;rw[hy,aq (by simp[g])]
   rw[f];generalize s.f (bQ x)=a at P g⊢;have j:¬(-1=a):=fun e=>g e.symm;go_enter func157,ntmps157;go_wp2_with fail;refine P.mono ?_;clear P;rintro e w1 ⟨v,rfl,b,d⟩
   have b:=b trivial;subst b;go_wp2_with fail;refine(m8 v w1).mono ?_;rintro e l ⟨rfl,i⟩
   go_wp2_with fail;go_ret;exact⟨rfl,d.trans (i.mono d.size)⟩
theorem nI (h:(cutV c k ch bO).J F s w)(j:CI k s)(x:Int):
 Calls prog 149 #[af c.pk,ae x] w fun e w'=>e=.returned (ae (k.br s x).1)/\(cutV c k ch bO).J F (k.br s x).2 w'/\bM F w F w':=by
 have q:Hid ((cutV c k ch bO).J F s w):=h;have P:=lH h x;clear h;cases hl:k.ls s x
 ·have n:k.br s x=(k.nw s x,s):=by unfold bP.br;rw[hl];rfl
  rw[n];rw[hl] at P;go_enter func149,ntmps149;go_wp2_with fail;refine P.mono ?_;clear P;rintro e w1 ⟨rfl,d⟩
  have H:=(cutV c k ch bO).below q.out d;have J:=nH H x;clear H;go_wp2_with fail;refine J.mono ?_;rintro e o ⟨rfl,l⟩
  have i:=d.trans (l.mono d.size)
  clear J d l;go_wp2_with fail;go_ret;exact⟨rfl,(cutV c k ch bO).below q.out i,bM.of i⟩
 ·have n:k.br s x=(k.nw (k.cp s (bQ x)) x,k.cp s (bQ x)):=by unfold bP.br;rw[aq hl]
  rw[n];obtain⟨l1,l2,aF⟩:=bP.kI hl;have K:=pB l1;have u:=lu x;rw[hl] at P;rw[l1] at u;have L:=hF K.1 K.2;have E:Hid (k.cp s (bQ x)={s with g:=h9 k.N k.O k.y s.g s.ws (bQ x),ws:=h_ k.N k.O k.y s.g s.ws (bQ x),f:=fe s.f (bQ x) (kt k.N k.O k.y s.g s.ws (bQ x))}):=rfl;have n1:=j.hN';have bd:=j.hO;have be:=j.hg;have bg:=j.tl;have M:(Lit.int .i64 (kt k.N k.O k.y s.g s.ws (bQ x))).wf=true:=by
   unfold kt;split
   ·exact WalkArith.wf_i64 ⟨I,I⟩
   ·decide
  have N:=kz _ M;generalize k.cp s (bQ x)=s2 at E⊢;clear j n hl l1 aF M;generalize bQ x=a at*;go_enter func149,ntmps149;go_wp2_with fail;refine P.mono ?_;clear P;rintro e w1 ⟨rfl,d⟩
  go_wp2_with fail;refine(u w1).mono ?_;rintro e o ⟨rfl,l⟩
  have i:=d.trans (l.mono d.size)
  have v:=(cutV c k ch bO).below q.out i;obtain⟨c0,c1,_,_,_,aR,_⟩:=dL v;have O:=(cutV c k ch bO).below v (Below.refl _ o).drew;obtain⟨aT,Q⟩:=gO O;have A:Hid (_/\_):=⟨i,Q⟩
  have C:=rC a o.drew aT;clear d l i u Q O v;go_wp2_with fail
  go_region_held3 (fun w'=>w'.cell? (ah c.pk 0)=some (af c.pw)/\w'.cell? (ah c.pk 1)=some (.map (some c.bW))/\w'.cell? (ah c.pw 0)=some (af c.p)) (go_keep)
   (first
     |(go_at_call 132;refine C.mono ?_;clear C;rintro e w3 ⟨rfl,R,S⟩;obtain⟨p,U⟩:=A.out.2 w3 _ _ R S;obtain⟨W,X,_,_,_,Y,_⟩:=dL p;obtain⟨n4,a0⟩:=x_ p;obtain⟨⟨D,o1,ad,ai⟩,hM⟩:=sK p;obtain⟨B,a1,al,m⟩:=o1.update (t:=108) (e:=3) gz Tryz.underlying108 (by unfold maxLen;omega) L N;have a2:=m.cell W (by simpa using n4);have a3:=m.cell X (by simpa using n4);have bb:=m.cell Y (by simpa using a0);obtain⟨ar,ax⟩:=hM B _ (Mp.put o1 ad ai l2 al) ((Fr.refl _ w3).grown m (fun b e=>ap (by cases e;rfl)));have G:Hid ((cutV c k ch bO).J F s2 B/\bM F w F B):=⟨(by rw[E.out];exact ar),(((bM.of A.out.1).below (Below.refl _ o).drew).trans U).trans ax⟩;clear R S p U o1 ad ai hM al m ar ax))
  clear a2 a3 bb W X Y a1 c0 c1 aR E N L A;go_wp2_with fail;refine(nH G.out.1 x).mono ?_;rintro e bi ⟨rfl,aB⟩
  go_wp2_with fail;go_ret;exact⟨rfl,(cutV c k ch bO).below G.out.1 aB,G.out.2.below aB⟩
theorem nJ (h:(cutV c k ch bO).J F s w)(m:CI k s)(a:Int):
 Calls prog 180 #[af c.pk,ae a] w fun e w'=>e=.returned (.tuple #[])/\(cutV c k ch bO).J F (k.kf s a) w'/\bM F w F w':=by
 have d:=(cutV c k ch bO).below h (Below.refl _ w).drew;obtain⟨c0,_,_,_,_,K,_⟩:=dL h;obtain⟨n,_⟩:=gO d;have L:=h8 a w.drew n;have H:Hid (CI k s):=m;have o:Hid ((cutV c k ch bO).J F s w.drew):=d;have E:Hid (k.kf s a=k.st (k.br s (k.ld s a)).2 a (k.br s (k.ld s a)).1):=rfl;have p:ld k.N k.y s.g s.ws a=k.ld s a:=rfl;rw[p] at L;generalize k.kf s a=s2 at E⊢;generalize k.ld s a=x at E L;clear h m d n p;go_enter func180,ntmps180
 go_region_held3 (fun w'=>w'.cell? (ah c.pk 0)=some (af c.pw)/\w'.cell? (ah c.pw 0)=some (af c.p)) (go_keep)
  (first
    |(go_at_call 73;refine L.mono ?_;clear L;rintro e w3 ⟨rfl,q⟩;have f:=(cutV c k ch bO).below o.out q;obtain⟨t,_,_,_,_,u,_⟩:=dL f;have v:Hid ((cutV c k ch bO).J F s w3/\bM F w F w3):=⟨f,(bM.of (Below.refl _ w).drew).below q⟩;clear f o)
    |(go_at_call 149;refine(nI v.out.1 H.out x).mono ?_;rintro e J ⟨rfl,g,A⟩;obtain⟨t,_,_,_,_,u,_⟩:=dL g;obtain⟨B,b⟩:=gO g;have i:Hid (_/\_/\_):=⟨v.out.2.trans A,B,b⟩;clear g A B b)
    |(go_at_call 68;refine(jP a (k.br s x).1 J i.out.2.1).mono ?_;rintro e j ⟨rfl,b,C⟩;obtain⟨l,D⟩:=i.out.2.2 j _ _ b C;obtain⟨t,_,_,_,_,u,_⟩:=dL l;have G:Hid ((cutV c k ch bO).J F s2 j/\bM F w F j):=⟨(by rw[E.out];exact l),i.out.1.trans D⟩;clear b C l D))
 go_wp2_with fail;go_end0;exact⟨rfl,G.out.1,G.out.2⟩
end
section
variable {c:fs}{k:bP}{F:Nat->Prop}{s:bU}{w:World}
theorem yf {a:Int}(h:pk (k.ld s a)=1\/pk (k.ld s a)=2):k.lk s a=k.eW s a (pf (k.ld s a)).toNat:=by unfold bP.lk;rw[aq h]
theorem yh {a:Int}(h:pk (k.ld s a)=3):k.lk s a=k.kf {s with wk:=s.wk++[a]} (a+2):=by unfold bP.lk;rw[ao I,aq h]
theorem yi {a:Int}(h:pk (k.ld s a)=4):k.lk s a={s with ep:=s.ep++[a]}:=by unfold bP.lk;rw[ao I,ao I,aq h]
theorem yj {a:Int}(d:pk (k.ld s a)≠1)(e:pk (k.ld s a)≠2)(b:pk (k.ld s a)≠3)(c:pk (k.ld s a)≠4):k.lk s a=s:=by unfold bP.lk;rw[ao I,ao b,ao c]
theorem sO (h:(dq c k).J F s w)(i:CI k s)(a:Int)(C:(k.N:Int)<=a)(a1:a<=2000)(hk:pk (k.ld s a)=1\/pk (k.ld s a)=2):
 Calls prog 152 #[af c.pk,ae a] w fun e w'=>∃l,e=.returned (ae (1+pf (k.ld s a)))/\(dq c k).J l (k.lk s a) w'/\bM F w l w':=by
 rw[yf hk];obtain⟨ch,bO,h⟩:=h;obtain⟨c0,_,_,_,_,D,_⟩:=dL h;obtain⟨o,_⟩:=gO h;have L:=e9 a w o;have p:ld k.N k.y s.g s.ws a=k.ld s a:=rfl;rw[p] at L;have hp:=cU (k.ld s a)
 have E:Hid (CI k s):=i;have b:Hid ((cutV c k ch bO).J F s w):=h;clear o i h p;generalize pf (k.ld s a)=n at L hp⊢;obtain⟨m,rfl⟩:∃m:Nat,n=m:=⟨n.toNat,I⟩
 rw[Int.toNat_natCast];have hm:m<=12:=I;generalize pc (k.ld s a)=q at L;have G:(0:Int)<=k.N:=I;rcases hk with hk|hk
 all_goals
  rw[hk] at L;clear hk;go_enter func152,ntmps152;go_wp2_with fail;refine L.mono ?_;clear L;rintro e w1 ⟨rfl,d⟩
  have t:=(cutV c k ch bO).below b.out d;have u:bM F w F w1:=bM.of d;clear b d c0 D;go_wp2_with fail
  go_loopw [27] (fun iv wr=>∃(j:Nat),j<=m/\iv=ae j/\(cutV c k ch bO).J F (k.eW s a j) wr/\bM F w F wr) (fun iv _=>m-(intOf iv).toNat)
  case atStart=>exact⟨0,aA _,rfl,t,u⟩
  case round=>
   clear t u;obtain⟨j,H,rfl,f,g⟩:=hrel;by_cases J:j<m
   ·have b:Hid ((cutV c k ch bO).J F (k.eW s a j) wr/\bM F w F wr):=⟨f,g⟩
    clear f g;go_wp2_with fail;refine(nJ b.out.1 (E.out.eW C j).1 (a+1+j)).mono ?_;rintro e v ⟨rfl,x,A⟩
    have B:Hid ((cutV c k ch bO).J F (k.eW s a (j+1)) v/\bM F w F v):=⟨x,b.out.2.trans A⟩
    clear x A b;go_wp2_with fail;go_roundw
    case rel=>exact⟨j+1,I,ac,B.out.1,B.out.2⟩
    case measure=>simp[intOf];omega
   ·obtain rfl:j=m:=I;go_wp2_with fail;go_ret;exact⟨F,rfl,⟨ch,bO,f⟩,g⟩
theorem yk (h:(dq c k).J F s w)(a:Int)(b:pk (k.ld s a)≠1)(d:pk (k.ld s a)≠2)(f:pk (k.ld s a)≠3)(g:pk (k.ld s a)≠4):
 Calls prog 152 #[af c.pk,ae a] w fun e w'=>∃i,e=.returned (ae (1+pf (k.ld s a)))/\(dq c k).J i (k.lk s a) w'/\bM F w i w':=by
 rw[yj b d f g];obtain⟨ch,bO,h⟩:=h;obtain⟨c0,_,_,_,_,p,_⟩:=dL h;obtain⟨j,_⟩:=gO h;have L:=e9 a w j;have l:ld k.N k.y s.g s.ws a=k.ld s a:=rfl;rw[l] at L;have hp:=cU (k.ld s a)
 have o:Hid ((cutV c k ch bO).J F s w):=h;clear j h l;generalize pf (k.ld s a)=n at L hp⊢;generalize pc (k.ld s a)=q at L;generalize pk (k.ld s a)=kd at L b d f g;have t:(kd==1)=false:=by simpa using b
 have u:(kd==2)=false:=by simpa using d
 have v:(kd==3)=false:=by simpa using f
 have x:(kd==4)=false:=by simpa using g
 go_enter func152,ntmps152;go_wp2_with fail;refine L.mono ?_;clear L;rintro e w1 ⟨rfl,m⟩
 go_wp2_with fail;go_ret;exact⟨F,rfl,⟨ch,bO,(cutV c k ch bO).below o.out m⟩,bM.of m⟩
theorem yl (h:(dq c k).J F s w)(a:Int)(ad:s.ep.length<=10000)(i:pk (k.ld s a)=4):
 Calls prog 152 #[af c.pk,ae a] w fun e w'=>∃d,e=.returned (ae (1+pf (k.ld s a)))/\(dq c k).J d (k.lk s a) w'/\bM F w d w':=by
 rw[yi i];obtain⟨J,hi,K,M,N⟩:=info_parts iE;obtain⟨ch,bO,h⟩:=h;obtain⟨c0,_,_,_,_,O,_⟩:=dL h;obtain⟨t,_⟩:=gO h;have L:=e9 a w t;have v:ld k.N k.y s.g s.ws a=k.ld s a:=rfl;rw[v] at L;have hp:=cU (k.ld s a)
 have x:Hid ((cutV c k ch bO).J F s w):=h;clear t h v;rw[i] at L;generalize pf (k.ld s a)=n at L hp⊢;generalize pc (k.ld s a)=q at L;clear i;go_enter func152,ntmps152;go_wp2_with fail;refine L.mono ?_;clear L;rintro e w1 ⟨rfl,m⟩
 have f:=(cutV c k ch bO).below x.out m;obtain⟨ai,_,_,al,A,ar,_,_,_,B,_,er,_,lk,_⟩:=dL f;obtain⟨P,_⟩:=pA f (an A)
 obtain⟨o,p,rfl⟩:=dG er;have Q:=B 4;have C:Hid ((cutV c k ch (.slice o s.ep.length p)).J F s w1/\bM F w F w1):=⟨f,bM.of m⟩
 clear f c0 O m x B;go_wp2_with (at_builtin;refine wpList_append_own_at _ rfl _ _ 96 rfl 0 3 J (ae 0) 1 8 Tryz.underlying96 hi K M N rfl Z (.slice o s.ep.length p) s.ep.length (s.ep.map (Value.int .i64)) rfl (fC er _) ⟨w1.heap.size,0,none⟩ 1 1 [ae a] rfl rfl ?_ ?_ ?_ ?_ ?_ ?_;(intro j u g;match j,g with|0,g=>(simp at g;subst g;simp[Addr.add]));(intro u D;simp at D;subst D;rfl);(unfold maxLen;omega);(first|omega|simp);(first|omega|(simp;done)|(simp;omega));intro ax aB E G _ R;obtain⟨b4,S,U⟩:=dP E (Nat.succ_pos _);subst U;have H:=(G.block c.pk (by simp;omega) P).trans (Below.heap_alloc _ _ _ lk);have aF:=(aD (a:=⟨c.pk,4,none⟩) H).trans A;have aR:=(World.frozen?_of_block (a:=⟨c.pk,4,none⟩) H).trans Q)
 go_ret;obtain⟨d,W,X⟩:=ye C.out.1 (((Fr.refl _ w1).alloc _).grown G (fun b e=>ap e.symm)) (v1:=.slice (ag b4) (s.ep.length+1) S) (l:=s.ep++[a]) (by simpa using E) (fun b e=>by
  have Y:some b4=(Value.slice o s.ep.length p).ownBlock\/b4=w1.heap.size+1:=R.imp id (fun e=>by simpa[Value.ownBlock] using e)
  simp[Value.ownBlock] at e;subst e;exact Y.imp id (fun e=>by omega))
 exact⟨d,rfl,⟨_,_,W⟩,C.out.2.trans X⟩
theorem ym (h:(dq c k).J F s w)(B:CI k s)(a:Int)(S:(k.N:Int)<=a)(a1:a<=2000)(a3:s.wk.length<=10000)(i:pk (k.ld s a)=3):
 Calls prog 152 #[af c.pk,ae a] w fun e w'=>∃d,e=.returned (ae (1+pf (k.ld s a)))/\(dq c k).J d (k.lk s a) w'/\bM F w d w':=by
 rw[yh i];obtain⟨U,hi,W,X,Y⟩:=info_parts iE;obtain⟨ch,bO,h⟩:=h;obtain⟨c0,_,_,_,_,ad,_⟩:=dL h;obtain⟨C,_⟩:=gO h;have L:=e9 a w C;have D:ld k.N k.y s.g s.ws a=k.ld s a:=rfl;rw[D] at L;have hp:=cU (k.ld s a)
 have E:Hid ((cutV c k ch bO).J F s w):=h;have ai:Hid (CI k {s with wk:=s.wk++[a]}):=B.sJ S a1;clear C h D B;rw[i] at L;generalize pf (k.ld s a)=n at L hp⊢;generalize pc (k.ld s a)=q at L;clear i;have bb:(0:Int)<=k.N:=I;go_enter func152,ntmps152;go_wp2_with fail;refine L.mono ?_;clear L;rintro e w1 ⟨rfl,m⟩
 have f:=(cutV c k ch bO).below E.out m;obtain⟨al,_,_,o,ar,ax,_,_,_,G,er,_,_,lk,_⟩:=dL f;obtain⟨aB,_⟩:=pA f (ap o)
 obtain⟨p,t,rfl⟩:=dG er;have aF:=G 3;have H:Hid ((cutV c k (.slice p s.wk.length t) bO).J F s w1/\bM F w F w1):=⟨f,bM.of m⟩
 clear f c0 ad m E G ar;go_wp2_with (at_builtin;refine wpList_append_own_at _ rfl _ _ 96 rfl 0 3 U (ae 0) 1 8 Tryz.underlying96 hi W X Y rfl Z (.slice p s.wk.length t) s.wk.length (s.wk.map (Value.int .i64)) rfl (fC er _) ⟨w1.heap.size,0,none⟩ 1 1 [ae a] rfl rfl ?_ ?_ ?_ ?_ ?_ ?_;(intro j u g;match j,g with|0,g=>(simp at g;subst g;simp[Addr.add]));(intro u J;simp at J;subst J;rfl);(unfold maxLen;omega);(first|omega|simp);(first|omega|(simp;done)|(simp;omega));intro bd be v x _ K;obtain⟨b4,aR,aT⟩:=dP v (Nat.succ_pos _);subst aT;have A:=(x.block c.pk (by simp;omega) aB).trans (Below.heap_alloc _ _ _ lk);have aV:=(aD (a:=⟨c.pk,3,none⟩) A).trans o;have a0:=(World.frozen?_of_block (a:=⟨c.pk,3,none⟩) A).trans aF)
 obtain⟨d,M,N⟩:=yd H.out.1 (((Fr.refl _ w1).alloc _).grown x (fun b e=>ap e.symm)) (v1:=.slice (ag b4) (s.wk.length+1) aR) (l:=s.wk++[a]) (by simpa using v) (fun b e=>by
  have a2:some b4=(Value.slice p s.wk.length t).ownBlock\/b4=w1.heap.size+1:=K.imp id (fun e=>by simpa[Value.ownBlock] using e)
  simp[Value.ownBlock] at e;subst e;exact a2.imp id (fun e=>by omega))
 have O:Hid (_/\_):=⟨M,H.out.2.trans N⟩
 refine(nJ O.out.1 ai.out (a+2)).mono ?_;clear M N aV a0 A v x K al o ax er;rintro e bg ⟨rfl,P,Q⟩
 have R:Hid (_/\_):=⟨P,O.out.2.trans Q⟩
 clear P Q;go_wp2_with fail;go_ret;exact⟨d,rfl,⟨_,_,R.out.1⟩,R.out.2⟩
theorem sP (h:(dq c k).J F s w)(b:CI k s)(a:Int)(d:(k.N:Int)<=a)(a1:a<=2000)(m:s.wk.length<=10000)(n:s.ep.length<=10000):
 Calls prog 152 #[af c.pk,ae a] w fun e w'=>∃f,e=.returned (ae (1+pf (k.ld s a)))/\(dq c k).J f (k.lk s a) w'/\bM F w f w':=by
 by_cases g:pk (k.ld s a)=1
 ·exact sO h b a d a1 (ap g)
 by_cases i:pk (k.ld s a)=2
 ·exact sO h b a d a1 (an i)
 by_cases j:pk (k.ld s a)=3
 ·exact ym h b a d a1 m j
 by_cases l:pk (k.ld s a)=4
 ·exact yl h a n l
 exact yk h a g i j l
def nK (w:World)(p:Nat):Int:=match w.cell? (ah p 2) with
 |some (.int _ v)=>v
 |_=>0
theorem pC {p:Nat}{v:Int}(h:w.cell? (ah p 2)=some (ae v)):nK w p=v:=by unfold nK;rw[h]
theorem yn (h:(dq c k).J F s w)(f:CI k s)(hB:d6 k s):
 Calls prog 153 #[af c.pk] w fun e w'=>∃v,e=.returned (.tuple #[])/\(dq c k).J v (k.lb (k.O+1) s) w'/\bM F w v w':=by
 have N:Hid (CI k s/\d6 k s):=⟨f,hB⟩
 have n0:=f.hO;have n1:=f.hN';have aR:=f.f5;clear f hB;go_enter func153,ntmps153;go_wp2_with fail
 go_loopw [] (fun wr=>∃(n:Nat)(d:Nat->Prop)(s1:bU),(dq c k).J d s1 wr/\Hid (CI k s1/\d6 k s1)/\bM F w d wr/\Hid (k.lb n s1=k.lb (k.O+1) s)/\(k.N:Int)+k.O-s1.nx<n) (fun wr=>(2000-nK wr c.pk).toNat)
 case atStart=>exact⟨k.O+1,F,s,h,N,bM.refl _ _,rfl,I⟩
 case round=>
  obtain⟨n,d,s1,⟨ch,bO,i⟩,b,x,j,aT⟩:=hrel;obtain⟨c0,_,c2,_,_,O,_,_,_,A,_⟩:=dL i;have P:=pC c2;have Q:=A 2;obtain⟨B,_⟩:=gO ((cutV c k ch bO).below i (Below.refl _ wr).drew)
  have L:=jO s1.nx wr.drew B;have l:Hid ((cutV c k ch bO).J d s1 wr/\bM F w d wr):=⟨i,x⟩
  clear i x B A;go_wp2_with fail
  go_region_held3 (fun w'=>w'.cell? (ah c.pk 0)=some (af c.pw)/\w'.cell? (ah c.pk 2)=some (ae s1.nx)/\w'.cell? (ah c.pw 0)=some (af c.p)) (go_keep)
   (first
     |(go_at_call 71;refine L.mono ?_;clear L;rintro e w3 ⟨rfl,C⟩;have o:=(cutV c k ch bO).below ((cutV c k ch bO).below l.out.1 (Below.refl _ wr).drew) C;obtain⟨R,_,S,_,_,U,_,_,_,D,_⟩:=dL o;have W:=D 2;have g:Hid ((dq c k).J d s1 w3/\bM F w d w3):=⟨⟨ch,bO,o⟩,(l.out.2.below (Below.refl _ wr).drew).below C⟩;clear o l D c0 c2 O Q))
  cases hb:hB k.N s1.g s1.nx
  ·go_wp2_with fail;go_end0;have e:k.lb n s1=s1:=by
    cases n with
    |zero=>rfl
    |succ n=>unfold bP.lb;rw[hb];rfl
   rw[<-j.out,e];exact⟨d,rfl,g.out.1,g.out.2⟩
  ·have b1:=hR hb;have b2:=b.out.1.hg;have b3:=b.out.1.f5;have b4:=b.out.2.wk;have b5:=b.out.2.ep;obtain⟨n,rfl⟩:∃m,n=m+1:=⟨n-1,I⟩
   have hp:=cU (k.ld s1 s1.nx)
   have X:Hid (k.lb n {k.lk s1 s1.nx with nx:=s1.nx+(1+pf (k.ld s1 s1.nx))}=k.lb (k.O+1) s):=by
    have:=j.out;unfold bP.lb at this
    rw[aq hb] at this
    exact this
   have Y:Hid (CI k {k.lk s1 s1.nx with nx:=s1.nx+(1+pf (k.ld s1 s1.nx))}/\d6 k {k.lk s1 s1.nx with nx:=s1.nx+(1+pf (k.ld s1 s1.nx))}):=⟨(b.out.1.i4 hb).1,d6.i4 b.out.1 hb b.out.2⟩
   have ad:=(b.out.1.lk (a:=s1.nx) b3 I).2.nx;have L:=sP ((dq c k).below g.out.1 (Below.refl _ w3).drew) b.out.1 s1.nx b3 I I I;generalize pf (k.ld s1 s1.nx)=m at*;generalize k.lk s1 s1.nx=s2 at*;clear hb b4 b5 j;have aV:IntKind.i64.wrap (s1.nx+(1+m))=s1.nx+(1+m):=by rw[a_];omega
   go_wp2_with fail
   go_region_with (go_at_call 152;refine L.mono ?_;rintro e E ⟨p,rfl,⟨ai,al,q⟩,G⟩;obtain⟨ar,_,H,_,_,ax,_,_,_,J,_⟩:=dL q;rw[ad] at H;have v2:=J 2;have t:Hid ((cutV c k ai al).J p s2 E/\bM F w p E):=⟨q,(g.out.2.below (Below.refl _ w3).drew).trans G⟩;clear q G J)
   all_goals
    obtain⟨u,K⟩:=ya t.out.1 (s1.nx+(1+m))
    obtain⟨_,_,aB,_⟩:=dL u;have aF:=pC aB;have M:Hid (_/\_):=⟨u,t.out.2.trans K⟩
    clear u K t ar H ax v2 L R S U W g;go_wp2_with fail;go_roundw
    case rel=>exact⟨n,p,_,⟨_,_,M.out.1⟩,Y,M.out.2,X,by show(k.N:Int)+k.O-(s1.nx+(1+m))<n;omega⟩
    case measure=>
     rw[aF,P];show(2000-(s1.nx+(1+m))).toNat<_;omega
end
section
variable {c:fs}{k:bP}{F:Nat->Prop}{s:bU}{w:World}
theorem yp (h:(dq c k).J F s w)(W:CI k s)(hB:d6 k s):
 Calls prog 154 #[af c.pk] w fun e w'=>∃a2,e=.returned (.bool (k.kv s).1)/\(dq c k).J a2 (k.kv s).2 w'/\bM F w a2 w':=by
 obtain⟨bZ,hi,b1,b2,b3⟩:=info_parts iE;obtain⟨ch,bO,h⟩:=h;obtain⟨c0,_,_,_,b5,ce,_,_,_,cf,_,er,_,lk,_⟩:=dL h;obtain⟨cg,_⟩:=pA h (an b5)
 obtain⟨a3,i,rfl⟩:=dG er;have bb:Hid (CI k s):=W;have ci:Hid ((cutV c k ch (.slice a3 s.ep.length i)).J F s w):=h;have cj:=hB.ep;have bd:=W.gD;have be:Hid (∀a∈s.ep,(k.N:Int)<=a/\a<=2000):=bd;have bg:Hid (k.kv s=(decide ((k.c4 s s.ep).1.length<s.ep.length),{(k.c4 s s.ep).2 with ep:=(k.c4 s s.ep).1})):=rfl;have ck:(0:Int)<=k.N:=I;clear W hB bd;go_enter func154,ntmps154;go_wp2_with fail
 go_loopw [3,12] (fun vr iv wr=>∃(j:Nat)(R:List Int)(s1:bU)(ar:Option Addr)(g:Nat)(f:Nat->Prop),j<=s.ep.length/\iv=ae j/\Hid (k.c4 s (s.ep.take j)=(R,s1))/\vr=.slice ar R.length g/\wr.ownsRow w.heap.size 3 1 (.slice ar R.length g) R.length (R.map (Value.int .i64))/\(cutV c k ch (.slice a3 s.ep.length i)).J f s1 wr/\bM F w f wr/\Hid (∀b,some b=(Value.slice ar R.length g).ownBlock->¬f b)/\Hid (CI k s1/\d9 k s s1)) (fun _ iv _=>s.ep.length-(intOf iv).toNat)
 case atStart=>exact⟨0,[],s,none,0,F,aA _,rfl,rfl,rfl,aO _ _ _ _,h,bM.refl _ _,fun b e=>by simp[Value.ownBlock] at e,⟨bb.out,d9.refl _ _⟩⟩
 case round=>
  obtain⟨j,R,s1,ar,g,f,A,rfl,B,rfl,n,t,o,C,D⟩:=hrel;obtain⟨bi,_,_,_,bl,bn,_,_,_,X,_,E,_,cl,_⟩:=dL t;have bo:=X 4;have b6:=D.out.2.ep;rw[b6] at E;have cm:R.length<=10000:=by have G:=(bb.out.c4 (s.ep.take j) (fun a ha=>(be.out a (List.mem_of_mem_take ha)).1)).2.2.1;rw[B.out] at G;simp at G;omega
  by_cases M:j<s.ep.length
  ·obtain⟨b0,p,b7,cn,hc⟩:=ga E I;have Y:=hc j M;subst b7;have bp:s.ep.getD j 0∈s.ep:=by rw[aj,am M];exact aK M
   have b8:=be.out _ bp;have ad:Hid (k.c4 s (s.ep.take (j+1))=k.cr (R,s1) (s.ep.getD j 0)):=by
    show _=_;rw[eY s.ep j M 0];unfold bP.c4;rw[List.foldl_append];have:=B.out;unfold bP.c4 at this
    rw[this];rfl
   generalize s.ep.getD j 0=a at Y b8 ad;obtain⟨br,_⟩:=gO t;have L:=h8 (a+1) wr br;have bs:ld k.N k.y s1.g s1.ws (a+1)=k.ld s1 (a+1):=rfl;rw[bs] at L;have q:Hid ((cutV c k ch (.slice (some ⟨b0,p,none⟩) s.ep.length i)).J f s1 wr/\bM F w f wr):=⟨t,o⟩
   have co:=o.fr.size;have b9:Hid (∀b,some b=(Value.slice ar R.length g).ownBlock->b<wr.heap.size):=fun b e=>(bR n b e).2;clear hc bp t o br bs X;cases hls:k.ls s1 (k.ld s1 (a+1))
   ·have ai:Hid (k.c4 s (s.ep.take (j+1))=(R,k.kf (k.kf s1 (a+1)) (a+2))):=by show _=_;rw[ad.out];unfold bP.cr;rw[hls];rfl
    generalize k.ld s1 (a+1)=x at L hls;go_wp2_with fail;refine L.mono ?_;clear L;rintro e w1 ⟨rfl,m⟩
    have P:=lH ((cutV c k ch (.slice (some ⟨b0,p,none⟩) s.ep.length i)).below q.out.1 m) x;rw[hls] at P;clear Y bi bn bl bo E;go_wp2_with fail;refine P.mono ?_;clear P;rintro e al ⟨rfl,H⟩
    have d:=m.trans (H.mono m.size)
    clear m H;go_wp2_with fail;refine(nJ ((cutV c k ch (.slice (some ⟨b0,p,none⟩) s.ep.length i)).below q.out.1 d) D.out.1 (a+1)).mono ?_;rintro e w3 ⟨rfl,bx,bL⟩
    obtain⟨J,K⟩:=D.out.1.kf (a:=a+1) I;have v:Hid (_/\_/\_/\_):=⟨bx,(bM.of d).trans bL,J,K⟩
    clear bx bL J K d;go_wp2_with fail;refine(nJ v.out.1 v.out.2.2.1 (a+2)).mono ?_;rintro e ax ⟨rfl,N,O⟩
    obtain⟨J,K⟩:=v.out.2.2.1.kf (a:=a+2) I;have aB:=v.out.2.1.trans O;have Q:Hid (_/\_/\_/\_):=⟨N,q.out.2.trans aB,J,(D.out.2.trans v.out.2.2.2).trans K⟩
    have aF:=fQ n aB.fr (fun b e=>C.out b e)
    clear N O J K aB n v;go_wp2_with fail;go_roundw
    case rel=>exact⟨j+1,R,_,ar,g,f,I,ac,ai,rfl,aF,Q.out.1,Q.out.2.1,C,⟨Q.out.2.2.1,Q.out.2.2.2⟩⟩
    case measure=>simp[intOf];omega
   ·have ai:Hid (k.c4 s (s.ep.take (j+1))=(R++[a],s1)):=by show _=_;rw[ad.out];unfold bP.cr;rw[aq hls]
    generalize k.ld s1 (a+1)=x at L hls;go_wp2_with fail;refine L.mono ?_;clear L;rintro e w1 ⟨rfl,m⟩
    have P:=lH ((cutV c k ch (.slice (some ⟨b0,p,none⟩) s.ep.length i)).below q.out.1 m) x;rw[hls] at P;clear Y bi bn bl bo E;go_wp2_with fail;refine P.mono ?_;clear P;rintro e al ⟨rfl,H⟩
    have d:=m.trans (H.mono m.size)
    have aR:=ca n (fun b e=>d.block b (b9.out b e))
    have cp:=d.size;clear m H;go_wp2_with (at_builtin;refine wpList_append_own_at _ rfl _ _ 96 rfl w.heap.size 3 bZ (ae 0) 1 8 Tryz.underlying96 hi b1 b2 b3 rfl Z (.slice ar R.length g) R.length (R.map (Value.int .i64)) rfl (fC aR _) ⟨al.heap.size,0,none⟩ 1 1 [ae a] rfl rfl ?_ ?_ ?_ ?_ ?_ ?_;(intro j u A;match j,A with|0,A=>(simp at A;subst A;simp[Addr.add]));(intro u bN;simp at bN;subst bN;rfl);(unfold maxLen;omega);omega;(simp;omega);intro cq ax aT aV _ bQ;obtain⟨b4,a0,cb⟩:=dP aT (Nat.succ_pos _);subst cb)
    have aF:ax.ownsRow w.heap.size 3 1 (.slice (ag b4) (R++[a]).length a0) (R++[a]).length ((R++[a]).map (Value.int .i64)):=by simpa using aT
    have a1:=(cutV c k ch (.slice (some ⟨b0,p,none⟩) s.ep.length i)).below q.out.1 d;have N:=m_ (cutV c k ch (.slice (some ⟨b0,p,none⟩) s.ep.length i)) a1 aV (fun b e=>C.out b e)
    have O:bM F w f ax:=⟨((q.out.2.below d).fr.alloc _).grown aV (fun b e=>an (bR aR b e.symm).1),q.out.2.sub⟩
    have cc:Hid (∀b,some b=(Value.slice (ag b4) (R++[a]).length a0).ownBlock->¬f b):=fun b e bS=>by
     have cd:some b4=(Value.slice ar R.length g).ownBlock\/b4=al.heap.size+1:=bQ.imp id (fun e=>by simpa[Value.ownBlock] using e)
     simp[Value.ownBlock] at e;subst e;rcases cd with e|e
     ·exact C.out _ e bS
     ·have:=(cutV c k ch (.slice (some ⟨b0,p,none⟩) s.ep.length i)).lt a1 _ bS;omega
    clear a1 aT aV bQ aR n d;go_wp2_with fail;go_roundw
    case rel=>exact⟨j+1,R++[a],s1,ag b4,a0,f,I,ac,ai,V,aF,N,O,cc,D⟩
    case measure=>simp[intOf];omega
  ·obtain rfl:j=s.ep.length:=I;rw[aP] at B;obtain⟨bT,bV⟩:=sM t (v1:=.slice ar R.length g) (l:=R) (Fr.refl _ wr) (d5 n (fun _ _=>aA _)) (fun b e=>an (C.out b e))
   have S:Hid (_/\_):=⟨bT,o.fr.trans bV o.sub⟩
   have bW:Hid (∀b,some b=(Value.slice ar R.length g).ownBlock->w.heap.size<=b):=fun b e=>(bR n b e).1;have bX:Hid (∀b,f b->F b\/w.heap.size<=b):=o.sub;have U:Hid ((k.kv s).1=decide (R.length<s.ep.length)/\(k.kv s).2={s1 with ep:=R}):=by have G:=bg.out;rw[B.out] at G;rw[G];exact⟨rfl,rfl⟩
   clear bT bV t o n E B bg X;by_cases bY:R.length<s.ep.length
   ·go_wp2_with fail;go_ret;rw[U.out.1,U.out.2];exact⟨_,by simp[bY],⟨_,_,S.out.1⟩,⟨S.out.2,fun b d=>d.elim (bX.out b) (fun e=>an (bW.out b e))⟩⟩
   ·go_wp2_with fail;go_ret;rw[U.out.1,U.out.2];exact⟨_,by simp[bY],⟨_,_,S.out.1⟩,⟨S.out.2,fun b d=>d.elim (bX.out b) (fun e=>an (bW.out b e))⟩⟩
end
theorem nL {w:World}{base size n g b:Nat}{e:TypeId}{xs:List Value}(h:w.ownsRow base e size (.slice (ag g) n b) n xs)(i:Nat)(u:Value):(w.setCell ⟨g,i,none⟩ u).ownsRow base e size (.slice (ag g) n b) n (xs.set i u):=by
 refine⟨by rw[aM];exact h.1,?_⟩
 rcases h.2 with⟨a,_⟩|⟨m,o,c,a,d,hg,f,j,k,l⟩
 ·simp at a
 ·simp at a;obtain⟨rfl,rfl⟩:=a;refine an ⟨g,b,c.setIfInBounds i u,rfl,d,?_,f,j,by rw[Array.size_setIfInBounds];exact k,?_⟩
  ·simp only [World.setCell,Array.getElem?_modify,if_true,hg,Option.map_some];rfl
  ·rw[Array.toList_setIfInBounds,List.take_set,l]
theorem sU:∀(l:List bN)(i:Nat)(g z:Int),ev (l.set i (g,z))=((ev l).set (i*2) (ae g)).set (i*2+1) (ae z)
 |[],_,_,_=>rfl
 |e::l,0,g,z=>by simp[ev]
 |e::l,i+1,g,z=>by
  have a:=sU l i g z;have b:ev (e::l)=ae e.1::ae e.2::ev l:=by simp[ev]
  have c:ev ((e::l).set (i+1) (g,z))=ae e.1::ae e.2::ev (l.set i (g,z)):=by simp[ev]
  rw[b,c,a,show(i+1)*2=i*2+1+1 by omega];simp
theorem sV {K:Type}(o:dB K)(p:Nat)(vr:Value):nF (cA o p vr) where
 sC:=by
  rintro F s w ⟨B,E,G,C,a,f,j,c,l,m,n⟩ w1 q a1 c1 D t;have c:F p:=c;have lp:=lt_of_some a;have d:∀k,k≠p->(w1.setCell ⟨p,1,none⟩ (.slice a1 q.length c1)).heap[k]?=w1.heap[k]?:=fun k hk=>Below.heap_setCell _ _ _ _ hk;have hs:(w1.setCell ⟨p,1,none⟩ (.slice a1 q.length c1)).heap.size=w1.heap.size:=by simp[World.setCell]
  have P:=D.size;refine⟨B,a1,c1,o.keep (o.below C D) (by show w1.heap.size<=(w1.setCell ⟨p,1,none⟩ (.slice a1 q.length c1)).heap.size;rw[hs];exact ak _) (fun k h=>d k (fun e=>l (by rw[<-e];exact h))),?_,d5 (ca t (fun k e=>d k (by have:=(bR t k e).1;omega))) (fun _ _=>aA _),fun k h=>ap (j k h),ap c,l,fun k e=>?_,fun k h=>?_⟩
  ·have L:=(D.block p lp).trans a;show(w1.setCell ⟨p,1,none⟩ (.slice a1 q.length c1)).heap[p]?=_;simp only [World.setCell,Array.getElem?_modify,if_true,L,Option.map_some];simp;rfl
  ·exact⟨an e,fun h=>by have Q:=n k (j k h);have:=(bR t k e).1;omega⟩
  ·show k<(w1.setCell ⟨p,1,none⟩ (.slice a1 q.length c1)).heap.size;rw[hs];rcases h with h|h
   ·have:=n k h;omega
   ·exact(bR t k h).2
 sD:=by
  rintro F s w ⟨B,M,x,C,a,f,j,c,l,m,n⟩ E G hp i hi g z;have hp:w.heap[p]?=some (.cells #[vr,.slice E s.2.length G] 128 (0,0)):=hp;have hi:i<s.2.length:=hi;have he:=a.symm.trans hp;simp at he;obtain⟨rfl,rfl⟩:=he;obtain⟨b,rfl⟩:∃b,M=ag b:=by
   rcases f.2 with⟨_,h0⟩|⟨N,R,O,H,_⟩
   ·omega
   ·simp at H;exact⟨N,H.1⟩
  obtain⟨O,A⟩:=dO f b rfl;have J:b≠p:=fun e=>by rw[e,a] at A;simp at A
  have d:∀(u v:Value) k,k≠b->((w.setCell ⟨b,0+i*2,none⟩ u).setCell ⟨b,0+i*2+1,none⟩ v).heap[k]?=w.heap[k]?:=fun u v k hk=>(Below.heap_setCell _ _ _ _ hk).trans (Below.heap_setCell _ _ _ _ hk)
  have hs:∀(u v:Value),((w.setCell ⟨b,0+i*2,none⟩ u).setCell ⟨b,0+i*2+1,none⟩ v).heap.size=w.heap.size:=fun u v=>by simp[World.setCell]
  refine⟨b,0,rfl,(m b rfl).1,J,by simp[World.frozen?,A],by simp[World.frozen?,A],B,ag b,x,o.keep C (by rw[hs];exact ak _) (fun k h=>d _ _ k (fun e=>(m b rfl).2 (by rw[<-e];exact h))),?_,?_,j,c,l,?_,?_⟩
  ·show((w.setCell ⟨b,0+i*2,none⟩ (.int .i64 g)).setCell ⟨b,0+i*2+1,none⟩ (.int .i64 z)).heap[p]?=some (.cells #[vr,.slice (ag b) (s.2.set i (g,z)).length x] 128 (0,0))
   rw[aM];exact(d _ _ p (Ne.symm J)).trans a
  ·show((w.setCell ⟨b,0+i*2,none⟩ (.int .i64 g)).setCell ⟨b,0+i*2+1,none⟩ (.int .i64 z)).ownsRow 0 83 2 (.slice (ag b) (s.2.set i (g,z)).length x) (s.2.set i (g,z)).length (ev (s.2.set i (g,z)))
   rw[aM,sU,Nat.zero_add];exact nL (nL f (i*2) _) (i*2+1) _
  ·intro k e;have e:some k=(Value.slice (ag b) (s.2.set i (g,z)).length x).ownBlock:=e;exact m k e
  ·intro k h;rw[hs];exact n k h
def sW {a:Type}(o:dB a)(b:a->Prop):dB a where
 J F t w:=o.J F t w/\b t
 lt:=fun h=>o.lt h.1
 keep:=fun h hs hk=>⟨o.keep h.1 hs hk,h.2⟩
def cw {f:Type}(o:dB f)(bx:Nat)(x:Obj):dB f where
 J F t w:=∃c,o.J c t w/\w.heap[bx]?=some x/\¬c bx/\∀b,F b↔(c b\/b=bx)
 lt:=by
  rintro F t w ⟨c,h,e,_,d⟩ b a;rcases(d b).1 a with a|a
  ·exact o.lt h b a
  ·rw[a];exact lt_of_some e
 keep:=by rintro F t w w' ⟨c,h,e,g,d⟩ hs hk;exact⟨c,o.keep h hs (fun b a=>hk b ((d b).2 (ap a))),(hk bx ((d bx).2 (an rfl))).trans e,g,d⟩
section
variable {fX:Type}{o:dB fX}{bx p:Nat}{x:Obj}{vr:Value}{F:Nat->Prop}{w w':World}
theorem lI {t:fX×List bN}(h:(cA o p vr).J F t w):∃c,o.J c t.1 w/\∀b d w',o.J b d w'->bM c w b w'->∃i,(cA o p vr).J i (d,t.2) w'/\bM F w i w':=by
 obtain⟨c,q,s,u,j,f,l,v,m,g,x⟩:=h;refine⟨c,u,fun b d w' n a=>?_⟩
 have lp:=lt_of_some j;refine⟨fun k=>F k\/b k,⟨b,q,s,n,(a.fr.block p lp m).trans j,ca f (fun k e=>a.fr.block k (bR f k e).2 (g k e).2),fun k h=>an h,ap v,fun h=>(a.sub p h).elim m (fun h=>by omega),fun k e=>⟨ap (g k e).1,fun h=>(a.sub k h).elim (g k e).2 (fun h=>by have:=(bR f k e).2;omega)⟩,fun k h=>?_⟩,a.fr.mono l,fun k h=>?_⟩
 ·rcases h with h|h
  ·exact av (x k h) a.fr.size
  ·exact o.lt n k h
 ·rcases h with h|h
  ·exact ap h
  ·exact(a.sub k h).imp (l k) id
theorem iN {t:fX×List bN}(h:(cA o p vr).J F t w)(g:w.heap[bx]?=some x)(a:¬F bx):(cA (cw o bx x) p vr).J (fun b=>F b\/b=bx) t w:=by obtain⟨i,l,m,n,q,s,j,k,u,d,v⟩:=h;refine⟨fun b=>i b\/b=bx,l,m,⟨i,n,g,fun c=>a (j _ c),fun b=>Iff.rfl⟩,q,s,fun b f=>f.imp (j b) id,ap k,fun c=>c.elim u (fun e=>a (by rw[<-e];exact k)),fun b e=>⟨ap (d b e).1,fun c=>c.elim (d b e).2 (fun A=>a (by rw[<-A];exact(d b e).1))⟩,fun b f=>f.elim (v b) (fun e=>by rw[e];exact lt_of_some g)⟩
theorem pD {t:fX×List bN}(h:(cA (cw o bx x) p vr).J F t w):(cA o p vr).J F t w:=by obtain⟨u,f,g,⟨i,g1,g2,g3,a⟩,j,k,l,m,n,d,q⟩:=h;exact⟨i,f,g,g1,j,k,fun b s=>l b ((a b).2 (ap s)),m,fun c=>n ((a p).2 (ap c)),fun b e=>⟨(d b e).1,fun c=>(d b e).2 ((a b).2 (ap c))⟩,q⟩
theorem pE {D:Int->Prop}{f:Nat}{b c:Array Value}{kp:fX->Int->Int×fX}(hk:mn o D f b c kp):mn (cw o bx x) D f b c kp:=by
 rintro F t w y hD ⟨l,h,d,g,e⟩
 refine(hk l t w y hD h).mono ?_;rintro r w' ⟨i,rfl,m,j,k⟩
 refine⟨fun b=>i b\/b=bx,rfl,⟨i,m,(j.block bx (lt_of_some d) g).trans d,fun c=>(k bx c).elim g (fun c=>by have:=lt_of_some d;omega),fun b=>Iff.rfl⟩,j.mono (fun b a=>(e b).2 (ap a)),fun b a=>?_⟩
 rcases a with a|a
 ·exact(k b a).imp (fun c=>(e b).2 (ap c)) id
 ·exact ap ((e b).2 (an a))
theorem j6 {D:Int->Prop}{f:Nat}{b c:Array Value}{nw:fX->Int->Int}(ht:jV o D f b c nw):jV (cw o bx x) D f b c nw:=by
 rintro F t w y hD ⟨a,h,_⟩
 exact ht a t w y hD h
end
def ei (c:fs)(k:bP):dB bU:=sW (dq c k) (fun s=>CI k s/\d6 k s)
abbrev fG (c:fs):Obj:=.cells #[af c.pk] 140 (0,0)
abbrev iO (bx:Nat):eV:=⟨155,#[],#[af bx]⟩
abbrev jv (c:fs):eV:=⟨157,#[af c.pk],#[]⟩
abbrev kJ (c:fs):eV:=⟨149,#[af c.pk],#[]⟩
abbrev kL (c:fs):eV:=⟨86,#[af c.pk],#[]⟩
theorem sX:dQ 155:=gb func155 ab rfl
theorem sY:dQ 157:=gb func157 ab rfl
theorem yq:dQ 149:=gb func149 ab rfl
theorem ys:dQ 86:=gb func86 ab rfl
section
variable {c:fs}{k:bP}{F:Nat->Prop}{s:bU}{w:World}
theorem sZ (fv:eV)(w:World)(p:Nat):
 Calls prog 85 #[af p,fv.v] w fun e w'=>e=.returned (.agg #[(iO w.heap.size).v,fv.v,.func (.func 157) #[af p] #[]])/\w'.heap[w.heap.size]?=some (.cells #[af p] 140 (0,0))/\Below w.heap.size w w':=by
 obtain⟨f,b,c⟩:=fv;have g:∀(a:Fn)(first d:Array Value)(w:World),(Instr.makeFunc a first d).run prog w=.ok (.func a first d) w:=fun _ _ _ _=>rfl;go_enter func85,ntmps85;go_wp2_with fail;refine aW (v:=.agg #[(iO w.heap.size).v,.func (.func f) b c,.func (.func 157) #[af p] #[]]) (by simp[results,results85,go_sem]) rfl ⟨rfl,?_,((Below.refl _ w).alloc bJ _).alloc V _⟩
 rw[Below.heap_alloc _ _ _ V];exact aw _ _
theorem s3 (bx:Nat):ic (cw (ei c k) bx (fG c)) (fun _=>True) (iO bx).f (iO bx).b (iO bx).c k.al:=by
 rintro F s w x _ ⟨f,⟨⟨ch,bO,h⟩,_⟩,a,_⟩
 have P:=lH h x;have c0:w.cell? (ah bx 0)=some (af c.pk):=by simp[World.cell?,a]
 have E:k.al s x=!k.ls s x:=rfl;rw[E];clear h a E;generalize k.ls s x=b at P⊢;show Calls prog 155 #[ae x,af bx] w _;go_enter func155,ntmps155;go_wp2_with fail;refine P.mono ?_;rintro e w1 ⟨rfl,d⟩
 go_wp2_with fail;go_ret;exact⟨rfl,d⟩
theorem s7:jV (ei c k) (fun _=>True) (jv c).f (jv c).b (jv c).c k.nw:=by
 rintro F s w x _ ⟨⟨ch,bO,h⟩,_⟩
 exact nH h x
theorem yt:mn (ei c k) (fun _=>True) (kJ c).f (kJ c).b (kJ c).c k.br:=by
 rintro F s w x _ ⟨⟨ch,bO,h⟩,a,hB⟩
 refine(nI h a x).mono ?_;rintro r w' ⟨rfl,d,b⟩
 obtain⟨e,f,_⟩:=a.br x;exact⟨F,rfl,⟨⟨ch,bO,d⟩,e,f.cb hB⟩,b.fr,b.sub⟩
end
end Go.Proofs.YtjpjpjemibgjpaaGreat
