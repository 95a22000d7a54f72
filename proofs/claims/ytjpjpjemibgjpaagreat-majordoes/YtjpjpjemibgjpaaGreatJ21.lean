import Derived.Test.YtjpjpjemibgjpaaGreatJ20
import Derived.Test.YtjpjpjemibgjpaaGreatJ18
import Derived.Deep.LoopGhost
import Derived.Test.YtjpjpjemibgjpaaGreatJ07
import Derived.Test.YtjpjpjemibgjpaaGreatJ01
import Derived.Test.YtjpjpjemibgjpaaGreatJ00
import Derived.Test.YtjpjpjemibgjpaaGreatJ02
import Derived.Test.YtjpjpjemibgjpaaGreatJ03
namespace Go.Proofs.YtjpjpjemibgjpaaGreat
set_option maxRecDepth 100000
set_option maxHeartbeats 4000000
open Tryz
open Go.RowKit W Kp bY
section
variable {c:eB}{k:bL}{vt bO:Value}{F:Nat->Prop}{s:bX}{w:World}
theorem tj (h:(cy c k vt bO).J F s w)(x:Int):
 Calls prog 173 #[af c.pk,ae x] w fun e w'=>∃v,e=.returned (.tuple #[ae v,.bool (k.jt x)])/\(k.jt x=true->v=s.f (bQ x))/\Below w.heap.size w w':=by
 have l:Hid ((cy c k vt bO).J F s w):=h;have P:=lu x w;clear h;cases ha:cI x
 ·rw[ha] at P;have d:k.jt x=false:=by unfold bL.jt;rw[ha];rfl
  rw[d];go_enter func173,ntmps173;go_wp2_with fail;refine P.mono ?_;clear P;rintro e w1 ⟨rfl,f⟩
  go_wp2_with fail;go_ret2;exact⟨0,rfl,fun h=>by simp at h,f⟩
 ·have d:k.jt x=k.T.contains (bQ x):=by unfold bL.jt;rw[ha];rfl
  have i:=pB ha;rw[d];rw[ha] at P;clear ha d;generalize bQ x=a at P i⊢;have p:=hF i.1 i.2;obtain⟨b,g⟩:∃b,b=k.T.contains a:=⟨_,rfl⟩
  rw[<-g];go_enter func173,ntmps173;go_wp2_with fail;refine P.mono ?_;clear P;rintro e w1 ⟨rfl,f⟩
  have j:=(cy c k vt bO).below l.out f;obtain⟨_,_,_,c1,_⟩:=dX j;obtain⟨⟨D,o1,m,n⟩,_⟩:=mF j;have q:Hid (Maps.has D (.int .i64 a)=b):=(m a).trans g.symm;have t:Hid (b=true->D.atKey (.int .i64 a) (.lit (.int .i64 0))=.lit (.int .i64 (s.f a))):=fun e=>n a (by rw[g] at e;simpa using e)
  clear m n g j l;go_wp2_with (at_lookup;refine wpList_lookup_own_ok_int _ rfl _ _ 108 rfl 3 3 .i64 gz Tryz.underlying108 Tryz.underlying3 (jm _) c.bW k.T.length D rfl o1 _ _ rfl p ?_;intro z o u;rw[q.out];have A:Hid (b=true->z=s.f a):=(fun e=>by have:=o.symm.trans (t.out e);simpa using this);clear o u)
  go_ret2;exact⟨z,rfl,A.out,f⟩
theorem mG (h:(cy c k vt bO).J F s w)(x:Int):
 Calls prog 121 #[af c.pk,ae x] w fun e w'=>e=.returned (.bool (k.co s x))/\Below w.heap.size w w':=by
 have P:=tj h x;clear h;cases hy:k.jt x
 ·have b:k.co s x=false:=by unfold bL.co;rw[hy];rfl
  rw[b];rw[hy] at P;go_enter func121,ntmps121;go_wp2_with fail;refine P.mono ?_;clear P;rintro e w1 ⟨v,rfl,_,d⟩
  go_wp2_with fail;go_ret;exact⟨rfl,d⟩
 ·have b:k.co s x=(s.f (bQ x)==-1):=by unfold bL.co;rw[hy];rfl
  rw[b];rw[hy] at P;generalize s.f (bQ x)=a at P⊢;go_enter func121,ntmps121;go_wp2_with fail;refine P.mono ?_;clear P;rintro e w1 ⟨v,rfl,f,d⟩
  have f:=f trivial;subst f;go_wp2_with fail;go_ret;exact⟨rfl,d⟩
theorem tk (h:(cy c k vt bO).J F s w)(x:Int):
 Calls prog 123 #[af c.pk,ae x] w fun e w'=>e=.returned (ae (k.nw s x))/\Below w.heap.size w w':=by
 have P:=tj h x;clear h;cases hy:k.jt x
 ·have f:k.nw s x=x:=by unfold bL.nw;rw[hy];simp
  rw[f];rw[hy] at P;go_enter func123,ntmps123;go_wp2_with fail;refine P.mono ?_;clear P;rintro e w1 ⟨v,rfl,_,d⟩
  go_wp2_with fail;go_ret;exact⟨rfl,d⟩
 ·rw[hy] at P;by_cases g:s.f (bQ x)=-1
  ·have f:k.nw s x=x:=by unfold bL.nw;rw[hy,g];simp
   rw[f];rw[g] at P;go_enter func123,ntmps123;go_wp2_with fail;refine P.mono ?_;clear P;rintro e w1 ⟨v,rfl,b,d⟩
   have b:=b trivial;subst b;go_wp2_with fail;go_ret;exact⟨rfl,d⟩
  ·have f:k.nw s x=ew 3 (s.f (bQ x)):=by unfold bL.nw;rw[hy,aq (by simp[g])]
   rw[f];generalize s.f (bQ x)=a at P g⊢;have j:¬(-1=a):=fun e=>g e.symm;go_enter func123,ntmps123;go_wp2_with fail;refine P.mono ?_;clear P;rintro e w1 ⟨v,rfl,b,d⟩
   have b:=b trivial;subst b;go_wp2_with fail;refine(m8 v w1).mono ?_;rintro e l ⟨rfl,i⟩
   go_wp2_with fail;go_ret;exact⟨rfl,d.trans (i.mono d.size)⟩
end
def hI (c:eB)(k:bL)(bO:Value):dB bX where
 J F s w:=∃vt,(cy c k vt bO).J F s w
 lt:=by
  rintro F s w ⟨vt,h⟩
  exact(cy c k vt bO).lt h
 keep:=by rintro F s w w' ⟨vt,h⟩ hs hk;exact⟨vt,(cy c k vt bO).keep h hs hk⟩
section
variable {c:eB}{k:bL}{bO:Value}{F:Nat->Prop}{s:bX}{w:World}
theorem tm (h:(hI c k bO).J F s w)(p:cu k s)(x:Int):
 Calls prog 109 #[af c.pk,ae x] w fun e w'=>∃g,e=.returned (.tuple #[])/\(hI c k bO).J g (k.ma s x) w'/\bM F w g w':=by
 obtain⟨vt,h⟩:=h;have P:=mG h x;have i:Hid ((cy c k vt bO).J F s w):=h;clear h;cases hl:k.co s x
 ·have ad:k.ma s x=s:=by unfold bL.ma;rw[hl];rfl
  rw[ad];rw[hl] at P;go_enter func109,ntmps109;go_wp2_with fail;refine P.mono ?_;clear P;rintro e w1 ⟨rfl,d⟩
  have G:Hid ((hI c k bO).J F s w1/\bM F w F w1):=⟨⟨vt,(cy c k vt bO).below i.out d⟩,bM.of d⟩
  clear d i;go_wp2_with fail;go_end0;exact⟨F,rfl,G.out.1,G.out.2⟩
 ·obtain⟨ai,hi,al,ar,ax⟩:=info_parts iE;obtain⟨l1,l2,H⟩:=bL.mC hl;have E:Hid (k.ma s x={s with f:=fe s.f (bQ x) (bQ x),td:=s.td++[bQ x]}):=by show _=_;unfold bL.ma;rw[aq hl]
  have m:=lu x;rw[l1] at m;have J:=p.ps _ l2;have bp:=p.tl;have aB:=p.sum;rw[hl] at P;generalize k.ma s x=s2 at E⊢;generalize bQ x=a at E m l2 H J⊢;have aF:=hF J.1 I;have aR:=kz a (WalkArith.wf_i64 ⟨I,I⟩)
  clear hl l1 H;go_enter func109,ntmps109;go_wp2_with fail;refine P.mono ?_;clear P;rintro e w1 ⟨rfl,d⟩
  go_wp2_with fail;refine(m w1).mono ?_;clear m;rintro e aT ⟨rfl,K⟩
  have q:=d.trans (K.mono d.size)
  have v:=(cy c k vt bO).below i.out q;obtain⟨_,_,_,br,_,bs,_,a0,lk⟩:=dX v;obtain⟨⟨D,o1,L,M⟩,hM⟩:=mF v;obtain⟨w3,bx,N,O⟩:=o1.update (t:=108) (e:=3) gz Tryz.underlying108 (by unfold maxLen;omega) aF aR;obtain⟨n,Q⟩:=hM w3 _ (Mp.put o1 L M l2 N) ((Fr.refl _ aT).grown O (fun b e=>ap (by cases e;rfl)))
  obtain⟨_,_,_,_,_,a1,_,R,a2⟩:=dX n;obtain⟨A,_,a3,_⟩:=kO n;dsimp only at A;obtain⟨B,C,bb⟩:=dG A;subst bb;have bd:=R 5;have S:Hid ((cy c k (.slice B s.td.length C) bO).J F {s with f:=fe s.f a a} w3/\bM F w F w3):=⟨n,(bM.of q).trans Q⟩
  have bN:s.td.length<=4000:=I;clear d K q v hM o1 L M N O n Q i a0 R aB;go_wp2_with (at_builtin;refine wpList_append_own_at _ rfl _ _ 96 rfl 0 3 ai (ae 0) 1 8 Tryz.underlying96 hi al ar ax rfl Z (.slice B s.td.length C) s.td.length (s.td.map (Value.int .i64)) rfl (fC A _) ⟨w3.heap.size,0,none⟩ 1 1 [ae a] rfl rfl ?_ ?_ ?_ ?_ ?_ ?_;(intro j u o;match j,o with|0,o=>(simp at o;subst o;simp[Addr.add]));(intro u U;simp at U;subst U;rfl);(unfold maxLen;omega);(first|omega|simp);(first|omega|(simp;done)|(simp;omega));intro bP bR W X _ be;obtain⟨b4,bg,bi⟩:=dP W (Nat.succ_pos _);subst bi;have Y:=(X.block c.pk (by simp;omega) a3).trans (Below.heap_alloc _ _ _ a2);have bS:=(aD (a:=⟨c.pk,5,none⟩) Y).trans a1;have bT:=(World.frozen?_of_block (a:=⟨c.pk,5,none⟩) Y).trans bd)
  go_end0;obtain⟨g,bl,bn⟩:=tf S.out.1 (((Fr.refl _ w3).alloc _).grown X (fun b e=>ap e.symm)) (v1:=.slice (ag b4) (s.td.length+1) bg) (l:=s.td++[a]) (by simpa using W) (fun b e=>by
   have bo:some b4=(Value.slice B s.td.length C).ownBlock\/b4=w3.heap.size+1:=be.imp id (fun e=>by simpa[Value.ownBlock] using e)
   simp[Value.ownBlock] at e;subst e;exact bo.imp id (fun e=>by omega))
  exact⟨g,rfl,⟨_,by rw[E.out];exact bl⟩,S.out.2.trans bn⟩
theorem mH (h:(dM c k).J F s w)(b:cu k s)(x:Int):
 Calls prog 109 #[af c.pk,ae x] w fun e w'=>∃a,e=.returned (.tuple #[])/\(dM c k).J a (k.ma s x) w'/\bM F w a w':=by
 obtain⟨vt,bO,h⟩:=h;refine(tm (bO:=bO) ⟨vt,h⟩ b x).mono ?_;rintro e w' ⟨a,rfl,⟨d,j⟩,t⟩
 exact⟨a,rfl,⟨d,bO,j⟩,t⟩
end
section
variable {c:eB}{k:bL}{F:Nat->Prop}{s:bX}{w:World}
theorem yN (h:(dM c k).J F s w)(u:cu k s)(a:Int)(R:0<=a)(a1:a<=2000)(hk:pk (k.ld a)=1\/pk (k.ld a)=2):
 Calls prog 170 #[af c.pk,ae a] w fun e w'=>∃b,e=.returned (.tuple #[])/\(dM c k).J b (k.lk s a) w'/\bM F w b w':=by
 have v:k.lk s a=k.d7 s a (pf (k.ld a)).toNat:=by unfold bL.lk;rw[aq hk]
 rw[v];have M:Hid ((dM c k).J F s w):=h;obtain⟨vt,bO,h⟩:=h;obtain⟨f,c0,_⟩:=fH h;obtain⟨g,_⟩:=dX h;have L:=e9 a w f;have A:ld k.a.N k.s.y k.s.g k.s.ws a=k.ld a:=rfl;rw[A] at L;have hp:=cU (k.ld a)
 obtain⟨n,B⟩:∃n:Nat,pf (k.ld a)=n:=⟨(pf (k.ld a)).toNat,I⟩
 rw[B] at L hp⊢;have en:(n:Int).toNat=n:=Int.toNat_natCast n;rw[en];have N:Hid (cu k s):=u;clear h f u A B v en;generalize pc (k.ld a)=q at L;have key:∀kd:Int,(kd=1\/kd=2)->pk (k.ld a)=kd->Calls prog 170 #[af c.pk,ae a] w fun e w'=>∃b,e=.returned (.tuple #[])/\(dM c k).J b (k.d7 s a n) w'/\bM F w b w':=by
  intro kd O C;rw[C] at L;clear C hk;rcases O with rfl|rfl
  all_goals
   go_enter func170,ntmps170;go_wp2_with fail;refine L.mono ?_;clear L;rintro e w1 ⟨rfl,j⟩
   have D:Hid ((dM c k).J F (k.d7 s a 0) w1/\bM F w F w1):=⟨(dM c k).below M.out j,bM.of j⟩
   clear j c0 g;go_wp2_with fail
   go_loopw [26] (fun iv wr=>∃(i:Nat)(b:Nat->Prop),i<=n/\iv=ae i/\Hid ((dM c k).J b (k.d7 s a i) wr/\bM F w b wr)) (fun iv _=>n-(intOf iv).toNat)
   case atStart=>exact⟨0,F,aA _,rfl,D⟩
   case round=>
    clear D;obtain⟨i,b,hi,rfl,d⟩:=hrel;by_cases S:i<n
    ·have U:(0:Int)<=(i:Int):=I;have W:(i:Int)<(n:Int):=I;obtain⟨vt,bO,l⟩:=d.out.1;obtain⟨f,c0,_⟩:=fH l;obtain⟨g,_⟩:=dX l;have P:=h8 (a+1+i) wr f;have E:ld k.a.N k.s.y k.s.g k.s.ws (a+1+i)=k.ld (a+1+i):=rfl;rw[E] at P;have m:Hid (k.d7 s a (i+1)=k.ma (k.d7 s a i) (k.ld (a+1+i))):=rfl;have G:=(N.out.d7 a i).1;generalize k.ld (a+1+i)=x at P m;clear f l E;go_wp2_with fail;refine P.mono ?_;clear P;rintro e w3 ⟨rfl,o⟩
     have p:=mH ((dM c k).below d.out.1 o) G x;rw[<-m.out] at p;have H:Hid (bM F w b w3):=d.out.2.below o;clear o d m G c0 g;go_wp2_with fail;refine p.mono ?_;clear p;rintro e J ⟨t,rfl,b9,K⟩
     have Q:Hid ((dM c k).J t (k.d7 s a (i+1)) J/\bM F w t J):=⟨b9,H.out.trans K⟩
     clear b9 K H;go_wp2_with fail;go_roundw
     case rel=>exact⟨i+1,t,I,ac,Q⟩
     case measure=>simp[intOf];omega
    ·obtain rfl:i=n:=I;go_wp2_with fail;go_end0;exact⟨b,rfl,d.out.1,d.out.2⟩
 exact key _ hk rfl
theorem yO (h:(dM c k).J F s w)(H:cu k s)(a:Int)(K:0<=a)(a1:a<=2000)(hk:pk (k.ld a)=3):
 Calls prog 170 #[af c.pk,ae a] w fun e w'=>∃m,e=.returned (.tuple #[])/\(dM c k).J m (k.lk s a) w'/\bM F w m w':=by
 have o:k.lk s a=k.ma s (k.ld (a+2)):=by unfold bL.lk;rw[ao I,aq hk]
 rw[o];obtain⟨x,d⟩:∃x,k.ld (a+2)=x:=⟨_,rfl⟩
 rw[d];have J:Hid (k.ld (a+2)=x):=d;clear d;have p:Hid ((dM c k).J F s w):=h;obtain⟨vt,bO,h⟩:=h;obtain⟨b,c0,_⟩:=fH h;obtain⟨t,_⟩:=dX h;have L:=e9 a w b;have u:ld k.a.N k.s.y k.s.g k.s.ws a=k.ld a:=rfl;rw[u,hk] at L;generalize pf (k.ld a)=n at L;generalize pc (k.ld a)=q at L;clear h b u hk o;go_enter func170,ntmps170;go_wp2_with fail;refine L.mono ?_;clear L;rintro e w1 ⟨rfl,f⟩
 have v:=(dM c k).below p.out f;have g:Hid ((dM c k).J F s w1/\bM F w F w1):=⟨v,bM.of f⟩
 obtain⟨vt,bO,i⟩:=v;obtain⟨b,c0,_⟩:=fH i;obtain⟨t,_⟩:=dX i;have P:=h8 (a+2) w1 b;have A:ld k.a.N k.s.y k.s.g k.s.ws (a+2)=k.ld (a+2):=rfl;rw[A,J.out] at P;clear f i b A;go_wp2_with fail;refine P.mono ?_;clear P;rintro e w3 ⟨rfl,j⟩
 have B:=mH ((dM c k).below g.out.1 j) H x;have C:Hid (bM F w F w3):=g.out.2.below j;clear j g c0 t p;go_wp2_with fail;refine B.mono ?_;clear B;rintro e D ⟨l,rfl,b9,E⟩
 have G:Hid ((dM c k).J l (k.ma s x) D/\bM F w l D):=⟨b9,C.out.trans E⟩
 clear b9 E C;go_wp2_with fail;go_end0;exact⟨l,rfl,G.out.1,G.out.2⟩
theorem yP (h:(dM c k).J F s w)(a:Int)(ai:s.ep.length<=10000)(hk:pk (k.ld a)=4):
 Calls prog 170 #[af c.pk,ae a] w fun e w'=>∃d,e=.returned (.tuple #[])/\(dM c k).J d (k.lk s a) w'/\bM F w d w':=by
 have p:k.lk s a={s with ep:=s.ep++[a]}:=by unfold bL.lk;rw[ao I,ao I,aq hk]
 rw[p];obtain⟨H,hi,J,K,M⟩:=info_parts iE;have t:Hid ((dM c k).J F s w):=h;obtain⟨vt,bO,h⟩:=h;obtain⟨v,c0,_⟩:=fH h;obtain⟨N,_⟩:=dX h;have L:=e9 a w v;have x:ld k.a.N k.s.y k.s.g k.s.ws a=k.ld a:=rfl;rw[x,hk] at L;generalize pf (k.ld a)=n at L;generalize pc (k.ld a)=q at L;clear h v x hk p;go_enter func170,ntmps170;go_wp2_with fail;refine L.mono ?_;clear L;rintro e w1 ⟨rfl,i⟩
 obtain⟨vt,bO,f⟩:=(dM c k).below t.out i;obtain⟨_,_,_,_,_,_,O,A,lk⟩:=dX f;obtain⟨_,er,_,P,_⟩:=kO f;obtain⟨m,o,Q⟩:=dG er;subst Q;have R:=A 6;have B:Hid ((cy c k vt (.slice m s.ep.length o)).J F s w1/\bM F w F w1):=⟨f,bM.of i⟩
 clear f i c0 N t A;go_wp2_with (at_builtin;refine wpList_append_own_at _ rfl _ _ 96 rfl 0 3 H (ae 0) 1 8 Tryz.underlying96 hi J K M rfl Z (.slice m s.ep.length o) s.ep.length (s.ep.map (Value.int .i64)) rfl (fC er _) ⟨w1.heap.size,0,none⟩ 1 1 [ae a] rfl rfl ?_ ?_ ?_ ?_ ?_ ?_;(intro j u g;match j,g with|0,g=>(simp at g;subst g;simp[Addr.add]));(intro u C;simp at C;subst C;rfl);(unfold maxLen;omega);(first|omega|simp);(first|omega|(simp;done)|(simp;omega));intro al ar D E _ S;obtain⟨b4,U,W⟩:=dP D (Nat.succ_pos _);subst W;have G:=(E.block c.pk (by simp;omega) P).trans (Below.heap_alloc _ _ _ lk);have ax:=(aD (a:=⟨c.pk,6,none⟩) G).trans O;have aB:=(World.frozen?_of_block (a:=⟨c.pk,6,none⟩) G).trans R)
 go_end0;obtain⟨d,X,Y⟩:=yM B.out.1 (((Fr.refl _ w1).alloc _).grown E (fun b e=>ap e.symm)) (v1:=.slice (ag b4) (s.ep.length+1) U) (l:=s.ep++[a]) (by simpa using D) (fun b e=>by
  have ad:some b4=(Value.slice m s.ep.length o).ownBlock\/b4=w1.heap.size+1:=S.imp id (fun e=>by simpa[Value.ownBlock] using e)
  simp[Value.ownBlock] at e;subst e;exact ad.imp id (fun e=>by omega))
 exact⟨d,rfl,⟨_,_,X⟩,B.out.2.trans Y⟩
theorem yQ (h:(dM c k).J F s w)(a:Int)(k1:pk (k.ld a)≠1)(p:pk (k.ld a)≠2)(d:pk (k.ld a)≠3)(f:pk (k.ld a)≠4):
 Calls prog 170 #[af c.pk,ae a] w fun e w'=>∃g,e=.returned (.tuple #[])/\(dM c k).J g (k.lk s a) w'/\bM F w g w':=by
 have i:k.lk s a=s:=by unfold bL.lk;rw[ao I,ao d,ao f]
 rw[i];have j:Hid ((dM c k).J F s w):=h;obtain⟨vt,bO,h⟩:=h;obtain⟨l,c0,_⟩:=fH h;obtain⟨t,_⟩:=dX h;have L:=e9 a w l;have m:ld k.a.N k.s.y k.s.g k.s.ws a=k.ld a:=rfl;rw[m] at L;generalize pk (k.ld a)=kd at*;generalize pf (k.ld a)=n at L;generalize pc (k.ld a)=q at L;have b1:(kd==1)=false:=by simpa using k1
 have b2:(kd==2)=false:=by simpa using p
 have b3:(kd==3)=false:=by simpa using d
 have b4:(kd==4)=false:=by simpa using f
 clear h l m i;go_enter func170,ntmps170;go_wp2_with fail;refine L.mono ?_;clear L;rintro e w1 ⟨rfl,b⟩
 have o:Hid ((dM c k).J F s w1/\bM F w F w1):=⟨(dM c k).below j.out b,bM.of b⟩
 clear b j;go_wp2_with fail;go_end0;exact⟨F,rfl,o.out.1,o.out.2⟩
theorem yR (h:(dM c k).J F s w)(b:cu k s)(a:Int)(d:0<=a)(a1:a<=2000)(j:s.ep.length<=10000):
 Calls prog 170 #[af c.pk,ae a] w fun e w'=>∃f,e=.returned (.tuple #[])/\(dM c k).J f (k.lk s a) w'/\bM F w f w':=by
 by_cases k1:pk (k.ld a)=1\/pk (k.ld a)=2
 ·exact yN h b a d a1 k1
 by_cases g:pk (k.ld a)=3
 ·exact yO h b a d a1 g
 by_cases i:pk (k.ld a)=4
 ·exact yP h a j i
 exact yQ h a (fun e=>k1 (ap e)) (fun e=>k1 (an e)) g i
end
section
variable {c:eB}{k:bL}{F:Nat->Prop}{s:bX}{w:World}
theorem yS (h:(dM c k).J F s w)(G:cu k s):
 Calls prog 110 #[af c.pk] w fun e w'=>∃H,e=.returned (.tuple #[])/\(dM c k).J H (k.lm (k.lost s+s.td.length+1) s) w'/\bM F w H w':=by
 have t:Hid ((dM c k).J F s w/\cu k s):=⟨h,G⟩
 obtain⟨f,u⟩:∃f,k.lm (k.lost s+s.td.length+1) s=f:=⟨_,rfl⟩
 rw[u];have W:Hid (k.lm (k.lost s+s.td.length+1) s=f):=u;obtain⟨vt,bO,h⟩:=h;obtain⟨_,_,_,_,_,j,_⟩:=dX h;obtain⟨tr,_⟩:=kO h;obtain⟨aV,v,A⟩:=dG tr;subst A;clear h G u tr;go_enter func110,ntmps110;go_wp2_with fail
 go_loopg [2] (k.lost s+s.td.length) (fun m nv wr=>∃(s1:bX)(o:Nat->Prop),nv=ae s1.td.length/\Hid ((dM c k).J o s1 wr/\cu k s1/\bM F w o wr)/\Hid (k.lost s1+s1.td.length<=m/\k.lm (m+1) s1=f))
 case atStart=>exact⟨s,F,rfl,⟨t.out.1,t.out.2,bM.refl _ _⟩,⟨ak _,W.out⟩⟩
 case round=>
  clear t j;obtain⟨s1,o,rfl,a,i⟩:=hrel;by_cases d:0<s1.td.length
  ·obtain⟨vt,bO,p⟩:=a.out.1;obtain⟨_,_,_,_,_,j,_,J,lk⟩:=dX p;obtain⟨tr,_,a0,_⟩:=kO p;obtain⟨b,v,A⟩:=dP tr d;subst A;have X:=r8 tr;have a1:maxLen<=9223372036854775807:=by unfold maxLen;omega
   have K:wr.cell? (ah b (s1.td.length-1))=some (ae (s1.td.getD (s1.td.length-1) 0)):=by obtain⟨a2,a3,e,_,hc⟩:=ga tr d;cases e;have:=hc (s1.td.length-1) I;rwa [Nat.zero_add] at this
   have Y:=J 5;have hm:s1.td.getD (s1.td.length-1) 0∈s1.td:=by rw[aj,am I];exact aK _
   have L:=a.out.2.1.ps _ (a.out.2.1.td _ hm)
   have ad:=a.out.2.1.sum;have bb:=a.out.2.1.tl;obtain⟨ai,M,N⟩:=tf p (Fr.refl _ wr) (v1:=.slice (ag b) (s1.td.length-1) v) (l:=s1.td.take (s1.td.length-1)) (by have:=r7 tr (s1.td.length-1) I;rw[List.map_take,show(s1.td.take (s1.td.length-1)).length=s1.td.length-1 by rw[a5];omega];exact this) (fun b e=>ap e)
   have O:cu k {s1 with td:=s1.td.take (s1.td.length-1)}:=⟨a.out.2.1.nd,a.out.2.1.ps,fun x al=>a.out.2.1.td x (List.mem_of_mem_take al),a.out.2.1.ep,a.out.2.1.tl,by show k.lost s1+(s1.td.take (s1.td.length-1)).length+s1.ep.length<=_;rw[a5];omega⟩
   have q:=yR ⟨_,_,M⟩ O (s1.td.getD (s1.td.length-1) 0) L.1 L.2 (by show s1.ep.length<=10000;omega)
   have ar:Hid (k.lk {s1 with td:=s1.td.take (s1.td.length-1)} (s1.td.getD (s1.td.length-1) 0)=k.l1 s1):=rfl;rw[ar.out] at q;have B:Hid (cu k (k.l1 s1)/\k.lost (k.l1 s1)+(k.l1 s1).td.length+1=k.lost s1+s1.td.length):=a.out.2.1.l1 d;have P:Hid (k.lm (gk+1) s1=k.lm gk (k.l1 s1)):=by show _=_;rw[bL.lm,aq d]
   have C:Hid (bM F w ai (wr.setCell ⟨c.pk,5,none⟩ (.slice (some ⟨b,0,none⟩) (s1.td.length-1) v))):=a.out.2.2.trans N;obtain⟨n,Q⟩:∃n,s1.td.length=n+1:=⟨s1.td.length-1,I⟩
   rw[Q] at j X⊢;rw[Q,Nat.add_sub_cancel] at K q C;generalize s1.td.getD n 0=x at*;generalize k.l1 s1=g at*;have bd:n<=4000:=I;have w1:IntKind.i64.wrap (((n+1:Nat):Int)-1)=(n:Int):=by rw[a_];omega
   clear p M N O tr hm ad J a;go_wp2_with fail;refine q.mono ?_;clear q;rintro e R ⟨D,rfl,b9,S⟩
   have ax:Hid ((dM c k).J D g R/\cu k g/\bM F w D R):=⟨b9,B.out.1,C.out.trans S⟩
   obtain⟨be,bg,E⟩:=b9;obtain⟨_,_,_,_,_,bi,_⟩:=dX E;obtain⟨U,_⟩:=kO E;obtain⟨bl,bn,aB⟩:=dG U;subst aB;have hg:1<=gk:=by have:=i.out.1;omega
   have aF:Hid (k.lost g+g.td.length<=gk-1/\k.lm (gk-1+1) g=f):=⟨by have:=i.out.1;have:=B.out.2;omega,by rw[Nat.sub_add_cancel hg,<-P.out];exact i.out.2⟩
   clear E U S C j K Y i P B;go_wp2_with fail
   go_roundg (gk-1)
   case measure=>omega
   case rel=>exact⟨g,D,rfl,ax,aF⟩
  ·have aR:s1.td=[]:=by
    cases ht:s1.td with
    |nil=>rfl
    |cons x l=>rw[ht] at d;simp at d
   have aT:f=s1:=by rw[<-i.out.2];unfold bL.lm;rw[ao d]
   subst aT;rw[aR];go_wp2_with fail;go_end0;exact⟨o,rfl,a.out.1,a.out.2.2⟩
end
section
variable {c:eB}{k:bL}{F:Nat->Prop}{s:bX}{w:World}
theorem yT (h:(dM c k).J F s w)(B:cu k s):
 Calls prog 111 #[af c.pk] w fun e w'=>∃bo,e=.returned (.bool (k.kv s).1)/\(dM c k).J bo (k.kv s).2 w'/\bM F w bo w':=by
 obtain⟨b8,hi,b9,cb,cc⟩:=info_parts iE;obtain⟨vt,bO,h⟩:=h;obtain⟨_,_,_,_,_,_,cd,_⟩:=dX h;obtain⟨_,er,_⟩:=kO h;obtain⟨bp,g,ce⟩:=dG er;subst ce;have aB:Hid (cu k s):=B;have br:Hid ((hI c k (.slice bp s.ep.length g)).J F s w):=⟨vt,h⟩
 have cn:s.ep.length<=4000:=by have:=B.sum;have:=B.tl;omega
 have cf:Hid (∀a∈s.ep,0<=a/\a<=2000):=fun a ha=>B.ps a (B.ep a ha)
 have bs:Hid (k.kv s=(decide ((k.c4 s s.ep).1.length<s.ep.length),{(k.c4 s s.ep).2 with ep:=(k.c4 s s.ep).1})):=rfl;clear B h er;go_enter func111,ntmps111;go_wp2_with fail
 go_loopw [3,12] (fun vr iv wr=>∃(j:Nat)(R:List Int)(s1:bX)(ar:Option Addr)(i:Nat)(f:Nat->Prop),j<=s.ep.length/\iv=ae j/\Hid (k.c4 s (s.ep.take j)=(R,s1))/\vr=.slice ar R.length i/\wr.ownsRow w.heap.size 3 1 (.slice ar R.length i) R.length (R.map (Value.int .i64))/\(hI c k (.slice bp s.ep.length g)).J f s1 wr/\bM F w f wr/\Hid (∀b,some b=(Value.slice ar R.length i).ownBlock->¬f b)/\Hid (cu k s1/\s1.ep=s.ep)) (fun _ iv _=>s.ep.length-(intOf iv).toNat)
 case atStart=>exact⟨0,[],s,none,0,F,aA _,rfl,rfl,rfl,aO _ _ _ _,br.out,bM.refl _ _,fun b e=>by simp[Value.ownBlock] at e,⟨aB.out,rfl⟩⟩
 case round=>
  obtain⟨j,R,s1,ar,i,f,E,rfl,G,rfl,q,bx,v,C,H⟩:=hrel;clear br cd;have co:R.length<=10000:=by have J:=(cu.gE (s.ep.take j) (t:=([],s)) aB.out (fun a ha=>aB.out.ep a (List.mem_of_mem_take ha)) (fun b d=>by cases d)).2.1;have bN:=G.out;unfold bL.c4 at bN;rw[bN] at J;simp at J;omega
  by_cases O:j<s.ep.length
  ·obtain⟨bP,m⟩:=bx;obtain⟨_,aF,_⟩:=kO m;rw[H.out.2] at aF;obtain⟨b0,n,cg,cp,hc⟩:=ga aF I;have aR:=hc j O;subst cg;have bQ:s.ep.getD j 0∈s.ep:=by rw[aj,am O];exact aK O
   have ch:=cf.out _ bQ;have aT:Hid (k.c4 s (s.ep.take (j+1))=k.cr (R,s1) (s.ep.getD j 0)):=by
    show _=_;rw[eY s.ep j O 0];unfold bL.c4;rw[List.foldl_append];have:=G.out;unfold bL.c4 at this
    rw[this];rfl
   generalize s.ep.getD j 0=a at aR ch aT;obtain⟨Q,_⟩:=dX m;obtain⟨K,S,_⟩:=fH m;have L:=h8 (a+1) wr K;have M:ld k.a.N k.s.y k.s.g k.s.ws (a+1)=k.ld (a+1):=rfl;rw[M] at L;have A:Hid ((hI c k (.slice (some ⟨b0,n,none⟩) s.ep.length g)).J f s1 wr/\bM F w f wr):=⟨⟨bP,m⟩,v⟩
   have cq:=v.fr.size;have bS:Hid (∀b,some b=(Value.slice ar R.length i).ownBlock->b<wr.heap.size):=fun b e=>(bR q b e).2;have j0:(0:Int)<=(j:Int):=I;have cr:(j:Int)<(s.ep.length:Int):=I;clear hc bQ m v K M aF;cases hls:k.co s1 (k.ld (a+1))
   ·have U:Hid (k.c4 s (s.ep.take (j+1))=(R,k.ma s1 (k.ld (a+2)))):=by show _=_;rw[aT.out];unfold bL.cr;rw[hls];rfl
    generalize k.ld (a+1)=x at L hls;go_wp2_with fail;refine L.mono ?_;clear L;rintro e w1 ⟨rfl,o⟩
    obtain⟨ci,p⟩:=(hI c k (.slice (some ⟨b0,n,none⟩) s.ep.length g)).below A.out.1 o;have P:=mG p x;rw[hls] at P;clear aR Q S p;go_wp2_with fail;refine P.mono ?_;clear P;rintro e D ⟨rfl,N⟩
    have d:=o.trans (N.mono o.size)
    obtain⟨cj,W⟩:=(hI c k (.slice (some ⟨b0,n,none⟩) s.ep.length g)).below A.out.1 d;obtain⟨Q,_⟩:=dX W;obtain⟨K,S,_⟩:=fH W;have X:=h8 (a+2) D K;have M:ld k.a.N k.s.y k.s.g k.s.ws (a+2)=k.ld (a+2):=rfl;rw[M] at X;have ck:Hid (k.ld (a+2)=k.ld (a+2)):=rfl;generalize k.ld (a+2)=y at X U;have aV:Hid ((hI c k (.slice (some ⟨b0,n,none⟩) s.ep.length g)).J f s1 D/\Below wr.heap.size wr D):=⟨⟨cj,W⟩,d⟩
    clear o N W K M d ck;go_wp2_with fail;refine X.mono ?_;clear X;rintro e w3 ⟨rfl,a0⟩
    have bT:=tm ((hI c k (.slice (some ⟨b0,n,none⟩) s.ep.length g)).below aV.out.1 a0) H.out.1 y;have bU:Hid (bM f wr f w3):=(bM.of aV.out.2).below a0;clear a0 Q S aV;go_wp2_with fail;refine bT.mono ?_;clear bT;rintro e Y ⟨a1,rfl,a2,ad⟩
    have ai:=bU.out.trans ad;have a3:=H.out.1.ma y;have bb:Hid (bM F w a1 Y/\cu k (k.ma s1 y)/\(k.ma s1 y).ep=s.ep):=⟨A.out.2.trans ai,a3.1,a3.2.2.trans H.out.2⟩
    have bd:=fQ q ai.fr (fun b e=>C.out b e)
    have be:Hid (∀b,some b=(Value.slice ar R.length i).ownBlock->¬a1 b):=fun b e bV=>(ai.sub b bV).elim (C.out b e) (fun bV=>by have:=bS.out b e;omega)
    clear ad ai a3 q bU C;go_wp2_with fail;go_roundw
    case rel=>exact⟨j+1,R,_,ar,i,a1,I,ac,U,rfl,bd,a2,bb.out.1,be,⟨bb.out.2.1,bb.out.2.2⟩⟩
    case measure=>simp[intOf];omega
   ·have U:Hid (k.c4 s (s.ep.take (j+1))=(R++[a],s1)):=by show _=_;rw[aT.out];unfold bL.cr;rw[aq hls]
    generalize k.ld (a+1)=x at L hls;go_wp2_with fail;refine L.mono ?_;clear L;rintro e w1 ⟨rfl,o⟩
    obtain⟨ci,p⟩:=(hI c k (.slice (some ⟨b0,n,none⟩) s.ep.length g)).below A.out.1 o;have P:=mG p x;rw[hls] at P;clear aR Q S p;go_wp2_with fail;refine P.mono ?_;clear P;rintro e D ⟨rfl,N⟩
    have d:=o.trans (N.mono o.size)
    have bg:=ca q (fun b e=>d.block b (bS.out b e))
    have cs:=d.size;clear o N;go_wp2_with (at_builtin;refine wpList_append_own_at _ rfl _ _ 96 rfl w.heap.size 3 b8 (ae 0) 1 8 Tryz.underlying96 hi b9 cb cc rfl Z (.slice ar R.length i) R.length (R.map (Value.int .i64)) rfl (fC bg _) ⟨D.heap.size,0,none⟩ 1 1 [ae a] rfl rfl ?_ ?_ ?_ ?_ ?_ ?_;(intro j u E;match j,E with|0,E=>(simp at E;subst E;simp[Addr.add]));(intro u bW;simp at bW;subst bW;rfl);(unfold maxLen;omega);omega;(simp;omega);intro ct Y bi bl _ bY;obtain⟨b4,bn,cl⟩:=dP bi (Nat.succ_pos _);subst cl)
    have bd:Y.ownsRow w.heap.size 3 1 (.slice (ag b4) (R++[a]).length bn) (R++[a]).length ((R++[a]).map (Value.int .i64)):=by simpa using bi
    have p:=(hI c k (.slice (some ⟨b0,n,none⟩) s.ep.length g)).below A.out.1 d;have a2:=m_ (hI c k (.slice (some ⟨b0,n,none⟩) s.ep.length g)) p bl (fun b e=>C.out b e)
    have ad:bM F w f Y:=⟨((A.out.2.below d).fr.alloc _).grown bl (fun b e=>an (bR bg b e.symm).1),A.out.2.sub⟩
    have be:Hid (∀b,some b=(Value.slice (ag b4) (R++[a]).length bn).ownBlock->¬f b):=fun b e bZ=>by
     have cm:some b4=(Value.slice ar R.length i).ownBlock\/b4=D.heap.size+1:=bY.imp id (fun e=>by simpa[Value.ownBlock] using e)
     simp[Value.ownBlock] at e;subst e;rcases cm with e|e
     ·exact C.out _ e bZ
     ·have:=(hI c k (.slice (some ⟨b0,n,none⟩) s.ep.length g)).lt p _ bZ;omega
    clear p bi bl bY bg q d;go_wp2_with fail;go_roundw
    case rel=>exact⟨j+1,R++[a],s1,ag b4,bn,f,I,ac,U,V,bd,a2,ad,be,H⟩
    case measure=>simp[intOf];omega
  ·obtain rfl:j=s.ep.length:=I;rw[aP] at G;obtain⟨bP,m⟩:=bx;obtain⟨_,_,_,_,_,_,cv,b1,lk⟩:=dX m;have cw:=b1 6;obtain⟨b2,b3⟩:=ti m (v1:=.slice ar R.length i) (l:=R) (Fr.refl _ wr) (d5 q (fun _ _=>aA _)) (fun b e=>an (C.out b e))
   have al:Hid (_/\_):=⟨b2,v.fr.trans b3 v.sub⟩
   have b5:Hid (∀b,some b=(Value.slice ar R.length i).ownBlock->w.heap.size<=b):=fun b e=>(bR q b e).1;have b6:Hid (∀b,f b->F b\/w.heap.size<=b):=v.sub;have ax:Hid ((k.kv s).1=decide (R.length<s.ep.length)/\(k.kv s).2={s1 with ep:=R}):=by have J:=bs.out;rw[G.out] at J;rw[J];exact⟨rfl,rfl⟩
   clear b2 b3 m v q G bs b1;by_cases b7:R.length<s.ep.length
   ·go_wp2_with fail;go_ret;rw[ax.out.1,ax.out.2];exact⟨_,by simp[b7],⟨_,_,al.out.1⟩,⟨al.out.2,fun b d=>d.elim (b6.out b) (fun e=>an (b5.out b e))⟩⟩
   ·go_wp2_with fail;go_ret;rw[ax.out.1,ax.out.2];exact⟨_,by simp[b7],⟨_,_,al.out.1⟩,⟨al.out.2,fun b d=>d.elim (b6.out b) (fun e=>an (b5.out b e))⟩⟩
end
def cZ (c:eB)(k:bL):dB bX:=sW (dM c k) (fun s=>cu k s)
abbrev cz (c:eB):Obj:=.cells #[af c.pk] 112 (0,0)
abbrev gF (c:eB):eV:=⟨109,#[af c.pk],#[]⟩
abbrev ii (c:eB):eV:=⟨55,#[af c.pk],#[]⟩
abbrev fu (fv:eV):Obj:=.cells #[fv.v] 122 (0,0)
abbrev g4 (bx:Nat):eV:=⟨120,#[],#[af bx]⟩
abbrev gi (a:Nat):eV:=⟨122,#[],#[af a]⟩
abbrev hJ (c:eB):eV:=⟨123,#[af c.pk],#[]⟩
theorem pL:dQ 120:=gb func120 ab rfl
theorem pM:dQ 122:=gb func122 ab rfl
theorem pN:dQ 123:=gb func123 ab rfl
section
variable {c:eB}{k:bL}{F:Nat->Prop}{s:bX}{w:World}
theorem pO (fv:eV)(w:World)(p:Nat):
 Calls prog 54 #[af p,fv.v] w fun e w'=>e=.returned (.agg #[(g4 w.heap.size).v,(gi (w.heap.size+1)).v,.func (.func 123) #[af p] #[]])/\w'.heap[w.heap.size]?=some (.cells #[af p] 112 (0,0))/\w'.heap[w.heap.size+1]?=some (fu fv)/\Below w.heap.size w w':=by
 obtain⟨f,b,c⟩:=fv;have g:∀(a:Fn)(first d:Array Value)(w:World),(Instr.makeFunc a first d).run prog w=.ok (.func a first d) w:=fun _ _ _ _=>rfl;go_enter func54,ntmps54;go_wp2_with fail;refine aW (v:=.agg #[(g4 w.heap.size).v,(gi (w.heap.size+1)).v,.func (.func 123) #[af p] #[]]) (by simp[results,results54,go_sem]) rfl ⟨rfl,?_,?_,(((Below.refl _ w).alloc bJ _).alloc V _).alloc (by simp;omega) _⟩
 ·rw[Below.heap_alloc _ _ _ (by simp;omega),Below.heap_alloc _ _ _ V];exact aw _ _
 ·rw[Below.heap_alloc _ _ _ V];have:=aw (w.alloc (.cells #[.pointer (some ⟨p,0,none⟩)] 112)) (.cells #[.func (.func f) b c] 122)
  simpa using this
theorem pP:jV (cZ c k) (fun _=>True) (hJ c).f (hJ c).b (hJ c).c k.nw:=by
 rintro F s w x _ ⟨⟨vt,bO,h⟩,_⟩
 exact tk h x
def bL.mp (k:bL)(s:bX)(x:Int):Int×bX:=(x,k.ma s x)
theorem tp (a:Nat):mn (cw (cZ c k) a (fu (gF c))) (fun _=>True) (gi a).f (gi a).b (gi a).c k.mp:=by
 rintro F s w x _ ⟨n,⟨h,i⟩,j,o,p⟩
 have P:=mH h i x;have c0:w.cell? (ah a 0)=some (gF c).v:=by simp[World.cell?,j]
 have u:Hid (cu k (k.ma s x)):=(i.ma x).1;have f:Hid (w.heap[a]?=some (fu (gF c))/\¬n a/\∀b,F b↔(n b\/b=a)):=⟨j,o,p⟩
 clear h i j o p;show Calls prog 122 #[ae x,af a] w _;go_enter func122,ntmps122;go_wp2_with fail;refine P.mono ?_;clear P;rintro e w1 ⟨l,rfl,q,g⟩
 have t:w1.heap[a]?=some (fu (gF c)):=(g.fr.block a (lt_of_some f.out.1) f.out.2.1).trans f.out.1;have m:Hid ((cw (cZ c k) a (fu (gF c))).J (fun b=>l b\/b=a) (k.ma s x) w1/\Fr F w w1/\∀b,(l b\/b=a)->F b\/w.heap.size<=b):=by
  refine⟨⟨l,⟨q,u.out⟩,t,fun d=>(g.sub _ d).elim f.out.2.1 (fun d=>by have:=lt_of_some f.out.1;omega),fun b=>Iff.rfl⟩,g.fr.mono (fun b d=>(f.out.2.2 b).2 (ap d)),fun b d=>?_⟩
  rcases d with d|d
  ·exact(g.sub b d).imp (fun d=>(f.out.2.2 b).2 (ap d)) id
  ·exact ap ((f.out.2.2 b).2 (an d))
 clear q g t;go_wp2_with fail;go_ret;exact⟨_,rfl,m.out.1,m.out.2.1,m.out.2.2⟩
end
def bL.c6 (k:bL)(s:bX):bX:=k.lm (k.lost s+s.td.length+1) s
def bL.wa (k:bL)(t:bX×List bN):(bX×List bN)×Bool:=fF k.al k.mp t t.2.length
def bL.ph (k:bL)(s:bX):Nat:=k.lost s+s.td.length+s.ep.length
def bL.mu (k:bL)(s:bX):Nat:=k.lost s+k.ph s
def bL.cK (k:bL):Nat->bX×List bN->bX×List bN
 |0,t=>t
 |n+1,t=>
  if(k.kv (k.c6 t.1)).1=true then k.cK n ((k.kv (k.c6 t.1)).2,t.2)
  else if(k.wa ((k.kv (k.c6 t.1)).2,t.2)).2=true then k.cK n (k.wa ((k.kv (k.c6 t.1)).2,t.2)).1
  else(k.wa ((k.kv (k.c6 t.1)).2,t.2)).1
def bL.sp (k:bL)(t:bX×List bN):bX×List bN:=k.cK (k.mu t.1+1) t
def bL.ke (k:bL)(t:bX×List bN)(x:Int):Int×(bX×List bN):=(x,k.sp (k.ma t.1 x,t.2))
structure c9 (k:bL)(s t:bX):Prop where
 dy:cu k t
 lo:k.lost t<=k.lost s
 ph:k.ph t<=k.ph s
section
variable {k:bL}{s t u:bX}
theorem c9.refl (h:cu k s):c9 k s s:=⟨h,ak _,ak _⟩
theorem c9.trans (h:c9 k s t)(j:c9 k t u):c9 k s u:=⟨j.dy,az j.lo h.lo,az j.ph h.ph⟩
theorem c9.mu (h:c9 k s t):k.mu t<=k.mu s:=by have a:=h.lo;have b:=h.ph;unfold bL.mu;omega
theorem tq (h:cu k s)(x:Int):k.co s x=true->k.lost (k.ma s x)<k.lost s:=fun c=>by
 have:=bL.te h.nd c (fun a ha=>(h.ps a ha).1)
 omega
theorem c9.ma (h:cu k s)(x:Int):c9 k s (k.ma s x):=by
 obtain⟨a,d,b⟩:=h.ma x;refine⟨a,?_,?_⟩
 ·by_cases c:k.co s x=true
  ·exact Nat.le_of_lt (tq h x c)
  ·have e:k.ma s x=s:=by unfold bL.ma;rw[ao c]
   rw[e];exact ak _
 ·unfold bL.ph;rw[b];omega
theorem c9.d7 (h:cu k s)(a:Int):∀n,c9 k s (k.d7 s a n)
 |0=>c9.refl h
 |n+1=>(c9.d7 h a n).trans (c9.ma (c9.d7 h a n).dy _)
theorem yU (h:cu k s)(a:Int):k.lost (k.lk s a)<=k.lost s:=by
 unfold bL.lk;split
 ·exact(c9.d7 h a _).lo
 ·split
  ·exact(c9.ma h _).lo
  ·split
   ·exact ak _
   ·exact ak _
theorem c9.l1 (h:cu k s)(hl:0<s.td.length):c9 k s (k.l1 s):=by
 obtain⟨d,f⟩:=h.l1 hl;have hm:s.td.getD (s.td.length-1) 0∈s.td:=by rw[aj,am I];exact aK _
 have hs:=h.sum;have e:(s.td.take (s.td.length-1)).length=s.td.length-1:=by rw[a5];omega
 have h0:cu k {s with td:=s.td.take (s.td.length-1)}:=⟨h.nd,h.ps,fun a ha=>h.td a (List.mem_of_mem_take ha),h.ep,h.tl,by show k.lost s+(s.td.take (s.td.length-1)).length+s.ep.length<=_;omega⟩
 have b:=yU h0 (s.td.getD (s.td.length-1) 0)
 have c:=(h0.lk (h.td _ hm) (by show k.lost s+(s.td.take (s.td.length-1)).length+s.ep.length+1<=_;omega)).2.2;have b:k.lost (k.l1 s)<=k.lost s:=b;have c:(k.l1 s).ep.length<=s.ep.length+1:=c;refine⟨d,b,?_⟩
 unfold bL.ph;omega
theorem c9.lm:∀(n:Nat){s:bX},cu k s->c9 k s (k.lm n s)
 |0,s,h=>c9.refl h
 |n+1,s,h=>by
  unfold bL.lm;by_cases c:0<s.td.length
  ·rw[aq c];exact(c9.l1 h c).trans (c9.lm n (c9.l1 h c).dy)
  ·rw[ao c];exact c9.refl h
theorem c9.c6 (h:cu k s):c9 k s (k.c6 s):=c9.lm _ h
theorem ts (h:cu k s):(k.c6 s).td=[]:=(cu.lm _ h).2.1 I
theorem c9.gE:∀(l:List Int){t:List Int×bX},cu k t.2->c9 k t.2 (l.foldl k.cr t).2
 |[],t,h=>c9.refl h
 |a::l,t,h=>by
  rw[aI];have b:c9 k t.2 (k.cr t a).2:=by
   unfold bL.cr;split
   ·exact c9.refl h
   ·exact c9.ma h _
  exact b.trans (c9.gE l b.dy)
theorem c9.kv (h:cu k s):c9 k s (k.kv s).2/\((k.kv s).1=true->k.mu (k.kv s).2<k.mu s):=by
 obtain⟨a,d,f,b⟩:=h.kv;have c:k.lost (k.kv s).2<=k.lost s:=(c9.gE s.ep (t:=([],s)) h).lo;refine⟨⟨a,c,by unfold bL.ph;omega⟩,fun e=>?_⟩
 have:=b e;unfold bL.mu bL.ph;omega
theorem tt:∀(l:List Nat)(t:(bX×List bN)×Bool),cu k t.1.1->c9 k t.1.1 (l.foldl (dt k.al k.mp) t).1.1/\(l.foldl (dt k.al k.mp) t).1.2.length=t.1.2.length/\((l.foldl (dt k.al k.mp) t).2=true->t.2=true\/k.lost (l.foldl (dt k.al k.mp) t).1.1<k.lost t.1.1)
 |[],t,h=>⟨c9.refl h,rfl,fun e=>ap e⟩
 |i::l,t,h=>by
  rw[aI];have key:c9 k t.1.1 (dt k.al k.mp t i).1.1/\(dt k.al k.mp t i).1.2.length=t.1.2.length/\((dt k.al k.mp t i).2=true->t.2=true\/k.lost (dt k.al k.mp t i).1.1<k.lost t.1.1):=by
   unfold dt;split
   ·exact⟨c9.refl h,rfl,fun e=>ap e⟩
   ·rename_i c;refine⟨c9.ma h _,V,fun _=>an (tq h _ ?_)⟩
    rw[Bool.or_eq_true] at c;cases hj:k.co t.1.1 (t.1.2.getD i (0,0)).2
    ·exact absurd (ap (by unfold bL.al;rw[hj];rfl)) c
    ·rfl
  obtain⟨k1,d,f⟩:=key;obtain⟨b,j2,b7⟩:=tt l (dt k.al k.mp t i) k1.dy;refine⟨k1.trans b,j2.trans d,fun e=>?_⟩
  rcases b7 e with a|a
  ·rcases f a with a|a
   ·exact ap a
   ·exact an (Nat.lt_of_le_of_lt b.lo a)
  ·exact an (av a k1.lo)
theorem c9.wa {t:bX×List bN}(h:cu k t.1):c9 k t.1 (k.wa t).1.1/\(k.wa t).1.2.length=t.2.length/\((k.wa t).2=true->k.mu (k.wa t).1.1<k.mu t.1):=by
 obtain⟨a,b,c⟩:=tt (List.range t.2.length) (t,false) h;have a:c9 k t.1 (k.wa t).1.1:=a;refine⟨a,b,fun e=>?_⟩
 have d:k.lost (k.wa t).1.1<k.lost t.1:=(c e).resolve_left V;have f:=a.ph;unfold bL.mu;omega
end
end Go.Proofs.YtjpjpjemibgjpaaGreat
