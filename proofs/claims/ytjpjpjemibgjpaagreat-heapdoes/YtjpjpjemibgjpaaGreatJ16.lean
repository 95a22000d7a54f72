import Derived.Test.YtjpjpjemibgjpaaGreatJ15
namespace Go.Proofs.YtjpjpjemibgjpaaGreat
set_option maxRecDepth 100000
set_option maxHeartbeats 4000000
open Tryz
open Go.RowKit W Kp cg
def i3 (c:e4)(k:b8)(b:Value):dP ct where
 J F s w:=∃vt,(cS c k vt b).J F s w
 lt:=by
  rintro F s w ⟨vt,h⟩
  exact(cS c k vt b).lt h
 keep:=by rintro F s w w' ⟨vt,h⟩ hs hk;exact⟨vt,(cS c k vt b).keep h hs hk⟩
section
variable {c:e4}{k:b8}{cr:Value}{F:Nat->Prop}{s:ct}{w:au}
theorem yZ (h:(i3 c k cr).J F s w)(m:cU k s)(x:Int):
 Calls prog 109 #[aj c.pk,ah x] w fun e w'=>∃g,e=.returned (.tuple #[])/\(i3 c k cr).J g (k.ma s x) w'/\b_ F w g w':=by
 obtain⟨vt,h⟩:=h;have P:=o8 h x;have q:=hide h;clear h;cases hl:k.cQ s x
 ·have M:k.ma s x=s:=by unfold b8.ma;rw[hl];rfl
  rw[M];rw[hl] at P;go_enter func109,ntmps109;go_wp2_with fail;refine P.mono ?_;rintro e w1 ⟨rfl,d⟩
  have v:av ((i3 c k cr).J F s w1/\b_ F w F w1):=⟨⟨vt,(cS c k vt cr).below q.o d⟩,b_.of d⟩
  go_wp2_with fail;go_end0;exact⟨F,rfl,v.o.1,v.o.2⟩
 ·obtain⟨N,hi,O,Q,R⟩:=info_parts jQ;obtain⟨l1,l2,A⟩:=b8.qG hl;have E:av (k.ma s x={s with f:=gq s.f (cf x) (cf x),td:=s.td++[cf x]}):=by show _=_;unfold b8.ma;rw[aH hl]
  have n:=na x;rw[l1] at n;have B:=m.ps _ l2;have a3:=m.tl;have bb:=m.sum;rw[hl] at P;generalize k.ma s x=s2 at E⊢;generalize cf x=a at E n l2 A B⊢;clear hl l1 A;go_enter func109,ntmps109;go_wp2_with fail;refine P.mono ?_;rintro e w1 ⟨rfl,d⟩
  go_wp2_with fail;refine(n w1).mono ?_;rintro e S ⟨rfl,U⟩
  have C:=d.trans (U.mono d.size)
  have G:=(cS c k vt cr).below q.o C;obtain⟨_,_,_,c3,_,c5,_,bd,lk⟩:=ey G;obtain⟨⟨D,o1,W,X⟩,hM⟩:=o7 G;obtain⟨w3,be,Y,ab⟩:=o1.update (t:=108) (e:=3) iA underlying108 (by unfold maxLen;omega) (iZ B.1 V) (my a (WalkArith.wf_i64 ⟨V,V⟩))
  obtain⟨o,ad⟩:=hM w3 _ (Mp.put o1 W X l2 Y) ((Fr.refl _ S).grown ab (fun b e=>aJ (by cases e;rfl)))
  obtain⟨_,_,_,_,_,ag,_,ai,al⟩:=ey o;obtain⟨p,_,ap,_⟩:=mR o;dsimp only at p;obtain⟨ar,ax,aB⟩:=dQ p;subst aB;have aF:=ai 5;have H:=dC o ((b_.of C).trans ad)
  go_wp2_with (at_builtin;refine wpList_append_own_at _ rfl _ _ 96 rfl 0 3 N (ah 0) 1 8 underlying96 hi O Q R rfl aa (.slice ar s.td.length ax) s.td.length (s.td.map (Value.int .i64)) rfl (f6 p _) ⟨w3.heap.size,0,none⟩ 1 1 [ah a] rfl rfl ?_ ?_ ?_ ?_ ?_ ?_;(intro j u i;match j,i with|0,i=>(simp at i;subst i;simp[Addr.add]));(intro u I;simp at I;subst I;rfl);(unfold maxLen;omega);(first|omega|simp);(first|omega|(simp;done)|(simp;omega));intro bg bi J K _ aR;obtain⟨b4,aT,a0⟩:=dW J (Nat.succ_pos _);subst a0;have L:=(K.block c.pk (by simp;omega) ap).trans (a4 _ _ _ al);have bl:=(aU (a:=⟨c.pk,5,none⟩) L).trans ag;have bn:=(World.frozen?_of_block (a:=⟨c.pk,5,none⟩) L).trans aF)
  go_end0;obtain⟨g,a1,a2⟩:=yV H.o.1 (((Fr.refl _ w3).alloc _).grown K (fun b e=>aJ e.symm)) (v1:=.slice (ak b4) (s.td.length+1) aT) (l:=s.td++[a]) (by simpa using J) (fun b e=>by simp[Value.ownBlock] at e;subst e;exact(aR.imp id (fun e=>by simpa[Value.ownBlock] using e)).imp id (fun e=>by omega))
  exact⟨g,rfl,⟨_,by rw[E.o];exact a1⟩,H.o.2.trans a2⟩
theorem o9 (h:(eH c k).J F s w)(d:cU k s)(x:Int):
 Calls prog 109 #[aj c.pk,ah x] w fun e w'=>∃b,e=.returned (.tuple #[])/\(eH c k).J b (k.ma s x) w'/\b_ F w b w':=by
 obtain⟨vt,cr,h⟩:=h;refine(yZ ⟨vt,h⟩ d x).mono ?_;rintro e w' ⟨b,rfl,⟨f,j⟩,t⟩
 exact⟨b,rfl,⟨f,cr,j⟩,t⟩
end
section
variable {c:e4}{k:b8}{F:Nat->Prop}{s:ct}{w:au}
theorem FP (h:(eH c k).J F s w)(p:cU k s)(a:Int)(a0:0<=a)(a1:a<=2000)(hk:pk (k.ld a)=1\/pk (k.ld a)=2):
 Calls prog 170 #[aj c.pk,ah a] w fun e w'=>∃b,e=.returned (.tuple #[])/\(eH c k).J b (k.lk s a) w'/\b_ F w b w':=by
 have t:k.lk s a=k.e3 s a (pf (k.ld a)).toNat:=by unfold b8.lk;rw[aH hk]
 rw[t];have u:=hide h;obtain⟨vt,v,h⟩:=h;obtain⟨f,c0,_⟩:=gu h;obtain⟨A,_⟩:=ey h;have L:=fY a w f;have B:ld k.a.N k.s.y k.s.g k.s.ws a=k.ld a:=rfl;rw[B] at L;have hp:=di (k.ld a)
 obtain⟨n,C⟩:∃n:Nat,pf (k.ld a)=n:=⟨(pf (k.ld a)).toNat,V⟩
 rw[C] at L hp⊢;have en:(n:Int).toNat=n:=Int.toNat_natCast n;rw[en];have D:av (cU k s):=p;generalize pc (k.ld a)=q at L;have key:∀kd:Int,(kd=1\/kd=2)->pk (k.ld a)=kd->Calls prog 170 #[aj c.pk,ah a] w fun e w'=>∃b,e=.returned (.tuple #[])/\(eH c k).J b (k.e3 s a n) w'/\b_ F w b w':=by
  intro kd E G;rw[G] at L;rcases E with rfl|rfl
  all_goals
   go_enter func170,ntmps170;go_wp2_with fail;refine L.mono ?_;rintro e w1 ⟨rfl,g⟩
   have H:av ((eH c k).J F (k.e3 s a 0) w1/\b_ F w F w1):=⟨(eH c k).below u.o g,b_.of g⟩
   go_wp2_with fail
   go_loopw [26] (fun iv wr=>∃(i:Nat)(b:Nat->Prop),i<=n/\iv=ah i/\av ((eH c k).J b (k.e3 s a i) wr/\b_ F w b wr)) (fun iv _=>n-(intOf iv).toNat)
   exact⟨0,F,aS _,rfl,H⟩
   ·
     obtain⟨i,b,hi,rfl,d⟩:=hrel;by_cases O:i<n
     ·obtain⟨vt,v,j⟩:=d.o.1;obtain⟨f,c0,_⟩:=gu j;obtain⟨A,_⟩:=ey j;have P:=jr (a+1+i) wr f;have ex:ld k.a.N k.s.y k.s.g k.s.ws (a+1+i)=k.ld (a+1+i):=rfl;rw[ex] at P;have l:av (k.e3 s a (i+1)=k.ma (k.e3 s a i) (k.ld (a+1+i))):=rfl;have I:=(D.o.e3 a i).1;generalize k.ld (a+1+i)=x at P l;go_wp2_with fail;refine P.mono ?_;rintro e w3 ⟨rfl,m⟩
      have o:=o9 ((eH c k).below d.o.1 m) I x;rw[<-l.o] at o;have J:=hide (d.o.2.below m)
      go_wp2_with fail;refine o.mono ?_;rintro e Q ⟨K,rfl,cz,M⟩
      have N:=dC cz (J.o.trans M)
      go_wp2_with fail;go_roundw;exact⟨i+1,K,V,af,N⟩
      simp[intOf];omega
     ·obtain rfl:i=n:=V;go_wp2_with fail;go_end0;exact⟨b,rfl,d.o.1,d.o.2⟩
 exact key _ hk rfl
theorem FQ (h:(eH c k).J F s w)(p:cU k s)(a:Int)(a0:0<=a)(a1:a<=2000)(hk:pk (k.ld a)=3):
 Calls prog 170 #[aj c.pk,ah a] w fun e w'=>∃d,e=.returned (.tuple #[])/\(eH c k).J d (k.lk s a) w'/\b_ F w d w':=by
 have t:k.lk s a=k.ma s (k.ld (a+2)):=by unfold b8.lk;rw[aE V,aH hk]
 rw[t];obtain⟨x,f⟩:∃x,k.ld (a+2)=x:=⟨_,rfl⟩
 rw[f];have u:av (k.ld (a+2)=x):=f;have v:av ((eH c k).J F s w):=h;obtain⟨vt,A,h⟩:=h;obtain⟨b,c0,_⟩:=gu h;obtain⟨B,_⟩:=ey h;have L:=fY a w b;have C:ld k.a.N k.s.y k.s.g k.s.ws a=k.ld a:=rfl;rw[C,hk] at L;generalize pf (k.ld a)=n at L;generalize pc (k.ld a)=q at L;go_enter func170,ntmps170;go_wp2_with fail;refine L.mono ?_;rintro e w1 ⟨rfl,g⟩
 have i:=(eH c k).below v.o g;have j:av ((eH c k).J F s w1/\b_ F w F w1):=⟨i,b_.of g⟩
 obtain⟨vt,A,l⟩:=i;obtain⟨b,c0,_⟩:=gu l;obtain⟨B,_⟩:=ey l;have P:=jr (a+2) w1 b;have ex:ld k.a.N k.s.y k.s.g k.s.ws (a+2)=k.ld (a+2):=rfl;rw[ex,u.o] at P;go_wp2_with fail;refine P.mono ?_;rintro e w3 ⟨rfl,m⟩
 have D:=o9 ((eH c k).below j.o.1 m) p x;have E:=hide (j.o.2.below m)
 go_wp2_with fail;refine D.mono ?_;rintro e I ⟨G,rfl,cz,H⟩
 have o:=dC cz (E.o.trans H)
 go_wp2_with fail;go_end0;exact⟨G,rfl,o.o.1,o.o.2⟩
theorem FR (h:(eH c k).J F s w)(a:Int)(ab:s.ep.length<=10000)(hk:pk (k.ld a)=4):
 Calls prog 170 #[aj c.pk,ah a] w fun e w'=>∃d,e=.returned (.tuple #[])/\(eH c k).J d (k.lk s a) w'/\b_ F w d w':=by
 have B:k.lk s a={s with ep:=s.ep++[a]}:=by unfold b8.lk;rw[aE V,aE V,aH hk]
 rw[B];obtain⟨C,hi,D,E,G⟩:=info_parts jQ;have H:av ((eH c k).J F s w):=h;obtain⟨vt,I,h⟩:=h;obtain⟨J,c0,_⟩:=gu h;obtain⟨ad,_⟩:=ey h;have L:=fY a w J;have K:ld k.a.N k.s.y k.s.g k.s.ws a=k.ld a:=rfl;rw[K,hk] at L;generalize pf (k.ld a)=n at L;generalize pc (k.ld a)=q at L;go_enter func170,ntmps170;go_wp2_with fail;refine L.mono ?_;rintro e w1 ⟨rfl,i⟩
 obtain⟨vt,I,g⟩:=(eH c k).below H.o i;obtain⟨_,_,_,_,_,_,M,N,lk⟩:=ey g;obtain⟨_,er,_,O,_⟩:=mR g;obtain⟨m,o,P⟩:=dQ er;subst P;have Q:=N 6;have p:av ((cS c k vt (.slice m s.ep.length o)).J F s w1/\b_ F w F w1):=⟨g,b_.of i⟩
 go_wp2_with (at_builtin;refine wpList_append_own_at _ rfl _ _ 96 rfl 0 3 C (ah 0) 1 8 underlying96 hi D E G rfl aa (.slice m s.ep.length o) s.ep.length (s.ep.map (Value.int .i64)) rfl (f6 er _) ⟨w1.heap.size,0,none⟩ 1 1 [ah a] rfl rfl ?_ ?_ ?_ ?_ ?_ ?_;(intro j u f;match j,f with|0,f=>(simp at f;subst f;simp[Addr.add]));(intro u t;simp at t;subst t;rfl);(unfold maxLen;omega);(first|omega|simp);(first|omega|(simp;done)|(simp;omega));intro ag ai v x _ R;obtain⟨b4,S,U⟩:=dW v (Nat.succ_pos _);subst U;have A:=(x.block c.pk (by simp;omega) O).trans (a4 _ _ _ lk);have al:=(aU (a:=⟨c.pk,6,none⟩) A).trans M;have ap:=(World.frozen?_of_block (a:=⟨c.pk,6,none⟩) A).trans Q)
 go_end0;obtain⟨d,W,X⟩:=FO p.o.1 (((Fr.refl _ w1).alloc _).grown x (fun b e=>aJ e.symm)) (v1:=.slice (ak b4) (s.ep.length+1) S) (l:=s.ep++[a]) (by simpa using v) (fun b e=>by
  have Y:=R.imp id (fun e=>by simpa[Value.ownBlock] using e)
  simp[Value.ownBlock] at e;subst e;exact Y.imp id (fun e=>by omega))
 exact⟨d,rfl,⟨_,_,W⟩,p.o.2.trans X⟩
theorem FS (h:(eH c k).J F s w)(a:Int)(k1:pk (k.ld a)≠1)(n:pk (k.ld a)≠2)(g:pk (k.ld a)≠3)(i:pk (k.ld a)≠4):
 Calls prog 170 #[aj c.pk,ah a] w fun e w'=>∃b,e=.returned (.tuple #[])/\(eH c k).J b (k.lk s a) w'/\b_ F w b w':=by
 have j:k.lk s a=s:=by unfold b8.lk;rw[aE V,aE g,aE i]
 rw[j];have l:av ((eH c k).J F s w):=h;obtain⟨vt,o,h⟩:=h;obtain⟨m,c0,_⟩:=gu h;obtain⟨p,_⟩:=ey h;have L:=fY a w m;have q:ld k.a.N k.s.y k.s.g k.s.ws a=k.ld a:=rfl;go_enter func170,ntmps170;go_wp2_with fail;refine L.mono ?_;rintro e w1 ⟨rfl,d⟩
 have f:av ((eH c k).J F s w1/\b_ F w F w1):=⟨(eH c k).below l.o d,b_.of d⟩
 go_wp2_with fail;go_end0;exact⟨F,rfl,f.o.1,f.o.2⟩
theorem FT (h:(eH c k).J F s w)(b:cU k s)(a:Int)(a0:0<=a)(a1:a<=2000)(i:s.ep.length<=10000):
 Calls prog 170 #[aj c.pk,ah a] w fun e w'=>∃d,e=.returned (.tuple #[])/\(eH c k).J d (k.lk s a) w'/\b_ F w d w':=by
 by_cases k1:pk (k.ld a)=1\/pk (k.ld a)=2
 ·exact FP h b a a0 a1 k1
 by_cases f:pk (k.ld a)=3
 ·exact FQ h b a a0 a1 f
 by_cases g:pk (k.ld a)=4
 ·exact FR h a i g
 exact FS h a (fun e=>k1 (aJ e)) (fun e=>k1 (aI e)) f g
end
section
variable {c:e4}{k:b8}{F:Nat->Prop}{s:ct}{w:au}
theorem FU (h:(eH c k).J F s w)(N:cU k s):
 Calls prog 110 #[aj c.pk] w fun e w'=>∃u,e=.returned (.tuple #[])/\(eH c k).J u (k.lm (k.lost s+s.td.length+1) s) w'/\b_ F w u w':=by
 have v:=dC h N;obtain⟨g,A⟩:∃g,k.lm (k.lost s+s.td.length+1) s=g:=⟨_,rfl⟩
 rw[A];have O:=hide A;obtain⟨vt,Q,h⟩:=h;obtain⟨_,_,_,_,_,B,_⟩:=ey h;obtain⟨tr,_⟩:=mR h;obtain⟨aB,C,q⟩:=dQ tr;subst q;go_enter func110,ntmps110;go_wp2_with fail
 go_loopg [2] (k.lost s+s.td.length) (fun m nv wr=>∃(s1:ct)(i:Nat->Prop),nv=ah s1.td.length/\av ((eH c k).J i s1 wr/\cU k s1/\b_ F w i wr)/\av (k.lost s1+s1.td.length<=m/\k.lm (m+1) s1=g))
 exact⟨s,F,rfl,⟨v.o.1,v.o.2,b_.refl _ _⟩,⟨aA _,O.o⟩⟩
 ·
   obtain⟨s1,i,rfl,d,j⟩:=hrel;by_cases f:0<s1.td.length
   ·obtain⟨vt,Q,o⟩:=d.o.1;obtain⟨_,_,_,_,_,B,_,D,lk⟩:=ey o;obtain⟨tr,_,aF,_⟩:=mR o;obtain⟨b,C,q⟩:=dW tr f;subst q;have R:=vE tr;have aR:maxLen<=9223372036854775807:=by unfold maxLen;omega
    have S:wr.cell? (am b (s1.td.length-1))=some (ah (s1.td.getD (s1.td.length-1) 0)):=by obtain⟨aT,aV,e,_,hc⟩:=gO tr f;cases e;have:=hc (s1.td.length-1) V;rwa [bF] at this
    have a0:=D 5;have hm:s1.td.getD (s1.td.length-1) 0∈s1.td:=by exact tF
    have E:=d.o.2.1.ps _ (d.o.2.1.td _ hm)
    have U:=d.o.2.1.sum;have a1:=d.o.2.1.tl;obtain⟨a2,G,H⟩:=yV o (Fr.refl _ wr) (v1:=.slice (ak b) (s1.td.length-1) C) (l:=s1.td.take (s1.td.length-1)) (by have:=vD tr (s1.td.length-1) V;rw[List.map_take,show(s1.td.take (s1.td.length-1)).length=s1.td.length-1 by rw[bf];omega];exact this) (fun b e=>aJ e)
    have I:cU k {s1 with td:=s1.td.take (s1.td.length-1)}:=⟨d.o.2.1.nd,d.o.2.1.ps,fun x W=>d.o.2.1.td x (bE W),d.o.2.1.ep,d.o.2.1.tl,by show k.lost s1+(s1.td.take (s1.td.length-1)).length+s1.ep.length<=_;rw[bf];omega⟩
    have t:=FT ⟨_,_,G⟩ I (s1.td.getD (s1.td.length-1) 0) E.1 E.2 (by show s1.ep.length<=10000;omega)
    have X:av (k.lk {s1 with td:=s1.td.take (s1.td.length-1)} (s1.td.getD (s1.td.length-1) 0)=k.l1 s1):=rfl;rw[X.o] at t;have J:=hide (d.o.2.1.l1 f)
    have Y:av (k.lm (gk+1) s1=k.lm gk (k.l1 s1)):=by show _=_;rw[b8.lm,aH f]
    have K:=hide (d.o.2.2.trans H)
    obtain⟨n,L⟩:∃n,s1.td.length=n+1:=⟨s1.td.length-1,V⟩
    rw[L] at B R⊢;rw[L,Nat.add_sub_cancel] at S t K;generalize s1.td.getD n 0=x at*;generalize k.l1 s1=p at*;have a3:n<=4000:=V;clear o G H I tr hm U D d;go_wp2_with fail;refine t.mono ?_;rintro e bb ⟨ab,rfl,cz,ad⟩
    have ag:=ir cz J.o.1 (K.o.trans ad)
    obtain⟨bd,be,M⟩:=cz;obtain⟨_,_,_,_,_,bg,_⟩:=ey M;obtain⟨ai,_⟩:=mR M;obtain⟨bi,bl,al⟩:=dQ ai;subst al;have hg:1<=gk:=by have:=j.o.1;omega
    have ap:av (k.lost p+p.td.length<=gk-1/\k.lm (gk-1+1) p=g):=⟨by have:=j.o.1;have:=J.o.2;omega,by rw[Nat.sub_add_cancel hg,<-Y.o];exact j.o.2⟩
    go_wp2_with fail
    go_roundg (gk-1)
    case measure=>omega
    exact⟨p,ab,rfl,ag,ap⟩
   ·have ar:s1.td=[]:=by
     cases ht:s1.td with
     |nil=>rfl
     |cons x l=>rw[ht] at f;simp at f
    have ax:g=s1:=by rw[<-j.o.2];unfold b8.lm;rw[aE f]
    subst ax;rw[ar];go_wp2_with fail;go_end0;exact⟨i,rfl,d.o.1,d.o.2.2⟩
end
section
variable {c:e4}{k:b8}{F:Nat->Prop}{s:ct}{w:au}
theorem FV (h:(eH c k).J F s w)(B:cU k s):
 Calls prog 111 #[aj c.pk] w fun e w'=>∃bb,e=.returned (.bool (k.kv s).1)/\(eH c k).J bb (k.kv s).2 w'/\b_ F w bb w':=by
 obtain⟨b5,hi,b6,b7,b9⟩:=info_parts jQ;obtain⟨vt,cl,h⟩:=h;obtain⟨_,_,_,_,_,_,ca,_⟩:=ey h;obtain⟨_,er,_⟩:=mR h;obtain⟨bd,f,cb⟩:=dQ er;subst cb;have ab:av (cU k s):=B;have be:av ((i3 c k (.slice bd s.ep.length f)).J F s w):=⟨vt,h⟩
 have cm:s.ep.length<=4000:=by have:=B.sum;have:=B.tl;omega
 have cc:av (∀a∈s.ep,0<=a/\a<=2000):=fun a ha=>B.ps a (B.ep a ha)
 have bg:av (k.kv s=(decide ((k.dx s s.ep).1.length<s.ep.length),{(k.dx s s.ep).2 with ep:=(k.dx s s.ep).1})):=rfl;clear B h er;go_enter func111,ntmps111;go_wp2_with fail
 go_loopw [3,12] (fun vr iv wr=>∃(j:Nat)(R:List Int)(s1:ct)(ar:Option Addr)(g:Nat)(d:Nat->Prop),j<=s.ep.length/\iv=ah j/\av (k.dx s (s.ep.take j)=(R,s1))/\vr=.slice ar R.length g/\wr.ownsRow w.heap.size 3 1 (.slice ar R.length g) R.length (R.map (Value.int .i64))/\(i3 c k (.slice bd s.ep.length f)).J d s1 wr/\b_ F w d wr/\av (∀b,some b=(Value.slice ar R.length g).ownBlock->¬d b)/\av (cU k s1/\s1.ep=s.ep)) (fun _ iv _=>s.ep.length-(intOf iv).toNat)
 case atStart=>exact⟨0,[],s,none,0,F,aS _,rfl,rfl,rfl,a7 _ _ _ _,be.o,b_.refl _ _,fun b e=>by simp[Value.ownBlock] at e,⟨ab.o,rfl⟩⟩
 case round=>
  obtain⟨j,R,s1,ar,g,d,D,rfl,E,rfl,q,bi,v,C,G⟩:=hrel;clear be ca;have cn:R.length<=10000:=by have H:=(cU.ik (s.ep.take j) (t:=([],s)) ab.o (fun a ha=>ab.o.ep a (bE ha)) (fun b hb=>by cases hb)).2.1;have bl:=E.o;unfold b8.dx at bl;rw[bl] at H;simp at H;omega
  by_cases N:j<s.ep.length
  ·obtain⟨bn,i⟩:=bi;obtain⟨_,ad,_⟩:=mR i;rw[G.o.2] at ad;obtain⟨m,n,cd,co,hc⟩:=gO ad V;have ag:=hc j N;subst cd;have bo:s.ep.getD j 0∈s.ep:=by rw[aC,aG N];exact a6 N
   have cf:=cc.o _ bo;have ai:av (k.dx s (s.ep.take (j+1))=k.cO (R,s1) (s.ep.getD j 0)):=by
    show _=_;rw[fz s.ep j N 0];unfold b8.dx;rw[List.foldl_append];have:=E.o;unfold b8.dx at this
    rw[this];rfl
   generalize s.ep.getD j 0=a at ag cf ai;obtain⟨O,_⟩:=ey i;obtain⟨I,Q,_⟩:=gu i;have L:=jr (a+1) wr I;have J:ld k.a.N k.s.y k.s.g k.s.ws (a+1)=k.ld (a+1):=rfl;rw[J] at L;have A:av ((i3 c k (.slice (some ⟨m,n,none⟩) s.ep.length f)).J d s1 wr/\b_ F w d wr):=⟨⟨bn,i⟩,v⟩
   have cp:=v.fr.size;have bp:av (∀b,some b=(Value.slice ar R.length g).ownBlock->b<wr.heap.size):=fun b e=>(ce q b e).2;have j0:(0:Int)<=(j:Int):=V;have cq:(j:Int)<(s.ep.length:Int):=V;clear hc bo i v I J ad;cases hls:k.cQ s1 (k.ld (a+1))
   ·have S:av (k.dx s (s.ep.take (j+1))=(R,k.ma s1 (k.ld (a+2)))):=by show _=_;rw[ai.o];unfold b8.cO;rw[hls];rfl
    generalize k.ld (a+1)=x at L hls;go_wp2_with fail;refine L.mono ?_;clear L;rintro e w1 ⟨rfl,o⟩
    obtain⟨cg,p⟩:=(i3 c k (.slice (some ⟨m,n,none⟩) s.ep.length f)).below A.o.1 o;have P:=o8 p x;rw[hls] at P;clear ag O Q p;go_wp2_with fail;refine P.mono ?_;clear P;rintro e K ⟨rfl,M⟩
    have hb:=o.trans (M.mono o.size)
    obtain⟨ch,U⟩:=(i3 c k (.slice (some ⟨m,n,none⟩) s.ep.length f)).below A.o.1 hb;obtain⟨O,_⟩:=ey U;obtain⟨I,Q,_⟩:=gu U;have W:=jr (a+2) K I;have J:ld k.a.N k.s.y k.s.g k.s.ws (a+2)=k.ld (a+2):=rfl;rw[J] at W;have ci:av (k.ld (a+2)=k.ld (a+2)):=rfl;generalize k.ld (a+2)=y at W S;have al:av ((i3 c k (.slice (some ⟨m,n,none⟩) s.ep.length f)).J d s1 K/\Below wr.heap.size wr K):=⟨⟨ch,U⟩,hb⟩
    clear o M U I J hb ci;go_wp2_with fail;refine W.mono ?_;clear W;rintro e w3 ⟨rfl,ap⟩
    have br:=yZ ((i3 c k (.slice (some ⟨m,n,none⟩) s.ep.length f)).below al.o.1 ap) G.o.1 y;have bs:av (b_ d wr d w3):=(b_.of al.o.2).below ap;clear ap O Q al;go_wp2_with fail;refine br.mono ?_;clear br;rintro e ax ⟨bt,rfl,aB,X⟩
    have Y:=bs.o.trans X;have aF:=G.o.1.ma y;have aR:=ir (A.o.2.trans Y) aF.1 (aF.2.2.trans G.o.2)
    have aT:=gH q Y.fr (fun b e=>C.o b e)
    have aV:av (∀b,some b=(Value.slice ar R.length g).ownBlock->¬bt b):=fun b e bx=>(Y.sub b bx).elim (C.o b e) (fun bx=>by have:=bp.o b e;omega)
    clear X Y aF q bs C;go_wp2_with fail;go_roundw;exact⟨j+1,R,_,ar,g,bt,V,af,S,rfl,aT,aB,aR.o.1,aV,⟨aR.o.2.1,aR.o.2.2⟩⟩
    simp[intOf];omega
   ·have S:av (k.dx s (s.ep.take (j+1))=(R++[a],s1)):=by show _=_;rw[ai.o];unfold b8.cO;rw[aH hls]
    generalize k.ld (a+1)=x at L hls;go_wp2_with fail;refine L.mono ?_;clear L;rintro e w1 ⟨rfl,o⟩
    obtain⟨cg,p⟩:=(i3 c k (.slice (some ⟨m,n,none⟩) s.ep.length f)).below A.o.1 o;have P:=o8 p x;rw[hls] at P;clear ag O Q p;go_wp2_with fail;refine P.mono ?_;clear P;rintro e K ⟨rfl,M⟩
    have hb:=o.trans (M.mono o.size)
    have a0:=cv q (fun b e=>hb.block b (bp.o b e))
    have cr:=hb.size;clear o M;go_wp2_with (at_builtin;refine wpList_append_own_at _ rfl _ _ 96 rfl w.heap.size 3 b5 (ah 0) 1 8 underlying96 hi b6 b7 b9 rfl aa (.slice ar R.length g) R.length (R.map (Value.int .i64)) rfl (f6 a0 _) ⟨K.heap.size,0,none⟩ 1 1 [ah a] rfl rfl ?_ ?_ ?_ ?_ ?_ ?_;(intro j u D;match j,D with|0,D=>(simp at D;subst D;simp[Addr.add]));(intro u bY;simp at bY;subst bY;rfl);(unfold maxLen;omega);omega;(simp;omega);intro cs ax a1 a2 _ bZ;obtain⟨b4,a3,cj⟩:=dW a1 (Nat.succ_pos _);subst cj)
    have aT:ax.ownsRow w.heap.size 3 1 (.slice (ak b4) (R++[a]).length a3) (R++[a]).length ((R++[a]).map (Value.int .i64)):=by simpa using a1
    have p:=(i3 c k (.slice (some ⟨m,n,none⟩) s.ep.length f)).below A.o.1 hb;have aB:=pQ (i3 c k (.slice (some ⟨m,n,none⟩) s.ep.length f)) p a2 (fun b e=>C.o b e)
    have X:b_ F w d ax:=⟨((A.o.2.below hb).fr.alloc _).grown a2 (fun b e=>aI (ce a0 b e.symm).1),A.o.2.sub⟩
    have aV:av (∀b,some b=(Value.slice (ak b4) (R++[a]).length a3).ownBlock->¬d b):=fun b e b0=>by
     have ck:=bZ.imp id (fun e=>by simpa[Value.ownBlock] using e)
     simp[Value.ownBlock] at e;subst e;rcases ck with e|e
     ·exact C.o _ e b0
     ·have:=(i3 c k (.slice (some ⟨m,n,none⟩) s.ep.length f)).lt p _ b0;omega
    clear p a1 a2 bZ a0 q hb;go_wp2_with fail;go_roundw;exact⟨j+1,R++[a],s1,ak b4,a3,d,V,af,S,Z,aT,aB,X,aV,G⟩
    simp[intOf];omega
  ·obtain rfl:j=s.ep.length:=V;rw[a_] at E;obtain⟨bn,i⟩:=bi;obtain⟨_,_,_,_,_,_,cu,b1,lk⟩:=ey i;have cw:=b1 6;obtain⟨b2,b3⟩:=yW i (v1:=.slice ar R.length g) (l:=R) (Fr.refl _ wr) (d7 q (fun _ _=>aS _)) (fun b e=>aI (C.o b e))
   have oY:=dC b2 (v.fr.trans b3 v.sub)
   have yq:av (∀b,some b=(Value.slice ar R.length g).ownBlock->w.heap.size<=b):=fun b e=>(ce q b e).1;have yp:=hide v.sub;have E2:av ((k.kv s).1=decide (R.length<s.ep.length)/\(k.kv s).2={s1 with ep:=R}):=by have H:=bg.o;rw[E.o] at H;rw[H];exact⟨rfl,rfl⟩
   clear b2 b3 i v q E bg b1;by_cases hll:R.length<s.ep.length
   ·go_wp2_with fail;exact qv
   ·go_wp2_with fail;exact qv
end
def dN (c:e4)(k:b8):dP ct:=yJ (eH c k) (fun s=>cU k s)
abbrev dl (c:e4):Obj:=.cells #[aj c.pk] 112 (0,0)
abbrev j6 (c:e4):fH:=⟨109,#[aj c.pk],#[]⟩
abbrev lT (c:e4):fH:=⟨55,#[aj c.pk],#[]⟩
abbrev jj (fv:fH):Obj:=.cells #[fv.v] 122 (0,0)
abbrev iK (bx:Nat):fH:=⟨120,#[],#[aj bx]⟩
abbrev hI (b:Nat):fH:=⟨122,#[],#[aj b]⟩
abbrev i4 (c:e4):fH:=⟨123,#[aj c.pk],#[]⟩
theorem tM:d3 120:=gP func120 ae rfl
theorem tN:d3 122:=gP func122 ae rfl
theorem tO:d3 123:=gP func123 ae rfl
section
variable {c:e4}{k:b8}{F:Nat->Prop}{s:ct}{w:au}
theorem tP (fv:fH)(w:au)(p:Nat):
 Calls prog 54 #[aj p,fv.v] w fun e w'=>e=.returned (.agg #[(iK w.heap.size).v,(hI (w.heap.size+1)).v,.func (.func 123) #[aj p] #[]])/\w'.heap[w.heap.size]?=some (.cells #[aj p] 112 (0,0))/\w'.heap[w.heap.size+1]?=some (jj fv)/\Below w.heap.size w w':=by
 obtain⟨f,b,c⟩:=fv;go_enter func54,ntmps54;go_wp2_with fail;refine bv (v:=.agg #[(iK w.heap.size).v,(hI (w.heap.size+1)).v,.func (.func 123) #[aj p] #[]]) (by simp[results,results54,go_sem]) rfl ⟨rfl,?_,?_,(((aD _ w).alloc bW _).alloc Z _).alloc (by simp;omega) _⟩
 ·rw[a4 _ _ _ (by simp;omega),a4 _ _ _ Z];exact aL _ _
 ·rw[a4 _ _ _ Z];have:=aL (w.alloc (.cells #[.pointer (some ⟨p,0,none⟩)] 112)) (.cells #[.func (.func f) b c] 122)
  simpa using this
theorem tT:lM (dN c k) (fun _=>True) (i4 c).f (i4 c).b (i4 c).c k.nw:=by
 rintro F s w x _ ⟨⟨vt,b,h⟩,_⟩
 exact yY h x
def b8.mp (k:b8)(s:ct)(x:Int):Int×ct:=(x,k.ma s x)
theorem y3 (f:Nat):oK (dd (dN c k) f (jj (j6 c))) (fun _=>True) (hI f).f (hI f).b (hI f).c k.mp:=by
 rintro F s w x _ ⟨v,⟨h,j⟩,l,o,p⟩
 have P:=o9 h j x;have c0:w.cell? (am f 0)=some (j6 c).v:=ay l
 have u:=hide (j.ma x).1;have g:=ir l o p;clear h j l o p;show Calls prog 122 #[ah x,aj f] w _;go_enter func122,ntmps122;go_wp2_with fail;refine P.mono ?_;clear P;rintro e w1 ⟨m,rfl,q,i⟩
 have t:=(i.fr.block f (lt_of_some g.o.1) g.o.2.1).trans g.o.1;have n:av ((dd (dN c k) f (jj (j6 c))).J (fun b=>m b\/b=f) (k.ma s x) w1/\Fr F w w1/\∀b,(m b\/b=f)->F b\/w.heap.size<=b):=by
  refine⟨⟨m,⟨q,u.o⟩,t,fun d=>(i.sub _ d).elim g.o.2.1 (fun d=>by have:=lt_of_some g.o.1;omega),fun b=>Iff.rfl⟩,i.fr.mono (fun b d=>(g.o.2.2 b).2 (aJ d)),fun b d=>?_⟩
  rcases d with d|d
  ·exact(i.sub b d).imp (fun d=>(g.o.2.2 b).2 (aJ d)) id
  ·exact aJ ((g.o.2.2 b).2 (aI d))
 clear q i t;go_wp2_with fail;go_ret;exact⟨_,rfl,n.o.1,n.o.2.1,n.o.2.2⟩
end
def b8.eI (k:b8)(s:ct):ct:=k.lm (k.lost s+s.td.length+1) s
def b8.wa (k:b8)(t:ct×List bZ):(ct×List bZ)×Bool:=gC k.al k.mp t t.2.length
def b8.ph (k:b8)(s:ct):Nat:=k.lost s+s.td.length+s.ep.length
def b8.mu (k:b8)(s:ct):Nat:=k.lost s+k.ph s
def b8.cV (k:b8):Nat->ct×List bZ->ct×List bZ
 |0,t=>t
 |n+1,t=>
  if(k.kv (k.eI t.1)).1=true then k.cV n ((k.kv (k.eI t.1)).2,t.2)
  else if(k.wa ((k.kv (k.eI t.1)).2,t.2)).2=true then k.cV n (k.wa ((k.kv (k.eI t.1)).2,t.2)).1
  else(k.wa ((k.kv (k.eI t.1)).2,t.2)).1
def b8.sp (k:b8)(t:ct×List bZ):ct×List bZ:=k.cV (k.mu t.1+1) t
def b8.ke (k:b8)(t:ct×List bZ)(x:Int):Int×(ct×List bZ):=(x,k.sp (k.ma t.1 x,t.2))
structure du (k:b8)(s t:ct):Prop where
 eS:cU k t
 lo:k.lost t<=k.lost s
 ph:k.ph t<=k.ph s
section
variable {k:b8}{s t u:ct}
theorem du.refl (h:cU k s):du k s s:=⟨h,aA _,aA _⟩
theorem du.trans (h:du k s t)(j:du k t u):du k s u:=⟨j.eS,aP j.lo h.lo,aP j.ph h.ph⟩
theorem du.mu (h:du k s t):k.mu t<=k.mu s:=by have b:=h.lo;have c:=h.ph;unfold b8.mu;omega
theorem y4 (h:cU k s)(x:Int):k.cQ s x=true->k.lost (k.ma s x)<k.lost s:=fun c=>by
 have:=b8.yU h.nd c (fun a ha=>(h.ps a ha).1)
 omega
theorem du.ma (h:cU k s)(x:Int):du k s (k.ma s x):=by
 obtain⟨b,f,d⟩:=h.ma x;refine⟨b,?_,?_⟩
 ·by_cases c:k.cQ s x=true
  ·exact Nat.le_of_lt (y4 h x c)
  ·have e:k.ma s x=s:=by unfold b8.ma;rw[aE c]
   rw[e];exact aA _
 ·unfold b8.ph;rw[d];omega
theorem du.e3 (h:cU k s)(a:Int):∀n,du k s (k.e3 s a n)
 |0=>du.refl h
 |n+1=>(du.e3 h a n).trans (du.ma (du.e3 h a n).eS _)
theorem FX (h:cU k s)(a:Int):k.lost (k.lk s a)<=k.lost s:=by
 unfold b8.lk;split
 ·exact(du.e3 h a _).lo
 ·split
  ·exact(du.ma h _).lo
  ·split
   ·exact aA _
   ·exact aA _
theorem du.l1 (h:cU k s)(hl:0<s.td.length):du k s (k.l1 s):=by
 obtain⟨c,d⟩:=h.l1 hl;have hm:s.td.getD (s.td.length-1) 0∈s.td:=by exact tF
 have hs:=h.sum;have e:(s.td.take (s.td.length-1)).length=s.td.length-1:=by rw[bf];omega
 have h0:cU k {s with td:=s.td.take (s.td.length-1)}:=⟨h.nd,h.ps,fun a ha=>h.td a (bE ha),h.ep,h.tl,by show k.lost s+(s.td.take _).length+s.ep.length<=_;omega⟩
 have b:=(h0.lk (h.td _ hm) (by show k.lost s+(s.td.take _).length+s.ep.length+1<=_;omega)).2.2;have b:(k.l1 s).ep.length<=s.ep.length+1:=b;refine⟨c,(FX h0 _),?_⟩
 unfold b8.ph;omega
theorem du.lm:∀(n:Nat){s:ct},cU k s->du k s (k.lm n s)
 |0,s,h=>du.refl h
 |n+1,s,h=>by
  unfold b8.lm;by_cases c:0<s.td.length
  ·rw[aH c];exact(du.l1 h c).trans (du.lm n (du.l1 h c).eS)
  ·rw[aE c];exact du.refl h
theorem du.eI (h:cU k s):du k s (k.eI s):=du.lm _ h
theorem FY (h:cU k s):(k.eI s).td=[]:=(cU.lm _ h).2.1 V
theorem du.ik:∀(l:List Int){t:List Int×ct},cU k t.2->du k t.2 (l.foldl k.cO t).2
 |[],t,h=>du.refl h
 |a::l,t,h=>by
  have b:du k t.2 (k.cO t a).2:=by
   unfold b8.cO;split
   ·exact du.refl h
   ·exact du.ma h _
  exact b.trans (du.ik l b.eS)
theorem du.kv (h:cU k s):du k s (k.kv s).2/\((k.kv s).1=true->k.mu (k.kv s).2<k.mu s):=by
 obtain⟨b,f,g,c⟩:=h.kv;have d:k.lost (k.kv s).2<=k.lost s:=(du.ik s.ep h).lo;refine⟨⟨b,d,by unfold b8.ph;omega⟩,fun e=>?_⟩
 have:=c e;unfold b8.mu b8.ph;omega
theorem y5:∀(l:List Nat)(t:(ct×List bZ)×Bool),cU k t.1.1->du k t.1.1 (l.foldl (dB k.al k.mp) t).1.1/\(l.foldl (dB k.al k.mp) t).1.2.length=t.1.2.length/\((l.foldl (dB k.al k.mp) t).2=true->t.2=true\/k.lost (l.foldl (dB k.al k.mp) t).1.1<k.lost t.1.1)
 |[],t,h=>⟨du.refl h,rfl,fun e=>aJ e⟩
 |i::l,t,h=>by
  have key:du k t.1.1 (dB k.al k.mp t i).1.1/\(dB k.al k.mp t i).1.2.length=t.1.2.length/\((dB k.al k.mp t i).2=true->t.2=true\/k.lost (dB k.al k.mp t i).1.1<k.lost t.1.1):=by
   unfold dB;split
   ·exact⟨du.refl h,rfl,fun e=>aJ e⟩
   ·rename_i c;refine⟨du.ma h _,Z,fun _=>aI (y4 h _ ?_)⟩
    rw[Bool.or_eq_true] at c;cases hj:k.cQ t.1.1 _
    ·exact absurd (aJ (by unfold b8.al;rw[hj];rfl)) c
    ·rfl
  obtain⟨k1,f,g⟩:=key;obtain⟨d,j2,cy⟩:=y5 l _ k1.eS;refine⟨k1.trans d,j2.trans f,fun e=>?_⟩
  rcases cy e with b|b
  ·rcases g b with b|b
   ·exact aJ b
   ·exact aI (Nat.lt_of_le_of_lt d.lo b)
  ·exact aI (aM b k1.lo)
theorem du.wa {t:ct×List bZ}(h:cU k t.1):du k t.1 (k.wa t).1.1/\(k.wa t).1.2.length=t.2.length/\((k.wa t).2=true->k.mu (k.wa t).1.1<k.mu t.1):=by
 obtain⟨b,c,d⟩:=y5 _ (t,false) h;have b:du k t.1 (k.wa t).1.1:=b;refine⟨b,c,fun e=>?_⟩
 have f:k.lost (k.wa t).1.1<k.lost t.1:=(d e).resolve_left Z;have g:=b.ph;unfold b8.mu;omega
end
section
variable {c:e4}{k:b8}{F:Nat->Prop}{s:ct}{w:au}{vr:Value}
theorem tU (bx b:Nat)(fv:fH):ks (dd (dd (dN c k) b (jj fv)) bx (dl c)) (fun _=>True) (iK bx).f (iK bx).b (iK bx).c k.al:=by
 rintro F s w x _ ⟨f,⟨g,⟨⟨vt,i,h⟩,_⟩,_⟩,d,_⟩
 have P:=o8 h x;have c0:w.cell? (am bx 0)=some (aj c.pk):=ay d
 have E:k.al s x=!k.cQ s x:=rfl;go_enter func120,ntmps120;go_wp2_with fail;refine P.mono ?_;rintro e w1 ⟨rfl,hb1⟩
 exact lB
theorem FZ {i:Option Addr}{nr j:Nat}(l:vr=.slice i nr j){t:ct×List bZ}(h:(c9 (dN c k) c.bs vr).J F t w)(hq:t.2.length<=90000)(bx f:Nat)(m:w.heap[bx]?=some (dl c))(hy:w.heap[f]?=some (jj (j6 c)))(n:¬F bx)(hm:¬F f)(o:bx≠f):
 Calls prog 112 #[aj c.bs,.agg #[(iK bx).v,(hI f).v,(i4 c).v]] w fun e w'=>∃g,e=.returned (.bool (k.wa t).2)/\(c9 (dN c k) c.bs vr).J g (k.wa t).1 w'/\Fr (fun b=>F b\/b=f\/b=bx) w w'/\(∀b,g b->F b\/b=f\/b=bx\/w.heap.size<=b):=by
 refine(yl _ (yI _ _ _) (fun _=>True) (iK bx) (hI f) (i4 c) _ _ _ (tt _ c.bs vr (fun _=>True) (iK bx) (hI f) (i4 c) k.al k.mp k.nw tM tN tO (tU bx f (j6 c)) (tH (y3 f)) (lS (lS tT))) i nr j l _ t w hq (fun _ _=>⟨trivial,trivial⟩) (jW (jW h hy hm) m (fun d=>d.elim n o))).mono ?_;rintro e w' ⟨g,rfl,p,q,hs⟩
 refine⟨g,rfl,tG (tG p),q.mono (fun b d=>?_),fun b s=>?_⟩
 ·rcases d with(d|d)|d
  ·exact aJ d
  ·exact aI (aJ d)
  ·exact aI (aI d)
 ·rcases hs b s with((d|d)|d)|d
  ·exact aJ d
  ·exact aI (aJ d)
  ·exact aI (aI (aJ d))
  ·exact aI (aI (aI d))
theorem y6 {aF:Option Addr}{nr aR:Nat}(aT:vr=.slice aF nr aR){t:ct×List bZ}(h:(c9 (dN c k) c.bs vr).J F t w)(hq:t.2.length<=90000):
 Calls prog 52 #[aj c.pk] w fun e w'=>∃U,e=.returned (.tuple #[])/\(c9 (dN c k) c.bs vr).J U (k.sp t) w'/\b_ F w U w':=by
 have aV:∀(W:Fn)(first X:Array Value)(w:au),(Instr.makeFunc W first X).run prog w=.ok (.func W first X) w:=fun _ _ _ _=>rfl;obtain⟨f,Y⟩:∃f,k.sp t=f:=⟨_,rfl⟩
 rw[Y];have a0:=hide Y;go_enter func52,ntmps52;go_wp2
 go_loopg [2] (k.mu t.1+1) (fun n a1 wr=>∃(E:Nat->Prop)(d:ct×List bZ)(b:Bool),a1=.bool b/\(c9 (dN c k) c.bs vr).J E d wr/\b_ F w E wr/\av (if b=true then k.mu d.1<n/\k.cV n d=f else d=f)/\d.2.length<=90000)
 exact⟨F,t,true,rfl,h,b_.refl _ _,⟨V,a0.o⟩,hq⟩
 ·
   obtain⟨E,d,b,rfl,ab,ad,ag,hq⟩:=hrel;cases b
   ·have x:=hide ag.o;go_wp2;go_end0;rw[<-x.o];exact⟨E,rfl,ab,ad⟩
   ·obtain⟨bx,a2⟩:=ag.o;obtain⟨m,hm⟩:∃m,gk=m+1:=⟨gk-1,V⟩
    obtain⟨bY,K,a3⟩:=nO ab;have B:=FU K.1 K.2;have j0:=du.eI K.2;obtain⟨ai,j2⟩:=du.kv j0.eS;have cy:=(j0.trans ai).mu;have cz:=j0.mu;have bb:k.lm (k.lost d.1+d.1.td.length+1) d.1=k.eI d.1:=rfl;rw[bb] at B;have bd:=hide j0.eS;have j:=ir ad a3 ai.eS;have L:av (_/\((k.kv (k.eI d.1)).1=true->k.mu (k.kv (k.eI d.1)).2<k.mu d.1)/\k.mu d.1<m+1):=⟨cy,fun e=>by have:=j2 e;omega,V⟩
    have x:av (k.cV (m+1) d=f):=by rw[<-hm];exact a2
    have M:=hide hm;go_wp2_with fail;refine B.mono ?_;rintro e w1 ⟨b0,rfl,A,C⟩
    have G:=FV ((eH c k).below A (aD _ w1).drew) bd.o;have C:=C.below (aD _ w1).drew;obtain⟨b1,b2,A⟩:=A;obtain⟨_,_,_,_,be,_⟩:=ey A;cases hkv:(k.kv (k.eI d.1)).1
    ·rw[hkv] at G;have al:av ((if(k.wa ((k.kv (k.eI d.1)).2,d.2)).2=true then k.cV m (k.wa ((k.kv (k.eI d.1)).2,d.2)).1 else(k.wa ((k.kv (k.eI d.1)).2,d.2)).1)=f):=by
      have:=x.o;unfold b8.cV at this
      rw[hkv] at this
      exact this
     have s:=du.wa (t:=((k.kv (k.eI d.1)).2,d.2)) j.o.2.2;have s:av ((k.wa ((k.kv (k.eI d.1)).2,d.2)).1.2.length<=90000/\((k.wa ((k.kv (k.eI d.1)).2,d.2)).2=true->k.mu (k.wa ((k.kv (k.eI d.1)).2,d.2)).1.1<k.mu d.1)):=by refine⟨by rw[s.2.1];exact hq,fun e=>by have:=s.2.2 e;dsimp only at this;omega⟩
     generalize k.eI d.1=s1 at*;generalize (k.kv s1).2=s2 at*;go_wp2
     go_region_held3 (fun w'=>w'.cell? (am c.pk 4)=some (aj c.bs)) (go_keep)
      (first
        |(go_at_call 111;refine G.mono ?_;rintro e l ⟨N,rfl,o,H⟩;obtain⟨ap,hM,I⟩:=j.o.2.1 N s2 l ⟨o,j.o.2.2⟩ (C.trans H);obtain⟨b3,b4,o⟩:=o;obtain⟨_,_,_,_,O,_⟩:=ey o;have l0:=aK l _ O;have g:=dC hM (j.o.1.trans I))
        |(go_at_call 54;refine(tP (j6 c) l c.pk).mono ?_;rintro e w3 ⟨rfl,bg,bi,ar⟩;have bl:=(ar.cell (p:=am c.pk 4) l0).trans O;have u:=ir bg bi ar)
        |(go_at_call 112;refine(FZ aT (t:=(s2,d.2)) ((c9 (dN c k) c.bs vr).below g.o.1 u.o.2.2) hq l.heap.size (l.heap.size+1) u.o.1 u.o.2.1 (fun h=>by have:=(c9 (dN c k) c.bs vr).lt g.o.1 _ h;omega) (fun h=>by have:=(c9 (dN c k) c.bs vr).lt g.o.1 _ h;omega) V).mono ?_;rintro e bn ⟨P,rfl,ax,bo,bp⟩;have J:av (_/\b_ F w P bn):=⟨ax,⟨(g.o.2.below u.o.2.2).fr.trans bo (fun b Q=>Q.elim (g.o.2.sub b) (fun e=>aI (by have:=g.o.2.fr.size;omega))),fun b Q=>(bp b Q).elim (g.o.2.sub b) (fun h=>aI (by have q:=g.o.2.fr.size;have aB:=u.o.2.2.size;omega))⟩⟩;obtain⟨b5,⟨⟨b6,b7,br⟩,_⟩,_⟩:=nO ax;obtain⟨_,_,_,_,bs,_⟩:=ey br))
     clear bs O bl be j g u x aV C;cases hbw:(k.wa (s2,d.2)).2
     ·have D:av (if false=true then k.mu (k.wa (s2,d.2)).1.1<m/\k.cV m (k.wa (s2,d.2)).1=f else(k.wa (s2,d.2)).1=f):=by
       have:=al.o;rw[hbw] at this
       exact this
      go_wp2
      go_roundg m
      case measure=>have:=M.o;omega
      exact⟨P,(k.wa (s2,d.2)).1,false,rfl,J.o.1,J.o.2,D,s.o.1⟩
     ·have D:av (if true=true then k.mu (k.wa (s2,d.2)).1.1<m/\k.cV m (k.wa (s2,d.2)).1=f else(k.wa (s2,d.2)).1=f):=by have q:=al.o;rw[hbw] at q;have aB:=s.o.2 hbw;have bt:=L.o.2.2;exact⟨V,q⟩
      go_wp2
      go_roundg m
      case measure=>have:=M.o;omega
      exact⟨P,(k.wa (s2,d.2)).1,true,rfl,J.o.1,J.o.2,D,s.o.1⟩
    ·rw[hkv] at G;have D:av (if true=true then k.mu (k.kv (k.eI d.1)).2<m/\k.cV m ((k.kv (k.eI d.1)).2,d.2)=f else((k.kv (k.eI d.1)).2,d.2)=f):=by have q:=x.o;unfold b8.cV at q;rw[hkv] at q;have aB:=L.o.2.1 hkv;have bt:=L.o.2.2;exact⟨V,q⟩
     generalize k.eI d.1=s1 at*;generalize (k.kv s1).2=s2 at*;clear A;go_wp2;refine wp_region_noPanic ?_;refine wp_region_any ae ?_;refine qg (T:=fun _=>True) (S:=fun _=>True) (St:=[]) _ _ _ _ ?_;refine et (i:=0) (v:=?_) rfl ae ae ae ae (fun _ _ _ h=>h) (aJ ⟨ac,?_⟩) trivial (aI trivial) ?_
     rotate_left
     ·intro w R;go_simp
      try rfl
     try simp only [Act.put,List.getElem_toArray,List.getElem_cons_zero,List.setIfInBounds_toArray,List.set_cons_zero,List.set_cons_succ]
     refine mK (i:=1) ae ?_;refine xF rfl ac ?_;simp only [List.getElem_toArray,List.getElem_cons_succ,List.getElem_cons_zero];go_simp;refine G.mono ?_;rintro e l ⟨N,rfl,o,H⟩
     obtain⟨ap,hM,I⟩:=j.o.2.1 N s2 l ⟨o,j.o.2.2⟩ (C.trans H)
     have g:=dC hM (j.o.1.trans I)
     clear o H hM I;refine et (i:=2) (v:=?_) rfl ae ae ae ae (fun _ _ _ h=>h) (aJ ⟨ac,?_⟩) trivial (aI trivial) ?_
     rotate_left
     ·intro w R;go_simp
      try rfl
     refine et (i:=3) (v:=undef) rfl ae ae ae ae (fun _ _ _ h=>h) (aI ⟨ac,rfl⟩) trivial (aI trivial) ?_;refine et (i:=4) (v:=undef) rfl ae ae ae ae (fun _ _ _ h=>h) (aI ⟨ac,rfl⟩) trivial (aI trivial) ?_;refine et (i:=5) (v:=undef) rfl ae ae ae ae (fun _ _ _ h=>h) (aI ⟨ac,rfl⟩) trivial (aI trivial) ?_;refine et (i:=6) (v:=undef) rfl ae ae ae ae (fun _ _ _ h=>h) (aI ⟨ac,rfl⟩) trivial (aI trivial) ?_
     try simp only [Act.put,List.getElem_toArray,List.getElem_cons_succ,List.getElem_cons_zero,List.setIfInBounds_toArray,List.set_cons_zero,List.set_cons_succ]
     refine et (i:=7) (v:=undef) rfl ae ae ae ae (fun _ _ _ h=>h) (aI ⟨ac,rfl⟩) trivial (aI trivial) ?_;refine et (i:=8) (v:=undef) rfl ae ae ae ae (fun _ _ _ h=>h) (aI ⟨ac,rfl⟩) trivial (aI trivial) ?_
     try simp only [Act.put,List.getElem_toArray,List.getElem_cons_succ,List.getElem_cons_zero,List.setIfInBounds_toArray,List.set_cons_zero,List.set_cons_succ]
     refine et (i:=9) (v:=undef) rfl ae ae ae ae (fun _ _ _ h=>h) (aI ⟨ac,rfl⟩) trivial (aI trivial) ?_;refine et (i:=10) (v:=undef) rfl ae ae ae ae (fun _ _ _ h=>h) (aI ⟨ac,rfl⟩) trivial (aI trivial) ?_;refine et (i:=11) (v:=undef) rfl ae ae ae ae (fun _ _ _ h=>h) (aI ⟨ac,rfl⟩) trivial (aI trivial) ?_;refine et (i:=12) (v:=?_) rfl ae ae ae ae (fun _ _ _ h=>h) (aJ ⟨ac,?_⟩) trivial (aI trivial) ?_
     rotate_left
     ·intro w R;go_simp
      try rfl
     refine et (i:=13) (v:=?_) rfl ae ae ae ae (fun _ _ _ h=>h) (aJ ⟨ac,?_⟩) trivial (aI trivial) ?_
     rotate_left
     ·intro w R;go_simp
      try rfl
     refine sT ae ?_ _;refine NoPanic.normal ?_;go_wp2
     go_roundg m
     case measure=>have:=M.o;omega
     exact⟨ap,(s2,d.2),true,rfl,g.o.1,g.o.2,D,hq⟩
theorem F0 {j:Option Addr}{nr l:Nat}(m:vr=.slice j nr l){t:ct×List bZ}(h:(c9 (dN c k) c.bs vr).J F t w)(hq:t.2.length<=90000)(x:Int):
 Calls prog 55 #[aj c.pk,ah x] w fun e w'=>∃b,e=.returned (.tuple #[])/\(c9 (dN c k) c.bs vr).J b (k.ke t x).2 w'/\b_ F w b w':=by
 obtain⟨C,⟨n,d⟩,o⟩:=nO h;have f:=dC o (d.ma x).1;have E:av ((k.ke t x).2=k.sp (k.ma t.1 x,t.2)):=rfl;go_enter func55,ntmps55;go_wp2_with fail;refine(o9 n d x).mono ?_;rintro e w1 ⟨p,rfl,q,s⟩
 obtain⟨D,hM,u⟩:=f.o.1 p _ w1 ⟨q,f.o.2⟩ s;have g:=dC hM u;go_wp2_with fail;refine(y6 m g.o.1 hq).mono ?_;rintro e G ⟨v,rfl,A,B⟩
 have i:=dC A (g.o.2.trans B)
 go_wp2_with fail;go_end0;exact⟨v,rfl,i.o.1,i.o.2⟩
end
section
variable {gM:Type}{o:dP gM}{bx p:Nat}{x:Obj}{vr:Value}{F:Nat->Prop}{w w':au}
theorem qH {t:gM×List bZ}(h:(c9 (dd o bx x) p vr).J F t w):(c9 o p vr).J (fun b=>F b/\b≠bx) t w/\w.heap[bx]?=some x/\F bx:=by
 obtain⟨B,l,m,⟨n,g1,g2,g3,d⟩,q,s,j,u,k,g,v⟩:=h;have i:=(d bx).2 (aI rfl)
 exact⟨⟨n,l,m,g1,q,s,fun b f=>⟨j b ((d b).2 (aJ f)),fun e=>g3 (by rw[<-e];exact f)⟩,⟨u,fun e=>k (by rw[e];exact i)⟩,fun c=>k ((d p).2 (aJ c)),fun b e=>⟨⟨(g b e).1,fun A=>(g b e).2 (by rw[A];exact i)⟩,fun c=>(g b e).2 ((d b).2 (aJ c))⟩,fun b f=>v b f.1⟩,g2,j _ i⟩
theorem iT {t:gM×List bZ}(h:(c9 o p vr).J F t w):∃d,o.J d t.1 w/\∀{u:Type}(f:dP u) c g w',f.J c g w'->b_ d w c w'->∃l,(c9 f p vr).J l (g,t.2) w'/\b_ F w l w':=by
 obtain⟨d,v,x,A,m,i,n,B,q,j,C⟩:=h;refine⟨d,A,fun f c g w' s b=>?_⟩
 have lp:=lt_of_some m;refine⟨fun k=>F k\/c k,⟨c,v,x,s,(b.fr.block p lp q).trans m,cv i (fun k e=>b.fr.block k (ce i k e).2 (j k e).2),fun k h=>aI h,aJ B,fun h=>(b.sub p h).elim q (fun h=>by omega),fun k e=>⟨aJ (j k e).1,fun h=>(b.sub k h).elim (j k e).2 (fun h=>by have:=(ce i k e).2;omega)⟩,fun k h=>?_⟩,b.fr.mono n,fun k h=>?_⟩
 ·rcases h with h|h
  ·exact aM (C k h) b.fr.size
  ·exact f.lt s k h
 ·rcases h with h|h
  ·exact aJ h
  ·exact(b.sub k h).imp (n k) id
end
def F1 (b:Type):dP b where
 J _ _ _:=False
 lt:=fun h=>h.elim
 keep:=fun h=>h.elim
def dK (b:Type):fB (b×List bZ):=c9 (F1 b) 0 (.slice none 0 0)
def ca.eO (k:ca)(t:ch×List bZ)(r:List bZ):ch×List bZ:=fi (dK ch) (fun s x=>k.al s.1 x) k.ke t r
def ca.sR (k:ca)(t:ch×List bZ)(r:List bZ):List bZ:=eP (dK ch) (fun s x=>k.al s.1 x) k.ke (fun s x=>k.nw s.1 x) t r
def ca.i5 (k:ca)(t:ch×List bZ)(r:List bZ):List bZ:=eQ (dK ch) (fun s x=>k.al s.1 x) k.ke (fun s x=>k.nw s.1 x) t r
theorem o_ {b:Type}(is:b->Int->Bool)(kp:b->Int->Int×b)(s:b×List bZ):∀n,(gC is kp s n).1.2.length=s.2.length
 |0=>rfl
 |n+1=>by
  have e:gC is kp s (n+1)=dB is kp (gC is kp s n) n:=by simp[gC,List.range_succ]
  rw[e];have c:=o_ is kp s n;unfold dB;split
  ·exact c
  ·simpa using c
theorem pa (k:ca):∀(n:Nat)(t:ch×List bZ),(k.cV n t).2.length=t.2.length
 |0,_=>rfl
 |n+1,t=>by
  unfold ca.cV;split
  ·exact pa k n _
  ·split
   ·exact(pa k n _).trans (o_ _ _ _ _)
   ·exact o_ _ _ _ _
theorem tW (k:ca)(t:ch×List bZ)(x:Int):(k.ke t x).2.2.length=t.2.length:=pa k _ _
section
variable {c:gb}{k:ca}{F:Nat->Prop}{s:ch}{w:au}{vr:Value}
theorem F4 (bx:Nat){i:Option Addr}{nr j:Nat}(l:vr=.slice i nr j):mD (c9 (dd (gD c k) bx (iR c)) c.sd vr) (fun _=>True) (mP c).f (mP c).b (mP c).c k.ke:=by
 intro F t w x _ e m;have e:(k.ke t x).2.2.length<=90000:=e;obtain⟨n,g,o⟩:=qH m;rw[tW] at e;refine(FE l n e x).mono ?_;rintro r w' ⟨p,rfl,hM,f⟩
 have q:=lt_of_some g;have s:_:=fun d=>(f.sub bx d).elim (fun d=>d.2 rfl) (fun d=>by omega)
 refine⟨fun b=>p b\/b=bx,rfl,jW hM ((f.fr.block bx q (fun d=>d.2 rfl)).trans g) s,f.fr.mono (fun b d=>d.1),fun b d=>?_⟩
 rcases d with d|d
 ·exact(f.sub b d).imp (fun d=>d.1) id
 ·exact aJ (by rw[d];exact o)
theorem F6 (bx:Nat){e:Option Addr}{nr f:Nat}(g:vr=.slice e nr f):lP (c9 (dd (gD c k) bx (iR c)) c.sd vr) (fun _=>True) (jX bx) (mP c) (k8 c) (fun s x=>k.al s.1 x) k.ke (fun s x=>k.nw s.1 x) where
 ea:=yK
 eT:=FB
 en:=yL
 ha:=by
  rintro F s w x _ ⟨b,i,j,d,_⟩
  exact yN bx b s.1 w x trivial d
 hk:=F4 bx g
 ht:=by
  rintro F s w x _ ⟨b,i,j,d,_⟩
  exact lS yO b s.1 w x trivial d
 hl:=fun s x=>tW k s x
theorem F7 {o:Option Addr}{p:Nat}{r:List bZ}(v:vr=.slice o r.length p){t:ch×List bZ}(h:(c9 (gD c k) c.sd vr).J F t w)(x:w.ownsRow 0 83 2 vr r.length (ev r))(hq:t.2.length+r.length<=90000)(bx:Nat)(A:w.heap[bx]?=some (iR c))(B:¬F bx):
 Calls prog 53 #[aj c.sd,.agg #[(jX bx).v,(mP c).v,(k8 c).v]] w fun e w'=>∃a1 c1 n,e=.returned (.tuple #[])/\(c9 (gD c k) c.sd (.slice a1 (k.sR t r).length c1)).J n ((k.eO t r).1,k.i5 t r) w'/\
  w'.ownsRow 0 83 2 (.slice a1 (k.sR t r).length c1) (k.sR t r).length (ev (k.sR t r))/\(∀b,some b=(Value.slice a1 (k.sR t r).length c1).ownBlock->¬n b/\w.heap.size<=b)/\Fr (fun b=>F b\/b=bx) w w'/\(∀b,n b->F b\/w.heap.size<=b):=by
 subst v;refine(ts _ (fun _=>True) (jX bx) (mP c) (k8 c) _ _ _ (F6 bx rfl) r o p rfl V (fun _ _=>⟨trivial,trivial⟩) _ t w (fun _ _=>⟨trivial,trivial⟩) hq (jW h A B) (gh x)).mono ?_;rintro e w' ⟨a1,c1,a2,c2,C,P,rfl,⟨D,Q,R,⟨l,g1,g2,g3,q⟩,S,U,E,W,G,X,Y⟩,q3,H,g,i,j,I,J,K,L,M⟩
 have g:w'.heap[c.sd]?=some (.cells #[.slice a1 (k.sR t r).length c1,.slice a2 (k.i5 t r).length c2] 128 (0,0)):=g;have i:=i;have j:=j;have m:∀b,l b->C b:=fun b d=>E b ((q b).2 (aJ d))
 have s:∀b,l b->b≠c.sd:=fun b d e=>G (by show D c.sd;rw[<-e];exact(q b).2 (aJ d))
 have u:=(gD c k).keep (w':=w') g1 H (fun b d=>q3 b (m b d) (s b d))
 have N:F c.sd:=by obtain⟨_,_,_,_,_,_,_,O,_⟩:=h;exact O
 refine⟨a1,c1,fun b=>l b\/b=c.sd\/some b=(Value.slice a2 (k.i5 t r).length c2).ownBlock,rfl,⟨l,a2,c2,u,g,d7 j (fun _ _=>aS _),fun b d=>aJ d,aI (aJ rfl),fun f=>s _ f rfl,fun b e=>⟨aI (aI e),fun f=>L b e (m b f)⟩,fun b d=>?_⟩,d7 i (fun _ _=>aS _),fun b e=>⟨fun f=>?_,(ce i b e).1⟩,I,fun b d=>?_⟩
 ·rcases d with d|d|d
  ·exact(gD c k).lt u b d
  ·rw[d];exact lt_of_some g
  ·exact(ce j b d).2
 ·rcases f with f|f|f
  ·exact K b e (m b f)
  ·obtain⟨ab,hc⟩:=dZ i b e;rw[f,g] at hc;simp at hc
  ·exact M b e f
 ·rcases d with d|d|d
  ·rcases J b (m b d) with(f|f)|f
   ·exact aJ f
   ·exact absurd d (by rw[f];exact g3)
   ·exact aI f
  ·exact aJ (by rw[d];exact N)
  ·exact aI (ce j b d).1
end
theorem F8 {pk co cM y:Nat}{a:Wc}{M T:List Int}{F:Nat->Prop}{s:ch}{w:au}(h:(d_ ⟨pk,co,a.pw,a.p,a.q,a.pc,cM,a.sd,a.nb,dU a.O,M⟩ ⟨a.N,a.O,y,T⟩).J F s w):∃f,(dY a).J f ⟨y,s.g,s.ws,M,s.rs⟩ w/\(∀b,f b->F b)/\¬f pk:=by
 obtain⟨cA,i,own,h,g⟩:=h;have c:∀b j,own b=j->j<=4->(if own b<=4 then own b else 0)=j:=fun b j e k=>by rw[aH V];exact e
 refine⟨fun b=>(if own b<=4 then own b else 0)≠0,⟨fun b=>if own b<=4 then own b else 0,cM,?_,fun b=>Iff.rfl⟩,fun b d=>(g b).2 (fun e=>d (by rw[e];rfl)),fun d=>d ?_⟩
 ·exact {
   ar:=h.ar,a1:=c _ _ h.a1 aa,a2:=c _ _ h.a2 aa,cd:=h.cd,c1:=c _ _ h.c1 aa,c2:=c _ _ h.c2 aa,wd:=h.wd,w1:=c _ _ h.w1 aa,rt:=h.rt,rl:=h.rl,r1:=c _ _ h.r1 aa
   le:=fun b=>by
    split
    ·assumption
    ·decide
   lt:=fun b d=>h.lt b (fun e=>d (by rw[e];rfl))}
 ·have:=h.k1;rw[this];rfl
structure ck where
 s:ec
 r:List bZ
 q:List bZ
def fq (a:Wc):dP ck where
 J F S w:=∃f ar c,(c9 (dY a) a.sd (.slice ar S.r.length c)).J f (S.s,S.q) w/\w.ownsRow 0 83 2 (.slice ar S.r.length c) S.r.length (ev S.r)/\(∀b,some b=(Value.slice ar S.r.length c).ownBlock->¬f b)/\∀b,F b↔(f b\/some b=(Value.slice ar S.r.length c).ownBlock)
 lt:=by
  rintro F S w ⟨f,ar,c,i,j,k,g⟩ b d;rcases(g b).1 d with d|d
  ·exact(c9 (dY a) a.sd (.slice ar S.r.length c)).lt i b d
  ·exact(ce j b d).2
 keep:=by rintro F S w w' ⟨f,ar,c,i,j,k,g⟩ hs hk;exact⟨f,ar,c,(c9 (dY a) a.sd (.slice ar S.r.length c)).keep i hs (fun b d=>hk b ((g b).2 (aJ d))),cv j (fun b e=>hk b ((g b).2 (aI e))),k,g⟩
def b8.eO (k:b8)(t:ct×List bZ)(r:List bZ):ct×List bZ:=fi (dK ct) (fun s x=>k.al s.1 x) k.ke t r
def b8.sR (k:b8)(t:ct×List bZ)(r:List bZ):List bZ:=eP (dK ct) (fun s x=>k.al s.1 x) k.ke (fun s x=>k.nw s.1 x) t r
def b8.i5 (k:b8)(t:ct×List bZ)(r:List bZ):List bZ:=eQ (dK ct) (fun s x=>k.al s.1 x) k.ke (fun s x=>k.nw s.1 x) t r
theorem pd (k:b8):∀(n:Nat)(t:ct×List bZ),(k.cV n t).2.length=t.2.length
 |0,t=>rfl
 |n+1,t=>by
  unfold b8.cV;split
  ·exact pd k n ((k.kv _).2,t.2)
  ·split
   ·exact(pd k n _).trans (o_ _ _ _ _)
   ·exact o_ _ _ _ _
theorem qI (k:b8)(t:ct×List bZ)(x:Int):(k.ke t x).2.2.length=t.2.length:=pd k _ _
section
variable {c:e4}{k:b8}{F:Nat->Prop}{s:ct}{w:au}{vr:Value}
theorem F9 (bx f:Nat)(D:bx≠f){G:Option Addr}{nr H:Nat}(I:vr=.slice G nr H):mD (c9 (dd (dd (dN c k) f (jj (lT c))) bx (dl c)) c.bs vr) (fun _=>True) (hI f).f (hI f).b (hI f).c k.ke:=by
 intro F t w x _ j n;have j:(k.ke t x).2.2.length<=90000:=j;obtain⟨o,p,q⟩:=qH n;obtain⟨s,hy,u⟩:=qH o;rw[qI] at j;have P:=F0 I s j x;have c0:w.cell? (am f 0)=some (lT c).v:=ay hy
 have i:=jp p hy q u.1;have E:av ((k.ke t x).1=x):=rfl;generalize (k.ke t x).1=M at E⊢;generalize (k.ke t x).2=J at P⊢;clear n o s p hy q u j;show Calls prog 122 #[ah x,aj f] w _;go_enter func122,ntmps122;go_wp2_with fail;refine P.mono ?_;clear P;rintro e w1 ⟨l,rfl,hM,g⟩
 have K:=lt_of_some i.o.1;have L:=lt_of_some i.o.2.1;have v:=(g.fr.block bx K (fun d=>d.1.2 rfl)).trans i.o.1;have A:=(g.fr.block f L (fun d=>d.2 rfl)).trans i.o.2.1;have B:¬l f:=fun d=>(g.sub f d).elim (fun d=>d.2 rfl) (fun d=>by omega)
 have C:¬(l bx\/bx=f):=fun d=>d.elim (fun d=>(g.sub bx d).elim (fun d=>d.1.2 rfl) (fun d=>by omega)) D;have m:av ((c9 (dd (dd (dN c k) f (jj (lT c))) bx (dl c)) c.bs vr).J (fun b=>(l b\/b=f)\/b=bx) J w1/\Fr F w w1/\∀b,((l b\/b=f)\/b=bx)->F b\/w.heap.size<=b):=by
  refine⟨jW (jW hM A B) v C,g.fr.mono (fun b d=>d.1.1),fun b d=>?_⟩
  rcases d with(d|d)|d
  ·exact(g.sub b d).imp (fun d=>d.1.1) id
  ·exact aJ (by rw[d];exact i.o.2.2.2)
  ·exact aJ (by rw[d];exact i.o.2.2.1)
 clear hM g v A B C;go_wp2_with fail;go_ret;rw[E.o];exact⟨_,rfl,m.o.1,m.o.2.1,m.o.2.2⟩
theorem F_ (bx b:Nat)(f:bx≠b){g:Option Addr}{nr i:Nat}(j:vr=.slice g nr i):lP (c9 (dd (dd (dN c k) b (jj (lT c))) bx (dl c)) c.bs vr) (fun _=>True) (iK bx) (hI b) (i4 c) (fun s x=>k.al s.1 x) k.ke (fun s x=>k.nw s.1 x) where
 ea:=tM
 eT:=tN
 en:=tO
 ha:=by
  rintro F s w x _ ⟨d,l,m,e,_⟩
  exact tU bx b (lT c) d s.1 w x trivial e
 hk:=F9 bx b f j
 ht:=by
  rintro F s w x _ ⟨d,l,m,e,_⟩
  exact lS (lS tT) d s.1 w x trivial e
 hl:=fun s x=>qI k s x
theorem Ga {p:Option Addr}{q:Nat}{r:List bZ}(C:vr=.slice p r.length q){t:ct×List bZ}(h:(c9 (dN c k) c.bs vr).J F t w)(D:w.ownsRow 0 83 2 vr r.length (ev r))(hq:t.2.length+r.length<=90000)(bx g:Nat)(s:bx≠g)(E:w.heap[bx]?=some (dl c))(hy:w.heap[g]?=some (jj (lT c)))(G:¬F bx)(hm:¬F g):
 Calls prog 53 #[aj c.bs,.agg #[(iK bx).v,(hI g).v,(i4 c).v]] w fun e w'=>∃a1 c1 o,e=.returned (.tuple #[])/\(c9 (dN c k) c.bs (.slice a1 (k.sR t r).length c1)).J o ((k.eO t r).1,k.i5 t r) w'/\
  w'.ownsRow 0 83 2 (.slice a1 (k.sR t r).length c1) (k.sR t r).length (ev (k.sR t r))/\(∀b,some b=(Value.slice a1 (k.sR t r).length c1).ownBlock->¬o b/\w.heap.size<=b)/\Fr (fun b=>F b\/b=g\/b=bx) w w'/\(∀b,o b->F b\/w.heap.size<=b):=by
 subst C;refine(ts _ (fun _=>True) (iK bx) (hI g) (i4 c) _ _ _ (F_ bx g s rfl) r p q rfl V (fun _ _=>⟨trivial,trivial⟩) _ t w (fun _ _=>⟨trivial,trivial⟩) hq (jW (jW h hy hm) E (fun d=>d.elim G s)) (gh D)).mono ?_;rintro e w' ⟨a1,c1,a2,c2,H,W,rfl,⟨u,X,Y,⟨fA,⟨i,g1,ab,I,v⟩,g2,g3,J⟩,ad,ag,K,ai,L,al,ap⟩,q3,M,j,l,m,N,O,P,Q,R⟩
 have j:w'.heap[c.bs]?=some (.cells #[.slice a1 (k.sR t r).length c1,.slice a2 (k.i5 t r).length c2] 128 (0,0)):=j;have l:=l;have m:=m;have x:∀b,i b->u b:=fun b f=>(J b).2 (aJ ((v b).2 (aJ f)))
 have n:∀b,i b->H b:=fun b f=>K b (x b f)
 have A:∀b,i b->b≠c.bs:=fun b f e=>L (by show u c.bs;rw[<-e];exact x b f)
 have B:=(dN c k).keep (w':=w') g1 M (fun b f=>q3 b (n b f) (A b f))
 have S:F c.bs:=by obtain⟨_,_,_,_,_,_,_,U,_⟩:=h;exact U
 refine⟨a1,c1,fun b=>i b\/b=c.bs\/some b=(Value.slice a2 (k.i5 t r).length c2).ownBlock,rfl,⟨i,a2,c2,B,j,d7 m (fun _ _=>aS _),fun b f=>aJ f,aI (aJ rfl),fun d=>A _ d rfl,fun b e=>⟨aI (aI e),fun d=>Q b e (n b d)⟩,fun b f=>?_⟩,d7 l (fun _ _=>aS _),fun b e=>⟨fun d=>?_,(ce l b e).1⟩,N.mono (fun b d=>?_),fun b f=>?_⟩
 ·rcases f with f|f|f
  ·exact(dN c k).lt B b f
  ·rw[f];exact lt_of_some j
  ·exact(ce m b f).2
 ·rcases d with d|d|d
  ·exact P b e (n b d)
  ·obtain⟨ar,hc⟩:=dZ l b e;rw[d,j] at hc;simp at hc
  ·exact R b e d
 ·rcases d with(d|d)|d
  ·exact aJ d
  ·exact aI (aJ d)
  ·exact aI (aI d)
 ·rcases f with f|f|f
  ·rcases O b (n b f) with((d|d)|d)|d
   ·exact aJ d
   ·exact absurd f (by rw[d];exact I)
   ·exact absurd ((v b).2 (aJ f)) (by rw[d];exact g3)
   ·exact aI d
  ·exact aJ (by rw[f];exact S)
  ·exact aI (ce m b f).1
def b8.cJ (k:b8)(s:ct):Nat->ct
 |0=>s
 |n+1=>k.ma (k.cJ s n) (k.s.rs.getD n 0)
theorem du.cJ (h:cU k s):∀n,du k s (k.cJ s n)
 |0=>du.refl h
 |n+1=>(du.cJ h n).trans (du.ma (du.cJ h n).eS _)
theorem Gb (h:(eH c k).J F s w)(g:cU k s):
 Calls prog 51 #[aj c.pk] w fun e w'=>∃b,e=.returned (.tuple #[])/\(eH c k).J b (k.cJ s 12) w'/\b_ F w b w':=by
 have m:=hide h;have n:=hide g;obtain⟨vt,o,h⟩:=h;obtain⟨_,c0,c3,_⟩:=gu h;obtain⟨u,_⟩:=ey h;clear h g;go_enter func51,ntmps51;go_wp2_with fail
 go_loopw [12] (fun iv wr=>∃(j:Nat)(b:Nat->Prop),j<=12/\iv=ah j/\av ((eH c k).J b (k.cJ s j) wr/\b_ F w b wr)) (fun iv _=>12-(intOf iv).toNat)
 exact⟨0,F,aS _,rfl,⟨m.o,b_.refl _ _⟩⟩
 ·
   obtain⟨j,b,v,rfl,d⟩:=hrel;by_cases p:j<12
   ·obtain⟨vt,o,i⟩:=d.o.1;obtain⟨_,_,_,rt⟩:=gu i;have r1:=rt j p;have f:=o9 d.o.1 (du.cJ n.o j).eS (k.s.rs.getD j 0)
    have l:av (k.ma (k.cJ s j) (k.s.rs.getD j 0)=k.cJ s (j+1)):=rfl;rw[l.o] at f;generalize k.s.rs.getD j 0=x at r1 f;clear i rt l;go_wp2_with fail;refine f.mono ?_;rintro e A ⟨q,rfl,j2,t⟩
    go_wp2_with fail;go_roundw;exact⟨j+1,q,V,af,(dC j2 (d.o.2.trans t))⟩
    simp[intOf];omega
   ·obtain rfl:j=12:=V;go_wp2_with fail;go_end0;exact⟨b,rfl,d.o.1,d.o.2⟩
end
theorem y7 (z:Value)(n:Nat)(hz:z.cells.size=1):(Builtin.zeroCells z.cells n).size=n*1:=by rw[size_zeroCells,hz]
theorem y8 (l:List Int):∀u∈l.map (Value.int .i64),u.oneCell'=true:=fun u b=>by obtain⟨x,_,rfl⟩:=List.mem_map.1 b;rfl
theorem y9 {w:au}{base:Nat}{e:TypeId}{d:Option Addr}{g:Nat}{l:List Int}(h:w.ownsRow base e 1 (.slice d l.length g) l.length (l.map (Value.int .i64))):∀a,d=some a->∀j u,(l.map (Value.int .i64))[j]?=some u->w.cell? (a.add j)=some u:=fun a ea j u hj=>by
 have c:j<l.length:=by exact oL
 obtain⟨b,o,f,_,hc⟩:=gO h V;rw[ea] at f;cases f;rw[bq,aG c] at hj;have i:(⟨b,o,none⟩:Addr).add j=⟨b,o+j,none⟩:=by simp[Addr.add]
 rw[i,(hc j c),<-hj];simp[List.getD_eq_getElem?_getD,List.getElem?_eq_getElem c]
theorem Ge (w:au)(n:Nat)(k:n<=100000):
 Calls prog 187 #[.slice none 0 0,ah n] w fun e w'=>∃a1 c1,e=.returned (.slice a1 0 c1)/\w'.ownsRow w.heap.size 3 1 (.slice a1 0 c1) 0 []/\Below w.heap.size w w':=by
 obtain⟨c,hi,d,f,i⟩:=info_parts jQ;rcases Nat.eq_zero_or_pos n with h0|h0
 ·subst h0;go_enter func187,ntmps187;go_wp2;go_ret;exact⟨none,0,rfl,a7 _ _ _ _,aD _ _⟩
 ·have hr:=Lib.run_append_nil_zeros (P:=prog) w 96 3 96 3 c _ .i64 .i64 underlying96 underlying3 hi d n h0 (by rw[f];decide) V (by rw[i];omega)
  have j:=grownCap_ge w n 0 3;have b:=grownCap_le_maxLen w n 0 3 (by unfold maxLen;omega)
  generalize grownCap w n 0 3=g at hr j b;have hown:(w.drew.alloc (.cells (Builtin.zeroCells (Value.int .i64 0).cells n++Builtin.zeroCells (Value.int .i64 0).cells (g-n)) 3)).ownsRow w.heap.size 3 1 (.slice (some ⟨w.heap.size,0,none⟩) 0 g) 0 []:=
   World.ownsRow_made w.drew _ g bW b (by rw[Array.size_append,y7 _ _ rfl,y7 _ _ rfl];omega)
  have hb:Below w.heap.size w (w.drew.alloc (.cells (Builtin.zeroCells (Value.int .i64 0).cells n++Builtin.zeroCells (Value.int .i64 0).cells (g-n)) 3)):=(aD _ w).drew.alloc bW _;go_enter func187,ntmps187;exact xI
theorem y_ (w:au)(B:Nat)(l1 l2:List Int)(g i:Option Addr)(c1 c2:Nat)(t:w.cell? (am B 0)=some (.slice g l1.length c1))(C:w.cell? (am B 1)=some (.slice i l2.length c2))(D:w.ownsRow 0 3 1 (.slice g l1.length c1) l1.length (l1.map (Value.int .i64)))(E:w.ownsRow 0 3 1 (.slice i l2.length c2) l2.length (l2.map (Value.int .i64)))(hm:l1.length+l2.length<=100000):
 Calls prog 169 #[.slice (ak B) 2 2] w fun e w'=>∃a c,e=.returned (.slice a (l1.length+l2.length) c)/\w'.ownsRow w.heap.size 3 1 (.slice a (l1.length+l2.length) c) (l1.length+l2.length) ((l1++l2).map (Value.int .i64))/\Below w.heap.size w w':=by
 obtain⟨u,hi,v,x,A⟩:=info_parts jQ;have j:=hide D;have l:=hide E;have hB:=aK w _ t;go_enter func169,ntmps169;go_wp2
 go_loopw [3,11] (fun m iv wr=>wr=w/\((iv=ah 0/\m=ah 0)\/(iv=ah 1/\m=ah l1.length)\/(iv=ah 2/\m=ah (l1.length+l2.length:Nat)))) (fun _ iv _=>2-(intOf iv).toNat)
 exact⟨rfl,aJ ⟨rfl,rfl⟩⟩
 ·
   obtain⟨hw,⟨rfl,rfl⟩|⟨rfl,rfl⟩|⟨rfl,rfl⟩⟩:=hrel
   all_goals
    have hw:=hw.symm;subst hw
   ·go_wp2;go_roundw;exact⟨trivial,aI (aJ ⟨af,af⟩)⟩
    simp[intOf]
   ·go_wp2;go_roundw;exact⟨trivial,aI (aI ⟨af,af⟩)⟩
    simp[intOf]
   ·go_wp2_with fail;refine(Ge w (l1.length+l2.length) hm).mono ?_;rintro e w1 ⟨a1,F,rfl,d,b⟩
    go_wp2
    go_loopw [6,27] (fun n iv wk=>Below w.heap.size w wk/\((∃a c,iv=ah 0/\n=.slice a 0 c/\wk.ownsRow w.heap.size 3 1 (.slice a 0 c) 0 [])\/(∃a c,iv=ah 1/\n=.slice a l1.length c/\wk.ownsRow w.heap.size 3 1 (.slice a l1.length c) l1.length (l1.map (Value.int .i64)))\/(∃a c,iv=ah 2/\n=.slice a (l1.length+l2.length) c/\wk.ownsRow w.heap.size 3 1 (.slice a (l1.length+l2.length) c) (l1.length+l2.length) ((l1++l2).map (Value.int .i64))))) (fun _ iv _=>2-(intOf iv).toNat)
    exact⟨b,aJ ⟨a1,F,rfl,rfl,d⟩⟩
    ·
      obtain⟨b,⟨a,c,rfl,rfl,d⟩|⟨a,c,rfl,rfl,d⟩|⟨a,c,rfl,rfl,d⟩⟩:=hrel
      ·have G:=(b.cell (p:=am B 0) hB).trans t;have hs:=b.size;go_wp2_with (at_builtin;refine je _ rfl _ _ 96 rfl w.heap.size 3 u (ah 0) 1 8 underlying96 hi v x A rfl aa (.slice a 0 c) 0 [] rfl d g l1.length c1 (l1.map (Value.int .i64)) rfl Z (sH j.o) (y9 (cv j.o (fun k e=>b.block k (ce j.o k e).2))) (y8 l1) ?_ ?_ hs ?_;(unfold maxLen;omega);omega;intro a2 o H f q _;rw[bF,List.nil_append] at f)
       have s:=b.grown q hs (fun k e=>(ce d k e.symm).1)
       go_wp2;go_roundw;exact⟨s,aI (aJ ⟨a2,o,af,rfl,f⟩)⟩
       simp[intOf]
      ·have G:=(b.cell (p:=am B 1) hB).trans C;have hs:=b.size;go_wp2_with (at_builtin;refine je _ rfl _ _ 96 rfl w.heap.size 3 u (ah 0) 1 8 underlying96 hi v x A rfl aa (.slice a l1.length c) l1.length (l1.map (Value.int .i64)) rfl d i l2.length c2 (l2.map (Value.int .i64)) rfl Z (sH l.o) (y9 (cv l.o (fun k e=>b.block k (ce l.o k e).2))) (y8 l2) ?_ ?_ hs ?_;(unfold maxLen;omega);omega;intro a2 o H f q _;rw[<-bA] at f)
       have s:=b.grown q hs (fun k e=>(ce d k e.symm).1)
       go_wp2;go_roundw;exact⟨s,aI (aI ⟨a2,o,af,rfl,f⟩)⟩
       simp[intOf]
      ·go_wp2;go_ret;exact⟨a,c,rfl,d,b⟩
section
variable {c:e4}{k:b8}{F:Nat->Prop}{s:ct}{w:au}
theorem za {vt b:Value}(h:(cS c k vt b).J F s w):w.ownsRow 0 3 1 c.yv k.Y.length (k.Y.map (Value.int .i64))/\w.ownsRow 0 3 1 c.ov k.G.length (k.G.map (Value.int .i64)):=by obtain⟨d,own,h,_⟩:=h;exact⟨h.yr,h.gr⟩
theorem zb (h:(eH c k).J F s w)(hl:k.T.length<=4000):
 Calls prog 108 #[aj c.pk] w fun e w'=>∃a i,e=.returned (.slice a k.T.length i)/\w'.ownsRow w.heap.size 3 1 (.slice a k.T.length i) k.T.length (k.T.map (Value.int .i64))/\Below w.heap.size w w':=by
 have v:k.T.length=k.G.length+k.Y.length:=by unfold b8.T;rw[aW]
 have x:av (k.T.map (Value.int .i64)=(k.G++k.Y).map (Value.int .i64)):=rfl;rw[v] at hl⊢;rw[x.o];obtain⟨vt,E,h⟩:=h;obtain⟨_,n,o,_,_,_,_,_,lk⟩:=ey h;obtain⟨yr,gr⟩:=za h;obtain⟨d,f,A⟩:=dQ yr;obtain⟨g,gc,B⟩:=dQ gr;rw[A] at n yr;rw[B] at o gr;have C:=an w.drew (.cells #[.slice g k.G.length gc,.slice d k.Y.length f] 96)
 have j:=(ao w).drew.trans (C.mono bW)
 have q:=aL w.drew (.cells #[.slice g k.G.length gc,.slice d k.Y.length f] 96)
 have P:=y_ (w.drew.alloc (.cells #[.slice g k.G.length gc,.slice d k.Y.length f] 96)) w.heap.size k.G k.Y g d gc f (by simp only [World.cell?];rw[show w.heap.size=w.drew.heap.size from rfl,q];rfl) (by simp only [World.cell?];rw[show w.heap.size=w.drew.heap.size from rfl,q];rfl) (cv gr (fun b e=>j.block b (ce gr b e).2)) (cv yr (fun b e=>j.block b (ce yr b e).2)) V;have l:=hide j;go_enter func108,ntmps108;go_wp2_with fail
 go_region_held3 (fun w'=>w'.cell? (am c.pk 1)=some (.slice d k.Y.length f)/\w'.cell? (am c.pk 2)=some (.slice g k.G.length gc)) (go_keep)
  (first
    |(go_at_call 169;refine P.mono ?_;rintro e w3 ⟨a,i,rfl,t,D⟩;have m:=l.o.trans (D.mono l.o.size);have y1:=(m.cell (p:=am c.pk 1) lk).trans n;have G:=(m.cell (p:=am c.pk 2) lk).trans o;have u:=dC (d7 t (fun b e=>aP l.o.size (ce t b e).1)) m))
 go_wp2_with fail;go_ret;exact⟨a,i,rfl,u.o.1,u.o.2⟩
end
def e6 {b:Type}(fm:b->Int->Int)(st:b->Int->b)(t:b)(a:Int):b:=if fm t a=-1 then t else st t a
def gJ {b:Type}(fm:b->Int->Int)(st:b->Int->b)(t:b)(l:List Int):b:=l.foldl (e6 fm st) t
theorem tX {g:Type}(o:dP g)(fm fd:g->Int->Int)(st:g->Int->g)(G:Nat->g->Prop)(T:List Int)(pk pw p co f:Nat)(I:Array Value)(J:d3 f)(l:List Int)(K:Option Addr)(ai:Nat)(F:Nat->Prop)(t:g)(w:au)
 (M:∀F t w a,o.J F t w->w.cell? (am pk 0)=some (aj pw)/\w.cell? (am pk 3)=some (.map (some co))/\w.cell? (am pw 0)=some (aj p)/\Mp w co T (fm t)/\Calls prog 77 #[aj p,ah a] w fun r w'=>∃x z,r=.returned (.tuple #[ah x,ah (fd t a),ah z])/\Below w.heap.size w w')
 (N:∀t a,0<=fd t a/\fd t a<=12)(O:∀a∈l,(0<=a/\a<=100000)/\a∈T)(bl:l.length<=100000)
 (P:∀j F t w,j<l.length->G j t->o.J F t w->fm t (l.getD j 0)≠-1->Calls prog f (#[ah (l.getD j 0),ah (1+fd t (l.getD j 0))]++I) w fun r w'=>∃c,r=.returned (.tuple #[])/\o.J c (st t (l.getD j 0)) w'/\b_ F w c w')
 (Q:∀j t,j<l.length->G j t->G (j+1) (e6 fm st t (l.getD j 0)))(h0:G 0 t)(e:o.J F t w)(R:∀c B w',o.J c B w'->b_ F w c w'->iF w' K l):
 Calls prog 124 #[aj pk,.slice K l.length ai,.func (.func f) #[] I] w fun r w'=>∃c,r=.returned (.tuple #[])/\o.J c (gJ fm st t l) w'/\b_ F w c w'/\G l.length (gJ fm st t l):=by
 have al:av (∀F t w a,o.J F t w->_):=M;have ap:av (∀j F t w,j<l.length->G j t->o.J F t w->fm t (l.getD j 0)≠-1->_):=P;have ar:av (∀j t,j<l.length->G j t->_):=Q;have ax:av (∀c B w',o.J c B w'->b_ F w c w'->_):=R;have aB:av (_):=O;have aF:av (∀t a,_):=N;have bn:∀(args:Array Value)(w:au),_=_:=J;clear M P Q R O N J;go_enter func124,ntmps124;go_wp2_with fail
 go_loopw [13] (fun iv wr=>∃(j:Nat)(d:Nat->Prop)(b:g),j<=l.length/\iv=ah j/\av (gJ fm st t (l.take j)=b)/\av (G j b)/\o.J d b wr/\b_ F w d wr) (fun iv _=>l.length-(intOf iv).toNat)
 case atStart=>exact⟨0,F,t,aS _,rfl,rfl,h0,e,b_.refl _ _⟩
 case round=>
  clear h0 e;obtain⟨j,d,b,bo,rfl,C,E,e,s⟩:=hrel;by_cases i:j<l.length
  ·obtain⟨bp,br,aR,bs,hc⟩:=ax.o d b wr e s V;have aT:=hc j i;subst aR;have S:l.getD j 0∈l:=by rw[aC,aG i];exact a6 i
   obtain⟨aV,U⟩:=aB.o _ S;have W:=iZ aV.1 V;have X:av (gJ fm st t (l.take (j+1))=e6 fm st b (l.getD j 0)):=by
    show _=_;rw[fz l j i 0];unfold gJ;rw[List.foldl_append];have:=C.o;unfold gJ at this
    rw[this];rfl
   have Y:av (_):=ar.o j b i E.o;have k:=fun w h=>ap.o j d b w i E.o h;obtain⟨a0,a1,a2,⟨D,o1,a3,ab⟩,L⟩:=al.o d b wr (l.getD j 0) e;have u:=hide (ab _ U)
   have bt:=aF.o b (l.getD j 0)
   have A:av (_/\_):=⟨e,s⟩
   have k:av (∀w,o.J d b w->fm b (l.getD j 0)≠-1->_):=k;clear hc S U e s a3 ab;by_cases hw:fm b (l.getD j 0)=-1
   ·have n:av (e6 fm st b (l.getD j 0)=b):=by show _=_;unfold e6;rw[aH hw]
    rw[hw] at u;clear k L;generalize l.getD j 0=a at*;go_wp2_with (at_lookup;refine wpList_lookup_own_int _ rfl _ _ 108 rfl 3 3 .i64 iA underlying108 underlying3 (lE _) co T.length D rfl o1 _ _ rfl W ?_;intro z q H;obtain rfl:z=-1:=(by have:=q.symm.trans u.o;simpa using this);clear q H)
    clear aT a0 a1 a2 o1;go_roundw
    case rel=>exact⟨j+1,d,b,V,af,by show _=_;rw[X.o,n.o],by show G _ _;rw[<-n.o];exact Y.o,A.o.1,A.o.2⟩
    case measure=>simp[intOf];omega
   ·have n:av (e6 fm st b (l.getD j 0)=st b (l.getD j 0)):=by show _=_;unfold e6;rw[aE hw]
    have bb:av (∀w,o.J d b w->_):=fun w h=>k.o w h hw;clear k;generalize l.getD j 0=a at*;generalize fm b a=v at*;generalize fd b a=m at*;generalize st b a=bd at*;go_wp2_with (at_lookup;refine wpList_lookup_own_int _ rfl _ _ 108 rfl 3 3 .i64 iA underlying108 underlying3 (lE _) co T.length D rfl o1 _ _ rfl W ?_;intro z q H;obtain rfl:z=v:=(by have:=q.symm.trans u.o;simpa using this);clear q H u)
    refine L.mono ?_;rintro r w1 ⟨x,y,rfl,ad⟩
    go_wp2_with fail;refine(bb.o w1 (o.below A.o.1 ad)).mono ?_;rintro r bx ⟨be,rfl,bg,bi⟩
    have ag:=dC bg ((A.o.2.below ad).trans bi)
    go_wp2_with fail;go_roundw;exact⟨j+1,be,bd,V,af,by show _=_;rw[X.o,n.o],by show G _ _;rw[<-n.o];exact Y.o,ag.o.1,ag.o.2⟩
    simp[intOf];omega
  ·obtain rfl:j=l.length:=V;rw[a_] at C;go_wp2_with fail;go_end0;rw[C.o];exact⟨d,rfl,e,s,E.o⟩
theorem zc {c:Type}(o:dP c)(fm fd:c->Int->Int)(st:c->Int->c)(G:Nat->c->Prop)(T:List Int)(pk pw p co f:Nat)(i:Array Value)(s:d3 f)(l:List Int)(g:Option Addr)(k:Nat)(F:Nat->Prop)(t:c)(w:au)
 (u:∀F t w a,o.J F t w->w.cell? (am pk 0)=some (aj pw)/\w.cell? (am pk 3)=some (.map (some co))/\w.cell? (am pw 0)=some (aj p)/\Mp w co T (fm t)/\Calls prog 77 #[aj p,ah a] w fun r w'=>∃x z,r=.returned (.tuple #[ah x,ah (fd t a),ah z])/\Below w.heap.size w w')
 (v:∀t a,0<=fd t a/\fd t a<=12)(A:∀a∈l,(0<=a/\a<=100000)/\a∈T)(B:l.length<=100000)
 (C:∀j F t w,j<l.length->G j t->o.J F t w->fm t (l.getD j 0)≠-1->Calls prog f (#[ah (l.getD j 0),ah (1+fd t (l.getD j 0))]++i) w fun r w'=>∃d,r=.returned (.tuple #[])/\o.J d (st t (l.getD j 0)) w'/\b_ F w d w')
 (D:∀j t,j<l.length->G j t->G (j+1) (e6 fm st t (l.getD j 0)))(h0:G 0 t)(E:o.J F t w)(m:iF w g l)(H:0<l.length->∀z,g=some z->¬F z.block):
 Calls prog 124 #[aj pk,.slice g l.length k,.func (.func f) #[] i] w fun r w'=>∃d,r=.returned (.tuple #[])/\o.J d (gJ fm st t l) w'/\b_ F w d w'/\G l.length (gJ fm st t l):=
 tX o fm fd st G T pk pw p co f i s l g k F t w u v A B C D h0 E (fun d _ w' _ n=>m.keep n.fr.size (fun hp z e=>n.fr.block _ (by obtain⟨b,J,q,I,_⟩:=m hp;rw[e] at q;cases q;exact I) (H hp z e)))
end Go.Proofs.YtjpjpjemibgjpaaGreat
