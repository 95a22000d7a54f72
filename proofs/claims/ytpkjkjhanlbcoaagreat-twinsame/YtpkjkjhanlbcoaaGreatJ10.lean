import Derived.Test.YtpkjkjhanlbcoaaGreatJ09
namespace Go.Proofs.YtpkjkjhanlbcoaaGreat
set_option maxRecDepth 100000
set_option maxHeartbeats 4000000
open Tryz
open Go.RowKit W Kp cf
theorem tE {P:Prop}(h:P:=by
 rcases hb with hb|hb
 ·exact(hT.sub b hb).imp (fun d=>(g4 b).2 (aK d)) id
 ·exact aK ((g4 b).2 (aJ hb))):P:=h
section
variable {c:e8}{k:b9}{F:Nat->Prop}{s:cu}{w:ax}{vr:Value}
theorem tH (bx b:Nat)(fv:fP):j8 (da (da (dP c k) b (jv fv)) bx (dl c)) (fun _=>True) (iV bx).f (iV bx).b (iV bx).c k.al:=by
 rintro F s w x _ ⟨f,⟨g,⟨⟨vt,i,h⟩,_⟩,_⟩,d,_⟩
 have P:=o_ h x;have c0:w.cell? (aq bx 0)=some (aj c.pk):=aA d
 have E:k.al s x=!k.cS s x:=rfl;go_enter func153,ntmps153;exact ti
theorem Fk {i:Option Addr}{j l:Nat}(m:vr=.slice i j l){t:cu×List b7}(h:(c7 (dP c k) c.bs vr).J F t w)(hq:t.2.length<=90000)(bx f:Nat)(n:w.heap[bx]?=some (dl c))(hy:w.heap[f]?=some (jv (kj c)))(hn:¬F bx)(hm:¬F f)(o:bx≠f):
 Calls prog 145 #[aj c.bs,.agg #[(iV bx).v,(ia f).v,(jg c).v]] w fun e w'=>∃g,e=.returned (.bool (k.wa t).2)/\(c7 (dP c k) c.bs vr).J g (k.wa t).1 w'/\Fr (fun b=>F b\/b=f\/b=bx) w w'/\(∀b,g b->F b\/b=f\/b=bx\/w.heap.size<=b):=by
 refine(xi _ (xF _ _ _) (fun _=>True) (iV bx) (ia f) (jg c) _ _ _ (qb _ c.bs vr (fun _=>True) (iV bx) (ia f) (jg c) k.al k.mp k.nw tx tz tA (tH bx f (kj c)) (sX (yi f)) (lY (lY tD))) i j l m _ t w hq (fun _ _=>⟨trivial,trivial⟩) (j_ (j_ h hy hm) n (fun d=>d.elim hn o))).mono ?_;rintro e w' ⟨g,rfl,p,q,hs⟩
 refine⟨g,rfl,sW (sW p),q.mono (fun b d=>?_),fun b hb=>?_⟩
 ·rcases d with(d|d)|d
  ·exact aK d
  ·exact aJ (aK d)
  ·exact aJ (aJ d)
 ·rcases hs b hb with((d|d)|d)|d
  ·exact aK d
  ·exact aJ (aK d)
  ·exact aJ (aJ (aK d))
  ·exact aJ (aJ (aJ d))
theorem yl {an:Option Addr}{ao ap:Nat}(ar:vr=.slice an ao ap){t:cu×List b7}(h:(c7 (dP c k) c.bs vr).J F t w)(hq:t.2.length<=90000):
 Calls prog 77 #[aj c.pk] w fun e w'=>∃Q,e=.returned (.tuple #[])/\(c7 (dP c k) c.bs vr).J Q (k.sp t) w'/\b8 F w Q w':=by
 have aB:∀(R:Fn)(first cap:Array Value)(w:ax),(Instr.makeFunc R first cap).run prog w=.ok (.func R first cap) w:=fun _ _ _ _=>rfl;obtain⟨f,U⟩:∃f,k.sp t=f:=⟨_,rfl⟩
 rw[U];have aF:=hide U;go_enter func77,ntmps77;go_wp2
 go_loopg [2] (k.mu t.1+1) (fun n aR wr=>∃(E:Nat->Prop)(d:cu×List b7)(b:Bool),aR=.bool b/\(c7 (dP c k) c.bs vr).J E d wr/\b8 F w E wr/\ay (if b=true then k.mu d.1<n/\k.cW n d=f else d=f)/\d.2.length<=90000)
 exact⟨F,t,true,rfl,h,b8.refl _ _,⟨V,aF.o⟩,hq⟩
 ·
   obtain⟨E,d,b,rfl,W,X,Y,hq⟩:=hrel;cases b
   ·have x:=hide Y.o;go_wp2;go_end0;rw[<-x.o];exact⟨E,rfl,W,X⟩
   ·obtain⟨bs,aV⟩:=Y.o;obtain⟨m,hm⟩:∃m,gk=m+1:=⟨gk-1,V⟩
    obtain⟨bt,K,a0⟩:=n8 W;have B:=Fg K.1 K.2;have j0:=dt.eJ K.2;obtain⟨ab,j2⟩:=dt.kv j0.eX;have cA:=(j0.trans ab).mu;have cE:=j0.mu;have a1:k.lm (k.lost d.1+d.1.td.length+1) d.1=k.eJ d.1:=rfl;rw[a1] at B;have a2:=hide j0.eX;have j:=g6 X a0 ab.eX;have L:ay (_/\((k.kv (k.eJ d.1)).1=true->k.mu (k.kv (k.eJ d.1)).2<k.mu d.1)/\k.mu d.1<m+1):=⟨cA,fun e=>by have:=j2 e;omega,V⟩
    have x:ay (k.cW (m+1) d=f):=by rw[<-hm];exact aV
    have M:=hide hm;go_wp2_with fail;refine B.mono ?_;rintro e w1 ⟨bx,rfl,A,C⟩
    have G:=Fh ((eI c k).below A (aH _ w1).drew) a2.o;have C:=C.below (aH _ w1).drew;obtain⟨bY,bZ,A⟩:=A;obtain⟨_,_,_,_,bb,_⟩:=ey A;cases hkv:(k.kv (k.eJ d.1)).1
    ·rw[hkv] at G;have ad:ay ((if(k.wa ((k.kv (k.eJ d.1)).2,d.2)).2=true then k.cW m (k.wa ((k.kv (k.eJ d.1)).2,d.2)).1 else(k.wa ((k.kv (k.eJ d.1)).2,d.2)).1)=f):=by
      have:=x.o;unfold b9.cW at this
      rw[hkv] at this
      exact this
     have s:=dt.wa (t:=((k.kv (k.eJ d.1)).2,d.2)) j.o.2.2;have s:ay ((k.wa ((k.kv (k.eJ d.1)).2,d.2)).1.2.length<=90000/\((k.wa ((k.kv (k.eJ d.1)).2,d.2)).2=true->k.mu (k.wa ((k.kv (k.eJ d.1)).2,d.2)).1.1<k.mu d.1)):=by refine⟨by rw[s.2.1];exact hq,fun e=>by have:=s.2.2 e;dsimp only at this;omega⟩
     generalize k.eJ d.1=s1 at*;generalize (k.kv s1).2=s2 at*;go_wp2
     go_region_held3 (fun w'=>w'.cell? (aq c.pk 4)=some (aj c.bs)) (go_keep)
      (first
        |(go_at_call 144;refine G.mono ?_;rintro e l ⟨N,rfl,o,H⟩;obtain⟨ag,hM,I⟩:=j.o.2.1 N s2 l ⟨o,j.o.2.2⟩ (C.trans H);obtain⟨b0,b1,o⟩:=o;obtain⟨_,_,_,_,g4,_⟩:=ey o;have l0:=aQ l _ g4;have g:=dq hM (j.o.1.trans I))
        |(go_at_call 79;refine(tC (kj c) l c.pk).mono ?_;rintro e b2 ⟨rfl,bd,be,ai⟩;have bg:=(ai.cell (p:=aq c.pk 4) l0).trans g4;have u:=g6 bd be ai)
        |(go_at_call 145;refine(Fk ar (t:=(s2,d.2)) ((c7 (dP c k) c.bs vr).below g.o.1 u.o.2.2) hq l.heap.size (l.heap.size+1) u.o.1 u.o.2.1 (fun h=>by have:=(c7 (dP c k) c.bs vr).lt g.o.1 _ h;omega) (fun h=>by have:=(c7 (dP c k) c.bs vr).lt g.o.1 _ h;omega) V).mono ?_;rintro e bi ⟨O,rfl,al,bl,bn⟩;have J:ay (_/\b8 F w O bi):=⟨al,⟨(g.o.2.below u.o.2.2).fr.trans bl (fun b hb=>hb.elim (g.o.2.sub b) (fun e=>aJ (by have:=g.o.2.fr.size;omega))),fun b hb=>(bn b hb).elim (g.o.2.sub b) (fun h=>aJ (by have q:=g.o.2.fr.size;have am:=u.o.2.2.size;omega))⟩⟩;obtain⟨b3,⟨⟨b4,b5,bo⟩,_⟩,_⟩:=n8 al;obtain⟨_,_,_,_,bp,_⟩:=ey bo))
     clear bp g4 bg bb j g u x aB C;cases hbw:(k.wa (s2,d.2)).2
     ·have D:ay (if false=true then k.mu (k.wa (s2,d.2)).1.1<m/\k.cW m (k.wa (s2,d.2)).1=f else(k.wa (s2,d.2)).1=f):=by
       have:=ad.o;rw[hbw] at this
       exact this
      go_wp2
      go_roundg m
      case measure=>have:=M.o;omega
      exact⟨O,(k.wa (s2,d.2)).1,false,rfl,J.o.1,J.o.2,D,s.o.1⟩
     ·have D:ay (if true=true then k.mu (k.wa (s2,d.2)).1.1<m/\k.cW m (k.wa (s2,d.2)).1=f else(k.wa (s2,d.2)).1=f):=by have q:=ad.o;rw[hbw] at q;have am:=s.o.2 hbw;have br:=L.o.2.2;exact⟨V,q⟩
      go_wp2
      go_roundg m
      case measure=>have:=M.o;omega
      exact⟨O,(k.wa (s2,d.2)).1,true,rfl,J.o.1,J.o.2,D,s.o.1⟩
    ·rw[hkv] at G;have D:ay (if true=true then k.mu (k.kv (k.eJ d.1)).2<m/\k.cW m ((k.kv (k.eJ d.1)).2,d.2)=f else((k.kv (k.eJ d.1)).2,d.2)=f):=by have q:=x.o;unfold b9.cW at q;rw[hkv] at q;have am:=L.o.2.1 hkv;have br:=L.o.2.2;exact⟨V,q⟩
     generalize k.eJ d.1=s1 at*;generalize (k.kv s1).2=s2 at*;clear A;go_wp2;refine wp_region_noPanic ?_;refine wp_region_any ae ?_;refine sY (T:=fun _=>True) (S:=fun _=>True) (St:=[]) _ _ _ _ ?_;refine fK (i:=0) (v:=?_) rfl ae ae ae ae (fun _ _ _ h=>h) (aK ⟨ac,?_⟩) trivial (aJ trivial) ?_
     rotate_left
     ·intro w P;go_simp
      try rfl
     try simp only [Act.put,List.getElem_toArray,List.getElem_cons_zero,List.setIfInBounds_toArray,List.set_cons_zero,List.set_cons_succ]
     refine xN (i:=1) ae ?_;refine xM rfl ac ?_;simp only [List.getElem_toArray,List.getElem_cons_succ,List.getElem_cons_zero];go_simp;refine G.mono ?_;rintro e l ⟨N,rfl,o,H⟩
     obtain⟨ag,hM,I⟩:=j.o.2.1 N s2 l ⟨o,j.o.2.2⟩ (C.trans H)
     have g:=dq hM (j.o.1.trans I)
     clear o H hM I;refine fK (i:=2) (v:=?_) rfl ae ae ae ae (fun _ _ _ h=>h) (aK ⟨ac,?_⟩) trivial (aJ trivial) ?_
     rotate_left
     ·intro w P;go_simp
      try rfl
     refine fK (i:=3) (v:=undef) rfl ae ae ae ae (fun _ _ _ h=>h) (aJ ⟨ac,rfl⟩) trivial (aJ trivial) ?_;refine fK (i:=4) (v:=undef) rfl ae ae ae ae (fun _ _ _ h=>h) (aJ ⟨ac,rfl⟩) trivial (aJ trivial) ?_;refine fK (i:=5) (v:=undef) rfl ae ae ae ae (fun _ _ _ h=>h) (aJ ⟨ac,rfl⟩) trivial (aJ trivial) ?_;refine fK (i:=6) (v:=undef) rfl ae ae ae ae (fun _ _ _ h=>h) (aJ ⟨ac,rfl⟩) trivial (aJ trivial) ?_
     try simp only [Act.put,List.getElem_toArray,List.getElem_cons_succ,List.getElem_cons_zero,List.setIfInBounds_toArray,List.set_cons_zero,List.set_cons_succ]
     refine fK (i:=7) (v:=undef) rfl ae ae ae ae (fun _ _ _ h=>h) (aJ ⟨ac,rfl⟩) trivial (aJ trivial) ?_;refine fK (i:=8) (v:=undef) rfl ae ae ae ae (fun _ _ _ h=>h) (aJ ⟨ac,rfl⟩) trivial (aJ trivial) ?_
     try simp only [Act.put,List.getElem_toArray,List.getElem_cons_succ,List.getElem_cons_zero,List.setIfInBounds_toArray,List.set_cons_zero,List.set_cons_succ]
     refine fK (i:=9) (v:=undef) rfl ae ae ae ae (fun _ _ _ h=>h) (aJ ⟨ac,rfl⟩) trivial (aJ trivial) ?_;refine fK (i:=10) (v:=undef) rfl ae ae ae ae (fun _ _ _ h=>h) (aJ ⟨ac,rfl⟩) trivial (aJ trivial) ?_;refine fK (i:=11) (v:=undef) rfl ae ae ae ae (fun _ _ _ h=>h) (aJ ⟨ac,rfl⟩) trivial (aJ trivial) ?_;refine fK (i:=12) (v:=?_) rfl ae ae ae ae (fun _ _ _ h=>h) (aK ⟨ac,?_⟩) trivial (aJ trivial) ?_
     rotate_left
     ·intro w P;go_simp
      try rfl
     refine fK (i:=13) (v:=?_) rfl ae ae ae ae (fun _ _ _ h=>h) (aK ⟨ac,?_⟩) trivial (aJ trivial) ?_
     rotate_left
     ·intro w P;go_simp
      try rfl
     refine xO ae ?_ _;refine NoPanic.normal ?_;go_wp2
     go_roundg m
     case measure=>have:=M.o;omega
     exact⟨ag,(s2,d.2),true,rfl,g.o.1,g.o.2,D,hq⟩
theorem Fl {j:Option Addr}{l m:Nat}(n:vr=.slice j l m){t:cu×List b7}(h:(c7 (dP c k) c.bs vr).J F t w)(hq:t.2.length<=90000)(x:Int):
 Calls prog 80 #[aj c.pk,ah x] w fun e w'=>∃b,e=.returned (.tuple #[])/\(c7 (dP c k) c.bs vr).J b (k.ke t x).2 w'/\b8 F w b w':=by
 obtain⟨D,⟨o,d⟩,p⟩:=n8 h;have f:=dq p (d.ma x).1;have E:ay ((k.ke t x).2=k.sp (k.ma t.1 x,t.2)):=rfl;go_enter func80,ntmps80;go_wp2_with fail;refine(pa o d x).mono ?_;rintro e w1 ⟨q,rfl,s,u⟩
 obtain⟨G,hM,v⟩:=f.o.1 q _ w1 ⟨s,f.o.2⟩ u;have g:=dq hM v;go_wp2_with fail;refine(yl n g.o.1 hq).mono ?_;rintro e H ⟨A,rfl,B,C⟩
 have i:=dq B (g.o.2.trans C)
 go_wp2_with fail;go_end0;exact⟨A,rfl,i.o.1,i.o.2⟩
end
def b9.eW (k:b9)(t:cu×List b7)(r:List b7):cu×List b7:=ft (dI cu) (fun s x=>k.al s.1 x) k.ke t r
def b9.sR (k:b9)(t:cu×List b7)(r:List b7):List b7:=eO (dI cu) (fun s x=>k.al s.1 x) k.ke (fun s x=>k.nw s.1 x) t r
def b9.jd (k:b9)(t:cu×List b7)(r:List b7):List b7:=eP (dI cu) (fun s x=>k.al s.1 x) k.ke (fun s x=>k.nw s.1 x) t r
theorem pd (k:b9):∀(n:Nat)(t:cu×List b7),(k.cW n t).2.length=t.2.length
 |0,t=>rfl
 |n+1,t=>by
  unfold b9.cW;split
  ·exact pd k n ((k.kv _).2,t.2)
  ·split
   ·exact(pd k n _).trans (oW _ _ _ _)
   ·exact oW _ _ _ _
theorem qB (k:b9)(t:cu×List b7)(x:Int):(k.ke t x).2.2.length=t.2.length:=pd k _ _
section
variable {c:e8}{k:b9}{F:Nat->Prop}{s:cu}{w:ax}{vr:Value}
theorem Fp (bx f:Nat)(C:bx≠f){D:Option Addr}{G H:Nat}(I:vr=.slice D G H):mQ (c7 (da (da (dP c k) f (jv (l4 c))) bx (dl c)) c.bs vr) (fun _=>True) (ia f).f (ia f).b (ia f).c k.ke:=by
 intro F t w x _ hn m;have hn:(k.ke t x).2.2.length<=90000:=hn;obtain⟨n,o,p⟩:=qt m;obtain⟨q,hy,s⟩:=qt n;rw[qB] at hn;have P:=Fl I q hn x;have c0:w.cell? (aq f 0)=some (l4 c).v:=aA hy
 have i:=jp o hy p s.1;have E:ay ((k.ke t x).1=x):=rfl;generalize (k.ke t x).1=M at E⊢;generalize (k.ke t x).2=J at P⊢;clear m n q o hy p s hn;show Calls prog 155 #[ah x,aj f] w _;go_enter func155,ntmps155;go_wp2_with fail;refine P.mono ?_;clear P;rintro e w1 ⟨j,rfl,hM,g⟩
 have K:=lt_of_some i.o.1;have L:=lt_of_some i.o.2.1;have u:=(g.fr.block bx K (fun d=>d.1.2 rfl)).trans i.o.1;have v:=(g.fr.block f L (fun d=>d.2 rfl)).trans i.o.2.1;have A:¬j f:=fun d=>(g.sub f d).elim (fun d=>d.2 rfl) (fun d=>by omega)
 have B:¬(j bx\/bx=f):=fun d=>d.elim (fun d=>(g.sub bx d).elim (fun d=>d.1.2 rfl) (fun d=>by omega)) C;have l:ay ((c7 (da (da (dP c k) f (jv (l4 c))) bx (dl c)) c.bs vr).J (fun b=>(j b\/b=f)\/b=bx) J w1/\Fr F w w1/\∀b,((j b\/b=f)\/b=bx)->F b\/w.heap.size<=b):=by
  refine⟨j_ (j_ hM v A) u B,g.fr.mono (fun b d=>d.1.1),fun b d=>?_⟩
  rcases d with(d|d)|d
  ·exact(g.sub b d).imp (fun d=>d.1.1) id
  ·exact aK (by rw[d];exact i.o.2.2.2)
  ·exact aK (by rw[d];exact i.o.2.2.1)
 clear hM g u v A B;go_wp2_with fail;go_ret;rw[E.o];exact⟨_,rfl,l.o.1,l.o.2.1,l.o.2.2⟩
theorem Fq (bx b:Nat)(f:bx≠b){g:Option Addr}{i j:Nat}(l:vr=.slice g i j):lS (c7 (da (da (dP c k) b (jv (l4 c))) bx (dl c)) c.bs vr) (fun _=>True) (iV bx) (ia b) (jg c) (fun s x=>k.al s.1 x) k.ke (fun s x=>k.nw s.1 x) where
 ea:=tx
 e6:=tz
 en:=tA
 ha:=by
  rintro F s w x _ ⟨d,ad,cap,e,_⟩
  exact tH bx b (l4 c) d s.1 w x trivial e
 hk:=Fp bx b f l
 ht:=by
  rintro F s w x _ ⟨d,ad,cap,e,_⟩
  exact lY (lY tD) d s.1 w x trivial e
 hl:=fun s x=>qB k s x
theorem Fs {o:Option Addr}{p:Nat}{r:List b7}(B:vr=.slice o r.length p){t:cu×List b7}(h:(c7 (dP c k) c.bs vr).J F t w)(hr:w.ownsRow 0 103 2 vr r.length (ev r))(hq:t.2.length+r.length<=90000)(bx f:Nat)(q:bx≠f)(C:w.heap[bx]?=some (dl c))(hy:w.heap[f]?=some (jv (l4 c)))(hn:¬F bx)(hm:¬F f):
 Calls prog 78 #[aj c.bs,.agg #[(iV bx).v,(ia f).v,(jg c).v]] w fun e w'=>∃a1 c1 n,e=.returned (.tuple #[])/\(c7 (dP c k) c.bs (.slice a1 (k.sR t r).length c1)).J n ((k.eW t r).1,k.jd t r) w'/\
  w'.ownsRow 0 103 2 (.slice a1 (k.sR t r).length c1) (k.sR t r).length (ev (k.sR t r))/\(∀b,some b=(Value.slice a1 (k.sR t r).length c1).ownBlock->¬n b/\w.heap.size<=b)/\Fr (fun b=>F b\/b=f\/b=bx) w w'/\(∀b,n b->F b\/w.heap.size<=b):=by
 subst B;refine(qa _ (fun _=>True) (iV bx) (ia f) (jg c) _ _ _ (Fq bx f q rfl) r o p rfl V (fun _ _=>⟨trivial,trivial⟩) _ t w (fun _ _=>⟨trivial,trivial⟩) hq (j_ (j_ h hy hm) C (fun d=>d.elim hn q)) (g7 hr)).mono ?_;rintro e w' ⟨a1,c1,a2,c2,D,Q,rfl,⟨s,ad,cap,⟨fp,⟨g,g1,R,E,u⟩,g2,g3,g4⟩,S,U,G,W,H,X,Y⟩,q3,I,i,j,l,J,K,L,M,N⟩
 have i:w'.heap[c.bs]?=some (.cells #[.slice a1 (k.sR t r).length c1,.slice a2 (k.jd t r).length c2] 153 (0,0)):=i;have j:=j;have l:=l;have v:∀b,g b->s b:=fun b hb=>(g4 b).2 (aK ((u b).2 (aK hb)))
 have m:∀b,g b->D b:=fun b hb=>G b (v b hb)
 have x:∀b,g b->b≠c.bs:=fun b hb e=>H (by show s c.bs;rw[<-e];exact v b hb)
 have A:=(dP c k).keep (w':=w') g1 I (fun b hb=>q3 b (m b hb) (x b hb))
 have O:F c.bs:=by obtain⟨_,_,_,_,_,_,_,P,_⟩:=h;exact P
 refine⟨a1,c1,fun b=>g b\/b=c.bs\/some b=(Value.slice a2 (k.jd t r).length c2).ownBlock,rfl,⟨g,a2,c2,A,i,eU l (fun _ _=>aY _),fun b hb=>aK hb,aJ (aK rfl),fun d=>x _ d rfl,fun b e=>⟨aJ (aJ e),fun d=>M b e (m b d)⟩,fun b hb=>?_⟩,eU j (fun _ _=>aY _),fun b e=>⟨fun d=>?_,(cn j b e).1⟩,J.mono (fun b d=>?_),fun b hb=>?_⟩
 ·rcases hb with hb|hb|hb
  ·exact(dP c k).lt A b hb
  ·rw[hb];exact lt_of_some i
  ·exact(cn l b hb).2
 ·rcases d with d|d|d
  ·exact L b e (m b d)
  ·obtain⟨ab,hc⟩:=e5 j b e;rw[d,i] at hc;simp at hc
  ·exact N b e d
 ·rcases d with(d|d)|d
  ·exact aK d
  ·exact aJ (aK d)
  ·exact aJ (aJ d)
 ·rcases hb with hb|hb|hb
  ·rcases K b (m b hb) with((d|d)|d)|d
   ·exact aK d
   ·exact absurd hb (by rw[d];exact E)
   ·exact absurd ((u b).2 (aK hb)) (by rw[d];exact g3)
   ·exact aJ d
  ·exact aK (by rw[hb];exact O)
  ·exact aJ (cn l b hb).1
def b9.cJ (k:b9)(s:cu):Nat->cu
 |0=>s
 |n+1=>k.ma (k.cJ s n) (k.s.rs.getD n 0)
theorem dt.cJ (h:cV k s):∀n,dt k s (k.cJ s n)
 |0=>dt.refl h
 |n+1=>(dt.cJ h n).trans (dt.ma (dt.cJ h n).eX _)
theorem Ft (h:(eI c k).J F s w)(g:cV k s):
 Calls prog 76 #[aj c.pk] w fun e w'=>∃b,e=.returned (.tuple #[])/\(eI c k).J b (k.cJ s 12) w'/\b8 F w b w':=by
 have m:=hide h;have n:=hide g;obtain⟨vt,o,h⟩:=h;obtain⟨_,c0,c3,_⟩:=gB h;obtain⟨u,_⟩:=ey h;clear h g;go_enter func76,ntmps76;go_wp2_with fail
 go_loopw [12] (fun iv wr=>∃(j:Nat)(b:Nat->Prop),j<=12/\iv=ah j/\ay ((eI c k).J b (k.cJ s j) wr/\b8 F w b wr)) (fun iv _=>12-(intOf iv).toNat)
 exact⟨0,F,aY _,rfl,⟨m.o,b8.refl _ _⟩⟩
 ·
   obtain⟨j,b,v,rfl,d⟩:=hrel;by_cases p:j<12
   ·obtain⟨vt,o,i⟩:=d.o.1;obtain⟨_,_,_,rt⟩:=gB i;have r1:=rt j p;have f:=pa d.o.1 (dt.cJ n.o j).eX (k.s.rs.getD j 0)
    have l:ay (k.ma (k.cJ s j) (k.s.rs.getD j 0)=k.cJ s (j+1)):=rfl;rw[l.o] at f;generalize k.s.rs.getD j 0=x at r1 f;clear i rt l;go_wp2_with fail;refine f.mono ?_;rintro e A ⟨q,rfl,j2,t⟩
    go_wp2_with fail;go_roundw;exact⟨j+1,q,V,af,(dq j2 (d.o.2.trans t))⟩
    simp[intOf];omega
   ·obtain rfl:j=12:=V;go_wp2_with fail;go_end0;exact⟨b,rfl,d.o.1,d.o.2⟩
end
theorem ym (z:Value)(n:Nat)(hz:z.cells.size=1):(Builtin.zeroCells z.cells n).size=n*1:=by rw[size_zeroCells,hz]
theorem yp (l:List Int):∀b∈l.map (Value.int .i64),b.oneCell'=true:=fun b c=>by obtain⟨x,_,rfl⟩:=List.mem_map.1 c;rfl
theorem yq {w:ax}{base:Nat}{e:TypeId}{ad:Option Addr}{cap:Nat}{l:List Int}(h:w.ownsRow base e 1 (.slice ad l.length cap) l.length (l.map (Value.int .i64))):∀a,ad=some a->∀j c,(l.map (Value.int .i64))[j]?=some c->w.cell? (a.add j)=some c:=fun a ea j c hj=>by
 have d:j<l.length:=by exact qv
 obtain⟨b,o,f,_,hc⟩:=gH h V;rw[ea] at f;cases f;rw[List.getElem?_map,aL d] at hj;have g:(⟨b,o,none⟩:Addr).add j=⟨b,o+j,none⟩:=by simp[Addr.add]
 rw[g,(hc j d),<-hj];simp[List.getD_eq_getElem?_getD,List.getElem?_eq_getElem d]
theorem Fu (w:ax)(n:Nat)(hn:n<=100000):
 Calls prog 242 #[.slice none 0 0,ah n] w fun e w'=>∃a1 c1,e=.returned (.slice a1 0 c1)/\w'.ownsRow w.heap.size 3 1 (.slice a1 0 c1) 0 []/\Below w.heap.size w w':=by
 obtain⟨c,hi,d,f,i⟩:=info_parts kD;rcases Nat.eq_zero_or_pos n with h0|h0
 ·subst h0;go_enter func242,ntmps242;go_wp2;go_ret;exact⟨none,0,rfl,bc _ _ _ _,aH _ _⟩
 ·have hr:=Lib.run_append_nil_zeros (P:=prog) w 74 3 74 3 c _ .i64 .i64 underlying74 underlying3 hi d n h0 (by rw[f];decide) V (by rw[i];omega)
  have j:=grownCap_ge w n 0 3;have b:=grownCap_le_maxLen w n 0 3 (by unfold maxLen;omega)
  generalize grownCap w n 0 3=g at hr j b;have hown:(w.drew.alloc (.cells (Builtin.zeroCells (Value.int .i64 0).cells n++Builtin.zeroCells (Value.int .i64 0).cells (g-n)) 3)).ownsRow w.heap.size 3 1 (.slice (some ⟨w.heap.size,0,none⟩) 0 g) 0 []:=
   World.ownsRow_made w.drew _ g bW b (by rw[Array.size_append,ym _ _ rfl,ym _ _ rfl];omega)
  have hb:Below w.heap.size w (w.drew.alloc (.cells (Builtin.zeroCells (Value.int .i64 0).cells n++Builtin.zeroCells (Value.int .i64 0).cells (g-n)) 3)):=(aH _ w).drew.alloc bW _;go_enter func242,ntmps242;exact ww
theorem ys (w:ax)(B:Nat)(l1 l2:List Int)(f g:Option Addr)(c1 c2:Nat)(s:w.cell? (aq B 0)=some (.slice f l1.length c1))(A:w.cell? (aq B 1)=some (.slice g l2.length c2))(C:w.ownsRow 0 3 1 (.slice f l1.length c1) l1.length (l1.map (Value.int .i64)))(D:w.ownsRow 0 3 1 (.slice g l2.length c2) l2.length (l2.map (Value.int .i64)))(hm:l1.length+l2.length<=100000):
 Calls prog 215 #[.slice (ak B) 2 2] w fun e w'=>∃a c,e=.returned (.slice a (l1.length+l2.length) c)/\w'.ownsRow w.heap.size 3 1 (.slice a (l1.length+l2.length) c) (l1.length+l2.length) ((l1++l2).map (Value.int .i64))/\Below w.heap.size w w':=by
 obtain⟨t,hi,u,v,x⟩:=info_parts kD;have i:=hide C;have j:=hide D;have hB:=aQ w _ s;go_enter func215,ntmps215;go_wp2
 go_loopw [3,11] (fun l iv wr=>wr=w/\((iv=ah 0/\l=ah 0)\/(iv=ah 1/\l=ah l1.length)\/(iv=ah 2/\l=ah (l1.length+l2.length:Nat)))) (fun _ iv _=>2-(intOf iv).toNat)
 exact⟨rfl,aK ⟨rfl,rfl⟩⟩
 ·
   obtain⟨hw,⟨rfl,rfl⟩|⟨rfl,rfl⟩|⟨rfl,rfl⟩⟩:=hrel
   all_goals
    have hw:=hw.symm;subst hw
   ·go_wp2;go_roundw;exact⟨trivial,aJ (aK ⟨af,af⟩)⟩
    simp[intOf]
   ·go_wp2;go_roundw;exact⟨trivial,aJ (aJ ⟨af,af⟩)⟩
    simp[intOf]
   ·go_wp2_with fail;refine(Fu w (l1.length+l2.length) hm).mono ?_;rintro e w1 ⟨a1,E,rfl,b,hb⟩
    go_wp2
    go_loopw [6,27] (fun m iv wk=>Below w.heap.size w wk/\((∃a c,iv=ah 0/\m=.slice a 0 c/\wk.ownsRow w.heap.size 3 1 (.slice a 0 c) 0 [])\/(∃a c,iv=ah 1/\m=.slice a l1.length c/\wk.ownsRow w.heap.size 3 1 (.slice a l1.length c) l1.length (l1.map (Value.int .i64)))\/(∃a c,iv=ah 2/\m=.slice a (l1.length+l2.length) c/\wk.ownsRow w.heap.size 3 1 (.slice a (l1.length+l2.length) c) (l1.length+l2.length) ((l1++l2).map (Value.int .i64))))) (fun _ iv _=>2-(intOf iv).toNat)
    exact⟨hb,aK ⟨a1,E,rfl,rfl,b⟩⟩
    ·
      obtain⟨hb,⟨a,c,rfl,rfl,b⟩|⟨a,c,rfl,rfl,b⟩|⟨a,c,rfl,rfl,b⟩⟩:=hrel
      ·have F:=(hb.cell (p:=aq B 0) hB).trans s;have hs:=hb.size;go_wp2_with (at_builtin;refine wO _ rfl _ _ 74 rfl w.heap.size 3 t (ah 0) 1 8 underlying74 hi u v x rfl aa (.slice a 0 c) 0 [] rfl b f l1.length c1 (l1.map (Value.int .i64)) rfl Z (ya i.o) (yq (cH i.o (fun k e=>hb.block k (cn i.o k e).2))) (yp l1) ?_ ?_ hs ?_;(unfold maxLen;omega);omega;intro a2 n G d o _;rw[Nat.zero_add,List.nil_append] at d)
       have q:=hb.grown o hs (fun k e=>(cn b k e.symm).1)
       go_wp2;go_roundw;exact⟨q,aJ (aK ⟨a2,n,af,rfl,d⟩)⟩
       simp[intOf]
      ·have F:=(hb.cell (p:=aq B 1) hB).trans A;have hs:=hb.size;go_wp2_with (at_builtin;refine wO _ rfl _ _ 74 rfl w.heap.size 3 t (ah 0) 1 8 underlying74 hi u v x rfl aa (.slice a l1.length c) l1.length (l1.map (Value.int .i64)) rfl b g l2.length c2 (l2.map (Value.int .i64)) rfl Z (ya j.o) (yq (cH j.o (fun k e=>hb.block k (cn j.o k e).2))) (yp l2) ?_ ?_ hs ?_;(unfold maxLen;omega);omega;intro a2 n G d o _;rw[<-List.map_append] at d)
       have q:=hb.grown o hs (fun k e=>(cn b k e.symm).1)
       go_wp2;go_roundw;exact⟨q,aJ (aJ ⟨a2,n,af,rfl,d⟩)⟩
       simp[intOf]
      ·go_wp2;go_ret;exact⟨a,c,rfl,b,hb⟩
section
variable {c:e8}{k:b9}{F:Nat->Prop}{s:cu}{w:ax}
theorem yt {vt b:Value}(h:(cT c k vt b).J F s w):w.ownsRow 0 3 1 c.yv k.Y.length (k.Y.map (Value.int .i64))/\w.ownsRow 0 3 1 c.ov k.G.length (k.G.map (Value.int .i64)):=by obtain⟨d,own,h,_⟩:=h;exact⟨h.yr,h.gr⟩
theorem yu (h:(eI c k).J F s w)(hl:k.T.length<=4000):
 Calls prog 141 #[aj c.pk] w fun e w'=>∃a i,e=.returned (.slice a k.T.length i)/\w'.ownsRow w.heap.size 3 1 (.slice a k.T.length i) k.T.length (k.T.map (Value.int .i64))/\Below w.heap.size w w':=by
 have v:k.T.length=k.G.length+k.Y.length:=by unfold b9.T;rw[aZ]
 have x:ay (k.T.map (Value.int .i64)=(k.G++k.Y).map (Value.int .i64)):=rfl;rw[v] at hl⊢;rw[x.o];obtain⟨vt,D,h⟩:=h;obtain⟨_,n,o,_,_,_,_,_,lk⟩:=ey h;obtain⟨yr,gr⟩:=yt h;obtain⟨d,f,A⟩:=eE yr;obtain⟨g,gc,B⟩:=eE gr;rw[A] at n yr;rw[B] at o gr;have C:=au w.drew (.cells #[.slice g k.G.length gc,.slice d k.Y.length f] 74)
 have j:=(av w).drew.trans (C.mono bW)
 have q:=aN w.drew (.cells #[.slice g k.G.length gc,.slice d k.Y.length f] 74)
 have P:=ys (w.drew.alloc (.cells #[.slice g k.G.length gc,.slice d k.Y.length f] 74)) w.heap.size k.G k.Y g d gc f (by simp only [World.cell?];rw[show w.heap.size=w.drew.heap.size from rfl,q];rfl) (by simp only [World.cell?];rw[show w.heap.size=w.drew.heap.size from rfl,q];rfl) (cH gr (fun b e=>j.block b (cn gr b e).2)) (cH yr (fun b e=>j.block b (cn yr b e).2)) V;have l:=hide j;go_enter func141,ntmps141;go_wp2_with fail
 go_region_held3 (fun w'=>w'.cell? (aq c.pk 1)=some (.slice d k.Y.length f)/\w'.cell? (aq c.pk 2)=some (.slice g k.G.length gc)) (go_keep)
  (first
    |(go_at_call 215;refine P.mono ?_;rintro e E ⟨a,i,rfl,t,hb⟩;have m:=l.o.trans (hb.mono l.o.size);have y1:=(m.cell (p:=aq c.pk 1) lk).trans n;have G:=(m.cell (p:=aq c.pk 2) lk).trans o;have u:=dq (eU t (fun b e=>aT l.o.size (cn t b e).1)) m))
 go_wp2_with fail;go_ret;exact⟨a,i,rfl,u.o.1,u.o.2⟩
end
def e_ {b:Type}(fm:b->Int->Int)(st:b->Int->b)(t:b)(a:Int):b:=if fm t a=-1 then t else st t a
def gU {b:Type}(fm:b->Int->Int)(st:b->Int->b)(t:b)(l:List Int):b:=l.foldl (e_ fm st) t
theorem tJ {g:Type}(o:dr g)(fm fd:g->Int->Int)(st:g->Int->g)(G:Nat->g->Prop)(T:List Int)(pk pw p ch f:Nat)(I:Array Value)(J:dN f)(l:List Int)(ad:Option Addr)(cap:Nat)(F:Nat->Prop)(t:g)(w:ax)
 (K:∀F t w a,o.J F t w->w.cell? (aq pk 0)=some (aj pw)/\w.cell? (aq pk 3)=some (.map (some ch))/\w.cell? (aq pw 0)=some (aj p)/\Mp w ch T (fm t)/\Calls prog 102 #[aj p,ah a] w fun r w'=>∃x z,r=.returned (.tuple #[ah x,ah (fd t a),ah z])/\Below w.heap.size w w')
 (M:∀t a,0<=fd t a/\fd t a<=12)(N:∀a∈l,(0<=a/\a<=100000)/\a∈T)(bi:l.length<=100000)
 (O:∀j F t w,j<l.length->G j t->o.J F t w->fm t (l.getD j 0)≠-1->Calls prog f (#[ah (l.getD j 0),ah (1+fd t (l.getD j 0))]++I) w fun r w'=>∃c,r=.returned (.tuple #[])/\o.J c (st t (l.getD j 0)) w'/\b8 F w c w')
 (P:∀j t,j<l.length->G j t->G (j+1) (e_ fm st t (l.getD j 0)))(h0:G 0 t)(e:o.J F t w)(Q:∀c B w',o.J c B w'->b8 F w c w'->iI w' ad l):
 Calls prog 157 #[aj pk,.slice ad l.length cap,.func (.func f) #[] I] w fun r w'=>∃c,r=.returned (.tuple #[])/\o.J c (gU fm st t l) w'/\b8 F w c w'/\G l.length (gU fm st t l):=by
 have ai:ay (∀F t w a,o.J F t w->_):=K;have al:ay (∀j F t w,j<l.length->G j t->o.J F t w->fm t (l.getD j 0)≠-1->_):=O;have am:ay (∀j t,j<l.length->G j t->_):=P;have an:ay (∀c B w',o.J c B w'->b8 F w c w'->_):=Q;have ao:ay (_):=N;have ap:ay (∀t a,_):=M;have bl:∀(args:Array Value)(w:ax),_=_:=J;clear K O P Q N M J;go_enter func157,ntmps157;go_wp2_with fail
 go_loopw [13] (fun iv wr=>∃(j:Nat)(d:Nat->Prop)(b:g),j<=l.length/\iv=ah j/\ay (gU fm st t (l.take j)=b)/\ay (G j b)/\o.J d b wr/\b8 F w d wr) (fun iv _=>l.length-(intOf iv).toNat)
 case atStart=>exact⟨0,F,t,aY _,rfl,rfl,h0,e,b8.refl _ _⟩
 case round=>
  clear h0 e;obtain⟨j,d,b,bn,rfl,C,E,e,s⟩:=hrel;by_cases i:j<l.length
  ·obtain⟨bo,bp,ar,br,hc⟩:=an.o d b wr e s V;have aB:=hc j i;subst ar;have R:l.getD j 0∈l:=by rw[aE,aL i];exact a6 i
   obtain⟨aF,S⟩:=ao.o _ R;have U:=jc aF.1 V;have W:ay (gU fm st t (l.take (j+1))=e_ fm st b (l.getD j 0)):=by
    show _=_;rw[gx l j i 0];unfold gU;rw[List.foldl_append];have:=C.o;unfold gU at this
    rw[this];rfl
   have X:ay (_):=am.o j b i E.o;have k:=fun w h=>al.o j d b w i E.o h;obtain⟨aR,aV,a0,⟨D,o1,a1,Y⟩,L⟩:=ai.o d b wr (l.getD j 0) e;have u:=hide (Y _ S)
   have bs:=ap.o b (l.getD j 0)
   have A:ay (_/\_):=⟨e,s⟩
   have k:ay (∀w,o.J d b w->fm b (l.getD j 0)≠-1->_):=k;clear hc R S e s a1 Y;by_cases hw:fm b (l.getD j 0)=-1
   ·have n:ay (e_ fm st b (l.getD j 0)=b):=by show _=_;unfold e_;rw[aI hw]
    rw[hw] at u;clear k L;generalize l.getD j 0=a at*;go_wp2_with (at_lookup;refine wpList_lookup_own_int _ rfl _ _ 127 rfl 3 3 .i64 iM underlying127 underlying3 (lV _) ch T.length D rfl o1 _ _ rfl U ?_;intro z q H;obtain rfl:z=-1:=(by have:=q.symm.trans u.o;simpa using this);clear q H)
    clear aB aR aV a0 o1;go_roundw
    case rel=>exact⟨j+1,d,b,V,af,by show _=_;rw[W.o,n.o],by show G _ _;rw[<-n.o];exact X.o,A.o.1,A.o.2⟩
    case measure=>simp[intOf];omega
   ·have n:ay (e_ fm st b (l.getD j 0)=st b (l.getD j 0)):=by show _=_;unfold e_;rw[aG hw]
    have a2:ay (∀w,o.J d b w->_):=fun w h=>k.o w h hw;clear k;generalize l.getD j 0=a at*;generalize fm b a=v at*;generalize fd b a=m at*;generalize st b a=bb at*;go_wp2_with (at_lookup;refine wpList_lookup_own_int _ rfl _ _ 127 rfl 3 3 .i64 iM underlying127 underlying3 (lV _) ch T.length D rfl o1 _ _ rfl U ?_;intro z q H;obtain rfl:z=v:=(by have:=q.symm.trans u.o;simpa using this);clear q H u)
    refine L.mono ?_;rintro r w1 ⟨x,y,rfl,ab⟩
    go_wp2_with fail;refine(a2.o w1 (o.below A.o.1 ab)).mono ?_;rintro r bt ⟨bd,rfl,be,bg⟩
    have ag:=dq be ((A.o.2.below ab).trans bg)
    go_wp2_with fail;go_roundw;exact⟨j+1,bd,bb,V,af,by show _=_;rw[W.o,n.o],by show G _ _;rw[<-n.o];exact X.o,ag.o.1,ag.o.2⟩
    simp[intOf];omega
  ·obtain rfl:j=l.length:=V;rw[bu] at C;go_wp2_with fail;go_end0;rw[C.o];exact⟨d,rfl,e,s,E.o⟩
theorem yx {c:Type}(o:dr c)(fm fd:c->Int->Int)(st:c->Int->c)(G:Nat->c->Prop)(T:List Int)(pk pw p ch f:Nat)(g:Array Value)(n:dN f)(l:List Int)(ad:Option Addr)(cap:Nat)(F:Nat->Prop)(t:c)(w:ax)
 (q:∀F t w a,o.J F t w->w.cell? (aq pk 0)=some (aj pw)/\w.cell? (aq pk 3)=some (.map (some ch))/\w.cell? (aq pw 0)=some (aj p)/\Mp w ch T (fm t)/\Calls prog 102 #[aj p,ah a] w fun r w'=>∃x z,r=.returned (.tuple #[ah x,ah (fd t a),ah z])/\Below w.heap.size w w')
 (s:∀t a,0<=fd t a/\fd t a<=12)(u:∀a∈l,(0<=a/\a<=100000)/\a∈T)(v:l.length<=100000)
 (A:∀j F t w,j<l.length->G j t->o.J F t w->fm t (l.getD j 0)≠-1->Calls prog f (#[ah (l.getD j 0),ah (1+fd t (l.getD j 0))]++g) w fun r w'=>∃d,r=.returned (.tuple #[])/\o.J d (st t (l.getD j 0)) w'/\b8 F w d w')
 (B:∀j t,j<l.length->G j t->G (j+1) (e_ fm st t (l.getD j 0)))(h0:G 0 t)(C:o.J F t w)(i:iI w ad l)(hn:0<l.length->∀z,ad=some z->¬F z.block):
 Calls prog 157 #[aj pk,.slice ad l.length cap,.func (.func f) #[] g] w fun r w'=>∃d,r=.returned (.tuple #[])/\o.J d (gU fm st t l) w'/\b8 F w d w'/\G l.length (gU fm st t l):=
 tJ o fm fd st G T pk pw p ch f g n l ad cap F t w q s u v A B h0 C (fun d _ w' _ k=>i.keep k.fr.size (fun hp z e=>k.fr.block _ (by obtain⟨b,D,m,hb,_⟩:=i hp;rw[e] at m;cases m;exact hb) (hn hp z e)))
abbrev kk (n:Int):Obj:=.cells #[ah n] 3 (0,0)
def g_ {g:Type}(o:dr g)(d:Nat):dr (g×Int) where
 J F t w:=∃c,o.J c t.1 w/\w.heap[d]?=some (kk t.2)/\¬c d/\∀b,F b↔(c b\/b=d)
 lt:=by
  rintro F t w ⟨c,h,f,_,e⟩ b hb;rcases(e b).1 hb with hb|hb
  ·exact o.lt h b hb
  ·rw[hb];exact lt_of_some f
 keep:=by rintro F t w w' ⟨c,h,f,hn,e⟩ hs hk;exact⟨c,o.keep h hs (fun b hb=>hk b ((e b).2 (aK hb))),(hk d ((e d).2 (aJ rfl))).trans f,hn,e⟩
section
variable {gZ:Type}{o:dr gZ}{bx f3:Nat}{x:Obj}{F:Nat->Prop}{w:ax}
theorem gC {t:gZ}(h:(da o bx x).J F t w):∃e,o.J e t w/\w.heap[bx]?=some x/\bx<w.heap.size/\∀c f w1,o.J c f w1->b8 e w c w1->(da o bx x).J (fun b=>c b\/b=bx) f w1/\b8 F w (fun b=>c b\/b=bx) w1:=by
 obtain⟨e,h,g2,g3,g4⟩:=h;refine⟨e,h,g2,lt_of_some g2,fun c f w1 g hT=>⟨⟨c,g,(hT.fr.block bx (lt_of_some g2) g3).trans g2,fun d=>(hT.sub bx d).elim g3 (fun d=>by have:=lt_of_some g2;omega),fun b=>Iff.rfl⟩,⟨hT.fr.mono (fun b hb=>(g4 b).2 (aK hb)),fun b hb=>?_⟩⟩⟩
 exact tE
theorem lx {t:gZ×Int}(h:(g_ o f3).J F t w):∃e,o.J e t.1 w/\w.heap[f3]?=some (kk t.2)/\f3<w.heap.size/\∀c f w1,o.J c f w1->b8 e w c w1->(g_ o f3).J (fun b=>c b\/b=f3) (f,t.2) w1/\b8 F w (fun b=>c b\/b=f3) w1:=by
 obtain⟨e,h,g2,g3,g4⟩:=h;refine⟨e,h,g2,lt_of_some g2,fun c f w1 g hT=>⟨⟨c,g,(hT.fr.block f3 (lt_of_some g2) g3).trans g2,fun d=>(hT.sub f3 d).elim g3 (fun d=>by have:=lt_of_some g2;omega),fun b=>Iff.rfl⟩,⟨hT.fr.mono (fun b hb=>(g4 b).2 (aK hb)),fun b hb=>?_⟩⟩⟩
 exact tE
theorem n_ {t:gZ×Int}(h:(g_ o f3).J F t w):w.cell? (aq f3 0)=some (ah t.2)/\w.frozen? (aq f3 0)=false:=by obtain⟨b,h,g2,g3,g4⟩:=h;exact⟨by simp[World.cell?,g2],by simp[World.frozen?,g2]⟩
theorem yy {t:gZ×Int}(h:(g_ o f3).J F t w)(m:Int):(g_ o f3).J F (t.1,m) (w.setCell ⟨f3,0,none⟩ (.int .i64 m))/\b8 F w F (w.setCell ⟨f3,0,none⟩ (.int .i64 m)):=by
 obtain⟨c,h,g2,g3,g4⟩:=h;have fr:Fr (fun b=>b=f3) w (w.setCell ⟨f3,0,none⟩ (.int .i64 m)):=(Fr.refl _ w).set _ 0 _ rfl;refine⟨⟨c,o.keep h fr.size (fun b hb=>fr.block b (o.lt h b hb) (fun e=>g3 (by rw[<-e];exact hb))),?_,g3,g4⟩,⟨fr.mono (fun b e=>(g4 b).2 (aJ e)),fun _ d=>aK d⟩⟩
 simp only [World.setCell,Array.getElem?_modify,if_true,g2,Option.map_some];simp
end
section
variable {c:e8}{k:b9}{vt cr:Value}{F:Nat->Prop}{s:cu}{w:ax}
theorem Fw (h:(cT c k vt cr).J F s w):
 Calls prog 82 #[aj c.pk] w fun e w'=>e=.returned (ah k.a.O)/\Below w.heap.size w w':=by
 obtain⟨b,c0,_⟩:=gB h;obtain⟨l,_⟩:=ey h;have P:=kC w b;have g:=hide h;have k1:=b.hO;have m:=b.hg;clear h b;go_enter func82,ntmps82;go_wp2_with fail;refine P.mono ?_;rintro e w1 ⟨rfl,d⟩
 have f:=(cT c k vt cr).below g.o d;obtain⟨b,n,_⟩:=gB f;obtain⟨o,_⟩:=ey f;have P:=oO w1 b;go_wp2_with fail;refine P.mono ?_;rintro e p ⟨rfl,i⟩
 have j:=hide (d.trans (i.mono d.size))
 go_wp2_with fail;go_ret;exact⟨af,j.o⟩
theorem Fx {bp d:Nat}{n m a:Int}(h:(g_ (da (cT c k vt cr) bp (dl c)) d).J F (s,n) w)(ht:k.T.length<=4000)(ha:a∈k.T)(hp:0<=a/\a<=2000)(hn:0<=n/\n<=100000)(hm:0<=m/\m<=13):
 Calls prog 158 #[ah a,ah m,aj d,aj bp] w fun e w'=>∃j,e=.returned (.tuple #[])/\(g_ (da (cT c k vt cr) bp (dl c)) d).J j ({s with f:=gz s.f a n},n+m) w'/\b8 F w j w':=by
 obtain⟨q,_⟩:=n_ h;obtain⟨_,g,_⟩:=lx h;obtain⟨_,i,l,_⟩:=gC g;obtain⟨_,_,_,O,_⟩:=ey i;have l:w.cell? (aq bp 0)=some (aj c.pk):=aA l
 clear g i;obtain⟨P,g,_,_,u⟩:=lx ((g_ (da (cT c k vt cr) bp (dl c)) d).below h (aH _ w).drew)
 obtain⟨Q,i,_,_,v⟩:=gC g;obtain⟨⟨D,o1,x,A⟩,hM⟩:=o9 i;obtain⟨B,R,C,E⟩:=o1.update (t:=127) (e:=3) iM underlying127 (by unfold maxLen;omega) (jc hp.1 V) (mW n (WalkArith.wf_i64 ⟨V,V⟩))
 obtain⟨G,H⟩:=hM B _ (Mp.put o1 x A ha C) ((Fr.refl _ w.drew).grown E (fun b e=>aK (by cases e;rfl)))
 obtain⟨I,J⟩:=v _ _ _ G H;obtain⟨o,K⟩:=u _ _ _ I J;obtain⟨L,S⟩:=n_ o;have p:ay (_/\_):=⟨o,(b8.of (aH _ w).drew).trans K⟩
 dsimp only at q L;go_enter func158,ntmps158;go_wp2
 go_region
 go_wp2;go_end0;obtain⟨M,N⟩:=yy p.o.1 (n+m)
 exact⟨_,rfl,M,p.o.2.trans N⟩
end
def b9.l5 (k:b9)(t:cu×Int)(a:Int):cu×Int:=({t.1 with f:=gz t.1.f a t.2},t.2+(1+pf (k.ld a)))
def b9.l6 (k:b9)(t:cu×Int)(l:List Int):cu×Int:=gU (fun t a=>t.1.f a) k.l5 t l
def b9.pl (k:b9)(s:cu):cu×Int:=k.l6 (s,k.a.N) k.T
section
variable {c:e8}{k:b9}{vt cr:Value}{F:Nat->Prop}{s:cu}{w:ax}
theorem Fy:dN 158:=f_ func158 ae rfl
theorem Fz {bp i:Nat}(h:(g_ (da (cT c k vt cr) bp (dl c)) i).J F (s,(k.a.N:Int)) w)(ht:k.T.length<=4000)(hp:∀a∈k.T,0<=a/\a<=2000)(hN:k.a.N<=2000){ad:Option Addr}{l B:Nat}(hr:w.ownsRow B 3 1 (.slice ad k.T.length l) k.T.length (k.T.map (Value.int .i64)))(hB:∀b,F b->b<B):
 Calls prog 157 #[aj c.pk,.slice ad k.T.length l,.func (.func 158) #[] #[aj i,aj bp]] w fun e w'=>∃g,e=.returned (.tuple #[])/\(g_ (da (cT c k vt cr) bp (dl c)) i).J g (k.pl s) w'/\b8 F w g w'/\0<=(k.pl s).2/\(k.pl s).2<=60000:=by
 have E:=yx _ (fun t a=>t.1.f a) (fun _ a=>pf (k.ld a)) k.l5 (fun j t=>0<=t.2/\t.2<=2000+13*(j:Int)) k.T c.pk k.a.pw k.a.p c.ch 158 #[.pointer _,.pointer _] Fy k.T ad l F (s,(k.a.N:Int)) w
  (by
    rintro F t o a p;obtain⟨_,f,_⟩:=lx p;obtain⟨_,d,_⟩:=gC f;obtain⟨c0,_,_,c3,_⟩:=ey d;obtain⟨q,c5,_⟩:=gB d;obtain⟨hM,_⟩:=o9 d;refine⟨c0,c3,c5,hM,(gd a o q).mono ?_⟩
    rintro r w' ⟨rfl,hb⟩
    exact⟨_,_,rfl,hb⟩)
  (fun t a=>dj _) (fun a ha=>⟨by have:=hp a ha;omega,ha⟩) V
  (by
    rintro j F t o m ⟨g1,g2⟩ u _;have hm:k.T.getD j 0∈k.T:=by rw[aE,aL m];exact a6 m
    have f:=hp _ hm;have d:=dj (k.ld (k.T.getD j 0))
    exact Fx (s:=t.1) (n:=t.2) u ht hm f ⟨g1,V⟩ V)
  (by
    rintro j t m ⟨g1,g2⟩
    have d:=dj (k.ld (k.T.getD j 0))
    unfold e_;split
    ·exact⟨g1,V⟩
    ·unfold b9.l5;exact⟨V,V⟩)
  ⟨V,V⟩ h (gH hr)
  (fun v z e hz=>by obtain⟨b,cap,x⟩:=eT hr v;cases x;cases e;have d:=(cn hr b rfl).1;have:=hB b hz;omega)
 refine E.mono ?_;rintro r w' ⟨g,rfl,f,d,A,C⟩
 exact⟨g,rfl,f,d,A,Int.le_trans C V⟩
theorem FA (h:(cT c k vt cr).J F s w)(ht:k.T.length<=4000)(hp:∀a∈k.T,0<=a/\a<=2000):
 Calls prog 81 #[aj c.pk] w fun e w'=>∃f,e=.returned (ah ((k.pl s).2-k.a.N))/\(cT c k vt cr).J f (k.pl s).1 w'/\b8 F w f w':=by
 have D:=hide h;have m:=au w (dl c)
 have h0:=(cT c k vt cr).below h m;obtain⟨n,c0,_⟩:=gB h0;obtain⟨ap,_⟩:=ey h0;have P:=mL _ n;have n1:=n.hN';have E:=hide m;clear h h0 n m;go_enter func81,ntmps81;go_wp2_with fail;refine P.mono ?_;clear P;rintro e w1 ⟨rfl,G⟩
 have o:=(G.block _ Z).trans (aN _ _)
 have N:w1.cell? (aq w.heap.size 0)=some (aj c.pk):=aA o
 have q:=(cT c k vt cr).lt D.o;have t:=lt_of_some o;have i:Below w1.heap.size w1 (w1.alloc (kk k.a.N)):=au w1 _;have u:=E.o.trans (G.mono E.o.size)
 have H:=(cT c k vt cr).below ((cT c k vt cr).below D.o u) i;have O:(da (cT c k vt cr) w.heap.size (dl c)).J (fun b=>F b\/b=w.heap.size) s (w1.alloc (kk k.a.N)):=⟨F,H,(i.block _ t).trans o,fun d=>by have:=q _ d;omega,fun b=>Iff.rfl⟩
 have Q:(g_ (da (cT c k vt cr) w.heap.size (dl c)) w1.heap.size).J (fun b=>(F b\/b=w.heap.size)\/b=w1.heap.size) (s,(k.a.N:Int)) (w1.alloc (kk k.a.N)):=⟨_,O,aN _ _,fun d=>d.elim (fun d=>by have:=q _ d;omega) (fun d=>by omega),fun b=>Iff.rfl⟩
 have hd:=(aH (w1.alloc (kk k.a.N)).heap.size (w1.alloc (kk k.a.N))).drew;have R:=yu (c:=c) ⟨vt,cr,(cT c k vt cr).below H hd⟩ ht;have j:ay (_/\_/\_/\_/\(w1.alloc (kk k.a.N)).drew.heap.size=w1.heap.size+1):=⟨(g_ (da (cT c k vt cr) w.heap.size (dl c)) w1.heap.size).below Q hd,(u.trans (i.mono u.size)).trans (hd.mono (by simp;omega)),q,t,Z⟩
 have S:=(i.cell (p:=aq w.heap.size 0) t).trans N;have I:=dq ht hp;go_wp2_with fail
 go_region_held3 (fun w'=>w'.cell? (aq w.heap.size 0)=some (aj c.pk)) (go_keep)
  (first
    |(go_at_call 141;refine R.mono ?_;rintro e ar ⟨aB,aF,rfl,U,l⟩;have aR:=(l.cell (p:=aq w.heap.size 0) (by have:=j.o.2.2.2;simp;omega)).trans S;have v:=dq U l)
    |(go_at_call 157;refine(Fz ((g_ (da (cT c k vt cr) w.heap.size (dl c)) w1.heap.size).below j.o.1 v.o.2) I.o.1 I.o.2 V v.o.1 (fun b hb=>by have g:=j.o.2.2;rw[g.2.2];rcases hb with(hb|hb)|hb;(have:=g.1 b hb;omega);omega;omega)).mono ?_;rintro e x ⟨aV,rfl,A,W,b1,b2⟩;have a0:=(n_ A).1;obtain⟨Y,g,_,_,_⟩:=lx A;obtain⟨J,B,C,_,_⟩:=gC g;have a1:x.cell? (aq w.heap.size 0)=some (aj c.pk):=aA C;clear g B C;have ab:=dq A W))
 all_goals
  have ad:ay (∃f,(cT c k vt cr).J f (k.pl s).1 x/\b8 F w f x):=by
   obtain⟨⟨Y,⟨J,B,C,ag,K⟩,a2,ai,al⟩,L⟩:=ab.o;obtain⟨_,am,q3,bb,bd⟩:=j.o;have l:=v.o.2;have M:_:=am.trans (l.mono V)
   refine⟨J,B,⟨(Fr.of (X:=F) M).trans L.fr (fun b d=>?_),fun b hb=>?_⟩⟩
   ·rcases d with(d|d)|d
    ·exact aK d
    ·exact aJ V
    ·exact aJ V
   ·rcases L.sub b ((al b).2 (aK ((K b).2 (aK hb)))) with((d|d)|d)|d
    ·exact aK d
    ·exact absurd hb (by rw[d];exact ag)
    ·exact absurd ((K b).2 (aK hb)) (by rw[d];exact ai)
    ·exact aJ (by have:=M.size;omega)
  go_wp2_with fail;go_ret;obtain⟨f,an,ao⟩:=ad.o;exact⟨f,by first|rfl|go_num,an,ao⟩
end
def b9.ar (k:b9)(y g:Nat)(ws:List Int):b9:={k with s:={k.s with y:=y,g:=g,ws:=ws}}
def b9.hC (k:b9)(a x:Int):b9:=k.ar k.s.y k.s.g (if dd k.a.N k.s.y k.s.g a=true then k.s.ws.set a.toNat x else k.s.ws)
def b9.qC (k:b9)(i:Nat)(x:Int):b9:={k with s:={k.s with rs:=k.s.rs.set i x}}
def b9.brk (k:b9)(s:cu)(a:Int):b9:=
 if(pk (k.ld a)=3\/pk (k.ld a)=4)/\k.cS s (k.ld (a+1))=true then(if pk (k.ld a)=4 then(k.hC (a+1) 3).hC (a+2) 3 else k.hC (a+1) 3) else k
section
variable {c:e8}{k:b9}{vt cr:Value}{F:Nat->Prop}{s:cu}{w:ax}
open Classical in
theorem pi (h:(cT c k vt cr).J F s w):∃f,(dX k.a).J f k.s w/\∀g n w',(dX k.a).J g n w'->b8 f w g w'->∃p,(cT c {k with s:=n} vt cr).J p s w'/\b8 F w p w':=by
 obtain⟨f,own,h,o⟩:=h;refine⟨f,h.wd,fun g n w' q m=>⟨_,⟨g,fun b=>if g b then 1 else if f b then 0 else own b,?_,fun b=>Iff.rfl⟩,⟨m.fr.mono (fun b d=>(o b).2 (by rw[(h.w1 b).1 d];decide)),fun b hb=>?_⟩⟩⟩
 ·have l:∀b j,own b=j->j≠0->j≠1->(if g b then 1 else if f b then 0 else own b)=j:=fun b j e h0 t=>by
   have n1:¬f b:=fun d=>t (e.symm.trans ((h.w1 b).1 d))
   rw[aG (fun d=>(m.sub b d).elim n1 (fun d=>by have:=h.lt b V;omega)),aG n1];exact e
  have hk:∀b,b<w.heap.size->own b≠1->w'.heap[b]?=w.heap[b]?:=fun b hb hn=>m.fr.block b hb (fun d=>hn ((h.w1 b).1 d))
  exact {
   wd:=q,w1:=fun b=>⟨fun d=>by rw[aI d],fun d=>by
    by_cases e:g b
    ·exact e
    ·rw[aG e] at d;by_cases i:f b
     ·rw[aI i] at d;omega
     ·rw[aG i] at d;exact absurd ((h.w1 b).2 d) i⟩
   cb:=(hk _ (lt_of_some h.cb) (by rw[h.k1];decide)).trans h.cb,k1:=l _ _ h.k1 aa aa
   mp:=h.mp.same (hk _ h.mp.lt (by rw[h.m1];decide)),m1:=l _ _ h.m1 aa aa
   tr:=cH h.tr (fun b e=>hk b (cn h.tr b e).2 (by rw[h.gS b e];decide)),gS:=fun b e=>l _ _ (h.gS b e) aa aa
   er:=cH h.er (fun b e=>hk b (cn h.er b e).2 (by rw[h.eo b e];decide)),eo:=fun b e=>l _ _ (h.eo b e) aa aa
   yr:=cH h.yr (fun b e=>hk b (cn h.yr b e).2 (by rw[h.h_ b e];decide)),h_:=fun b e=>l _ _ (h.h_ b e) aa aa
   gr:=cH h.gr (fun b e=>hk b (cn h.gr b e).2 (by rw[h.go b e];decide)),go:=fun b e=>l _ _ (h.go b e) aa aa
   lt:=fun b hb=>by
    by_cases e:g b
    ·exact(dX k.a).lt q b e
    ·rw[aG e] at hb;by_cases i:f b
     ·rw[aI i] at hb;exact absurd rfl hb
     ·rw[aG i] at hb;exact aM (h.lt b hb) m.fr.size}
 ·dsimp only at hb;by_cases e:g b
  ·exact(m.sub b e).imp (fun d=>(o b).2 (by rw[(h.w1 b).1 d];decide)) id
  ·rw[aG e] at hb;by_cases i:f b
   ·rw[aI i] at hb;exact absurd rfl hb
   ·rw[aG i] at hb;exact aK ((o b).2 hb)
theorem oa (h:(cT c k vt cr).J F s w):At w k.a.p k.a.q k.a.N k.a.O k.s.y k.s.g k.s.ws/\∀w' y g ws,At w' k.a.p k.a.q k.a.N k.a.O y g ws->c_ k.a.p k.a.q w w'->∃b,(cT c (k.ar y g ws) vt cr).J b s w'/\b8 F w b w':=by
 obtain⟨j,d,e⟩:=pi h;obtain⟨g1,g2⟩:=kH d;refine⟨g1,fun w' y g ws ha f=>?_⟩
 obtain⟨i,j2⟩:=g2 w' y g ws ha f;exact e _ _ _ i j2
theorem FB (h:(cT c k vt cr).J F s w)(i:Nat)(x:Int):∃b,(cT c (k.qC i x) vt cr).J b s (w.setCell ⟨k.a.nb,i,none⟩ (.int .i64 x))/\b8 F w b (w.setCell ⟨k.a.nb,i,none⟩ (.int .i64 x)):=by obtain⟨g,d,e⟩:=pi h;obtain⟨f,j2⟩:=xR d i x;exact e _ _ _ f j2
theorem FC (h:(cT c k vt cr).J F s w)(a:Int)(ha:0<=a/\a<=2000):
 Calls prog 160 #[aj c.pk,ah a] w fun e w'=>∃W,e=.returned (.tuple #[])/\(cT c (k.brk s a) vt cr).J W s w'/\b8 F w W w':=by
 have q:ay ((cT c k vt cr).J F s w):=h;obtain⟨K,_⟩:=ey h;obtain⟨L,c0,_⟩:=gB h;have P:=gd a w L;have m:ay (k.brk s a=if(pk (ld k.a.N k.s.y k.s.g k.s.ws a)=3\/pk (ld k.a.N k.s.y k.s.g k.s.ws a)=4)/\k.cS s (k.ld (a+1))=true then(if pk (ld k.a.N k.s.y k.s.g k.s.ws a)=4 then(k.hC (a+1) 3).hC (a+2) 3 else k.hC (a+1) 3) else k):=rfl;have ao:IntKind.i64.wrap (a+1)=a+1:=by rw[bk];omega
 have ap:IntKind.i64.wrap (a+2)=a+2:=by rw[bk];omega
 generalize k.brk s a=i at m⊢;generalize pk (ld k.a.N k.s.y k.s.g k.s.ws a)=M at P m;generalize pf (ld k.a.N k.s.y k.s.g k.s.ws a)=ar at P;generalize pc (ld k.a.N k.s.y k.s.g k.s.ws a)=cc at P;clear h L;by_cases H:M=3\/M=4
 ·have N:ay (∀w1,Below w.heap.size w w1->Calls prog 98 #[aj k.a.p,ah (a+1)] w1 fun e w'=>e=.returned (ah (k.ld (a+1)))/\Below w1.heap.size w1 w'):=fun w1 hb=>jH (a+1) w1 (gB ((cT c k vt cr).below q.o hb)).1;have I:ay (∀w1,Below w.heap.size w w1->Calls prog 154 #[aj c.pk,ah (k.ld (a+1))] w1 fun e w'=>e=.returned (.bool (k.cS s (k.ld (a+1))))/\Below w1.heap.size w1 w'):=fun w1 hb=>o_ ((cT c k vt cr).below q.o hb) _;generalize k.ld (a+1)=x at N I m;cases hl:k.cS s x
  ·have E:ay (i=k):=by show i=k;rw[m.o,hl,aG (fun O=>by simp at O)]
   rw[hl] at I;clear m;rcases H with rfl|rfl
   all_goals
    go_enter func160,ntmps160;go_wp2_with fail;refine P.mono ?_;clear P;rintro e w1 ⟨rfl,f⟩
    have j:=(cT c k vt cr).below q.o f;obtain⟨D,_⟩:=ey j;obtain⟨_,G,_⟩:=gB j;clear j K c0;go_wp2_with fail;refine(N.o w1 f).mono ?_;rintro e o ⟨rfl,v⟩
    have g:=f.trans (v.mono f.size)
    go_wp2_with fail;refine(I.o o g).mono ?_;rintro e p ⟨rfl,A⟩
    have l:ay ((cT c i vt cr).J F s p/\b8 F w F p):=by
     have hb:=g.trans (A.mono g.size)
     rw[E.o];exact⟨(cT c k vt cr).below q.o hb,b8.of hb⟩
    clear f v A g G D;go_wp2_with fail;refine a3 (results_none rfl _ _ _) rfl ?_;exact⟨F,rfl,l.o.1,l.o.2⟩
  ·rw[hl] at I;have Q:ay (∀k w1,(∃d,(cT c k vt cr).J d s w1/\b8 F w d w1)->∀(a:Int),Calls prog 93 #[aj k.a.p,ah a,ah 3] w1 fun e w'=>∃b,e=.returned (.bool b)/\(∃d,(cT c (k.hC a 3) vt cr).J d s w'/\b8 F w d w')/\w'.cell? (aq c.pk 0)=some (aj k.a.pw)/\w'.cell? (aq k.a.pw 0)=some (aj k.a.p)):=by
    rintro k w1 ⟨d,j,Y⟩ a;obtain⟨L,ab⟩:=oa j;refine(kZ a 3 w1 L).mono ?_;rintro e o ⟨rfl,ad,ag⟩
    obtain⟨ai,R,al⟩:=ab o _ _ _ ad ag;obtain⟨D,_⟩:=ey R;obtain⟨_,G,_⟩:=gB R;exact⟨_,rfl,⟨ai,R,Y.trans al⟩,D,G⟩
   rcases H with rfl|rfl
   ·have E:ay (i=k.hC (a+1) 3):=by show i=_;rw[m.o,aI ⟨aK rfl,hl⟩,aG aa]
    clear m;go_enter func160,ntmps160;go_wp2_with fail;refine P.mono ?_;clear P;rintro e w1 ⟨rfl,f⟩
    have j:=(cT c k vt cr).below q.o f;obtain⟨D,_⟩:=ey j;obtain⟨_,G,_⟩:=gB j;clear j K c0;go_wp2_with fail;refine(N.o w1 f).mono ?_;rintro e o ⟨rfl,v⟩
    have g:=f.trans (v.mono f.size)
    go_wp2_with fail;refine(I.o o g).mono ?_;rintro e p ⟨rfl,A⟩
    have hb:=g.trans (A.mono g.size)
    have t:=(cT c k vt cr).below q.o hb;obtain⟨S,_⟩:=ey t;obtain⟨_,l0,_⟩:=gB t;have B:=Q.o k p.drew ⟨F,(cT c k vt cr).below t (aH _ p).drew,(b8.of hb).below (aH _ p).drew⟩ (a+1)
    clear f v A g G D t hb;go_wp2_with fail
    go_region_held3 (fun w'=>w'.cell? (aq c.pk 0)=some (aj k.a.pw)/\w'.cell? (aq k.a.pw 0)=some (aj k.a.p)) (go_keep)
     (first
       |(go_at_call 191;refine(nK _).mono ?_;rintro e o ⟨rfl,n⟩;have n:=n.symm;subst n)
       |(go_at_call 93;refine B.mono ?_;clear B;rintro e u ⟨am,rfl,C,U,y1⟩;have l:ay (∃d,(cT c i vt cr).J d s u/\b8 F w d u):=(by rw[E.o];exact C);clear C))
    clear U y1 S l0;go_wp2_with fail;go_end0;obtain⟨d,J,j2⟩:=l.o;exact⟨d,rfl,J,j2⟩
   ·have E:ay (i=(k.hC (a+1) 3).hC (a+2) 3):=by show i=_;rw[m.o,aI ⟨aJ rfl,hl⟩,aI rfl]
    clear m;go_enter func160,ntmps160;go_wp2_with fail;refine P.mono ?_;clear P;rintro e w1 ⟨rfl,f⟩
    have j:=(cT c k vt cr).below q.o f;obtain⟨D,_⟩:=ey j;obtain⟨_,G,_⟩:=gB j;clear j K c0;go_wp2_with fail;refine(N.o w1 f).mono ?_;rintro e o ⟨rfl,v⟩
    have g:=f.trans (v.mono f.size)
    go_wp2_with fail;refine(I.o o g).mono ?_;rintro e p ⟨rfl,A⟩
    have hb:=g.trans (A.mono g.size)
    have t:=(cT c k vt cr).below q.o hb;obtain⟨S,_⟩:=ey t;obtain⟨_,l0,_⟩:=gB t;have B:=Q.o k p.drew ⟨F,(cT c k vt cr).below t (aH _ p).drew,(b8.of hb).below (aH _ p).drew⟩ (a+1)
    clear f v A g G D t hb;go_wp2_with fail
    go_region_held3 (fun w'=>w'.cell? (aq c.pk 0)=some (aj k.a.pw)/\w'.cell? (aq k.a.pw 0)=some (aj k.a.p)) (go_keep)
     (first
       |(go_at_call 191;refine(nK _).mono ?_;rintro e o ⟨rfl,n⟩;have n:=n.symm;subst n)
       |(go_at_call 93;refine B.mono ?_;clear B;rintro e u ⟨am,rfl,C,U,y1⟩;have l:ay (∃d,(cT c (k.hC (a+1) 3) vt cr).J d s u/\b8 F w d u):=C;clear C))
    clear S l0;have B:Calls prog 93 #[aj k.a.p,ah (a+2),ah 3] u.drew fun e w'=>∃b,e=.returned (.bool b)/\(∃d,(cT c i vt cr).J d s w'/\b8 F w d w')/\w'.cell? (aq c.pk 0)=some (aj k.a.pw)/\w'.cell? (aq k.a.pw 0)=some (aj k.a.p):=by rw[E.o];obtain⟨d,J,j2⟩:=l.o;exact Q.o (k.hC (a+1) 3) u.drew ⟨d,(cT c _ vt cr).below J (aH _ u).drew,j2.below (aH _ u).drew⟩ (a+2)
    clear l;go_wp2_with fail
    go_region_held3 (fun w'=>w'.cell? (aq c.pk 0)=some (aj k.a.pw)/\w'.cell? (aq k.a.pw 0)=some (aj k.a.p)) (go_keep)
     (first
       |(go_at_call 191;refine(nK _).mono ?_;rintro e o ⟨rfl,n⟩;have n:=n.symm;subst n)
       |(go_at_call 93;refine B.mono ?_;clear B;rintro e X ⟨aB,rfl,C,z0,an⟩;have l:ay (∃d,(cT c i vt cr).J d s X/\b8 F w d X):=C;clear C))
    clear U y1 z0 an;go_wp2_with fail;go_end0;obtain⟨d,J,j2⟩:=l.o;exact⟨d,rfl,J,j2⟩
 ·have E:ay (i=k):=by show i=k;rw[m.o,aG (fun O=>H O.1)]
  have aF:M≠3:=fun e=>H (aK e)
  have n4:M≠4:=fun e=>H (aJ e)
  clear m H;go_enter func160,ntmps160;go_wp2_with fail;refine P.mono ?_;clear P;rintro e w1 ⟨rfl,f⟩
  have l:ay ((cT c i vt cr).J F s w1/\b8 F w F w1):=by rw[E.o];exact⟨(cT c k vt cr).below q.o f,b8.of f⟩
  clear f K c0;go_wp2_with fail;refine a3 (results_none rfl _ _ _) rfl ?_;exact⟨F,rfl,l.o.1,l.o.2⟩
end
def df (c:e8)(k0:b9)(s:cu)(vt b:Value):dr b9 where
 J F k w:=(cT c k vt b).J F s w/\k.a=k0.a/\k.Y=k0.Y/\k.G=k0.G
 lt:=fun h=>(cT c _ vt b).lt h.1
 keep:=fun h hs hk=>⟨(cT c _ vt b).keep h.1 hs hk,h.2⟩
def b9.gK (k:b9)(s:cu)(a:Int):Nat->b9
 |0=>k
 |n+1=>(k.gK s a n).hC (a+1+n) (k.nw s ((k.gK s a n).ld (a+1+n)))
def b9.jP (k:b9)(s:cu)(a:Int):b9:=(k.brk s a).gK s a (pf (k.ld a)).toNat
theorem b9.kl {k k0:b9}(s:cu)(x:Int)(b:k.Y=k0.Y)(c:k.G=k0.G):k.nw s x=k0.nw s x:=by unfold b9.nw b9.jt b9.T;rw[b,c]
theorem tK (k:b9)(s:cu)(a:Int):(k.brk s a).a=k.a/\(k.brk s a).Y=k.Y/\(k.brk s a).G=k.G:=by
 unfold b9.brk;split
 ·split<;>exact⟨rfl,rfl,rfl⟩
 ·exact⟨rfl,rfl,rfl⟩
section
variable {c:e8}{k0 k:b9}{vt cr:Value}{F:Nat->Prop}{s:cu}{w:ax}{bp:Nat}
theorem ib (h:(df c k0 s vt cr).J F k w):w.cell? (aq c.pk 0)=some (aj k0.a.pw)/\w.cell? (aq c.pk 3)=some (.map (some c.ch))/\w.cell? (aq k0.a.pw 0)=some (aj k0.a.p)/\Mp w c.ch k0.T s.f/\At w k0.a.p k0.a.q k0.a.N k0.a.O k.s.y k.s.g k.s.ws:=by
 obtain⟨h,ea,e,f⟩:=h;obtain⟨b,_,_,g,_⟩:=ey h;obtain⟨d,c0,_⟩:=gB h;obtain⟨hM,_⟩:=o9 h;rw[ea] at b d c0;have i:k.T=k0.T:=by unfold b9.T;rw[e,f]
 rw[i] at hM;exact⟨b,g,c0,hM,d⟩
theorem FD (h:(df c k0 s vt cr).J F k w)(a:Int):Calls prog 98 #[aj k0.a.p,ah a] w fun e w'=>e=.returned (ah (k.ld a))/\Below w.heap.size w w':=by
 have e:k.ld a=ld k0.a.N k.s.y k.s.g k.s.ws a:=by unfold b9.ld;rw[h.2.1]
 rw[e];exact jH a w (ib h).2.2.2.2
theorem yz (h:(df c k0 s vt cr).J F k w)(x:Int):Calls prog 156 #[aj c.pk,ah x] w fun e w'=>e=.returned (ah (k0.nw s x))/\Below w.heap.size w w':=by have P:=yf h.1 x;rw[b9.kl s x h.2.2.1 h.2.2.2] at P;exact P
theorem FE (h:(df c k0 s vt cr).J F k w)(a x:Int):Calls prog 93 #[aj k0.a.p,ah a,ah x] w fun e w'=>∃b d,e=.returned (.bool b)/\(df c k0 s vt cr).J d (k.hC a x) w'/\b8 F w d w':=by
 obtain⟨h,ea,f,g⟩:=h;obtain⟨i,j⟩:=oa h;rw[<-ea];refine(kZ a x w i).mono ?_;rintro e l ⟨rfl,m,n⟩
 obtain⟨o,p,q⟩:=j l _ _ _ m n;exact⟨_,o,rfl,⟨p,ea,f,g⟩,q⟩
theorem FF (h:(df c k0 s vt cr).J F k w)(a:Int)(ha:0<=a/\a<=2000):Calls prog 160 #[aj c.pk,ah a] w fun e w'=>∃b,e=.returned (.tuple #[])/\(df c k0 s vt cr).J b (k.brk s a) w'/\b8 F w b w':=by
 refine(FC h.1 a ha).mono ?_;rintro e m ⟨d,rfl,f,g⟩
 obtain⟨i,j,l⟩:=tK k s a;exact⟨d,rfl,⟨f,i.trans h.2.1,j.trans h.2.2.1,l.trans h.2.2.2⟩,g⟩
theorem FG (h:(da (df c k0 s vt cr) bp (dl c)).J F k w)(a:Int)(ha:0<=a/\a<=2000)(m:Nat)(hm:m<=12):
 Calls prog 159 #[ah a,ah (1+m),aj bp] w fun e w'=>∃G,e=.returned (.tuple #[])/\(da (df c k0 s vt cr) bp (dl c)).J G ((k.brk s a).gK s a m) w'/\b8 F w G w':=by
 have H:ay (∀x,(k.brk s a).nw s x=k0.nw s x):=by obtain⟨_,W,X⟩:=tK k s a;obtain⟨_,⟨_,_,g2,g3⟩,_⟩:=h;exact fun x=>b9.kl s x (W.trans g2) (X.trans g3)
 obtain⟨aF,h0,f,lb,o⟩:=gC h;have P:=FF h0 a ha;have q:=hide o;have t:w.cell? (aq bp 0)=some (aj c.pk):=aA f
 generalize k.brk s a=k1 at P H⊢;go_enter func159,ntmps159;go_wp2_with fail;refine P.mono ?_;rintro e w1 ⟨Y,rfl,ab,ad⟩
 obtain⟨ag,ai⟩:=q.o Y _ w1 ab ad;go_wp2_with fail
 go_loopw [5] (fun iv wr=>∃(j:Nat)(g:Nat->Prop),j<=m/\iv=ah (a+1+j)/\ay ((da (df c k0 s vt cr) bp (dl c)).J g (k1.gK s a j) wr/\b8 F w g wr)) (fun iv _=>m-(intOf iv-a-1).toNat)
 exact⟨0,_,aY _,af,⟨ag,ai⟩⟩
 ·
   obtain⟨j,g,aR,rfl,d⟩:=hrel;by_cases aV:j<m
   ·obtain⟨I,i,f,lb,o⟩:=gC d.o.1;have q:=hide o;have J:=dq f lb;have u:=hide i;have t:wr.cell? (aq bp 0)=some (aj c.pk):=aA f
    obtain⟨a0,_,c0,_,_⟩:=ib i;have K:=FD ((df c k0 s vt cr).below i (aH _ wr).drew) (a+1+j)
    have l:ay (k1.gK s a (j+1)=(k1.gK s a j).hC (a+1+j) (k0.nw s ((k1.gK s a j).ld (a+1+j)))):=by show _=_;rw[<-H.o];rfl
    generalize (k1.gK s a j).ld (a+1+j)=x at K l;obtain⟨v,L⟩:∃v,k1.gK s a (j+1)=v:=⟨_,rfl⟩
    rw[L] at l;have al:=hide L;generalize k1.gK s a j=M at u d i l;go_wp2_with fail
    go_region_held3 (fun w'=>w'.cell? (aq bp 0)=some (aj c.pk)/\w'.cell? (aq c.pk 0)=some (aj k0.a.pw)/\w'.cell? (aq k0.a.pw 0)=some (aj k0.a.p)) (go_keep)
     (first
       |(go_at_call 98;refine K.mono ?_;rintro e A ⟨rfl,am⟩;have B:Below wr.heap.size wr A:=((aH _ wr).drew).trans (am.mono Z);have N:=(df c k0 s vt cr).below u.o B;obtain⟨y1,_,a1,_,_⟩:=ib N;have a2:=(B.cell (p:=aq bp 0) J.o.2).trans t;have C:ay ((df c k0 s vt cr).J I M A/\Below wr.heap.size wr A):=⟨N,B⟩)
       |(go_at_call 156;refine(yz C.o.1 x).mono ?_;rintro e O ⟨rfl,an⟩;have D:=C.o.2.trans (an.mono C.o.2.size);have Q:=(df c k0 s vt cr).below u.o D;obtain⟨bb,_,bd,_,_⟩:=ib Q;have z0:=(D.cell (p:=aq bp 0) J.o.2).trans t;have R:ay ((df c k0 s vt cr).J I M O/\Below wr.heap.size wr O):=⟨Q,D⟩)
       |(go_at_call 93;refine(FE R.o.1 (a+1+j) (k0.nw s x)).mono ?_;rintro e n ⟨be,E,rfl,S,ao⟩;obtain⟨r1,_,bg,_,_⟩:=ib S;obtain⟨U,ap⟩:=q.o E _ n S ((b8.of R.o.2).trans ao);have r0:n.cell? (aq bp 0)=some (aj c.pk):=(by obtain⟨_,_,ar,_⟩:=U;simp[World.cell?,ar]);have aB:ay ((da (df c k0 s vt cr) bp (dl c)).J (fun b=>E b\/b=bp) v n/\b8 F w (fun b=>E b\/b=bp) n):=⟨(by rw[l.o];exact U),d.o.2.trans ap⟩))
    go_wp2_with fail;go_roundw
    case rel=>exact⟨j+1,_,V,af,by rw[al.o];exact aB⟩
    case measure=>simp[intOf];omega
   ·obtain rfl:j=m:=V;go_wp2_with fail;go_end0;exact⟨g,rfl,d.o.1,d.o.2⟩
end
def b9.fQ (k:b9)(s:cu):Nat->b9
 |0=>k
 |n+1=>(k.fQ s n).qC n (k.nw s ((k.fQ s n).s.rs.getD n 0))
def b9.ob (k:b9)(s:cu)(l:List Int):b9:=gU (fun(_:b9) a=>s.f a) (fun k a=>k.jP s a) k l
def b9.ch (k:b9)(t:cu×List b7)(x:Int):Int×(cu×List b7):=((k.mp t.1 x).1,((k.mp t.1 x).2,t.2))
def b9.tS (k:b9)(t:cu×List b7)(r:List b7):cu×List b7:=ft (dI cu) (fun s x=>k.al s.1 x) k.ch t r
def b9.tR (k:b9)(t:cu×List b7)(r:List b7):List b7:=eO (dI cu) (fun s x=>k.al s.1 x) k.ch (fun s x=>k.nw s.1 x) t r
def b9.ic (k:b9)(t:cu×List b7)(r:List b7):List b7:=eP (dI cu) (fun s x=>k.al s.1 x) k.ch (fun s x=>k.nw s.1 x) t r
theorem FH:dN 159:=f_ func159 ae rfl
section
variable {c:e8}{k0 k:b9}{vt cr vr:Value}{F:Nat->Prop}{s:cu}{w:ax}{bp:Nat}
theorem FI (h:(df c k0 s vt cr).J F k w)(i:Nat)(x:Int):∃b,(df c k0 s vt cr).J b (k.qC i x) (w.setCell ⟨k0.a.nb,i,none⟩ (.int .i64 x))/\b8 F w b (w.setCell ⟨k0.a.nb,i,none⟩ (.int .i64 x)):=by obtain⟨h,ea,f,g⟩:=h;obtain⟨b,d,e⟩:=FB h i x;rw[ea] at d e;exact⟨b,⟨d,ea,f,g⟩,e⟩
theorem tL (h:(df c k0 s vt cr).J F k w):w.cell? (aq k0.a.pw 3)=some (.slice (ak k0.a.nb) 12 12)/\∀i,i<12->w.cell? (aq k0.a.nb i)=some (ah (k.s.rs.getD i 0))/\w.frozen? (aq k0.a.nb i)=false:=by obtain⟨h,ea,d,e⟩:=h;obtain⟨_,b,_⟩:=pi h;obtain⟨_,_,_,c3,_,_,_,rt⟩:=jM b;rw[ea] at c3 rt;exact⟨c3,rt⟩
theorem FJ (h:(da (df c k0 s vt cr) bp (dl c)).J F k w)(ht:k0.T.length<=4000)(hp:∀a∈k0.T,0<=a/\a<=2000){ad:Option Addr}{g B:Nat}(hr:w.ownsRow B 3 1 (.slice ad k0.T.length g) k0.T.length (k0.T.map (Value.int .i64)))(hB:∀b,F b->b<B):
 Calls prog 157 #[aj c.pk,.slice ad k0.T.length g,.func (.func 159) #[] #[aj bp]] w fun e w'=>∃f,e=.returned (.tuple #[])/\(da (df c k0 s vt cr) bp (dl c)).J f (k.ob s k0.T) w'/\b8 F w f w':=by
 have E:=yx _ (fun(_:b9) a=>s.f a) (fun k a=>pf (k.ld a)) (fun k a=>k.jP s a) (fun _ _=>True) k0.T c.pk k0.a.pw k0.a.p c.ch 159 #[.pointer _] FH k0.T ad g F k w
  (by
    rintro F t l a n;obtain⟨_,d,_⟩:=gC n;obtain⟨c0,c3,c5,hM,o⟩:=ib d;refine⟨c0,c3,c5,hM,(gd a l o).mono ?_⟩
    rintro r w' ⟨rfl,hb⟩
    have p:pf (t.ld a)=pf (ld k0.a.N t.s.y t.s.g t.s.ws a):=by unfold b9.ld;rw[d.2.1]
    exact⟨pk _,pc _,by rw[p],hb⟩)
  (fun t a=>dj _) (fun a ha=>⟨by have:=hp a ha;omega,ha⟩) V
  (by
    rintro j F t l m _ q _;have hm:k0.T.getD j 0∈k0.T:=by rw[aE,aL m];exact a6 m
    have d:=hp _ hm;have i:=dj (t.ld (k0.T.getD j 0))
    have P:=FG q _ d (pf (t.ld (k0.T.getD j 0))).toNat V;rw[show(((pf (t.ld (k0.T.getD j 0))).toNat:Nat):Int)=pf (t.ld (k0.T.getD j 0)) from by omega] at P;exact P)
  (fun _ _ _ _=>trivial) trivial h (gH hr)
  (fun u z e hz=>by obtain⟨b,cap,v⟩:=eT hr u;cases v;cases e;have i:=(cn hr b rfl).1;have:=hB b hz;omega)
 refine E.mono ?_;rintro r w' ⟨f,rfl,d,i,_⟩
 exact⟨f,rfl,d,i⟩
theorem FK {o:Option Addr}{p:Nat}{r:List b7}(A:vr=.slice o r.length p){t:cu×List b7}(h:(c7 (dP c k) c.bs vr).J F t w)(hr:w.ownsRow 0 103 2 vr r.length (ev r))(hq:t.2.length+r.length<=90000)(bx f:Nat)(B:bx≠f)(C:w.heap[bx]?=some (dl c))(hy:w.heap[f]?=some (jv (kj c)))(hn:¬F bx)(hm:¬F f):
 Calls prog 78 #[aj c.bs,.agg #[(iV bx).v,(ia f).v,(jg c).v]] w fun e w'=>∃a1 c1 n,e=.returned (.tuple #[])/\(c7 (dP c k) c.bs (.slice a1 (k.tR t r).length c1)).J n ((k.tS t r).1,k.ic t r) w'/\
  w'.ownsRow 0 103 2 (.slice a1 (k.tR t r).length c1) (k.tR t r).length (ev (k.tR t r))/\(∀b,some b=(Value.slice a1 (k.tR t r).length c1).ownBlock->¬n b/\w.heap.size<=b)/\Fr (fun b=>F b\/b=f\/b=bx) w w'/\(∀b,n b->F b\/w.heap.size<=b):=by
 subst A;refine(qa _ (fun _=>True) (iV bx) (ia f) (jg c) _ _ _ (qb _ c.bs _ (fun _=>True) (iV bx) (ia f) (jg c) k.al k.mp k.nw tx tz tA (tH bx f (kj c)) (sX (yi f)) (lY (lY tD))) r o p rfl V (fun _ _=>⟨trivial,trivial⟩) _ t w (fun _ _=>⟨trivial,trivial⟩) hq (j_ (j_ h hy hm) C (fun d=>d.elim hn B)) (g7 hr)).mono ?_;rintro e w' ⟨a1,c1,a2,c2,D,Q,rfl,⟨q,ad,cap,⟨fp,⟨g,g1,R,E,s⟩,g2,g3,g4⟩,S,U,G,W,H,X,Y⟩,q3,I,i,j,l,J,K,L,M,N⟩
 have i:w'.heap[c.bs]?=some (.cells #[.slice a1 (k.tR t r).length c1,.slice a2 (k.ic t r).length c2] 153 (0,0)):=i;have j:=j;have l:=l;have u:∀b,g b->q b:=fun b hb=>(g4 b).2 (aK ((s b).2 (aK hb)))
 have m:∀b,g b->D b:=fun b hb=>G b (u b hb)
 have v:∀b,g b->b≠c.bs:=fun b hb e=>H (by show q c.bs;rw[<-e];exact u b hb)
 have x:=(dP c k).keep (w':=w') g1 I (fun b hb=>q3 b (m b hb) (v b hb))
 have O:F c.bs:=by obtain⟨_,_,_,_,_,_,_,P,_⟩:=h;exact P
 refine⟨a1,c1,fun b=>g b\/b=c.bs\/some b=(Value.slice a2 (k.ic t r).length c2).ownBlock,rfl,⟨g,a2,c2,x,i,eU l (fun _ _=>aY _),fun b hb=>aK hb,aJ (aK rfl),fun d=>v _ d rfl,fun b e=>⟨aJ (aJ e),fun d=>M b e (m b d)⟩,fun b hb=>?_⟩,eU j (fun _ _=>aY _),fun b e=>⟨fun d=>?_,(cn j b e).1⟩,J.mono (fun b d=>?_),fun b hb=>?_⟩
 ·rcases hb with hb|hb|hb
  ·exact(dP c k).lt x b hb
  ·rw[hb];exact lt_of_some i
  ·exact(cn l b hb).2
 ·rcases d with d|d|d
  ·exact L b e (m b d)
  ·obtain⟨ab,hc⟩:=e5 j b e;rw[d,i] at hc;simp at hc
  ·exact N b e d
 ·rcases d with(d|d)|d
  ·exact aK d
  ·exact aJ (aK d)
  ·exact aJ (aJ d)
 ·rcases hb with hb|hb|hb
  ·rcases K b (m b hb) with((d|d)|d)|d
   ·exact aK d
   ·exact absurd hb (by rw[d];exact E)
   ·exact absurd ((s b).2 (aK hb)) (by rw[d];exact g3)
   ·exact aJ d
  ·exact aK (by rw[hb];exact O)
  ·exact aJ (cn l b hb).1
end
end Go.Proofs.YtpkjkjhanlbcoaaGreat
