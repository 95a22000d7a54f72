import Derived.Test.YtpkjkjhanlbcoaaGreatJ10
import Derived.OrdersHeld
namespace Go.Proofs.YtpkjkjhanlbcoaaGreat
theorem ac{P:Prop}(h:P:=by rfl):P:=h
set_option maxRecDepth 100000
set_option maxHeartbeats 2000000
open Tryz
open Go
section
variable {P:Program}{ops:Array Oper}{Q:Exit->Act->ax->Prop}{md:Region.Mode}{T S:ax->Prop}{St:List Nat}
def came (St:List Nat)(b:Array Bool):Prop:=∃s∈St,b.getD s false=true
def lu (P:Program)(md:Region.Mode)(ops:Array Oper)(Q:Exit->Act->ax->Prop)(T S:ax->Prop)(St:List Nat):Nat->Array Bool->Act->ax->Prop
 |0,b,a,w=>Region.ready md ops b=[]/\Q .normal a w
 |c+1,b,a,w=>(Region.ready md ops b=[]->Q .normal a w)/\
  ∀i∈Region.ready md ops b,wpOp P ops Q i (fun d w'=>(T w'/\(came St (b.setIfInBounds i true)\/S w'))/\lu P md ops Q T S St c (b.setIfInBounds i true) d w') a w
theorem sP:∀(b:Nat)(c:Array Bool)(a:Act)(w:ax),lu P md ops Q T S St b c a w->wpAny P md ops Q b c a w
 |0,_,_,_,h=>h
 |b+1,_,_,_,h=>⟨h.1,fun i hi=>wpOp_mono (fun d w' e=>sP b _ d w' e.2) (h.2 i hi)⟩
def waits (md:Region.Mode)(ops:Array Oper)(St:List Nat)(i:Nat):Bool:=
 St.all fun s=>match ops[s]? with
  |some o=>o.after.any fun e=>Region.binds md e&&e.on==i
  |none=>false
theorem DT {i:Nat}{g:Oper}{v:Value}(hi:ops[i]?=some g)(I:i∉St)(B:∀(j:Nat)(o:Oper) m b,ops[j]?=some o->o.op≠.select m b)
 (J:∀c a w,Q (.panic c) (a.put g.dst v) w->Q (.panic c) a w):
 ∀(n:Nat)(d:Array Bool)(a:Act)(w:ax),
  (∀j l,ops[j]?=some l->j≠i->d.getD j true=false->(∀e∈l.after,Region.binds md e=true->e.on≠i)->g.apart ops l=true)->
  i∈Region.ready md ops d->YieldsIf P ops T g v a->T w->(came St d\/S w)->
  lu P md ops Q T S St n (d.setIfInBounds i true) (a.put g.dst v) w->lu P md ops Q T S St (n+1) d a w:=by
 have up:∀{d:Array Bool}{k:Nat},came St d->came St (d.setIfInBounds k true):=fun⟨s,hs,h⟩=>⟨s,hs,getD_set_true h⟩
 intro n
 induction n with
 |zero=>
  intro d a w _ hr hy p hc H;refine⟨fun h=>absurd hr (by rw[h];simp),fun j t=>?_⟩
  by_cases f:j=i
  ·rw[f];exact hy.wpOp hi p ⟨⟨p,hc.imp up id⟩,H⟩
  ·have hm:=ready_mono t f;rw[H.1] at hm;simp at hm
 |succ n K=>
  intro d a w C hr hy p hc H;refine⟨fun h=>absurd hr (by rw[h];simp),fun j t=>?_⟩
  by_cases f:j=i
  ·rw[f];exact hy.wpOp hi p ⟨⟨p,hc.imp up id⟩,H⟩
  ·have L:=H.2 j (ready_mono t f)
   obtain⟨D,l,u,M⟩:=mem_ready.1 t;have N:g.apart ops l=true:=C j l u f D (fun e he hb O=>by
    have q:=M e he hb;rw[O] at q;have E:=(mem_ready.1 hr).1;rcases Nat.lt_or_ge i d.size with x|x
    ·simp[x] at q E;rw[E] at q;cases q
    ·simp[Array.getElem?_eq_none x] at q)
   refine wpOp_mono (fun R w' h=>?_) (wpOp_putIf u N (fun m b=>B i g m b hi) (fun m b=>B j l m b u) J hy L)
   obtain⟨U,A,ad⟩:=h;have F:came St (d.setIfInBounds j true)\/S w':=A.2.imp (fun⟨s,hs,h⟩=>by
    have W:i≠s:=fun e=>I (by rw[e];exact hs)
    refine⟨s,hs,?_⟩
    rw[Array.setIfInBounds_comm _ _ (Ne.symm f),getD_set_ne false W] at h;exact h) id
   refine⟨⟨A.1,F⟩,K (d.setIfInBounds j true) R w' (fun k ok hk X Y ab=>C k ok hk X ?_ ab) (ready_mono hr (Ne.symm f)) U A.1 F ?_⟩
   ·by_cases G:j=k
    ·rw[<-G];exact D
    ·rwa [getD_set_ne true G] at Y
   ·rwa [Array.setIfInBounds_comm _ _ f]
theorem fK {i:Nat}{d:Oper}{v:Value}{e:Nat}{b:Array Bool}{a:Act}{w:ax}(hi:ops[i]?=some d)
 (hs:Region.noSelect ops=true)(g:Region.free md ops b i=true)(hr:(Region.ready md ops b).contains i=true)(f:St.contains i=false)
 (j:∀c a w,Q (.panic c) (a.put d.dst v) w->Q (.panic c) a w)(hy:YieldsIf P ops T d v a)(k:T w)(hc:came St b\/S w)
 (h:lu P md ops Q T S St e (b.setIfInBounds i true) (a.put d.dst v) w):lu P md ops Q T S St (e+1) b a w:=
 DT hi (fun h=>by rw[List.contains_iff_mem.2 h] at f;cases f) (Region.noSelect_spec hs) j e b a w (Region.free_spec hi g) (by simpa using hr) hy k hc h
theorem xG {i:Nat}{o:Oper}{K:Act->ax->Prop}{a:Act}{w:ax}(hi:ops[i]?=some o)(hg:Region.wanted o (yielded ops a.tmps)=true)(h:o.wp P a w K Q):wpOp P ops Q i K a w:=by unfold wpOp;rw[hi];dsimp only;rw[aI hg];exact aK h
theorem xH {i:Nat}{d:Nat}{b:Array Bool}{a:Act}{w:ax}(hr:Region.ready md ops b=[i])
 (h:wpOp P ops Q i (fun e w'=>(T w'/\(came St (b.setIfInBounds i true)\/S w'))/\lu P md ops Q T S St d (b.setIfInBounds i true) e w') a w):lu P md ops Q T S St (d+1) b a w:=
 ⟨fun h0=>(by rw[hr] at h0;cases h0),fun j c=>(by rw[hr] at c;rw[bv] at c;rw[c];exact h)⟩
theorem xI {b:Array Bool}{a:Act}{w:ax}(hr:Region.ready md ops b=[])(h:Q .normal a w):∀c,lu P md ops Q T S St c b a w
 |0=>⟨hr,h⟩
 |_+1=>⟨fun _=>h,by rw[hr];simp⟩
end
open Go.RowKit W Kp cf
def lenOf (w:ax)(p:Nat):Nat:=match w.cell? (aq p 4) with
 |some (.slice _ n _)=>n
 |_=>0
def sT (w:ax)(p:Nat):Int:=match w.cell? (aq p 6) with
 |some (.int _ v)=>v
 |_=>0
def sU (c:gj)(k:ce)(w:ax):Nat:=(k.N+k.O+13-ql w c.pk).toNat+lenOf w c.pk+(k.O-(sT w c.p).toNat)
def qn:Value->Nat
 |.bool true=>1
 |_=>0
section
variable {c:gj}{k:ce}{F:Nat->Prop}{s:cj}{w:ax}{vr:Value}
theorem sV (h:(d7 c k).J F s w):sU c k w=k.mu s:=by
 obtain⟨cG,g,h⟩:=h;obtain⟨_,_,c2,_,c4,_,_,_,_,_,_,er,_⟩:=d8 h;obtain⟨b,_⟩:=iO h;obtain⟨ad,cap,e⟩:=eE er;have d:lenOf w c.pk=s.ep.length:=by unfold lenOf;rw[c4,e]
 have f:sT w c.p=s.g:=by unfold sT;rw[b.cells.2.2.2.2.2.2]
 unfold sU ce.mu;rw[sL c2,d,f,Int.toNat_natCast]
theorem DU {f:Option Addr}{g i:Nat}(j:vr=.slice f g i){t:cj×List b7}(h:(c7 (gJ c k) c.sd vr).J F t w)(hq:t.2.length<=90000)(bx:Nat)(l:w.heap[bx]?=some (i2 c))(hn:¬F bx):
 Calls prog 145 #[aj c.sd,.agg #[(kc bx).v,(mY c).v,(lr c).v]] w fun e w'=>∃d,e=.returned (.bool (k.wa t).2)/\(c7 (gJ c k) c.sd vr).J d (k.wa t).1 w'/\Fr (fun b=>F b\/b=bx) w w'/\(∀b,d b->F b\/b=bx\/w.heap.size<=b):=by
 refine(xc _ (xz _ _ _) (fun _=>True) (kc bx) (mY c) (lr c) _ _ _ (p_ _ c.sd vr (fun _=>True) (kc bx) (mY c) (lr c) k.al k.br k.nw xB DQ xC (xE bx) (sO DS) (lZ xF)) f g i j _ t w hq (fun _ _=>⟨trivial,trivial⟩) (ka h l hn)).mono ?_;rintro e w' ⟨d,rfl,m,n,hs⟩
 exact⟨d,rfl,sN m,n,fun b hb=>(hs b hb).elim (fun c=>c.elim aK (fun c=>aJ (aK c))) (fun c=>aJ (aJ c))⟩
theorem xJ {aF:Option Addr}{aR aV:Nat}(a0:vr=.slice aF aR aV){t:cj×List b7}(h:(c7 (gJ c k) c.sd vr).J F t w)(hq:t.2.length<=90000):
 Calls prog 109 #[aj c.pk] w fun e w'=>∃Y,e=.returned (.tuple #[])/\(c7 (gJ c k) c.sd vr).J Y (k.sp t) w'/\b8 F w Y w':=by
 have a1:∀(ab:Fn)(first cap:Array Value)(w:ax),(Instr.makeFunc ab first cap).run prog w=.ok (.func ab first cap) w:=fun _ _ _ _=>rfl;go_enter func109,ntmps109;go_wp2_with fail
 go_loopw [2] (fun N wr=>∃(n:Nat)(G:Nat->Prop)(d:cj×List b7)(b:Bool),N=.bool b/\(c7 (gJ c k) c.sd vr).J G d wr/\b8 F w G wr/\ay (if b=true then k.mu d.1<n/\k.cW n d=k.sp t else d=k.sp t)/\d.2.length<=90000) (fun N wr=>2*sU c k wr+qn N)
 exact⟨k.mu t.1+1,F,t,true,rfl,h,b8.refl _ _,⟨V,rfl⟩,hq⟩
 ·
   obtain⟨n,G,d,b,rfl,ad,ag,ai,hq⟩:=hrel;cases b
   ·have x:=hide ai.out;go_wp2_with fail;go_end0;rw[<-x.out];exact⟨G,rfl,ad,ag⟩
   ·obtain⟨a2,bb⟩:=ai.out;obtain⟨m,rfl⟩:∃m,n=m+1:=⟨n-1,V⟩
    obtain⟨b1,u,bd⟩:=n9 ad;have O:=sV u.1;have B:=DO u.1 u.2.1 u.2.2;obtain⟨al,am,be⟩:=u.2.1.lb u.2.2 (k.O+1)
    obtain⟨bg,j2,cA,cE⟩:=al.kv am;have f:ay (_/\_/\(CI k (k.lb (k.O+1) d.1)/\ee k (k.lb (k.O+1) d.1))/\(CI k (k.kv (k.lb (k.O+1) d.1)).2/\ee k (k.kv (k.lb (k.O+1) d.1)).2)):=⟨ag,bd,⟨al,am⟩,⟨bg,j2⟩⟩
    have H:=jr be cA cE a2;have x:=hide bb;go_wp2_with fail;refine B.mono ?_;rintro e w1 ⟨b2,rfl,A,C⟩
    have I:=DP ((d7 c k).below A (aH _ w1).drew) f.out.2.2.1.1 f.out.2.2.1.2;have C:=C.below (aH _ w1).drew;obtain⟨b3,b4,A⟩:=A;obtain⟨bi,_,_,_,_,_,_,bl,_⟩:=d8 A;cases hkv:(k.kv (k.lb (k.O+1) d.1)).1
    ·rw[hkv] at I;have an:ay ((if(k.wa ((k.kv (k.lb (k.O+1) d.1)).2,d.2)).2=true then k.cW m (k.wa ((k.kv (k.lb (k.O+1) d.1)).2,d.2)).1 else(k.wa ((k.kv (k.lb (k.O+1) d.1)).2,d.2)).1)=k.sp t):=by
      have:=x.out;unfold ce.cW at this
      rw[hkv] at this
      exact this
     have j:=CI.wa (s:=((k.kv (k.lb (k.O+1) d.1)).2,d.2)) f.out.2.2.2.1 f.out.2.2.2.2;have j:ay ((k.wa ((k.kv (k.lb (k.O+1) d.1)).2,d.2)).1.2.length<=90000/\k.mu (k.wa ((k.kv (k.lb (k.O+1) d.1)).2,d.2)).1.1<=k.mu d.1/\((k.wa ((k.kv (k.lb (k.O+1) d.1)).2,d.2)).2=true->k.mu (k.wa ((k.kv (k.lb (k.O+1) d.1)).2,d.2)).1.1<k.mu d.1)):=by refine⟨by rw[j.2.2.1];exact hq,by have:=j.2.2.2.1;dsimp only at this;omega,fun e=>by have:=j.2.2.2.2 e;dsimp only at this;omega⟩
     generalize k.lb (k.O+1) d.1=s1 at*;generalize (k.kv s1).2=s2 at*;go_wp2_with fail
     go_region_held3 (fun w'=>w'.cell? (aq c.pk 0)=some (aj c.pw)/\w'.cell? (aq c.pw 2)=some (aj c.sd)) (go_keep)
      (first
        |(go_at_call 187;refine I.mono ?_;rintro e q ⟨P,rfl,l,J⟩;obtain⟨ao,hM,K⟩:=f.out.2.1 P s2 q ⟨l,f.out.2.2.2⟩ (C.trans J);obtain⟨b5,b6,l⟩:=l;obtain⟨g0,_,_,_,_,_,_,Q,_⟩:=d8 l;have l0:=aQ q _ g0;have bn:=aQ q _ Q;have g:=dq hM (f.out.1.trans K))
        |(go_at_call 110;refine(xD (mY c) q c.pk).mono ?_;rintro e b9 ⟨rfl,bo,R⟩;have bp:=(R.cell (p:=aq c.pk 0) l0).trans g0;have br:=(R.cell (p:=aq c.pw 2) bn).trans Q;have D:=dq bo R)
        |(go_at_call 145;refine(DU a0 (t:=(s2,d.2)) ((c7 (gJ c k) c.sd vr).below g.out.1 D.out.2) hq q.heap.size D.out.1 (fun h=>by have:=(c7 (gJ c k) c.sd vr).lt g.out.1 _ h;omega)).mono ?_;rintro e bs ⟨U,rfl,ap,bt,bx⟩;have L:ay (_/\b8 F w U bs):=⟨ap,⟨(g.out.2.below D.out.2).fr.trans bt (fun b hb=>hb.elim (g.out.2.sub b) (fun e=>aJ (by have:=g.out.2.fr.size;omega))),fun b hb=>(bx b hb).elim (g.out.2.sub b) (fun h=>aJ (by have o:=g.out.2.fr.size;have W:=D.out.2.size;omega))⟩⟩;obtain⟨ca,⟨⟨bY,bZ,ar⟩,_⟩,_⟩:=n9 ap;have M:=sV ⟨bY,bZ,ar⟩;obtain⟨r0,_,_,_,_,_,_,b0,_⟩:=d8 ar))
     clear r0 b0 g0 Q bp br bi bl f g D x a1 C;cases hbw:(k.wa (s2,d.2)).2
     ·have E:ay (if false=true then k.mu (k.wa (s2,d.2)).1.1<m/\k.cW m (k.wa (s2,d.2)).1=k.sp t else(k.wa (s2,d.2)).1=k.sp t):=by
       have:=an.out;rw[hbw] at this
       exact this
      go_wp2_with fail;go_roundw;exact⟨m,U,(k.wa (s2,d.2)).1,false,rfl,L.out.1,L.out.2,E,j.out.1⟩
      ·have:=j.out.2.1;rw[M,O];simp[qn];omega
     ·have E:ay (if true=true then k.mu (k.wa (s2,d.2)).1.1<m/\k.cW m (k.wa (s2,d.2)).1=k.sp t else(k.wa (s2,d.2)).1=k.sp t):=by have o:=an.out;rw[hbw] at o;have W:=j.out.2.2 hbw;have aB:=H.out.2.2.2;exact⟨V,o⟩
      have W:=j.out.2.2 hbw;go_wp2_with fail;go_roundw;exact⟨m,U,(k.wa (s2,d.2)).1,true,rfl,L.out.1,L.out.2,E,j.out.1⟩
      ·rw[M,O];simp[qn];omega
    ·rw[hkv] at I;have W:k.mu (k.kv (k.lb (k.O+1) d.1)).2<k.mu d.1:=by have o:=H.out.1;have aB:=H.out.2.2.1 hkv;omega
     have E:ay (if true=true then k.mu (k.kv (k.lb (k.O+1) d.1)).2<m/\k.cW m ((k.kv (k.lb (k.O+1) d.1)).2,d.2)=k.sp t else((k.kv (k.lb (k.O+1) d.1)).2,d.2)=k.sp t):=by have o:=x.out;unfold ce.cW at o;rw[hkv] at o;have aB:=H.out.2.2.2;exact⟨V,o⟩
     generalize k.lb (k.O+1) d.1=s1 at*;generalize (k.kv s1).2=s2 at*;clear A;go_wp2_with fail;refine wp_region_noPanic ?_;refine wp_region_any ae ?_;refine sP (T:=fun _=>True) (S:=fun _=>True) (St:=[]) _ _ _ _ ?_;refine fK (i:=0) (v:=?_) rfl ae ae ae ae (fun _ _ _ h=>h) (aK ⟨ac,?_⟩) trivial (aJ trivial) ?_
     rotate_left
     ·intro w X;go_simp
      try rfl
     try simp only [Act.put,List.getElem_toArray,List.getElem_cons_zero,List.setIfInBounds_toArray,List.set_cons_zero,List.set_cons_succ]
     refine xH (i:=1) ae ?_;refine xG rfl ac ?_;simp only [List.getElem_toArray,List.getElem_cons_succ,List.getElem_cons_zero];go_simp;refine I.mono ?_;rintro e q ⟨P,rfl,l,J⟩
     obtain⟨ao,hM,K⟩:=f.out.2.1 P s2 q ⟨l,f.out.2.2.2⟩ (C.trans J)
     have M:=sV l;have g:=dq hM (f.out.1.trans K)
     clear l J hM K;refine fK (i:=2) (v:=?_) rfl ae ae ae ae (fun _ _ _ h=>h) (aK ⟨ac,?_⟩) trivial (aJ trivial) ?_
     rotate_left
     ·intro w X;go_simp
      try rfl
     refine fK (i:=3) (v:=undef) rfl ae ae ae ae (fun _ _ _ h=>h) (aJ ⟨ac,rfl⟩) trivial (aJ trivial) ?_;refine fK (i:=4) (v:=undef) rfl ae ae ae ae (fun _ _ _ h=>h) (aJ ⟨ac,rfl⟩) trivial (aJ trivial) ?_;refine fK (i:=5) (v:=undef) rfl ae ae ae ae (fun _ _ _ h=>h) (aJ ⟨ac,rfl⟩) trivial (aJ trivial) ?_;refine fK (i:=6) (v:=undef) rfl ae ae ae ae (fun _ _ _ h=>h) (aJ ⟨ac,rfl⟩) trivial (aJ trivial) ?_
     try simp only [Act.put,List.getElem_toArray,List.getElem_cons_succ,List.getElem_cons_zero,List.setIfInBounds_toArray,List.set_cons_zero,List.set_cons_succ]
     refine fK (i:=7) (v:=undef) rfl ae ae ae ae (fun _ _ _ h=>h) (aJ ⟨ac,rfl⟩) trivial (aJ trivial) ?_;refine fK (i:=8) (v:=undef) rfl ae ae ae ae (fun _ _ _ h=>h) (aJ ⟨ac,rfl⟩) trivial (aJ trivial) ?_;refine fK (i:=9) (v:=undef) rfl ae ae ae ae (fun _ _ _ h=>h) (aJ ⟨ac,rfl⟩) trivial (aJ trivial) ?_;refine fK (i:=10) (v:=undef) rfl ae ae ae ae (fun _ _ _ h=>h) (aJ ⟨ac,rfl⟩) trivial (aJ trivial) ?_;refine fK (i:=11) (v:=undef) rfl ae ae ae ae (fun _ _ _ h=>h) (aJ ⟨ac,rfl⟩) trivial (aJ trivial) ?_
     try simp only [Act.put,List.getElem_toArray,List.getElem_cons_succ,List.getElem_cons_zero,List.setIfInBounds_toArray,List.set_cons_zero,List.set_cons_succ]
     refine fK (i:=12) (v:=undef) rfl ae ae ae ae (fun _ _ _ h=>h) (aJ ⟨ac,rfl⟩) trivial (aJ trivial) ?_;refine fK (i:=13) (v:=undef) rfl ae ae ae ae (fun _ _ _ h=>h) (aJ ⟨ac,rfl⟩) trivial (aJ trivial) ?_
     try simp only [Act.put,List.getElem_toArray,List.getElem_cons_succ,List.getElem_cons_zero,List.setIfInBounds_toArray,List.set_cons_zero,List.set_cons_succ]
     refine fK (i:=14) (v:=undef) rfl ae ae ae ae (fun _ _ _ h=>h) (aJ ⟨ac,rfl⟩) trivial (aJ trivial) ?_;refine fK (i:=15) (v:=?_) rfl ae ae ae ae (fun _ _ _ h=>h) (aK ⟨ac,?_⟩) trivial (aJ trivial) ?_
     rotate_left
     ·intro w X;go_simp
      try rfl
     refine fK (i:=16) (v:=?_) rfl ae ae ae ae (fun _ _ _ h=>h) (aK ⟨ac,?_⟩) trivial (aJ trivial) ?_
     rotate_left
     ·intro w X;go_simp
      try rfl
     try simp only [Act.put,List.getElem_toArray,List.getElem_cons_succ,List.getElem_cons_zero,List.setIfInBounds_toArray,List.set_cons_zero,List.set_cons_succ]
     refine xI ae ?_ _;refine NoPanic.normal ?_;go_wp2_with fail;go_roundw;exact⟨m,ao,(s2,d.2),true,rfl,g.out.1,g.out.2,E,hq⟩
     ·rw[M,O];simp[qn];omega
theorem DV {j:Option Addr}{l m:Nat}(n:vr=.slice j l m){t:cj×List b7}(h:(c7 (gJ c k) c.sd vr).J F t w)(hq:t.2.length<=90000)(x:Int):
 Calls prog 111 #[aj c.pk,ah x] w fun e w'=>∃b,e=.returned (ah (k.ke t x).1)/\(c7 (gJ c k) c.sd vr).J b (k.ke t x).2 w'/\b8 F w b w':=by
 obtain⟨o,⟨⟨cG,p,q⟩,d,hB⟩,s⟩:=n9 h;obtain⟨u,v,_⟩:=d.br x;have f:=g6 s u (v.cb hB)
 have E:ay ((k.ke t x).1=(k.br t.1 x).1/\(k.ke t x).2=k.sp ((k.br t.1 x).2,t.2)):=⟨rfl,rfl⟩
 go_enter func111,ntmps111;go_wp2_with fail;refine(qj q d x).mono ?_;rintro e w1 ⟨rfl,A,B⟩
 obtain⟨I,hM,C⟩:=f.out.1 o _ w1 ⟨⟨cG,p,A⟩,f.out.2⟩ B;have g:=dq hM C;go_wp2_with fail;refine(xJ n g.out.1 hq).mono ?_;rintro e J ⟨D,rfl,G,H⟩
 have i:=dq G (g.out.2.trans H)
 go_wp2_with fail;go_ret;exact⟨D,rfl,i.out.1,i.out.2⟩
end
def i3 {b:Type}(fd:b->Int->Int)(st:b->Int->b)(e:Int)(t:b)(a:Int):b:=if a+fd t a<e then st t a else t
def kh {b:Type}(fd:b->Int->Int)(st:b->Int->b)(e:Int)(t:b)(l:List Int):b:=l.foldl (i3 fd st e) t
theorem xK {i:Type}(o:dr i)(fd:i->Int->Int)(st:i->Int->i)(G:Nat->i->Prop)(pk pw p f:Nat)(H:Array Value)(I:dN f)(l:List Int)(ad:Option Addr)(cap:Nat)(e:Int)(F:Nat->Prop)(t:i)(w:ax)
 (J:∀F t w a,o.J F t w->w.cell? (aq pk 0)=some (aj pw)/\w.cell? (aq pw 0)=some (aj p)/\Calls prog 102 #[aj p,ah a] w fun r w'=>∃x z,r=.returned (.tuple #[ah x,ah (fd t a),ah z])/\aw w w')
 (K:∀t a,0<=fd t a/\fd t a<=12)(M:∀a∈l,0<=a/\a<=100000)(ar:l.length<=100000)
 (N:∀j F t w,j<l.length->G j t->o.J F t w->l.getD j 0+fd t (l.getD j 0)<e->Calls prog f (#[ah (l.getD j 0)]++H) w fun r w'=>∃g,r=.returned (.tuple #[])/\o.J g (st t (l.getD j 0)) w'/\b8 F w g w')
 (O:∀j t,j<l.length->G j t->G (j+1) (i3 fd st e t (l.getD j 0)))(h0:G 0 t)(k:o.J F t w)(C:iJ w ad l)(hn:0<l.length->∀z,ad=some z->¬F z.block):
 Calls prog 180 #[aj pk,.slice ad l.length cap,ah e,.func (.func f) #[] H] w fun r w'=>∃g,r=.returned (.tuple #[])/\o.J g (kh fd st e t l) w'/\b8 F w g w'/\G l.length (kh fd st e t l):=by
 have U:ay (∀F t w a,o.J F t w->_):=J;have W:ay (∀j F t w,j<l.length->G j t->o.J F t w->l.getD j 0+fd t (l.getD j 0)<e->_):=N;have X:ay (∀j t,j<l.length->G j t->_):=O;have Y:ay (∀g w',b8 F w g w'->_):=fun g w' n=>C.keep n.fr.size (fun hp z e=>n.fr.block _ (by obtain⟨b,aB,P,hb,_⟩:=C hp;rw[e] at P;cases P;exact hb) (hn hp z e))
 have ab:ay (_):=M;have ag:ay (∀t a,_):=K;have aF:∀(args:Array Value)(w:ax),_=_:=I;clear J N O C hn M K I;go_enter func180,ntmps180;go_wp2_with fail
 go_loopw [15] (fun iv wr=>∃(j:Nat)(d:Nat->Prop)(c:i),j<=l.length/\iv=ah j/\ay (kh fd st e t (l.take j)=c)/\ay (G j c)/\o.J d c wr/\b8 F w d wr) (fun iv _=>l.length-(intOf iv).toNat)
 case atStart=>exact⟨0,F,t,aZ _,rfl,rfl,h0,k,b8.refl _ _⟩
 case round=>
  clear h0 k;obtain⟨j,d,c,aR,rfl,D,E,k,n⟩:=hrel;by_cases q:j<l.length
  ·obtain⟨aV,a0,ai,a1,hc⟩:=Y.out d wr n V;have a2:=hc j q;subst ai;have Q:l.getD j 0∈l:=by rw[aE,aL q];exact a6 q
   have bb:=ab.out _ Q;have R:ay (kh fd st e t (l.take (j+1))=i3 fd st e c (l.getD j 0)):=by
    show _=_;rw[gx l j q 0];unfold kh;rw[List.foldl_append];have:=D.out;unfold kh at this
    rw[this];rfl
   have S:ay (_):=X.out j c q E.out;have s:=fun w h=>W.out j d c w q E.out h;obtain⟨bd,be,L⟩:=U.out d c wr (l.getD j 0) k;have bg:=ag.out c (l.getD j 0)
   have B:=dq k n;have s:ay (∀w,o.J d c w->l.getD j 0+fd c (l.getD j 0)<e->_):=s;clear hc Q k n;by_cases hw:l.getD j 0+fd c (l.getD j 0)<e
   ·have u:ay (i3 fd st e c (l.getD j 0)=st c (l.getD j 0)):=by show _=_;unfold i3;rw[aI hw]
    have al:ay (∀w,o.J d c w->_):=fun w h=>s.out w h hw;clear s;generalize l.getD j 0=a at*;generalize fd c a=m at*;generalize st c a=am at*;go_wp2_with fail;refine L.mono ?_;rintro r w1 ⟨x,z,rfl,v⟩
    go_wp2_with fail;refine(al.out w1 (o.below B.out.1 v)).mono ?_;rintro r bi ⟨an,rfl,ao,ap⟩
    have A:=dq ao ((B.out.2.below v).trans ap)
    go_wp2_with fail;go_roundw;exact⟨j+1,an,am,V,af,by show _=_;rw[R.out,u.out],by show G _ _;rw[<-u.out];exact S.out,A.out.1,A.out.2⟩
    simp[intOf];omega
   ·have u:ay (i3 fd st e c (l.getD j 0)=c):=by show _=_;unfold i3;rw[aG hw]
    clear s;generalize l.getD j 0=a at*;generalize fd c a=m at*;go_wp2_with fail;refine L.mono ?_;rintro r w1 ⟨x,z,rfl,v⟩
    have A:=dq (o.below B.out.1 v) (B.out.2.below v)
    go_wp2_with fail;go_roundw;exact⟨j+1,d,c,V,af,by show _=_;rw[R.out,u.out],by show G _ _;rw[<-u.out];exact S.out,A.out.1,A.out.2⟩
    simp[intOf];omega
  ·obtain rfl:j=l.length:=V;rw[bu] at D;go_wp2_with fail;go_end0;rw[D.out];exact⟨d,rfl,k,n,E.out⟩
section
variable {c:gj}{k:ce}{F:Nat->Prop}{s:cj}{w:ax}
def ce.md (k:ce)(c:gj)(s:cj)(a:Int):cj:=if(fZ k.N c.c a&&c.M.contains (cN k.N a))=true then k.lk s a else s
theorem ce.DW (k:ce)(c:gj)(s:cj)(l:List Int):k.lm c.c c.M s l=kh (fun s a=>pf (k.ld s a)) (k.md c) s.nx s l:=rfl
theorem CI.md (h:CI k s)(c:gj){a:Int}(ha:(k.N:Int)<=a)(b:a<=2000):CI k (k.md c s a)/\Cl k s (k.md c s a):=by
 unfold ce.md;split
 ·exact h.lk ha b
 ·exact⟨h,Cl.of (eC.refl _ _)⟩
theorem DX:dN 183:=f_ func183 ae rfl
theorem DY (bx:Nat)(h:(da (d7 c k) bx (i2 c)).J F s w)(q:CI k s)(a:Int)(a0:(k.N:Int)<=a)(a1:a<=2000)(t:s.wk.length<=10000)(u:s.ep.length<=10000):
 Calls prog 183 #[ah a,aj bx] w fun e w'=>∃j,e=.returned (.tuple #[])/\(da (d7 c k) bx (i2 c)).J j (k.md c s a) w'/\b8 F w j w':=by
 have l:=hide h;have v:=hide q;obtain⟨I,⟨cG,J,h0⟩,m,K,M⟩:=h;have x:w.cell? (aq bx 0)=some (aj c.pk):=by simp[World.cell?,m]
 have A:=lt_of_some m;obtain⟨c0,_,_,_,_,_,N,_,_,_,_,_,B,_,_⟩:=d8 h0;have D:=C2 a w B V V V;cases hd:(fZ k.N c.c a&&c.M.contains (cN k.N a))
 ·have E:k.md c s a=s:=by unfold ce.md;rw[hd];rfl
  rw[E];rw[hd] at D;go_enter func183,ntmps183;go_wp2_with fail;refine D.mono ?_;rintro e w1 ⟨rfl,d⟩
  go_wp2;go_end0;exact⟨F,rfl,(da (d7 c k) bx (i2 c)).below l.out d,b8.of d⟩
 ·have E:k.md c s a=k.lk s a:=by unfold ce.md;rw[aI hd]
  rw[E];rw[hd] at D;go_enter func183,ntmps183;go_wp2_with fail;refine D.mono ?_;rintro e w1 ⟨rfl,d⟩
  have O:=(d.cell (p:=aq bx 0) A).trans x;have C:=(da (d7 c k) bx (i2 c)).below l.out d;obtain⟨P,g1,g2,g3,g4⟩:=C;have L:=xy g1 v.out a a0 a1 t u;have G:=jr g2 g3 g4 d;go_wp2_with fail;refine L.mono ?_;rintro e n ⟨i,rfl,H,g⟩
  have o:ay ((da (d7 c k) bx (i2 c)).J (fun b=>i b\/b=bx) (k.lk s a) n/\b8 F w (fun b=>i b\/b=bx) n):=by
   obtain⟨g2,g3,g4,d⟩:=G.out;refine⟨⟨i,H,(g.fr.block bx (lt_of_some g2) g3).trans g2,fun f=>(g.sub bx f).elim g3 (fun f=>by have:=lt_of_some g2;omega),fun b=>Iff.rfl⟩,⟨(Fr.of (X:=F) d).trans (g.fr.mono (fun b hb=>(g4 b).2 (aK hb))) (fun _ f=>aK f),fun b hb=>?_⟩⟩
   rcases hb with hb|hb
   ·exact(g.sub b hb).elim (fun f=>aK ((g4 b).2 (aK f))) (fun f=>aJ (by have:=d.size;omega))
   ·exact aK ((g4 b).2 (aJ hb))
  go_wp2;go_end0;exact⟨_,rfl,o.out.1,o.out.2⟩
theorem DZ (h:(d7 c k).J F s w)(i:CI k s)(J:s.wk=[])(K:s.ep=[]):
 Calls prog 108 #[aj c.pk] w fun e w'=>∃L,e=.returned (.tuple #[])/\(d7 c k).J L (k.lm c.c c.M s (dD k.N k.y s.g s.ws)) w'/\b8 F w L w'/\CI k (k.lm c.c c.M s (dD k.N k.y s.g s.ws))/\ee k (k.lm c.c c.M s (dD k.N k.y s.g s.ws))/\(k.lm c.c c.M s (dD k.N k.y s.g s.ws)).nx=s.nx:=by
 have M:=hide h;have p:=g6 i J K;have n1:=i.hN';have a0:=i.hO;have a1:=i.hg;have q:=au w (i2 c)
 have W:=(d7 c k).below h q;obtain⟨cG,u,h0⟩:=W;obtain⟨c0,_,c2,_,_,c5,_⟩:=d8 h0;obtain⟨n,_⟩:=iO h0;have P:=p4 _ n;have Y:=hide q;clear h i h0 n q J K;go_enter func108,ntmps108;go_wp2_with fail;refine P.mono ?_;clear P;rintro e w1 ⟨v1,v2,rfl,ab,o,N⟩
 obtain⟨a2,bb,rfl⟩:=eE ab;obtain⟨ad,ag,rfl⟩:=eE o;have hb:=Y.out.trans (N.mono Z)
 have ai:=(d7 c k).below M.out hb;have O:w1.heap[w.heap.size]?=some (i2 c):=(N.block _ Z).trans (aN _ _)
 have bd:w1.cell? (aq w.heap.size 0)=some (aj c.pk):=by simp[World.cell?,O]
 obtain⟨cG,u,v⟩:=ai;obtain⟨be,_,bg,_,_,bi,_⟩:=d8 v;have bl:(dD k.N k.y s.g s.ws).length<=2000:=iL _ _;have x:∀a∈dD k.N k.y s.g s.ws,(k.N:Int)<=a/\a<=2000:=fun a ha=>by have:=qb a ha;omega
 have A:∀b,F b->_:=(d7 c k).lt M.out;have al:(da (d7 c k) w.heap.size (i2 c)).J (fun b=>F b\/b=w.heap.size) s w1:=⟨F,⟨cG,u,v⟩,O,fun d=>by have:=A _ d;omega,fun b=>Iff.rfl⟩
 have am:=(da (d7 c k) w.heap.size (i2 c)).below al (aH _ w1).drew;have E:=xK (da (d7 c k) w.heap.size (i2 c)) (fun s a=>pf (k.ld s a)) (k.md c) (fun j s1=>CI k s1/\s1.wk.length<=j/\s1.ep.length<=j/\s1.nx=s.nx) c.pk c.pw c.p 183 #[aj w.heap.size] DX (dD k.N k.y s.g s.ws) ad ag s.nx (fun b=>F b\/b=w.heap.size) s w1.drew
  (by
    rintro F t Q a ⟨bn,⟨cG,u,g1⟩,_⟩
    obtain⟨c0,_,_,_,_,c5,_⟩:=d8 g1;obtain⟨n,_⟩:=iO g1;refine⟨c0,c5,(gd a Q n).mono ?_⟩
    rintro r w' ⟨rfl,hb⟩
    exact⟨_,_,rfl,hb⟩)
  (fun t a=>dj _) (fun a ha=>by have:=x a ha;omega) V
  (by
    rintro j F t Q l ⟨g1,g2,g3,g4⟩ an _;have hm:(dD k.N k.y s.g s.ws).getD j 0∈dD k.N k.y s.g s.ws:=by rw[aE,aL l];exact a6 l
    have:=x _ hm;exact DY w.heap.size an g1 _ this.1 this.2 V V)
  (by
    rintro j t l ⟨g1,g2,g3,g4⟩
    have hm:(dD k.N k.y s.g s.ws).getD j 0∈dD k.N k.y s.g s.ws:=by rw[aE,aL l];exact a6 l
    have hb:=x _ hm;unfold i3;split
    ·obtain⟨f,g⟩:=g1.md c hb.1 hb.2;have:=g.wk;have:=g.ep;exact⟨f,V,V,g.nx.trans g4⟩
    ·exact⟨g1,V,V,g4⟩)
  ⟨p.out.1,by rw[p.out.2.1];simp,by rw[p.out.2.2];simp,rfl⟩ am ((gH o).below (aH _ w1).drew)
  (fun hp z e=>by
    obtain⟨b,cap,ao⟩:=eU o hp;cases ao;cases e;have ap:=(cn o b rfl).1;simp at ap;rintro(d|d)
    ·have d:F b:=d;have:=A b d;omega
    ·have d:b=w.heap.size:=d;omega)
 rw[<-ce.DW] at E;have R:=dq A hb;obtain⟨s2,S⟩:∃s2,k.lm c.c c.M s (dD k.N k.y s.g s.ws)=s2:=⟨_,rfl⟩
 rw[S] at E;have ar:=hide S;go_wp2_with fail
 go_region_held3 (fun w'=>w'.cell? (aq w.heap.size 0)=some (aj c.pk)/\w'.cell? (aq c.pk 2)=some (ah s.nx)) (go_keep)
  (first
    |(go_at_call 180;refine E.mono ?_;clear E;rintro e B ⟨bo,rfl,⟨C,g1,g2,g3,g4⟩,D,f,g,G,m⟩;obtain⟨aB,aF,H⟩:=g1;obtain⟨_,_,aR,_⟩:=d8 H;have g1:(d7 c k).J C s2 B:=⟨aB,aF,H⟩;rw[m] at aR;have aV:=jr f g G m;clear H f g G m;have bp:B.cell? (aq w.heap.size 0)=some (aj c.pk):=(by simp[World.cell?,g2]);have U:ay (_/\b8 F w C B):=⟨g1,⟨((Fr.of (X:=F) R.out.2).drew).trans D.fr (fun b d=>d.imp id (fun d=>by omega)),fun b d=>(D.sub b ((g4 b).2 (aK d))).elim (fun d=>d.imp id (fun d=>by omega)) (fun d=>aJ (by have:=R.out.2.size;simp at d;omega))⟩⟩;clear g1 g2 g3 g4 D))
 have I:ay (CI k s2/\ee k s2/\s2.nx=s.nx):=by obtain⟨f,g,G,m⟩:=aV.out;have v:=f.g8;exact⟨f,⟨V,V⟩,m⟩
 go_wp2_with fail;go_end0;rw[ar.out];exact⟨C,rfl,U.out.1,U.out.2,I.out.1,I.out.2.1,I.out.2.2⟩
end
end Go.Proofs.YtpkjkjhanlbcoaaGreat
