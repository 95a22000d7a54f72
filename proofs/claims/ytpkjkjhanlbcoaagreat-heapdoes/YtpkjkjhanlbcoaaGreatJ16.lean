import Derived.Test.YtpkjkjhanlbcoaaGreatJ15
namespace Go.Proofs.YtpkjkjhanlbcoaaGreat
set_option maxRecDepth 100000
set_option maxHeartbeats 4000000
open Tryz
open Go.RowKit W Kp ch
theorem tA {P:Prop}(h:P:=by
 rcases hb with hb|hb
 ·exact(hT.sub b hb).imp (fun d=>(g4 b).2 (aL d)) id
 ·exact aL ((g4 b).2 (aK hb))):P:=h
def dQ (c:e7)(k:b_):dS cu:=ys (eM c k) (fun s=>cX k s)
abbrev dt (c:e7):Obj:=.cells #[am c.pk] 137 (0,0)
abbrev jY (c:e7):fL:=⟨142,#[am c.pk],#[]⟩
abbrev lR (c:e7):fL:=⟨80,#[am c.pk],#[]⟩
abbrev jj (fv:fL):Obj:=.cells #[fv.v] 147 (0,0)
abbrev iO (bx:Nat):fL:=⟨153,#[],#[am bx]⟩
abbrev hQ (b:Nat):fL:=⟨155,#[],#[am b]⟩
abbrev i5 (c:e7):fL:=⟨156,#[am c.pk],#[]⟩
theorem tC:d7 153:=gW func153 ah rfl
theorem tD:d7 155:=gW func155 ah rfl
theorem tE:d7 156:=gW func156 ah rfl
section
variable {c:e7}{k:b_}{F:Nat->Prop}{s:cu}{w:aw}
theorem tF (fv:fL)(w:aw)(p:Nat):
 Calls prog 79 #[am p,fv.v] w fun e w'=>e=.returned (.agg #[(iO w.heap.size).v,(hQ (w.heap.size+1)).v,.func (.func 156) #[am p] #[]])/\w'.heap[w.heap.size]?=some (.cells #[am p] 137 (0,0))/\w'.heap[w.heap.size+1]?=some (jj fv)/\Below w.heap.size w w':=by
 obtain⟨f,b,c⟩:=fv;go_enter func79,ntmps79;go_wp2_with fail;refine bz (v:=.agg #[(iO w.heap.size).v,(hQ (w.heap.size+1)).v,.func (.func 156) #[am p] #[]]) (by simp[results,results79,go_sem]) rfl ⟨rfl,?_,?_,(((aE _ w).alloc bY _).alloc ac _).alloc (by simp;omega) _⟩
 ·rw[a4 _ _ _ (by simp;omega),a4 _ _ _ ac];exact aN _ _
 ·rw[a4 _ _ _ ac];have:=aN (w.alloc (.cells #[.pointer (some ⟨p,0,none⟩)] 137)) (.cells #[.func (.func f) b c] 147)
  simpa using this
theorem tG:lK (dQ c k) (fun _=>True) (i5 c).f (i5 c).b (i5 c).c k.nw:=by
 rintro F s w x _ ⟨⟨vt,b,h⟩,_⟩
 exact yL h x
def b_.mp (k:b_)(s:cu)(x:Int):Int×cu:=(x,k.ma s x)
theorem yN (f:Nat):oI (di (dQ c k) f (jj (jY c))) (fun _=>True) (hQ f).f (hQ f).b (hQ f).c k.mp:=by
 rintro F s w x _ ⟨v,⟨h,j⟩,l,o,p⟩
 have P:=o6 h j x;have c0:w.cell? (ao f 0)=some (jY c).v:=aA l
 have u:=hide (j.ma x).1;have g:=gM l o p;clear h j l o p;show Calls prog 155 #[ak x,am f] w _;go_enter func155,ntmps155;go_wp2_with fail;refine P.mono ?_;clear P;rintro e w1 ⟨m,rfl,q,i⟩
 have t:=(i.fr.block f (lt_of_some g.o.1) g.o.2.1).trans g.o.1;have n:ay ((di (dQ c k) f (jj (jY c))).J (fun b=>m b\/b=f) (k.ma s x) w1/\Fr F w w1/\∀b,(m b\/b=f)->F b\/w.heap.size<=b):=by
  refine⟨⟨m,⟨q,u.o⟩,t,fun d=>(i.sub _ d).elim g.o.2.1 (fun d=>by have:=lt_of_some g.o.1;omega),fun b=>Iff.rfl⟩,i.fr.mono (fun b d=>(g.o.2.2 b).2 (aL d)),fun b d=>?_⟩
  rcases d with d|d
  ·exact(i.sub b d).imp (fun d=>(g.o.2.2 b).2 (aL d)) id
  ·exact aL ((g.o.2.2 b).2 (aK d))
 clear q i t;go_wp2_with fail;go_ret;exact⟨_,rfl,n.o.1,n.o.2.1,n.o.2.2⟩
end
def b_.eN (k:b_)(s:cu):cu:=k.lm (k.lost s+s.td.length+1) s
def b_.wa (k:b_)(t:cu×List b9):(cu×List b9)×Bool:=gH k.al k.mp t t.2.length
def b_.ph (k:b_)(s:cu):Nat:=k.lost s+s.td.length+s.ep.length
def b_.mu (k:b_)(s:cu):Nat:=k.lost s+k.ph s
def b_.cY (k:b_):Nat->cu×List b9->cu×List b9
 |0,t=>t
 |n+1,t=>
  if(k.kv (k.eN t.1)).1=true then k.cY n ((k.kv (k.eN t.1)).2,t.2)
  else if(k.wa ((k.kv (k.eN t.1)).2,t.2)).2=true then k.cY n (k.wa ((k.kv (k.eN t.1)).2,t.2)).1
  else(k.wa ((k.kv (k.eN t.1)).2,t.2)).1
def b_.sp (k:b_)(t:cu×List b9):cu×List b9:=k.cY (k.mu t.1+1) t
def b_.ke (k:b_)(t:cu×List b9)(x:Int):Int×(cu×List b9):=(x,k.sp (k.ma t.1 x,t.2))
structure dz (k:b_)(s t:cu):Prop where
 eZ:cX k t
 lo:k.lost t<=k.lost s
 ph:k.ph t<=k.ph s
section
variable {k:b_}{s t u:cu}
theorem dz.refl (h:cX k s):dz k s s:=⟨h,aD _,aD _⟩
theorem dz.trans (h:dz k s t)(j:dz k t u):dz k s u:=⟨j.eZ,aS j.lo h.lo,aS j.ph h.ph⟩
theorem dz.mu (h:dz k s t):k.mu t<=k.mu s:=by have b:=h.lo;have c:=h.ph;unfold b_.mu;omega
theorem yO (h:cX k s)(x:Int):k.cV s x=true->k.lost (k.ma s x)<k.lost s:=fun c=>by
 have:=b_.yH h.nd c (fun a ha=>(h.ps a ha).1)
 omega
theorem dz.ma (h:cX k s)(x:Int):dz k s (k.ma s x):=by
 obtain⟨b,f,d⟩:=h.ma x;refine⟨b,?_,?_⟩
 ·by_cases c:k.cV s x=true
  ·exact Nat.le_of_lt (yO h x c)
  ·have e:k.ma s x=s:=by unfold b_.ma;rw[aH c]
   rw[e];exact aD _
 ·unfold b_.ph;rw[d];omega
theorem dz.e6 (h:cX k s)(a:Int):∀n,dz k s (k.e6 s a n)
 |0=>dz.refl h
 |n+1=>(dz.e6 h a n).trans (dz.ma (dz.e6 h a n).eZ _)
theorem FJ (h:cX k s)(a:Int):k.lost (k.lk s a)<=k.lost s:=by
 unfold b_.lk;split
 ·exact(dz.e6 h a _).lo
 ·split
  ·exact(dz.ma h _).lo
  ·split
   ·exact aD _
   ·exact aD _
theorem dz.l1 (h:cX k s)(hl:0<s.td.length):dz k s (k.l1 s):=by
 obtain⟨c,d⟩:=h.l1 hl;have hm:s.td.getD (s.td.length-1) 0∈s.td:=by exact tz
 have hs:=h.sum;have e:(s.td.take (s.td.length-1)).length=s.td.length-1:=by rw[bu];omega
 have h0:cX k {s with td:=s.td.take (s.td.length-1)}:=⟨h.nd,h.ps,fun a ha=>h.td a (List.mem_of_mem_take ha),h.ep,h.tl,by show k.lost s+(s.td.take _).length+s.ep.length<=_;omega⟩
 have b:=(h0.lk (h.td _ hm) (by show k.lost s+(s.td.take _).length+s.ep.length+1<=_;omega)).2.2;have b:(k.l1 s).ep.length<=s.ep.length+1:=b;refine⟨c,(FJ h0 _),?_⟩
 unfold b_.ph;omega
theorem dz.lm:∀(n:Nat){s:cu},cX k s->dz k s (k.lm n s)
 |0,s,h=>dz.refl h
 |n+1,s,h=>by
  unfold b_.lm;by_cases c:0<s.td.length
  ·rw[aJ c];exact(dz.l1 h c).trans (dz.lm n (dz.l1 h c).eZ)
  ·rw[aH c];exact dz.refl h
theorem dz.eN (h:cX k s):dz k s (k.eN s):=dz.lm _ h
theorem FK (h:cX k s):(k.eN s).td=[]:=(cX.lm _ h).2.1 aa
theorem dz.iq:∀(l:List Int){t:List Int×cu},cX k t.2->dz k t.2 (l.foldl k.cS t).2
 |[],t,h=>dz.refl h
 |a::l,t,h=>by
  have b:dz k t.2 (k.cS t a).2:=by
   unfold b_.cS;split
   ·exact dz.refl h
   ·exact dz.ma h _
  exact b.trans (dz.iq l b.eZ)
theorem dz.kv (h:cX k s):dz k s (k.kv s).2/\((k.kv s).1=true->k.mu (k.kv s).2<k.mu s):=by
 obtain⟨b,f,g,c⟩:=h.kv;have d:k.lost (k.kv s).2<=k.lost s:=(dz.iq s.ep h).lo;refine⟨⟨b,d,by unfold b_.ph;omega⟩,fun e=>?_⟩
 have:=c e;unfold b_.mu b_.ph;omega
theorem yP:∀(l:List Nat)(t:(cu×List b9)×Bool),cX k t.1.1->dz k t.1.1 (l.foldl (dF k.al k.mp) t).1.1/\(l.foldl (dF k.al k.mp) t).1.2.length=t.1.2.length/\((l.foldl (dF k.al k.mp) t).2=true->t.2=true\/k.lost (l.foldl (dF k.al k.mp) t).1.1<k.lost t.1.1)
 |[],t,h=>⟨dz.refl h,rfl,fun e=>aL e⟩
 |i::l,t,h=>by
  have key:dz k t.1.1 (dF k.al k.mp t i).1.1/\(dF k.al k.mp t i).1.2.length=t.1.2.length/\((dF k.al k.mp t i).2=true->t.2=true\/k.lost (dF k.al k.mp t i).1.1<k.lost t.1.1):=by
   unfold dF;split
   ·exact⟨dz.refl h,rfl,fun e=>aL e⟩
   ·rename_i c;refine⟨dz.ma h _,ac,fun _=>aK (yO h _ ?_)⟩
    rw[Bool.or_eq_true] at c;cases hj:k.cV t.1.1 _
    ·exact absurd (aL (by unfold b_.al;rw[hj];rfl)) c
    ·rfl
  obtain⟨k1,f,g⟩:=key;obtain⟨d,j2,cA⟩:=yP l _ k1.eZ;refine⟨k1.trans d,j2.trans f,fun e=>?_⟩
  rcases cA e with b|b
  ·rcases g b with b|b
   ·exact aL b
   ·exact aK (Nat.lt_of_le_of_lt d.lo b)
  ·exact aK (aO b k1.lo)
theorem dz.wa {t:cu×List b9}(h:cX k t.1):dz k t.1 (k.wa t).1.1/\(k.wa t).1.2.length=t.2.length/\((k.wa t).2=true->k.mu (k.wa t).1.1<k.mu t.1):=by
 obtain⟨b,c,d⟩:=yP _ (t,false) h;have b:dz k t.1 (k.wa t).1.1:=b;refine⟨b,c,fun e=>?_⟩
 have f:k.lost (k.wa t).1.1<k.lost t.1:=(d e).resolve_left ac;have g:=b.ph;unfold b_.mu;omega
end
section
variable {c:e7}{k:b_}{F:Nat->Prop}{s:cu}{w:aw}{vr:Value}
theorem tH (bx b:Nat)(fv:fL):kn (di (di (dQ c k) b (jj fv)) bx (dt c)) (fun _=>True) (iO bx).f (iO bx).b (iO bx).c k.al:=by
 rintro F s w x _ ⟨f,⟨g,⟨⟨vt,i,h⟩,_⟩,_⟩,d,_⟩
 have P:=o5 h x;have c0:w.cell? (ao bx 0)=some (am c.pk):=aA d
 have E:k.al s x=!k.cV s x:=rfl;go_enter func153,ntmps153;go_wp2_with fail;refine P.mono ?_;rintro e w1 ⟨rfl,hb1⟩
 exact lz
theorem FL {i:Option Addr}{nr j:Nat}(l:vr=.slice i nr j){t:cu×List b9}(h:(de (dQ c k) c.bs vr).J F t w)(hq:t.2.length<=90000)(bx f:Nat)(m:w.heap[bx]?=some (dt c))(hy:w.heap[f]?=some (jj (jY c)))(n:¬F bx)(hm:¬F f)(o:bx≠f):
 Calls prog 145 #[am c.bs,.agg #[(iO bx).v,(hQ f).v,(i5 c).v]] w fun e w'=>∃g,e=.returned (.bool (k.wa t).2)/\(de (dQ c k) c.bs vr).J g (k.wa t).1 w'/\Fr (fun b=>F b\/b=f\/b=bx) w w'/\(∀b,g b->F b\/b=f\/b=bx\/w.heap.size<=b):=by
 refine(x7 _ (yq _ _ _) (fun _=>True) (iO bx) (hQ f) (i5 c) _ _ _ (ta _ c.bs vr (fun _=>True) (iO bx) (hQ f) (i5 c) k.al k.mp k.nw tC tD tE (tH bx f (jY c)) (ts (yN f)) (lQ (lQ tG))) i nr j l _ t w hq (fun _ _=>⟨trivial,trivial⟩) (jU (jU h hy hm) m (fun d=>d.elim n o))).mono ?_;rintro e w' ⟨g,rfl,p,q,hs⟩
 refine⟨g,rfl,tq (tq p),q.mono (fun b d=>?_),fun b hb=>?_⟩
 ·rcases d with(d|d)|d
  ·exact aL d
  ·exact aK (aL d)
  ·exact aK (aK d)
 ·rcases hs b hb with((d|d)|d)|d
  ·exact aL d
  ·exact aK (aL d)
  ·exact aK (aK (aL d))
  ·exact aK (aK (aK d))
theorem yQ {br:Option Addr}{nr bs:Nat}(bt:vr=.slice br nr bs){t:cu×List b9}(h:(de (dQ c k) c.bs vr).J F t w)(hq:t.2.length<=90000):
 Calls prog 77 #[am c.pk] w fun e w'=>∃a0,e=.returned (.tuple #[])/\(de (dQ c k) c.bs vr).J a0 (k.sp t) w'/\ce F w a0 w':=by
 have bx:∀(a1:Fn)(first a2:Array Value)(w:aw),(Instr.makeFunc a1 first a2).run prog w=.ok (.func a1 first a2) w:=fun _ _ _ _=>rfl;obtain⟨f,a3⟩:∃f,k.sp t=f:=⟨_,rfl⟩
 rw[a3];have b0:=hide a3;go_enter func77,ntmps77;go_wp2
 go_loopg [2] (k.mu t.1+1) (fun n b1 wr=>∃(ad:Nat->Prop)(d:cu×List b9)(b:Bool),b1=.bool b/\(de (dQ c k) c.bs vr).J ad d wr/\ce F w ad wr/\ay (if b=true then k.mu d.1<n/\k.cY n d=f else d=f)/\d.2.length<=90000)
 exact⟨F,t,true,rfl,h,ce.refl _ _,⟨aa,b0.o⟩,hq⟩
 ·
   obtain⟨ad,d,b,rfl,bb,bd,be,hq⟩:=hrel;cases b
   ·have x:=hide be.o;go_wp2;go_end0;rw[<-x.o];exact⟨ad,rfl,bb,bd⟩
   ·obtain⟨ci,b2⟩:=be.o;obtain⟨m,hm⟩:∃m,gk=m+1:=⟨gk-1,aa⟩
    obtain⟨cj,ar,b3⟩:=nM bb;have B:=FH ar.1 ar.2;have j0:=dz.eN ar.2;obtain⟨bg,j2⟩:=dz.kv j0.eZ;have cA:=(j0.trans bg).mu;have cD:=j0.mu;have b4:k.lm (k.lost d.1+d.1.td.length+1) d.1=k.eN d.1:=rfl;rw[b4] at B;have b5:=hide j0.eZ;have j:=gM bd b3 bg.eZ;have ax:ay (_/\((k.kv (k.eN d.1)).1=true->k.mu (k.kv (k.eN d.1)).2<k.mu d.1)/\k.mu d.1<m+1):=⟨cA,fun e=>by have:=j2 e;omega,aa⟩
    have x:ay (k.cY (m+1) d=f):=by rw[<-hm];exact b2
    have aB:=hide hm;go_wp2_with fail;refine B.mono ?_;rintro e w1 ⟨ck,rfl,N,W⟩
    have ag:=FI ((eM c k).below N (aE _ w1).drew) b5.o;have W:=W.below (aE _ w1).drew;obtain⟨cl,cm,N⟩:=N;obtain⟨_,_,_,_,b6,_⟩:=eE N;cases hkv:(k.kv (k.eN d.1)).1
    ·rw[hkv] at ag;have bi:ay ((if(k.wa ((k.kv (k.eN d.1)).2,d.2)).2=true then k.cY m (k.wa ((k.kv (k.eN d.1)).2,d.2)).1 else(k.wa ((k.kv (k.eN d.1)).2,d.2)).1)=f):=by
      have:=x.o;unfold b_.cY at this
      rw[hkv] at this
      exact this
     have s:=dz.wa (t:=((k.kv (k.eN d.1)).2,d.2)) j.o.2.2;have s:ay ((k.wa ((k.kv (k.eN d.1)).2,d.2)).1.2.length<=90000/\((k.wa ((k.kv (k.eN d.1)).2,d.2)).2=true->k.mu (k.wa ((k.kv (k.eN d.1)).2,d.2)).1.1<k.mu d.1)):=by refine⟨by rw[s.2.1];exact hq,fun e=>by have:=s.2.2 e;dsimp only at this;omega⟩
     generalize k.eN d.1=s1 at*;generalize (k.kv s1).2=s2 at*;go_wp2
     go_region_held3 (fun w'=>w'.cell? (ao c.pk 4)=some (am c.bs)) (go_keep)
      (first
        |(go_at_call 144;refine ag.mono ?_;rintro e l ⟨aF,rfl,o,ai⟩;obtain⟨bl,hM,al⟩:=j.o.2.1 aF s2 l ⟨o,j.o.2.2⟩ (W.trans ai);obtain⟨cn,co,o⟩:=o;obtain⟨_,_,_,_,aR,_⟩:=eE o;have l0:=aM l _ aR;have g:=dq hM (j.o.1.trans al))
        |(go_at_call 79;refine(tF (jY c) l c.pk).mono ?_;rintro e w3 ⟨rfl,b7,b8,bn⟩;have ca:=(bn.cell (p:=ao c.pk 4) l0).trans aR;have u:=gM b7 b8 bn)
        |(go_at_call 145;refine(FL bt (t:=(s2,d.2)) ((de (dQ c k) c.bs vr).below g.o.1 u.o.2.2) hq l.heap.size (l.heap.size+1) u.o.1 u.o.2.1 (fun h=>by have:=(de (dQ c k) c.bs vr).lt g.o.1 _ h;omega) (fun h=>by have:=(de (dQ c k) c.bs vr).lt g.o.1 _ h;omega) aa).mono ?_;rintro e cb ⟨aT,rfl,bo,cc,cd⟩;have ap:ay (_/\ce F w aT cb):=⟨bo,⟨(g.o.2.below u.o.2.2).fr.trans cc (fun b hb=>hb.elim (g.o.2.sub b) (fun e=>aK (by have:=g.o.2.fr.size;omega))),fun b hb=>(cd b hb).elim (g.o.2.sub b) (fun h=>aK (by have q:=g.o.2.fr.size;have bp:=u.o.2.2.size;omega))⟩⟩;obtain⟨cp,⟨⟨cq,cr,cf⟩,_⟩,_⟩:=nM bo;obtain⟨_,_,_,_,cg,_⟩:=eE cf))
     clear cg aR ca b6 j g u x bx W;cases hbw:(k.wa (s2,d.2)).2
     ·have ab:ay (if false=true then k.mu (k.wa (s2,d.2)).1.1<m/\k.cY m (k.wa (s2,d.2)).1=f else(k.wa (s2,d.2)).1=f):=by
       have:=bi.o;rw[hbw] at this
       exact this
      go_wp2
      go_roundg m
      case measure=>have:=aB.o;omega
      exact⟨aT,(k.wa (s2,d.2)).1,false,rfl,ap.o.1,ap.o.2,ab,s.o.1⟩
     ·have ab:ay (if true=true then k.mu (k.wa (s2,d.2)).1.1<m/\k.cY m (k.wa (s2,d.2)).1=f else(k.wa (s2,d.2)).1=f):=by have q:=bi.o;rw[hbw] at q;have bp:=s.o.2 hbw;have ch:=ax.o.2.2;exact⟨aa,q⟩
      go_wp2
      go_roundg m
      case measure=>have:=aB.o;omega
      exact⟨aT,(k.wa (s2,d.2)).1,true,rfl,ap.o.1,ap.o.2,ab,s.o.1⟩
    ·rw[hkv] at ag;have ab:ay (if true=true then k.mu (k.kv (k.eN d.1)).2<m/\k.cY m ((k.kv (k.eN d.1)).2,d.2)=f else((k.kv (k.eN d.1)).2,d.2)=f):=by have q:=x.o;unfold b_.cY at q;rw[hkv] at q;have bp:=ax.o.2.1 hkv;have ch:=ax.o.2.2;exact⟨aa,q⟩
     generalize k.eN d.1=s1 at*;generalize (k.kv s1).2=s2 at*;clear N;go_wp2;refine wp_region_noPanic ?_;refine wp_region_any ah ?_;refine qe (T:=fun _=>True) (S:=fun _=>True) (St:=[]) _ _ _ _ ?_;refine eC (i:=0) (v:=?_) rfl ah ah ah ah (fun _ _ _ h=>h) (aL ⟨af,?_⟩) trivial (aK trivial) ?_
     rotate_left
     ·intro w aV;go_simp
      try rfl
     try simp only [Act.put,List.getElem_toArray,List.getElem_cons_zero,List.setIfInBounds_toArray,List.set_cons_zero,List.set_cons_succ]
     refine mI (i:=1) ah ?_;refine xq rfl af ?_;simp only [List.getElem_toArray,List.getElem_cons_succ,List.getElem_cons_zero];go_simp;refine ag.mono ?_;rintro e l ⟨aF,rfl,o,ai⟩
     obtain⟨bl,hM,al⟩:=j.o.2.1 aF s2 l ⟨o,j.o.2.2⟩ (W.trans ai)
     have g:=dq hM (j.o.1.trans al)
     clear o ai hM al;refine eC (i:=2) (v:=?_) rfl ah ah ah ah (fun _ _ _ h=>h) (aL ⟨af,?_⟩) trivial (aK trivial) ?_
     rotate_left
     ·intro w aV;go_simp
      try rfl
     refine eC (i:=3) (v:=undef) rfl ah ah ah ah (fun _ _ _ h=>h) (aK ⟨af,rfl⟩) trivial (aK trivial) ?_;refine eC (i:=4) (v:=undef) rfl ah ah ah ah (fun _ _ _ h=>h) (aK ⟨af,rfl⟩) trivial (aK trivial) ?_;refine eC (i:=5) (v:=undef) rfl ah ah ah ah (fun _ _ _ h=>h) (aK ⟨af,rfl⟩) trivial (aK trivial) ?_;refine eC (i:=6) (v:=undef) rfl ah ah ah ah (fun _ _ _ h=>h) (aK ⟨af,rfl⟩) trivial (aK trivial) ?_
     try simp only [Act.put,List.getElem_toArray,List.getElem_cons_succ,List.getElem_cons_zero,List.setIfInBounds_toArray,List.set_cons_zero,List.set_cons_succ]
     refine eC (i:=7) (v:=undef) rfl ah ah ah ah (fun _ _ _ h=>h) (aK ⟨af,rfl⟩) trivial (aK trivial) ?_;refine eC (i:=8) (v:=undef) rfl ah ah ah ah (fun _ _ _ h=>h) (aK ⟨af,rfl⟩) trivial (aK trivial) ?_
     try simp only [Act.put,List.getElem_toArray,List.getElem_cons_succ,List.getElem_cons_zero,List.setIfInBounds_toArray,List.set_cons_zero,List.set_cons_succ]
     refine eC (i:=9) (v:=undef) rfl ah ah ah ah (fun _ _ _ h=>h) (aK ⟨af,rfl⟩) trivial (aK trivial) ?_;refine eC (i:=10) (v:=undef) rfl ah ah ah ah (fun _ _ _ h=>h) (aK ⟨af,rfl⟩) trivial (aK trivial) ?_;refine eC (i:=11) (v:=undef) rfl ah ah ah ah (fun _ _ _ h=>h) (aK ⟨af,rfl⟩) trivial (aK trivial) ?_;refine eC (i:=12) (v:=?_) rfl ah ah ah ah (fun _ _ _ h=>h) (aL ⟨af,?_⟩) trivial (aK trivial) ?_
     rotate_left
     ·intro w aV;go_simp
      try rfl
     refine eC (i:=13) (v:=?_) rfl ah ah ah ah (fun _ _ _ h=>h) (aL ⟨af,?_⟩) trivial (aK trivial) ?_
     rotate_left
     ·intro w aV;go_simp
      try rfl
     refine sG ah ?_ _;refine NoPanic.normal ?_;go_wp2
     go_roundg m
     case measure=>have:=aB.o;omega
     exact⟨bl,(s2,d.2),true,rfl,g.o.1,g.o.2,ab,hq⟩
theorem FM {j:Option Addr}{nr l:Nat}(m:vr=.slice j nr l){t:cu×List b9}(h:(de (dQ c k) c.bs vr).J F t w)(hq:t.2.length<=90000)(x:Int):
 Calls prog 80 #[am c.pk,ak x] w fun e w'=>∃b,e=.returned (.tuple #[])/\(de (dQ c k) c.bs vr).J b (k.ke t x).2 w'/\ce F w b w':=by
 obtain⟨S,⟨n,d⟩,o⟩:=nM h;have f:=dq o (d.ma x).1;have E:ay ((k.ke t x).2=k.sp (k.ma t.1 x,t.2)):=rfl;go_enter func80,ntmps80;go_wp2_with fail;refine(o6 n d x).mono ?_;rintro e w1 ⟨p,rfl,q,s⟩
 obtain⟨W,hM,u⟩:=f.o.1 p _ w1 ⟨q,f.o.2⟩ s;have g:=dq hM u;go_wp2_with fail;refine(yQ m g.o.1 hq).mono ?_;rintro e ab ⟨v,rfl,B,N⟩
 have i:=dq B (g.o.2.trans N)
 go_wp2_with fail;go_end0;exact⟨v,rfl,i.o.1,i.o.2⟩
end
section
variable {gT:Type}{o:dS gT}{bx p:Nat}{x:Obj}{vr:Value}{F:Nat->Prop}{w w':aw}
theorem qB {t:gT×List b9}(h:(de (di o bx x) p vr).J F t w):(de o p vr).J (fun b=>F b/\b≠bx) t w/\w.heap[bx]?=some x/\F bx:=by obtain⟨s,d,f,⟨g,g1,g2,g3,i⟩,j,k,l,m,n,u,v⟩:=h;have q:=(i bx).2 aa;exact⟨⟨g,d,f,g1,j,k,fun b hb=>(by grind),⟨m,fun e=>n (by simp_all)⟩,fun c=>(by grind),fun b e=>(by grind),fun b hb=>(by grind)⟩,g2,l _ q⟩
theorem iV {t:gT×List b9}(h:(de o p vr).J F t w):∃d,o.J d t.1 w/\∀{m:Type}(f:dS m) c g w',f.J c g w'->ce d w c w'->∃i,(de f p vr).J i (g,t.2) w'/\ce F w i w':=by
 obtain⟨d,n,q,s,j,u,v,x,B,N,S⟩:=h;refine⟨d,s,fun f c g w' l b=>?_⟩
 have lp:=lt_of_some j;refine⟨fun k=>F k\/c k,⟨c,n,q,l,(b.fr.block p lp B).trans j,cy u (fun k e=>b.fr.block k (by grind) (by grind)),fun k h=>aK h,aL x,fun h=>(by grind [ce.sub]),fun k e=>⟨aL (N k e).1,fun h=>(b.sub k h).elim (by grind) (by grind)⟩,fun k h=>?_⟩,b.fr.mono v,fun k h=>?_⟩
 ·rcases h with h|h
  ·exact aO (by grind) b.fr.size
  ·exact f.lt l k h
 ·rcases h with h|h
  ·grind
  ·exact(b.sub k h).imp (by grind) id
end
def FN (b:Type):dS b where
 J _ _ _:=False
 lt:=fun h=>h.elim
 keep:=fun h=>h.elim
def dM (b:Type):fG (b×List b9):=de (FN b) 0 (.slice none 0 0)
def cf.eT (k:cf)(t:ck×List b9)(r:List b9):ck×List b9:=fu (dM ck) (fun s x=>k.al s.1 x) k.ke t r
def cf.sR (k:cf)(t:ck×List b9)(r:List b9):List b9:=eV (dM ck) (fun s x=>k.al s.1 x) k.ke (fun s x=>k.nw s.1 x) t r
def cf.i6 (k:cf)(t:ck×List b9)(r:List b9):List b9:=eW (dM ck) (fun s x=>k.al s.1 x) k.ke (fun s x=>k.nw s.1 x) t r
theorem o7 {b:Type}(is:b->Int->Bool)(kp:b->Int->Int×b)(s:b×List b9):∀n,(gH is kp s n).1.2.length=s.2.length
 |0=>rfl
 |n+1=>by
  have e:gH is kp s (n+1)=dF is kp (gH is kp s n) n:=by simp[gH,List.range_succ]
  rw[e];have c:=o7 is kp s n
  grind [dF]
theorem o8 (k:cf):∀(n:Nat)(t:ck×List b9),(k.cY n t).2.length=t.2.length
 |0,_=>rfl
 |n+1,t=>by
  unfold cf.cY;split
  ·exact o8 k n _
  ·split
   ·exact(o8 k n _).trans (o7 _ _ _ _)
   ·exact o7 _ _ _ _
theorem tJ (k:cf)(t:ck×List b9)(x:Int):(k.ke t x).2.2.length=t.2.length:=o8 k _ _
section
variable {c:gm}{k:cf}{F:Nat->Prop}{s:ck}{w:aw}{vr:Value}
theorem FO (bx:Nat){i:Option Addr}{nr j:Nat}(l:vr=.slice i nr j):mA (de (di (gO c k) bx (iT c)) c.sd vr) (fun _=>True) (mN c).f (mN c).b (mN c).c k.ke:=by
 intro F t w x _ e m;have e:(k.ke t x).2.2.length<=90000:=e;obtain⟨n,g,s⟩:=qB m;rw[tJ] at e;refine(Fp l n e x).mono ?_;rintro r w' ⟨o,rfl,hM,f⟩
 have p:=lt_of_some g;have q:_:=fun d=>(f.sub bx d).elim (fun d=>d.2 rfl) (fun d=>by omega)
 refine⟨fun b=>o b\/b=bx,rfl,jU hM ((f.fr.block bx p (fun d=>d.2 rfl)).trans g) q,f.fr.mono (by grind),fun b d=>?_⟩
 rcases d with d|d
 ·exact(f.sub b d).imp (fun d=>d.1) id
 ·simp_all
theorem FP (bx:Nat){e:Option Addr}{nr f:Nat}(g:vr=.slice e nr f):lN (de (di (gO c k) bx (iT c)) c.sd vr) (fun _=>True) (jV bx) (mN c) (k4 c) (fun s x=>k.al s.1 x) k.ke (fun s x=>k.nw s.1 x) where
 ea:=yt
 fg:=Fj
 en:=yu
 ha:=by
  rintro F s w x _ ⟨b,i,j,d,_⟩
  exact yy bx b s.1 w x trivial d
 hk:=FO bx g
 ht:=by
  rintro F s w x _ ⟨b,i,j,d,_⟩
  exact lQ yz b s.1 w x trivial d
 hl:=fun s x=>tJ k s x
theorem FQ {m:Option Addr}{n:Nat}{r:List b9}(o:vr=.slice m r.length n){t:ck×List b9}(h:(de (gO c k) c.sd vr).J F t w)(p:w.ownsRow 0 103 2 vr r.length (ev r))(hq:t.2.length+r.length<=90000)(bx:Nat)(q:w.heap[bx]?=some (iT c))(s:¬F bx):
 Calls prog 78 #[am c.sd,.agg #[(jV bx).v,(mN c).v,(k4 c).v]] w fun e w'=>∃a1 c1 i,e=.returned (.tuple #[])/\(de (gO c k) c.sd (.slice a1 (k.sR t r).length c1)).J i ((k.eT t r).1,k.i6 t r) w'/\
  w'.ownsRow 0 103 2 (.slice a1 (k.sR t r).length c1) (k.sR t r).length (ev (k.sR t r))/\(∀b,some b=(Value.slice a1 (k.sR t r).length c1).ownBlock->¬i b/\w.heap.size<=b)/\Fr (fun b=>F b\/b=bx) w w'/\(∀b,i b->F b\/w.heap.size<=b):=by
 subst o;refine(s_ _ (fun _=>True) (jV bx) (mN c) (k4 c) _ _ _ (FP bx rfl) r m n rfl aa (by grind) _ t w (by grind) hq (jU h q s) (gn p)).mono ?_;rintro e w' ⟨a1,c1,a2,c2,u,ad,rfl,⟨ag,ai,al,⟨g,g1,g2,g3,ap⟩,ar,ax,aB,aF,v,aR,aT⟩,q3,x,j,f,l,B,aV,N,a0,S⟩
 have j:w'.heap[c.sd]?=some (.cells #[.slice a1 (k.sR t r).length c1,.slice a2 (k.i6 t r).length c2] 153 (0,0)):=j;have f:=f;have l:=l;have a3:∀b,g b->u b:=fun b hb=>(by grind)
 have W:∀b,g b->b≠c.sd:=fun b hb e=>v (by simp_all)
 have ab:=(gO c k).keep (w':=w') g1 x (fun b hb=>q3 b (by grind) (W b hb))
 have bb:F c.sd:=by obtain⟨_,_,_,_,_,_,_,bd,_⟩:=h;omega
 refine⟨a1,c1,fun b=>g b\/b=c.sd\/some b=(Value.slice a2 (k.i6 t r).length c2).ownBlock,rfl,⟨g,a2,c2,ab,j,ec l aa,fun b hb=>(by grind),aK (aL rfl),fun d=>(by grind),fun b e=>(by grind),fun b hb=>?_⟩,ec f aa,fun b e=>⟨fun d=>?_,(cg f b e).1⟩,B,fun b hb=>?_⟩
 ·grind [cg]
 ·rcases d with d|d|d
  ·exact N b e (by grind)
  ·obtain⟨be,hc⟩:=d6 f b e
   grind
  ·exact S b e d
 grind [cg]
end
theorem FR {pk cr cQ y:Nat}{a:Wc}{M T:List Int}{F:Nat->Prop}{s:ck}{w:aw}(h:(ef ⟨pk,cr,a.pw,a.p,a.q,a.pc,cQ,a.sd,a.nb,dY a.O,M⟩ ⟨a.N,a.O,y,T⟩).J F s w):∃d,(d5 a).J d ⟨y,s.g,s.ws,M,s.rs⟩ w/\(∀b,d b->F b)/\¬d pk:=by
 obtain⟨cE,f,own,h,g⟩:=h;have c:∀b j,own b=j->j<=4->(if own b<=4 then own b else 0)=j:=fun b j e i=>by simp_all
 refine⟨fun b=>(if own b<=4 then own b else 0)≠0,⟨fun b=>if own b<=4 then own b else 0,cQ,?_,fun b=>Iff.rfl⟩,fun b hb=>(by grind),fun hb=>hb ?_⟩
 ·exact {
   ar:=h.ar,a1:=c _ _ h.a1 ae,a2:=c _ _ h.a2 ae,cd:=h.cd,c1:=c _ _ h.c1 ae,c2:=c _ _ h.c2 ae,wd:=h.wd,w1:=c _ _ h.w1 ae,rt:=h.rt,rl:=h.rl,r1:=c _ _ h.r1 ae
   le:=fun b=>by grind
   lt:=fun b hb=>h.lt b (by grind)}
 ·have:=h.k1
  grind
structure co where
 s:eh
 r:List b9
 q:List b9
def fB (a:Wc):dS co where
 J F S w:=∃d ar c,(de (d5 a) a.sd (.slice ar S.r.length c)).J d (S.s,S.q) w/\w.ownsRow 0 103 2 (.slice ar S.r.length c) S.r.length (ev S.r)/\(∀b,some b=(Value.slice ar S.r.length c).ownBlock->¬d b)/\∀b,F b↔(d b\/some b=(Value.slice ar S.r.length c).ownBlock)
 lt:=by
  rintro F S w ⟨d,ar,c,g,i,j,f⟩ b hb;rcases(f b).1 hb with hb|hb
  ·exact(de (d5 a) a.sd (.slice ar S.r.length c)).lt g b hb
  ·exact(cg i b hb).2
 keep:=by rintro F S w w' ⟨d,ar,c,g,i,j,f⟩ hs hk;exact⟨d,ar,c,(de (d5 a) a.sd (.slice ar S.r.length c)).keep g hs (fun b hb=>hk b ((f b).2 (aL hb))),cy i (fun b e=>hk b ((f b).2 (aK e))),j,f⟩
def b_.eT (k:b_)(t:cu×List b9)(r:List b9):cu×List b9:=fu (dM cu) (fun s x=>k.al s.1 x) k.ke t r
def b_.sR (k:b_)(t:cu×List b9)(r:List b9):List b9:=eV (dM cu) (fun s x=>k.al s.1 x) k.ke (fun s x=>k.nw s.1 x) t r
def b_.i6 (k:b_)(t:cu×List b9)(r:List b9):List b9:=eW (dM cu) (fun s x=>k.al s.1 x) k.ke (fun s x=>k.nw s.1 x) t r
theorem o9 (k:b_):∀(n:Nat)(t:cu×List b9),(k.cY n t).2.length=t.2.length
 |0,t=>rfl
 |n+1,t=>by
  unfold b_.cY;split
  ·exact o9 k n ((k.kv _).2,t.2)
  ·split
   ·exact(o9 k n _).trans (o7 _ _ _ _)
   ·exact o7 _ _ _ _
theorem qC (k:b_)(t:cu×List b9)(x:Int):(k.ke t x).2.2.length=t.2.length:=o9 k _ _
section
variable {c:e7}{k:b_}{F:Nat->Prop}{s:cu}{w:aw}{vr:Value}
theorem FS (bx f:Nat)(W:bx≠f){ab:Option Addr}{nr ad:Nat}(ag:vr=.slice ab nr ad):mA (de (di (di (dQ c k) f (jj (lR c))) bx (dt c)) c.bs vr) (fun _=>True) (hQ f).f (hQ f).b (hQ f).c k.ke:=by
 intro F t w x _ j n;have j:(k.ke t x).2.2.length<=90000:=j;obtain⟨o,p,q⟩:=qB n;obtain⟨s,hy,u⟩:=qB o;rw[qC] at j;have P:=FM ag s j x;have c0:w.cell? (ao f 0)=some (lR c).v:=aA hy
 have i:=iZ p hy q u.1;have E:ay ((k.ke t x).1=x):=rfl;generalize (k.ke t x).1=ar at E⊢;generalize (k.ke t x).2=ai at P⊢;clear n o s p hy q u j;show Calls prog 155 #[ak x,am f] w _;go_enter func155,ntmps155;go_wp2_with fail;refine P.mono ?_;clear P;rintro e w1 ⟨l,rfl,hM,g⟩
 have al:=lt_of_some i.o.1;have ap:=lt_of_some i.o.2.1;have v:=(g.fr.block bx al (fun d=>d.1.2 rfl)).trans i.o.1;have B:=(g.fr.block f ap (fun d=>d.2 rfl)).trans i.o.2.1;have N:¬l f:=fun d=>(g.sub f d).elim (fun d=>d.2 rfl) (fun d=>by omega)
 have S:¬(l bx\/bx=f):=fun d=>d.elim (fun d=>(g.sub bx d).elim (fun d=>d.1.2 rfl) (fun d=>by omega)) W;have m:ay ((de (di (di (dQ c k) f (jj (lR c))) bx (dt c)) c.bs vr).J (fun b=>(l b\/b=f)\/b=bx) ai w1/\Fr F w w1/\∀b,((l b\/b=f)\/b=bx)->F b\/w.heap.size<=b):=by
  refine⟨jU (jU hM B N) v S,g.fr.mono (fun b d=>d.1.1),fun b d=>?_⟩
  rcases d with(d|d)|d
  ·exact(g.sub b d).imp (fun d=>d.1.1) id
  ·exact aL (by rw[d];exact i.o.2.2.2)
  ·exact aL (by rw[d];exact i.o.2.2.1)
 clear hM g v B N S;go_wp2_with fail;go_ret;rw[E.o];exact⟨_,rfl,m.o.1,m.o.2.1,m.o.2.2⟩
theorem FT (bx b:Nat)(f:bx≠b){g:Option Addr}{nr i:Nat}(j:vr=.slice g nr i):lN (de (di (di (dQ c k) b (jj (lR c))) bx (dt c)) c.bs vr) (fun _=>True) (iO bx) (hQ b) (i5 c) (fun s x=>k.al s.1 x) k.ke (fun s x=>k.nw s.1 x) where
 ea:=tC
 fg:=tD
 en:=tE
 ha:=by
  rintro F s w x _ ⟨d,l,m,e,_⟩
  exact tH bx b (lR c) d s.1 w x trivial e
 hk:=FS bx b f j
 ht:=by
  rintro F s w x _ ⟨d,l,m,e,_⟩
  exact lQ (lQ tG) d s.1 w x trivial e
 hl:=fun s x=>qC k s x
theorem FU {o:Option Addr}{p:Nat}{r:List b9}(N:vr=.slice o r.length p){t:cu×List b9}(h:(de (dQ c k) c.bs vr).J F t w)(S:w.ownsRow 0 103 2 vr r.length (ev r))(hq:t.2.length+r.length<=90000)(bx f:Nat)(q:bx≠f)(W:w.heap[bx]?=some (dt c))(hy:w.heap[f]?=some (jj (lR c)))(ab:¬F bx)(hm:¬F f):
 Calls prog 78 #[am c.bs,.agg #[(iO bx).v,(hQ f).v,(i5 c).v]] w fun e w'=>∃a1 c1 n,e=.returned (.tuple #[])/\(de (dQ c k) c.bs (.slice a1 (k.sR t r).length c1)).J n ((k.eT t r).1,k.i6 t r) w'/\
  w'.ownsRow 0 103 2 (.slice a1 (k.sR t r).length c1) (k.sR t r).length (ev (k.sR t r))/\(∀b,some b=(Value.slice a1 (k.sR t r).length c1).ownBlock->¬n b/\w.heap.size<=b)/\Fr (fun b=>F b\/b=f\/b=bx) w w'/\(∀b,n b->F b\/w.heap.size<=b):=by
 subst N;refine(s_ _ (fun _=>True) (iO bx) (hQ f) (i5 c) _ _ _ (FT bx f q rfl) r o p rfl aa (fun _ _=>⟨trivial,trivial⟩) _ t w (fun _ _=>⟨trivial,trivial⟩) hq (jU (jU h hy hm) W (fun d=>d.elim ab q)) (gn S)).mono ?_;rintro e w' ⟨a1,c1,a2,c2,ad,a3,rfl,⟨s,bb,bd,⟨fF,⟨g,g1,be,ag,u⟩,g2,g3,ai⟩,bg,bi,al,bl,ap,bn,bo⟩,q3,ar,i,j,l,ax,aB,aF,aR,aT⟩
 have i:w'.heap[c.bs]?=some (.cells #[.slice a1 (k.sR t r).length c1,.slice a2 (k.i6 t r).length c2] 153 (0,0)):=i;have j:=j;have l:=l;have v:∀b,g b->s b:=fun b hb=>(ai b).2 (aL ((u b).2 (aL hb)))
 have m:∀b,g b->ad b:=fun b hb=>al b (v b hb)
 have x:∀b,g b->b≠c.bs:=fun b hb e=>ap (by show s c.bs;rw[<-e];exact v b hb)
 have B:=(dQ c k).keep (w':=w') g1 ar (fun b hb=>q3 b (m b hb) (x b hb))
 have aV:F c.bs:=by obtain⟨_,_,_,_,_,_,_,a0,_⟩:=h;exact a0
 refine⟨a1,c1,fun b=>g b\/b=c.bs\/some b=(Value.slice a2 (k.i6 t r).length c2).ownBlock,rfl,⟨g,a2,c2,B,i,ec l (fun _ _=>aX _),fun b hb=>aL hb,aK (aL rfl),fun d=>x _ d rfl,fun b e=>⟨aK (aK e),fun d=>aR b e (m b d)⟩,fun b hb=>?_⟩,ec j (fun _ _=>aX _),fun b e=>⟨fun d=>?_,(cg j b e).1⟩,ax.mono (fun b d=>?_),fun b hb=>?_⟩
 ·rcases hb with hb|hb|hb
  ·exact(dQ c k).lt B b hb
  ·rw[hb];exact lt_of_some i
  ·exact(cg l b hb).2
 ·rcases d with d|d|d
  ·exact aF b e (m b d)
  ·obtain⟨bp,hc⟩:=d6 j b e;rw[d,i] at hc;simp at hc
  ·exact aT b e d
 ·rcases d with(d|d)|d
  ·exact aL d
  ·exact aK (aL d)
  ·exact aK (aK d)
 ·rcases hb with hb|hb|hb
  ·rcases aB b (m b hb) with((d|d)|d)|d
   ·exact aL d
   ·exact absurd hb (by rw[d];exact ag)
   ·exact absurd ((u b).2 (aL hb)) (by rw[d];exact g3)
   ·exact aK d
  ·exact aL (by rw[hb];exact aV)
  ·exact aK (cg l b hb).1
def b_.cK (k:b_)(s:cu):Nat->cu
 |0=>s
 |n+1=>k.ma (k.cK s n) (k.s.rs.getD n 0)
theorem dz.cK (h:cX k s):∀n,dz k s (k.cK s n)
 |0=>dz.refl h
 |n+1=>(dz.cK h n).trans (dz.ma (dz.cK h n).eZ _)
theorem FV (h:(eM c k).J F s w)(g:cX k s):
 Calls prog 76 #[am c.pk] w fun e w'=>∃b,e=.returned (.tuple #[])/\(eM c k).J b (k.cK s 12) w'/\ce F w b w':=by
 have m:=hide h;have n:=hide g;obtain⟨vt,o,h⟩:=h;obtain⟨_,c0,c3,_⟩:=gz h;obtain⟨u,_⟩:=eE h;clear h g;go_enter func76,ntmps76;go_wp2_with fail
 go_loopw [12] (fun iv wr=>∃(j:Nat)(b:Nat->Prop),j<=12/\iv=ak j/\ay ((eM c k).J b (k.cK s j) wr/\ce F w b wr)) (fun iv _=>12-(intOf iv).toNat)
 exact⟨0,F,aX _,rfl,⟨m.o,ce.refl _ _⟩⟩
 ·
   obtain⟨j,b,v,rfl,d⟩:=hrel;by_cases p:j<12
   ·obtain⟨vt,o,i⟩:=d.o.1;obtain⟨_,_,_,rt⟩:=gz i;have r1:=rt j p;have f:=o6 d.o.1 (dz.cK n.o j).eZ (k.s.rs.getD j 0)
    have l:ay (k.ma (k.cK s j) (k.s.rs.getD j 0)=k.cK s (j+1)):=rfl;rw[l.o] at f;generalize k.s.rs.getD j 0=x at r1 f;clear i rt l;go_wp2_with fail;refine f.mono ?_;rintro e B ⟨q,rfl,j2,t⟩
    go_wp2_with fail;go_roundw;exact⟨j+1,q,aa,aj,(dq j2 (d.o.2.trans t))⟩
    simp[intOf];omega
   ·obtain rfl:j=12:=aa;go_wp2_with fail;go_end0;exact⟨b,rfl,d.o.1,d.o.2⟩
end
theorem yR (z:Value)(n:Nat)(hz:z.cells.size=1):(Builtin.zeroCells z.cells n).size=n*1:=by rw[size_zeroCells,hz]
theorem yS (l:List Int):∀u∈l.map (Value.int .i64),u.oneCell'=true:=fun u b=>by obtain⟨x,_,rfl⟩:=List.mem_map.1 b;rfl
theorem yT {w:aw}{base:Nat}{e:TypeId}{d:Option Addr}{g:Nat}{l:List Int}(h:w.ownsRow base e 1 (.slice d l.length g) l.length (l.map (Value.int .i64))):∀a,d=some a->∀j u,(l.map (Value.int .i64))[j]?=some u->w.cell? (a.add j)=some u:=fun a ea j u hj=>by
 have c:j<l.length:=by exact oJ
 obtain⟨b,o,f,_,hc⟩:=gV h aa;rw[ea] at f;cases f;rw[bv,aI c] at hj;have i:(⟨b,o,none⟩:Addr).add j=⟨b,o+j,none⟩:=by simp[Addr.add]
 rw[i,(hc j c),<-hj];simp[List.getD_eq_getElem?_getD,List.getElem?_eq_getElem c]
theorem FX (w:aw)(n:Nat)(k:n<=100000):
 Calls prog 242 #[.slice none 0 0,ak n] w fun e w'=>∃a1 c1,e=.returned (.slice a1 0 c1)/\w'.ownsRow w.heap.size 3 1 (.slice a1 0 c1) 0 []/\Below w.heap.size w w':=by
 obtain⟨c,hi,d,f,i⟩:=info_parts jQ;rcases Nat.eq_zero_or_pos n with h0|h0
 ·subst h0;go_enter func242,ntmps242;go_wp2;go_ret;exact⟨none,0,rfl,a6 _ _ _ _,aE _ _⟩
 ·have hr:=Lib.run_append_nil_zeros (P:=prog) w 74 3 74 3 c _ .i64 .i64 underlying74 underlying3 hi d n h0 (by rw[f];decide) aa (by rw[i];omega)
  have j:=grownCap_ge w n 0 3;have b:=grownCap_le_maxLen w n 0 3 (by unfold maxLen;omega)
  generalize grownCap w n 0 3=g at hr j b;have hown:(w.drew.alloc (.cells (Builtin.zeroCells (Value.int .i64 0).cells n++Builtin.zeroCells (Value.int .i64 0).cells (g-n)) 3)).ownsRow w.heap.size 3 1 (.slice (some ⟨w.heap.size,0,none⟩) 0 g) 0 []:=
   World.ownsRow_made w.drew _ g bY b (by rw[Array.size_append,yR _ _ rfl,yR _ _ rfl];omega)
  have hb:Below w.heap.size w (w.drew.alloc (.cells (Builtin.zeroCells (Value.int .i64 0).cells n++Builtin.zeroCells (Value.int .i64 0).cells (g-n)) 3)):=(aE _ w).drew.alloc bY _;go_enter func242,ntmps242;exact xu
theorem yU (w:aw)(B:Nat)(l1 l2:List Int)(f g:Option Addr)(c1 c2:Nat)(s:w.cell? (ao B 0)=some (.slice f l1.length c1))(F:w.cell? (ao B 1)=some (.slice g l2.length c2))(N:w.ownsRow 0 3 1 (.slice f l1.length c1) l1.length (l1.map (Value.int .i64)))(S:w.ownsRow 0 3 1 (.slice g l2.length c2) l2.length (l2.map (Value.int .i64)))(hm:l1.length+l2.length<=100000):
 Calls prog 215 #[.slice (an B) 2 2] w fun e w'=>∃a c,e=.returned (.slice a (l1.length+l2.length) c)/\w'.ownsRow w.heap.size 3 1 (.slice a (l1.length+l2.length) c) (l1.length+l2.length) ((l1++l2).map (Value.int .i64))/\Below w.heap.size w w':=by
 obtain⟨t,hi,u,v,x⟩:=info_parts jQ;have i:=hide N;have j:=hide S;have hB:=aM w _ s;go_enter func215,ntmps215;go_wp2
 go_loopw [3,11] (fun l iv wr=>wr=w/\((iv=ak 0/\l=ak 0)\/(iv=ak 1/\l=ak l1.length)\/(iv=ak 2/\l=ak (l1.length+l2.length:Nat)))) (fun _ iv _=>2-(intOf iv).toNat)
 exact⟨rfl,aL ⟨rfl,rfl⟩⟩
 ·
   obtain⟨hw,⟨rfl,rfl⟩|⟨rfl,rfl⟩|⟨rfl,rfl⟩⟩:=hrel
   all_goals
    have hw:=hw.symm;subst hw
   ·go_wp2;go_roundw;exact⟨trivial,aK (aL ⟨aj,aj⟩)⟩
    simp[intOf]
   ·go_wp2;go_roundw;exact⟨trivial,aK (aK ⟨aj,aj⟩)⟩
    simp[intOf]
   ·go_wp2_with fail;refine(FX w (l1.length+l2.length) hm).mono ?_;rintro e w1 ⟨a1,W,rfl,b,hb⟩
    go_wp2
    go_loopw [6,27] (fun m iv wk=>Below w.heap.size w wk/\((∃a c,iv=ak 0/\m=.slice a 0 c/\wk.ownsRow w.heap.size 3 1 (.slice a 0 c) 0 [])\/(∃a c,iv=ak 1/\m=.slice a l1.length c/\wk.ownsRow w.heap.size 3 1 (.slice a l1.length c) l1.length (l1.map (Value.int .i64)))\/(∃a c,iv=ak 2/\m=.slice a (l1.length+l2.length) c/\wk.ownsRow w.heap.size 3 1 (.slice a (l1.length+l2.length) c) (l1.length+l2.length) ((l1++l2).map (Value.int .i64))))) (fun _ iv _=>2-(intOf iv).toNat)
    exact⟨hb,aL ⟨a1,W,rfl,rfl,b⟩⟩
    ·
      obtain⟨hb,⟨a,c,rfl,rfl,b⟩|⟨a,c,rfl,rfl,b⟩|⟨a,c,rfl,rfl,b⟩⟩:=hrel
      ·have ab:=(hb.cell (p:=ao B 0) hB).trans s;have hs:=hb.size;go_wp2_with (at_builtin;refine je _ rfl _ _ 74 rfl w.heap.size 3 t (ak 0) 1 8 underlying74 hi u v x rfl ae (.slice a 0 c) 0 [] rfl b f l1.length c1 (l1.map (Value.int .i64)) rfl ac (sy i.o) (yT (cy i.o (fun k e=>hb.block k (cg i.o k e).2))) (yS l1) ?_ ?_ hs ?_;(unfold maxLen;omega);omega;intro a2 n ad d o _;rw[Nat.zero_add,List.nil_append] at d)
       have q:=hb.grown o hs (fun k e=>(cg b k e.symm).1)
       go_wp2;go_roundw;exact⟨q,aK (aL ⟨a2,n,aj,rfl,d⟩)⟩
       simp[intOf]
      ·have ab:=(hb.cell (p:=ao B 1) hB).trans F;have hs:=hb.size;go_wp2_with (at_builtin;refine je _ rfl _ _ 74 rfl w.heap.size 3 t (ak 0) 1 8 underlying74 hi u v x rfl ae (.slice a l1.length c) l1.length (l1.map (Value.int .i64)) rfl b g l2.length c2 (l2.map (Value.int .i64)) rfl ac (sy j.o) (yT (cy j.o (fun k e=>hb.block k (cg j.o k e).2))) (yS l2) ?_ ?_ hs ?_;(unfold maxLen;omega);omega;intro a2 n ad d o _;rw[<-bC] at d)
       have q:=hb.grown o hs (fun k e=>(cg b k e.symm).1)
       go_wp2;go_roundw;exact⟨q,aK (aK ⟨a2,n,aj,rfl,d⟩)⟩
       simp[intOf]
      ·go_wp2;go_ret;exact⟨a,c,rfl,b,hb⟩
section
variable {c:e7}{k:b_}{F:Nat->Prop}{s:cu}{w:aw}
theorem yV {vt b:Value}(h:(cW c k vt b).J F s w):w.ownsRow 0 3 1 c.yv k.Y.length (k.Y.map (Value.int .i64))/\w.ownsRow 0 3 1 c.ov k.G.length (k.G.map (Value.int .i64)):=by obtain⟨d,own,h,_⟩:=h;exact⟨h.yr,h.gr⟩
theorem yW (h:(eM c k).J F s w)(hl:k.T.length<=4000):
 Calls prog 141 #[am c.pk] w fun e w'=>∃a i,e=.returned (.slice a k.T.length i)/\w'.ownsRow w.heap.size 3 1 (.slice a k.T.length i) k.T.length (k.T.map (Value.int .i64))/\Below w.heap.size w w':=by
 have v:k.T.length=k.G.length+k.Y.length:=by unfold b_.T;rw[aZ]
 have x:ay (k.T.map (Value.int .i64)=(k.G++k.Y).map (Value.int .i64)):=rfl;rw[v] at hl⊢;rw[x.o];obtain⟨vt,W,h⟩:=h;obtain⟨_,n,o,_,_,_,_,_,lk⟩:=eE h;obtain⟨yr,gr⟩:=yV h;obtain⟨d,f,B⟩:=dU yr;obtain⟨g,gc,N⟩:=dU gr;rw[B] at n yr;rw[N] at o gr;have S:=aq w.drew (.cells #[.slice g k.G.length gc,.slice d k.Y.length f] 74)
 have j:=(au w).drew.trans (S.mono bY)
 have q:=aN w.drew (.cells #[.slice g k.G.length gc,.slice d k.Y.length f] 74)
 have P:=yU (w.drew.alloc (.cells #[.slice g k.G.length gc,.slice d k.Y.length f] 74)) w.heap.size k.G k.Y g d gc f (by simp only [World.cell?];rw[show w.heap.size=w.drew.heap.size from rfl,q];rfl) (by simp only [World.cell?];rw[show w.heap.size=w.drew.heap.size from rfl,q];rfl) (cy gr (fun b e=>j.block b (cg gr b e).2)) (cy yr (fun b e=>j.block b (cg yr b e).2)) aa;have l:=hide j;go_enter func141,ntmps141;go_wp2_with fail
 go_region_held3 (fun w'=>w'.cell? (ao c.pk 1)=some (.slice d k.Y.length f)/\w'.cell? (ao c.pk 2)=some (.slice g k.G.length gc)) (go_keep)
  (first
    |(go_at_call 215;refine P.mono ?_;rintro e w3 ⟨a,i,rfl,t,hb⟩;have m:=l.o.trans (hb.mono l.o.size);have y1:=(m.cell (p:=ao c.pk 1) lk).trans n;have ab:=(m.cell (p:=ao c.pk 2) lk).trans o;have u:=dq (ec t (fun b e=>aS l.o.size (cg t b e).1)) m))
 go_wp2_with fail;go_ret;exact⟨a,i,rfl,u.o.1,u.o.2⟩
end
def e9 {b:Type}(fm:b->Int->Int)(st:b->Int->b)(t:b)(a:Int):b:=if fm t a=-1 then t else st t a
def gQ {b:Type}(fm:b->Int->Int)(st:b->Int->b)(t:b)(l:List Int):b:=l.foldl (e9 fm st) t
theorem tK {g:Type}(o:dS g)(fm fd:g->Int->Int)(st:g->Int->g)(G:Nat->g->Prop)(T:List Int)(pk pw p cr f:Nat)(ad:Array Value)(ag:d7 f)(l:List Int)(ai:Option Addr)(bd:Nat)(F:Nat->Prop)(t:g)(w:aw)
 (al:∀F t w a,o.J F t w->w.cell? (ao pk 0)=some (am pw)/\w.cell? (ao pk 3)=some (.map (some cr))/\w.cell? (ao pw 0)=some (am p)/\Mp w cr T (fm t)/\Calls prog 102 #[am p,ak a] w fun r w'=>∃x z,r=.returned (.tuple #[ak x,ak (fd t a),ak z])/\Below w.heap.size w w')
 (ap:∀t a,0<=fd t a/\fd t a<=12)(ar:∀a∈l,(0<=a/\a<=100000)/\a∈T)(b7:l.length<=100000)
 (ax:∀j F t w,j<l.length->G j t->o.J F t w->fm t (l.getD j 0)≠-1->Calls prog f (#[ak (l.getD j 0),ak (1+fd t (l.getD j 0))]++ad) w fun r w'=>∃c,r=.returned (.tuple #[])/\o.J c (st t (l.getD j 0)) w'/\ce F w c w')
 (aB:∀j t,j<l.length->G j t->G (j+1) (e9 fm st t (l.getD j 0)))(h0:G 0 t)(e:o.J F t w)(aF:∀c N w',o.J c N w'->ce F w c w'->iI w' ai l):
 Calls prog 157 #[am pk,.slice ai l.length bd,.func (.func f) #[] ad] w fun r w'=>∃c,r=.returned (.tuple #[])/\o.J c (gQ fm st t l) w'/\ce F w c w'/\G l.length (gQ fm st t l):=by
 have be:ay (∀F t w a,o.J F t w->_):=al;have bg:ay (∀j F t w,j<l.length->G j t->o.J F t w->fm t (l.getD j 0)≠-1->_):=ax;have bi:ay (∀j t,j<l.length->G j t->_):=aB;have bl:ay (∀c N w',o.J c N w'->ce F w c w'->_):=aF;have bn:ay (_):=ar;have bo:ay (∀t a,_):=ap;have b8:∀(args:Array Value)(w:aw),_=_:=ag;clear al ax aB aF ar ap ag;go_enter func157,ntmps157;go_wp2_with fail
 go_loopw [13] (fun iv wr=>∃(j:Nat)(d:Nat->Prop)(b:g),j<=l.length/\iv=ak j/\ay (gQ fm st t (l.take j)=b)/\ay (G j b)/\o.J d b wr/\ce F w d wr) (fun iv _=>l.length-(intOf iv).toNat)
 case atStart=>exact⟨0,F,t,aX _,rfl,rfl,h0,e,ce.refl _ _⟩
 case round=>
  clear h0 e;obtain⟨j,d,b,b9,rfl,S,W,e,s⟩:=hrel;by_cases i:j<l.length
  ·obtain⟨ca,cb,bp,cc,hc⟩:=bl.o d b wr e s aa;have br:=hc j i;subst bp;have aR:l.getD j 0∈l:=by rw[aG,aI i];exact a_ i
   obtain⟨bs,aT⟩:=bn.o _ aR;have aV:=i1 bs.1 aa;have a0:ay (gQ fm st t (l.take (j+1))=e9 fm st b (l.getD j 0)):=by
    show _=_;rw[fE l j i 0];unfold gQ;rw[List.foldl_append];have:=S.o;unfold gQ at this
    rw[this];rfl
   have a1:ay (_):=bi.o j b i W.o;have k:=fun w h=>bg.o j d b w i W.o h;obtain⟨bt,bx,b0,⟨D,o1,b1,a2⟩,L⟩:=be.o d b wr (l.getD j 0) e;have u:=hide (a2 _ aT)
   have cd:=bo.o b (l.getD j 0)
   have B:ay (_/\_):=⟨e,s⟩
   have k:ay (∀w,o.J d b w->fm b (l.getD j 0)≠-1->_):=k;clear hc aR aT e s b1 a2;by_cases hw:fm b (l.getD j 0)=-1
   ·have n:ay (e9 fm st b (l.getD j 0)=b):=by show _=_;unfold e9;rw[aJ hw]
    rw[hw] at u;clear k L;generalize l.getD j 0=a at*;go_wp2_with (at_lookup;refine wpList_lookup_own_int _ rfl _ _ 127 rfl 3 3 .i64 iE underlying127 underlying3 (lC _) cr T.length D rfl o1 _ _ rfl aV ?_;intro z q ab;obtain rfl:z=-1:=(by have:=q.symm.trans u.o;simpa using this);clear q ab)
    clear br bt bx b0 o1;go_roundw
    case rel=>exact⟨j+1,d,b,aa,aj,by show _=_;rw[a0.o,n.o],by show G _ _;rw[<-n.o];exact a1.o,B.o.1,B.o.2⟩
    case measure=>simp[intOf];omega
   ·have n:ay (e9 fm st b (l.getD j 0)=st b (l.getD j 0)):=by show _=_;unfold e9;rw[aH hw]
    have b2:ay (∀w,o.J d b w->_):=fun w h=>k.o w h hw;clear k;generalize l.getD j 0=a at*;generalize fm b a=v at*;generalize fd b a=m at*;generalize st b a=b3 at*;go_wp2_with (at_lookup;refine wpList_lookup_own_int _ rfl _ _ 127 rfl 3 3 .i64 iE underlying127 underlying3 (lC _) cr T.length D rfl o1 _ _ rfl aV ?_;intro z q ab;obtain rfl:z=v:=(by have:=q.symm.trans u.o;simpa using this);clear q ab u)
    refine L.mono ?_;rintro r w1 ⟨x,y,rfl,a3⟩
    go_wp2_with fail;refine(b2.o w1 (o.below B.o.1 a3)).mono ?_;rintro r cf ⟨b4,rfl,b5,b6⟩
    have bb:=dq b5 ((B.o.2.below a3).trans b6)
    go_wp2_with fail;go_roundw;exact⟨j+1,b4,b3,aa,aj,by show _=_;rw[a0.o,n.o],by show G _ _;rw[<-n.o];exact a1.o,bb.o.1,bb.o.2⟩
    simp[intOf];omega
  ·obtain rfl:j=l.length:=aa;rw[ba] at S;go_wp2_with fail;go_end0;rw[S.o];exact⟨d,rfl,e,s,W.o⟩
theorem yX {c:Type}(o:dS c)(fm fd:c->Int->Int)(st:c->Int->c)(G:Nat->c->Prop)(T:List Int)(pk pw p cr f:Nat)(i:Array Value)(s:d7 f)(l:List Int)(g:Option Addr)(k:Nat)(F:Nat->Prop)(t:c)(w:aw)
 (u:∀F t w a,o.J F t w->w.cell? (ao pk 0)=some (am pw)/\w.cell? (ao pk 3)=some (.map (some cr))/\w.cell? (ao pw 0)=some (am p)/\Mp w cr T (fm t)/\Calls prog 102 #[am p,ak a] w fun r w'=>∃x z,r=.returned (.tuple #[ak x,ak (fd t a),ak z])/\Below w.heap.size w w')
 (v:∀t a,0<=fd t a/\fd t a<=12)(B:∀a∈l,(0<=a/\a<=100000)/\a∈T)(N:l.length<=100000)
 (S:∀j F t w,j<l.length->G j t->o.J F t w->fm t (l.getD j 0)≠-1->Calls prog f (#[ak (l.getD j 0),ak (1+fd t (l.getD j 0))]++i) w fun r w'=>∃d,r=.returned (.tuple #[])/\o.J d (st t (l.getD j 0)) w'/\ce F w d w')
 (W:∀j t,j<l.length->G j t->G (j+1) (e9 fm st t (l.getD j 0)))(h0:G 0 t)(ab:o.J F t w)(m:iI w g l)(ad:0<l.length->∀z,g=some z->¬F z.block):
 Calls prog 157 #[am pk,.slice g l.length k,.func (.func f) #[] i] w fun r w'=>∃d,r=.returned (.tuple #[])/\o.J d (gQ fm st t l) w'/\ce F w d w'/\G l.length (gQ fm st t l):=
 tK o fm fd st G T pk pw p cr f i s l g k F t w u v B N S W h0 ab (fun d _ w' _ n=>m.keep n.fr.size (fun hp z e=>n.fr.block _ (by obtain⟨b,ag,q,hb,_⟩:=m hp;rw[e] at q;cases q;exact hb) (ad hp z e)))
abbrev jZ (n:Int):Obj:=.cells #[ak n] 3 (0,0)
def g8 {g:Type}(o:dS g)(d:Nat):dS (g×Int) where
 J F t w:=∃c,o.J c t.1 w/\w.heap[d]?=some (jZ t.2)/\¬c d/\∀b,F b↔(c b\/b=d)
 lt:=by
  rintro F t w ⟨c,h,f,_,e⟩ b hb;rcases(e b).1 hb with hb|hb
  ·exact o.lt h b hb
  ·rw[hb];exact lt_of_some f
 keep:=by rintro F t w w' ⟨c,h,f,i,e⟩ hs hk;exact⟨c,o.keep h hs (fun b hb=>hk b ((e b).2 (aL hb))),(hk d ((e d).2 (aK rfl))).trans f,i,e⟩
section
variable {gT:Type}{o:dS gT}{bx fY:Nat}{x:Obj}{F:Nat->Prop}{w:aw}
theorem gA {t:gT}(h:(di o bx x).J F t w):∃e,o.J e t w/\w.heap[bx]?=some x/\bx<w.heap.size/\∀c f w1,o.J c f w1->ce e w c w1->(di o bx x).J (fun b=>c b\/b=bx) f w1/\ce F w (fun b=>c b\/b=bx) w1:=by
 obtain⟨e,h,g2,g3,g4⟩:=h;refine⟨e,h,g2,lt_of_some g2,fun c f w1 g hT=>⟨⟨c,g,(hT.fr.block bx (lt_of_some g2) g3).trans g2,fun d=>(hT.sub bx d).elim g3 (fun d=>by have:=lt_of_some g2;omega),fun b=>Iff.rfl⟩,⟨hT.fr.mono (fun b hb=>(g4 b).2 (aL hb)),fun b hb=>?_⟩⟩⟩
 exact tA
theorem k7 {t:gT×Int}(h:(g8 o fY).J F t w):∃e,o.J e t.1 w/\w.heap[fY]?=some (jZ t.2)/\fY<w.heap.size/\∀c f w1,o.J c f w1->ce e w c w1->(g8 o fY).J (fun b=>c b\/b=fY) (f,t.2) w1/\ce F w (fun b=>c b\/b=fY) w1:=by
 obtain⟨e,h,g2,g3,g4⟩:=h;refine⟨e,h,g2,lt_of_some g2,fun c f w1 g hT=>⟨⟨c,g,(hT.fr.block fY (lt_of_some g2) g3).trans g2,fun d=>(hT.sub fY d).elim g3 (fun d=>by have:=lt_of_some g2;omega),fun b=>Iff.rfl⟩,⟨hT.fr.mono (fun b hb=>(g4 b).2 (aL hb)),fun b hb=>?_⟩⟩⟩
 exact tA
theorem nN {t:gT×Int}(h:(g8 o fY).J F t w):w.cell? (ao fY 0)=some (ak t.2)/\w.frozen? (ao fY 0)=false:=by obtain⟨b,h,g2,g3,c⟩:=h;exact⟨by simp[World.cell?,g2],by simp[World.frozen?,g2]⟩
theorem yY {t:gT×Int}(h:(g8 o fY).J F t w)(m:Int):(g8 o fY).J F (t.1,m) (w.setCell ⟨fY,0,none⟩ (.int .i64 m))/\ce F w F (w.setCell ⟨fY,0,none⟩ (.int .i64 m)):=by
 obtain⟨d,h,g2,g3,c⟩:=h;have fr:Fr (fun b=>b=fY) w (w.setCell ⟨fY,0,none⟩ (.int .i64 m)):=(Fr.refl _ w).set _ 0 _ rfl;refine⟨⟨d,o.keep h fr.size (fun b hb=>fr.block b (o.lt h b hb) (fun e=>g3 (by rw[<-e];exact hb))),?_,g3,c⟩,⟨fr.mono (fun b e=>(c b).2 (aK e)),fun _ f=>aL f⟩⟩
 simp only [World.setCell,Array.getElem?_modify,if_true,g2,Option.map_some];simp
end
section
variable {c:e7}{k:b_}{vt ct:Value}{F:Nat->Prop}{s:cu}{w:aw}
theorem FY (h:(cW c k vt ct).J F s w):
 Calls prog 82 #[am c.pk] w fun e w'=>e=.returned (ak k.a.O)/\Below w.heap.size w w':=by
 obtain⟨b,c0,_⟩:=gz h;obtain⟨l,_⟩:=eE h;have P:=kj w b;have g:=hide h;have k1:=b.hO;have m:=b.hg;clear h b;go_enter func82,ntmps82;go_wp2_with fail;refine P.mono ?_;rintro e w1 ⟨rfl,d⟩
 have f:=(cW c k vt ct).below g.o d;obtain⟨b,n,_⟩:=gz f;obtain⟨o,_⟩:=eE f;have P:=om w1 b;go_wp2_with fail;refine P.mono ?_;rintro e p ⟨rfl,i⟩
 have j:=hide (d.trans (i.mono d.size))
 go_wp2_with fail;go_ret;exact⟨aj,j.o⟩
theorem FZ {bp d:Nat}{n m a:Int}(h:(g8 (di (cW c k vt ct) bp (dt c)) d).J F (s,n) w)(ht:k.T.length<=4000)(ha:a∈k.T)(hp:0<=a/\a<=2000)(ax:0<=n/\n<=100000)(hm:0<=m/\m<=13):
 Calls prog 158 #[ak a,ak m,am d,am bp] w fun e w'=>∃j,e=.returned (.tuple #[])/\(g8 (di (cW c k vt ct) bp (dt c)) d).J j ({s with f:=gw s.f a n},n+m) w'/\ce F w j w':=by
 obtain⟨q,_⟩:=nN h;obtain⟨_,g,_⟩:=k7 h;obtain⟨_,i,l,_⟩:=gA g;obtain⟨_,_,_,aB,_⟩:=eE i;have l:w.cell? (ao bp 0)=some (am c.pk):=aA l
 clear g i;obtain⟨aF,g,_,_,u⟩:=k7 ((g8 (di (cW c k vt ct) bp (dt c)) d).below h (aE _ w).drew)
 obtain⟨aR,i,_,_,v⟩:=gA g;obtain⟨⟨D,o1,x,B⟩,hM⟩:=o4 i;obtain⟨w3,aT,N,S⟩:=o1.update (t:=127) (e:=3) iE underlying127 (by unfold maxLen;omega) (i1 hp.1 aa) (mo n (WalkArith.wf_i64 ⟨aa,aa⟩))
 obtain⟨W,ab⟩:=hM w3 _ (Mp.put o1 x B ha N) ((Fr.refl _ w.drew).grown S (fun b e=>aL (by cases e;rfl)))
 obtain⟨ad,ag⟩:=v _ _ _ W ab;obtain⟨o,ai⟩:=u _ _ _ ad ag;obtain⟨al,aV⟩:=nN o;have p:ay (_/\_):=⟨o,(ce.of (aE _ w).drew).trans ai⟩
 dsimp only at q al;go_enter func158,ntmps158;go_wp2
 go_region
 go_wp2;go_end0;obtain⟨ap,ar⟩:=yY p.o.1 (n+m)
 exact⟨_,rfl,ap,p.o.2.trans ar⟩
end
def b_.lS (k:b_)(t:cu×Int)(a:Int):cu×Int:=({t.1 with f:=gw t.1.f a t.2},t.2+(1+pf (k.ld a)))
def b_.lT (k:b_)(t:cu×Int)(l:List Int):cu×Int:=gQ (fun t a=>t.1.f a) k.lS t l
def b_.pl (k:b_)(s:cu):cu×Int:=k.lT (s,k.a.N) k.T
section
variable {c:e7}{k:b_}{vt ct:Value}{F:Nat->Prop}{s:cu}{w:aw}
theorem F0:d7 158:=gW func158 ah rfl
theorem F1 {bp i:Nat}(h:(g8 (di (cW c k vt ct) bp (dt c)) i).J F (s,(k.a.N:Int)) w)(ht:k.T.length<=4000)(hp:∀a∈k.T,0<=a/\a<=2000)(hN:k.a.N<=2000){l:Option Addr}{m B:Nat}(o:w.ownsRow B 3 1 (.slice l k.T.length m) k.T.length (k.T.map (Value.int .i64)))(hB:∀b,F b->b<B):
 Calls prog 157 #[am c.pk,.slice l k.T.length m,.func (.func 158) #[] #[am i,am bp]] w fun e w'=>∃g,e=.returned (.tuple #[])/\(g8 (di (cW c k vt ct) bp (dt c)) i).J g (k.pl s) w'/\ce F w g w'/\0<=(k.pl s).2/\(k.pl s).2<=60000:=by
 have E:=yX _ (fun t a=>t.1.f a) (fun _ a=>pf (k.ld a)) k.lS (fun j t=>0<=t.2/\t.2<=2000+13*(j:Int)) k.T c.pk k.a.pw k.a.p c.cr 158 #[.pointer _,.pointer _] F0 k.T l m F (s,(k.a.N:Int)) w
  (by
    rintro F t q a u;obtain⟨_,f,_⟩:=k7 u;obtain⟨_,d,_⟩:=gA f;obtain⟨c0,_,_,c3,_⟩:=eE d;obtain⟨v,c5,_⟩:=gz d;obtain⟨hM,_⟩:=o4 d;refine⟨c0,c3,c5,hM,(f6 a q v).mono ?_⟩
    rintro r w' ⟨rfl,hb⟩
    exact⟨_,_,rfl,hb⟩)
  (fun t a=>dp _) (fun a ha=>⟨by have:=hp a ha;omega,ha⟩) aa
  (by
    rintro j F t q p ⟨g1,g2⟩ x _;have hm:k.T.getD j 0∈k.T:=by rw[aG,aI p];exact a_ p
    have f:=hp _ hm;have d:=dp (k.ld (k.T.getD j 0))
    exact FZ (s:=t.1) (n:=t.2) x ht hm f ⟨g1,aa⟩ aa)
  (by
    rintro j t p ⟨g1,g2⟩
    have d:=dp (k.ld (k.T.getD j 0))
    unfold e9;split
    ·exact⟨g1,aa⟩
    ·unfold b_.lS;exact⟨aa,aa⟩)
  ⟨aa,aa⟩ h (gV o)
  (fun N z e hz=>by obtain⟨b,ad,S⟩:=d4 o N;cases S;cases e;have d:=(cg o b rfl).1;have:=hB b hz;omega)
 refine E.mono ?_;rintro r w' ⟨g,rfl,f,d,W,ab⟩
 exact⟨g,rfl,f,d,W,Int.le_trans ab aa⟩
theorem F4 (h:(cW c k vt ct).J F s w)(ht:k.T.length<=4000)(hp:∀a∈k.T,0<=a/\a<=2000):
 Calls prog 81 #[am c.pk] w fun e w'=>∃f,e=.returned (ak ((k.pl s).2-k.a.N))/\(cW c k vt ct).J f (k.pl s).1 w'/\ce F w f w':=by
 have W:=hide h;have m:=aq w (dt c)
 have h0:=(cW c k vt ct).below h m;obtain⟨n,c0,_⟩:=gz h0;obtain⟨bo,_⟩:=eE h0;have P:=me _ n;have n1:=n.hN';have ab:=hide m;clear h h0 n m;go_enter func81,ntmps81;go_wp2_with fail;refine P.mono ?_;clear P;rintro e w1 ⟨rfl,ad⟩
 have o:=(ad.block _ ac).trans (aN _ _)
 have aB:w1.cell? (ao w.heap.size 0)=some (am c.pk):=aA o
 have q:=(cW c k vt ct).lt W.o;have t:=lt_of_some o;have i:Below w1.heap.size w1 (w1.alloc (jZ k.a.N)):=aq w1 _;have u:=ab.o.trans (ad.mono ab.o.size)
 have ag:=(cW c k vt ct).below ((cW c k vt ct).below W.o u) i;have aF:(di (cW c k vt ct) w.heap.size (dt c)).J (fun b=>F b\/b=w.heap.size) s (w1.alloc (jZ k.a.N)):=⟨F,ag,(i.block _ t).trans o,fun d=>by have:=q _ d;omega,fun b=>Iff.rfl⟩
 have aR:(g8 (di (cW c k vt ct) w.heap.size (dt c)) w1.heap.size).J (fun b=>(F b\/b=w.heap.size)\/b=w1.heap.size) (s,(k.a.N:Int)) (w1.alloc (jZ k.a.N)):=⟨_,aF,aN _ _,fun d=>d.elim (fun d=>by have:=q _ d;omega) (fun d=>by omega),fun b=>Iff.rfl⟩
 have hd:=(aE (w1.alloc (jZ k.a.N)).heap.size (w1.alloc (jZ k.a.N))).drew;have aT:=yW (c:=c) ⟨vt,ct,(cW c k vt ct).below ag hd⟩ ht;have j:ay (_/\_/\_/\_/\(w1.alloc (jZ k.a.N)).drew.heap.size=w1.heap.size+1):=⟨(g8 (di (cW c k vt ct) w.heap.size (dt c)) w1.heap.size).below aR hd,(u.trans (i.mono u.size)).trans (hd.mono (by simp;omega)),q,t,ac⟩
 have aV:=(i.cell (p:=ao w.heap.size 0) t).trans aB;have ai:=dq ht hp;go_wp2_with fail
 go_region_held3 (fun w'=>w'.cell? (ao w.heap.size 0)=some (am c.pk)) (go_keep)
  (first
    |(go_at_call 141;refine aT.mono ?_;rintro e w3 ⟨bp,br,rfl,a0,l⟩;have bs:=(l.cell (p:=ao w.heap.size 0) (by have:=j.o.2.2.2;simp;omega)).trans aV;have v:=dq a0 l)
    |(go_at_call 157;refine(F1 ((g8 (di (cW c k vt ct) w.heap.size (dt c)) w1.heap.size).below j.o.1 v.o.2) ai.o.1 ai.o.2 aa v.o.1 (fun b hb=>by have g:=j.o.2.2;rw[g.2.2];rcases hb with(hb|hb)|hb;(have:=g.1 b hb;omega);omega;omega)).mono ?_;rintro e x ⟨bt,rfl,B,a1,b1,b2⟩;have bx:=(nN B).1;obtain⟨a2,g,_,_,_⟩:=k7 B;obtain⟨al,N,S,_,_⟩:=gA g;have b0:x.cell? (ao w.heap.size 0)=some (am c.pk):=aA S;clear g N S;have a3:=dq B a1))
 all_goals
  have bb:ay (∃f,(cW c k vt ct).J f (k.pl s).1 x/\ce F w f x):=by
   obtain⟨⟨a2,⟨al,N,S,bd,ap⟩,b3,be,bg⟩,ar⟩:=a3.o;obtain⟨_,bi,q3,b4,b5⟩:=j.o;have l:=v.o.2;have ax:_:=bi.trans (l.mono aa)
   refine⟨al,N,⟨(Fr.of (X:=F) ax).trans ar.fr (fun b d=>?_),fun b hb=>?_⟩⟩
   ·rcases d with(d|d)|d
    ·exact aL d
    ·exact aK aa
    ·exact aK aa
   ·rcases ar.sub b ((bg b).2 (aL ((ap b).2 (aL hb)))) with((d|d)|d)|d
    ·exact aL d
    ·exact absurd hb (by rw[d];exact bd)
    ·exact absurd ((ap b).2 (aL hb)) (by rw[d];exact be)
    ·exact aK (by have:=ax.size;omega)
  go_wp2_with fail;go_ret;obtain⟨f,bl,bn⟩:=bb.o;exact⟨f,by first|rfl|go_num,bl,bn⟩
end
section
variable {c:gm}{k:cf}{F:Nat->Prop}{s:ck}{w:aw}
theorem F6 (h:(ef c k).J F s w)(m:CI k s)(hl:s.ep.length<=10000):
 Calls prog 113 #[am c.pk] w fun e w'=>e=.returned (.tuple #[])/\(ef c k).J F (k.be s s.ep) w'/\ce F w F w':=by
 obtain⟨cE,bl,h⟩:=h;obtain⟨c0,_,_,_,c4,c5,_,_,_,ax,_,er,_,lk,_⟩:=eg h;obtain⟨aB,g,rfl⟩:=dU er;have aF:=hide m;have aR:=hide m.hL;have bn:(0:Int)<=k.N:=aa;clear m ax;go_enter func113,ntmps113;go_wp2_with fail
 go_loopw [9] (fun iv wr=>∃(j:Nat)(s1:ck),j<=s.ep.length/\iv=ak j/\ay (k.be s (s.ep.take j)=s1)/\(cutV c k cE (.slice aB s.ep.length g)).J F s1 wr/\ce F w F wr/\ay (CI k s1/\dZ k s s1)) (fun iv _=>s.ep.length-(intOf iv).toNat)
 exact⟨0,s,aX _,rfl,rfl,h,ce.refl _ _,⟨aF.o,dZ.refl _ _⟩⟩
 ·
   obtain⟨j,s1,bo,rfl,n,d,o,p⟩:=hrel;obtain⟨bp,_,_,_,aT,br,_,_,_,aV,_,q,_,bs,_⟩:=eg d;have a0:=p.o.2.ep;rw[a0] at q;by_cases i:j<s.ep.length
   ·obtain⟨t,u,a1,bt,hc⟩:=gV q aa;have a2:=hc j i;subst a1;have N:s.ep.getD j 0∈s.ep:=by rw[aG,aI i];exact a_ i
    have S:=aR.o _ N;have v:ay (k.be s (s.ep.take (j+1))=k.gy s1 (s.ep.getD j 0)):=by
     show _=_;rw[fE s.ep j i 0];unfold cf.be;rw[List.foldl_append];have:=n.o;unfold cf.be at this
     rw[this];rfl
    generalize s.ep.getD j 0=a at a2 S v;have W:ay (CI k (k.gy s1 a)/\dZ k s (k.gy s1 a)):=by obtain⟨a3,bb⟩:=p.o.1.gy S.1;exact⟨a3,p.o.2.trans bb⟩
    have ab:ay (k.gy s1 a=k.st (k.st s1 (a+1) 3) (a+2) 3):=rfl;generalize k.gy s1 a=ad at v W ab;have bd:=dq d o;have l:=(iG ((cutV c k cE (.slice (some ⟨t,u,none⟩) s.ep.length g)).below d (aE _ wr).drew))
    have f:ay (_):=l;have bx:IntKind.i64.wrap (a+1)=a+1:=by rw[bw];omega
    have b0:IntKind.i64.wrap (a+2)=a+2:=by rw[bw];omega
    clear hc N d o l aV q aT;go_wp2_with fail
    go_region_held3 (fun w'=>w'.cell? (ao c.pk 0)=some (am c.pw)/\w'.cell? (ao c.pw 0)=some (am c.p)) (go_keep)
     (first
       |(go_at_call 191;refine(m8 _).mono ?_;rintro e be ⟨rfl,b⟩;have b:=b.symm;subst b)
       |(go_at_call 93;refine(ki (a+1) 3 wr.drew f.o.1).mono ?_;rintro e w3 ⟨rfl,x,B⟩;obtain⟨ag,bg⟩:=f.o.2 w3 _ _ x B;obtain⟨g0,_,_,_,_,g5,_⟩:=eg ag;have ai:ay (_/\_):=⟨ag,(bd.o.2.below (aE _ wr).drew).trans bg⟩))
    have l:=(iG ((cutV c k cE (.slice (some ⟨t,u,none⟩) s.ep.length g)).below ai.o.1 (aE _ w3).drew))
    have f:ay (_):=l;go_wp2_with fail
    go_region_held3 (fun w'=>w'.cell? (ao c.pk 0)=some (am c.pw)/\w'.cell? (ao c.pw 0)=some (am c.p)) (go_keep)
     (first
       |(go_at_call 191;refine(m8 _).mono ?_;rintro e be ⟨rfl,b⟩;have b:=b.symm;subst b)
       |(go_at_call 93;refine(ki (a+2) 3 w3.drew f.o.1).mono ?_;rintro e al ⟨rfl,x,B⟩;obtain⟨ap,bi⟩:=f.o.2 al _ _ x B;obtain⟨r0,_,_,_,_,b1,_⟩:=eg ap;have ar:ay ((cutV c k cE (.slice (some ⟨t,u,none⟩) s.ep.length g)).J F ad al/\_):=⟨(by rw[ab.o];exact ap),(ai.o.2.below (aE _ w3).drew).trans bi⟩))
    go_wp2_with fail;go_roundw
    case rel=>exact⟨j+1,ad,aa,aj,v,ar.o.1,ar.o.2,W⟩
    case measure=>simp[intOf];omega
   ·obtain rfl:j=s.ep.length:=aa;rw[ba] at n;go_wp2_with fail;go_end0;rw[n.o];exact⟨rfl,⟨_,_,d⟩,o⟩
end
end Go.Proofs.YtpkjkjhanlbcoaaGreat
