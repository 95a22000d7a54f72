import Derived.OrdersHeld
import Derived.Test.YtjpjpjemibgjpaaGreatJ18
import Derived.Test.YtjpjpjemibgjpaaGreatJ01
import Derived.Test.YtjpjpjemibgjpaaGreatJ00
import Derived.Test.YtjpjpjemibgjpaaGreatJ02
import Derived.Test.YtjpjpjemibgjpaaGreatJ04
namespace Go.Proofs.YtjpjpjemibgjpaaGreat
theorem aa{P:Prop}(h:P:=by rfl):P:=h
set_option maxRecDepth 100000
set_option maxHeartbeats 2000000
open Tryz
open Go
section
variable {P:Program}{ops:Array Oper}{Q:Exit->Act->World->Prop}{md:Region.Mode}{T S:World->Prop}{St:List Nat}
def came (St:List Nat)(a:Array Bool):Prop:=∃s∈St,a.getD s false=true
def hY (P:Program)(md:Region.Mode)(ops:Array Oper)(Q:Exit->Act->World->Prop)(T S:World->Prop)(St:List Nat):Nat->Array Bool->Act->World->Prop
 |0,b,a,w=>Region.ready md ops b=[]/\Q .normal a w
 |c+1,b,a,w=>(Region.ready md ops b=[]->Q .normal a w)/\
  ∀i∈Region.ready md ops b,wpOp P ops Q i (fun d w'=>(T w'/\(came St (b.setIfInBounds i true)\/S w'))/\hY P md ops Q T S St c (b.setIfInBounds i true) d w') a w
theorem nM:∀(b:Nat)(c:Array Bool)(a:Act)(w:World),hY P md ops Q T S St b c a w->wpAny P md ops Q b c a w
 |0,_,_,_,h=>h
 |b+1,_,_,_,h=>⟨h.1,fun i hi=>wpOp_mono (fun d w' e=>nM b _ d w' e.2) (h.2 i hi)⟩
def waits (md:Region.Mode)(ops:Array Oper)(St:List Nat)(i:Nat):Bool:=
 St.all fun s=>match ops[s]? with
  |some o=>o.after.any fun e=>Region.binds md e&&e.on==i
  |none=>false
theorem aQ (a b:Bool):((a && b) = Bool.true) = (a = Bool.true /\ b = Bool.true):=Bool.and_eq_true ..
theorem yu {i j:Nat}{b:Array Bool}(hw:waits md ops St i=true)(hi:i∈Region.ready md ops b)(k:j∈Region.ready md ops b):j∉St:=by
 intro hs;have f:=List.all_eq_true.1 hw j hs;obtain⟨h0,o,l,m⟩:=mem_ready.1 k;rw[l] at f;obtain⟨e,he,c⟩:=Array.any_eq_true'.1 f;rw[aQ,beq_iff_eq] at c;have a:=m e he c.1;rw[c.2] at a;have g:=(mem_ready.1 hi).1;rcases Nat.lt_or_ge i b.size with d|d
 ·simp[d] at a g;rw[g] at a;cases a
 ·simp[Array.getElem?_eq_none d] at a
theorem pF {i:Nat}{a:Array Bool}(b:¬came St a)(hi:i∉St):¬came St (a.setIfInBounds i true):=by
 rintro⟨s,hs,h⟩
 have c:i≠s:=fun e=>hi (by rw[e];exact hs)
 exact b ⟨s,hs,by rw[getD_set_ne false c] at h;exact h⟩
theorem yx {i:Nat}{g:Oper}{v:Value}(hi:ops[i]?=some g)(L:i∉St)(M:waits md ops St i=true)(B:∀(j:Nat)(o:Oper) p b,ops[j]?=some o->o.op≠.select p b)
 (N:∀c a w,Q (.panic c) (a.put g.dst v) w->Q (.panic c) a w):
 ∀(q:Nat)(d:Array Bool)(a:Act)(w:World),
  (∀j l,ops[j]?=some l->j≠i->d.getD j true=false->(∀e∈l.after,Region.binds md e=true->e.on≠i)->g.apart ops l=true)->
  i∈Region.ready md ops d->¬came St d->YieldsIf P ops (fun w=>T w/\S w) g v a->T w/\S w->
  hY P md ops Q T S St q (d.setIfInBounds i true) (a.put g.dst v) w->hY P md ops Q T S St (q+1) d a w:=by
 intro q
 induction q with
 |zero=>
  intro d a w _ n _ hy m H;refine⟨fun h=>absurd n (by rw[h];simp),fun j s=>?_⟩
  by_cases f:j=i
  ·rw[f];exact hy.wpOp hi m ⟨⟨m.1,an m.2⟩,H⟩
  ·have hm:=ready_mono s f;rw[H.1] at hm;simp at hm
 |succ q O=>
  intro d a w C n D hy m H;refine⟨fun h=>absurd n (by rw[h];simp),fun j s=>?_⟩
  by_cases f:j=i
  ·rw[f];exact hy.wpOp hi m ⟨⟨m.1,an m.2⟩,H⟩
  ·have E:=yu M n s;have R:=H.2 j (ready_mono s f)
   obtain⟨F,l,u,U⟩:=mem_ready.1 s;have W:g.apart ops l=true:=C j l u f F (fun e he X Y=>by
    have t:=U e he X;rw[Y] at t;have G:=(mem_ready.1 n).1;rcases Nat.lt_or_ge i d.size with x|x
    ·simp[x] at t G;rw[G] at t;cases t
    ·simp[Array.getElem?_eq_none x] at t)
   refine wpOp_mono (fun ad w' h=>?_) (wpOp_putIf u W (fun p b=>B i g p b hi) (fun p b=>B j l p b u) N hy R)
   obtain⟨ai,J,aF⟩:=h;have al:=pF D E;have A:T w'/\S w':=⟨J.1,J.2.resolve_left (pF (pF D L) E)⟩
   refine⟨⟨A.1,an A.2⟩,O (d.setIfInBounds j true) ad w' (fun k ok hk ar ax aB=>C k ok hk ar ?_ aB) (ready_mono n (Ne.symm f)) al ai A ?_⟩
   ·by_cases K:j=k
    ·rw[<-K];exact F
    ·rwa [getD_set_ne true K] at ax
   ·rwa [Array.setIfInBounds_comm _ _ f]
theorem yy {i:Nat}{g:Oper}{v:Value}(hi:ops[i]?=some g)(K:i∉St)(C:∀(j:Nat)(o:Oper) m b,ops[j]?=some o->o.op≠.select m b)
 (L:∀c a w,Q (.panic c) (a.put g.dst v) w->Q (.panic c) a w):
 ∀(n:Nat)(d:Array Bool)(a:Act)(w:World),
  (∀j l,ops[j]?=some l->j≠i->d.getD j true=false->(∀e∈l.after,Region.binds md e=true->e.on≠i)->g.apart ops l=true)->
  i∈Region.ready md ops d->YieldsIf P ops T g v a->T w->(came St d\/S w)->
  hY P md ops Q T S St n (d.setIfInBounds i true) (a.put g.dst v) w->hY P md ops Q T S St (n+1) d a w:=by
 have up:∀{d:Array Bool}{k:Nat},came St d->came St (d.setIfInBounds k true):=fun⟨s,hs,h⟩=>⟨s,hs,getD_set_true h⟩
 intro n
 induction n with
 |zero=>
  intro d a w _ p hy q hc H;refine⟨fun h=>absurd p (by rw[h];simp),fun j u=>?_⟩
  by_cases f:j=i
  ·rw[f];exact hy.wpOp hi q ⟨⟨q,hc.imp up id⟩,H⟩
  ·have hm:=ready_mono u f;rw[H.1] at hm;simp at hm
 |succ n M=>
  intro d a w D p hy q hc H;refine⟨fun h=>absurd p (by rw[h];simp),fun j u=>?_⟩
  by_cases f:j=i
  ·rw[f];exact hy.wpOp hi q ⟨⟨q,hc.imp up id⟩,H⟩
  ·have N:=H.2 j (ready_mono u f)
   obtain⟨E,l,x,O⟩:=mem_ready.1 u;have R:g.apart ops l=true:=D j l x f E (fun e he U W=>by
    have t:=O e he U;rw[W] at t;have F:=(mem_ready.1 p).1;rcases Nat.lt_or_ge i d.size with A|A
    ·simp[A] at t F;rw[F] at t;cases t
    ·simp[Array.getElem?_eq_none A] at t)
   refine wpOp_mono (fun X w' h=>?_) (wpOp_putIf x R (fun m b=>C i g m b hi) (fun m b=>C j l m b x) L hy N)
   obtain⟨Y,B,ax⟩:=h;have G:came St (d.setIfInBounds j true)\/S w':=B.2.imp (fun⟨s,hs,h⟩=>by
    have ad:i≠s:=fun e=>K (by rw[e];exact hs)
    refine⟨s,hs,?_⟩
    rw[Array.setIfInBounds_comm _ _ (Ne.symm f),getD_set_ne false ad] at h;exact h) id
   refine⟨⟨B.1,G⟩,M (d.setIfInBounds j true) X w' (fun k ok hk ai al ar=>D k ok hk ai ?_ ar) (ready_mono p (Ne.symm f)) Y B.1 G ?_⟩
   ·by_cases J:j=k
    ·rw[<-J];exact E
    ·rwa [getD_set_ne true J] at al
   ·rwa [Array.setIfInBounds_comm _ _ f]
theorem yz {i:Nat}{d:Oper}{v:Value}{e:Nat}{b:Array Bool}{a:Act}{w:World}(hi:ops[i]?=some d)
 (hs:Region.noSelect ops=true)(g:Region.free md ops b i=true)(j:(Region.ready md ops b).contains i=true)(f:St.contains i=false)(k:waits md ops St i=true)(l:(St.all fun s=>!b.getD s false)=true)
 (m:∀c a w,Q (.panic c) (a.put d.dst v) w->Q (.panic c) a w)(hy:YieldsIf P ops (fun w=>T w/\S w) d v a)(n:T w/\S w)
 (h:hY P md ops Q T S St e (b.setIfInBounds i true) (a.put d.dst v) w):hY P md ops Q T S St (e+1) b a w:=
 yx hi (fun h=>by rw[List.contains_iff_mem.2 h] at f;cases f) k (Region.noSelect_spec hs) m e b a w (Region.free_spec hi g) (by simpa using j) (fun⟨s,hs,hc⟩=>by
  have:=List.all_eq_true.1 l s hs;rw[hc] at this
  cases this) hy n h
theorem dW {i:Nat}{d:Oper}{v:Value}{e:Nat}{b:Array Bool}{a:Act}{w:World}(hi:ops[i]?=some d)
 (hs:Region.noSelect ops=true)(g:Region.free md ops b i=true)(j:(Region.ready md ops b).contains i=true)(f:St.contains i=false)
 (k:∀c a w,Q (.panic c) (a.put d.dst v) w->Q (.panic c) a w)(hy:YieldsIf P ops T d v a)(l:T w)(hc:came St b\/S w)
 (h:hY P md ops Q T S St e (b.setIfInBounds i true) (a.put d.dst v) w):hY P md ops Q T S St (e+1) b a w:=
 yy hi (fun h=>by rw[List.contains_iff_mem.2 h] at f;cases f) (Region.noSelect_spec hs) k e b a w (Region.free_spec hi g) (by simpa using j) hy l hc h
theorem mz {i:Nat}{o:Oper}{K:Act->World->Prop}{a:Act}{w:World}(hi:ops[i]?=some o)(hg:o.guard=none)(h:o.wp P a w K Q):wpOp P ops Q i K a w:=by unfold wpOp;rw[hi];dsimp only;rw[aq (by simp[Region.wanted,hg])];exact ap h
theorem s8 {i:Nat}{o:Oper}{K:Act->World->Prop}{a:Act}{w:World}(hi:ops[i]?=some o)(hg:Region.wanted o (yielded ops a.tmps)=true)(h:o.wp P a w K Q):wpOp P ops Q i K a w:=by unfold wpOp;rw[hi];dsimp only;rw[aq hg];exact ap h
theorem a7 {α:Type _}{a b:α}:a ∈ [b] ↔ a = b:=List.mem_singleton ..
theorem kM {i:Nat}{d:Nat}{b:Array Bool}{a:Act}{w:World}(e:Region.ready md ops b=[i])
 (h:wpOp P ops Q i (fun f w'=>(T w'/\(came St (b.setIfInBounds i true)\/S w'))/\hY P md ops Q T S St d (b.setIfInBounds i true) f w') a w):hY P md ops Q T S St (d+1) b a w:=
 ⟨fun h0=>(by rw[e] at h0;cases h0),fun j c=>(by rw[e] at c;rw[a7] at c;rw[c];exact h)⟩
theorem pG {b:Array Bool}{a:Act}{w:World}(c:Region.ready md ops b=[])(h:Q .normal a w):∀d,hY P md ops Q T S St d b a w
 |0=>⟨c,h⟩
 |_+1=>⟨fun _=>h,by rw[c];simp⟩
end
open Go.RowKit W Kp bY
def lenOf (w:World)(p:Nat):Nat:=match w.cell? (ah p 4) with
 |some (.slice _ n _)=>n
 |_=>0
def pH (w:World)(p:Nat):Int:=match w.cell? (ah p 6) with
 |some (.int _ v)=>v
 |_=>0
def pI (c:fs)(k:bP)(w:World):Nat:=(k.N+k.O+13-nK w c.pk).toNat+lenOf w c.pk+(k.O-(pH w c.p).toNat)
def nN:Value->Nat
 |.bool true=>1
 |_=>0
section
variable {c:fs}{k:bP}{F:Nat->Prop}{s:bU}{w:World}{vr:Value}
theorem pJ (h:(dq c k).J F s w):pI c k w=k.mu s:=by
 obtain⟨ch,bO,h⟩:=h;obtain⟨_,_,c2,_,a,_,_,_,_,_,_,er,_⟩:=dL h;obtain⟨b,_⟩:=gO h;obtain⟨i,j,e⟩:=dG er;have d:=b.cells.2.2.2.2.2.2;have f:lenOf w c.pk=s.ep.length:=by unfold lenOf;rw[a,e]
 have g:pH w c.p=s.g:=by unfold pH;rw[d]
 unfold pI bP.mu;rw[pC c2,f,g,Int.toNat_natCast]
theorem yA {d:Option Addr}{nr f:Nat}(g:vr=.slice d nr f){t:bU×List bN}(h:(cA (ei c k) c.sd vr).J F t w)(hq:t.2.length<=90000)(bx:Nat)(i:w.heap[bx]?=some (fG c))(j:¬F bx):
 Calls prog 112 #[af c.sd,.agg #[(iO bx).v,(kJ c).v,(jv c).v]] w fun e w'=>∃a,e=.returned (.bool (k.wa t).2)/\(cA (ei c k) c.sd vr).J a (k.wa t).1 w'/\Fr (fun b=>F b\/b=bx) w w'/\(∀b,a b->F b\/b=bx\/w.heap.size<=b):=by
 have l:=pu (cw (ei c k) bx (fG c)) c.sd vr (fun _=>True) (iO bx) (kJ c) (jv c) k.al k.br k.nw sX yq sY (s3 bx) (pE yt) (j6 s7)
 have P:=sH (cA (cw (ei c k) bx (fG c)) c.sd vr) (sV _ _ _) (fun _=>True) (iO bx) (kJ c) (jv c) _ _ _ l d nr f g _ t w hq (fun _ _=>⟨trivial,trivial⟩) (iN h i j)
 refine P.mono ?_;rintro e w' ⟨a,rfl,m,n,hs⟩
 exact⟨a,rfl,pD m,n,fun b o=>(hs b o).elim (fun c=>c.elim ap (fun c=>an (ap c))) (fun c=>an (an c))⟩
theorem s9 {bO:Option Addr}{nr bQ:Nat}(bR:vr=.slice bO nr bQ){t:bU×List bN}(h:(cA (ei c k) c.sd vr).J F t w)(hq:t.2.length<=90000):
 Calls prog 84 #[af c.pk] w fun e w'=>∃H,e=.returned (.tuple #[])/\(cA (ei c k) c.sd vr).J H (k.sp t) w'/\bM F w H w':=by
 have aV:∀(a0:Fn)(first a1:Array Value)(w:World),(Instr.makeFunc a0 first a1).run prog w=.ok (.func a0 first a1) w:=fun _ _ _ _=>rfl;go_enter func84,ntmps84;go_wp2_with fail
 go_loopw [2] (fun R wr=>∃(n:Nat)(u:Nat->Prop)(a:bU×List bN)(b:Bool),R=.bool b/\(cA (ei c k) c.sd vr).J u a wr/\bM F w u wr/\Hid (if b=true then k.mu a.1<n/\k.cK n a=k.sp t else a=k.sp t)/\a.2.length<=90000) (fun R wr=>2*pI c k wr+nN R)
 case atStart=>exact⟨k.mu t.1+1,F,t,true,rfl,h,bM.refl _ _,⟨I,rfl⟩,hq⟩
 case round=>
  clear h hq;obtain⟨n,u,a,b,rfl,U,W,X,hq⟩:=hrel;cases b
  ·have x:Hid (a=k.sp t):=X.out;go_wp2_with fail;go_end0;rw[<-x.out];exact⟨u,rfl,U,W⟩
  ·obtain⟨a2,a3⟩:=X.out;obtain⟨m,rfl⟩:∃m,n=m+1:=⟨n-1,I⟩
   obtain⟨bS,q,bb⟩:=lI U;have Y:=pJ q.1;have B:=yn q.1 q.2.1 q.2.2;obtain⟨ad,ai,bd⟩:=q.2.1.lb q.2.2 (k.O+1)
   obtain⟨be,j2,b7,b9⟩:=ad.kv ai;have f:Hid (bM F w u wr/\(∀bg bi w',(ei c k).J bg bi w'->bM bS wr bg w'->∃H,(cA (ei c k) c.sd vr).J H (bi,a.2) w'/\bM u wr H w')/\(CI k (k.lb (k.O+1) a.1)/\d6 k (k.lb (k.O+1) a.1))/\(CI k (k.kv (k.lb (k.O+1) a.1)).2/\d6 k (k.kv (k.lb (k.O+1) a.1)).2)):=⟨W,bb,⟨ad,ai⟩,⟨be,j2⟩⟩
   have A:Hid (k.mu (k.lb (k.O+1) a.1)<=k.mu a.1/\k.mu (k.kv (k.lb (k.O+1) a.1)).2<=k.mu (k.lb (k.O+1) a.1)/\((k.kv (k.lb (k.O+1) a.1)).1=true->k.mu (k.kv (k.lb (k.O+1) a.1)).2<k.mu (k.lb (k.O+1) a.1))/\k.mu a.1<m+1):=⟨bd,b7,b9,a2⟩
   have x:Hid (k.cK (m+1) a=k.sp t):=a3;clear q bb ad ai be j2 U W X a2 a3 bd b7 b9;go_wp2_with fail;refine B.mono ?_;clear B;rintro e w1 ⟨b0,rfl,C,D⟩
   have E:=yp ((dq c k).below C (Below.refl _ w1).drew) f.out.2.2.1.1 f.out.2.2.1.2;have D:=D.below (Below.refl _ w1).drew;obtain⟨b1,b2,C⟩:=C;obtain⟨bl,_,_,_,_,_,_,bn,_⟩:=dL C;cases hkv:(k.kv (k.lb (k.O+1) a.1)).1
   ·rw[hkv] at E;have bo:Hid ((if(k.wa ((k.kv (k.lb (k.O+1) a.1)).2,a.2)).2=true then k.cK m (k.wa ((k.kv (k.lb (k.O+1) a.1)).2,a.2)).1 else(k.wa ((k.kv (k.lb (k.O+1) a.1)).2,a.2)).1)=k.sp t):=by
     have:=x.out;unfold bP.cK at this
     rw[hkv] at this
     exact this
    have j:=CI.wa (s:=((k.kv (k.lb (k.O+1) a.1)).2,a.2)) f.out.2.2.2.1 f.out.2.2.2.2;have j:Hid ((k.wa ((k.kv (k.lb (k.O+1) a.1)).2,a.2)).1.2.length<=90000/\k.mu (k.wa ((k.kv (k.lb (k.O+1) a.1)).2,a.2)).1.1<=k.mu a.1/\((k.wa ((k.kv (k.lb (k.O+1) a.1)).2,a.2)).2=true->k.mu (k.wa ((k.kv (k.lb (k.O+1) a.1)).2,a.2)).1.1<k.mu a.1)):=by have n1:=A.out.1;have b3:=A.out.2.1;refine⟨by rw[j.2.2.1];exact hq,by have:=j.2.2.2.1;dsimp only at this;omega,fun e=>by have:=j.2.2.2.2 e;dsimp only at this;omega⟩
    generalize k.lb (k.O+1) a.1=s1 at*;generalize (k.kv s1).2=s2 at*;clear C;go_wp2_with fail
    go_region_held3 (fun w'=>w'.cell? (ah c.pk 0)=some (af c.pw)/\w'.cell? (ah c.pw 2)=some (af c.sd)) (go_keep)
     (first
       |(go_at_call 154;refine E.mono ?_;clear E;rintro e d ⟨al,rfl,l,J⟩;obtain⟨G,hM,K⟩:=f.out.2.1 al s2 d ⟨l,f.out.2.2.2⟩ (D.trans J);obtain⟨b4,b5,l⟩:=l;obtain⟨g0,_,_,_,_,_,_,ar,_⟩:=dL l;have l0:=au d _ g0;have bT:=au d _ ar;have g:Hid ((cA (ei c k) c.sd vr).J G (s2,a.2) d/\bM F w G d):=⟨hM,f.out.1.trans K⟩;clear l J hM K)
       |(go_at_call 85;refine(sZ (kJ c) d c.pk).mono ?_;rintro e w3 ⟨rfl,bp,N⟩;have bV:=(N.cell (p:=ah c.pk 0) l0).trans g0;have bW:=(N.cell (p:=ah c.pw 2) bT).trans ar;have L:Hid (w3.heap[d.heap.size]?=some (fG c)/\Below d.heap.size d w3):=⟨bp,N⟩;clear bp N)
       |(go_at_call 112;refine(yA bR (t:=(s2,a.2)) ((cA (ei c k) c.sd vr).below g.out.1 L.out.2) hq d.heap.size L.out.1 (fun h=>by have:=(cA (ei c k) c.sd vr).lt g.out.1 _ h;omega)).mono ?_;rintro e br ⟨O,rfl,ax,bs,bx⟩;have P:Hid ((cA (ei c k) c.sd vr).J O (k.wa (s2,a.2)).1 br/\bM F w O br):=⟨ax,⟨(g.out.2.below L.out.2).fr.trans bs (fun b aB=>aB.elim (g.out.2.sub b) (fun e=>an (by have:=g.out.2.fr.size;omega))),fun b aB=>(bx b aB).elim (g.out.2.sub b) (fun h=>an (by have o:=g.out.2.fr.size;have aF:=L.out.2.size;omega))⟩⟩;obtain⟨b6,⟨⟨bX,bY,aR⟩,_⟩,_⟩:=lI ax;have Q:=pJ ⟨bX,bY,aR⟩;obtain⟨r0,_,_,_,_,_,_,bZ,_⟩:=dL aR;clear ax bs bx aR))
    clear r0 bZ g0 ar bV bW bl bn f g L x aV D;cases hbw:(k.wa (s2,a.2)).2
    ·have M:Hid (if false=true then k.mu (k.wa (s2,a.2)).1.1<m/\k.cK m (k.wa (s2,a.2)).1=k.sp t else(k.wa (s2,a.2)).1=k.sp t):=by
      have:=bo.out;rw[hbw] at this
      exact this
     go_wp2_with fail;go_roundw
     case rel=>exact⟨m,O,(k.wa (s2,a.2)).1,false,rfl,P.out.1,P.out.2,M,j.out.1⟩
     case measure=>
      have:=j.out.2.1;rw[Q,Y];simp[nN];omega
    ·have M:Hid (if true=true then k.mu (k.wa (s2,a.2)).1.1<m/\k.cK m (k.wa (s2,a.2)).1=k.sp t else(k.wa (s2,a.2)).1=k.sp t):=by have o:=bo.out;rw[hbw] at o;have aF:=j.out.2.2 hbw;have bL:=A.out.2.2.2;exact⟨I,o⟩
     have aF:=j.out.2.2 hbw;go_wp2_with fail;go_roundw
     case rel=>exact⟨m,O,(k.wa (s2,a.2)).1,true,rfl,P.out.1,P.out.2,M,j.out.1⟩
     case measure=>
      rw[Q,Y];simp[nN];omega
   ·rw[hkv] at E;have aF:k.mu (k.kv (k.lb (k.O+1) a.1)).2<k.mu a.1:=by have o:=A.out.1;have bL:=A.out.2.2.1 hkv;omega
    have M:Hid (if true=true then k.mu (k.kv (k.lb (k.O+1) a.1)).2<m/\k.cK m ((k.kv (k.lb (k.O+1) a.1)).2,a.2)=k.sp t else((k.kv (k.lb (k.O+1) a.1)).2,a.2)=k.sp t):=by have o:=x.out;unfold bP.cK at o;rw[hkv] at o;have bL:=A.out.2.2.2;exact⟨I,o⟩
    generalize k.lb (k.O+1) a.1=s1 at*;generalize (k.kv s1).2=s2 at*;clear C;go_wp2_with fail;refine wp_region_noPanic ?_;refine wp_region_any ab ?_;refine nM (T:=fun _=>True) (S:=fun _=>True) (St:=[]) _ _ _ _ ?_;refine dW (i:=0) (v:=?_) rfl ab ab ab ab (fun _ _ _ h=>h) (ap ⟨aa,?_⟩) trivial (an trivial) ?_
    rotate_left
    ·intro w aT;go_simp
     try rfl
    try simp only [Act.put,List.getElem_toArray,List.getElem_cons_zero,List.setIfInBounds_toArray,List.set_cons_zero,List.set_cons_succ]
    refine kM (i:=1) ab ?_;refine s8 rfl aa ?_;simp only [List.getElem_toArray,List.getElem_cons_succ,List.getElem_cons_zero];go_simp;refine E.mono ?_;clear E;rintro e d ⟨al,rfl,l,J⟩
    obtain⟨G,hM,K⟩:=f.out.2.1 al s2 d ⟨l,f.out.2.2.2⟩ (D.trans J)
    have Q:=pJ l;have g:Hid ((cA (ei c k) c.sd vr).J G (s2,a.2) d/\bM F w G d):=⟨hM,f.out.1.trans K⟩
    clear l J hM K;refine dW (i:=2) (v:=?_) rfl ab ab ab ab (fun _ _ _ h=>h) (ap ⟨aa,?_⟩) trivial (an trivial) ?_
    rotate_left
    ·intro w aT;go_simp
     try rfl
    try simp only [Act.put,List.getElem_toArray,List.getElem_cons_succ,List.getElem_cons_zero,List.setIfInBounds_toArray,List.set_cons_zero,List.set_cons_succ]
    refine dW (i:=3) (v:=undef) rfl ab ab ab ab (fun _ _ _ h=>h) (an ⟨aa,rfl⟩) trivial (an trivial) ?_
    try simp only [Act.put,List.getElem_toArray,List.getElem_cons_succ,List.getElem_cons_zero,List.setIfInBounds_toArray,List.set_cons_zero,List.set_cons_succ]
    refine dW (i:=4) (v:=undef) rfl ab ab ab ab (fun _ _ _ h=>h) (an ⟨aa,rfl⟩) trivial (an trivial) ?_
    try simp only [Act.put,List.getElem_toArray,List.getElem_cons_succ,List.getElem_cons_zero,List.setIfInBounds_toArray,List.set_cons_zero,List.set_cons_succ]
    refine dW (i:=5) (v:=undef) rfl ab ab ab ab (fun _ _ _ h=>h) (an ⟨aa,rfl⟩) trivial (an trivial) ?_
    try simp only [Act.put,List.getElem_toArray,List.getElem_cons_succ,List.getElem_cons_zero,List.setIfInBounds_toArray,List.set_cons_zero,List.set_cons_succ]
    refine dW (i:=6) (v:=undef) rfl ab ab ab ab (fun _ _ _ h=>h) (an ⟨aa,rfl⟩) trivial (an trivial) ?_
    try simp only [Act.put,List.getElem_toArray,List.getElem_cons_succ,List.getElem_cons_zero,List.setIfInBounds_toArray,List.set_cons_zero,List.set_cons_succ]
    refine dW (i:=7) (v:=undef) rfl ab ab ab ab (fun _ _ _ h=>h) (an ⟨aa,rfl⟩) trivial (an trivial) ?_
    try simp only [Act.put,List.getElem_toArray,List.getElem_cons_succ,List.getElem_cons_zero,List.setIfInBounds_toArray,List.set_cons_zero,List.set_cons_succ]
    refine dW (i:=8) (v:=undef) rfl ab ab ab ab (fun _ _ _ h=>h) (an ⟨aa,rfl⟩) trivial (an trivial) ?_
    try simp only [Act.put,List.getElem_toArray,List.getElem_cons_succ,List.getElem_cons_zero,List.setIfInBounds_toArray,List.set_cons_zero,List.set_cons_succ]
    refine dW (i:=9) (v:=undef) rfl ab ab ab ab (fun _ _ _ h=>h) (an ⟨aa,rfl⟩) trivial (an trivial) ?_
    try simp only [Act.put,List.getElem_toArray,List.getElem_cons_succ,List.getElem_cons_zero,List.setIfInBounds_toArray,List.set_cons_zero,List.set_cons_succ]
    refine dW (i:=10) (v:=undef) rfl ab ab ab ab (fun _ _ _ h=>h) (an ⟨aa,rfl⟩) trivial (an trivial) ?_
    try simp only [Act.put,List.getElem_toArray,List.getElem_cons_succ,List.getElem_cons_zero,List.setIfInBounds_toArray,List.set_cons_zero,List.set_cons_succ]
    refine dW (i:=11) (v:=undef) rfl ab ab ab ab (fun _ _ _ h=>h) (an ⟨aa,rfl⟩) trivial (an trivial) ?_
    try simp only [Act.put,List.getElem_toArray,List.getElem_cons_succ,List.getElem_cons_zero,List.setIfInBounds_toArray,List.set_cons_zero,List.set_cons_succ]
    refine dW (i:=12) (v:=undef) rfl ab ab ab ab (fun _ _ _ h=>h) (an ⟨aa,rfl⟩) trivial (an trivial) ?_
    try simp only [Act.put,List.getElem_toArray,List.getElem_cons_succ,List.getElem_cons_zero,List.setIfInBounds_toArray,List.set_cons_zero,List.set_cons_succ]
    refine dW (i:=13) (v:=undef) rfl ab ab ab ab (fun _ _ _ h=>h) (an ⟨aa,rfl⟩) trivial (an trivial) ?_
    try simp only [Act.put,List.getElem_toArray,List.getElem_cons_succ,List.getElem_cons_zero,List.setIfInBounds_toArray,List.set_cons_zero,List.set_cons_succ]
    refine dW (i:=14) (v:=undef) rfl ab ab ab ab (fun _ _ _ h=>h) (an ⟨aa,rfl⟩) trivial (an trivial) ?_
    try simp only [Act.put,List.getElem_toArray,List.getElem_cons_succ,List.getElem_cons_zero,List.setIfInBounds_toArray,List.set_cons_zero,List.set_cons_succ]
    refine dW (i:=15) (v:=?_) rfl ab ab ab ab (fun _ _ _ h=>h) (ap ⟨aa,?_⟩) trivial (an trivial) ?_
    rotate_left
    ·intro w aT;go_simp
     try rfl
    try simp only [Act.put,List.getElem_toArray,List.getElem_cons_succ,List.getElem_cons_zero,List.setIfInBounds_toArray,List.set_cons_zero,List.set_cons_succ]
    refine dW (i:=16) (v:=?_) rfl ab ab ab ab (fun _ _ _ h=>h) (ap ⟨aa,?_⟩) trivial (an trivial) ?_
    rotate_left
    ·intro w aT;go_simp
     try rfl
    try simp only [Act.put,List.getElem_toArray,List.getElem_cons_succ,List.getElem_cons_zero,List.setIfInBounds_toArray,List.set_cons_zero,List.set_cons_succ]
    refine pG ab ?_ _;refine NoPanic.normal ?_;clear bl bn f x aV D;go_wp2_with fail;go_roundw
    case rel=>exact⟨m,G,(s2,a.2),true,rfl,g.out.1,g.out.2,M,hq⟩
    case measure=>
     rw[Q,Y];simp[nN];omega
theorem yC {B:Option Addr}{nr C:Nat}(D:vr=.slice B nr C){t:bU×List bN}(h:(cA (ei c k) c.sd vr).J F t w)(hq:t.2.length<=90000)(x:Int):
 Calls prog 86 #[af c.pk,ae x] w fun e w'=>∃a,e=.returned (ae (k.ke t x).1)/\(cA (ei c k) c.sd vr).J a (k.ke t x).2 w'/\bM F w a w':=by
 obtain⟨g,⟨⟨ch,bO,i⟩,b,hB⟩,j⟩:=lI h;have P:=nI i b x;obtain⟨l,m,_⟩:=b.br x;have n:Hid ((∀d f w',(ei c k).J d f w'->bM g w d w'->∃a,(cA (ei c k) c.sd vr).J a (f,t.2) w'/\bM F w a w')/\CI k (k.br t.1 x).2/\d6 k (k.br t.1 x).2):=⟨j,l,m.cb hB⟩
 have E:Hid ((k.ke t x).1=(k.br t.1 x).1/\(k.ke t x).2=k.sp ((k.br t.1 x).2,t.2)):=⟨rfl,rfl⟩
 generalize (k.ke t x).1=H at E⊢;generalize (k.ke t x).2=f at E⊢;clear i b hB l m j h;go_enter func86,ntmps86;go_wp2_with fail;refine P.mono ?_;clear P;rintro e w1 ⟨rfl,o,p⟩
 obtain⟨d,hM,q⟩:=n.out.1 g _ w1 ⟨⟨ch,bO,o⟩,n.out.2⟩ p;have s:Hid (_/\_):=⟨hM,q⟩
 clear o p hM q;go_wp2_with fail;refine(s9 D s.out.1 hq).mono ?_;rintro e J ⟨G,rfl,u,v⟩
 have A:Hid (_/\_):=⟨u,s.out.2.trans v⟩
 clear u v;go_wp2_with fail;go_ret;rw[E.out.1,E.out.2];exact⟨G,rfl,A.out.1,A.out.2⟩
end
def gP {b:Type}(fd:b->Int->Int)(st:b->Int->b)(e:Int)(t:b)(a:Int):b:=if a+fd t a<e then st t a else t
def iP {a:Type}(fd:a->Int->Int)(st:a->Int->a)(e:Int)(t:a)(l:List Int):a:=l.foldl (gP fd st e) t
theorem s_ {i:Type}(o:dB i)(fd:i->Int->Int)(st:i->Int->i)(G:Nat->i->Prop)(pk pw p f:Nat)(s:Array Value)(M:dQ f)(l:List Int)(C:Option Addr)(aR:Nat)(e:Int)(F:Nat->Prop)(t:i)(w:World)
 (N:∀F t w a,o.J F t w->w.cell? (ah pk 0)=some (af pw)/\w.cell? (ah pw 0)=some (af p)/\Calls prog 77 #[af p,ae a] w fun r w'=>∃x z,r=.returned (.tuple #[ae x,ae (fd t a),ae z])/\Below w.heap.size w w')
 (O:∀t a,0<=fd t a/\fd t a<=12)(P:∀a∈l,0<=a/\a<=100000)(bg:l.length<=100000)
 (Q:∀j F t w,j<l.length->G j t->o.J F t w->l.getD j 0+fd t (l.getD j 0)<e->Calls prog f (#[ae (l.getD j 0)]++s) w fun r w'=>∃d,r=.returned (.tuple #[])/\o.J d (st t (l.getD j 0)) w'/\bM F w d w')
 (R:∀j t,j<l.length->G j t->G (j+1) (gP fd st e t (l.getD j 0)))(h0:G 0 t)(k:o.J F t w)(E:fZ w C l)(S:0<l.length->∀z,C=some z->¬F z.block):
 Calls prog 147 #[af pk,.slice C l.length aR,ae e,.func (.func f) #[] s] w fun r w'=>∃d,r=.returned (.tuple #[])/\o.J d (iP fd st e t l) w'/\bM F w d w'/\G l.length (iP fd st e t l):=by
 have aT:Hid (∀F t w a,o.J F t w->w.cell? (ah pk 0)=some (af pw)/\w.cell? (ah pw 0)=some (af p)/\Calls prog 77 #[af p,ae a] w fun r w'=>∃x z,r=.returned (.tuple #[ae x,ae (fd t a),ae z])/\Below w.heap.size w w'):=N;have aV:Hid (∀j F t w,j<l.length->G j t->o.J F t w->l.getD j 0+fd t (l.getD j 0)<e->Calls prog f (#[ae (l.getD j 0)]++s) w fun r w'=>∃d,r=.returned (.tuple #[])/\o.J d (st t (l.getD j 0)) w'/\bM F w d w'):=Q;have a0:Hid (∀j t,j<l.length->G j t->G (j+1) (gP fd st e t (l.getD j 0))):=R;have a1:Hid (∀d w',bM F w d w'->fZ w' C l):=fun d w' n=>E.keep n.fr.size (fun hp z e=>n.fr.block _ (by obtain⟨b,bi,U,a2,_⟩:=E hp;rw[e] at U;cases U;exact a2) (S hp z e))
 have a3:Hid (∀a∈l,0<=a/\a<=100000):=P;have bb:Hid (∀t a,0<=fd t a/\fd t a<=12):=O;have bl:∀(args:Array Value)(w:World),(callFunc f args).run prog w=.ok (.enter f args) w:=M;clear N Q R E S P O M;go_enter func147,ntmps147;go_wp2_with fail
 go_loopw [15] (fun iv wr=>∃(j:Nat)(g:Nat->Prop)(c:i),j<=l.length/\iv=ae j/\Hid (iP fd st e t (l.take j)=c)/\Hid (G j c)/\o.J g c wr/\bM F w g wr) (fun iv _=>l.length-(intOf iv).toNat)
 case atStart=>exact⟨0,F,t,aA _,rfl,rfl,h0,k,bM.refl _ _⟩
 case round=>
  clear h0 k;obtain⟨j,g,c,bn,rfl,H,J,k,n⟩:=hrel;by_cases q:j<l.length
  ·obtain⟨b0,bo,bd,bp,hc⟩:=a1.out g wr n I;have W:=hc j q;subst bd;have X:l.getD j 0∈l:=by rw[aj,am q];exact aK q
   have br:=a3.out _ X;have Y:Hid (iP fd st e t (l.take (j+1))=gP fd st e c (l.getD j 0)):=by
    show _=_;rw[eY l j q 0];unfold iP;rw[List.foldl_append];have:=H.out;unfold iP at this
    rw[this];rfl
   have ad:Hid (G (j+1) (gP fd st e c (l.getD j 0))):=a0.out j c q J.out;have u:=fun w h=>aV.out j g c w q J.out h;obtain⟨ai,al,L⟩:=aT.out g c wr (l.getD j 0) k;have bs:=bb.out c (l.getD j 0)
   have D:Hid (o.J g c wr/\bM F w g wr):=⟨k,n⟩
   have u:Hid (∀w,o.J g c w->l.getD j 0+fd c (l.getD j 0)<e->Calls prog f (#[ae (l.getD j 0)]++s) w fun r w'=>∃d,r=.returned (.tuple #[])/\o.J d (st c (l.getD j 0)) w'/\bM g w d w'):=u;clear hc X k n;by_cases hw:l.getD j 0+fd c (l.getD j 0)<e
   ·have v:Hid (gP fd st e c (l.getD j 0)=st c (l.getD j 0)):=by show _=_;unfold gP;rw[aq hw]
    have be:Hid (∀w,o.J g c w->Calls prog f (#[ae (l.getD j 0)]++s) w fun r w'=>∃d,r=.returned (.tuple #[])/\o.J d (st c (l.getD j 0)) w'/\bM g w d w'):=fun w h=>u.out w h hw;clear u;generalize l.getD j 0=a at*;generalize fd c a=m at*;generalize st c a=ar at*;go_wp2_with fail;refine L.mono ?_;clear L;rintro r w1 ⟨x,z,rfl,A⟩
    go_wp2_with fail;refine(be.out w1 (o.below D.out.1 A)).mono ?_;rintro r ax ⟨K,rfl,aB,aF⟩
    have B:Hid (o.J K ar ax/\bM F w K ax):=⟨aB,(D.out.2.below A).trans aF⟩
    clear aB aF W ai al;go_wp2_with fail;go_roundw
    case rel=>exact⟨j+1,K,ar,I,ac,by show _=_;rw[Y.out,v.out],by show G _ _;rw[<-v.out];exact ad.out,B.out.1,B.out.2⟩
    case measure=>simp[intOf];omega
   ·have v:Hid (gP fd st e c (l.getD j 0)=c):=by show _=_;unfold gP;rw[ao hw]
    clear u;generalize l.getD j 0=a at*;generalize fd c a=m at*;go_wp2_with fail;refine L.mono ?_;clear L;rintro r w1 ⟨x,z,rfl,A⟩
    have B:Hid (o.J g c w1/\bM F w g w1):=⟨o.below D.out.1 A,D.out.2.below A⟩
    clear W ai al;go_wp2_with fail;go_roundw
    case rel=>exact⟨j+1,g,c,I,ac,by show _=_;rw[Y.out,v.out],by show G _ _;rw[<-v.out];exact ad.out,B.out.1,B.out.2⟩
    case measure=>simp[intOf];omega
  ·obtain rfl:j=l.length:=I;rw[aP] at H;go_wp2_with fail;go_end0;rw[H.out];exact⟨g,rfl,k,n,J.out⟩
section
variable {c:fs}{k:bP}{F:Nat->Prop}{s:bU}{w:World}
def bP.md (k:bP)(c:fs)(s:bU)(a:Int):bU:=if(fS k.N c.c a&&c.M.contains (cN k.N a))=true then k.lk s a else s
theorem bP.yD (k:bP)(c:fs)(s:bU)(l:List Int):k.lm c.c c.M s l=iP (fun s a=>pf (k.ld s a)) (k.md c) s.nx s l:=rfl
theorem CI.md (h:CI k s)(c:fs){a:Int}(ha:(k.N:Int)<=a)(b:a<=2000):CI k (k.md c s a)/\Cl k s (k.md c s a):=by
 unfold bP.md;split
 ·exact h.lk ha b
 ·exact⟨h,Cl.of (d9.refl _ _)⟩
theorem yE:dQ 150:=gb func150 ab rfl
theorem yF (bx:Nat)(h:(cw (dq c k) bx (fG c)).J F s w)(l:CI k s)(a:Int)(G:(k.N:Int)<=a)(a1:a<=2000)(H:s.wk.length<=10000)(J:s.ep.length<=10000):
 Calls prog 150 #[ae a,af bx] w fun e w'=>∃o,e=.returned (.tuple #[])/\(cw (dq c k) bx (fG c)).J o (k.md c s a) w'/\bM F w o w':=by
 have q:Hid ((cw (dq c k) bx (fG c)).J F s w):=h;have K:Hid (CI k s):=l;have n1:=l.hN';obtain⟨Q,⟨ch,bO,h0⟩,m,R,S⟩:=h;have t:w.cell? (ah bx 0)=some (af c.pk):=by simp[World.cell?,m]
 have M:=lt_of_some m;obtain⟨c0,_,_,_,_,_,N,_,_,_,_,_,u,_,_⟩:=dL h0;have D:=wU a w u I I I;clear h0 m u l;cases hd:(fS k.N c.c a&&c.M.contains (cN k.N a))
 ·have E:k.md c s a=s:=by unfold bP.md;rw[hd];rfl
  rw[E];rw[hd] at D;go_enter func150,ntmps150;go_wp2_with fail;refine D.mono ?_;clear D;rintro e w1 ⟨rfl,d⟩
  go_wp2_with fail;go_end0;exact⟨F,rfl,(cw (dq c k) bx (fG c)).below q.out d,bM.of d⟩
 ·have E:k.md c s a=k.lk s a:=by unfold bP.md;rw[aq hd]
  rw[E];rw[hd] at D;go_enter func150,ntmps150;go_wp2_with fail;refine D.mono ?_;clear D;rintro e w1 ⟨rfl,d⟩
  have O:=(d.cell (p:=ah bx 0) M).trans t;have P:=(cw (dq c k) bx (fG c)).below q.out d;obtain⟨v,g1,g2,g3,i⟩:=P;have L:=sP g1 K.out a G a1 H J;have x:Hid (w1.heap[bx]?=some (fG c)/\¬v bx/\(∀b,F b↔(v b\/b=bx))/\Below w.heap.size w w1):=⟨g2,g3,i,d⟩
  clear g1 g2 g3 i t c0 N d;go_wp2_with fail;refine L.mono ?_;clear L;rintro e A ⟨n,rfl,B,j⟩
  have C:Hid ((cw (dq c k) bx (fG c)).J (fun b=>n b\/b=bx) (k.lk s a) A/\bM F w (fun b=>n b\/b=bx) A):=by
   obtain⟨g2,g3,i,d⟩:=x.out;refine⟨⟨n,B,(j.fr.block bx (lt_of_some g2) g3).trans g2,fun f=>(j.sub bx f).elim g3 (fun f=>by have:=lt_of_some g2;omega),fun b=>Iff.rfl⟩,⟨(Fr.of (X:=F) d).trans (j.fr.mono (fun b g=>(i b).2 (ap g))) (fun _ f=>ap f),fun b g=>?_⟩⟩
   rcases g with g|g
   ·exact(j.sub b g).elim (fun f=>ap ((i b).2 (ap f))) (fun f=>an (by have:=d.size;omega))
   ·exact ap ((i b).2 (an g))
  clear B j x O;go_wp2_with fail;go_end0;exact⟨_,rfl,C.out.1,C.out.2⟩
theorem yG (h:(dq c k).J F s w)(m:CI k s)(R:s.wk=[])(S:s.ep=[]):
 Calls prog 83 #[af c.pk] w fun e w'=>∃U,e=.returned (.tuple #[])/\(dq c k).J U (k.lm c.c c.M s (c8 k.N k.y s.g s.ws)) w'/\bM F w U w'/\CI k (k.lm c.c c.M s (c8 k.N k.y s.g s.ws))/\d6 k (k.lm c.c c.M s (c8 k.N k.y s.g s.ws))/\(k.lm c.c c.M s (c8 k.N k.y s.g s.ws)).nx=s.nx:=by
 have br:∀(W:Fn)(first C:Array Value)(w:World),(Instr.makeFunc W first C).run prog w=.ok (.func W first C) w:=fun _ _ _ _=>rfl;have D:Hid ((dq c k).J F s w):=h;have q:Hid (CI k s/\s.wk=[]/\s.ep=[]):=⟨m,R,S⟩
 have n1:=m.hN';have bs:=m.hO;have bx:=m.hg;have G:=(Below.refl w.heap.size w).alloc bJ (fG c)
 have aT:=(dq c k).below h G;obtain⟨ch,bO,h0⟩:=aT;obtain⟨c0,_,c2,_,_,H,_⟩:=dL h0;obtain⟨u,_⟩:=gO h0;have P:=nf _ u;have Y:Hid (Below w.heap.size w (w.alloc (fG c))):=G;clear h m h0 u G R S;go_enter func83,ntmps83;go_wp2_with fail;refine P.mono ?_;clear P;rintro e w1 ⟨v1,v2,rfl,ad,n,J⟩
 obtain⟨bL,bN,rfl⟩:=dG ad;obtain⟨aV,a0,rfl⟩:=dG n;have f:=Y.out.trans (J.mono V)
 have a1:=(dq c k).below D.out f;have K:w1.heap[w.heap.size]?=some (fG c):=(J.block _ V).trans (aw _ _)
 have a2:w1.cell? (ah w.heap.size 0)=some (af c.pk):=by simp[World.cell?,K]
 obtain⟨ch,bO,v⟩:=a1;obtain⟨a3,_,bb,_,_,bd,_⟩:=dL v;have bQ:(c8 k.N k.y s.g s.ws).length<=2000:=gx _ _;have x:∀a∈c8 k.N k.y s.g s.ws,(k.N:Int)<=a/\a<=2000:=fun a ha=>by have:=ng a ha;omega
 have A:∀b,F b->b<w.heap.size:=(dq c k).lt D.out;have ai:(cw (dq c k) w.heap.size (fG c)).J (fun b=>F b\/b=w.heap.size) s w1:=⟨F,⟨ch,bO,v⟩,K,fun d=>by have:=A _ d;omega,fun b=>Iff.rfl⟩
 have al:=(cw (dq c k) w.heap.size (fG c)).below ai (Below.refl _ w1).drew;have E:=s_ (cw (dq c k) w.heap.size (fG c)) (fun s a=>pf (k.ld s a)) (k.md c) (fun j s1=>CI k s1/\s1.wk.length<=j/\s1.ep.length<=j/\s1.nx=s.nx) c.pk c.pw c.p 150 #[af w.heap.size] yE (c8 k.N k.y s.g s.ws) aV a0 s.nx (fun b=>F b\/b=w.heap.size) s w1.drew
  (by
    rintro F t ar a ⟨bS,⟨ch,bO,g1⟩,_⟩
    obtain⟨c0,_,_,_,_,H,_⟩:=dL g1;obtain⟨u,_⟩:=gO g1;refine⟨c0,H,(e9 a ar u).mono ?_⟩
    rintro r w' ⟨rfl,f⟩
    exact⟨_,_,rfl,f⟩)
  (fun t a=>cU _) (fun a ha=>by have:=x a ha;omega) I
  (by
    rintro j F t ar o ⟨g1,g2,g3,l⟩ be _;have hm:(c8 k.N k.y s.g s.ws).getD j 0∈c8 k.N k.y s.g s.ws:=by rw[aj,am o];exact aK o
    have:=x _ hm;exact yF w.heap.size be g1 _ this.1 this.2 I I)
  (by
    rintro j t o ⟨g1,g2,g3,l⟩
    have hm:(c8 k.N k.y s.g s.ws).getD j 0∈c8 k.N k.y s.g s.ws:=by rw[aj,am o];exact aK o
    have f:=x _ hm;unfold gP;split
    ·obtain⟨g,i⟩:=g1.md c f.1 f.2;have:=i.wk;have:=i.ep;exact⟨g,I,I,i.nx.trans l⟩
    ·exact⟨g1,I,I,l⟩)
  ⟨q.out.1,by rw[q.out.2.1];simp,by rw[q.out.2.2];simp,rfl⟩ al ((ga n).below (Below.refl _ w1).drew)
  (fun hp z e=>by
    obtain⟨b,C,bg⟩:=dP n hp;cases bg;cases e;have bi:=(bR n b rfl).1;simp at bi;rintro(d|d)
    ·have d:F b:=d;have:=A b d;omega
    ·have d:b=w.heap.size:=d;omega)
 rw[<-bP.yD] at E;have ax:Hid ((∀b,F b->b<w.heap.size)/\Below w.heap.size w w1):=⟨A,f⟩
 obtain⟨s2,L⟩:∃s2,k.lm c.c c.M s (c8 k.N k.y s.g s.ws)=s2:=⟨_,rfl⟩
 rw[L] at E;have bl:Hid (k.lm c.c c.M s (c8 k.N k.y s.g s.ws)=s2):=L;clear L;clear ai al v K x ad n c0 c2 H Y f J A D q;go_wp2_with fail
 go_region_held3 (fun w'=>w'.cell? (ah w.heap.size 0)=some (af c.pk)/\w'.cell? (ah c.pk 2)=some (ae s.nx)) (go_keep)
  (first
    |(go_at_call 147;refine E.mono ?_;clear E;rintro e w3 ⟨bT,rfl,⟨B,g1,g2,g3,l⟩,M,g,i,N,p⟩;obtain⟨bn,bo,O⟩:=g1;obtain⟨_,_,aB,_⟩:=dL O;have g1:(dq c k).J B s2 w3:=⟨bn,bo,O⟩;rw[p] at aB;have aF:Hid (CI k s2/\s2.wk.length<=(c8 k.N k.y s.g s.ws).length/\s2.ep.length<=(c8 k.N k.y s.g s.ws).length/\s2.nx=s.nx):=⟨g,i,N,p⟩;clear O g i N p;have bp:w3.cell? (ah w.heap.size 0)=some (af c.pk):=(by simp[World.cell?,g2]);have aR:Hid ((dq c k).J B s2 w3/\bM F w B w3):=⟨g1,⟨((Fr.of (X:=F) ax.out.2).drew).trans M.fr (fun b d=>d.imp id (fun d=>by omega)),fun b d=>(M.sub b ((l b).2 (ap d))).elim (fun d=>d.imp id (fun d=>by omega)) (fun d=>an (by have:=ax.out.2.size;simp at d;omega))⟩⟩;clear g1 g2 g3 l M))
 have Q:Hid (CI k s2/\d6 k s2/\s2.nx=s.nx):=by obtain⟨g,i,N,p⟩:=aF.out;have v:=g.f5;exact⟨g,⟨I,I⟩,p⟩
 clear aF bp aB a2 a3 bb bd;go_wp2_with fail;go_end0;rw[bl.out];exact⟨B,rfl,aR.out.1,aR.out.2,Q.out.1,Q.out.2.1,Q.out.2.2⟩
end
end Go.Proofs.YtjpjpjemibgjpaaGreat
