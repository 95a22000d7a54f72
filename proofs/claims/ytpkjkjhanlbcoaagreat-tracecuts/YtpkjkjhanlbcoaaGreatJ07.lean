import Derived.Test.YtpkjkjhanlbcoaaGreatJ06
import Derived.OrdersHeld
open Array renaming setIfInBounds_comm->Cg,size->I
open Bool renaming false->Nb,true->Nc
open Go renaming Addr->bG,Calls->J,Value->bD
open Go.Ending renaming returned->M6
open Go.IntKind renaming i64->M4
open Go.Obj renaming cells->R
open Go.Proofs.Tryz renaming prog->O
open Go.RowKit renaming Below->C,intOf->bN
open Go.Value renaming int->M7,ownBlock->Nh,pointer->bJ,slice->M0,tuple->a8
open Go.World renaming alloc->bj,cell?->V,heap->G
open Iff renaming rfl->iy
open Int renaming toNat->M
open List renaming contains->bR,foldl_append->lj,getD->X,getElem_cons_succ->mh,getElem_cons_zero->jl,getElem_toArray->k3,length->L,nodup_nil->Cq,setIfInBounds_toArray->jw,set_cons_succ->nX,set_cons_zero->lT
open Option renaming none->Y,some->Z
namespace Go.Proofs.YtpkjkjhanlbcoaaGreat
set_option maxRecDepth 100000
set_option maxHeartbeats 2000000
open Tryz
open Go.RowKit W Kp cq
def yZ {b:Type}(o:dC b)(I:b->Prop):dC b where
 J F t w:=o.J F t w/\I t
 lt:=fun h=>o.lt h.1
 keep:=fun h hs hk=>⟨o.keep h.1 hs hk,h.2⟩
def dp {f:Type}(o:dC f)(bx:Nat)(x:Obj):dC f where
 J F t w:=∃c,o.J c t w/\w.heap[bx]?=Z x/\¬c bx/\∀b,F b↔(c b\/b=bx)
 lt:=by
  rintro F t w ⟨c,h,e,_,d⟩ b hb;rcases(d b).1 hb with hb|hb
  ·exact o.lt h b hb
  ·rw[hb];exact lt_of_some e
 keep:=by rintro F t w w' ⟨c,h,e,hn,d⟩ hs hk;exact⟨c,o.keep h hs (fun b hb=>hk b ((d b).2 (aM hb))),(hk bx ((d bx).2 (aK rfl))).trans e,hn,d⟩
section
variable {iq:Type}{o:dC iq}{bx p:Nat}{x:Obj}{vr:bD}{F:Nat->Prop}{w w':az}
theorem oK {t:iq×List cf}(h:(di o p vr).J F t w):∃d,o.J d t.1 w/\∀c f w',o.J c f w'->ch d w c w'->∃j,(di o p vr).J j (f,t.2) w'/\ch F w j w':=by
 obtain⟨d,ad,cap,s,l,g,m,u,n,i,v⟩:=h;refine⟨d,s,fun c f w' q b=>?_⟩
 have lp:=lt_of_some l;refine⟨fun k=>F k\/c k,⟨c,ad,cap,q,(b.fr.block p lp n).trans l,cM g (fun k e=>b.fr.block k (cv g k e).2 (i k e).2),fun k h=>aK h,aM u,fun h=>(b.sub p h).elim n (fun h=>by omega),fun k e=>⟨aM (i k e).1,fun h=>(b.sub k h).elim (i k e).2 (fun h=>by have:=(cv g k e).2;omega)⟩,fun k h=>?_⟩,b.fr.mono m,fun k h=>?_⟩
 ·rcases h with h|h
  ·exact aO (v k h) b.fr.size
  ·exact o.lt q k h
 ·rcases h with h|h
  ·exact aM h
  ·exact(b.sub k h).imp (m k) id
theorem kL {t:iq×List cf}(h:(di o p vr).J F t w)(f:w.heap[bx]?=Z x)(hn:¬F bx):(di (dp o bx x) p vr).J (fun b=>F b\/b=bx) t w:=by obtain⟨g,ad,cap,k,l,m,i,j,n,d,q⟩:=h;refine⟨fun b=>g b\/b=bx,ad,cap,⟨g,k,f,fun c=>hn (i _ c),fun b=>iy⟩,l,m,fun b hb=>hb.imp (i b) id,aM j,fun c=>c.elim n (fun e=>hn (by rw[<-e];exact j)),fun b e=>⟨aM (d b e).1,fun c=>c.elim (d b e).2 (fun s=>hn (by rw[<-s];exact(d b e).1))⟩,fun b hb=>hb.elim (q b) (fun e=>by rw[e];exact lt_of_some f)⟩
theorem ua {t:iq×List cf}(h:(di (dp o bx x) p vr).J F t w):(di o p vr).J F t w:=by obtain⟨n,ad,cap,⟨f,g1,g2,g3,g4⟩,g,i,j,k,l,d,m⟩:=h;exact⟨f,ad,cap,g1,g,i,fun b hb=>j b ((g4 b).2 (aM hb)),k,fun c=>l ((g4 p).2 (aM c)),fun b e=>⟨(d b e).1,fun c=>(d b e).2 ((g4 b).2 (aM c))⟩,m⟩
theorem ub {D:Int->Prop}{f:Nat}{b c:Array bD}{kp:iq->Int->Int×iq}(hk:ou o D f b c kp):ou (dp o bx x) D f b c kp:=by
 rintro F t w y k ⟨l,h,d,hn,e⟩
 refine(hk l t w y k h).mono ?_;rintro r w' ⟨g,rfl,m,i,j⟩
 refine⟨fun b=>g b\/b=bx,rfl,⟨g,m,(i.block bx (lt_of_some d) hn).trans d,fun c=>(j bx c).elim hn (fun c=>by have:=lt_of_some d;omega),fun b=>iy⟩,i.mono (fun b hb=>(e b).2 (aM hb)),fun b hb=>?_⟩
 rcases hb with hb|hb
 ·exact(j b hb).imp (fun c=>(e b).2 (aM c)) id
 ·exact aM ((e b).2 (aK hb))
theorem mL {D:Int->Prop}{f:Nat}{b c:Array bD}{nw:iq->Int->Int}(ht:lP o D f b c nw):lP (dp o bx x) D f b c nw:=by
 rintro F t w y d ⟨e,h,_⟩
 exact ht e t w y d h
end
def ii (c:gZ)(k:ck):dC ct:=yZ (eC c k) (fun s=>CI k s/\eB k s)
abbrev jA (c:gZ):Obj:=R #[aq c.pk] 164 (0,0)
abbrev kM (bx:Nat):gu:=⟨188,#[],#[aq bx]⟩
abbrev l6 (c:gZ):gu:=⟨190,#[aq c.pk],#[]⟩
abbrev nH (c:gZ):gu:=⟨182,#[aq c.pk],#[]⟩
abbrev nI (c:gZ):gu:=⟨111,#[aq c.pk],#[]⟩
theorem y3:dV 188:=gM func188 ah rfl
theorem y4:dV 190:=gM func190 ah rfl
theorem Fs:dV 182:=gM func182 ah rfl
theorem Ft:dV 111:=gM func111 ah rfl
section
variable {c:gZ}{k:ck}{F:Nat->Prop}{s:ct}{w:az}
theorem y5 (fv:gu)(w:az)(p:Nat):
 J O 110 #[aq p,fv.v] w fun e w'=>e=M6 (.agg #[(kM (I (G w))).v,fv.v,.func (.func 190) #[aq p] #[]])/\w'.heap[I (G w)]?=Z (R #[aq p] 164 (0,0))/\C (I (G w)) w w':=by
 obtain⟨f,b,c⟩:=fv;go_enter func110,ntmps110;go_wp2_with fail;refine a6 (v:=.agg #[(kM (I (G w))).v,.func (.func f) b c,.func (.func 190) #[aq p] #[]]) (by simp[results,results110,go_sem]) rfl ⟨rfl,?_,((aH _ w).alloc b8 _).alloc ac _⟩
 rw[aS _ _ _ ac];exact aP _ _
theorem y6 (bx:Nat):kJ (dp (ii c k) bx (jA c)) (fun _=>True) (kM bx).f (kM bx).b (kM bx).c k.al:=by
 rintro F s w x _ ⟨d,⟨⟨cL,f,h⟩,_⟩,b,_⟩
 have P:=oJ h x;have c0:V w (av bx 0)=Z (aq c.pk):=aD b
 have E:k.al s x=!k.ls s x:=rfl;go_enter func188,ntmps188;go_wp2_with fail;refine P.mono ?_;exact qD
theorem y7:lP (ii c k) (fun _=>True) (l6 c).f (l6 c).b (l6 c).c k.nw:=by
 rintro F s w x _ ⟨⟨cL,b,h⟩,_⟩
 exact qZ h x
theorem Fu:ou (ii c k) (fun _=>True) (nH c).f (nH c).b (nH c).c k.br:=by
 rintro F s w x _ ⟨⟨cL,e,h⟩,b,hB⟩
 refine(q6 h b x).mono ?_;rintro r w' ⟨rfl,f,d⟩
 obtain⟨g,i,_⟩:=b.br x;exact⟨F,rfl,⟨⟨cL,e,f⟩,g,i.cb hB⟩,d.fr,d.sub⟩
end
open Go
section
variable {P:Program}{ops:Array Oper}{Q:Exit->Act->az->Prop}{md:Region.Mode}{T S:az->Prop}{St:List Nat}
def came (St:List Nat)(b:Array Bool):Prop:=∃s∈St,b.getD s Nb=Nc
def kN (P:Program)(md:Region.Mode)(ops:Array Oper)(Q:Exit->Act->az->Prop)(T S:az->Prop)(St:List Nat):Nat->Array Bool->Act->az->Prop
 |0,b,a,w=>Region.ready md ops b=[]/\Q .normal a w
 |c+1,b,a,w=>(Region.ready md ops b=[]->Q .normal a w)/\
  ∀i∈Region.ready md ops b,wpOp P ops Q i (fun d w'=>(T w'/\(came St (b.setIfInBounds i Nc)\/S w'))/\kN P md ops Q T S St c (b.setIfInBounds i Nc) d w') a w
theorem uc:∀(b:Nat)(c:Array Bool)(a:Act)(w:az),kN P md ops Q T S St b c a w->wpAny P md ops Q b c a w
 |0,_,_,_,h=>h
 |b+1,_,_,_,h=>⟨h.1,fun i hi=>wpOp_mono (fun d w' e=>uc b _ d w' e.2) (h.2 i hi)⟩
def waits (md:Region.Mode)(ops:Array Oper)(St:List Nat)(i:Nat):Bool:=
 St.all fun s=>match ops[s]? with
  |some o=>o.after.any fun e=>Region.binds md e&&e.on==i
  |none=>Nb
theorem Fw {i j:Nat}{b:Array Bool}(hw:waits md ops St i=Nc)(hi:i∈Region.ready md ops b)(c:j∈Region.ready md ops b):j∉St:=by
 intro hs;have d:=List.all_eq_true.1 hw j hs
 grind [mem_ready]
theorem y8 {i:Nat}{b:Array Bool}(hn:¬came St b)(hi:i∉St):¬came St (b.setIfInBounds i Nc):=by
 rintro⟨s,hs,h⟩
 have c:i≠s:=fun e=>(by grind)
 exact hn ⟨s,hs,by simp_all⟩
theorem MQ {i:Nat}{g:Oper}{v:bD}(hi:ops[i]?=Z g)(an:i∉St)(u:waits md ops St i=Nc)(ao:∀(j:Nat)(o:Oper) x b,ops[j]?=Z o->o.op≠.select x b)
 (B:∀c a w,Q (.panic c) (a.put g.dst v) w->Q (.panic c) a w):
 ∀(l:Nat)(d:Array Bool)(a:Act)(w:az),
  (∀j m,ops[j]?=Z m->j≠i->d.getD j Nc=Nb->(∀e∈m.after,Region.binds md e=Nc->e.on≠i)->g.apart ops m=Nc)->
  i∈Region.ready md ops d->¬came St d->YieldsIf P ops (fun w=>T w/\S w) g v a->T w/\S w->
  kN P md ops Q T S St l (d.setIfInBounds i Nc) (a.put g.dst v) w->kN P md ops Q T S St (l+1) d a w:=by
 intro l
 induction l with
 |zero=>
  intro d a w _ hr _ hy p H;refine⟨fun h=>(by grind),fun j n=>?_⟩
  by_cases f:j=i
  ·rw[f];exact hy.wpOp hi p (by grind)
  ·have hm:=ready_mono n f;rw[H.1] at hm;simp at hm
 |succ l F=>
  intro d a w s hr N hy p H;refine⟨fun h=>(by grind),fun j n=>?_⟩
  by_cases f:j=i
  ·rw[f];exact hy.wpOp hi p (by grind)
  ·have W:=Fw u hr n;obtain⟨ab,m,t,ap⟩:=mem_ready.1 n;have ad:=s j m t f ab (by grind [mem_ready])
   refine wpOp_mono (fun ag w' h=>?_) (wpOp_putIf t ad (by grind) (by grind) B hy (H.2 j (ready_mono n f)))
   obtain⟨ai,ar,aB⟩:=h;have q:T w'/\S w':=(by grind [y8])
   refine⟨⟨q.1,aK q.2⟩,F _ ag w' (fun k ok hk al aF am=>s k ok hk al ?_ am) (ready_mono hr aa) (y8 N W) ai q ?_⟩
   ·by_cases aR:j=k
    ·grind
    ·simp_all
   grind [Cg]
theorem Fx {i:Nat}{g:Oper}{v:bD}(hi:ops[i]?=Z g)(an:i∉St)(ao:∀(j:Nat)(o:Oper) B b,ops[j]?=Z o->o.op≠.select B b)
 (F:∀c a w,Q (.panic c) (a.put g.dst v) w->Q (.panic c) a w):
 ∀(l:Nat)(d:Array Bool)(a:Act)(w:az),
  (∀j m,ops[j]?=Z m->j≠i->d.getD j Nc=Nb->(∀e∈m.after,Region.binds md e=Nc->e.on≠i)->g.apart ops m=Nc)->
  i∈Region.ready md ops d->YieldsIf P ops T g v a->T w->(came St d\/S w)->
  kN P md ops Q T S St l (d.setIfInBounds i Nc) (a.put g.dst v) w->kN P md ops Q T S St (l+1) d a w:=by
 have up:∀{d:Array Bool}{k:Nat},came St d->came St (d.setIfInBounds k Nc):=fun⟨s,hs,h⟩=>⟨s,hs,getD_set_true h⟩
 intro l
 induction l with
 |zero=>
  intro d a w _ hr hy p hc H;refine⟨fun h=>(by grind),fun j n=>?_⟩
  by_cases f:j=i
  ·rw[f];exact hy.wpOp hi p (by grind)
  ·have hm:=ready_mono n f;rw[H.1] at hm;simp at hm
 |succ l N=>
  intro d a w t hr hy p hc H;refine⟨fun h=>(by grind),fun j n=>?_⟩
  by_cases f:j=i
  ·rw[f];exact hy.wpOp hi p (by grind)
  ·obtain⟨W,m,u,ap⟩:=mem_ready.1 n;have ab:=t j m u f W (by grind [mem_ready])
   refine wpOp_mono (fun ad w' h=>?_) (wpOp_putIf u ab (by grind) (by grind) F hy (H.2 j (ready_mono n f)))
   obtain⟨ag,q,ar⟩:=h;have x:came St (d.setIfInBounds j Nc)\/S w':=q.2.imp (fun⟨s,hs,h⟩=>by
    have ai:i≠s:=fun e=>(by grind)
    refine⟨s,hs,?_⟩
    rw[Cg _ _ aa,getD_set_ne Nb ai] at h;omega) id
   refine⟨⟨q.1,x⟩,N _ ad w' (fun k ok hk al aB am=>t k ok hk al ?_ am) (ready_mono hr aa) ag q.1 x ?_⟩
   ·by_cases aF:j=k
    ·grind
    ·simp_all
   grind [Cg]
theorem gf {i:Nat}{d:Oper}{v:bD}{e:Nat}{b:Array Bool}{a:Act}{w:az}(hi:ops[i]?=Z d)
 (hs:Region.noSelect ops=Nc)(f:Region.free md ops b i=Nc)(hr:(Region.ready md ops b).contains i=Nc)(g:St.contains i=Nb)
 (j:∀c a w,Q (.panic c) (a.put d.dst v) w->Q (.panic c) a w)(hy:YieldsIf P ops T d v a)(k:T w)(hc:came St b\/S w)
 (h:kN P md ops Q T S St e (b.setIfInBounds i Nc) (a.put d.dst v) w):kN P md ops Q T S St (e+1) b a w:=
 (by grind [Fx,Region.noSelect_spec,Region.free_spec])
theorem y9 {i:Nat}{o:Oper}{K:Act->az->Prop}{a:Act}{w:az}(hi:ops[i]?=Z o)(hg:Region.wanted o (yielded ops a.tmps)=Nc)(h:o.wp P a w K Q):wpOp P ops Q i K a w:=by
 unfold wpOp;rw[hi];dsimp only
 grind
theorem y_ {i:Nat}{c:Nat}{b:Array Bool}{a:Act}{w:az}(hr:Region.ready md ops b=[i])
 (h:wpOp P ops Q i (fun d w'=>(T w'/\(came St (b.setIfInBounds i Nc)\/S w'))/\kN P md ops Q T S St c (b.setIfInBounds i Nc) d w') a w):kN P md ops Q T S St (c+1) b a w:=
 ⟨fun h0=>(by simp_all),fun j e=>(by simp_all)⟩
theorem za {b:Array Bool}{a:Act}{w:az}(hr:Region.ready md ops b=[])(h:Q .normal a w):∀c,kN P md ops Q T S St c b a w
 |0=>⟨hr,h⟩
 |_+1=>⟨fun _=>h,by rw[hr];simp⟩
end
def lenOf (w:az)(p:Nat):Nat:=match V w (av p 4) with
 |some (M0 _ n _)=>n
 |_=>0
def ud (w:az)(p:Nat):Int:=match V w (av p 6) with
 |some (M7 _ v)=>v
 |_=>0
def ue (c:gZ)(k:ck)(w:az):Nat:=M (k.N+k.O+13-q8 w c.pk)+lenOf w c.pk+(k.O-M (ud w c.p))
def q_:bD->Nat
 |.bool Nc=>1
 |_=>0
section
variable {c:gZ}{k:ck}{F:Nat->Prop}{s:ct}{w:az}{vr:bD}
theorem uf (h:(eC c k).J F s w):ue c k w=k.mu s:=by
 obtain⟨cL,g,h⟩:=h;obtain⟨_,_,c2,_,c4,_,_,_,_,_,_,er,_⟩:=eD h;obtain⟨b,_⟩:=jh h;obtain⟨ad,cap,e⟩:=eZ er;have d:lenOf w c.pk=L s.ep:=by unfold lenOf;rw[c4,e]
 have f:ud w c.p=s.g:=by unfold ud;rw[b.cells.2.2.2.2.2.2]
 unfold ue ck.mu;rw[t9 c2,d,f,Int.toNat_natCast]
theorem Fy {f:Option bG}{g i:Nat}(j:vr=M0 f g i){t:ct×List cf}(h:(di (ii c k) c.sd vr).J F t w)(hq:L t.2<=90000)(bx:Nat)(l:w.heap[bx]?=Z (jA c))(hn:¬F bx):
 Calls O 145 #[aq c.sd,.agg #[(kM bx).v,(nH c).v,(l6 c).v]] w fun e w'=>∃d,e=M6 (.bool (k.wa t).2)/\(di (ii c k) c.sd vr).J d (k.wa t).1 w'/\Fr (fun b=>F b\/b=bx) w w'/\(∀b,d b->F b\/b=bx\/I (G w)<=b):=by
 refine(yE _ (yY _ _ _) (fun _=>True) (kM bx) (nH c) (l6 c) _ _ _ (qT _ c.sd vr (fun _=>True) (kM bx) (nH c) (l6 c) k.al k.br k.nw y3 Fs y4 (y6 bx) (ub Fu) (mL y7)) f g i j _ t w hq (fun _ _=>⟨trivial,trivial⟩) (kL h l hn)).mono ?_;rintro e w' ⟨d,rfl,m,n,hs⟩
 exact⟨d,rfl,ua m,n,fun b hb=>(hs b hb).elim (fun c=>c.elim aM (fun c=>aK (aM c))) (fun c=>aK (aK c))⟩
theorem zb {br:Option bG}{bs bt:Nat}(bx:vr=M0 br bs bt){t:ct×List cf}(h:(di (ii c k) c.sd vr).J F t w)(hq:L t.2<=90000):
 Calls prog 109 #[aq c.pk] w fun e w'=>∃a3,e=M6 (a8 #[])/\(di (ii c k) c.sd vr).J a3 (k.sp t) w'/\ch F w a3 w':=by
 have b0:∀(a4:Fn)(first cap:Array bD)(w:az),(Instr.makeFunc a4 first cap).run prog w=.ok (.func a4 first cap) w:=fun _ _ _ _=>rfl;go_enter func109,ntmps109;go_wp2_with fail
 go_loopw [2] (fun ar wr=>∃(n:Nat)(ag:Nat->Prop)(d:ct×List cf)(b:Bool),ar=.bool b/\(di (ii c k) c.sd vr).J ag d wr/\ch F w ag wr/\aA (if b=Nc then k.mu d.1<n/\k.c_ n d=k.sp t else d=k.sp t)/\L d.2<=90000) (fun ar wr=>2*ue c k wr+q_ ar)
 exact⟨k.mu t.1+1,F,t,Nc,rfl,h,ch.refl _ _,⟨aa,rfl⟩,hq⟩
 ·
   obtain⟨n,ag,d,b,rfl,ba,bb,bd,hq⟩:=hrel;cases b
   ·have x:=hide bd.o;go_wp2_with fail;go_end0;rw[<-x.o];exact⟨ag,rfl,ba,bb⟩
   ·obtain⟨b1,b2⟩:=bd.o;obtain⟨m,rfl⟩:∃m,n=m+1:=⟨n-1,aa⟩
    obtain⟨co,u,b3⟩:=oK ba;have aB:=uf u.1;have B:=Fp u.1 u.2.1 u.2.2;obtain⟨be,bg,b4⟩:=u.2.1.lb u.2.2 (k.O+1)
    obtain⟨b5,j2,cI,cK⟩:=be.kv bg;have f:aA (_/\_/\(CI k (k.lb (k.O+1) d.1)/\eB k (k.lb (k.O+1) d.1))/\(CI k (k.kv (k.lb (k.O+1) d.1)).2/\eB k (k.kv (k.lb (k.O+1) d.1)).2)):=⟨bb,b3,⟨be,bg⟩,⟨b5,j2⟩⟩
    have ai:=ja b4 cI cK b1;have x:=hide b2;go_wp2_with fail;refine B.mono ?_;rintro e w1 ⟨cp,rfl,N,W⟩
    have al:=Fq ((eC c k).below N (aH _ w1).drew) f.o.2.2.1.1 f.o.2.2.1.2;have W:=W.below (aH _ w1).drew;obtain⟨cq,cr,N⟩:=N;obtain⟨b6,_,_,_,_,_,_,ca,_⟩:=eD N;cases hkv:(k.kv (k.lb (k.O+1) d.1)).1
    ·rw[hkv] at al;have bi:aA ((if(k.wa ((k.kv (k.lb (k.O+1) d.1)).2,d.2)).2=Nc then k.c_ m (k.wa ((k.kv (k.lb (k.O+1) d.1)).2,d.2)).1 else(k.wa ((k.kv (k.lb (k.O+1) d.1)).2,d.2)).1)=k.sp t):=by
      have:=x.o;unfold ck.c_ at this
      rw[hkv] at this
      exact this
     have j:=CI.wa (s:=((k.kv (k.lb (k.O+1) d.1)).2,d.2)) f.o.2.2.2.1 f.o.2.2.2.2;have j:aA (L (k.wa ((k.kv (k.lb (k.O+1) d.1)).2,d.2)).1.2<=90000/\k.mu (k.wa ((k.kv (k.lb (k.O+1) d.1)).2,d.2)).1.1<=k.mu d.1/\((k.wa ((k.kv (k.lb (k.O+1) d.1)).2,d.2)).2=Nc->k.mu (k.wa ((k.kv (k.lb (k.O+1) d.1)).2,d.2)).1.1<k.mu d.1)):=by refine⟨by rw[j.2.2.1];exact hq,by have:=j.2.2.2.1;dsimp only at this;omega,fun e=>by have:=j.2.2.2.2 e;dsimp only at this;omega⟩
     generalize k.lb (k.O+1) d.1=s1 at*;generalize (k.kv s1).2=s2 at*;go_wp2_with fail
     go_region_held3 (fun w'=>V w' (av c.pk 0)=Z (aq c.pw)/\V w' (av c.pw 2)=Z (aq c.sd)) (go_keep)
      (first
        |(go_at_call 187;refine al.mono ?_;rintro e q ⟨aF,rfl,l,am⟩;obtain⟨bl,hM,an⟩:=f.o.2.1 aF s2 q ⟨l,f.o.2.2.2⟩ (W.trans am);obtain⟨cs,cu,l⟩:=l;obtain⟨g0,_,_,_,_,_,_,aR,_⟩:=eD l;have l0:=aT q _ g0;have cb:=aT q _ aR;have g:=c8 hM (f.o.1.trans an))
        |(go_at_call 110;refine(y5 (nH c) q c.pk).mono ?_;rintro e cv ⟨rfl,cc,aV⟩;have cd:=(aV.cell (p:=av c.pk 0) l0).trans g0;have ce:=(aV.cell (p:=av c.pw 2) cb).trans aR;have ab:=c8 cc aV)
        |(go_at_call 145;refine(Fy bx (t:=(s2,d.2)) ((di (ii c k) c.sd vr).below g.o.1 ab.o.2) hq (I (G q)) ab.o.1 (fun h=>by have:=(di (ii c k) c.sd vr).lt g.o.1 _ h;omega)).mono ?_;rintro e cg ⟨a0,rfl,bn,ci,cj⟩;have ao:aA (_/\ch F w a0 cg):=⟨bn,⟨(g.o.2.below ab.o.2).fr.trans ci (fun b hb=>hb.elim (g.o.2.sub b) (fun e=>aK (by have:=g.o.2.fr.size;omega))),fun b hb=>(cj b hb).elim (g.o.2.sub b) (fun h=>aK (by have o:=g.o.2.fr.size;have a1:=ab.o.2.size;omega))⟩⟩;obtain⟨cw,⟨⟨cl,cm,bo⟩,_⟩,_⟩:=oK bn;have ap:=uf ⟨cl,cm,bo⟩;obtain⟨r0,_,_,_,_,_,_,cn,_⟩:=eD bo))
     clear r0 cn g0 aR cd ce b6 ca f g ab x b0 W;cases hbw:(k.wa (s2,d.2)).2
     ·have ad:aA (if Nb=Nc then k.mu (k.wa (s2,d.2)).1.1<m/\k.c_ m (k.wa (s2,d.2)).1=k.sp t else(k.wa (s2,d.2)).1=k.sp t):=by
       have:=bi.o;rw[hbw] at this
       exact this
      go_wp2_with fail;go_roundw;exact⟨m,a0,(k.wa (s2,d.2)).1,Nb,rfl,ao.o.1,ao.o.2,ad,j.o.1⟩
      ·have:=j.o.2.1;rw[ap,aB];simp[q_];omega
     ·have ad:aA (if Nc=Nc then k.mu (k.wa (s2,d.2)).1.1<m/\k.c_ m (k.wa (s2,d.2)).1=k.sp t else(k.wa (s2,d.2)).1=k.sp t):=by have o:=bi.o;rw[hbw] at o;have a1:=j.o.2.2 hbw;have bp:=ai.o.2.2.2;exact⟨aa,o⟩
      have a1:=j.o.2.2 hbw;go_wp2_with fail;go_roundw;exact⟨m,a0,(k.wa (s2,d.2)).1,Nc,rfl,ao.o.1,ao.o.2,ad,j.o.1⟩
      ·rw[ap,aB];simp[q_];omega
    ·rw[hkv] at al;have a1:k.mu (k.kv (k.lb (k.O+1) d.1)).2<k.mu d.1:=by have o:=ai.o.1;have bp:=ai.o.2.2.1 hkv;omega
     have ad:aA (if Nc=Nc then k.mu (k.kv (k.lb (k.O+1) d.1)).2<m/\k.c_ m ((k.kv (k.lb (k.O+1) d.1)).2,d.2)=k.sp t else((k.kv (k.lb (k.O+1) d.1)).2,d.2)=k.sp t):=by have o:=x.o;unfold ck.c_ at o;rw[hkv] at o;have bp:=ai.o.2.2.2;exact⟨aa,o⟩
     generalize k.lb (k.O+1) d.1=s1 at*;generalize (k.kv s1).2=s2 at*;clear N;go_wp2_with fail;refine wp_region_noPanic ?_;refine wp_region_any ah ?_;refine uc (T:=fun _=>True) (S:=fun _=>True) (St:=[]) _ _ _ _ ?_;refine gf (i:=0) (v:=?_) rfl ah ah ah ah (fun _ _ _ h=>h) (aM ⟨af,?_⟩) trivial (aK trivial) ?_
     rotate_left
     ·intro w a2;go_simp
      try rfl
     try simp only [Act.put,k3,jl,jw,lT,nX]
     refine y_ (i:=1) ah ?_;refine y9 rfl af ?_;simp only [k3,mh,jl];go_simp;refine al.mono ?_;rintro e q ⟨aF,rfl,l,am⟩
     obtain⟨bl,hM,an⟩:=f.o.2.1 aF s2 q ⟨l,f.o.2.2.2⟩ (W.trans am)
     have ap:=uf l;have g:=c8 hM (f.o.1.trans an)
     clear l am hM an;refine gf (i:=2) (v:=?_) rfl ah ah ah ah (fun _ _ _ h=>h) (aM ⟨af,?_⟩) trivial (aK trivial) ?_
     rotate_left
     ·intro w a2;go_simp
      try rfl
     refine gf (i:=3) (v:=undef) rfl ah ah ah ah (fun _ _ _ h=>h) (aK ⟨af,rfl⟩) trivial (aK trivial) ?_;refine gf (i:=4) (v:=undef) rfl ah ah ah ah (fun _ _ _ h=>h) (aK ⟨af,rfl⟩) trivial (aK trivial) ?_;refine gf (i:=5) (v:=undef) rfl ah ah ah ah (fun _ _ _ h=>h) (aK ⟨af,rfl⟩) trivial (aK trivial) ?_;refine gf (i:=6) (v:=undef) rfl ah ah ah ah (fun _ _ _ h=>h) (aK ⟨af,rfl⟩) trivial (aK trivial) ?_
     try simp only [Act.put,k3,mh,jl,jw,lT,nX]
     refine gf (i:=7) (v:=undef) rfl ah ah ah ah (fun _ _ _ h=>h) (aK ⟨af,rfl⟩) trivial (aK trivial) ?_;refine gf (i:=8) (v:=undef) rfl ah ah ah ah (fun _ _ _ h=>h) (aK ⟨af,rfl⟩) trivial (aK trivial) ?_;refine gf (i:=9) (v:=undef) rfl ah ah ah ah (fun _ _ _ h=>h) (aK ⟨af,rfl⟩) trivial (aK trivial) ?_;refine gf (i:=10) (v:=undef) rfl ah ah ah ah (fun _ _ _ h=>h) (aK ⟨af,rfl⟩) trivial (aK trivial) ?_;refine gf (i:=11) (v:=undef) rfl ah ah ah ah (fun _ _ _ h=>h) (aK ⟨af,rfl⟩) trivial (aK trivial) ?_
     try simp only [Act.put,k3,mh,jl,jw,lT,nX]
     refine gf (i:=12) (v:=undef) rfl ah ah ah ah (fun _ _ _ h=>h) (aK ⟨af,rfl⟩) trivial (aK trivial) ?_;refine gf (i:=13) (v:=undef) rfl ah ah ah ah (fun _ _ _ h=>h) (aK ⟨af,rfl⟩) trivial (aK trivial) ?_
     try simp only [Act.put,k3,mh,jl,jw,lT,nX]
     refine gf (i:=14) (v:=undef) rfl ah ah ah ah (fun _ _ _ h=>h) (aK ⟨af,rfl⟩) trivial (aK trivial) ?_;refine gf (i:=15) (v:=?_) rfl ah ah ah ah (fun _ _ _ h=>h) (aM ⟨af,?_⟩) trivial (aK trivial) ?_
     rotate_left
     ·intro w a2;go_simp
      try rfl
     refine gf (i:=16) (v:=?_) rfl ah ah ah ah (fun _ _ _ h=>h) (aM ⟨af,?_⟩) trivial (aK trivial) ?_
     rotate_left
     ·intro w a2;go_simp
      try rfl
     try simp only [Act.put,k3,mh,jl,jw,lT,nX]
     refine za ah ?_ _;refine NoPanic.normal ?_;go_wp2_with fail;go_roundw;exact⟨m,bl,(s2,d.2),Nc,rfl,g.o.1,g.o.2,ad,hq⟩
     ·rw[ap,aB];simp[q_];omega
theorem Fz {j:Option bG}{l m:Nat}(n:vr=M0 j l m){t:ct×List cf}(h:(di (ii c k) c.sd vr).J F t w)(hq:L t.2<=90000)(x:Int):
 Calls O 111 #[aq c.pk,ak x] w fun e w'=>∃b,e=M6 (ak (k.ke t x).1)/\(di (ii c k) c.sd vr).J b (k.ke t x).2 w'/\ch F w b w':=by
 obtain⟨o,⟨⟨cL,p,q⟩,d,hB⟩,s⟩:=oK h;obtain⟨u,v,_⟩:=d.br x;have f:=g_ s u (v.cb hB)
 have E:aA ((k.ke t x).1=(k.br t.1 x).1/\(k.ke t x).2=k.sp ((k.br t.1 x).2,t.2)):=⟨rfl,rfl⟩
 go_enter func111,ntmps111;go_wp2_with fail;refine(q6 q d x).mono ?_;rintro e w1 ⟨rfl,B,N⟩
 obtain⟨ag,hM,S⟩:=f.o.1 o _ w1 ⟨⟨cL,p,B⟩,f.o.2⟩ N;have g:=c8 hM S;go_wp2_with fail;refine(zb n g.o.1 hq).mono ?_;rintro e ai ⟨W,rfl,ab,ad⟩
 have i:=c8 ab (g.o.2.trans ad)
 go_wp2_with fail;go_ret;exact⟨W,rfl,i.o.1,i.o.2⟩
end
def ks {b:Type}(fd:b->Int->Int)(st:b->Int->b)(e:Int)(t:b)(a:Int):b:=if a+fd t a<e then st t a else t
def kO {b:Type}(fd:b->Int->Int)(st:b->Int->b)(e:Int)(t:b)(l:List Int):b:=l.foldl (ks fd st e) t
theorem zc {i:Type}(o:dC i)(fd:i->Int->Int)(st:i->Int->i)(G:Nat->i->Prop)(pk pw p f:Nat)(ag:Array bD)(ai:dV f)(l:List Int)(ad:Option bG)(cap:Nat)(e:Int)(F:Nat->Prop)(t:i)(w:az)
 (al:∀F t w a,o.J F t w->V w (av pk 0)=Z (aq pw)/\V w (av pw 0)=Z (aq p)/\Calls O 102 #[aq p,ak a] w fun r w'=>∃x z,r=M6 (a8 #[ak x,ak (fd t a),ak z])/\C w.heap.size w w')
 (am:∀t a,0<=fd t a/\fd t a<=12)(an:∀a∈l,0<=a/\a<=100000)(bl:l.length<=100000)
 (ao:∀j F t w,j<l.length->G j t->o.J F t w->X l j 0+fd t (X l j 0)<e->Calls O f (#[ak (X l j 0)]++ag) w fun r w'=>∃g,r=M6 (a8 #[])/\o.J g (st t (X l j 0)) w'/\ch F w g w')
 (ap:∀j t,j<l.length->G j t->G (j+1) (ks fd st e t (X l j 0)))(h0:G 0 t)(k:o.J F t w)(S:jb w ad l)(hn:0<l.length->∀z,ad=Z z->¬F z.block):
 Calls O 180 #[aq pk,M0 ad l.length cap,ak e,.func (.func f) #[] ag] w fun r w'=>∃g,r=M6 (a8 #[])/\o.J g (kO fd st e t l) w'/\ch F w g w'/\G l.length (kO fd st e t l):=by
 have aV:aA (∀F t w a,o.J F t w->_):=al;have a0:aA (∀j F t w,j<l.length->G j t->o.J F t w->X l j 0+fd t (X l j 0)<e->_):=ao;have a1:aA (∀j t,j<l.length->G j t->_):=ap;have a2:aA (∀g w',ch F w g w'->_):=fun g w' n=>S.keep n.fr.size (fun hp z e=>n.fr.block _ (by obtain⟨b,o',ar,hb,_⟩:=S hp;rw[e] at ar;cases ar;exact hb) (hn hp z e))
 have a3:aA (_):=an;have a4:aA (∀t a,_):=am;have bn:∀(args:Array bD)(w:az),_=_:=ai;clear al ao ap S hn an am ai;go_enter func180,ntmps180;go_wp2_with fail
 go_loopw [15] (fun iv wr=>∃(j:Nat)(d:Nat->Prop)(c:i),j<=l.length/\iv=ak j/\aA (kO fd st e t (l.take j)=c)/\aA (G j c)/\o.J d c wr/\ch F w d wr) (fun iv _=>l.length-M (bN iv))
 case atStart=>exact⟨0,F,t,a5 _,rfl,rfl,h0,k,ch.refl _ _⟩
 case round=>
  clear h0 k;obtain⟨j,d,c,bo,rfl,W,ab,k,n⟩:=hrel;by_cases q:j<l.length
  ·obtain⟨bp,br,ba,bs,hc⟩:=a2.o d wr n aa;have bt:=hc j q;subst ba;have aB:X l j 0∈l:=by rw[aL,aN q];exact a9 q
   have bx:=a3.o _ aB;have aF:aA (kO fd st e t (l.take (j+1))=ks fd st e c (X l j 0)):=by
    show _=_;rw[g9 l j q 0];unfold kO;rw[lj];have:=W.o;unfold kO at this
    rw[this];rfl
   have aR:aA (_):=a1.o j c q ab.o;have s:=fun w h=>a0.o j d c w q ab.o h;obtain⟨b0,b1,L⟩:=aV.o d c wr (X l j 0) k;have b2:=a4.o c (X l j 0)
   have N:=c8 k n;have s:aA (∀w,o.J d c w->X l j 0+fd c (X l j 0)<e->_):=s;clear hc aB k n;by_cases hw:X l j 0+fd c (X l j 0)<e
   ·have u:aA (ks fd st e c (X l j 0)=st c (X l j 0)):=by show _=_;unfold ks;rw[aJ hw]
    have bb:aA (∀w,o.J d c w->_):=fun w h=>s.o w h hw;clear s;generalize X l j 0=a at*;generalize fd c a=m at*;generalize st c a=bd at*;go_wp2_with fail;refine L.mono ?_;rintro r w1 ⟨x,z,rfl,v⟩
    go_wp2_with fail;refine(bb.o w1 (o.below N.o.1 v)).mono ?_;rintro r b3 ⟨be,rfl,bg,bi⟩
    have B:=c8 bg ((N.o.2.below v).trans bi)
    go_wp2_with fail;go_roundw;exact⟨j+1,be,bd,aa,aj,by show _=_;rw[aF.o,u.o],by show G _ _;rw[<-u.o];exact aR.o,B.o.1,B.o.2⟩
    simp[bN];omega
   ·have u:aA (ks fd st e c (X l j 0)=c):=by show _=_;unfold ks;rw[aI hw]
    clear s;generalize X l j 0=a at*;generalize fd c a=m at*;go_wp2_with fail;refine L.mono ?_;rintro r w1 ⟨x,z,rfl,v⟩
    have B:=c8 (o.below N.o.1 v) (N.o.2.below v)
    go_wp2_with fail;go_roundw;exact⟨j+1,d,c,aa,aj,by show _=_;rw[aF.o,u.o],by show G _ _;rw[<-u.o];exact aR.o,B.o.1,B.o.2⟩
    simp[bN];omega
  ·obtain rfl:j=l.length:=aa;rw[bk] at W;go_wp2_with fail;go_end0;rw[W.o];exact⟨d,rfl,k,n,ab.o⟩
section
variable {c:gZ}{k:ck}{F:Nat->Prop}{s:ct}{w:az}
def ck.md (k:ck)(c:gZ)(s:ct)(a:Int):ct:=if(gE k.N c.c a&&bR c.M (cN k.N a))=Nc then k.lk s a else s
theorem ck.FA (k:ck)(c:gZ)(s:ct)(l:List Int):k.lm c.c c.M s l=kO (fun s a=>pf (k.ld s a)) (k.md c) s.nx s l:=rfl
theorem CI.md (h:CI k s)(c:gZ){a:Int}(ha:(k.N:Int)<=a)(b:a<=2000):CI k (k.md c s a)/\Cl k s (k.md c s a):=by
 unfold ck.md;split
 ·exact h.lk ha b
 ·exact⟨h,Cl.of (ed.refl _ _)⟩
theorem FB:dV 183:=gM func183 ah rfl
theorem FC (bx:Nat)(h:(dp (eC c k) bx (jA c)).J F s w)(q:CI k s)(a:Int)(a0:(k.N:Int)<=a)(a1:a<=2000)(t:s.wk.length<=10000)(u:s.ep.length<=10000):
 Calls O 183 #[ak a,aq bx] w fun e w'=>∃j,e=M6 (a8 #[])/\(dp (eC c k) bx (jA c)).J j (k.md c s a) w'/\ch F w j w':=by
 have l:=hide h;have v:=hide q;obtain⟨ad,⟨cL,ag,h0⟩,m,ai,al⟩:=h;have x:V w (av bx 0)=Z (aq c.pk):=aD m
 have B:=lt_of_some m;obtain⟨c0,_,_,_,_,_,am,_,_,_,_,_,N,_,_⟩:=eD h0;have D:=EC a w N aa aa aa;cases hd:(gE k.N c.c a&&bR c.M (cN k.N a))
 ·have E:k.md c s a=s:=by unfold ck.md;rw[hd];rfl
  rw[E];rw[hd] at D;go_enter func183,ntmps183;go_wp2_with fail;refine D.mono ?_;rintro e w1 ⟨rfl,d⟩
  go_wp2;go_end0;exact⟨F,rfl,(dp (eC c k) bx (jA c)).below l.o d,ch.of d⟩
 ·have E:k.md c s a=k.lk s a:=by unfold ck.md;rw[aJ hd]
  rw[E];rw[hd] at D;go_enter func183,ntmps183;go_wp2_with fail;refine D.mono ?_;rintro e w1 ⟨rfl,d⟩
  have an:=(d.cell (p:=av bx 0) B).trans x;have S:=(dp (eC c k) bx (jA c)).below l.o d;obtain⟨ao,g1,g2,g3,g4⟩:=S;have L:=yX g1 v.o a a0 a1 t u;have W:=ja g2 g3 g4 d;go_wp2_with fail;refine L.mono ?_;rintro e n ⟨i,rfl,ab,g⟩
  have o:aA ((dp (eC c k) bx (jA c)).J (fun b=>i b\/b=bx) (k.lk s a) n/\ch F w (fun b=>i b\/b=bx) n):=by
   obtain⟨g2,g3,g4,d⟩:=W.o;refine⟨⟨i,ab,(g.fr.block bx (lt_of_some g2) g3).trans g2,fun f=>(g.sub bx f).elim g3 (fun f=>by have:=lt_of_some g2;omega),fun b=>iy⟩,⟨(Fr.of (X:=F) d).trans (g.fr.mono (fun b hb=>(g4 b).2 (aM hb))) (fun _ f=>aM f),fun b hb=>?_⟩⟩
   rcases hb with hb|hb
   ·exact(g.sub b hb).elim (fun f=>aM ((g4 b).2 (aM f))) (fun f=>aK (by have:=d.size;omega))
   ·exact aM ((g4 b).2 (aK hb))
  go_wp2;go_end0;exact⟨_,rfl,o.o.1,o.o.2⟩
theorem FD (h:(eC c k).J F s w)(i:CI k s)(ai:s.wk=[])(al:s.ep=[]):
 Calls O 108 #[aq c.pk] w fun e w'=>∃am,e=M6 (a8 #[])/\(eC c k).J am (k.lm c.c c.M s (dM k.N k.y s.g s.ws)) w'/\ch F w am w'/\CI k (k.lm c.c c.M s (dM k.N k.y s.g s.ws))/\eB k (k.lm c.c c.M s (dM k.N k.y s.g s.ws))/\(k.lm c.c c.M s (dM k.N k.y s.g s.ws)).nx=s.nx:=by
 have an:=hide h;have p:=g_ i ai al;have n1:=i.hN';have br:=i.hO;have bs:=i.hg;have q:=aw w (jA c)
 have aV:=(eC c k).below h q;obtain⟨cL,u,h0⟩:=aV;obtain⟨c0,_,c2,_,_,c5,_⟩:=eD h0;obtain⟨n,_⟩:=jh h0;have P:=qO _ n;have a0:=hide q;clear h i h0 n q ai al;go_enter func108,ntmps108;go_wp2_with fail;refine P.mono ?_;clear P;rintro e w1 ⟨v1,v2,rfl,a1,o,ao⟩
 obtain⟨bt,bx,rfl⟩:=eZ a1;obtain⟨a2,a3,rfl⟩:=eZ o;have hb:=a0.o.trans (ao.mono ac)
 have a4:=(eC c k).below an.o hb;have ap:w1.heap[I (G w)]?=Z (jA c):=(ao.block _ ac).trans (aP _ _)
 have b0:V w1 (av (I (G w)) 0)=Z (aq c.pk):=aD ap
 obtain⟨cL,u,v⟩:=a4;obtain⟨b1,_,b2,_,_,b3,_⟩:=eD v;have b4:L (dM k.N k.y s.g s.ws)<=2000:=je _ _;have x:∀a∈dM k.N k.y s.g s.ws,(k.N:Int)<=a/\a<=2000:=fun a ha=>by have:=qV a ha;omega
 have B:∀b,F b->_:=(eC c k).lt an.o;have ba:(dp (eC c k) (I (G w)) (jA c)).J (fun b=>F b\/b=I (G w)) s w1:=⟨F,⟨cL,u,v⟩,ap,fun d=>by have:=B _ d;omega,fun b=>iy⟩
 have bb:=(dp (eC c k) (I (G w)) (jA c)).below ba (aH _ w1).drew;have E:=zc (dp (eC c k) (I (G w)) (jA c)) (fun s a=>pf (k.ld s a)) (k.md c) (fun j s1=>CI k s1/\L s1.wk<=j/\L s1.ep<=j/\s1.nx=s.nx) c.pk c.pw c.p 183 #[aq (I (G w))] FB (dM k.N k.y s.g s.ws) a2 a3 s.nx (fun b=>F b\/b=I (G w)) s w1.drew
  (by
    rintro F t ar a ⟨b5,⟨cL,u,g1⟩,_⟩
    obtain⟨c0,_,_,_,_,c5,_⟩:=eD g1;obtain⟨n,_⟩:=jh g1;refine⟨c0,c5,(gO a ar n).mono ?_⟩
    rintro r w' ⟨rfl,hb⟩
    exact⟨_,_,rfl,hb⟩)
  (fun t a=>dv _) (fun a ha=>by have:=x a ha;omega) aa
  (by
    rintro j F t ar l ⟨g1,g2,g3,g4⟩ bd _;have hm:(dM k.N k.y s.g s.ws).getD j 0∈dM k.N k.y s.g s.ws:=by rw[aL,aN l];exact a9 l
    have:=x _ hm;exact FC (I (G w)) bd g1 _ this.1 this.2 aa aa)
  (by
    rintro j t l ⟨g1,g2,g3,g4⟩
    have hm:(dM k.N k.y s.g s.ws).getD j 0∈dM k.N k.y s.g s.ws:=by rw[aL,aN l];exact a9 l
    have hb:=x _ hm;unfold ks;split
    ·obtain⟨f,g⟩:=g1.md c hb.1 hb.2;have:=g.wk;have:=g.ep;exact⟨f,aa,aa,g.nx.trans g4⟩
    ·exact⟨g1,aa,aa,g4⟩)
  ⟨p.o.1,by rw[p.o.2.1];simp,by rw[p.o.2.2];simp,rfl⟩ bb ((hZ o).below (aH _ w1).drew)
  (fun hp z e=>by
    obtain⟨b,cap,be⟩:=eW o hp;cases be;cases e;have bg:=(cv o b rfl).1;simp at bg;rintro(d|d)
    ·have d:F b:=d;have:=B b d;omega
    ·have d:b=I (G w):=d;omega)
 rw[<-ck.FA] at E;have aB:=c8 B hb;obtain⟨s2,aF⟩:∃s2,k.lm c.c c.M s (dM k.N k.y s.g s.ws)=s2:=⟨_,rfl⟩
 rw[aF] at E;have bi:=hide aF;go_wp2_with fail
 go_region_held3 (fun w'=>V w' (av (I (G w)) 0)=Z (aq c.pk)/\V w' (av c.pk 2)=Z (ak s.nx)) (go_keep)
  (first
    |(go_at_call 180;refine E.mono ?_;clear E;rintro e N ⟨b6,rfl,⟨S,g1,g2,g3,g4⟩,W,f,g,ab,m⟩;obtain⟨bl,bn,ad⟩:=g1;obtain⟨_,_,bo,_⟩:=eD ad;have g1:(eC c k).J S s2 N:=⟨bl,bn,ad⟩;rw[m] at bo;have bp:=ja f g ab m;clear ad f g ab m;have ca:V N (av (I (G w)) 0)=Z (aq c.pk):=aD g2;have aR:aA (_/\ch F w S N):=⟨g1,⟨((Fr.of (X:=F) aB.o.2).drew).trans W.fr (fun b d=>d.imp id (fun d=>by omega)),fun b d=>(W.sub b ((g4 b).2 (aM d))).elim (fun d=>d.imp id (fun d=>by omega)) (fun d=>aK (by have:=aB.o.2.size;simp at d;omega))⟩⟩;clear g1 g2 g3 g4 W))
 have ag:aA (CI k s2/\eB k s2/\s2.nx=s.nx):=by obtain⟨f,g,ab,m⟩:=bp.o;have v:=f.iw;exact⟨f,⟨aa,aa⟩,m⟩
 go_wp2_with fail;go_end0;rw[bi.o];exact⟨S,rfl,aR.o.1,aR.o.2,ag.o.1,ag.o.2.1,ag.o.2.2⟩
end
structure Wc where
 pw:Nat
 p:Nat
 q:Nat
 pc:Nat
 sd:Nat
 nb:Nat
 N:Nat
 O:Nat
structure eE where
 y:Nat
 g:Nat
 ws:List Int
 M:List Int
 rs:List Int
structure dX (a:Wc)(own:Nat->Nat)(s:eE)(cU:Nat)(w:az):Prop where
 ar:At w a.p a.q a.N a.O s.y s.g s.ws
 a1:own a.p=1
 a2:own a.q=1
 cd:Cd w a.pc cU a.N (dO a.O) s.M
 c1:own a.pc=2
 c2:own cU=2
 wd:w.heap[a.pw]?=Z (R #[aq a.p,aq a.pc,aq a.sd,M0 (au a.nb) 12 12] 55 (0,0))
 w1:own a.pw=3
 rt:w.heap[a.nb]?=Z (R (s.rs.map (Value.int M4)).toArray 2 (0,0))
 rl:L s.rs=12
 r1:own a.nb=4
 le:∀b,own b<=4
 lt:∀b,own b≠0->b<I (G w)
theorem dX.keep {a:Wc}{own:Nat->Nat}{s:eE}{cU:Nat}{w w':az}(h:dX a own s cU w)(hs:I (G w)<=I (G w'))(hk:∀b,own b≠0->w'.heap[b]?=w.heap[b]?):dX a own s cU w':=
 {
  ar:=h.ar.same (by grind [a1]) (by grind [a2]),a1:=h.a1,a2:=h.a2
  cd:=h.cd.same (by grind [c1]) (by grind [c2]),c1:=h.c1,c2:=h.c2
  wd:=(by grind [w1,wd]),w1:=h.w1
  rt:=(by grind [r1,rt]),rl:=h.rl,r1:=h.r1,le:=h.le,lt:=fun b hb=>aO (h.lt b hb) hs}
def es (a:Wc):dC eE where
 J F s w:=∃own cU,dX a own s cU w/\∀b,F b↔own b≠0
 lt:=by rintro F s w ⟨own,cU,h,c⟩ b hb;exact h.lt b ((c b).1 hb)
 keep:=by rintro F s w w' ⟨own,cU,h,c⟩ hs hk;exact⟨own,cU,h.keep hs (fun b hb=>hk b ((c b).2 hb)),c⟩
section
variable {a:Wc}{F:Nat->Prop}{s:eE}{w:az}
theorem lv (h:(es a).J F s w):At w a.p a.q a.N a.O s.y s.g s.ws/\∀w' y g ws,At w' a.p a.q a.N a.O y g ws->dj a.p a.q w w'->(es a).J F {s with y:=y,g:=g,ws:=ws} w'/\ch F w F w':=by
 obtain⟨own,cU,h,d⟩:=h;refine⟨h.ar,fun w' y g ws ha c=>⟨⟨own,cU,?_,d⟩,⟨⟨c.os,c.tape,c.output,c.size,fun b hb hn=>(by grind [dj.block,dX.a1,dX.a2])⟩,fun _ h=>aM h⟩⟩⟩
 have hb:∀b,b<I (G w)->own b≠1->_=_:=fun b hb hn=>c.block b hb (fun e=>hn (by rw[e];exact h.a1)) (fun e=>hn (by rw[e];exact h.a2))
 exact {
  ar:=ha,a1:=h.a1,a2:=h.a2,c1:=h.c1,c2:=h.c2,w1:=h.w1,rl:=h.rl,r1:=h.r1,le:=h.le,lt:=fun b hb=>aO (h.lt b hb) c.size
  cd:=h.cd.same (hb _ h.cd.fj (by grind [dX.c1])) (hb _ h.cd.fp (by grind [dX.c2]))
  wd:=(by grind [dX.wd,dX.w1])
  rt:=(by grind [dX.rt,dX.r1])}
theorem zd (h:(es a).J F s w)(i:Nat)(x:Int):(es a).J F {s with rs:=s.rs.set i x} (w.setCell ⟨a.nb,i,Y⟩ (M7 M4 x))/\ch F w F (w.setCell ⟨a.nb,i,Y⟩ (M7 M4 x)):=by
 obtain⟨own,cU,h,c⟩:=h;have fr:Fr (fun b=>b=a.nb) w (w.setCell ⟨a.nb,i,Y⟩ (M7 M4 x)):=(by grind [Fr.set,Fr.refl])
 refine⟨⟨own,cU,?_,c⟩,⟨(by grind [Fr.mono,dX.r1]),fun _ h=>aM h⟩⟩
 have hb:∀b,b<I (G w)->own b≠4->_=_:=fun b hb hn=>fr.block b hb (fun e=>hn (by rw[e];exact h.r1))
 exact {
  a1:=h.a1,a2:=h.a2,c1:=h.c1,c2:=h.c2,w1:=h.w1,r1:=h.r1,le:=h.le,lt:=fun b hb=>aO (h.lt b hb) fr.size
  rl:=by grind [dX.rl]
  ar:=h.ar.same (hb _ h.ar.fj (by grind [dX.a1])) (hb _ h.ar.fp (by grind [dX.a2]))
  cd:=h.cd.same (hb _ h.cd.fj (by grind [dX.c1])) (hb _ h.cd.fp (by grind [dX.c2]))
  wd:=(by grind [dX.wd,dX.w1])
  rt:=by simp only [World.setCell,Array.getElem?_modify,if_true,h.rt,Option.map_some];simp[List.map_set]}
theorem ze (h:(es a).J F s w):∃cU,Cd w a.pc cU a.N (dO a.O) s.M/\∀w' c M,Cd w' a.pc c a.N (dO a.O) M->dj a.pc cU w w'->(c=cU\/I (G w)<=c)->∃g,(es a).J g {s with M:=M} w'/\ch F w g w':=by
 obtain⟨own,cU,h,i⟩:=h;refine⟨cU,h.cd,fun w' c M hc d hp=>⟨fun b=>F b\/b=c,⟨fun b=>if b=c then 2 else own b,c,?_,fun b=>?_⟩,⟨⟨d.os,d.tape,d.output,d.size,fun b hb hn=>(by grind [dj.block,dX.c1,dX.c2])⟩,fun b hb=>(by grind [dX.c2])⟩⟩⟩
 ·have hb:∀b,b<I (G w)->own b≠2->_=_:=fun b hb hn=>d.block b hb (fun e=>hn (by rw[e];exact h.c1)) (fun e=>hn (by rw[e];exact h.c2))
  have f:∀b j,own b=j->j≠0->j≠2->(if b=c then 2 else own b)=j:=fun b j e h0 k=>by grind [dX.c2,dX.lt]
  exact {
   cd:=hc,a1:=f _ _ h.a1 ae ae,a2:=f _ _ h.a2 ae ae,w1:=f _ _ h.w1 ae ae,r1:=f _ _ h.r1 ae ae,c2:=by grind,c1:=by grind [dX.c1]
   rl:=h.rl
   ar:=h.ar.same (hb _ h.ar.fj (by grind [dX.a1])) (hb _ h.ar.fp (by grind [dX.a2]))
   wd:=(by grind [dX.wd,dX.w1])
   rt:=(by grind [dX.rt,dX.r1])
   le:=fun b=>by
    split
    ·decide
    ·exact h.le b
   lt:=fun b hb=>by
    by_cases e:b=c
    ·rw[e];exact hc.fp
    grind [dX.lt,dj.size,aO]}
 grind
theorem kt (h:(es a).J F s w):V w (av a.pw 0)=Z (aq a.p)/\V w (av a.pw 1)=Z (aq a.pc)/\V w (av a.pw 2)=Z (aq a.sd)/\V w (av a.pw 3)=Z (M0 (au a.nb) 12 12)/\a.pw<I (G w)/\L s.rs=12/\a.nb<I (G w)/\∀i,i<12->V w (av a.nb i)=Z (ak (X s.rs i 0))/\w.frozen? (av a.nb i)=Nb:=by
 obtain⟨own,cU,h,c⟩:=h;have b:=h.wd;have hl:=h.rl;refine⟨by simp[World.cell?,b],by simp[World.cell?,b],by simp[World.cell?,b],by simp[World.cell?,b],lt_of_some b,hl,lt_of_some h.rt,fun i hi=>⟨?_,?_⟩⟩
 ·simp[World.cell?,h.rt,List.getElem?_map,List.getElem?_eq_getElem (show i<L s.rs by omega),List.getD_eq_getElem?_getD]
 ·simp[World.frozen?,h.rt]
end
abbrev FE (a:Wc):Obj:=R #[aq a.p,aq a.pc,aq a.sd,M0 (au a.nb) 12 12] 55 (0,0)
def re (pk cu bx:Nat)(nx:Int)(a:Wc)(y g:Nat)(ws:List Int):dC (List Int) where
 J F U w:=(w.heap[pk]?=Z (R #[aq a.pw,.map (Z cu),ak nx,M0 Y 0 0,M0 Y 0 0] 167 (0,0))/\Mp w cu U (fun _=>-1)/\At w a.p a.q a.N a.O y g ws/\w.heap[a.pw]?=Z (FE a)/\w.heap[bx]?=Z (R #[aq pk] 164 (0,0)))/\(cu≠pk/\cu≠a.pw/\cu≠a.p/\cu≠a.q/\cu≠bx)/\∀b,F b↔(b=pk\/b=cu\/b=a.pw\/b=a.p\/b=a.q\/b=bx)
 lt:=by
  rintro F U w ⟨⟨e,f,d,i,j⟩,_,c⟩ b hb;rcases(c b).1 hb with rfl|rfl|rfl|rfl|rfl|rfl
  ·exact lt_of_some e
  ·exact f.lt
  ·exact lt_of_some i
  ·exact d.fj
  ·exact d.fp
  ·exact lt_of_some j
 keep:=by rintro F U w w' ⟨⟨e,f,d,i,j⟩,hn,c⟩ hs hk;exact⟨⟨(hk _ ((c _).2 (aM rfl))).trans e,f.same (hk _ ((c _).2 (aK (aM rfl)))),d.same (hk _ ((c _).2 (aK (aK (aK (aM rfl)))))) (hk _ ((c _).2 (aK (aK (aK (aK (aM rfl))))))),(hk _ ((c _).2 (aK (aK (aM rfl))))).trans i,(hk _ ((c _).2 (aK (aK (aK (aK (aK rfl))))))).trans j⟩,hn,c⟩
theorem FF:dV 181:=gM func181 ah rfl
theorem FG {pk cu bx:Nat}{nx:Int}{a:Wc}{y g:Nat}{ws:List Int}{F:Nat->Prop}{c:List Int}{w:az}(h:(re pk cu bx nx a y g ws).J F c w)(v:Int)(v0:0<=v)(v1:v<=100000)(s:L c<=100000):
 Calls O 181 #[ak v,aq bx] w fun e w'=>∃d,e=M6 (a8 #[])/\(re pk cu bx nx a y g ws).J d (c++[v]) w'/\ch F w d w':=by
 obtain⟨⟨f,⟨D,o1,k,l⟩,m,n,i⟩,hn,o⟩:=h;have c1:V w (av pk 1)=Z (.map (Z cu)):=aD f
 have t:V w (av bx 0)=Z (aq pk):=aD i
 go_wp2_with (first
  |(refine wpList_mapUpdate_own _ rfl _ _ _ 127 rfl 3 3 jg underlying127 _ cu (L c) D rfl o1 (by unfold maxLen;omega) _ _ _ rfl rfl (jL (a:=v) v0 aa) _ [] (nG (-1) ae) ?_;intro u p j)
  |go_in)
 go_end0;have hb:∀b,b<I (G w)->b≠cu->_=_:=fun b hb q=>j.block b hb (by simpa using q)
 refine⟨rfl,F,⟨⟨(hb _ (by grind) aa).trans f,Mp.add (by assumption) k l rfl rfl p,m.same (by grind [At.fj]) (by grind [At.fp]),(hb _ (by grind) aa).trans n,(hb _ (by grind) aa).trans i⟩,hn,o⟩,⟨((Fr.refl _ w).grown j (by grind)),fun _ h=>aM h⟩⟩
def nJ (N y g:Nat)(ws:List Int):List Int:=(eN N y g ws).filter (fun a=>decide (a+pf (ld N y g ws a)<y))
theorem zf (h:Int->Int)(e:Int):∀(l b:List Int),kO (fun _ a=>h a) (fun b a=>b++[a]) e b l=b++l.filter (fun a=>decide (a+h a<e))
 |[],b=>by simp[kO]
 |a::l,b=>by
  have c:=zf h e l;have d:kO (fun _ a=>h a) (fun b a=>b++[a]) e b (a::l)=kO (fun _ a=>h a) (fun b a=>b++[a]) e (ks (fun _ a=>h a) (fun b a=>b++[a]) e b a) l:=rfl
  grind [ks]
theorem FH {a:Wc}{F:Nat->Prop}{s:eE}{w:az}(h:(es a).J F s w):
 Calls prog 106 #[aq a.pw] w fun e w'=>∃pk cu cU g,e=M6 (aq pk)/\(eC ⟨pk,cu,a.pw,a.p,a.q,a.pc,cU,a.sd,a.nb,dO a.O,s.M⟩ ⟨a.N,a.O,s.y,nJ a.N s.y s.g s.ws⟩).J g ⟨s.g,s.ws,fun _=>-1,(a.N:Int)+s.g,[],[],s.rs⟩ w'/\ch F w g w':=by
 have b5:=@run_makeMap prog;obtain⟨own,cU,hM,ab⟩:=h;have am:aA (dX a own s cU w/\∀b,F b↔own b≠0):=⟨hM,ab⟩
 have c0:V w (av a.pw 0)=Z (aq a.p):=by have an:=hM.wd;simp[World.cell?,an]
 have ao:=lt_of_some hM.wd;have f:=hM.ar;have n1:=f.hN';have b6:=f.hO;have bg:=f.hg;have n4:=f.hy;have ca:=f.hN;clear hM ab;go_enter func106,ntmps106;go_wp2_with fail;refine(lq w f).mono ?_;rintro e w1 ⟨rfl,n⟩
 have c1:=(n.cell (p:=av a.pw 0) ao).trans c0;have ap:=f.below n aa;go_wp2_with fail;refine(ny w1 ap).mono ?_;rintro e c ⟨rfl,aB⟩
 have o:=n.trans (aB.mono n.size)
 have c2:=(o.cell (p:=av a.pw 0) ao).trans c0;have aF:=f.below o aa;have cc:=o.size;have l2:a.pw<I (G c):=aa;clear n aB ap c1;have q:C (I (G c)) c (bj (bj (bj c (.map #[] 0)) (R #[bJ (Z ⟨a.pw,0,Y⟩),.map (Z (I (G c))),M7 M4 ((a.N:Int)+s.g),M0 Y 0 0,M0 Y 0 0] 167)) (R #[bJ (Z ⟨I (G c)+1,0,Y⟩)] 164)):=(((aH _ c).alloc aa _).alloc ac _).alloc (by simp;omega) _;have N:=aF.below q aa;have c3:=(q.cell (p:=av a.pw 0) l2).trans c2;have P:=qO _ N;obtain⟨W,k⟩:∃W,W=bj (bj (bj c (.map #[] 0)) (R #[bJ (Z ⟨a.pw,0,Y⟩),.map (Z (I (G c))),M7 M4 ((a.N:Int)+s.g),M0 Y 0 0,M0 Y 0 0] 167)) (R #[bJ (Z ⟨I (G c)+1,0,Y⟩)] 164):=(by grind)
 have aR:aA (I (G W)=I (G c)+3/\C (I (G c)) c W/\Mp W (I (G c)) [] (fun _=>-1)/\W.heap[I (G c)+1]?=Z (R #[aq a.pw,.map (Z (I (G c))),ak ((a.N:Int)+s.g),M0 Y 0 0,M0 Y 0 0] 167 (0,0))/\W.heap[I (G c)+2]?=Z (R #[aq (I (G c)+1)] 164 (0,0))/\At W a.p a.q a.N a.O s.y s.g s.ws):=by
  rw[<-k] at q N;refine⟨by simp_all,q,?_,?_,?_,N⟩
  ·have bi:=World.ownsMap_made c prog 3 (plainElem (H:=Unit) prog 3)
   refine Mp.same (w:=bj c (.map #[] 0)) ⟨_,bi,fun _=>rfl,fun a ha=>by grind⟩ ?_
   grind [aS,World.size_alloc]
  ·rw[k,aS _ _ _ ac];simpa using aP (bj c (.map #[] 0)) (R #[bJ (Z ⟨a.pw,0,Y⟩),.map (Z (I (G c))),M7 M4 ((a.N:Int)+s.g),M0 Y 0 0,M0 Y 0 0] 167)
  ·rw[k];simpa using aP (bj (bj c (.map #[] 0)) (R #[bJ (Z ⟨a.pw,0,Y⟩),.map (Z (I (G c))),M7 M4 ((a.N:Int)+s.g),M0 Y 0 0,M0 Y 0 0] 167)) (R #[bJ (Z ⟨I (G c)+1,0,Y⟩)] 164)
 have aV:=hide k;rw[<-k] at P;clear q N k;go_wp2_with fail;rw[<-aV.o];refine P.mono ?_;clear P;rintro e l ⟨v1,v2,rfl,u,a0,d⟩
 obtain⟨bl,bn,rfl⟩:=eZ u;obtain⟨ce,cf,rfl⟩:=eZ a0;obtain⟨bo,v,a3,a4,ad,ba⟩:=aR.o;have cg:=d.size;have ci:V l (av (I (G c)+1+1) 0)=Z (aq (I (G c)+1)):=by have:=(d.block (I (G c)+2) aa).trans ad;simp[World.cell?,this]
 have cj:I (G c)+1+1<I (G l):=aa;have ck:L (eN a.N s.y s.g s.ws)<=2000:=je _ _;have bb:∀x∈eN a.N s.y s.g s.ws,0<=x/\x<=2000:=fun x bp=>by have:=oG x bp;omega
 have ag:=am.o.1.ar;have np:=ag.fj;have nq:=ag.fp;have bd:(re (I (G c)+1) (I (G c)) (I (G c)+2) ((a.N:Int)+s.g) a s.y s.g s.ws).J (fun b=>b=I (G c)+1\/b=I (G c)\/b=a.pw\/b=a.p\/b=a.q\/b=I (G c)+2) [] l:=
  ⟨⟨(d.block _ aa).trans a4,a3.same (d.block _ aa),ba.below d aa,((d.block _ aa).trans (v.block _ l2)).trans (by grind [dX.wd,Below.block,Hid.out]),(d.block _ aa).trans ad⟩,⟨aa,aa,aa,aa,aa⟩,fun b=>iy⟩
 have E:=zc (re (I (G c)+1) (I (G c)) (I (G c)+2) ((a.N:Int)+s.g) a s.y s.g s.ws) (fun _ x=>pf (ld a.N s.y s.g s.ws x)) (fun ai x=>ai++[x]) (fun j ai=>L ai<=j) (I (G c)+1) a.pw a.p 181 #[aq (I (G c)+1+1)] FF (eN a.N s.y s.g s.ws) bl bn s.y _ [] l
  (by
    rintro F t be x ⟨⟨g1,g2,g3,g4,g5⟩,_⟩
    refine⟨by simp[World.cell?,g1],by simp[World.cell?,g4],(gO x be g3).mono ?_⟩
    grind)
  (fun t x=>dv _) (by grind) aa
  (by
    rintro j F t be br B bs _;have hm:(eN a.N s.y s.g s.ws).getD j 0∈eN a.N s.y s.g s.ws:=by grind
    have hb:=bb _ hm;have B:=B;exact FG bs _ hb.1 aa aa)
  (by
    intro j t br B;have B:=B;show L (ks _ _ _ _ _:List Int)<=j+1;unfold ks
    grind)
  ac bd (hZ u)
  (fun hp z e=>by
    obtain⟨b,cap,bt⟩:=eW u hp;cases bt;cases e;have an:=(cv u b rfl).1
    grind)
 rw[zf (fun x=>pf (ld a.N s.y s.g s.ws x)) s.y (eN a.N s.y s.g s.ws) [],List.nil_append] at E;have bx:aA (∀b,b<I (G c)->l.heap[b]?=c.heap[b]?):=fun b hb=>(by grind [Below.block])
 have i:=ja o (d.os.trans v.os) (d.tape.trans v.tape) (d.output.trans v.output)
 clear bd u a0 bo v a3 a4 ad ba aR aV d bb ag f aF o c0 c2;go_wp2_with fail;refine E.mono ?_;clear E;rintro e S ⟨cl,rfl,⟨⟨g1,g2,g3,g4,g5⟩,b0,b1⟩,al,_⟩
 have cm:V S (av (I (G c)+1+1) 0)=Z (aq (I (G c)+1)):=aD g5
 have cn:=lt_of_some g5;have b2:aA (∃g,(eC ⟨I (G c)+1,I (G c),a.pw,a.p,a.q,a.pc,cU,a.sd,a.nb,dO a.O,s.M⟩ ⟨a.N,a.O,s.y,nJ a.N s.y s.g s.ws⟩).J g ⟨s.g,s.ws,fun _=>-1,(a.N:Int)+s.g,[],[],s.rs⟩ S/\ch F w g S):=by
  obtain⟨hM,ab⟩:=am.o;have keep:∀b,b<I (G w)->own b≠1->own b≠3->S.heap[b]?=w.heap[b]?:=fun b hb n1 bg=>
   (al.fr.block b aa (by grind [dX.w1,dX.a1,dX.a2])).trans (by grind [Hid.out,Below.block])
  have co:=hM.lt;have lo:∀b,own b≠0->b≠I (G c)+1/\b≠I (G c):=fun b hb=>by grind
  have m:∀b j,own b=j->j≠0->(if b=I (G c)+1 then 5 else if b=I (G c) then 6 else own b)=j:=fun b j e h0=>by grind
  refine⟨fun b=>F b\/b=I (G c)+1\/b=I (G c),⟨M0 Y 0 0,M0 Y 0 0,fun b=>if b=I (G c)+1 then 5 else if b=I (G c) then 6 else own b,?_,fun b=>?_⟩,⟨?_,fun b hb=>?_⟩⟩
  ·exact {
    ar:=g3,a1:=m _ _ hM.a1 ae,a2:=m _ _ hM.a2 ae,c1:=m _ _ hM.c1 ae,c2:=m _ _ hM.c2 ae,w1:=m _ _ hM.w1 ae,r1:=m _ _ hM.r1 ae,rl:=hM.rl
    cd:=hM.cd.same (by grind [dX.c1]) (by grind [dX.c2])
    wd:=g4
    rt:=(by grind [dX.rt,dX.r1])
    cb:=g1
    k1:=by grind
    mp:=g2
    m1:=by grind
    wr:=bf _ _ _ _
    dF:=fun b e=>by simp[Value.ownBlock] at e
    er:=bf _ _ _ _
    eo:=fun b e=>by simp[Value.ownBlock] at e
    lt:=fun b hb=>by grind}
  ·grind
  ·have b3:C (I (G w)) w l:=⟨i.o.2.1.trans i.o.1.os,i.o.2.2.1.trans i.o.1.tape,i.o.2.2.2.trans i.o.1.output,aa,fun b hb=>(by grind [Hid.out,Below.block])⟩
   refine(Fr.of (X:=F) b3).trans al.fr (fun b cp=>?_)
   grind [dX.w1,dX.a1,dX.a2]
  grind
 clear g1 g2 g3 g4 g5 b0 b1 al bx i;go_wp2_with fail;go_ret;obtain⟨g,b4,j2⟩:=b2.o;exact⟨_,_,_,g,rfl,b4,j2⟩
section
variable {iq:Type}{o:dC iq}{bx p:Nat}{x:Obj}{vr:bD}{F:Nat->Prop}{w w':az}
theorem rf {t:iq×List cf}(h:(di (dp o bx x) p vr).J F t w):(di o p vr).J (fun b=>F b/\b≠bx) t w/\w.heap[bx]?=Z x/\F bx:=by obtain⟨m,ad,cap,⟨d,g1,g2,g3,g4⟩,f,g,i,j,k,n,q⟩:=h;have l:=(g4 bx).2 aa;exact⟨⟨d,ad,cap,g1,f,g,fun b hb=>(by grind),⟨j,fun e=>k (by simp_all)⟩,fun c=>(by grind),fun b e=>(by grind),fun b hb=>(by grind)⟩,g2,i _ l⟩
theorem jB {t:iq×List cf}(h:(di o p vr).J F t w):∃d,o.J d t.1 w/\∀{l:Type}(o':dC l) c f w',o'.J c f w'->ch d w c w'->∃g,(di o' p vr).J g (f,t.2) w'/\ch F w g w':=by
 obtain⟨d,ad,cap,m,i,n,q,s,u,v,x⟩:=h;refine⟨d,m,fun o' c f w' j b=>?_⟩
 have lp:=lt_of_some i;refine⟨fun k=>F k\/c k,⟨c,ad,cap,j,(b.fr.block p lp u).trans i,cM n (fun k e=>b.fr.block k (by grind) (by grind)),fun k h=>aK h,aM s,fun h=>(by grind [ch.sub]),fun k e=>⟨aM (v k e).1,fun h=>(b.sub k h).elim (by grind) (by grind)⟩,fun k h=>?_⟩,b.fr.mono q,fun k h=>?_⟩
 ·rcases h with h|h
  ·exact aO (by grind) b.fr.size
  ·exact o'.lt j k h
 ·rcases h with h|h
  ·grind
  ·exact(b.sub k h).imp (by grind) id
end
def FI (b:Type):dC b where
 J _ _ _:=False
 lt:=fun h=>h.elim
 keep:=fun h=>h.elim
def dY (b:Type):f_ (b×List cf):=di (FI b) 0 (M0 Y 0 0)
def ck.fu (k:ck)(t:ct×List cf)(r:List cf):ct×List cf:=fQ (dY ct) (fun s x=>k.al s.1 x) k.ke t r
def ck.sR (k:ck)(t:ct×List cf)(r:List cf):List cf:=e9 (dY ct) (fun s x=>k.al s.1 x) k.ke (fun s x=>k.nw s.1 x) t r
def ck.jM (k:ck)(t:ct×List cf)(r:List cf):List cf:=e_ (dY ct) (fun s x=>k.al s.1 x) k.ke (fun s x=>k.nw s.1 x) t r
theorem pK {b:Type}(is:b->Int->Bool)(kp:b->Int->Int×b)(s:b×List cf):∀n,L (h7 is kp s n).1.2=L s.2
 |0=>rfl
 |n+1=>by
  have e:h7 is kp s (n+1)=dI is kp (h7 is kp s n) n:=by simp[h7,List.range_succ]
  rw[e];have c:=pK is kp s n
  grind [dI]
theorem pL (k:ck):∀(n:Nat)(t:ct×List cf),L (k.c_ n t).2=L t.2
 |0,_=>rfl
 |n+1,t=>by
  unfold ck.c_;split
  ·exact pL k n _
  ·split
   ·exact(pL k n _).trans (pK _ _ _ _)
   ·exact pK _ _ _ _
theorem ug (k:ck)(t:ct×List cf)(x:Int):L (k.ke t x).2.2=L t.2:=pL k _ _
section
variable {c:gZ}{k:ck}{F:Nat->Prop}{s:ct}{w:az}{vr:bD}
theorem FJ (bx:Nat){g:Option bG}{i j:Nat}(l:vr=M0 g i j):na (di (dp (ii c k) bx (jA c)) c.sd vr) (fun _=>True) (nI c).f (nI c).b (nI c).c k.ke:=by
 intro F t w x _ hn m;have hn:L (k.ke t x).2.2<=90000:=hn;obtain⟨n,f,s⟩:=rf m;rw[ug] at hn;refine(Fz l n hn x).mono ?_;rintro r w' ⟨o,rfl,hM,e⟩
 have p:=lt_of_some f;have q:_:=fun d=>(e.sub bx d).elim (fun d=>d.2 rfl) (fun d=>by omega)
 refine⟨fun b=>o b\/b=bx,rfl,kL hM ((e.fr.block bx p (fun d=>d.2 rfl)).trans f) q,e.fr.mono (by grind),fun b d=>?_⟩
 rcases d with d|d
 ·exact(e.sub b d).imp (fun d=>d.1) id
 ·simp_all
theorem FK (bx:Nat){e:Option bG}{f g:Nat}(i:vr=M0 e f g):mB (di (dp (ii c k) bx (jA c)) c.sd vr) (fun _=>True) (kM bx) (nI c) (l6 c) (fun s x=>k.al s.1 x) k.ke (fun s x=>k.nw s.1 x) where
 ea:=y3
 gV:=Ft
 en:=y4
 ha:=by
  rintro F s w x _ ⟨b,ad,cap,d,_⟩
  exact y6 bx b s.1 w x trivial d
 hk:=FJ bx i
 ht:=by
  rintro F s w x _ ⟨b,ad,cap,d,_⟩
  exact mL y7 b s.1 w x trivial d
 hl:=fun s x=>ug k s x
theorem FL {m:Option bG}{n:Nat}{r:List cf}(o:vr=M0 m (L r) n){t:ct×List cf}(h:(di (ii c k) c.sd vr).J F t w)(hr:w.ownsRow 0 103 2 vr (L r) (ev r))(hq:L t.2+L r<=90000)(bx:Nat)(p:w.heap[bx]?=Z (jA c))(hn:¬F bx):
 Calls O 78 #[aq c.sd,.agg #[(kM bx).v,(nI c).v,(l6 c).v]] w fun e w'=>∃a1 c1 i,e=M6 (a8 #[])/\(di (ii c k) c.sd (M0 a1 (L (k.sR t r)) c1)).J i ((k.fu t r).1,k.jM t r) w'/\
  w'.ownsRow 0 103 2 (M0 a1 (L (k.sR t r)) c1) (L (k.sR t r)) (ev (k.sR t r))/\(∀b,Z b=Nh (Value.slice a1 (L (k.sR t r)) c1)->¬i b/\I (G w)<=b)/\Fr (fun b=>F b\/b=bx) w w'/\(∀b,i b->F b\/I (G w)<=b):=by
 subst o;refine(qS _ (fun _=>True) (kM bx) (nI c) (l6 c) _ _ _ (FK bx rfl) r m n rfl aa (by grind) _ t w (by grind) hq (kL h p hn) (it hr)).mono ?_;rintro e w' ⟨a1,c1,a2,c2,q,W,rfl,⟨ab,ad,cap,⟨g,g1,g2,g3,g4⟩,ag,ai,al,am,s,an,ao⟩,q3,u,j,f,l,v,ap,x,ar,B⟩
 have j:w'.heap[c.sd]?=Z (R #[M0 a1 (L (k.sR t r)) c1,M0 a2 (L (k.jM t r)) c2] 153 (0,0)):=j;have f:=f;have l:=l;have aB:∀b,g b->q b:=fun b hb=>(by grind)
 have N:∀b,g b->b≠c.sd:=fun b hb e=>s (by simp_all)
 have S:=(ii c k).keep (w':=w') g1 u (fun b hb=>q3 b (by grind) (N b hb))
 have aF:F c.sd:=by obtain⟨_,_,_,_,_,_,_,aR,_⟩:=h;omega
 refine⟨a1,c1,fun b=>g b\/b=c.sd\/Z b=Nh (Value.slice a2 (L (k.jM t r)) c2),rfl,⟨g,a2,c2,S,j,fq l aa,fun b hb=>(by grind),aK (aM rfl),fun d=>(by grind),fun b e=>(by grind),fun b hb=>?_⟩,fq f aa,fun b e=>⟨fun d=>?_,(cv f b e).1⟩,v,fun b hb=>?_⟩
 ·grind [cv]
 ·rcases d with d|d|d
  ·exact x b e (by grind)
  ·obtain⟨aV,hc⟩:=fF f b e
   grind
  ·exact B b e d
 grind [cv]
end
theorem FM {pk cu cU y:Nat}{a:Wc}{M T:List Int}{F:Nat->Prop}{s:ct}{w:az}(h:(eC ⟨pk,cu,a.pw,a.p,a.q,a.pc,cU,a.sd,a.nb,dO a.O,M⟩ ⟨a.N,a.O,y,T⟩).J F s w):∃d,(es a).J d ⟨y,s.g,s.ws,M,s.rs⟩ w/\(∀b,d b->F b)/\¬d pk:=by
 obtain⟨cL,f,own,h,g⟩:=h;have c:∀b j,own b=j->j<=4->(if own b<=4 then own b else 0)=j:=fun b j e i=>by simp_all
 refine⟨fun b=>(if own b<=4 then own b else 0)≠0,⟨fun b=>if own b<=4 then own b else 0,cU,?_,fun b=>iy⟩,fun b hb=>(by grind),fun hb=>hb ?_⟩
 ·exact {
   ar:=h.ar,a1:=c _ _ h.a1 ae,a2:=c _ _ h.a2 ae,cd:=h.cd,c1:=c _ _ h.c1 ae,c2:=c _ _ h.c2 ae,wd:=h.wd,w1:=c _ _ h.w1 ae,rt:=h.rt,rl:=h.rl,r1:=c _ _ h.r1 ae
   le:=fun b=>by grind
   lt:=fun b hb=>h.lt b (by grind)}
 ·have:=h.k1
  grind
structure cw where
 s:eE
 r:List cf
 q:List cf
def gg (a:Wc):dC cw where
 J F S w:=∃d ar c,(di (es a) a.sd (M0 ar (L S.r) c)).J d (S.s,S.q) w/\w.ownsRow 0 103 2 (M0 ar (L S.r) c) (L S.r) (ev S.r)/\(∀b,Z b=Nh (Value.slice ar (L S.r) c)->¬d b)/\∀b,F b↔(d b\/Z b=Nh (Value.slice ar (L S.r) c))
 lt:=by
  rintro F S w ⟨d,ar,c,g,i,j,f⟩ b hb;rcases(f b).1 hb with hb|hb
  ·exact(di (es a) a.sd (M0 ar (L S.r) c)).lt g b hb
  ·exact(cv i b hb).2
 keep:=by rintro F S w w' ⟨d,ar,c,g,i,j,f⟩ hs hk;exact⟨d,ar,c,(di (es a) a.sd (M0 ar (L S.r) c)).keep g hs (fun b hb=>hk b ((f b).2 (aM hb))),cM i (fun b e=>hk b ((f b).2 (aK e))),j,f⟩
section
variable {N y g:Nat}{ws:List Int}{hi:Int}
theorem rh:∀(k:Nat)(a:Int),(eU N y g ws hi k a).Nodup
 |0,a=>by exact Cq
 |k+1,a=>by
  unfold eU;split
  ·split
   ·rw[List.nodup_cons];refine⟨fun h=>?_,rh k _⟩
    have b:=(nB k _ _ h).1;have c:=dv (ld N y g ws a)
    omega
   ·exact Cq
  ·exact Cq
theorem zi:∀(k:Nat)(a x:Int),x∈eU N y g ws hi k a->pc (ld N y g ws x)=0
 |0,a,x,h=>by simp[eU] at h
 |k+1,a,x,h=>by
  unfold eU at h;split at h
  ·split at h
   ·rcases List.mem_cons.1 h with h|h
    ·rw[h];assumption
    ·exact zi k _ x h
   ·simp at h
  ·simp at h
theorem zj:∀(k:Nat)(a:Int),(((eU N y g ws y k a).filter (fun a=>decide (a+pf (ld N y g ws a)<y))).map (fun a=>1+M (pf (ld N y g ws a)))).sum<=M ((y:Int)-a)
 |0,a=>by simp[eU]
 |k+1,a=>by
  unfold eU;split
  ·split
   ·have b:=zj k (a+(1+pf (ld N y g ws a)))
    have d:=dv (ld N y g ws a)
    by_cases c:a+pf (ld N y g ws a)<y
    ·rw[List.filter_cons_of_pos (by simpa using c)];simp only [List.map_cons,List.sum_cons];omega
    ·rw[List.filter_cons_of_neg (by simpa using c)];omega
   ·simp
  ·simp
end
def eE.k0 (a:Wc)(s:eE):ck:=⟨a.N,a.O,s.y,nJ a.N s.y s.g s.ws⟩
def eE.s0 (a:Wc)(s:eE):ct:=⟨s.g,s.ws,fun _=>-1,(a.N:Int)+s.g,[],[],s.rs⟩
theorem CI.start {a:Wc}{s:eE}(hN:16<=a.N)(hN':a.N<=256)(hO:a.O<=1024)(hy:s.y<=a.N)(hg:s.g<=a.O)(hl:L s.ws=a.N+a.O)(hr:s.y<=a.O-s.g):CI (s.k0 a) (s.s0 a):=by
 have d:∀x∈nJ a.N s.y s.g s.ws,x∈eN a.N s.y s.g s.ws/\x+pf (ld a.N s.y s.g s.ws x)<s.y:=fun x b=>by simpa[nJ] using b
 refine⟨hN,hN',hO,hy,hg,hl,fun x b=>?_,(rh 2000 0).filter _,?_,?_,?_,by simp[eE.s0],by simp[eE.s0],?_⟩
 ·obtain⟨c,i⟩:=d x b;exact⟨(oG x c).1,zi _ _ _ c,by show x+1+pf (ld a.N s.y s.g s.ws x)<=s.y;omega⟩
 ·have c:=zj (N:=a.N) (y:=s.y) (g:=s.g) (ws:=s.ws) 2000 0;have e:(s.k0 a).sz (s.s0 a)=(((eU a.N s.y s.g s.ws s.y 2000 0).filter (fun x=>decide (x+pf (ld a.N s.y s.g s.ws x)<s.y))).map (fun x=>1+M (pf (ld a.N s.y s.g s.ws x)))).sum:=by
   unfold ck.sz;have f:(s.k0 a).T.filter (fun x=>(s.s0 a).f x==-1)=(s.k0 a).T:=List.filter_eq_self.2 (fun _ _=>rfl)
   rw[f];rfl
  show _<=a.O-s.g;omega
 ·show(a.N:Int)<=(a.N:Int)+s.g;omega
 ·show(a.N:Int)+s.g<=(a.N:Int)+a.O+13;omega
 ·exact aU (bm _ _) (je _ _)
def eE.s1 (a:Wc)(s:eE):ct:=(s.k0 a).cP (s.s0 a) 12
def eE.s2 (a:Wc)(s:eE):ct:=(s.k0 a).lm (dO a.O) s.M (s.s1 a) (dM a.N s.y (s.s1 a).g (s.s1 a).ws)
def cw.t3 (a:Wc)(S:cw):ct×List cf:=(S.s.k0 a).sp (S.s.s2 a,S.q)
def cw.s4 (a:Wc)(S:cw):ct:=((S.s.k0 a).fu (S.t3 a) S.r).1
def cw.s5 (a:Wc)(S:cw):ct:=(S.s.k0 a).mw (S.s4 a) (S.s4 a).wk
def cw.s6 (a:Wc)(S:cw):ct:=(S.s.k0 a).be (S.s5 a) (S.s5 a).ep
def cw.full (a:Wc)(S:cw):Bool:=decide (a.O-S.s.g<S.s.y)
def cw.cut (a:Wc)(S:cw):cw:=if S.full a=Nc then S else⟨⟨0,(S.s6 a).g,(S.s6 a).ws,[],(S.s6 a).rs⟩,(S.s.k0 a).sR (S.t3 a) S.r,(S.s.k0 a).jM (S.t3 a) S.r⟩
def cw.code (a:Wc)(S:cw):Int:=if S.full a=Nc then 3 else 0
section
variable {c:gZ}{k:ck}{F:Nat->Prop}{s:ct}{w:az}
theorem FN (h:(eC c k).J F s w)(m:CI k s)(hl:L s.ep<=10000):
 Calls O 113 #[aq c.pk] w fun e w'=>e=M6 (a8 #[])/\(eC c k).J F (k.be s s.ep) w'/\ch F w F w':=by
 obtain⟨cL,be,h⟩:=h;obtain⟨c0,_,_,_,c4,c5,_,_,_,ap,_,er,_,lk,_⟩:=eD h;obtain⟨ad,cap,rfl⟩:=eZ er;have ar:=hide m;have aB:=hide m.iJ;have bg:(0:Int)<=k.N:=aa;clear m ap;go_enter func113,ntmps113;go_wp2_with fail
 go_loopw [9] (fun iv wr=>∃(j:Nat)(s1:ct),j<=L s.ep/\iv=ak j/\aA (k.be s (s.ep.take j)=s1)/\(cutV c k cL (M0 ad (L s.ep) cap)).J F s1 wr/\ch F w F wr/\aA (CI k s1/\ed k s s1)) (fun iv _=>L s.ep-M (bN iv))
 exact⟨0,s,a5 _,rfl,rfl,h,ch.refl _ _,⟨ar.o,ed.refl _ _⟩⟩
 ·
   obtain⟨j,s1,bi,rfl,n,d,o,p⟩:=hrel;obtain⟨bl,_,_,_,aF,bn,_,_,_,aR,_,q,_,bo,_⟩:=eD d;have aV:=p.o.2.ep;rw[aV] at q;by_cases g:j<L s.ep
   ·obtain⟨t,u,a0,bp,hc⟩:=hZ q aa;have a1:=hc j g;subst a0;have N:X s.ep j 0∈s.ep:=by rw[aL,aN g];exact a9 g
    have S:=aB.o _ N;have v:aA (k.be s (s.ep.take (j+1))=k.hI s1 (X s.ep j 0)):=by
     show _=_;rw[g9 s.ep j g 0];unfold ck.be;rw[lj];have:=n.o;unfold ck.be at this
     rw[this];rfl
    generalize X s.ep j 0=a at a1 S v;have W:aA (CI k (k.hI s1 a)/\ed k s (k.hI s1 a)):=by obtain⟨a2,a3⟩:=p.o.1.hI S.1;exact⟨a2,p.o.2.trans a3⟩
    have ab:aA (k.hI s1 a=k.st (k.st s1 (a+1) 3) (a+2) 3):=rfl;generalize k.hI s1 a=ag at v W ab;have a4:=c8 d o;have i:=(jh ((cutV c k cL (M0 (Z ⟨t,u,Y⟩) (L s.ep) cap)).below d (aH _ wr).drew))
    have f:aA (_):=i;have br:IntKind.i64.wrap (a+1)=a+1:=by rw[bA];omega
    have bs:IntKind.i64.wrap (a+2)=a+2:=by rw[bA];omega
    clear hc N d o i aR q aF;go_wp2_with fail
    go_region_held3 (fun w'=>V w' (av c.pk 0)=Z (aq c.pw)/\V w' (av c.pw 0)=Z (aq c.p)) (go_keep)
     (first
       |(go_at_call 191;refine(oj _).mono ?_;rintro e ba ⟨rfl,b⟩;have b:=b.symm;subst b)
       |(go_at_call 93;refine(lW (a+1) 3 wr.drew f.o.1).mono ?_;rintro e l ⟨rfl,x,B⟩;obtain⟨ai,bb⟩:=f.o.2 l _ _ x B;obtain⟨g0,_,_,_,_,g5,_⟩:=eD ai;have al:aA (_/\_):=⟨ai,(a4.o.2.below (aH _ wr).drew).trans bb⟩))
    have i:=(jh ((cutV c k cL (M0 (Z ⟨t,u,Y⟩) (L s.ep) cap)).below al.o.1 (aH _ l).drew))
    have f:aA (_):=i;go_wp2_with fail
    go_region_held3 (fun w'=>V w' (av c.pk 0)=Z (aq c.pw)/\V w' (av c.pw 0)=Z (aq c.p)) (go_keep)
     (first
       |(go_at_call 191;refine(oj _).mono ?_;rintro e ba ⟨rfl,b⟩;have b:=b.symm;subst b)
       |(go_at_call 93;refine(lW (a+2) 3 l.drew f.o.1).mono ?_;rintro e am ⟨rfl,x,B⟩;obtain⟨an,bd⟩:=f.o.2 am _ _ x B;obtain⟨r0,_,_,_,_,bt,_⟩:=eD an;have ao:aA ((cutV c k cL (M0 (Z ⟨t,u,Y⟩) (L s.ep) cap)).J F ag am/\_):=⟨(by rw[ab.o];exact an),(al.o.2.below (aH _ l).drew).trans bd⟩))
    go_wp2_with fail;go_roundw
    case rel=>exact⟨j+1,ag,aa,aj,v,ao.o.1,ao.o.2,W⟩
    case measure=>simp[bN];omega
   ·obtain rfl:j=L s.ep:=aa;rw[bk] at n;go_wp2_with fail;go_end0;rw[n.o];exact⟨rfl,⟨_,_,d⟩,o⟩
end
end Go.Proofs.YtpkjkjhanlbcoaaGreat
