import Derived.Test.YtpkjkjhanlbcoaaGreatJ14
namespace Go.Proofs.YtpkjkjhanlbcoaaGreat
set_option maxRecDepth 100000
set_option maxHeartbeats 4000000
open Tryz
open Go.RowKit W Kp cf
theorem ni {P:Prop}(h:P:=by go_wp2_with fail;go_ret;exact⟨F2,rfl,HF.o.1,HF.o.2⟩):P:=h
theorem zB {P:Prop}(h:P:=by
 go_enter func127,ntmps127;go_wp2_with fail;refine P.mono ?_;rintro e w1 ⟨rfl,hb⟩
 go_wp2;go_ret2;exact⟨rfl,hb⟩):P:=h
def jB (a:Wc)(W:cq):Prop:=∀e,(e∈W.r\/e∈W.q)->tB a.N W.s.y W.s.g W.s.ws e.1=true/\tB a.N W.s.y W.s.g W.s.ws e.2=true
section
variable {a:Wc}{S:cq}{Y G:List Int}
theorem i7 {N O y g:Nat}{ws Y G:List Int}(h:dU N y g ws Y G)(hN:N<=256)(hy:y<=N)(hO:O<=1024)(hg:g<=O){x:Int}:tB N y g ws x=true↔cY x=true/\(cg x∈Y\/cg x∈G):=by
 refine⟨yX h hN hy hO hg,fun⟨b,c⟩=>?_⟩
 obtain⟨d,e⟩:=h.lists hN hy hO hg;unfold tB;rw[b,d,e];rcases c with q|q
 ·rw[List.contains_iff_mem.2 q];rfl
 ·rw[List.contains_iff_mem.2 q,Bool.or_true];rfl
theorem qU (h:em a S.s Y G)(hb:cI a S.s){x:Int}:(S.s.j0 a).jt x=true↔tB a.N S.s.y S.s.g S.s.ws x=true:=by
 obtain⟨_,_,d⟩:=kQ h.inv.full hb;rw[i7 h.inv.full hb.n1 hb.y1 hb.o1 hb.g1];unfold b9.jt;rw[d,a_];constructor
 ·rintro⟨b,c⟩
  exact⟨b,(List.mem_append.1 (List.contains_iff_mem.1 c)).symm⟩
 ·rintro⟨b,c⟩
  exact⟨b,List.contains_iff_mem.2 (List.mem_append.2 c.symm)⟩
theorem jB.ok (h:jB a S)(hk:em a S.s Y G)(hb:cI a S.s):kR (S.s.j0 a) S.r/\kR (S.s.j0 a) S.q:=
 ⟨fun e he=>⟨(qU hk hb).2 (h e (aK he)).1,(qU hk hb).2 (h e (aK he)).2⟩,fun e he=>⟨(qU hk hb).2 (h e (aJ he)).1,(qU hk hb).2 (h e (aJ he)).2⟩⟩
theorem GN (u:cV (S.s.j0 a) gM)(hr:kR (S.s.j0 a) S.r)(hq:kR (S.s.j0 a) S.q):∀e∈((S.s.j0 a).eW (S.j2 a) S.r).2,(S.s.j0 a).jt e.1=true/\(S.s.j0 a).jt e.2=true:=by
 obtain⟨v,_,_⟩:=(cZ.start u).cJ 12;obtain⟨w,_,i⟩:=cZ.sp (t:=((S.s.j0 a).cJ gM 12,S.q)) v;have i:(S.j2 a).2=S.q:=i;have key:∀(n:Nat)(t:cu×List b7)(f:List b7),fO (S.s.j0 a) t.1 t.2->kR (S.s.j0 a) t.2->kR (S.s.j0 a) f->kR (S.s.j0 a) (eB (S.s.j0 a).fG n t f).1.2:=fun n=>by
  have pl:∀(l:List b7)(d:List b7×List b7×(cu×List b7)),fO (S.s.j0 a) d.2.2.1 d.2.2.2->kR (S.s.j0 a) d.2.2.2->kR (S.s.j0 a) l->kR (S.s.j0 a) (l.foldl (ej (S.s.j0 a).fG) d).2.2.2:=fun l=>by
   induction l with
   |nil=>intro d _ g _;exact g
   |cons e l j=>
    intro d m g hl;have o:(ej (S.s.j0 a).fG d e).2.2=((S.s.j0 a).fG d.2.2 e).2:=by unfold ej;split<;>rfl
    refine j _ (by rw[o];exact(m.cm e).1) ?_ (fun b hb=>hl b (aN _ hb))
    rw[o];cases c:(S.s.j0 a).al d.2.2.1 e.1
    ·have k:(S.s.j0 a).fG d.2.2 e=(false,d.2.2):=mV c;rw[k];exact g
    ·obtain⟨_,_,x,_⟩:=m.jR.ke e.2;have k:(S.s.j0 a).fG d.2.2 e=(true,(((S.s.j0 a).ke d.2.2 e.2).2.1,d.2.2.2++[e])):=by refine(mW (s:=d.2.2) c).trans ?_;show(true,(((S.s.j0 a).ke d.2.2 e.2).2.1,((S.s.j0 a).ke d.2.2 e.2).2.2++[(e.1,e.2)]))=_;rw[x]
     rw[k];intro b hb;rcases List.mem_append.1 hb with hb|hb
     ·exact g b hb
     ·rw[List.mem_singleton.1 hb];exact hl e Z
  induction n with
  |zero=>intro t f _ ht _;exact ht
  |succ n j=>
   intro t f p ht hd;have q:=pl f ([],[],t) p ht hd;by_cases c:(pts (S.s.j0 a).fG t f).1.length=0
   ·rw[lS _ _ _ _ c];exact q
   ·rw[lU _ _ _ _ c];exact j _ _ (fO.pl f ([],[],t) p).1 q (fun e he=>hd e (sF _ t f e (aJ he)))
 exact key _ (S.j2 a) _ w (by rw[i];exact hq) (fun e he=>hr e (List.mem_filter.1 he).1)
theorem jB.dz (h:jB a S)(hk:em a S.s Y G)(hb:cI a S.s):jB a (S.dz a):=by
 cases hf:S.fN a
 ·have n:=cV.start hb.n1 hb.o1 hb.y1 hb.g1;obtain⟨hr,hq⟩:=h.ok hk hb;obtain⟨o,D,_⟩:=oh n;obtain⟨_,_,w⟩:=kQ hk.inv.full hb;obtain⟨_,g,p⟩:=me hk hb hf;obtain⟨E,B1⟩:=g.gc.inv hk hb g.al;have hN:=hb.n1;have hO:=hb.o1;have K:=g.gc.g;have bnd:∀c∈G++Y,(S.cE a).f c≠-1->0<=(S.cE a).f c/\(S.cE a).f c<1000000:=fun c hc F=>by
   have q1:=g.gc.bd c hc F;have b:=dj (ld a.N S.s.y S.s.g S.s.ws c)
   omega
  have H:∀x,(S.s.j0 a).jt x=true->(S.s.j0 a).al (S.cA a) x=true->(S.cE a).f (cg x)≠-1:=fun x d ha q=>by
   have hm:=og d;rw[w] at hm;unfold b9.al at ha;have b:(S.s.j0 a).cS (S.cA a) x=false:=by simpa using ha
   exact(b9.po d).1 b ((g.iff _ hm).1 q)
  have key:∀x,(S.s.j0 a).jt x=true->(S.s.j0 a).al (S.cA a) x=true->tB a.N (S.dz a).s.y (S.dz a).s.g (S.dz a).s.ws ((S.s.j0 a).nw (S.cE a) x)=true:=fun x d ha=>by
   have hm:=og d;rw[w] at hm;have s:=H x d ha;obtain⟨_,b,q3⟩:=GM d s (bnd _ hm s)
   refine(i7 E.inv.full B1.n1 B1.y1 B1.o1 B1.g1).2 ⟨b,aJ ?_⟩
   rw[q3];exact ud.2 ⟨_,hm,s,rfl⟩
  obtain⟨_,j,t3,_⟩:=pu ⟨hb.l1,hb.y1,hb.g1⟩ hb.r1 n.nd (oq hk.inv.full hb) (pA hk.inv.full hb)
  have j:=j;have t3:=t3;intro e he;rcases he with he|he
  ·have t:(S.dz a).r=(S.k5 a).tR (S.cE a,S.q3 a) (S.r3 a):=by unfold cq.dz;rw[hf,aG Z]
   rw[t] at he;have he:e∈(((S.r3 a).filter (fun e=>(S.k5 a).al (S.cE a) e.2)).filter (fun e=>(S.k5 a).al ((S.k5 a).tS (S.cE a,S.q3 a) (S.r3 a)).1 e.1)).map fun e=>((S.k5 a).nw ((S.k5 a).tS (S.cE a,S.q3 a) (S.r3 a)).1 e.1,(S.k5 a).nw ((S.k5 a).tS (S.cE a,S.q3 a) (S.r3 a)).1 e.2):=he;have p:((S.k5 a).tS (S.cE a,S.q3 a) (S.r3 a)).1=S.cE a:=p;rw[p] at he;obtain⟨f,u,v⟩:=List.mem_map.1 he;have i:=(List.mem_filter.1 (List.mem_filter.1 u).1).1;have i:f∈((S.r.filter (fun e=>(S.s.j0 a).al (S.j2 a).1 e.2)).filter (fun e=>(S.s.j0 a).al (S.cA a) e.1)).map fun e=>((S.s.j0 a).nw (S.cA a) e.1,(S.s.j0 a).nw (S.cA a) e.2):=i;obtain⟨I,l,m⟩:=List.mem_map.1 i;obtain⟨J,A⟩:=List.mem_filter.1 l;obtain⟨B,C⟩:=List.mem_filter.1 J;rw[o.jR.nw,o.jR.nw] at m;have m:I=f:=m;rw[m] at A B C;obtain⟨q1,b⟩:=hr f B;rw[<-v,b9.kn (k:=S.k5 a) _ _ j t3,b9.kn (k:=S.k5 a) _ _ j t3];exact⟨key _ q1 A,key _ b (yP D C)⟩
  ·rw[zA hk hb hf] at he;obtain⟨f,u,v⟩:=List.mem_map.1 he;obtain⟨i,l⟩:=List.mem_filter.1 u;obtain⟨q1,b⟩:=GN n hr hq f i;rw[<-v];refine⟨key _ q1 l,key _ b ?_⟩
   rcases o.wq f i with q|q
   ·exact q
   ·rw[l] at q;cases q
 ·have t:S.dz a=S:=by unfold cq.dz;rw[aI hf]
  rw[t];exact h
theorem jB.more {W:cq}{b:eb}{d f:List Int}(h:jB a W)(hk:em a W.s Y G)(hb:cI a W.s)(g:dU a.N b.y b.g b.ws d f)(hy:b.y<=a.N)(hg:b.g<=a.O)(hs:∀v,(v∈Y\/v∈G)->(v∈d\/v∈f)):jB a ⟨b,W.r,W.q⟩:=fun e he=>by
 have key:∀x,tB a.N W.s.y W.s.g W.s.ws x=true->tB a.N b.y b.g b.ws x=true:=fun x i=>by obtain⟨q1,c⟩:=(i7 hk.inv.full hb.n1 hb.y1 hb.o1 hb.g1).1 i;exact(i7 g hb.n1 hy hb.o1 hg).2 ⟨q1,hs _ c⟩
 obtain⟨q1,c⟩:=h e he;exact⟨key _ q1,key _ c⟩
end
def jW (k:ce)(z:C0)(x:Int):Prop:=cY x=true/\(cg x∈k.T\/cg x∈z.G)
def gW (k:ce)(z:C0)(s:cj)(q:List b7):Prop:=∀e∈q,jW k z e.1/\∃b,jW k z b/\k.ml s b e.2
def uf (k:ce)(s:cj)(q:List b7):Prop:=∀e∈q,k.al s e.2=true\/k.al s e.1=false
section
variable {k:ce}{z:C0}{s t u:cj}{D H:List Int}{q:List b7}
theorem gW.iX (h:gW k z s q)(p:dh k s t):gW k z t q:=fun e he=>by obtain⟨b,c,d,f⟩:=h e he;exact⟨b,c,d,p.ml f⟩
theorem pC (p:dh k s t){x:Int}(h:k.al s x=true):k.al t x=true:=by
 unfold ce.al ce.ls at h⊢;cases c:k.cK x
 ·rfl
 ·rw[c] at h;have b:s.f (cg x)≠-1:=by intro e;rw[e] at h;simp at h
  rw[p.f _ b];simpa using b
theorem qV {x:Int}(h:k.cK x=false):k.al s x=true:=by unfold ce.al ce.ls;rw[h];rfl
theorem gW.kO:∀(l:List Nat)(t:(cj×List b7)×Bool)(H:List Int),LI k z t.1.1 H D->dL k z t.1.1 H->(∀i∈l,i<t.1.2.length)->gW k z t.1.1 t.1.2->gW k z (l.foldl (dC k.al k.br) t).1.1 (l.foldl (dC k.al k.br) t).1.2
 |[],_,_,_,_,_,e=>e
 |i::l,t,H,h,w,hl,e=>by
  rw[a8];by_cases c:(k.al t.1.1 (t.1.2.getD i (0,0)).2||!k.al t.1.1 (t.1.2.getD i (0,0)).1)=true
  ·have b:dC k.al k.br t i=t:=by unfold dC;rw[aI c]
   rw[b];exact gW.kO l t H h w (fun j d=>hl j (aN _ d)) e
  ·have b:dC k.al k.br t i=(((k.br t.1.1 (t.1.2.getD i (0,0)).2).2,t.1.2.set i ((t.1.2.getD i (0,0)).1,(k.br t.1.1 (t.1.2.getD i (0,0)).2).1)),true):=by unfold dC;rw[aG c]
   have hi:=hl i Z;have hm:t.1.2.getD i (0,0)∈t.1.2:=by exact tX
   obtain⟨g,l1,w1,m,_⟩:=cX.br _ H h w;obtain⟨_,_,_,_,_,m1,_⟩:=h.mi.br _;rw[b];refine gW.kO l _ g l1 w1 (fun j d=>?_) ?_
   ·show j<(t.1.2.set i _).length;rw[a3];exact hl j (aN _ d)
   ·intro n hd;have hd:=hd;rcases List.mem_or_eq_of_mem_set hd with hd|rfl
    ·exact e.iX m n hd
    ·obtain⟨g1,f,g2,g3⟩:=e _ hm;exact⟨g1,f,g2,m1 f g3⟩
theorem gW.wa {t:cj×List b7}(h:LI k z t.1 H D)(w:dL k z t.1 H)(e:gW k z t.1 t.2):gW k z (k.wa t).1.1 (k.wa t).1.2:=
 gW.kO _ (t,false) H h w (fun _ hi=>List.mem_range.1 hi) e
theorem gW.cW:∀(n:Nat)(t:cj×List b7)(H:List Int),LI k z t.1 H D->dL k z t.1 H->gW k z t.1 t.2->gW k z (k.cW n t).1 (k.cW n t).2
 |0,_,_,_,_,e=>e
 |n+1,t,H,h,w,e=>by
  obtain⟨g,l1,w1,i,_⟩:=cX.lb (k.O+1) H h w;obtain⟨c,l2,b,j,_⟩:=cX.kv g l1 w1;have d:=e.iX (i.trans j)
  obtain⟨l,m,o,_,_⟩:=cX.wa ((k.kv _).2,t.2) c l2 b;have f:=gW.wa (t:=((k.kv _).2,t.2)) l2 b d;unfold ce.cW;split
  ·exact gW.cW n ((k.kv _).2,t.2) c l2 b d
  ·split
   ·exact gW.cW n _ l m o f
   ·exact f
theorem zC (k:ce):∀(l:List Nat)(t:(cj×List b7)×Bool),(l.foldl (dC k.al k.br) t).2=false->∀i∈l,k.al t.1.1 (t.1.2.getD i (0,0)).2=true\/k.al t.1.1 (t.1.2.getD i (0,0)).1=false
 |[],_,_,_,hi=>by cases hi
 |j::l,t,h,i,hi=>by
  rw[a8] at h;obtain⟨_,b⟩:=t5 k l _ h;by_cases c:(k.al t.1.1 (t.1.2.getD j (0,0)).2||!k.al t.1.1 (t.1.2.getD j (0,0)).1)=true
  ·have d:dC k.al k.br t j=t:=by unfold dC;rw[aI c]
   rw[d] at h;rcases List.mem_cons.1 hi with rfl|hi
   ·simpa using c
   ·exact zC k l t h i hi
  ·unfold dC at b;rw[aG c] at b;cases b
theorem qW:∀(n:Nat)(t:cj×List b7)(H:List Int),LI k z t.1 H D->dL k z t.1 H->ef k t.1->k.mu t.1<n->uf k (k.cW n t).1 (k.cW n t).2
 |0,t,H,_,_,_,e=>absurd e V
 |n+1,t,H,h,w,hb,e=>by
  obtain⟨B,l1,w1,_,_,_⟩:=LI.oj (k.O+1) h w;obtain⟨c1,c2,c3⟩:=CI.lb h.mi.ci hb (k.O+1)
  obtain⟨g,b,C,j⟩:=CI.kv c1 c2;obtain⟨c,l2,d,_,_⟩:=l1.kv w1;unfold ce.cW;cases hk:(k.kv _).1
  ·rw[aG Z];obtain⟨E,l,F,G,m⟩:=CI.wa (s:=((k.kv _).2,t.2)) g b;cases hw:(k.wa ((k.kv _).2,t.2)).2
   ·rw[aG Z,t6 k _ hw];intro o hd;obtain⟨i,hi,p⟩:=List.mem_iff_getElem.1 hd;have q:=zC k _ (((k.kv _).2,t.2),false) hw i (List.mem_range.2 hi)
    have u:t.2.getD i (0,0)=o:=by rw[aE,aL hi,p];rfl
    rw[u] at q;exact q
   ·obtain⟨v,x,A,_,_⟩:=cX.wa ((k.kv _).2,t.2) c l2 d;have f:=m hw;dsimp only at f;exact qW n _ v x A l V
  ·rw[aI rfl];have f:=j hk;exact qW n ((k.kv _).2,t.2) c l2 d b (by dsimp only;omega)
def gX (k:ce)(z:C0)(D:List Int)(t:cj×List b7):Prop:=∃H,LI k z t.1 H D/\dL k z t.1 H/\ef k t.1/\gW k z t.1 t.2/\uf k t.1 t.2
theorem gX.sp {t:cj×List b7}(h:LI k z t.1 H D)(w:dL k z t.1 H)(hb:ef k t.1)(e:gW k z t.1 t.2):gX k z D (k.sp t):=by obtain⟨K,m1,b,_,_⟩:=cX.sp t H h w;exact⟨K,m1,b,(px _ t h.mi.ci hb).2,gW.cW _ t H h w e,qW _ t H h w hb V⟩
theorem gX.cm {t:cj×List b7}(h:gX k z D t){e:b7}(i:jW k z e.1)(j2:jW k z e.2):gX k z D (cm (dI cj) (fun s x=>k.al s.1 x) k.ke t e).2:=by
 cases c:k.al t.1 e.1
 ·rw[mV (o:=dI cj) (is:=fun s x=>k.al s.1 x) (kp:=k.ke) (s:=t) (e:=e) c];exact h
 ·rw[mW (o:=dI cj) (is:=fun s x=>k.al s.1 x) (kp:=k.ke) (s:=t) (e:=e) c];obtain⟨H,d,j,f,l,B⟩:=h;obtain⟨m,l1,w1,n,_⟩:=cX.br (k:=k) (z:=z) (D:=D) (s:=t.1) e.2 H d j;obtain⟨_,_,_,y1,_,m1,_⟩:=d.mi.br e.2;obtain⟨_,p,q,g⟩:=l9 k t.1 e.2;have hb:ef k (k.br t.1 e.2).2:=⟨by rw[p,g];exact f.wk,by rw[q,g];exact f.ep⟩
  obtain⟨K,q1,u,q3,v,w⟩:=gX.sp (t:=((k.br t.1 e.2).2,t.2)) l1 w1 hb (l.iX n)
  obtain⟨_,_,_,A,_⟩:=cX.sp (k:=k) (z:=z) (D:=D) ((k.br t.1 e.2).2,t.2) m l1 w1;show gX k z D ((k.sp ((k.br t.1 e.2).2,t.2)).1,(k.sp ((k.br t.1 e.2).2,t.2)).2++[(e.1,(k.br t.1 e.2).1)])
  refine⟨K,q1,u,q3,fun b hd=>?_,fun b hd=>?_⟩
  ·rcases List.mem_append.1 hd with hd|hd
   ·exact v b hd
   ·rw[List.mem_singleton.1 hd];exact⟨i,e.2,j2,A.ml (m1 _ (aK rfl))⟩
  ·rcases List.mem_append.1 hd with hd|hd
   ·exact w b hd
   ·rw[List.mem_singleton.1 hd];exact aK (qV y1)
theorem gX.pl:∀(l:List b7)(u:List b7×List b7×(cj×List b7)),gX k z D u.2.2->(∀e∈l,jW k z e.1/\jW k z e.2)->gX k z D (l.foldl (ej (Go.Proofs.YtpkjkjhanlbcoaaGreat.cm (dI cj) (fun s x=>k.al s.1 x) k.ke)) u).2.2
 |[],_,h,_=>h
 |e::l,u,h,hl=>by
  have key:(ej (Go.Proofs.YtpkjkjhanlbcoaaGreat.cm (dI cj) (fun s x=>k.al s.1 x) k.ke) u e).2.2=(Go.Proofs.YtpkjkjhanlbcoaaGreat.cm (dI cj) (fun s x=>k.al s.1 x) k.ke u.2.2 e).2:=by unfold ej;split<;>rfl
  refine gX.pl l _ ?_ (fun b hd=>hl b (aN _ hd))
  rw[key];exact h.cm (hl e Z).1 (hl e Z).2
theorem gX.eB:∀(n:Nat)(t:cj×List b7)(b:List b7),gX k z D t->(∀e∈b,jW k z e.1/\jW k z e.2)->gX k z D (eB (Go.Proofs.YtpkjkjhanlbcoaaGreat.cm (dI cj) (fun s x=>k.al s.1 x) k.ke) n t b).1
 |0,_,_,h,_=>h
 |n+1,t,b,h,hd=>by
  have d:=gX.pl b ([],[],t) h hd;have d:gX k z D (pts (Go.Proofs.YtpkjkjhanlbcoaaGreat.cm (dI cj) (fun s x=>k.al s.1 x) k.ke) t b).2.2:=d;by_cases c:(pts (Go.Proofs.YtpkjkjhanlbcoaaGreat.cm (dI cj) (fun s x=>k.al s.1 x) k.ke) t b).1.length=0
  ·rw[lS _ _ _ _ c];exact d
  ·rw[lU _ _ _ _ c];exact gX.eB n _ _ d (fun e he=>hd e (sF _ t b e (aJ he)))
theorem zD (k:ce):∀(l:List Int)(s:cj),(l.foldl k.eF s).g=s.g
 |[],_=>rfl
 |x::l,s=>by rw[a8,zD k l];unfold ce.eF;split<;>rfl
theorem zE (k:ce):∀(l:List Int)(s:cj),(l.foldl k.gB s).g=s.g
 |[],_=>rfl
 |x::l,s=>by rw[a8,zE k l];rfl
end
section
variable {a:Wc}{S:cq}{Y G:List Int}
theorem GO (h:em a S.s Y G)(hb:cI a S.s)(hr:S.s.y<=a.O-S.s.g)(he:jB a S):∃D,gX (S.s.k0 a) (S.s.z0 G) D ((S.s.k0 a).eW (S.t3 a) S.r)/\dh (S.s.k0 a) (S.t3 a).1 (S.s4 a):=by
 have p:(S.s.k0 a).T=Y:=oo h.inv.full hb.n1 hb.y1 hb.o1 hb.g1;have d:∀x,tB a.N S.s.y S.s.g S.s.ws x=true->jW (S.s.k0 a) (S.s.z0 G) x:=fun x f=>by
  obtain⟨q1,q2⟩:=(i7 h.inv.full hb.n1 hb.y1 hb.o1 hb.g1).1 f;refine⟨q1,?_⟩
  rw[p];exact q2
 have i:=LI.start h.inv.full hb.n0 hb.n1 hb.o1 hb.y1 hb.g1 hb.l1 hr;obtain⟨H1,c,q,⟨H,s⟩,l1,y1,_,m1⟩:=i.cJ 12 (by show 12<=S.s.rs.length;rw[hb.r1];exact aD _)
 have j:dB a.N S.s.y (S.s.s1 a).g (S.s.s1 a).ws=G++H1:=(c.mi.full.lists hb.n1 hb.y1 hb.o1 c.mi.ci.hg).2;have u:(S.s.s1 a).nx=((S.s.k0 a).N:Int)+(S.s.z0 G).g:=(lE _ _ 12).2.2;have v:d6 ((S.s.k0 a).l0 (S.s.z0 G)) (((S.s.k0 a).N:Int)+(S.s.z0 G).g) (S.s.k0 a).N (S.s.z0 G).G:=h.inv.full.dX;obtain⟨k,g,m,n,A,⟨I,J⟩,_,L⟩:=LI.pv (dF a.O) S.s.M v (G++H1) c ((dL.start a S.s G).cJ i.mi 12 c.mi q ⟨_,s⟩) (fun x f=>(List.mem_append.1 f).imp id (fun B=>c.mi.hlo x B))
 have C:(G++H1).foldl ((S.s.k0 a).gm (((S.s.k0 a).N:Int)+(S.s.z0 G).g) (dF a.O) S.s.M) ((S.s.k0 a).cJ (S.s.s0 a) 12)=S.s.s2 a:=by unfold eb.s2 ce.lm;rw[j,u];rfl
 have hlen:=qP (S.s.k0 a) (((S.s.k0 a).N:Int)+(S.s.z0 G).g) (dF a.O) S.s.M (G++H1) ((S.s.k0 a).cJ (S.s.s0 a) 12)
 rw[C] at m n A hlen;have M:(G++H1).length<=2000:=by rw[<-j];exact h8 _ _
 obtain⟨q1,q2,q3⟩:=lE _ _ 12;have cb:ef (S.s.k0 a) (S.s.s2 a):=by exact t8
 have key:∀s2:cj,LI (S.s.k0 a) (S.s.z0 G) s2 k g->dL (S.s.k0 a) (S.s.z0 G) s2 k->ef (S.s.k0 a) s2->_:=fun s2 l w b=>
  gX.sp (t:=(s2,S.q)) l w b (fun e hq=>⟨d _ (he e (aJ hq)).1,e.2,d _ (he e (aJ hq)).2,aK rfl⟩)
 have o:gX (S.s.k0 a) (S.s.z0 G) g (S.t3 a):=by exact key _ m n cb
 refine⟨g,gX.eB _ (S.t3 a) _ o (fun e hq=>?_),?_⟩
 ·have hq:=(List.mem_filter.1 hq).1;exact⟨d _ (he e (aK hq)).1,d _ (he e (aK hq)).2⟩
 ·obtain⟨K,r1,E,_⟩:=o;obtain⟨_,_,_,F,_⟩:=cX.eW (S.t3 a) S.r K r1 E;exact F
theorem jB.cut (h:em a S.s Y G)(hb:cI a S.s)(he:jB a S):jB a (S.cut a):=by
 cases hf:S.full a
 ·have hr:S.s.y<=a.O-S.s.g:=by have:=of_decide_eq_false hf;omega
  obtain⟨K,D,c⟩:=qQ h hb hr;obtain⟨R,⟨H,s1,s2,_,s4,s5⟩,iX⟩:=GO h hb hr he;have E:(S.s.k0 a).T=Y:=oo h.inv.full hb.n1 hb.y1 hb.o1 hb.g1;have hN:=hb.n1;have hO:=hb.o1;have hg:=c.li.mi.ci.hg;have U:(S.s.k0 a).N=a.N:=rfl;have W:(S.s.k0 a).O=a.O:=rfl;have F:(S.s6 a).g=(S.s4 a).g:=(zE _ _ _).trans (zD _ _ _)
  have g:S.cut a=⟨⟨0,(S.s6 a).g,(S.s6 a).ws,[],(S.s6 a).rs⟩,(S.s.k0 a).sR (S.t3 a) S.r,(S.s.k0 a).je (S.t3 a) S.r⟩:=by unfold cq.cut;rw[aG (by rw[hf];simp)]
  have s:∀x,cY x=true->cg x∈G++K->tB a.N (S.cut a).s.y (S.cut a).s.g (S.cut a).s.ws x=true:=fun x i j=>by rw[g];exact(i7 (O:=a.O) (c.done h hb).full hN (aX _) hO (by rw[F];exact hg)).2 ⟨i,aJ j⟩
  have u:∀v∈(S.s.k0 a).T,(S.s4 a).f v≠-1->cY (ew 3 ((S.s4 a).f v))=true/\cg (ew 3 ((S.s4 a).f v))∈G++K:=fun v hv I=>by
   have w:=c.li.mi.fh _ hv I;have X:=c.li.mi.i6 w;obtain⟨n,hn⟩:∃n:Nat,(S.s4 a).f v=n:=⟨((S.s4 a).f v).toNat,V⟩
   rw[hn];obtain⟨w1,d⟩:=m9 n V;rw[d,<-hn];rw[<-hn] at w1;exact⟨w1,a9 _ w⟩
  have A:∀x,(S.s.k0 a).cK x=true->cg x∈(S.s.k0 a).T:=fun x k=>by unfold ce.cK at k;rw[a_] at k;simpa using k.2
  have key:∀x,jW (S.s.k0 a) (S.s.z0 G) x->(S.s.k0 a).al (S.s4 a) x=true->tB a.N (S.cut a).s.y (S.cut a).s.g (S.cut a).s.ws ((S.s.k0 a).nw (S.s4 a) x)=true:=fun x l ha=>by
   cases hy:(S.s.k0 a).cK x
   ·have b:(S.s.k0 a).nw (S.s4 a) x=x:=by unfold ce.nw;rw[hy];rfl
    rw[b];refine s x l.1 (aY _ ?_)
    rcases l.2 with q|q
    ·unfold ce.cK at hy;rw[l.1] at hy;simp at hy;exact absurd q hy
    ·exact q
   ·have B:(S.s4 a).f (cg x)≠-1:=fun e=>by unfold ce.al ce.ls at ha;rw[hy,e] at ha;simp at ha
    have b:(S.s.k0 a).nw (S.s4 a) x=ew 3 ((S.s4 a).f (cg x)):=by unfold ce.nw;rw[hy,aI (by simp[B])]
    rw[b];obtain⟨w1,d⟩:=u _ (A x hy) B;exact s _ w1 d
  have J:∀f x,jW (S.s.k0 a) (S.s.z0 G) f->(S.s.k0 a).ml (S.s4 a) f x->(S.s.k0 a).al (S.s4 a) x=true->tB a.N (S.cut a).s.y (S.cut a).s.g (S.cut a).s.ws ((S.s.k0 a).nw (S.s4 a) x)=true:=fun f x l hm ha=>by
   rcases hm with rfl|⟨m1,L,M⟩
   ·exact key _ l ha
   ·obtain⟨w1,d⟩:=u _ (A f m1) L;rw[<-M] at w1 d;have b:(S.s.k0 a).nw (S.s4 a) x=x:=by unfold ce.nw;rw[(c.li.mi.om d)];rfl
    rw[b];exact s _ w1 d
  have C:∀x,tB a.N S.s.y S.s.g S.s.ws x=true->jW (S.s.k0 a) (S.s.z0 G) x:=fun x k=>by
   obtain⟨q1,N⟩:=(i7 (O:=a.O) h.inv.full hb.n1 hb.y1 hb.o1 hb.g1).1 k;refine⟨q1,?_⟩
   rw[E];exact N
  intro e hm;rcases hm with hm|hm
  ·have b:(S.cut a).r=(S.s.k0 a).sR (S.t3 a) S.r:=by rw[g]
   rw[b] at hm;have hm:=hm;obtain⟨m,i,j⟩:=List.mem_map.1 hm;obtain⟨o,p⟩:=List.mem_filter.1 i;obtain⟨P,Q⟩:=List.mem_filter.1 o;obtain⟨t,j2⟩:=he m (aK P)
   rw[<-j];exact⟨key _ (C _ t) p,key _ (C _ j2) (pC iX Q)⟩
  ·have b:(S.cut a).q=(S.s.k0 a).je (S.t3 a) S.r:=by rw[g]
   rw[b] at hm;have hm:e∈(((S.s.k0 a).eW (S.t3 a) S.r).2.filter (fun e=>(S.s.k0 a).al (S.s4 a) e.1)).map fun e=>((S.s.k0 a).nw (S.s4 a) e.1,(S.s.k0 a).nw (S.s4 a) e.2):=hm;obtain⟨m,i,j⟩:=List.mem_map.1 hm;obtain⟨o,p⟩:=List.mem_filter.1 i;obtain⟨t,f,j2,cA⟩:=s4 m o;rw[<-j];refine⟨key _ t p,J f _ j2 cA ?_⟩
   rcases s5 m o with q|q
   ·exact q
   ·have q:(S.s.k0 a).al (S.s4 a) m.1=false:=q;rw[p] at q;cases q
 ·have g:S.cut a=S:=by unfold cq.cut;rw[aI hf]
  rw[g];exact he
end
def cq.kx (a:Wc)(S:cq)(x:Int):Int:=if tB a.N S.s.y S.s.g S.s.ws x=true then pk (ld a.N S.s.y S.s.g S.s.ws (cg x)) else 0
def cq.fx (a:Wc)(S:cq)(x:Int):Int:=if tB a.N S.s.y S.s.g S.s.ws x=true then pf (ld a.N S.s.y S.s.g S.s.ws (cg x)) else 0
def cq.ex (a:Wc)(S:cq)(x:Int):Int:=if tB a.N S.s.y S.s.g S.s.ws x=true then pc (ld a.N S.s.y S.s.g S.s.ws (cg x)) else 2
def cq.room (a:Wc)(S:cq)(m:Int):Int×cq:=if m<=(a.N:Int)-S.s.y then(0,S) else if(S.s.y:Int)<=(a.O:Int)-S.s.g then(S.code a,S.cut a) else(S.ij a,S.dz a)
def cq.put (a:Wc)(S:cq)(kd:Int)(rl:List Nat):cq:=⟨{S.s with y:=S.s.y+1+rl.length,ws:=iC S.s.rs S.s.y (fq a.N S.s.y kd rl.length S.s.ws) rl rl.length},S.r,S.q⟩
def cq.bZ (a:Wc)(S:cq)(kd:Int)(rl:List Nat):Int×Int×cq:=if(S.room a (1+rl.length)).1=0 then(ew 3 (S.room a (1+rl.length)).2.s.y,0,(S.room a (1+rl.length)).2.put a kd rl) else(0,(S.room a (1+rl.length)).1,(S.room a (1+rl.length)).2)
def cq.pop (a:Wc)(S:cq)(x:Int):Int×Int×cq:=
 if S.kx a x=5 then(if dO x S.q<S.q.length then((S.q.getD (dO x S.q) (0,0)).2,0,⟨S.s,S.r,S.q.take (dO x S.q)++S.q.drop (dO x S.q+1)⟩) else(0,4,S)) else(0,2,S)
def cq.len (a:Wc)(S:cq)(x:Int):Int×Int×cq:=if S.ex a x=0/\S.kx a x≠5 then(ew 1 (S.fx a x),vc 1 (S.fx a x),S) else(0,2,S)
def cq.rt (a:Wc)(S:cq)(k:Int)(A B:Nat)(I n:Int):Int×Int×cq:=
 if k=1 then(ew 1 n,vc 1 n,S) else if k=3 then(S.s.rs.getD A 0,0,S) else if k=4 then S.bZ a 1 [A,B] else if k=5 then S.bZ a 2 (List.replicate n.toNat A)
 else if k=6 then S.bZ a 3 [A,B] else if k=7 then S.bZ a 4 [A,B] else if k=8 then S.bZ a 5 [] else if k=10 then S.pop a (S.s.rs.getD A 0)
 else if k=11 then((if el a.N S.s.y S.s.g S.s.ws (S.s.rs.getD A 0) I=0 then ld a.N S.s.y S.s.g S.s.ws (cg (S.s.rs.getD A 0)+1+I) else 0),el a.N S.s.y S.s.g S.s.ws (S.s.rs.getD A 0) I,S)
 else if k=13 then S.len a (S.s.rs.getD A 0) else if k=14 then(if S.s.rs.getD A 0=S.s.rs.getD B 0 then ew 1 1 else ew 1 0,0,S) else(2,0,S)
def cq.reg (a:Wc)(S:cq)(t g:Int):Int×cq:=
 if S.ex a t=0 then(if S.kx a g=5 then(if 24<=S.r.length+S.q.length then(3,S) else(0,⟨S.s,S.r++[(g,t)],S.q⟩)) else(2,S)) else(S.ex a t,S)
def cq.set (a:Wc)(S:cq)(x i z:Int):cq:=⟨{S.s with ws:=gg a.N S.s.y S.s.g S.s.ws x i z,M:=stM a.N S.s.y S.s.g S.s.ws x i z (dF a.O) S.s.M},S.r,S.q⟩
def cq.st (S:cq)(R:Nat)(x:Int):cq:=⟨{S.s with rs:=S.s.rs.set R x},S.r,S.q⟩
def cq.hd (a:Wc)(S:cq)(k R A B I n:Int):Int×cq:=
 if dJ k R A B n=0 then(if k=9 then S.reg a (S.s.rs.getD A.toNat 0) (S.s.rs.getD B.toNat 0) else if k=12 then(el a.N S.s.y S.s.g S.s.ws (S.s.rs.getD A.toNat 0) I,S.set a (S.s.rs.getD A.toNat 0) I (S.s.rs.getD B.toNat 0))
  else if k=15 then(S.code a,S.cut a) else if k=16 then(S.ij a,S.dz a)
  else if(S.rt a k A.toNat B.toNat I n).2.1=0 then(0,(S.rt a k A.toNat B.toNat I n).2.2.st R.toNat (S.rt a k A.toNat B.toNat I n).1) else((S.rt a k A.toNat B.toNat I n).2.1,(S.rt a k A.toNat B.toNat I n).2.2))
 else(dJ k R A B n,S)
theorem zF (k:ce):∀(l:List Int)(s:cj),(l.foldl k.eF s).rs=s.rs
 |[],_=>rfl
 |x::l,s=>by rw[a8,zF k l];unfold ce.eF;split<;>rfl
theorem zG (k:ce):∀(l:List Int)(s:cj),(l.foldl k.gB s).rs=s.rs
 |[],_=>rfl
 |x::l,s=>by rw[a8,zG k l];rfl
section
variable {a:Wc}{S:cq}{Y G:List Int}
theorem em.GP (h:em a S.s Y G)(hb:cI a S.s):cI a (S.cut a).s:=by
 unfold cq.cut;cases hf:S.full a
 ·have hr:S.s.y<=a.O-S.s.g:=by exact qr
  obtain⟨K,D,c⟩:=qQ h hb hr;rw[aG Z];have c4:=c.li.mi.ci;have c5:=(c4.mw (fun x b=>(c4.iA x b).1)).1;have d:=(c5.be (fun x b=>(c5.ia x b).1)).1;have e:(S.s6 a).rs=(S.s4 a).rs:=(zG _ _ _).trans (zF _ _ _)
  exact⟨hb.n0,hb.n1,hb.o1,aX _,d.hg,d.len,by rw[e];exact c.rl⟩
 ·exact hb
theorem em.GQ (h:em a S.s Y G)(hb:cI a S.s):cI a (S.dz a).s:=by
 cases hf:S.fN a
 ·obtain⟨_,g,_⟩:=me h hb hf;exact(g.gc.inv h hb g.al).2
 ·have b:S.dz a=S:=by unfold cq.dz;rw[aI hf]
  rw[b];exact hb
theorem em.store {s:eb}(h:em a s Y G)(hb:cI a s){v i z:Int}(hv:v∈Y)(e:0<=i)(f:i<pf (ld a.N s.y s.g s.ws v))(hz:cY z=true->cg z∈Y\/cg z∈G):em a {s with ws:=s.ws.set (v+1+i).toNat z} Y G:=by
 refine⟨h.inv.set hb.l1 hb.y1 hb.g1 (aK hv) e f hz,?_⟩
 obtain⟨_,hk⟩:=h.inv.full.set hb.l1 hb.y1 hb.g1 (aK hv) e f;have l:=m_ h.inv.full hv e f;have m:=hb.y1;have hl:=hb.l1;intro b c j j0 d ha g;rw[hk b (aJ c)] at d;have n:=na h.inv.full c j0 d;have hi:=jS h.inv.full (aJ c) j0 d;have k:ld a.N s.y s.g (s.ws.set (v+1+i).toNat z) (b+1+j)=ld a.N s.y s.g s.ws (b+1+j):=by rw[dY hi,dY hi,ka _ _ _ _ V,aG V]
 rw[k] at ha g;exact h.cd b c j j0 d ha g
end
theorem em.any {a:Wc}{s:eb}{Y G:List Int}(h:em a s Y G)(i:Nat)(ha:cY (s.rs.getD i 0)=true):cg (s.rs.getD i 0)∈Y\/cg (s.rs.getD i 0)∈G:=by
 by_cases hi:i<s.rs.length
 ·exact h.inv.at i hi ha
 ·rw[aE,List.getElem?_eq_none V] at ha;exact absurd ha aa
theorem ug (ws:List Int)(y:Nat)(x:Int):∀k,(fD ws y x k).length=ws.length
 |0=>by simp[fD]
 |k+1=>by rw[fD,a3];exact ug ws y x k
structure GR (a:Wc)(S:cq)(kd:Int)(rl:List Nat)(Y G:List Int)(ws:List Int):Prop where
 k:em a {S.s with y:=S.s.y+1+rl.length,ws:=ws} (Y++[(S.s.y:Int)]) G
 l:ws.length=a.N+a.O
 p:ld a.N (S.s.y+1+rl.length) S.s.g ws S.s.y=hw kd rl.length
 h:∀v,(v∈Y\/v∈G)->ld a.N (S.s.y+1+rl.length) S.s.g ws v=ld a.N S.s.y S.s.g S.s.ws v
theorem uh {a:Wc}{S:cq}{Y G:List Int}{kd:Int}{rl:List Nat}(h:em a S.s Y G)(hb:cI a S.s)(hk:hc kd rl.length=0)(hr:S.s.y+1+rl.length<=a.N):∀j,j<=rl.length->GR a S kd rl Y G (iC S.s.rs S.s.y (fq a.N S.s.y kd rl.length S.s.ws) rl j)
 |0,_=>by
  have hm:iL a.N S.s.y kd rl.length=true:=by unfold iL;simp;omega
  have m:iU a.N S.s.y kd rl.length=S.s.y+1+rl.length:=by unfold iU;rw[aI hm];omega
  have d:fq a.N S.s.y kd rl.length S.s.ws=fD S.s.ws S.s.y (hw kd rl.length) rl.length:=by unfold fq;rw[aI hm];rfl
  have n:=hb.l1;have hlt:S.s.y+rl.length<S.s.ws.length:=V;have m1:=h.inv.make hb.l1 hm;have k:=kM.make h.inv h.cd hb.l1 hm;rw[m] at m1 k;have o:(fq a.N S.s.y kd rl.length S.s.ws).length=a.N+a.O:=by rw[d,ug];exact n
  refine⟨⟨m1,k⟩,o,?_,fun v hv=>?_⟩
  ·show ld a.N _ S.s.g (fq a.N S.s.y kd rl.length S.s.ws) S.s.y=_;rw[d,dY (iM V V),k_ _ _ _ _ _ hlt,aI V]
  ·show ld a.N _ S.s.g (fq a.N S.s.y kd rl.length S.s.ws) v=_;rw[d];rcases hv with f|f
   ·have hi:=h.inv.full.h_ v f;exact sy
   ·have hi:=h.inv.full.io v f;exact p7
 |j+1,p=>by
  have b:=uh h hb hk hr j V;have e:iC S.s.rs S.s.y (fq a.N S.s.y kd rl.length S.s.ws) rl (j+1)=(iC S.s.rs S.s.y (fq a.N S.s.y kd rl.length S.s.ws) rl j).set (S.s.y+1+j) (S.s.rs.getD (rl.getD j 0) 0):=rfl;rw[e];generalize iC S.s.rs S.s.y _ rl j=ws at b⊢;have g:cI a {S.s with y:=S.s.y+1+rl.length,ws:=ws}:=⟨hb.n0,hb.n1,hb.o1,hr,hb.g1,b.l,hb.r1⟩
  have i:(S.s.y:Int)∈Y++[(S.s.y:Int)]:=Z;have l:((j:Nat):Int)<pf (ld a.N (S.s.y+1+rl.length) S.s.g ws S.s.y):=by rw[b.p,(pV kd rl.length hk).2.1];omega
  have st:=b.k.store g (z:=S.s.rs.getD (rl.getD j 0) 0) i V l (fun ha=>by exact(h.any _ ha).imp (fun c=>aY _ c) id)
  have q:((S.s.y:Int)+1+(j:Nat)).toNat=S.s.y+1+j:=V;have hs:=(b.k.inv.full.set (z:=S.s.rs.getD (rl.getD j 0) 0) b.l g.y1 g.g1 (aK i) (Int.natCast_nonneg j) l).2;refine⟨st,by rw[a3];exact b.l,(hs _ (aK i)).trans b.p,fun v hv=>(hs v (hv.imp (fun c=>aY _ c) id)).trans (b.h v hv)⟩
theorem zH (w:ax)(B n1 b:Nat)(l1 l2:List b7)(d f:Addr)(c1 c2:Nat)(g:l1.length=n1)(i:l2.length=b)(j:w.cell? (aq B 0)=some (.slice (some d) n1 c1))(k:w.cell? (aq B 1)=some (.slice (some f) b c2))(l:dw w (some d) l1)(n:dw w (some f) l2)(hm:n1+b<=100000):
 Calls prog 230 #[.slice (ak B) 2 2] w fun e w'=>∃a c m,e=.returned (.slice a m c)/\ay (m=n1+b)/\ay (w'.ownsRow w.heap.size 103 2 (.slice a m c) m (ev (l1++l2)))/\Below w.heap.size w w':=by
 subst g;subst i;refine(Ev w B l1 l2 d f c1 c2 j k l n hm).mono ?_;rintro e w' ⟨a,c,rfl,o,p⟩
 exact⟨a,c,_,rfl,rfl,o,p⟩
theorem dw.take {w:ax}{ad:Option Addr}{q:List b7}(h:dw w ad q)(i:Nat):dw w ad (q.take i):=by
 intro hp;simp only [List.length_take] at hp;obtain⟨b,o,e,hb,hc⟩:=h V;refine⟨b,o,e,hb,fun j c=>?_⟩
 simp only [List.length_take] at c;have d:(q.take i).getD j (0,0)=q.getD j (0,0):=by rw[aE,aE,List.getElem?_take_of_lt V]
 rw[d];exact hc j V
theorem dw.drop {w:ax}{b o:Nat}{q:List b7}(h:dw w (some ⟨b,o,none⟩) q)(i:Nat):dw w (some ⟨b,o+i*2,none⟩) (q.drop i):=by
 intro hp;simp only [List.length_drop] at hp;obtain⟨g,k,e,hb,hc⟩:=h V;cases e;refine⟨b,o+i*2,rfl,hb,fun j c=>?_⟩
 simp only [List.length_drop] at c;have d:(q.drop i).getD j (0,0)=q.getD (i+j) (0,0):=by simp[List.getElem?_drop]
 have f:=hc (i+j) V;rw[d,show o+i*2+j*2=o+(i+j)*2 by omega];exact f
theorem GS:dN 229:=gb func229 ae rfl
theorem GT (w:ax)(B:Nat)(g:Int)(e:b7)(h:w.cell? (aq B 0)=some (ah g)):
 Calls prog 229 #[en e,aj B] w fun r w'=>r=.returned (.bool (e.1==g))/\Below w.heap.size w w':=by
 obtain⟨x,y⟩:=e;have d:=aQ w _ h;have b:=au w (.cells #[.int .i64 x,.int .i64 y] 103)
 by_cases c:x=g
 ·subst c;go_enter func229,ntmps229;go_wp2_with fail;go_ret;exact⟨Z,b⟩
 ·go_enter func229,ntmps229;go_wp2_with fail;go_ret;exact⟨Z,b⟩
theorem zI {w w1 b:ax}{p m:Nat}{a0 c:Option Addr}{k0 k1 c5 i n:Nat}{r q:List b7}(h:fu w p a0 k0 (ak m) k1 r q)(f:Below w.heap.size w w1)(o:Below w1.heap.size w1 b)(g:b.ownsRow w1.heap.size 103 2 (.slice c n c5) n (ev (q.take i++q.drop (i+1))))(hi:i<q.length)(hn:n+1=q.length):
 fu (b.setCell ⟨p,1,none⟩ (.slice c n c5)) p a0 k0 c c5 r (q.take i++q.drop (i+1))/\(∀z,c=some z->w.heap.size<=z.block)/\Fr (fun k=>k=p) w (b.setCell ⟨p,1,none⟩ (.slice c n c5)):=by
 have j:Below w.heap.size w b:=f.trans (o.mono f.size)
 have d:=h.below j;have hl:(q.take i++q.drop (i+1)).length=n:=by rw[aZ,bv,List.length_drop];omega
 have l:∀k,k≠p->(b.setCell ⟨p,1,none⟩ (.slice c n c5)).heap[k]?=b.heap[k]?:=fun k hk=>aU _ _ _ _ hk;refine⟨⟨by rw[hl];exact EA d.blk,cH d.r0 (fun k e=>l k (d.np d.r0 k e)),?_⟩,fun z e=>?_,(Fr.of j).set p 1 _ rfl⟩
 ·rw[hl];exact eV (cH g (fun k e=>l k (d.np g k e))) (fun _ _=>aX _)
 ·have:=(cn g z.block (by rw[e];rfl)).1;have:=f.size;omega
theorem zJ (w:ax)(p:Nat)(a0 a1:Option Addr)(k0 k1:Nat)(r q:List b7)(g:Int)(h:fu w p a0 k0 a1 k1 r q)(W:q.length<=90000):
 Calls prog 194 #[aj p,ah g] w fun e w'=>
  (e=.returned (.tuple #[ah 0,.bool false])/\(∀e∈q,¬e.1=g)/\Below w.heap.size w w')\/
  (∃(i:Nat)(b1:Option Addr)(c1:Nat),e=.returned (.tuple #[ah (q.getD i (0,0)).2,.bool true])/\i<q.length/\(q.getD i (0,0)).1=g/\(∀e∈q.take i,¬e.1=g)/\fu w' p a0 k0 b1 c1 r (q.take i++q.drop (i+1))/\(∀z,b1=some z->w.heap.size<=z.block)/\Fr (fun k=>k=p) w w'):=by
 obtain⟨c0,c1,K,X,lp⟩:=h.cells;have H:ay (fu w p a0 k0 a1 k1 r q):=h;have l:=au w (.cells #[.int .i64 g] 2)
 have y1:=(l.cell (p:=aq p 1) lp).trans c1;have P:=CT (fun _=>True) 229 #[] #[aj w.heap.size] (fun e=>e.1==g) GS (w.alloc (.cells #[.int .i64 g] 2)) (fun w' e _ hs hk=>GT w' w.heap.size g e ((aP (a:=⟨w.heap.size,0,none⟩) (hk _ Z)).trans Z)) q a1 k1 (fun _ _=>trivial) V ((g8 h.q0).below l)
 clear h c0 K;go_enter func194,ntmps194;go_wp2_with fail;refine P.mono ?_;clear P;rintro e w1 ⟨hb,⟨rfl,hn⟩|⟨i,rfl,hi,ht,hn⟩⟩
 ·have n:ay (∀e∈q,¬e.1=g):=fun e he=>by simpa using hn e he
  have f:=l.trans (hb.mono Z)
  clear hb hn;go_wp2_with fail;go_ret2;exact aK ⟨rfl,n.o,f⟩
 ·have n:ay (∀e∈q.take i,¬e.1=g):=fun e he=>by simpa using hn e he
  have E:ay ((q.getD i (0,0)).1=g):=by show _=_;simpa using ht
  obtain⟨z,s⟩:∃z,ay (z=(q.getD i (0,0)).2):=⟨_,rfl⟩
  have f:=l.trans (hb.mono Z)
  have Y:=f.size;have j:=H.o.below f;obtain⟨ab,F,ad,G,o⟩:=j.cells;have t:=qw j.q0;obtain⟨b,cap,I⟩:=eU j.q0 V;simp at I;obtain⟨rfl,rfl⟩:=I;have ag:=t.le;have L:k1<=maxLen:=by
   rcases j.q0.2 with⟨_,h0⟩|⟨g,ai,al,hv,_,_,_,hc,_⟩
   ·omega
   ·simp at hv;omega
  unfold maxLen at L;obtain⟨am,an,M,ao,hc⟩:=t.lp V;cases M;have N:=(hc i hi).2;rw[Nat.zero_add,<-s.o] at N;have ap:(0:Int)<=(i:Int):=V;have ar:(i:Int)<(q.length:Int):=V;have aB:ay (fu w1 p a0 k0 (ak b) k1 r q):=j;clear hb hn l hc j ht;have u:ay (dw w1 (ak b) q):=t.lp;have J:ay ((q.take i).length=i):=by show _=_;rw[bv];omega
  have aF:(i:Int)<=(k1:Int):=V;have aR:IntKind.i64.wrap ((i:Int)+1)=(i:Int)+1:=by rw[bk];omega
  have aV:(0:Int)<=(i:Int)+1:=V;have a2:(i:Int)+1<=(q.length:Int):=V;have bb:((i:Int)+1).toNat=i+1:=V;have bd:(i:Int).toNat=i:=V;by_cases hk:i+1=k1
  ·subst hk;have hz:q.length-(i+1)=0:=V;have c:=(au w1 (.cells #[.slice (some ⟨b,0,none⟩) i (i+1),.slice (some ⟨b,0,none⟩) 0 0] 151)).drew;have v:ay ((q.drop (i+1)).length=0):=by show _=_;rw[List.length_drop];omega
   have O:dw (w1.alloc (.cells #[.slice (some ⟨b,0,none⟩) i (i+1),.slice (some ⟨b,0,none⟩) 0 0] 151)).drew (ak b) (q.drop (i+1)):=fun h=>by rw[List.length_drop] at h;omega
   go_wp2_with fail
   go_region_with (go_at_call 230;refine(zH _ w1.heap.size i (0) (q.take i) (q.drop (i+1)) ⟨b,0,none⟩ ⟨b,0,none⟩ (i+1) (0) J.o v.o Z Z ((u.o.take i).below c) (O) V).mono ?_;rintro e x ⟨A,c5,Q,rfl,B,m,d⟩;have R:=(d.cell (p:=aq p 1) (by simp;omega)).trans ((c.cell (p:=aq p 1) o).trans F);have S:=(d.frozen (p:=aq p 1) (by simp;omega)).trans ((c.frozen (p:=aq p 1) o).trans G))
   all_goals
    go_wp2_with fail;go_ret2;refine aJ ⟨i,A,c5,by rw[<-s.o];rfl,hi,E.o,n.o,?_⟩
    have C:Below w1.heap.size w1 x:=c.trans (d.mono Z)
    exact zI H.o f C (eV m.o (fun k e=>by have:=(cn m.o k e).1;simp at this;omega)) hi (by have:=B.o;omega)
  ·have be:¬k1=i+1:=fun e=>hk e.symm;have c:=(au w1 (.cells #[.slice (some ⟨b,0,none⟩) i k1,.slice (some ⟨b,(i+1)*2,none⟩) (q.length-(i+1)) (k1-(i+1))] 151)).drew;have v:ay ((q.drop (i+1)).length=q.length-(i+1)):=List.length_drop;have D:=(u.o.drop (i+1)).below c;rw[Nat.zero_add] at D;have U:ay (dw (w1.alloc (.cells #[.slice (some ⟨b,0,none⟩) i k1,.slice (some ⟨b,(i+1)*2,none⟩) (q.length-(i+1)) (k1-(i+1))] 151)).drew (some ⟨b,(i+1)*2,none⟩) (q.drop (i+1))):=D;clear D;go_wp2_with fail
   go_region_with (go_at_call 230;refine(zH _ w1.heap.size i (q.length-(i+1)) (q.take i) (q.drop (i+1)) ⟨b,0,none⟩ ⟨b,(i+1)*2,none⟩ k1 (k1-(i+1)) J.o v.o Z Z ((u.o.take i).below c) (U.o) V).mono ?_;rintro e x ⟨A,c5,Q,rfl,B,m,d⟩;have R:=(d.cell (p:=aq p 1) (by simp;omega)).trans ((c.cell (p:=aq p 1) o).trans F);have S:=(d.frozen (p:=aq p 1) (by simp;omega)).trans ((c.frozen (p:=aq p 1) o).trans G))
   all_goals
    go_wp2_with fail;go_ret2;refine aJ ⟨i,A,c5,by rw[<-s.o];rfl,hi,E.o,n.o,?_⟩
    have C:Below w1.heap.size w1 x:=c.trans (d.mono Z)
    exact zI H.o f C (eV m.o (fun k e=>by have:=(cn m.o k e).1;simp at this;omega)) hi (by have:=B.o;omega)
section
variable {a:Wc}{hp:Nat}{F:Nat->Prop}{S:cq}{w:ax}
theorem ui (h:(cw a hp).J F S w)(x:Int):
 Calls prog 48 #[aj a.pw,ah x] w fun e w'=>e=.returned (.tuple #[ah (S.kx a x),ah (S.fx a x),ah (S.ex a x)])/\Below w.heap.size w w':=
 C9 x w (eh h).c0 (lz h).1
theorem zK (h:(cw a hp).J F S w)(x:Int):
 Calls prog 121 #[aj hp,ah x] w fun e w'=>e=.returned (.bool (S.kx a x==5))/\Below w.heap.size w w':=by
 have P:=ui h x;obtain⟨h0,_⟩:=eh h;go_enter func121,ntmps121;exact ts
theorem GU {q:List b7}{g:Int}{i:Nat}(hi:i<q.length)(b:(q.getD i (0,0)).1=g)(c:∀e∈q.take i,¬e.1=g):dO g q=i:=by
 refine(List.findIdx_eq hi).2 ⟨?_,fun j d=>?_⟩
 ·rw[aE,aL hi] at b;simpa using b
 ·have:=c (q[j]'V) (by rw[List.mem_take_iff_getElem];exact⟨j,V,rfl⟩)
  simpa using this
theorem GV (h:(fM a).J F S w)(g:Int)(hq:S.q.length<=90000):
 Calls prog 194 #[aj a.sd,ah g] w fun e w'=>∃m,e=.returned (.tuple #[ah (if dO g S.q<S.q.length then(S.q.getD (dO g S.q) (0,0)).2 else 0),.bool (decide (dO g S.q<S.q.length))])/\(fM a).J m (if dO g S.q<S.q.length then⟨S.s,S.r,S.q.take (dO g S.q)++S.q.drop (dO g S.q+1)⟩ else S) w'/\b8 F w m w':=by
 have q:=h;obtain⟨n,ar,f,⟨s,ad,cap,j,t,u,v,o,p,D,x⟩,r0,r1,k⟩:=h;refine(zJ w a.sd ar ad f cap S.r S.q g ⟨t,r0,u⟩ hq).mono ?_;rintro e w' (⟨rfl,hn,hb⟩|⟨i,b1,c1,rfl,hi,g1,g2,hs,A,fr⟩)
 ·have l:¬dO g S.q<S.q.length:=fun c=>by
   unfold dO at c;have:=List.findIdx_getElem (w:=c)
   exact hn _ (a6 c) (by simpa using this)
  rw[aG l,aG l,bu l];exact⟨F,rfl,(fM a).below q hb,b8.of hb⟩
 ·rw[(GU hi g1 g2),aI hi,aI hi,bh hi];have nq:∀b,some b=(Value.slice b1 (S.q.take i++S.q.drop (i+1)).length c1).ownBlock->w.heap.size<=b:=fun b e=>by
   cases b1 with
   |none=>simp[Value.ownBlock] at e
   |some z=>
    simp[Value.ownBlock] at e;rw[e];exact A z rfl
  refine⟨fun b=>(n b\/some b=(Value.slice b1 _ c1).ownBlock)\/some b=(Value.slice ar S.r.length f).ownBlock,rfl,⟨fun b=>n b\/some b=(Value.slice b1 _ c1).ownBlock,ar,f,⟨s,b1,c1,(dZ a).keep j fr.size (fun b d=>fr.block b ((dZ a).lt j b d) (fun e=>p (by have e:=e;rw[<-e];exact d))),hs.blk,hs.q0,fun b d=>aK (v b d),aK o,p,fun b e=>⟨aJ e,fun d=>by have B:=(dZ a).lt j b d;have C:=nq b e;omega⟩,fun b d=>?_⟩,hs.r0,fun b e d=>?_,fun b=>Iff.rfl⟩,⟨fr.mono (fun b d=>(k b).2 (aK (by have d:=d;rw[d];exact o))),fun b d=>?_⟩⟩
  ·rcases d with d|d
   ·exact aM (x b d) fr.size
   ·exact(cn hs.q0 b d).2
  ·rcases d with d|d
   ·exact r1 b e d
   ·have B:=(cn r0 b e).2;have C:=nq b d;omega
  ·rcases d with(d|d)|d
   ·exact aK ((k b).2 (aK d))
   ·exact aJ (nq b d)
   ·exact aK ((k b).2 (aJ d))
theorem GW (x y:Int)(w:ax):
 Calls prog 127 #[ah x,ah y] w fun e w'=>e=.returned (.tuple #[ah (if x=y then ew 1 1 else ew 1 0),ah 0])/\Below w.heap.size w w':=by
 by_cases e:x=y
 ·subst e;rw[aI rfl];have P:=o8 1 w;rw[show vc 1 1=0 by decide] at P;exact zB
 ·have P:=o8 0 w;exact zB
theorem GX (h:(cw a hp).J F S w)(x:Int):
 Calls prog 126 #[aj hp,ah x] w fun e w'=>e=.returned (.tuple #[ah (S.len a x).1,ah (S.len a x).2.1])/\Below w.heap.size w w':=by
 have P:=ui h x;obtain⟨h0,_⟩:=eh h;unfold cq.len;generalize S.kx a x=k at*;generalize S.fx a x=f at*;generalize S.ex a x=c at*;by_cases hc:c=0
 ·subst hc;by_cases hk:k=5
  ·subst hk;rw[aG Z];go_enter func126,ntmps126;go_wp2_with fail;refine P.mono ?_;exact oK
  ·rw[aI ⟨rfl,hk⟩];have b:=fun w=>o8 f w;generalize ew 1 f=v at*;generalize vc 1 f=i at*;go_enter func126,ntmps126;go_wp2_with fail;refine P.mono ?_;rintro e w1 ⟨rfl,hb1⟩
   go_wp2_with fail;refine(b w1).mono ?_;rintro e j ⟨rfl,d⟩
   have hb:=hb1.trans (d.mono hb1.size)
   go_wp2_with fail;go_ret2;exact⟨rfl,hb⟩
 ·rw[aG (fun g=>hc g.1)];go_enter func126,ntmps126;go_wp2_with fail;refine P.mono ?_;exact oK
theorem zL (h:(cw a hp).J F S w):w.cell? (aq a.pw 2)=some (aj a.sd):=by obtain⟨c,b,_⟩:=kk h;obtain⟨d,g1,_⟩:=m5 b;obtain⟨_,_,c2,_⟩:=jN g1;exact c2
theorem GY (h:(cw a hp).J F S w)(x:Int)(hq:S.q.length<=90000):
 Calls prog 125 #[aj hp,ah x] w fun e w'=>∃d,e=.returned (.tuple #[ah (S.pop a x).1,ah (S.pop a x).2.1])/\(cw a hp).J d (S.pop a x).2.2 w'/\b8 F w d w':=by
 have P:=zK h x;have l:=hide h;unfold cq.pop;by_cases hk:S.kx a x=5
 ·rw[aI hk];rw[hk] at P;have hr:∀w1,Below w.heap.size w w1->w1.cell? (aq hp 0)=some (aj a.pw)/\w1.cell? (aq a.pw 2)=some (aj a.sd)/\Calls prog 194 #[aj a.sd,ah x] w1 fun e w'=>∃d,e=.returned (.tuple #[ah (if dO x S.q<S.q.length then(S.q.getD (dO x S.q) (0,0)).2 else 0),.bool (decide (dO x S.q<S.q.length))])/\(cw a hp).J d (if dO x S.q<S.q.length then⟨S.s,S.r,S.q.take (dO x S.q)++S.q.drop (dO x S.q+1)⟩ else S) w'/\b8 F w d w':=fun w1 b=>by
   have j:=(cw a hp).below l.o b;refine⟨(eh j).h0,zL j,?_⟩
   obtain⟨s,g1,_,g3⟩:=kk j;refine(GV g1 x hq).mono ?_;rintro e w' ⟨d,rfl,n,o⟩
   obtain⟨f,j2,g⟩:=g3 _ _ _ n o;exact⟨f,rfl,j2,(b8.of b).trans g⟩
  have i:=hide hr;by_cases hi:dO x S.q<S.q.length
  ·rw[aI hi];simp only [if_pos hi,decide_eq_true hi] at i;generalize (S.q.getD (dO x S.q) (0,0)).2=v at*;generalize (⟨S.s,S.r,S.q.take (dO x S.q)++S.q.drop (dO x S.q+1)⟩:cq)=t at*;go_enter func125,ntmps125;go_wp2_with fail;refine P.mono ?_;rintro e w1 ⟨rfl,b⟩
   obtain⟨k0,p,k⟩:=i.o w1 b;go_wp2_with fail;refine k.mono ?_;rintro e m ⟨f,rfl,j2,g⟩
   have c:ay (_/\_):=⟨j2,g⟩
   go_wp2;go_ret2;exact⟨f,rfl,c.o.1,c.o.2⟩
  ·rw[aG hi];simp only [if_neg hi,decide_eq_false hi] at i;go_enter func125,ntmps125;go_wp2_with fail;refine P.mono ?_;rintro e w1 ⟨rfl,b⟩
   obtain⟨k0,p,k⟩:=i.o w1 b;go_wp2_with fail;refine k.mono ?_;rintro e m ⟨f,rfl,j2,g⟩
   have c:ay (_/\b8 F w f m):=⟨j2,g⟩
   go_wp2;go_ret2;exact⟨f,rfl,c.o.1,c.o.2⟩
 ·rw[aG hk];have q:(S.kx a x==5)=false:=by simpa using hk
  rw[q] at P;go_enter func125,ntmps125;go_wp2_with fail;refine P.mono ?_;rintro e w1 ⟨rfl,b⟩
  have c:ay ((cw a hp).J F S w1/\b8 F w F w1):=⟨(cw a hp).below l.o b,b8.of b⟩
  go_wp2;go_ret2;exact⟨F,rfl,c.o.1,c.o.2⟩
theorem GZ (h:(cw a hp).J F S w)(t g:Int)(hr:S.r.length<=90000)(hq:S.q.length<=90000):
 Calls prog 56 #[aj hp,ah t,ah g] w fun e w'=>∃i,e=.returned (ah (S.reg a t g).1)/\(cw a hp).J i (S.reg a t g).2 w'/\b8 F w i w':=by
 have P:=ui h t;obtain⟨h0,_⟩:=eh h;have q:ay ((cw a hp).J F S w):=h;unfold cq.reg;have m:ay (∀w1,Below w.heap.size w w1->Calls prog 121 #[aj hp,ah g] w1 fun e w'=>e=.returned (.bool (S.kx a g==5))/\Below w.heap.size w w'):=fun w1 b=>by
  refine(zK ((cw a hp).below q.o b) g).mono ?_;rintro e w' ⟨rfl,d⟩
  exact⟨rfl,b.trans (d.mono b.size)⟩
 have s:ay (∀w1,Below w.heap.size w w1->w1.cell? (aq hp 0)=some (aj a.pw)/\w1.cell? (aq a.pw 2)=some (aj a.sd)/\Calls prog 49 #[aj a.sd,.agg #[ah g,ah t]] w1 fun e w'=>∃i,e=.returned (.bool (!jP (S.r.length+S.q.length)))/\(cw a hp).J i (if 24<=S.r.length+S.q.length then S else⟨S.s,S.r++[(g,t)],S.q⟩) w'/\b8 F w i w'):=fun w1 b=>by
  have u:=(cw a hp).below q.o b;refine⟨(eh u).h0,zL u,?_⟩
  obtain⟨E,g1,_,g3⟩:=kk u;refine(EC g1 g t hr hq).mono ?_;rintro e w' ⟨i,rfl,x,A⟩
  obtain⟨F2,j2,n⟩:=g3 _ _ _ x A;exact⟨F2,rfl,j2,(b8.of b).trans n⟩
 generalize S.fx a t=f at*;generalize S.kx a t=k at*;by_cases hc:S.ex a t=0
 ·rw[aI hc];rw[hc] at P;by_cases hk:S.kx a g=5
  ·rw[aI hk];rw[hk] at m;by_cases j:24<=S.r.length+S.q.length
   ·rw[aI j];simp only [if_pos j,qx j] at s;go_enter func56,ntmps56;go_wp2_with fail;refine P.mono ?_;rintro e w1 ⟨rfl,b⟩
    have o:=m.o w1 b;go_wp2_with fail;refine o.mono ?_;rintro e l ⟨rfl,d⟩
    obtain⟨k0,B,v⟩:=s.o l d;go_wp2_with fail;refine v.mono ?_;rintro e p ⟨F2,rfl,j2,n⟩
    have HF:ay ((cw a hp).J F2 S p/\b8 F w F2 p):=⟨j2,n⟩
    exact ni
   ·rw[aG j];simp only [if_neg j,qy j] at s;generalize (⟨S.s,S.r++[(g,t)],S.q⟩:cq)=C at*;go_enter func56,ntmps56;go_wp2_with fail;refine P.mono ?_;rintro e w1 ⟨rfl,b⟩
    have o:=m.o w1 b;go_wp2_with fail;refine o.mono ?_;rintro e l ⟨rfl,d⟩
    obtain⟨k0,B,v⟩:=s.o l d;go_wp2_with fail;refine v.mono ?_;rintro e p ⟨F2,rfl,j2,n⟩
    have HF:ay ((cw a hp).J F2 C p/\b8 F w F2 p):=⟨j2,n⟩
    exact ni
  ·rw[aG hk];have D:(S.kx a g==5)=false:=by simpa using hk
   simp only [D] at m;go_enter func56,ntmps56;go_wp2_with fail;refine P.mono ?_;rintro e w1 ⟨rfl,b⟩
   have o:=m.o w1 b;go_wp2_with fail;refine o.mono ?_;rintro e l ⟨rfl,d⟩
   have HF:ay ((cw a hp).J F S l/\b8 F w F l):=⟨(cw a hp).below q.o d,b8.of d⟩
   go_wp2_with fail;go_ret;exact⟨F,rfl,HF.o.1,HF.o.2⟩
 ·rw[aG hc];generalize S.ex a t=c at*;go_enter func56,ntmps56;go_wp2_with fail;refine P.mono ?_;rintro e w1 ⟨rfl,b⟩
  have HF:ay ((cw a hp).J F S w1/\b8 F w F w1):=⟨(cw a hp).below q.o b,b8.of b⟩
  go_wp2_with fail;go_ret;exact⟨F,rfl,HF.o.1,HF.o.2⟩
end
section
variable {a:Wc}{hp:Nat}{F:Nat->Prop}{S:cq}{w:ax}
theorem zM (h:(cw a hp).J F S w)(hq:S.q.length+S.r.length<=90000):
 Calls prog 50 #[aj a.pw] w fun e w'=>∃b,e=.returned (ah (S.code a))/\(cw a hp).J b (S.cut a) w'/\b8 F w b w':=by
 obtain⟨i,g1,_,g3⟩:=kk h;refine(Eu g1 hq).mono ?_;rintro e w' ⟨b,rfl,c,d⟩
 obtain⟨f,j2,g⟩:=g3 _ _ _ c d;exact⟨f,rfl,j2,g⟩
theorem zN (h:(cw a hp).J F S w)(hq:S.q.length+S.r.length<=90000)(c:S.fN a=false->∃G,iE (S.k5 a) (S.dD a) G/\G 0 (S.k5 a,0)):
 Calls prog 37 #[aj a.pw] w fun e w'=>∃b,e=.returned (ah (S.ij a))/\(cw a hp).J b (S.dz a) w'/\b8 F w b w':=by
 obtain⟨j,g1,_,g3⟩:=kk h;refine(Gv g1 hq c).mono ?_;rintro e w' ⟨b,rfl,d,f⟩
 obtain⟨g,j2,i⟩:=g3 _ _ _ d f;exact⟨g,rfl,j2,i⟩
theorem G0 (h:(cw a hp).J F S w)(m:Int)(hq:S.q.length+S.r.length<=90000)(u:S.fN a=false->∃G,iE (S.k5 a) (S.dD a) G/\G 0 (S.k5 a,0)):
 Calls prog 193 #[aj hp,ah m] w fun e w'=>∃c,e=.returned (ah (S.room a m).1)/\(cw a hp).J c (S.room a m).2 w'/\b8 F w c w':=by
 unfold cq.room;by_cases hm:m<=(a.N:Int)-S.s.y
 ·rw[aI hm];refine(Ff h m hm).mono ?_;rintro e w' ⟨rfl,hb⟩
  exact⟨F,rfl,(cw a hp).below h hb,b8.of hb⟩
 rw[aG hm];obtain⟨h0,c0,_⟩:=eh h;have f:=(lz h).1;have n1:=f.hN';have v:=f.hy;have x:=f.hg;have n4:=f.hO;have P:=oQ w f;have n:ay (∀w1,Below w.heap.size w w1->(w1.cell? (aq hp 0)=some (aj a.pw)/\w1.cell? (aq a.pw 0)=some (aj a.p))/\Calls prog 22 #[aj a.p] w1 fun e w'=>e=.returned (.tuple #[ah S.s.y,ah S.s.g])/\Below w.heap.size w w'):=fun w1 b=>by
  have g:=(cw a hp).below h b;obtain⟨h0,c0,_⟩:=eh g;refine⟨⟨h0,c0⟩,?_⟩
  refine(kE w1 (lz g).1).mono ?_;rintro e w' ⟨rfl,d⟩
  exact⟨rfl,b.trans (d.mono b.size)⟩
 have o:ay (∀w1,Below w.heap.size w w1->w1.cell? (aq hp 0)=some (aj a.pw)/\(Calls prog 50 #[aj a.pw] w1 fun e w'=>∃c,e=.returned (ah (S.code a))/\(cw a hp).J c (S.cut a) w'/\b8 F w c w')/\(Calls prog 37 #[aj a.pw] w1 fun e w'=>∃c,e=.returned (ah (S.ij a))/\(cw a hp).J c (S.dz a) w'/\b8 F w c w')):=fun w1 b=>by
  have g:=(cw a hp).below h b;refine⟨(eh g).h0,(zM g hq).mono ?_,(zN g hq u).mono ?_⟩
  ·rintro e w' ⟨c,rfl,p,q⟩
   exact⟨c,rfl,p,(b8.of b).trans q⟩
  ·rintro e w' ⟨c,rfl,p,q⟩
   exact⟨c,rfl,p,(b8.of b).trans q⟩
 clear h f u;by_cases hy:(S.s.y:Int)<=(a.O:Int)-S.s.g
 ·rw[aI hy];dsimp only;generalize S.cut a=s at*;generalize S.code a=cd at*;go_enter func193,ntmps193;go_wp2_with fail;refine P.mono ?_;clear P;rintro e w1 ⟨rfl,b⟩
  obtain⟨⟨g0,g1⟩,i⟩:=n.o w1 b;clear n h0 c0 b;go_wp2_with fail;refine i.mono ?_;clear i;rintro e t ⟨rfl,d⟩
  obtain⟨k0,j,_⟩:=o.o t d;clear o g0 g1 d;go_wp2_with fail;refine j.mono ?_;clear j;rintro e k ⟨F2,rfl,j2,l⟩
  have HF:ay ((cw a hp).J F2 s k/\b8 F w F2 k):=⟨j2,l⟩
  clear j2 l k0;exact ni
 ·rw[aG hy];dsimp only;generalize S.dz a=s at*;generalize S.ij a=cd at*;go_enter func193,ntmps193;go_wp2_with fail;refine P.mono ?_;clear P;rintro e w1 ⟨rfl,b⟩
  obtain⟨⟨g0,g1⟩,i⟩:=n.o w1 b;clear n h0 c0 b;go_wp2_with fail;refine i.mono ?_;clear i;rintro e t ⟨rfl,d⟩
  obtain⟨k0,_,j⟩:=o.o t d;clear o g0 g1 d;go_wp2_with fail;refine j.mono ?_;clear j;rintro e k ⟨F2,rfl,j2,l⟩
  have HF:ay ((cw a hp).J F2 s k/\b8 F w F2 k):=⟨j2,l⟩
  clear j2 l k0;exact ni
theorem G1 (kd:Int)(rl:List Nat)(o:Option Addr)(cap:Nat)(b:cq)(a2:rl.length<=12)(hk:hc kd rl.length=0)(room:b.s.y+1+rl.length<=a.N)
 (hv:0<rl.length->∃d,o=ak d/\¬F d/\d<w.heap.size/\∀i,i<rl.length->w.cell? (aq d i)=some (ah ((rl.getD i 0:Nat):Int)))(hr:∀i,i<rl.length->rl.getD i 0<12)
 (h:(cw a hp).J F S w)
 (E:Calls prog 193 #[aj hp,ah (1+rl.length)] w fun e w'=>∃c,e=.returned (ah 0)/\(cw a hp).J c b w'/\b8 F w c w'):
 Calls prog 123 #[aj hp,ah kd,.slice o rl.length cap] w fun e w'=>∃c,e=.returned (.tuple #[ah (ew 3 b.s.y),ah 0])/\(cw a hp).J c (b.put a kd rl) w'/\b8 F w c w':=by
 have s:iL a.N b.s.y kd rl.length=true:=by unfold iL;rw[hk];simp;omega
 have G:iU a.N b.s.y kd rl.length=b.s.y+1+rl.length:=by unfold iU;rw[aI s];omega
 have H:oT a.N b.s.y kd rl.length=b.s.y:=by unfold oT;rw[aI s]
 have I:ay (0<rl.length->∃d,o=ak d/\¬F d/\d<w.heap.size/\∀i,i<rl.length->w.cell? (aq d i)=some (ah ((rl.getD i 0:Nat):Int))):=hv;have am:ay (∀i,i<rl.length->rl.getD i 0<12):=hr;have J:ay (iU a.N b.s.y kd rl.length=b.s.y+1+rl.length/\oT a.N b.s.y kd rl.length=b.s.y):=⟨G,H⟩
 have an:ay (b.put a kd rl=⟨{b.s with y:=b.s.y+1+rl.length,ws:=iC b.s.rs b.s.y (fq a.N b.s.y kd rl.length b.s.ws) rl rl.length},b.r,b.q⟩):=rfl;have n1:=(lz h).1.hN';generalize b.put a kd rl=ao at*;clear hv hr s G H hk h;go_enter func123,ntmps123;go_wp2_with fail;refine E.mono ?_;clear E;rintro e w1 ⟨K,rfl,u,L⟩
 obtain⟨h0,c0,_⟩:=eh u;obtain⟨f,n⟩:=lz u;have bb:=f.hy;have bd:=f.hg;have n4:=f.hO;have v:=C3 kd rl.length w1 f;rw[J.o.1,J.o.2] at v;have p:ay (∀w' y g ws,At w' a.p a.q a.N a.O y g ws->c_ a.p a.q w1 w'->∃c,(cw a hp).J c ⟨{b.s with y:=y,g:=g,ws:=ws},b.r,b.q⟩ w'/\b8 K w1 c w'):=n;have M:ay (b8 F w K w1):=L;clear u f n L;go_wp2_with fail;refine v.mono ?_;clear v;rintro e N ⟨rfl,O,P⟩
 obtain⟨A,j2,q⟩:=p.o _ _ _ _ O P;have q:=M.o.trans q;have Q:∀(c:Nat->Prop)(w':ax),b8 F w c w'->∀i,i<rl.length->∃d,o=ak d/\w'.cell? (aq d i)=some (ah ((rl.getD i 0:Nat):Int)):=fun c w' t i hi=>by obtain⟨d,e,g1,g2,g3⟩:=I.o V;exact⟨d,e,(aP (a:=⟨d,i,none⟩) (t.fr.block d g2 g1)).trans (g3 i hi)⟩
 have ap:ay (∀(c:Nat->Prop)(w':ax),b8 F w c w'->∀i,i<rl.length->∃d,o=ak d/\w'.cell? (aq d i)=some (ah ((rl.getD i 0:Nat):Int))):=Q;have R:ay ((cw a hp).J A ⟨{b.s with y:=b.s.y+1+rl.length,ws:=iC b.s.rs b.s.y (fq a.N b.s.y kd rl.length b.s.ws) rl 0},b.r,b.q⟩ N/\b8 F w A N):=⟨j2,q⟩
 clear O P j2 q p I Q M h0 c0;go_wp2_with fail
 go_loopw [33] (fun iv wr=>∃(j:Nat)(c:Nat->Prop),j<=rl.length/\iv=ah j/\ay ((cw a hp).J c ⟨{b.s with y:=b.s.y+1+rl.length,ws:=iC b.s.rs b.s.y (fq a.N b.s.y kd rl.length b.s.ws) rl j},b.r,b.q⟩ wr/\b8 F w c wr)) (fun iv _=>rl.length-(intOf iv).toNat)
 case atStart=>exact⟨0,A,aX _,rfl,R⟩
 case round=>
  clear R;obtain⟨j,c,be,rfl,k⟩:=hrel;by_cases U:j<rl.length
  ·obtain⟨d,rfl,ar⟩:=ap.o c wr k.o.2 j U;have W:=am.o j U;have X:ay (iC b.s.rs b.s.y (fq a.N b.s.y kd rl.length b.s.ws) rl (j+1)=(iC b.s.rs b.s.y (fq a.N b.s.y kd rl.length b.s.ws) rl j).set (b.s.y+1+j) (b.s.rs.getD (rl.getD j 0) 0)):=rfl;generalize rl.getD j 0=r at*;have aB:ay (∀(l:Nat->Prop)(m:ax),(∀i,i<12->m.cell? (aq a.nb i)=some (ah (b.s.rs.getD i 0))/\m.frozen? (aq a.nb i)=false)->m.cell? (aq a.nb r)=some (ah (b.s.rs.getD r 0))):=fun _ _ g=>(g r W).1;have Y:=(cw a hp).below k.o.1 (aH _ wr).drew;obtain⟨h0,c0,c3,rt,aF,lp,lw,ln⟩:=eh k.o.1;obtain⟨r1,_⟩:=rt r W;obtain⟨f,n⟩:=lz Y;dsimp only at r1 f n;have ab:dd a.N (b.s.y+1+rl.length) b.s.g ((b.s.y:Int)+1+j)=true:=iM V V;have B:=k7 ((b.s.y:Int)+1+j) (b.s.rs.getD r 0) wr.drew f;rw[ab,aI rfl,show((b.s.y:Int)+1+j).toNat=b.s.y+1+j by omega,<-X.o] at B;have p:ay (∀w' y g ws,At w' a.p a.q a.N a.O y g ws->c_ a.p a.q wr.drew w'->∃l,(cw a hp).J l ⟨{b.s with y:=y,g:=g,ws:=ws},b.r,b.q⟩ w'/\b8 c wr.drew l w'):=n;have j0:(0:Int)<=(j:Int):=V;have bg:(j:Int)<(rl.length:Int):=V;have q0:(0:Int)<=(r:Int):=V;have q1:(r:Int)<12:=V;have b6:IntKind.i64.wrap ((b.s.y:Int)+1)=(b.s.y:Int)+1:=by rw[bk];omega
   have aR:IntKind.i64.wrap ((b.s.y:Int)+1+(j:Int))=(b.s.y:Int)+1+j:=by rw[bk];omega
   have aV:ay (b8 F w c wr.drew):=k.o.2.below (aH _ wr).drew;clear Y f n rt ab X aF k;generalize b.s.rs.getD r 0=x at*;go_wp2_with fail
   go_region_held3 (fun w'=>w'.cell? (aq hp 0)=some (aj a.pw)/\w'.cell? (aq a.pw 0)=some (aj a.p)/\w'.cell? (aq a.pw 3)=some (.slice (ak a.nb) 12 12)/\w'.cell? (aq a.nb r)=some (ah x)) (go_keep)
    (first
      |(go_at_call 93;refine B.mono ?_;clear B;rintro e m ⟨rfl,ad,s5⟩;obtain⟨l,dD,ag⟩:=p.o _ _ _ _ ad s5;have a0:ay ((cw a hp).J l ⟨{b.s with y:=b.s.y+1+rl.length,ws:=iC b.s.rs b.s.y (fq a.N b.s.y kd rl.length b.s.ws) rl (j+1)},b.r,b.q⟩ m/\b8 F w l m):=⟨dD,aV.o.trans ag⟩;obtain⟨g0,g1,g3,C,_⟩:=eh dD;dsimp only at C;have a1:=aB.o l m C;clear ad s5 dD ag C))
   clear h0 c0 c3 r1 g0 g1 g3 a1 ar b6 aR;go_wp2_with fail;go_roundw
   case rel=>exact⟨j+1,l,V,af,a0⟩
   case measure=>simp[intOf];omega
  ·obtain rfl:j=rl.length:=V;go_wp2_with fail;refine(sg (b.s.y:Int) wr).mono ?_;rintro e ai ⟨rfl,D⟩
   have al:ay ((cw a hp).J c ao ai/\b8 F w c ai):=⟨by rw[an.o];exact(cw a hp).below k.o.1 D,k.o.2.below D⟩
   clear D k;go_wp2_with fail;go_ret2;exact⟨c,rfl,al.o.1,al.o.2⟩
theorem G5 (kd cd:Int)(n:Nat)(k:Option Addr)(cap:Nat)(c:cq)(hn:n<=12)(hc:cd≠0)
 (f:Calls prog 193 #[aj hp,ah (1+n)] w fun e w'=>∃b,e=.returned (ah cd)/\(cw a hp).J b c w'/\b8 F w b w'):
 Calls prog 123 #[aj hp,ah kd,.slice k n cap] w fun e w'=>∃b,e=.returned (.tuple #[ah 0,ah cd])/\(cw a hp).J b c w'/\b8 F w b w':=by
 have cb:(cd==0)=false:=by simpa using hc
 clear hc;go_enter func123,ntmps123;go_wp2_with fail;refine f.mono ?_;clear f;rintro e w1 ⟨d,rfl,g,i⟩
 have j:ay ((cw a hp).J d c w1/\b8 F w d w1):=⟨g,i⟩
 clear g i;go_wp2_with fail;go_ret2;exact⟨d,rfl,j.o.1,j.o.2⟩
theorem pD (h:(cw a hp).J F S w)(kd:Int)(rl:List Nat)(b:Option Addr)(cap:Nat)(hq:S.q.length+S.r.length<=90000)(k:S.fN a=false->∃G,iE (S.k5 a) (S.dD a) G/\G 0 (S.k5 a,0))(hk:hc kd rl.length=0)
 (hv:0<rl.length->∃d,b=ak d/\¬F d/\d<w.heap.size/\∀i,i<rl.length->w.cell? (aq d i)=some (ah ((rl.getD i 0:Nat):Int)))(hr:∀i,i<rl.length->rl.getD i 0<12)
 (room:(S.room a (1+rl.length)).1=0->(S.room a (1+rl.length)).2.s.y+1+rl.length<=a.N):
 Calls prog 123 #[aj hp,ah kd,.slice b rl.length cap] w fun e w'=>∃g,e=.returned (.tuple #[ah (S.bZ a kd rl).1,ah (S.bZ a kd rl).2.1])/\(cw a hp).J g (S.bZ a kd rl).2.2 w'/\b8 F w g w':=by
 have j:rl.length<=12:=by have:=iS kd rl.length hk;omega
 have f:=G0 h (1+rl.length) hq k;unfold cq.bZ;by_cases c:(S.room a (1+rl.length)).1=0
 ·rw[aI c];rw[c] at f;exact G1 kd rl b cap _ j hk (room c) hv hr h f
 ·rw[aG c];exact G5 kd _ rl.length b cap _ j c f
end
section
variable {a:Wc}{hp:Nat}{F:Nat->Prop}{S:cq}{w:ax}
theorem G6 (h:(cw a hp).J F S w)(k:Int)(R:Nat)(A B I n:Int)(J:R<12)(hc:dJ k R A B n=0)(k1:k≠9)(K:k≠12)(L:k≠15)(M:k≠16)(v:Int)(c:cq)
 (C:∀d w',(cw a hp).J d S w'->Calls prog 57 #[aj hp,dK k R A B I n] w' fun e m=>∃f,e=.returned (.tuple #[ah v,ah 0])/\(cw a hp).J f c m/\b8 d w' f m):
 Calls prog 20 #[aj hp,dK k R A B I n] w fun e w'=>∃d,e=.returned (ah 0)/\(cw a hp).J d ⟨{c.s with rs:=c.s.rs.set R v},c.r,c.q⟩ w'/\b8 F w d w':=by
 have q:=au w (cz k R A B I n)
 have D:=aO w (.cells #[.int .i64 k,.int .i64 (R:Int),.int .i64 A,.int .i64 B,.int .i64 I,.int .i64 n] 44)
 have s:=jx k R A B I n (w.alloc (cz k R A B I n))
 rw[hc] at s;have N:ay (a.nb<w.heap.size):=(eh h).ln;have i:ay ((cw a hp).J F S (w.alloc (cz k R A B I n))/\Below w.heap.size w (w.alloc (cz k R A B I n))/\(w.alloc (cz k R A B I n)).heap[w.heap.size]?=some (cz k R A B I n)/\∀b,F b->b<w.heap.size):=⟨(cw a hp).below h q,q,D,(cw a hp).lt h⟩
 have E:ay (∀d w',(cw a hp).J d S w'->Calls prog 57 #[aj hp,dK k R A B I n] w' fun e m=>∃f,e=.returned (.tuple #[ah v,ah 0])/\(cw a hp).J f c m/\b8 d w' f m):=C;have ab:(k==9)=false:=by simpa using k1
 have ad:(k==12)=false:=by simpa using K
 have ag:(k==15)=false:=by simpa using L
 have ai:(k==16)=false:=by simpa using M
 clear h q D C hc;go_enter func20,ntmps20;go_wp2_with fail;generalize w.alloc (cz k R A B I n)=w0 at*;generalize O:w.heap.size=g at*;refine s.mono ?_;clear s;rintro e w1 ⟨rfl,o⟩
 have j:ay ((cw a hp).J F S w1/\Below g w w1/\w1.heap[g]?=some (cz k R A B I n)/\∀b,F b->b<g):=⟨(cw a hp).below i.o.1 o,i.o.2.1.trans (o.mono (by have:=lt_of_some i.o.2.2.1;omega)),(o.block g (lt_of_some i.o.2.2.1)).trans i.o.2.2.1,i.o.2.2.2⟩
 obtain⟨q0,q1,P,q3,Q,U⟩:=eu j.o.2.2.1;clear i o;go_wp2_with fail;refine(E.o F w1 j.o.1).mono ?_;clear E;rintro e l ⟨f,rfl,p,t⟩
 have G:=(t.fr.block g (lt_of_some j.o.2.2.1) (fun W=>by have:=j.o.2.2.2 g W;omega)).trans j.o.2.2.1;obtain⟨u0,X,_⟩:=eu G;obtain⟨h0,c0,c3,rt,rl,lp,lw,ln⟩:=eh p;obtain⟨r1,Y⟩:=rt R J;have al:(0:Int)<=(R:Int):=V;have am:(R:Int)<12:=V;have an:=lt_of_some G;have nx:a.nb≠g:=by have:=N.o;omega
 obtain⟨n1,ao⟩:=Fa p;have u:ay ((cw a hp).J f c l.drew/\b8 F w f l.drew):=⟨(cw a hp).below p (aH _ l).drew,((b8.of (by rw[O];exact j.o.2.1)).trans t).below (aH _ l).drew⟩
 clear rt p t j q0 q1 P q3 Q U;go_wp2_with fail
 go_region_held3 (fun w'=>w'.cell? (aq hp 0)=some (aj a.pw)/\w'.cell? (aq a.pw 3)=some (.slice (ak a.nb) 12 12)/\w'.cell? (aq g 1)=some (ah (R:Int))) (go_keep) (fail)
 obtain⟨x,cA,t3⟩:=E_ u.o.1 R v;have H:ay ((cw a hp).J x ⟨{c.s with rs:=c.s.rs.set R v},c.r,c.q⟩ (l.drew.setCell ⟨a.nb,R,none⟩ (.int .i64 v))/\b8 F w x (l.drew.setCell ⟨a.nb,R,none⟩ (.int .i64 v))):=⟨cA,u.o.2.trans t3⟩
 clear cA t3 u h0 c0 c3 r1 Y u0 X;go_wp2_with fail;go_ret;exact⟨rfl,x,H.o.1,H.o.2⟩
end
end Go.Proofs.YtpkjkjhanlbcoaaGreat
