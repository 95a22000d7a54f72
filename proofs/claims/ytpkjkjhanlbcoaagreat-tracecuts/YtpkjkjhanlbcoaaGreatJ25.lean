import Derived.Test.YtpkjkjhanlbcoaaGreatJ24
open Array renaming size->I
open Bool renaming false->K,true->Nc
open False renaming elim->rq
open Go renaming Addr->bG,Calls->J
open Go.Ending renaming returned->E
open Go.IntKind renaming i64->Q
open Go.Obj renaming cells->M5
open Go.Proofs.Tryz renaming prog->O
open Go.RowKit renaming Below->C
open Go.Value renaming agg->bF,bool->bK,int->U,ownBlock->P,slice->M0,tuple->a8
open Go.World renaming alloc->bj,cell?->V,heap->G,ownsRow->aC,setCell->ay
open Int renaming toNat->M
open List renaming append_nil->ji,contains->bR,contains_iff_mem->bP,filter->CB,filter_append->r2,filter_cons_of_neg->j4,filter_cons_of_pos->j5,getD->M8,length->L,length_cons->bZ,mem_append->bE,mem_cons_self->ve,mem_singleton->bQ,range->k4,take_succ_eq_append_getElem->ry
open Option renaming none->Y,some->Z
namespace Go.Proofs.YtpkjkjhanlbcoaaGreat
set_option maxRecDepth 100000
set_option maxHeartbeats 8000000
open Tryz
open Go.RowKit W Kp cq
theorem sG {g:eg}(hg:∀T wt,ey T wt->dB T wt (g T wt))(n o:Int):∀(l:List S6)(s:cn)(j:Nat),dq s j->j+L l<=9000->dq (s.run g n o l) (j+L l)
 |[],s,j,h,_=>h
 |x::l,s,j,h,hl=>by have hl:j+(L l+1)<=9000:=hl;have e:=sG hg n o l (s.sx g n o x).2 (j+1) (h.fY aa (hg _ _ h.iv) _ _ _ _ _ _) aa;rw[bZ,show j+(L l+1)=j+1+L l by omega];exact e
theorem CL {g:eg}(hg:∀T wt,ey T wt->dB T wt (g T wt))(n o:Nat)(l:List S6)(hl:L l<=2000):L (eu g n o l).1=12/\L (eu g n o l).2.2<=10000/\∀nd∈(eu g n o l).2.2,L nd.2<=20000:=by have h:dq ((fG n o).2.run g n o l) (0+L l):=sG hg n o l _ 0 dq.start aa;obtain⟨q1,b,q3⟩:=BW (h.tx aa) ((fG n o).2.run g n o l).rs;exact⟨q1.trans h.rl,b,q3⟩
def m_:List S6:=[⟨4,0,0,0,0,0⟩,⟨15,0,0,0,0,0⟩,⟨11,0,1,0,0,0⟩]
def tA:Wc:={pw:=0,p:=0,q:=0,pc:=0,sd:=0,nb:=0,N:=16,O:=8}
def qt:cw:=((fG 16 8).1.hd tA 4 0 0 0 0 0).2
def qu:cw:=(qt.hd tA 15 0 0 0 0 0).2
def pm:cw:=(qu.hd tA 11 0 1 0 0 0).2
theorem Ms {g:eg}(hg:∀T wt,ey T wt->dB T wt (g T wt)):fE g 16 8 m_=[0,0,2]/\L (eu g 16 8 m_).2.2=1:=by
 have b:cO tA (fG 16 8).1.s:=⟨ae,ae,ae,ae,ae,ae,ae⟩
 have b1:cO tA qt.s:=⟨ae,ae,ae,by decide+kernel,by decide+kernel,by decide+kernel,by decide+kernel⟩
 have b2:cO tA qu.s:=⟨ae,ae,ae,by decide+kernel,by decide+kernel,by decide+kernel,by decide+kernel⟩
 have b3:cO tA pm.s:=⟨ae,ae,ae,by decide+kernel,by decide+kernel,by decide+kernel,by decide+kernel⟩
 have k0:=d5.start tA 16 8;have k1:d5 tA qt 1:=(k0.hd b 4 0 0 0 0 0).1;have c:d5 tA qu 2:=(k1.hd b1 15 0 0 0 0 0).1;obtain⟨c1,m1,n,o,d⟩:lN tA ((fG 16 8).1.hd tA 4 0 0 0 0 0) ((fG 16 8).2.fY g tA.N tA.O 4 0 0 0 0 0):=(cE.start tA 16 8).hds k0 b hg 4 0 0 0 0 0;obtain⟨c2,p,q,G2,f⟩:lN tA (qt.hd tA 15 0 0 0 0 0) (((fG 16 8).2.fY g tA.N tA.O 4 0 0 0 0 0).2.fY g tA.N tA.O 15 0 0 0 0 0):=d.hds k1 b1 hg 15 0 0 0 0 0;obtain⟨c3,s,t,G3,i⟩:lN tA (qu.hd tA 11 0 1 0 0 0) ((((fG 16 8).2.fY g tA.N tA.O 4 0 0 0 0 0).2.fY g tA.N tA.O 15 0 0 0 0 0).2.fY g tA.N tA.O 11 0 1 0 0 0):=f.hds c b2 hg 11 0 1 0 0 0;have j:((fG 16 8).1.hd tA 4 0 0 0 0 0).1=0:=by decide+kernel
 have k:(qt.hd tA 15 0 0 0 0 0).1=0:=by decide+kernel
 have l:(qu.hd tA 11 0 1 0 0 0).1=2:=by decide+kernel
 have m:dq ((fG 16 8).2.run g (16:Nat) (8:Nat) m_) (0+3):=sG hg _ _ m_ _ 0 dq.start ae;have hv:=(i.view b3 (aU m.tj ae)).2;refine⟨?_,?_⟩
 ·show[_,_,_]=_;rw[j] at c1;rw[k] at c2;rw[l] at c3;exact congr (congrArg List.cons c1.symm) (congr (congrArg List.cons c2.symm) (congr (congrArg List.cons c3.symm) rfl))
 ·have e:(eu g 16 8 m_).2.2=(i2 tA.N pm.s.y pm.s.g pm.s.ws pm.q pm.s.rs).2.2:=hv.symm;rw[e];decide+kernel
def ei (x:S6):Bool:=x.k==15||x.k==16
def ib (x:S6):Bool:=!(x.k==6||x.k==7||x.k==8||x.k==15||x.k==16)
theorem wA {x:S6}:ib x=Nc↔x.k≠6/\x.k≠7/\x.k≠8/\x.k≠15/\x.k≠16:=by unfold ib;simp;omega
def cn.kF (s:cn)(g:eg)(n o:Int):List S6->List Int
 |[]=>[]
 |x::l=>if ei x=Nc then(s.sx g n o x).2.kF g n o l else(s.sx g n o x).1::(s.sx g n o x).2.kF g n o l
section
variable {X:Nat->Prop}{s s':cn}{g:eg}{j j':Nat}{n o n' o':Int}
theorem d9.b_ (h:d9 X s s')(G:dq s j)(e:dq s' j')(q:j<=10000)(u:j'<=10000)(hg:∀T wt,ey T wt->dB T wt (g T wt)){kd:Int}(hk:kd=1\/kd=2){l:List (Int×Int)}(hl:∀v∈l,∃i,v=M8 s.rs i (0,0)):
 (s.b_ g n o kd l).2.1=3\/(s'.b_ g n' o' kd l).2.1=3\/∃v c f t b,s.b_ g n o kd l=(v,c,t)/\s'.b_ g n' o' kd l=(v,c,b)/\(v.1=3->f (M v.2))/\d9 f t b:=by
 obtain⟨c1,x,k⟩:=h.room (G.ox q) (hg _ _ G.iv) n o (1+L l)
 obtain⟨c2,B,m⟩:=k.symm.room (e.ox u) (hg _ _ e.iv) n' o' (1+L l)
 have er:(s.room g n o (1+L l)).2.rs=s.rs:=xA _ _ _ _ _;unfold cn.b_;generalize s.room g n o (1+L l)=P at*;generalize s'.room g n' o' (1+L l)=w at*;obtain⟨c,t⟩:=P;obtain⟨F,b⟩:=w;dsimp only at c1 k c2 m er⊢;rcases c1 with rfl|rfl
 ·rcases c2 with rfl|rfl
  ·rw[aJ rfl,aJ rfl];have d:=m.symm;refine aK (aK ⟨_,_,_,_,_,rfl,by rw[d.tl],fun _=>aK (Int.toNat_natCast _),d.put hk (fun v hv p=>?_)⟩)
   obtain⟨i,rfl⟩:=hl v hv;rw[<-er] at p⊢;exact d.root i p
  ·exact aK (aM rfl)
 ·exact aM rfl
theorem d9.ss (h:d9 X s s')(G:dq s j)(e:dq s' j')(f:j<=10000)(i:j'<=10000)(hg:∀T wt,ey T wt->dB T wt (g T wt))(k:Int)(A B:Nat)(I m:Int)(q:k≠6)(u:k≠7)(w:k≠8):
 (s.rt g n o k A B I m).2.1=3\/(s'.rt g n' o' k A B I m).2.1=3\/∃v c l t p,s.rt g n o k A B I m=(v,c,t)/\s'.rt g n' o' k A B I m=(v,c,p)/\(v.1=3->l (M v.2))/\d9 l t p:=by
 by_cases b:k=4
 ·unfold cn.rt;rw[h.rs,aI aa,aI aa,aJ b,aI aa,aI aa,aJ b];refine h.b_ G e f i hg (aM rfl) (fun v hv=>?_)
  rcases List.mem_cons.1 hv with rfl|hv
  ·exact⟨_,rfl⟩
  ·exact⟨_,bQ.1 hv⟩
 by_cases d:k=5
 ·unfold cn.rt;rw[h.rs,aI aa,aI aa,aI b,aJ d,aI aa,aI aa,aI b,aJ d];exact h.b_ G e f i hg (aK rfl) (fun v hv=>⟨_,List.eq_of_mem_replicate hv⟩)
 obtain⟨v,c,x,F,hv⟩:=h.rt g n o n' o' k A B I m b d q u w;exact aK (aK ⟨v,c,X,s,s',x,F,hv,h⟩)
theorem d9.sx (h:d9 X s s')(G:dq s j)(N:dq s' j')(S:j<=10000)(W:j'<=10000)(hg:∀T wt,ey T wt->dB T wt (g T wt)){x:S6}(ab:ib x=Nc):
 (s.sx g n o x).1=3\/(s'.sx g n' o' x).1=3\/((s'.sx g n' o' x).1=(s.sx g n o x).1/\∃d,d9 d (s.sx g n o x).2 (s'.sx g n' o' x).2):=by
 obtain⟨u,w,F,l,p⟩:=wA.1 ab;obtain⟨k,R,A,B,I,m⟩:=x;dsimp only at u w F l p;unfold cn.sx cn.fY;dsimp only;by_cases c:d7 k R A B m=0
 ·rw[aJ c,aJ c];by_cases f:k=9
  ·rw[aJ f,aJ f,h.rs];unfold cn.reg;rw[h.Mk,h.symm.gd (h.root _),aI (fun q=>by cases q.2),aI (fun q=>by cases q.2)];exact aK (aK ⟨rfl,X,h⟩)
  rw[aI f,aI f];by_cases i:k=12
  ·rw[aJ i,aJ i,h.rs];unfold cn.set;rw[h.fc (h.root _)];by_cases b:s.fc (M8 s.rs (M A) (0,0)) I=0
   ·rw[aJ b,aJ b];exact aK (aK ⟨rfl,X,h.ig (h.root _ (CG b).1) _ (h.root _)⟩)
   ·rw[aI b,aI b];exact aK (aK ⟨rfl,X,h⟩)
  rw[aI i,aI i,aI l,aI l,aI p,aI p];rcases h.ss (n:=n) (o:=o) (n':=n') (o':=o') G N S W hg k (M A) (M B) I m u w F with e|e|⟨v,c,d,t,ai,ad,ag,hv,ht⟩
  ·refine aM ?_;rw[aI aa];exact e
  ·refine aK (aM ?_)
   rw[aI aa];exact e
  ·rw[ad,ag];dsimp only;by_cases b:c=0
   ·rw[aJ b,aJ b];exact aK (aK ⟨rfl,d,ht.Mf _ hv⟩)
   ·rw[aI b,aI b];exact aK (aK ⟨rfl,d,ht⟩)
 ·rw[aI c,aI c];exact aK (aK ⟨rfl,X,h⟩)
theorem d9.Mt (h:d9 X s s')(c:dq s' j')(e:j'<=10000)(hg:∀T wt,ey T wt->dB T wt (g T wt)){x:S6}(d:ei x=Nc):∃b,d9 b s (s'.sx g n' o' x).2:=by
 obtain⟨k,R,A,B,I,m⟩:=x;have hk:k=15\/k=16:=by unfold ei at d;simpa using d
 unfold cn.sx cn.fY;dsimp only;have key:∀mj,∃b,d9 b s (s'.cut (g s'.T s'.wt) o' mj):=fun mj=>by obtain⟨b,f⟩:=h.symm.cut (c.ox e) (hg _ _ c.iv) o' mj;exact⟨b,f.symm⟩
 split
 ·rw[aI aa,aI aa];rcases hk with rfl|rfl
  ·rw[aJ rfl];exact key _
  ·rw[aI ae,aJ rfl];exact key _
 ·exact⟨X,h⟩
end
theorem wB {g:eg}(hg:∀T wt,ey T wt->dB T wt (g T wt))(n o n' o':Int):∀(l:List S6)(X:Nat->Prop)(s b:cn)(j d:Nat),d9 X s b->dq s j->dq b d->j+L l<=9000->d+L l<=9000->(∀x∈l,ei x=K->ib x=Nc)->
 3∈s.hY g n o (l.filter (fun x=>!ei x))\/3∈b.kF g n' o' l\/(b.kF g n' o' l=s.hY g n o (l.filter (fun x=>!ei x))/\∃t,d9 t (s.run g n o (l.filter (fun x=>!ei x))) (b.run g n' o' l))
 |[],X,s,b,_,_,h,_,_,_,_,_=>aK (aK ⟨rfl,X,h⟩)
 |x::l,X,s,b,j,d,h,G,f,u,v,hs=>by
  rw[bZ] at u v;have G2:dq (b.sx g n' o' x).2 (d+1):=f.fY aa (hg _ _ f.iv) _ _ _ _ _ _;by_cases c:ei x=Nc
  ·obtain⟨i,k⟩:=h.Mt (n':=n') (o':=o') f aa hg c;have w:=wB hg n o n' o' l i s _ j (d+1) k G G2 aa aa (fun y hy=>hs y (aW _ hy))
   have m:(x::l).filter (fun x=>!ei x)=l.filter (fun x=>!ei x):=by rw[j4];rw[c];decide
   have p:b.kF g n' o' (x::l)=(b.sx g n' o' x).2.kF g n' o' l:=by show(if _ then _ else _)=_;rw[aJ c]
   rw[m,p];exact w
  ·have c:ei x=K:=by simpa using c
   have m:(x::l).filter (fun x=>!ei x)=x::l.filter (fun x=>!ei x):=by rw[j5];rw[c];rfl
   have p:b.kF g n' o' (x::l)=(b.sx g n' o' x).1::(b.sx g n' o' x).2.kF g n' o' l:=by show(if _ then _ else _)=_;rw[aI (by rw[c];decide)]
   have B:dq (s.sx g n o x).2 (j+1):=G.fY aa (hg _ _ G.iv) _ _ _ _ _ _;rw[m,p];show 3∈(s.sx g n o x).1::(s.sx g n o x).2.hY g n o _\/_\/_=(s.sx g n o x).1::(s.sx g n o x).2.hY g n o _/\_;rcases h.sx (n:=n) (o:=o) (n':=n') (o':=o') G f aa aa hg (hs x ve c) with e|e|⟨e,i,k⟩
   ·exact aM (by rw[e];exact ve)
   ·exact aK (aM (by rw[e];exact ve))
   ·rcases wB hg n o n' o' l i _ _ (j+1) (d+1) k B G2 aa aa (fun y hy=>hs y (aW _ hy)) with q|q|⟨q,F,N⟩
    ·exact aM (aW _ q)
    ·exact aK (aM (aW _ q))
    ·exact aK (aK ⟨by rw[e,q],F,N⟩)
theorem wC:∀(l:List (Int×Int))(i:Nat),i<L l->M8 (l.map ga) i 0=ga (M8 l i (0,0))
 |[],i,h=>by simp at h
 |x::l,0,_=>rfl
 |x::l,i+1,h=>by
  have:=wC l i (by simpa using h)
  simpa using this
theorem d9.view {X:Nat->Prop}{s c:cn}(h:d9 X s c){j:Nat}(G:dq s j):dL.eh c.T c.wt c.rs=dL.eh s.T s.wt s.rs:=by
 have B:oX (fun a=>0<=a/\X (M a)) (fun a=>a) (tI (L s.T)) (gX s.T) (gb s.T s.wt) (tI (L c.T)) (gX c.T) (gb c.T c.wt):=by
  have f:∀a:Int,0<=a/\X (M a)->0<=a/\a<L s.T:=fun a ha=>⟨ha.1,by have:=(h.al _ ha.2).1.1;omega⟩
  refine⟨fun a ha=>nr.2 (f a ha),fun a ha=>nr.2 (by rw[h.tl];exact f a ha),fun a b _ _ e=>e,fun a ha=>(h.fl _ ha.2).1,fun a ha=>?_⟩
  have hk:=h.kd _ ha.2;have e:gb c.T c.wt a=gb s.T s.wt a:=by unfold gb;rw[(h.fl _ ha.2).1,(h.fl _ ha.2).2,aI aa,aI aa]
  rw[e];refine jj.of rfl (fun i hi=>?_)
  have g:gb s.T s.wt a=(M8 s.T (M a) t0).2.1.map ga:=by unfold gb;rw[aI aa,ji]
  rw[g] at hi⊢;rw[aZ] at hi;rw[wC _ _ hi];have hm:=getD_in (x:=(0,0)) hi;generalize M8 (M8 s.T (M a) t0).2.1 i (0,0)=v at hm⊢;have hq:=G.fv _ (h.al _ ha.2).1 v hm;have hd:=lU hq;unfold kB;rw[hd.1,hd.2];by_cases d:v.1=3
  ·exact aM ⟨d,d,⟨(hq.2 d).1,h.cl _ ha.2 v hm d⟩,rfl⟩
  ·exact aK ⟨d,rfl,rfl⟩
 have hl:jj (kB (fun a=>0<=a/\X (M a)) (fun a=>a)) (s.rs.map ga) (c.rs.map ga):=by
  rw[h.rs];refine jj.of rfl (fun i hi=>?_)
  rw[aZ] at hi;rw[wC _ _ hi];have hm:=getD_in (x:=(0,0)) hi;generalize M8 s.rs i (0,0)=v at hm⊢;have hq:=G.rv v hm;have hd:=lU hq;unfold kB;rw[hd.1,hd.2];by_cases d:v.1=3
  ·exact aM ⟨d,d,⟨(hq.2 d).1,h.rv v hm d⟩,rfl⟩
  ·exact aK ⟨d,rfl,rfl⟩
 obtain⟨q1,k,q3⟩:=AE B hl (n:=L s.T) (n':=L c.T) (by rw[lS];exact aG _) (by rw[lS];exact aG _)
 unfold dL.eh;refine Prod.ext q1.symm (Prod.ext ?_ k)
 rw[q3,List.map_id']
theorem wD (a:Option bG)(ca base:Nat)(l:List Int)(k:Int)(w:az)(hm:L l<=100000)(ha:e8 w base a l):
 J O 36 #[M0 a (L l) ca,ak k] w fun e w'=>e=E (bK (bR l k))/\C (I (G w)) w w':=by
 have m:aA (e8 w base a l):=ha;obtain⟨r,hr⟩:∃r,r=bR l k:=⟨_,rfl⟩
 have i:aA (r=bR l k):=hr;rw[<-hr];clear ha hr;go_enter func36,ntmps36;go_wp2_with fail
 go_loopw [5] (fun iv wr=>∃j:Nat,j<=L l/\iv=ak j/\aA (k∉l.take j)/\C (I (G w)) w wr) (fun iv _=>L l-M (intOf iv))
 case atStart=>exact⟨0,a5 _,rfl,by show _∉_;simp,aH _ _⟩
 case round=>
  obtain⟨j,p,rfl,d,hb⟩:=hrel;by_cases b:j<L l
  ·obtain⟨s,t,n,_,v,hc⟩:=(m.o.below hb) aa;have B:=hc j b;subst n;clear hc;have hm:=getD_in (x:=0) b;have f:aA (l.take (j+1)=l.take j++[M8 l j 0]):=by show _=_;rw[ry b,aL,aN b];rfl
   generalize M8 l j 0=u at*;have j0:(0:Int)<=(j:Int):=aa;have F:(j:Int)<(L l:Int):=aa;by_cases c:u=k
   ·have g:aA (r=Nc):=by rw[i.o,<-c];exact bP.2 hm
    subst c;clear hm f;go_wp2_with fail;go_ret;exact⟨by rw[g.o];rfl,hb⟩
   ·have c2:(u==k)=K:=by simpa using c
    have o:aA (k∉l.take (j+1)):=by show _∉_;rw[f.o,bE,bQ];exact fun q=>Or.elim q d.o (fun q=>c q.symm)
    clear hm f d c;go_wp2_with fail;go_roundw
    case rel=>exact⟨j+1,aa,aj,o,hb⟩
    case measure=>simp[intOf];omega
  ·obtain rfl:j=L l:=aa;have g:aA (r=K):=by
    rw[i.o];have:=d.o;rw[bk] at this
    cases q:bR l k with
    |false=>rfl
    |true=>exact absurd (bP.1 q) this
   go_wp2_with fail;go_ret;exact⟨by rw[g.o];rfl,hb⟩
theorem gn.row {w:az}{base n cap:Nat}{d:Option bG}{l:List S6}(h:aC w base 44 6 (M0 d n cap) n (fX l))(hn:n=L l)(hk:oa l):gn w d l:=fun hp=>by
 obtain⟨b,c,e⟩:=eW h aa;have f:d=au b:=by simpa using congrArg (fun v=>match v with|M0 a _ _=>a|_=>Y) e
 subst f;exact gn.of h hk hp
theorem Mu (t:Int)(m:Nat)(hm:0<m)(c:m<=1000):∃r:Nat,r<m/\wrap64 ((IntKind.u64.wrap t).tmod (m:Int))=r:=by
 have h0:0<=IntKind.u64.wrap t:=by rw[IntKind.wrap_u64];omega
 generalize IntKind.u64.wrap t=u at*;have b:u.tmod (m:Int)=u%(m:Int):=Int.tmod_eq_emod_of_nonneg h0;rw[b];have d:=Int.emod_nonneg u (show(m:Int)≠0 by omega)
 have e:=Int.emod_lt_of_pos u (show(0:Int)<(m:Int) by omega)
 generalize u%(m:Int)=v at*;refine⟨M v,aa,?_⟩
 unfold wrap64;omega
theorem CM (g:eg)(n o:Int):∀(l:List S6)(s:cn),(∀x∈l,ei x=K)->s.kF g n o l=s.hY g n o l
 |[],_,_=>rfl
 |x::l,s,h=>by show(if _ then _ else _)=(s.sx g n o x).1::(s.sx g n o x).2.hY g n o l;rw[aI (by rw[h x ve];decide),CM g n o l _ (fun y hy=>h y (aW _ hy))]
theorem d9.start (n o n' o':Nat):d9 (fun _=>False) (fG n o).2 (fG n' o').2:=
 ⟨rfl,rfl,fun v hv b=>(by rw[(List.mem_replicate.1 hv).2] at b;cases b),fun _ h=>rq h,fun _ h=>rq h,fun _ h=>rq h,fun _ h=>rq h⟩
theorem wE {x:S6}(h:ib x=Nc):ei x=K:=by obtain⟨_,_,_,b,c⟩:=wA.1 h;unfold ei;simp[b,c]
theorem CN {g:eg}(hg:∀T wt,ey T wt->dB T wt (g T wt))(n o n' o':Nat)(l:List S6)(hl:L l<=2000)(hs:∀x∈l,ei x=K->ib x=Nc):
 3∈fE g n o (l.filter (fun x=>!ei x))\/3∈(fG n' o').2.kF g n' o' l\/((fG n' o').2.kF g n' o' l=fE g n o (l.filter (fun x=>!ei x))/\eu g n' o' l=eu g n o (l.filter (fun x=>!ei x))):=by
 rcases wB hg n o n' o' l _ _ _ 0 0 (d9.start n o n' o') dq.start dq.start aa aa hs with h|h|⟨h,X,b⟩
 ·exact aM h
 ·exact aK (aM h)
 ·have c:=bm (fun x:S6=>!ei x) l;have G:dq ((fG n o).2.run g n o (l.filter (fun x=>!ei x))) (0+L (l.filter (fun x=>!ei x))):=sG hg n o _ _ 0 dq.start aa;exact aK (aK ⟨h,b.view G⟩)
theorem Mx {g:eg}(hg:∀T wt,ey T wt->dB T wt (g T wt))(n o n' o':Nat)(l:List S6)(hl:L l<=2000)(hs:∀x∈l,ib x=Nc):
 3∈fE g n o l\/3∈fE g n' o' l\/(fE g n' o' l=fE g n o l/\eu g n' o' l=eu g n o l):=by
 have e:l.filter (fun x=>!ei x)=l:=List.filter_eq_self.2 (fun x b=>by rw[wE (hs x b)];rfl)
 have h:=CN hg n o n' o' l hl (fun x b _=>hs x b)
 rw[e,CM g n' o' l _ (fun x b=>wE (hs x b))] at h;exact h
def dQ (l:List S6):List S6:=l.filter ib
theorem My (l:List S6)(x:S6):dQ (l++[x])=dQ l++if ib x=Nc then[x] else[]:=by
 unfold dQ;rw[r2]
 congr 1
 by_cases h:ib x=Nc
 ·rw[aJ h];simp only [CB,h]
 ·rw[aI h];have h:ib x=K:=by simpa using h
  simp only [CB,h]
theorem CO (l:List S6):L (dQ l)<=L l:=bm _ _
def cst (b:Bool):S6:=⟨if b then 16 else 15,0,0,0,0,0⟩
def i8 (b:List Bool)(i:Nat)(x:S6):List S6:=if ib x=Nc then(if i<L b then[cst (M8 b i K)] else[])++[x] else[]
def df (b:List Bool):Nat->List S6->List S6
 |_,[]=>[]
 |i,x::l=>i8 b i x++df b (i+1) l
theorem CP (b:List Bool)(x:S6):∀(l:List S6)(i:Nat),df b i (l++[x])=df b i l++i8 b (i+L l) x
 |[],i=>by show i8 b i x++[]=[]++i8 b (i+0) x;rw[ji,List.nil_append,Nat.add_zero]
 |y::l,i=>by show i8 b i y++df b (i+1) (l++[x])=(i8 b i y++df b (i+1) l)++_;rw[CP b x l,bw,bZ,show i+1+L l=i+(L l+1) by omega]
theorem CQ (b:Bool):ei (cst b)=Nc:=by cases b<;>rfl
theorem Mz (b:List Bool)(i:Nat)(x:S6):(i8 b i x).filter (fun x=>!ei x)=if ib x=Nc then[x] else[]:=by
 unfold i8;by_cases h:ib x=Nc
 ·rw[aJ h,aJ h,r2];have c:[x].filter (fun x=>!ei x)=[x]:=by rw[j5 (by rw[wE h];rfl)];rfl
  rw[c];split
  ·rw[j4 (by rw[CQ];decide)];rfl
  ·rfl
 ·rw[aI h,aI h];rfl
theorem CR (b:List Bool):∀(l:List S6)(i:Nat),(df b i l).filter (fun x=>!ei x)=dQ l
 |[],_=>rfl
 |x::l,i=>by
  show(i8 b i x++df b (i+1) l).filter _=_;rw[r2,Mz,CR b l];unfold dQ;by_cases h:ib x=Nc
  ·rw[aJ h,j5 h];rfl
  ·rw[aI h,j4 h];rfl
theorem MA {c:List Bool}{i:Nat}{x y:S6}(h:y∈i8 c i x):(∃b,y=cst b)\/(y=x/\ib x=Nc):=by
 unfold i8 at h;split at h
 ·rename_i d;rcases bE.1 h with h|h
  ·split at h
   ·exact aM ⟨_,bQ.1 h⟩
   ·cases h
  ·exact aK ⟨bQ.1 h,d⟩
 ·cases h
theorem wF (c:List Bool):∀(l:List S6)(i:Nat)(y:S6),y∈df c i l->(∃b,y=cst b)\/(y∈l/\ib y=Nc)
 |[],_,_,h=>by cases h
 |x::l,i,y,h=>by
  rcases bE.1 (show y∈i8 c i x++df c (i+1) l from h) with h|h
  ·rcases MA h with h|⟨rfl,h⟩
   ·exact aM h
   ·exact aK ⟨ve,h⟩
  ·rcases wF c l _ y h with h|⟨d,e⟩
   ·exact aM h
   ·exact aK ⟨aW _ d,e⟩
theorem MB (b:List Bool)(i:Nat)(x:S6):L (i8 b i x)<=2:=by
 unfold i8;split
 ·rw[a7];split<;>simp
 ·simp
theorem wG (b:List Bool):∀(l:List S6)(i:Nat),L (df b i l)<=2*L l
 |[],_=>aG _
 |x::l,i=>by
  show L (i8 b i x++df b (i+1) l)<=2*(L l+1)
  have:=wG b l (i+1)
  have:=MB b i x;rw[a7];omega
def ec:List S6->List Int->List Int
 |x::l,c::C=>if ei x=Nc then ec l C else c::ec l C
 |_,_=>[]
theorem CS (g:eg)(n o:Int):∀(l:List S6)(s:cn),ec l (s.hY g n o l)=s.kF g n o l
 |[],_=>rfl
 |x::l,s=>by
  show(if ei x=Nc then ec l ((s.sx g n o x).2.hY g n o l) else(s.sx g n o x).1::ec l ((s.sx g n o x).2.hY g n o l))=if ei x=Nc then _ else _
  rw[CS g n o l]
theorem CT (x:S6)(c:Int):∀(l:List S6)(C:List Int),L C=L l->ec (l++[x]) (C++[c])=ec l C++if ei x=Nc then[] else[c]
 |[],[],_=>rfl
 |[],_::_,h=>by cases h
 |_::_,[],h=>by cases h
 |y::l,b::C,h=>by
  show(if ei y=Nc then ec (l++[x]) (C++[c]) else b::ec (l++[x]) (C++[c]))=(if ei y=Nc then ec l C else b::ec l C)++_;rw[CT x c l C (by simpa using h)];split
  ·rfl
  ·rfl
theorem wH:∀(l:List S6)(C:List Int),L C=L l->L (ec l C)=L (l.filter (fun x=>!ei x))
 |[],[],_=>rfl
 |[],_::_,h=>by cases h
 |_::_,[],h=>by cases h
 |y::l,d::C,h=>by
  have b:=wH l C (by simpa using h)
  show L (if ei y=Nc then ec l C else d::ec l C)=_;by_cases c:ei y=Nc
  ·rw[aJ c,b,j4 (by rw[c];decide)]
  ·have c2:ei y=K:=by simpa using c
   rw[aI c,bZ,b,j5 (by rw[c2];rfl),bZ]
theorem MC (l:List Int){i:Nat}(hi:i<L l):l.take (i+1)=l.take i++[M8 l i 0]:=by rw[ry hi,aL,aN hi];rfl
theorem MD {c:List Bool}{l:List S6}(h:oa l):oa (df c 0 l):=fun x d=>by
 rcases wF c l 0 x d with⟨b,rfl⟩|⟨e,_⟩
 ·cases b<;>simp[gD,cst]
 ·exact h x e
open Go.ChangeShapes Go.WideShapes Go.ChangeAt Go.RowKit Go.Joins Go.Deep W
theorem ME:prog.cellsOf 4=1:=ah
def wJ (w:az)(ad:Option bG)(l:List Bool):Prop:=0<L l->∃b o,ad=Z ⟨b,o,Y⟩/\b<I (G w)/\∀i,i<L l->V w (av b (o+i))=Z (bK (M8 l i K))
theorem open_bools {H:Type}{enc:TypeId×Value->H}{W:az}{sp:Nat->Bool}{g:Bool}{k len cap:Nat}{ad:Option bG}{x:DataW H×List MemPlace}
 (p:DataW.trod enc O W 0 sp g k 79 [M0 ad len cap]=Z x):∃l:List Bool,L l=len/\wJ W ad l:=by
 rcases open_slice underlying79 p with⟨d,_⟩|⟨z,l,c,m,n,D,N,d,hb,hl,hm,q,_,t⟩
 ·simp at d;obtain⟨rfl,rfl,rfl⟩:=d;exact⟨[],rfl,fun h=>by simp at h⟩
 ·simp at d;obtain⟨rfl,rfl,rfl⟩:=d;have ab:len<=m:=by rw[q];split<;>omega
  have key:∀i,i<len->∃s:Bool,V W (z.add i)=Z (bK s):=by
   intro i hi;obtain⟨ag,e,u⟩:=t i aa;rw[ME] at e;obtain⟨_,_,v⟩:=World.cells?_some e;obtain⟨a,rfl,_⟩:=DataW.trod_bool underlying4 u;refine⟨a,?_⟩
   have:=v 0 aa;rw[add_add] at this;simpa using this
  obtain⟨S,f⟩:=choose_lt key;refine⟨(k4 len).map S,ac,fun hp=>?_⟩
  simp only [List.length_map,List.length_range] at hp⊢;obtain⟨b,o,w⟩:=z;have h0:=f 0 hp;have B:w=Y:=by simpa[Addr.add] using World.cell?_spot h0
  subst B;refine⟨b,o,rfl,aT W (⟨b,o,Y⟩:bG) (by simpa[Addr.add] using h0),fun i hi=>?_⟩
  have k0:=f i hi;have ea:∀j,(⟨b,o,Y⟩:bG).add j=⟨b,o+j,Y⟩:=fun j=>by simp[Addr.add]
  rw[ea] at k0;have F:M8 ((k4 len).map S) i K=S i:=by simp[hi]
  rw[F];exact k0
structure i9 (w0 w:az)(ra:Option bG)(rc:Nat)(A:List S6)(rb:Option bG)(rd:Nat)(B:List S6):Prop where
 a:aC w (I (G w0)) 44 6 (M0 ra (L A) rc) (L A) (fX A)
 b:aC w (I (G w0)) 44 6 (M0 rb (L B) rd) (L B) (fX B)
 ap:∀k,Z k=P (Value.slice ra (L A) rc)->Z k≠P (Value.slice rb (L B) rd)
 be:C (I (G w0)) w0 w
section
variable {w0 w w6:az}{ra rb:Option bG}{rc rd g c:Nat}{A B:List S6}
theorem i9.swap (h:i9 w0 w ra rc A rb rd B):i9 w0 w rb rd B ra rc A:=⟨h.b,h.a,fun k e b=>h.ap k b e,h.be⟩
theorem i9.first (h:i9 w0 w ra rc A rb rd B)(o:Obj)(x:S6)(ho:aC w6 (I (G w0)) 44 6 (M0 (au g) (L A+1) c) (L A+1) (fX A++e6 x))(hg:(w.alloc o).grownBy w6 (Value.slice ra (L A) rc).ownBlock)(f:P (Value.slice ra (L A) rc)=Z g\/g=I (G (w.alloc o))):i9 w0 w6 (au g) c (A++[x]) rb rd B:=by
 have i:L (A++[x])=L A+1:=ac;have j:fX [x]=e6 x:=by simp[fX]
 have l:=h.be.size;refine⟨by rw[i,CH,j];exact ho,(fC h.b o).kept hg ?_,fun k e d=>?_,((h.be.trans ((aw w o).mono l)).grown hg (by simp;omega) (fun b e=>(cv h.a b e.symm).1))⟩
 ·cases q:P (Value.slice rb (L B) rd) with
  |none=>exact aM rfl
  |some k=>exact aK (fun e=>h.ap k e q.symm)
 ·have e:Z k=Z g:=e;cases e;rcases f with q|q
  ·exact h.ap _ q.symm d
  ·have:=(cv h.b _ d).2;rw[q] at this
   simp at this
   omega
theorem i9.snd (h:i9 w0 w ra rc A rb rd B)(o:Obj)(x:S6)(ho:aC w6 (I (G w0)) 44 6 (M0 (au g) (L B+1) c) (L B+1) (fX B++e6 x))(hg:(w.alloc o).grownBy w6 (Value.slice rb (L B) rd).ownBlock)(b:P (Value.slice rb (L B) rd)=Z g\/g=I (G (w.alloc o))):i9 w0 w6 ra rc A (au g) c (B++[x]):=(h.swap.first o x ho hg b).swap
end
theorem e8.row {w:az}{base n cap:Nat}{d:Option bG}{l:List Int}(h:aC w base 3 1 (M0 d n cap) n (l.map (Value.int Q)))(hn:n=L l):e8 w base d l:=fun hp=>by
 obtain⟨b,c,e⟩:=eW h aa;have f:d=au b:=by simpa using congrArg (fun v=>match v with|M0 a _ _=>a|_=>Y) e
 subst f;exact e8.of h hp
theorem qv {x:S6}:∀u∈e6 x,u.oneCell'=Nc:=by intro u b;simp[e6] at b;rcases b with rfl|rfl|rfl|rfl|rfl|rfl<;>rfl
theorem j_ {w:az}{b:Nat}{c:Array Value}{T:TypeId}(h:w.heap[b]?=Z (M5 c T (0,0))){i:Nat}{v:Value}(hi:c[i]?=Z v):V w (av b i)=Z v:=by simp[World.cell?,h,hi]
theorem kG (a:Int)(h:-100<=a/\a<=100):gD a:=⟨aa,aa⟩
theorem MF {w:az}{b:Nat}(h:w.heap[b]?=Z (M5 #[ak 4,ak 0,ak 0,ak 0,ak 0,ak 0,ak 15,ak 0,ak 0,ak 0,ak 0,ak 0,ak 11,ak 0,ak 1,ak 0,ak 0,ak 0] 44 (0,0))):gn w (au b) m_:=fun _=>by
 refine⟨b,0,rfl,lt_of_some h,fun i hi=>?_⟩
 have hi:i<3:=hi;rcases(show i=0\/i=1\/i=2 by omega) with rfl|rfl|rfl
 all_goals exact⟨⟨j_ h rfl,j_ h rfl,j_ h rfl,j_ h rfl,j_ h rfl,j_ h rfl⟩,kG _ ae,kG _ ae,kG _ ae,kG _ ae,kG _ ae,kG _ ae⟩
theorem MG {w:az}{b:Nat}(h:w.heap[b]?=Z (M5 #[ak 16,ak 0,ak 0,ak 0,ak 0,ak 0,ak 2,ak 0,ak 0,ak 0,ak 0,ak 0] 44 (0,0))):gn w (au b) [⟨16,0,0,0,0,0⟩,⟨2,0,0,0,0,0⟩]:=fun _=>by
 refine⟨b,0,rfl,lt_of_some h,fun i hi=>?_⟩
 have hi:i<2:=hi;rcases(show i=0\/i=1 by omega) with rfl|rfl
 all_goals exact⟨⟨j_ h rfl,j_ h rfl,j_ h rfl,j_ h rfl,j_ h rfl,j_ h rfl⟩,kG _ ae,kG _ ae,kG _ ae,kG _ ae,kG _ ae,kG _ ae⟩
theorem CU (w:az):J O 32 #[] w fun e w'=>e=E (bK Nc)/\C (I (G w)) w w':=by
 obtain⟨g,hg⟩:=xr;have u:=hide hg;have S:aA (∀(b:Nat)(w':az),gn w' (au b) m_->J O 33 #[ak 16,ak 8,M0 (au b) 3 3] w' fun e o=>∃ca f j c d,e=E (a8 #[M0 ca 3 3,bF #[M0 f 12 j,M0 c 1 d],bF #[ak 0,ak 0]])/\e8 o (I (G w')) ca [0,0,2]/\C (I (G w')) w' o):=fun b w' h=>by
  obtain⟨c1,c2⟩:=Ms u.o;refine(wz u.o 16 8 ae ae ae m_ (au b) 3 w' h ae).mono ?_;rintro e o ⟨ca,f,j,c,d,rfl,q1,_,_,W⟩
  rw[c1] at q1;exact⟨ca,f,j,c,d,by rw[c2];rfl,q1,W⟩
 go_enter func32,ntmps32;have P:=S.o (I (G w)) _ (MF (aP w (M5 #[U Q 4,U Q 0,U Q 0,U Q 0,U Q 0,U Q 0,U Q 15,U Q 0,U Q 0,U Q 0,U Q 0,U Q 0,U Q 11,U Q 0,U Q 1,U Q 0,U Q 0,U Q 0] 44)))
 have v:=hide (aw w (M5 #[U Q 4,U Q 0,U Q 0,U Q 0,U Q 0,U Q 0,U Q 15,U Q 0,U Q 0,U Q 0,U Q 0,U Q 0,U Q 11,U Q 0,U Q 1,U Q 0,U Q 0,U Q 0] 44))
 go_wp2_with fail;generalize bj w (M5 #[U Q 4,U Q 0,U Q 0,U Q 0,U Q 0,U Q 0,U Q 15,U Q 0,U Q 0,U Q 0,U Q 0,U Q 0,U Q 11,U Q 0,U Q 1,U Q 0,U Q 0,U Q 0] 44)=w0 at*;refine P.mono ?_;rintro e w1 ⟨ca,f,j,c,d,rfl,q1,ab⟩
 have p:=c8 q1 (v.o.trans (ab.mono v.o.size))
 go_upto_region 2 with fail
 have x:=(aw w1 (M5 #[M0 f 12 j,M0 c 1 d] 60)).alloc ac (M5 #[U Q 0,U Q 0] 28)
 have l:aA ((bj (bj w1 (M5 #[M0 f 12 j,M0 c 1 d] 60)) (M5 #[U Q 0,U Q 0] 28)).heap[I (G w1)]?=Z (M5 #[M0 f 12 j,M0 c 1 d] 60 (0,0))/\(bj (bj w1 (M5 #[M0 f 12 j,M0 c 1 d] 60)) (M5 #[U Q 0,U Q 0] 28)).heap[I (G w1)+1]?=Z (M5 #[ak 0,ak 0] 28 (0,0))/\e8 (bj (bj w1 (M5 #[M0 f 12 j,M0 c 1 d] 60)) (M5 #[U Q 0,U Q 0] 28)) (I (G w0)) ca [0,0,2]/\C (I (G w)) w (bj (bj w1 (M5 #[M0 f 12 j,M0 c 1 d] 60)) (M5 #[U Q 0,U Q 0] 28))):=⟨by rw[aS _ _ _ ac];exact aP _ _,gH _ _ _,p.o.1.below x,p.o.2.trans (x.mono p.o.2.size)⟩
 generalize bj (bj w1 (M5 #[M0 f 12 j,M0 c 1 d] 60)) (M5 #[U Q 0,U Q 0] 28)=k at*;generalize I (G w1)=B at*;obtain⟨ad,_⟩:V k ⟨B+1,0,Y⟩=Z (U Q 0)/\True:=⟨by simp[World.cell?,l.o.2.1],trivial⟩
 have hl:=aP k (M5 #[U Q 0,U Q 0,U Q 2] 3)
 have q:=aw k (M5 #[U Q 0,U Q 0,U Q 2] 3)
 have P:=wy ca (au (I (G k))) 3 3 (I (G w0)) (I (G k)) [0,0,2] _ ae (l.o.2.2.1.below q) (fun _=>⟨I (G k),0,rfl,aG _,lt_of_some hl,fun i hi=>by have hi:i<3:=hi;rcases(show i=0\/i=1\/i=2 by omega) with rfl|rfl|rfl<;>exact j_ hl rfl⟩)
 have m:=c8 (l.o.2.2.2.trans (q.mono l.o.2.2.2.size)) ((q.block _ (lt_of_some l.o.1)).trans l.o.1)
 go_wp2_with fail;generalize bj k (M5 #[U Q 0,U Q 0,U Q 2] 3)=ai at*;refine P.mono ?_;rintro e n ⟨rfl,s⟩
 have t:=c8 (m.o.1.trans (s.mono m.o.1.size)) ((s.block _ (lt_of_some m.o.2)).trans m.o.2)
 have al:V n (av B 1)=Z (M0 c 1 d):=aD t.o.2
 have P:=Mr [⟨16,0,0,0,0,0⟩,⟨2,0,0,0,0,0⟩] (au (I (G n))) 2 _ (MG (aP n (M5 #[U Q 16,U Q 0,U Q 0,U Q 0,U Q 0,U Q 0,U Q 2,U Q 0,U Q 0,U Q 0,U Q 0,U Q 0] 44))) ae;have F:=hide (t.o.1.trans ((aw n (M5 #[U Q 16,U Q 0,U Q 0,U Q 0,U Q 0,U Q 0,U Q 2,U Q 0,U Q 0,U Q 0,U Q 0,U Q 0] 44)).mono t.o.1.size))
 have N:L (gq [⟨16,0,0,0,0,0⟩,⟨2,0,0,0,0,0⟩])=1:=ae;rw[N] at P;clear s m N ad;go_wp2_with fail;refine P.mono ?_;rintro e am ⟨an,rc,rfl,_,ag⟩
 have hB:=F.o.trans (ag.mono F.o.size)
 go_wp2_with fail;go_ret;exact⟨rfl,hB⟩
theorem CV (n o:Int)(h:n<16\/256<n\/o<0\/1024<o)(ad:Option bG)(len cp:Nat)(w:az):
 J O 33 #[ak n,ak o,M0 ad len cp] w fun e w'=>e=E (a8 #[M0 Y 0 0,bF #[M0 Y 0 0,M0 Y 0 0],bF #[ak 1,ak (-1)]])/\C (I (G w)) w w':=by
 have N:=(aw w (M5 #[M0 Y 0 0,M0 Y 0 0] 60)).alloc ac (M5 #[U Q 0,U Q 0] 28)
 have d:aA ((bj (bj w (M5 #[M0 Y 0 0,M0 Y 0 0] 60)) (M5 #[U Q 0,U Q 0] 28)).heap[I (G w)]?=Z (M5 #[M0 Y 0 0,M0 Y 0 0] 60 (0,0))/\(bj (bj w (M5 #[M0 Y 0 0,M0 Y 0 0] 60)) (M5 #[U Q 0,U Q 0] 28)).heap[I (G w)+1]?=Z (M5 #[ak 0,ak 0] 28 (0,0))/\_):=⟨by rw[aS _ _ _ ac];exact aP _ _,gH _ _ _,N⟩
 have P:=L0 n o (bj (bj w (M5 #[M0 Y 0 0,M0 Y 0 0] 60)) (M5 #[U Q 0,U Q 0] 28)) h;go_enter func33,ntmps33;go_wp2_with fail;generalize bj (bj w (M5 #[M0 Y 0 0,M0 Y 0 0] 60)) (M5 #[U Q 0,U Q 0] 28)=w0 at*;refine P.mono ?_;rintro e w1 ⟨rfl,g⟩
 have f:=(g.block _ (lt_of_some d.o.1)).trans d.o.1;have j:=(g.block _ (lt_of_some d.o.2.1)).trans d.o.2.1;have i:=aw w1 (M5 #[U Q 1,U Q (-1)] 28)
 have k:=(i.block _ (lt_of_some f)).trans f;have l:=(i.block _ (lt_of_some j)).trans j;have x:=aP w1 (M5 #[U Q 1,U Q (-1)] 28)
 have nx:¬I (G w)=I (G w1):=by have:=lt_of_some f;omega
 have B:=hide ((d.o.2.2.trans (g.mono d.o.2.2.size)).trans (i.mono (by have:=lt_of_some f;omega)))
 clear d g f j i
 go_upto_region 3 with fail
 generalize bj w1 (M5 #[U Q 1,U Q (-1)] 28)=m at*;generalize I (G w1)=W at*;obtain⟨ab,ag,_⟩:=jJ x;obtain⟨v0,v1,ai,al⟩:=jJ k;obtain⟨f0,f1,g0,g1⟩:=jJ l;have l0:=lt_of_some k;have l1:=lt_of_some l;clear x k l
 go_region_law (fail)
 all_goals
  obtain⟨c,hW1⟩:∃c,c=ay (ay (ay (ay m ⟨I (G w),0,Y⟩ (M0 Y 0 0)) ⟨I (G w),1,Y⟩ (M0 Y 0 0)) ⟨I (G w)+1,0,Y⟩ (U Q 1)) ⟨I (G w)+1,1,Y⟩ (U Q (-1)):=⟨_,rfl⟩
  rw[<-hW1];have p:V c (av (I (G w)) 0)=Z (M0 Y 0 0):=by exact ww
  have q:V c (av (I (G w)) 1)=Z (M0 Y 0 0):=by exact wu
  have s:V c (av (I (G w)+1) 0)=Z (ak 1):=by exact wn
  have t:V c (av (I (G w)+1) 1)=Z (ak (-1)):=by exact wm
  have F:Fr (fun b=>b=I (G w)\/b=I (G w)+1) m c:=by rw[hW1];exact((((Fr.refl (fun b=>b=I (G w)\/b=I (G w)+1) m).set _ 0 _ (aM rfl)).set _ 1 _ (aM rfl)).set _ 0 _ (aK rfl)).set _ 1 _ (aK rfl)
  have S:_:=(B.o.trans (F.below aa (fun b u=>by rcases u with u|u<;>omega))).trans ((aH _ c).drew.mono (aU B.o.size F.size))
  have p:V c.drew (av (I (G w)) 0)=Z (M0 Y 0 0):=p;have q:V c.drew (av (I (G w)) 1)=Z (M0 Y 0 0):=q;have s:V c.drew (av (I (G w)+1) 0)=Z (ak 1):=s;have t:V c.drew (av (I (G w)+1) 1)=Z (ak (-1)):=t;generalize c.drew=am at*;go_wp2_with fail;refine a6 (v:=a8 #[M0 Y 0 0,bF #[M0 Y 0 0,M0 Y 0 0],bF #[ak 1,ak (-1)]]) (by simp[results,results33,go_sem,p,q,s,t]) rfl ⟨rfl,S⟩
end Go.Proofs.YtpkjkjhanlbcoaaGreat
