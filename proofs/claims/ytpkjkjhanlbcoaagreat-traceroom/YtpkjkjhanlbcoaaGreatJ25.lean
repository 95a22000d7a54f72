import Derived.Test.YtpkjkjhanlbcoaaGreatJ24
open Array renaming size->I
open Bool renaming false->K,true->ML
open False renaming elim->ry
open Go renaming Calls->J
open Go.Ending renaming returned->MD
open Go.IntKind renaming i64->MC
open Go.Obj renaming cells->E
open Go.Proofs.Tryz renaming prog->O
open Go.RowKit renaming Below->C,intOf->bN
open Go.Value renaming agg->bF,int->U,slice->H
open Go.World renaming alloc->bE,heap->G,ownsRow->aC
open Int renaming eq_ofNat_of_zero_le->bG,toNat->M
open List renaming append_nil->hV,contains->bQ,contains_iff_mem->bP,filter->Cx,getD->MG,length->L,mem_cons_self->wb,mem_filter->bM,mem_singleton->bS
open Option renaming none->Y,some->Z
namespace Go.Proofs.YtpkjkjhanlbcoaaGreat
set_option maxRecDepth 100000
set_option maxHeartbeats 16000000
open Tryz
open Go.RowKit W Kp cq
def gA (x:S6):Bool:=x.k==15||x.k==16
def jE (x:S6):Bool:=!(x.k==6||x.k==7||x.k==8||x.k==15||x.k==16)
theorem v6 {x:S6}:jE x=ML↔x.k≠6/\x.k≠7/\x.k≠8/\x.k≠15/\x.k≠16:=by unfold jE;simp;omega
def cn.kY (s:cn)(g:eg)(n o:Int):List S6->List Int
 |[]=>[]
 |x::l=>if gA x=ML then(s.sx g n o x).2.kY g n o l else(s.sx g n o x).1::(s.sx g n o x).2.kY g n o l
section
variable {X:Nat->Prop}{s s':cn}{g:eg}{j j':Nat}{n o n' o':Int}
theorem d7.b_ (h:d7 X s s')(G:dp s j)(e:dp s' j')(q:j<=10000)(u:j'<=10000)(hg:∀T wt,em T wt->dz T wt (g T wt)){kd:Int}(hk:kd=1\/kd=2){l:List (Int×Int)}(hl:∀v∈l,∃i,v=MG s.rs i (0,0)):
 (s.b_ g n o kd l).2.1=3\/(s'.b_ g n' o' kd l).2.1=3\/∃v c f t b,s.b_ g n o kd l=(v,c,t)/\s'.b_ g n' o' kd l=(v,c,b)/\(v.1=3->f (M v.2))/\d7 f t b:=by
 obtain⟨c1,x,k⟩:=h.room (G.oi q) (hg _ _ G.iv) n o (1+L l)
 obtain⟨c2,B,m⟩:=k.symm.room (e.oi u) (hg _ _ e.iv) n' o' (1+L l)
 have er:(s.room g n o (1+L l)).2.rs=s.rs:=xe _ _ _ _ _;unfold cn.b_;generalize s.room g n o (1+L l)=P at*;generalize s'.room g n' o' (1+L l)=w at*;obtain⟨c,t⟩:=P;obtain⟨F,b⟩:=w;dsimp only at c1 k c2 m er⊢;rcases c1 with rfl|rfl
 ·rcases c2 with rfl|rfl
  ·rw[aJ rfl,aJ rfl];have d:=m.symm;refine aK (aK ⟨_,_,_,_,_,rfl,by rw[d.tl],fun _=>aK (Int.toNat_natCast _),d.put hk (fun v hv p=>?_)⟩)
   obtain⟨i,rfl⟩:=hl v hv;rw[<-er] at p⊢;exact d.root i p
  ·exact aK (aM rfl)
 ·exact aM rfl
theorem d7.sa (h:d7 X s s')(G:dp s j)(e:dp s' j')(f:j<=10000)(i:j'<=10000)(hg:∀T wt,em T wt->dz T wt (g T wt))(k:Int)(A B:Nat)(I m:Int)(q:k≠6)(u:k≠7)(w:k≠8):
 (s.rt g n o k A B I m).2.1=3\/(s'.rt g n' o' k A B I m).2.1=3\/∃v c l t p,s.rt g n o k A B I m=(v,c,t)/\s'.rt g n' o' k A B I m=(v,c,p)/\(v.1=3->l (M v.2))/\d7 l t p:=by
 by_cases b:k=4
 ·unfold cn.rt;rw[h.rs,aI aa,aI aa,aJ b,aI aa,aI aa,aJ b];refine h.b_ G e f i hg (aM rfl) (fun v hv=>?_)
  rcases List.mem_cons.1 hv with rfl|hv
  ·exact⟨_,rfl⟩
  ·exact⟨_,bS.1 hv⟩
 by_cases d:k=5
 ·unfold cn.rt;rw[h.rs,aI aa,aI aa,aI b,aJ d,aI aa,aI aa,aI b,aJ d];exact h.b_ G e f i hg (aK rfl) (fun v hv=>⟨_,List.eq_of_mem_replicate hv⟩)
 obtain⟨v,c,x,F,hv⟩:=h.rt g n o n' o' k A B I m b d q u w;exact aK (aK ⟨v,c,X,s,s',x,F,hv,h⟩)
theorem d7.sx (h:d7 X s s')(G:dp s j)(N:dp s' j')(S:j<=10000)(W:j'<=10000)(hg:∀T wt,em T wt->dz T wt (g T wt)){x:S6}(ab:jE x=ML):
 (s.sx g n o x).1=3\/(s'.sx g n' o' x).1=3\/((s'.sx g n' o' x).1=(s.sx g n o x).1/\∃d,d7 d (s.sx g n o x).2 (s'.sx g n' o' x).2):=by
 obtain⟨u,w,F,l,p⟩:=v6.1 ab;obtain⟨k,R,A,B,I,m⟩:=x;dsimp only at u w F l p;unfold cn.sx cn.fQ;dsimp only;by_cases c:d5 k R A B m=0
 ·rw[aJ c,aJ c];by_cases f:k=9
  ·rw[aJ f,aJ f,h.rs];unfold cn.reg;rw[h.LO,h.symm.gd (h.root _),aI (fun q=>by cases q.2),aI (fun q=>by cases q.2)];exact aK (aK ⟨rfl,X,h⟩)
  rw[aI f,aI f];by_cases i:k=12
  ·rw[aJ i,aJ i,h.rs];unfold cn.set;rw[h.fc (h.root _)];by_cases b:s.fc (MG s.rs (M A) (0,0)) I=0
   ·rw[aJ b,aJ b];exact aK (aK ⟨rfl,X,h.h9 (h.root _ (Ce b).1) _ (h.root _)⟩)
   ·rw[aI b,aI b];exact aK (aK ⟨rfl,X,h⟩)
  rw[aI i,aI i,aI l,aI l,aI p,aI p];rcases h.sa (n:=n) (o:=o) (n':=n') (o':=o') G N S W hg k (M A) (M B) I m u w F with e|e|⟨v,c,d,t,ai,ad,ag,hv,ht⟩
  ·refine aM ?_;rw[aI aa];exact e
  ·refine aK (aM ?_)
   rw[aI aa];exact e
  ·rw[ad,ag];dsimp only;by_cases b:c=0
   ·rw[aJ b,aJ b];exact aK (aK ⟨rfl,d,ht.LN _ hv⟩)
   ·rw[aI b,aI b];exact aK (aK ⟨rfl,d,ht⟩)
 ·rw[aI c,aI c];exact aK (aK ⟨rfl,X,h⟩)
theorem d7.LX (h:d7 X s s')(c:dp s' j')(e:j'<=10000)(hg:∀T wt,em T wt->dz T wt (g T wt)){x:S6}(d:gA x=ML):∃b,d7 b s (s'.sx g n' o' x).2:=by
 obtain⟨k,R,A,B,I,m⟩:=x;have hk:k=15\/k=16:=by unfold gA at d;simpa using d
 unfold cn.sx cn.fQ;dsimp only;have key:∀mj,∃b,d7 b s (s'.cut (g s'.T s'.wt) o' mj):=fun mj=>by obtain⟨b,f⟩:=h.symm.cut (c.oi e) (hg _ _ c.iv) o' mj;exact⟨b,f.symm⟩
 split
 ·rw[aI aa,aI aa];rcases hk with rfl|rfl
  ·rw[aJ rfl];exact key _
  ·rw[aI ae,aJ rfl];exact key _
 ·exact⟨X,h⟩
end
theorem v7 {g:eg}(hg:∀T wt,em T wt->dz T wt (g T wt))(n o n' o':Int):∀(l:List S6)(X:Nat->Prop)(s b:cn)(j d:Nat),d7 X s b->dp s j->dp b d->j+L l<=9000->d+L l<=9000->(∀x∈l,gA x=K->jE x=ML)->
 3∈s.ix g n o (l.filter (fun x=>!gA x))\/3∈b.kY g n' o' l\/(b.kY g n' o' l=s.ix g n o (l.filter (fun x=>!gA x))/\∃t,d7 t (s.run g n o (l.filter (fun x=>!gA x))) (b.run g n' o' l))
 |[],X,s,b,_,_,h,_,_,_,_,_=>aK (aK ⟨rfl,X,h⟩)
 |x::l,X,s,b,j,d,h,G,f,u,v,hs=>by
  rw[List.length_cons] at u v;have G2:dp (b.sx g n' o' x).2 (d+1):=f.fQ aa (hg _ _ f.iv) _ _ _ _ _ _;by_cases c:gA x=ML
  ·obtain⟨i,k⟩:=h.LX (n':=n') (o':=o') f aa hg c;have w:=v7 hg n o n' o' l i s _ j (d+1) k G G2 aa aa (fun y hy=>hs y (aW _ hy))
   have m:(x::l).filter (fun x=>!gA x)=l.filter (fun x=>!gA x):=by rw[List.filter_cons_of_neg];rw[c];decide
   have p:b.kY g n' o' (x::l)=(b.sx g n' o' x).2.kY g n' o' l:=by show(if _ then _ else _)=_;rw[aJ c]
   rw[m,p];exact w
  ·have c:gA x=K:=by simpa using c
   have m:(x::l).filter (fun x=>!gA x)=x::l.filter (fun x=>!gA x):=by rw[List.filter_cons_of_pos];rw[c];rfl
   have p:b.kY g n' o' (x::l)=(b.sx g n' o' x).1::(b.sx g n' o' x).2.kY g n' o' l:=by show(if _ then _ else _)=_;rw[aI (by rw[c];decide)]
   have B:dp (s.sx g n o x).2 (j+1):=G.fQ aa (hg _ _ G.iv) _ _ _ _ _ _;rw[m,p];show 3∈(s.sx g n o x).1::(s.sx g n o x).2.ix g n o _\/_\/_=(s.sx g n o x).1::(s.sx g n o x).2.ix g n o _/\_;rcases h.sx (n:=n) (o:=o) (n':=n') (o':=o') G f aa aa hg (hs x wb c) with e|e|⟨e,i,k⟩
   ·exact aM (by rw[e];exact wb)
   ·exact aK (aM (by rw[e];exact wb))
   ·rcases v7 hg n o n' o' l i _ _ (j+1) (d+1) k B G2 aa aa (fun y hy=>hs y (aW _ hy)) with q|q|⟨q,F,N⟩
    ·exact aM (aW _ q)
    ·exact aK (aM (aW _ q))
    ·exact aK (aK ⟨by rw[e,q],F,N⟩)
theorem v8:∀(l:List (Int×Int))(i:Nat),i<L l->MG (l.map fZ) i 0=fZ (MG l i (0,0))
 |[],i,h=>by simp at h
 |x::l,0,_=>rfl
 |x::l,i+1,h=>by
  have:=v8 l i (by simpa using h)
  simpa using this
theorem d7.view {X:Nat->Prop}{s c:cn}(h:d7 X s c){j:Nat}(G:dp s j):dK.ee c.T c.wt c.rs=dK.ee s.T s.wt s.rs:=by
 have B:oQ (fun a=>0<=a/\X (M a)) (fun a=>a) (tI (L s.T)) (gQ s.T) (f3 s.T s.wt) (tI (L c.T)) (gQ c.T) (f3 c.T c.wt):=by
  have f:∀a:Int,0<=a/\X (M a)->0<=a/\a<L s.T:=fun a ha=>⟨ha.1,by have:=(h.al _ ha.2).1.1;omega⟩
  refine⟨fun a ha=>ng.2 (f a ha),fun a ha=>ng.2 (by rw[h.tl];exact f a ha),fun a b _ _ e=>e,fun a ha=>(h.fl _ ha.2).1,fun a ha=>?_⟩
  have hk:=h.kd _ ha.2;have e:f3 c.T c.wt a=f3 s.T s.wt a:=by unfold f3;rw[(h.fl _ ha.2).1,(h.fl _ ha.2).2,aI aa,aI aa]
  rw[e];refine jb.of rfl (fun i hi=>?_)
  have g:f3 s.T s.wt a=(MG s.T (M a) t0).2.1.map fZ:=by unfold f3;rw[aI aa,hV]
  rw[g] at hi⊢;rw[aZ] at hi;rw[v8 _ _ hi];have hm:=getD_in (x:=(0,0)) hi;generalize MG (MG s.T (M a) t0).2.1 i (0,0)=v at hm⊢;have hq:=G.fv _ (h.al _ ha.2).1 v hm;have hd:=lN hq;unfold kt;rw[hd.1,hd.2];by_cases d:v.1=3
  ·exact aM ⟨d,d,⟨(hq.2 d).1,h.cl _ ha.2 v hm d⟩,rfl⟩
  ·exact aK ⟨d,rfl,rfl⟩
 have hl:jb (kt (fun a=>0<=a/\X (M a)) (fun a=>a)) (s.rs.map fZ) (c.rs.map fZ):=by
  rw[h.rs];refine jb.of rfl (fun i hi=>?_)
  rw[aZ] at hi;rw[v8 _ _ hi];have hm:=getD_in (x:=(0,0)) hi;generalize MG s.rs i (0,0)=v at hm⊢;have hq:=G.rv v hm;have hd:=lN hq;unfold kt;rw[hd.1,hd.2];by_cases d:v.1=3
  ·exact aM ⟨d,d,⟨(hq.2 d).1,h.rv v hm d⟩,rfl⟩
  ·exact aK ⟨d,rfl,rfl⟩
 obtain⟨q1,k,q3⟩:=Ag B hl (n:=L s.T) (n':=L c.T) (by rw[lM];exact aG _) (by rw[lM];exact aG _)
 unfold dK.ee;refine Prod.ext q1.symm (Prod.ext ?_ k)
 rw[q3,List.map_id']
theorem Co (a:Option Addr)(ca base:Nat)(l:List Int)(k:Int)(w:az)(hm:L l<=100000)(ha:gg w base a l):
 J O 36 #[H a (L l) ca,ak k] w fun e w'=>e=MD (.bool (bQ l k))/\C (I (G w)) w w':=by
 have m:aA (gg w base a l):=ha;obtain⟨r,hr⟩:∃r,r=bQ l k:=⟨_,rfl⟩
 have i:aA (r=bQ l k):=hr;rw[<-hr];clear ha hr;go_enter func36,ntmps36;go_wp2_with fail
 go_loopw [5] (fun iv wr=>∃j:Nat,j<=L l/\iv=ak j/\aA (k∉l.take j)/\C (I (G w)) w wr) (fun iv _=>L l-M (bN iv))
 case atStart=>exact⟨0,a5 _,rfl,by show _∉_;simp,aH _ _⟩
 case round=>
  obtain⟨j,p,rfl,d,hb⟩:=hrel;by_cases b:j<L l
  ·obtain⟨s,t,n,_,v,hc⟩:=(m.o.below hb) aa;have B:=hc j b;subst n;clear hc;have hm:=getD_in (x:=0) b;have f:aA (l.take (j+1)=l.take j++[MG l j 0]):=by show _=_;rw[List.take_succ_eq_append_getElem b,aL,aN b];rfl
   generalize MG l j 0=u at*;have j0:(0:Int)<=(j:Int):=aa;have F:(j:Int)<(L l:Int):=aa;by_cases c:u=k
   ·have g:aA (r=ML):=by rw[i.o,<-c];exact bP.2 hm
    subst c;clear hm f;go_wp2_with fail;go_ret;exact⟨by rw[g.o];rfl,hb⟩
   ·have c2:(u==k)=K:=by simpa using c
    have o:aA (k∉l.take (j+1)):=by show _∉_;rw[f.o,List.mem_append,bS];exact fun q=>Or.elim q d.o (fun q=>c q.symm)
    clear hm f d c;go_wp2_with fail;go_roundw
    case rel=>exact⟨j+1,aa,aj,o,hb⟩
    case measure=>simp[bN];omega
  ·obtain rfl:j=L l:=aa;have g:aA (r=K):=by
    rw[i.o];have:=d.o;rw[bv] at this
    cases q:bQ l k with
    |false=>rfl
    |true=>exact absurd (bP.1 q) this
   go_wp2_with fail;go_ret;exact⟨by rw[g.o];rfl,hb⟩
theorem gN.row {w:az}{base n cap:Nat}{d:Option Addr}{l:List S6}(h:aC w base 44 6 (H d n cap) n (gw l))(hn:n=L l)(hk:qk l):gN w d l:=fun hp=>by
 obtain⟨b,c,e⟩:=eS h aa;have f:d=au b:=by simpa using congrArg (fun v=>match v with|H a _ _=>a|_=>Y) e
 subst f;exact gN.of h hk hp
theorem Cr (t:Int)(m:Nat)(hm:0<m)(c:m<=1000):∃r:Nat,r<m/\wrap64 ((IntKind.u64.wrap t).tmod (m:Int))=r:=by
 have h0:0<=IntKind.u64.wrap t:=by rw[IntKind.wrap_u64];omega
 generalize IntKind.u64.wrap t=u at*;have b:u.tmod (m:Int)=u%(m:Int):=Int.tmod_eq_emod_of_nonneg h0;rw[b];have d:=Int.emod_nonneg u (show(m:Int)≠0 by omega)
 have e:=Int.emod_lt_of_pos u (show(0:Int)<(m:Int) by omega)
 generalize u%(m:Int)=v at*;refine⟨M v,aa,?_⟩
 unfold wrap64;omega
theorem Ct (g:eg)(n o:Int):∀(l:List S6)(s:cn),(∀x∈l,gA x=K)->s.kY g n o l=s.ix g n o l
 |[],_,_=>rfl
 |x::l,s,h=>by show(if _ then _ else _)=(s.sx g n o x).1::(s.sx g n o x).2.ix g n o l;rw[aI (by rw[h x wb];decide),Ct g n o l _ (fun y hy=>h y (aW _ hy))]
theorem d7.start (n o n' o':Nat):d7 (fun _=>False) (fz n o).2 (fz n' o').2:=
 ⟨rfl,rfl,fun v hv b=>(by rw[(List.mem_replicate.1 hv).2] at b;cases b),fun _ h=>ry h,fun _ h=>ry h,fun _ h=>ry h,fun _ h=>ry h⟩
theorem Cu {x:S6}(h:jE x=ML):gA x=K:=by obtain⟨_,_,_,b,c⟩:=v6.1 h;unfold gA;simp[b,c]
theorem LY {g:eg}(hg:∀T wt,em T wt->dz T wt (g T wt))(n o n' o':Nat)(l:List S6)(hl:L l<=2000)(hs:∀x∈l,gA x=K->jE x=ML):
 3∈jD g n o (l.filter (fun x=>!gA x))\/3∈(fz n' o').2.kY g n' o' l\/((fz n' o').2.kY g n' o' l=jD g n o (l.filter (fun x=>!gA x))/\gu g n' o' l=gu g n o (l.filter (fun x=>!gA x))):=by
 rcases v7 hg n o n' o' l _ _ _ 0 0 (d7.start n o n' o') dp.start dp.start aa aa hs with h|h|⟨h,X,b⟩
 ·exact aM h
 ·exact aK (aM h)
 ·have c:=bu (fun x:S6=>!gA x) l;have G:dp ((fz n o).2.run g n o (l.filter (fun x=>!gA x))) (0+L (l.filter (fun x=>!gA x))):=sw hg n o _ _ 0 dp.start aa;exact aK (aK ⟨h,b.view G⟩)
theorem LZ {g:eg}(hg:∀T wt,em T wt->dz T wt (g T wt))(n o n' o':Nat)(l:List S6)(hl:L l<=2000)(hs:∀x∈l,jE x=ML):
 3∈jD g n o l\/3∈jD g n' o' l\/(jD g n' o' l=jD g n o l/\gu g n' o' l=gu g n o l):=by
 have e:l.filter (fun x=>!gA x)=l:=List.filter_eq_self.2 (fun x b=>by rw[Cu (hs x b)];rfl)
 have h:=LY hg n o n' o' l hl (fun x b _=>hs x b)
 rw[e,Ct g n' o' l _ (fun x b=>Cu (hs x b))] at h;exact h
def d8 (l:List S6):List S6:=l.filter jE
theorem L0 (l:List S6)(x:S6):d8 (l++[x])=d8 l++if jE x=ML then[x] else[]:=by
 unfold d8;rw[List.filter_append]
 congr 1
 by_cases h:jE x=ML
 ·rw[aJ h];simp only [Cx,h]
 ·rw[aI h];have h:jE x=K:=by simpa using h
  simp only [Cx,h]
theorem Cv (l:List S6):L (d8 l)<=L l:=bu _ _
theorem jZ {w:az}{b:Nat}{c:Array Value}{T:TypeId}(h:w.heap[b]?=Z (E c T (0,0))){i:Nat}{v:Value}(hi:c[i]?=Z v):w.cell? (av b i)=Z v:=by simp[World.cell?,h,hi]
theorem kz (a:Int)(h:-100<=a/\a<=100):gE a:=⟨aa,aa⟩
theorem L3 {w:az}{b:Nat}(h:w.heap[b]?=Z (E #[ak 4,ak 0,ak 0,ak 0,ak 0,ak 0,ak 15,ak 0,ak 0,ak 0,ak 0,ak 0,ak 11,ak 0,ak 1,ak 0,ak 0,ak 0] 44 (0,0))):gN w (au b) m3:=fun _=>by
 refine⟨b,0,rfl,lt_of_some h,fun i hi=>?_⟩
 have hi:i<3:=hi;rcases(show i=0\/i=1\/i=2 by omega) with rfl|rfl|rfl
 all_goals exact⟨⟨jZ h rfl,jZ h rfl,jZ h rfl,jZ h rfl,jZ h rfl,jZ h rfl⟩,kz _ ae,kz _ ae,kz _ ae,kz _ ae,kz _ ae,kz _ ae⟩
theorem L4 {w:az}{b:Nat}(h:w.heap[b]?=Z (E #[ak 16,ak 0,ak 0,ak 0,ak 0,ak 0,ak 2,ak 0,ak 0,ak 0,ak 0,ak 0] 44 (0,0))):gN w (au b) [⟨16,0,0,0,0,0⟩,⟨2,0,0,0,0,0⟩]:=fun _=>by
 refine⟨b,0,rfl,lt_of_some h,fun i hi=>?_⟩
 have hi:i<2:=hi;rcases(show i=0\/i=1 by omega) with rfl|rfl
 all_goals exact⟨⟨jZ h rfl,jZ h rfl,jZ h rfl,jZ h rfl,jZ h rfl,jZ h rfl⟩,kz _ ae,kz _ ae,kz _ ae,kz _ ae,kz _ ae,kz _ ae⟩
theorem v9 (w:az):J O 32 #[] w fun e w'=>e=MD (.bool ML)/\C (I (G w)) w w':=by
 obtain⟨g,hg⟩:=wZ;have u:=hide hg;have S:aA (∀(b:Nat)(w':az),gN w' (au b) m3->J O 33 #[ak 16,ak 8,H (au b) 3 3] w' fun e o=>∃ca f j c d,e=MD (.tuple #[H ca 3 3,bF #[H f 12 j,H c 1 d],bF #[ak 0,ak 0]])/\gg o (I (G w')) ca [0,0,2]/\C (I (G w')) w' o):=fun b w' h=>by
  obtain⟨c1,c2⟩:=LW u.o;refine(Cf u.o 16 8 ae ae ae m3 (au b) 3 w' h ae).mono ?_;rintro e o ⟨ca,f,j,c,d,rfl,q1,_,_,W⟩
  rw[c1] at q1;exact⟨ca,f,j,c,d,by rw[c2];rfl,q1,W⟩
 go_enter func32,ntmps32;have P:=S.o (I (G w)) _ (L3 (aP w (E #[U MC 4,U MC 0,U MC 0,U MC 0,U MC 0,U MC 0,U MC 15,U MC 0,U MC 0,U MC 0,U MC 0,U MC 0,U MC 11,U MC 0,U MC 1,U MC 0,U MC 0,U MC 0] 44)))
 have v:=hide (aw w (E #[U MC 4,U MC 0,U MC 0,U MC 0,U MC 0,U MC 0,U MC 15,U MC 0,U MC 0,U MC 0,U MC 0,U MC 0,U MC 11,U MC 0,U MC 1,U MC 0,U MC 0,U MC 0] 44))
 go_wp2_with fail;generalize bE w (E #[U MC 4,U MC 0,U MC 0,U MC 0,U MC 0,U MC 0,U MC 15,U MC 0,U MC 0,U MC 0,U MC 0,U MC 0,U MC 11,U MC 0,U MC 1,U MC 0,U MC 0,U MC 0] 44)=w0 at*;refine P.mono ?_;rintro e w1 ⟨ca,f,j,c,d,rfl,q1,ab⟩
 have p:=c8 q1 (v.o.trans (ab.mono v.o.size))
 go_upto_region 2 with fail
 have x:=(aw w1 (E #[H f 12 j,H c 1 d] 60)).alloc ac (E #[U MC 0,U MC 0] 28)
 have l:aA ((bE (bE w1 (E #[H f 12 j,H c 1 d] 60)) (E #[U MC 0,U MC 0] 28)).heap[I (G w1)]?=Z (E #[H f 12 j,H c 1 d] 60 (0,0))/\(bE (bE w1 (E #[H f 12 j,H c 1 d] 60)) (E #[U MC 0,U MC 0] 28)).heap[I (G w1)+1]?=Z (E #[ak 0,ak 0] 28 (0,0))/\gg (bE (bE w1 (E #[H f 12 j,H c 1 d] 60)) (E #[U MC 0,U MC 0] 28)) (I (G w0)) ca [0,0,2]/\C (I (G w)) w (bE (bE w1 (E #[H f 12 j,H c 1 d] 60)) (E #[U MC 0,U MC 0] 28))):=⟨by rw[aS _ _ _ ac];exact aP _ _,hZ _ _ _,p.o.1.below x,p.o.2.trans (x.mono p.o.2.size)⟩
 generalize bE (bE w1 (E #[H f 12 j,H c 1 d] 60)) (E #[U MC 0,U MC 0] 28)=k at*;generalize I (G w1)=B at*;obtain⟨ad,_⟩:k.cell? ⟨B+1,0,Y⟩=Z (U MC 0)/\True:=⟨by simp[World.cell?,l.o.2.1],trivial⟩
 have hl:=aP k (E #[U MC 0,U MC 0,U MC 2] 3)
 have q:=aw k (E #[U MC 0,U MC 0,U MC 2] 3)
 have P:=Ca ca (au (I (G k))) 3 3 (I (G w0)) (I (G k)) [0,0,2] _ ae (l.o.2.2.1.below q) (fun _=>⟨I (G k),0,rfl,aG _,lt_of_some hl,fun i hi=>by have hi:i<3:=hi;rcases(show i=0\/i=1\/i=2 by omega) with rfl|rfl|rfl<;>exact jZ hl rfl⟩)
 have m:=c8 (l.o.2.2.2.trans (q.mono l.o.2.2.2.size)) ((q.block _ (lt_of_some l.o.1)).trans l.o.1)
 go_wp2_with fail;generalize bE k (E #[U MC 0,U MC 0,U MC 2] 3)=ai at*;refine P.mono ?_;rintro e n ⟨rfl,s⟩
 have t:=c8 (m.o.1.trans (s.mono m.o.1.size)) ((s.block _ (lt_of_some m.o.2)).trans m.o.2)
 have al:n.cell? (av B 1)=Z (H c 1 d):=aD t.o.2
 have P:=LU [⟨16,0,0,0,0,0⟩,⟨2,0,0,0,0,0⟩] (au (I (G n))) 2 _ (L4 (aP n (E #[U MC 16,U MC 0,U MC 0,U MC 0,U MC 0,U MC 0,U MC 2,U MC 0,U MC 0,U MC 0,U MC 0,U MC 0] 44))) ae;have F:=hide (t.o.1.trans ((aw n (E #[U MC 16,U MC 0,U MC 0,U MC 0,U MC 0,U MC 0,U MC 2,U MC 0,U MC 0,U MC 0,U MC 0,U MC 0] 44)).mono t.o.1.size))
 have N:L (f_ [⟨16,0,0,0,0,0⟩,⟨2,0,0,0,0,0⟩])=1:=ae;rw[N] at P;clear s m N ad;go_wp2_with fail;refine P.mono ?_;rintro e am ⟨an,rc,rfl,_,ag⟩
 have hB:=F.o.trans (ag.mono F.o.size)
 go_wp2_with fail;go_ret;exact⟨rfl,hB⟩
namespace TRm
theorem Cw (x y:Value)(w:az):Sem.run O (Instr.field 28 (bF #[x,y]) 0) w=.ok x w:=ah
theorem walk (n o more gr:Int)(a:Option Addr)(cc:Nat)(l:List S6)(w:az)(hl:gN w a l):
 J O 11 #[ak n,ak o,ak more,ak gr,H a (L l) cc] w fun e w'=>e=MD (.bool ML)/\C (I (G w)) w w':=by
 obtain⟨g,hg⟩:=wZ;have cX:aA (gN w a l):=hl;have b2:aA (∀T wt,em T wt->dz T wt (g T wt)):=hg;have cY:aA (qk l):=hl.vQ;clear hl hg;by_cases dA:250<L l
 ·go_enter func11,ntmps11;go_wp2_with fail;refine(v9 w).mono ?_;rintro e w1 ⟨rfl,aB⟩
  have b3:(250:Int)<(L l:Int):=aa;go_wp2_with fail;go_ret;exact⟨rfl,aB⟩
 ·have b3:¬((250:Int)<(L l:Int)):=aa;by_cases b4:n<16\/256<n\/o<0\/1024<o
  ·have cZ:aA (n<16\/256<n\/o<0\/1024<o):=b4;clear b4;go_enter func11,ntmps11;go_wp2_with fail;refine(v9 w).mono ?_;rintro e w1 ⟨rfl,aB⟩
   go_wp2_with fail;refine(K0 n o w1 cZ.o).mono ?_;rintro e F ⟨rfl,aF⟩
   have hb:=aB.trans (aF.mono aB.size)
   have c0:=Cw;go_wp2_with fail;go_ret;exact⟨rfl,hb⟩
  ·have c3:16<=n/\n<=256/\0<=o/\o<=1024:=aa;obtain⟨n,rfl⟩:=bG (show 0<=n by omega)
   obtain⟨o,rfl⟩:=bG (show 0<=o by omega)
   obtain⟨r1,c4,bx⟩:=Cr more 100 ae ae;obtain⟨N,c5,b0⟩:=Cr gr 300 ae ae;obtain⟨c6,c7,c8,c9,da⟩:=info_parts Cn;have ct:aA (∀w',J O 14 #[ak n,ak o] w' fun e a3=>e=MD (bF #[ak 0,ak 0])/\C (I (G w')) w' a3):=fun w'=>KZ n o w' aa aa aa aa;have db:aA (wrap64 ((IntKind.u64.wrap more).tmod 100)=(r1:Int)):=bx;have dc:aA (wrap64 ((IntKind.u64.wrap gr).tmod 300)=(N:Int)):=b0;have b1:aA (16<=n/\n<=256/\o<=1024/\r1<100/\N<300):=by show _/\_;omega
   have b5:aA (L l<=250):=by show _<=_;omega
   clear b4 c3 bx b0 c4 c5;go_enter func11,ntmps11;go_wp2_with fail;refine(v9 w).mono ?_;rintro e w1 ⟨rfl,aB⟩
   go_wp2_with fail;refine(ct.o w1).mono ?_;rintro e F ⟨rfl,aF⟩
   have cu:aA (C (I (G w)) w F):=aB.trans (aF.mono aB.size)
   have c0:=Cw;clear aB aF;go_wp2_with fail
   go_loopw [11,12] (fun rv iv wr=>∃(i:Nat)(am:Option Addr)(rc:Nat),i<=L l/\iv=ak i/\rv=H am (L (d8 (l.take i))) rc/\aA (aC wr (I (G w)) 44 6 (H am (L (d8 (l.take i))) rc) (L (d8 (l.take i))) (gw (d8 (l.take i))))/\aA (C (I (G w)) w wr)) (fun _ iv _=>L l-M (bN iv))
   case atStart=>exact⟨0,Y,0,a5 _,rfl,rfl,bf _ _ _ _,cu.o⟩
   case round=>
    obtain⟨i,am,rc,hi,rfl,rfl,a4,aR⟩:=hrel;by_cases cw:i<L l
    ·obtain⟨dB,dD,dd,l0,hc⟩:=cX.o aa;obtain⟨b6,_⟩:=hc i cw;subst dd;clear hc;have q0:(0:Int)<=(i:Int):=aa;have q1:(i:Int)<(L l:Int):=aa;have al:aA (d8 (l.take (i+1))=d8 (l.take i)++if jE (MG l i hJ)=ML then[MG l i hJ] else[]):=by show _=_;rw[sv l cw,L0]
     have cd:aA (L (d8 (l.take i))<=2000):=by
      have:=Cv (l.take i)
      rw[bC] at this
      have:=b5.o;show _<=_;omega
     generalize MG l i hJ=st at*;obtain⟨s,sR,ba,bb,bd,sn⟩:=st;obtain⟨ce,y1,cf,cg,de,df⟩:=b6.below aR.o l0;dsimp only at ce y1 cf cg de df;cases hb:jE ⟨s,sR,ba,bb,bd,sn⟩
     ·rw[hb] at al;have al:aA (d8 (l.take (i+1))=d8 (l.take i)++[]):=al;have cx:aA (aC wr (I (G w)) 44 6 (H am (L (d8 (l.take (i+1)))) rc) (L (d8 (l.take (i+1)))) (gw (d8 (l.take (i+1))))/\C (I (G w)) w wr):=by rw[al.o,hV];exact⟨a4.o,aR.o⟩
      have bi:L (d8 (l.take i))=L (d8 (l.take (i+1))):=by rw[al.o,hV]
      have hs:s=6\/s=7\/s=8\/s=15\/s=16:=by unfold jE at hb;simp at hb;omega
      rw[bi];clear bi al b6 a4 aR hb cd;rcases hs with rfl|rfl|rfl|rfl|rfl
      all_goals
       go_wp2_with fail;go_roundw
       case rel=>exact⟨i+1,_,_,aa,aj,rfl,⟨cx.o.1,cx.o.2⟩⟩
       case measure=>simp[bN];omega
     ·rw[hb] at al;have al:aA (d8 (l.take (i+1))=d8 (l.take i)++[⟨s,sR,ba,bb,bd,sn⟩]):=al;obtain⟨k6,cy,cz,cA,cB⟩:(s !=6)=ML/\(s !=7)=ML/\(s !=8)=ML/\(s !=15)=ML/\(s !=16)=ML:=by obtain⟨k6,cy,cz,cA,cB⟩:=v6.1 hb;exact⟨bne_iff_ne.2 k6,bne_iff_ne.2 cy,bne_iff_ne.2 cz,bne_iff_ne.2 cA,bne_iff_ne.2 cB⟩
      have cC:=aw wr (cH s sR ba bb bd sn)
      have cD:I (G w)<=I (G wr):=aR.o.size;have dg:=cd.o;have hM:=b5.o;have d:aA (aC wr (I (G w)) 44 6 (H am (L (d8 (l.take i))) rc) (L (d8 (l.take i))) (gw (d8 (l.take i)))/\C (I (G w)) w wr):=⟨a4.o,aR.o⟩
      clear b6 a4 aR cd hb;generalize d8 (l.take i)=Q at*;go_wp2_with (at_builtin;refine wpList_append_lies _ rfl _ _ 36 rfl (I (G w)) 44 c6 (bF #[ak 0,ak 0,ak 0,ak 0,ak 0,ak 0]) 6 48 underlying36 c7 c8 c9 da rfl ae (H am (L Q) rc) (L Q) (gw Q) rfl (ga d.o.1 _) ⟨I (G wr),0,Y⟩ 1 1 (e6 ⟨s,sR,ba,bb,bd,sn⟩) rfl rfl ?_ ?_ ae (by unfold maxLen;omega) aa (by simp;omega) _ rfl ?_;(intro j u S;have S:=S;match j,S with|0,S=>(cases S;simp[Addr.add])|1,S=>(cases S;simp[Addr.add])|2,S=>(cases S;simp[Addr.add])|3,S=>(cases S;simp[Addr.add])|4,S=>(cases S;simp[Addr.add])|5,S=>(cases S;simp[Addr.add]));(intro u cE;simp[e6] at cE;rcases cE with rfl|rfl|rfl|rfl|rfl|rfl<;>rfl);intro dh di bl cF cG dj dk)
      have cI:aA (aC bl (I (G w)) 44 6 (H (au dh) (L (d8 (l.take (i+1)))) di) (L (d8 (l.take (i+1)))) (gw (d8 (l.take (i+1))))/\C (I (G w)) w bl):=by
       rw[al.o,Ch,a8];have e:gw [(⟨s,sR,ba,bb,bd,sn⟩:S6)]=e6 ⟨s,sR,ba,bb,bd,sn⟩:=by simp[gw]
       rw[e];exact⟨cF,(d.o.2.trans (cC.mono cD)).grown cG (by simp;omega) (fun b e=>(cv d.o.1 b e.symm).1)⟩
      have bi:(L Q+1)=L (d8 (l.take (i+1))):=by rw[al.o,a8];rfl
      rw[bi];clear bi dg cD cF cG dj dk cC d al;go_wp2_with fail;go_roundw
      case rel=>exact⟨i+1,_,_,aa,aj,rfl,⟨cI.o.1,cI.o.2⟩⟩
      case measure=>simp[bN];omega
    ·obtain rfl:i=L l:=aa;rw[bv] at*;have aV:aA (qk (d8 l)/\L (d8 l)<=250/\∀x∈d8 l,jE x=ML):=⟨fun x ch=>cY.o x (bM.1 ch).1,aU (Cv l) b5.o,fun x ch=>(bM.1 ch).2⟩
     have cJ:aA (gN wr am (d8 l)):=gN.row a4.o rfl aV.o.1;have h0:=b1.o;obtain⟨t,cK⟩:∃t:Nat,(256<(n:Int)+r1/\(t:Int)=256)\/((n:Int)+r1<=256/\(t:Int)=(n:Int)+r1):=by
      by_cases c:256<(n:Int)+r1
      ·exact⟨256,aM ⟨c,rfl⟩⟩
      ·exact⟨n+r1,aK ⟨aa,aa⟩⟩
     obtain⟨W,cL⟩:∃W:Nat,(1024<(o:Int)+N/\(W:Int)=1024)\/((o:Int)+N<=1024/\(W:Int)=(o:Int)+N):=by
      by_cases c:1024<(o:Int)+N
      ·exact⟨1024,aM ⟨c,rfl⟩⟩
      ·exact⟨o+N,aK ⟨aa,aa⟩⟩
     have dl:aA (((256<(n:Int)+r1/\(t:Int)=256)\/((n:Int)+r1<=256/\(t:Int)=(n:Int)+r1))/\((1024<(o:Int)+N/\(W:Int)=1024)\/((o:Int)+N<=1024/\(W:Int)=(o:Int)+N))):=⟨cK,cL⟩
     have ci:aA (16<=t/\t<=256/\W<=1024):=by show _/\_;omega
     have cM:aA (wrap64 ((n:Int)+r1)=(n:Int)+r1/\wrap64 ((o:Int)+N)=(o:Int)+N):=by show _/\_;unfold wrap64;omega
     have cN:=LZ b2.o n o t W (d8 l) (by have:=aV.o.2.1;omega) aV.o.2.2;have cj:aA (∀(n o:Nat) w',16<=n->n<=256->o<=1024->gN w' am (d8 l)->J O 33 #[ak n,ak o,H am (L (d8 l)) rc] w' fun e a3=>∃ca N k v ai,e=MD (.tuple #[H ca (L (d8 l)) (L (d8 l)),bF #[H N 12 k,H v (L (gu g n o (d8 l)).2.2) ai],bF #[ak 0,ak 0]])/\gg a3 (I (G w')) ca (jD g n o (d8 l))/\jp a3 (I (G w')) N (gu g n o (d8 l)).1/\i6 a3 (I (G w')) v (gu g n o (d8 l)).2.2/\C (I (G w')) w' a3):=fun n o w' dm b3 dn h=>Cf b2.o n o dm b3 dn (d8 l) am rc w' h (by have:=aV.o.2.1;omega)
     have ck:aA (∀n o,L (jD g n o (d8 l))=L (d8 l)/\L (gu g n o (d8 l)).1=12/\L (gu g n o (d8 l)).2.2<=10000/\∀nd∈(gu g n o (d8 l)).2.2,L nd.2<=20000):=fun n o=>⟨su g n o (d8 l) _,LV b2.o n o (d8 l) (by have:=aV.o.2.1;omega)⟩
     have be:=aR;clear cK cL h0 a4 aR cu ct;generalize d8 l=D at*;have f:=cj.o n o wr (by have:=b1.o;omega) (by have:=b1.o;omega) (by have:=b1.o;omega) cJ.o;have ar:aA (L (jD g n o D)=L D/\L (gu g n o D).1=12/\L (gu g n o D).2.2<=10000/\∀nd∈(gu g n o D).2.2,L nd.2<=20000):=ck.o n o;have cl:aA (L (jD g t W D)=L D/\L (gu g t W D).1=12/\L (gu g t W D).2.2<=10000/\∀nd∈(gu g t W D).2.2,L nd.2<=20000):=ck.o t W;have cm:aA (∀w',gN w' am D->_):=fun w'=>cj.o t W w' ci.o.1 ci.o.2.1 ci.o.2.2;clear cj ck;generalize jD g n o D=a0 at*;generalize jD g t W D=a1 at*;generalize gu g n o D=dp at*;generalize gu g t W D=dq at*;obtain⟨bn,cO,ab⟩:=dp;obtain⟨cn,cP,m⟩:=dq;have dr:aA (3∈a0\/3∈a1\/a1=a0/\(cn,cP,m)=(bn,cO,ab)):=cN;dsimp only at f cm ar cl;clear cN;go_wp2_with fail;refine f.mono ?_;clear f;rintro e F ⟨ca,r3,k,v,ai,rfl,bo,bp,br,aF⟩
     have an:=(aw F (E #[H r3 12 k,H v (L ab) ai] 60)).alloc ac (E #[U MC 0,U MC 0] 28)
     have ap:=aF.trans (an.mono aF.size)
     have ao:aA (C (I (G wr)) wr (bE (bE F (E #[H r3 12 k,H v (L ab) ai] 60)) (E #[U MC 0,U MC 0] 28))/\(bE (bE F (E #[H r3 12 k,H v (L ab) ai] 60)) (E #[U MC 0,U MC 0] 28)).heap[I (G F)]?=Z (E #[H r3 12 k,H v (L ab) ai] 60 (0,0))/\(bE (bE F (E #[H r3 12 k,H v (L ab) ai] 60)) (E #[U MC 0,U MC 0] 28)).heap[I (G F)+1]?=Z (E #[ak 0,ak 0] 28 (0,0))/\gg (bE (bE F (E #[H r3 12 k,H v (L ab) ai] 60)) (E #[U MC 0,U MC 0] 28)) 0 ca a0/\dC (bE (bE F (E #[H r3 12 k,H v (L ab) ai] 60)) (E #[U MC 0,U MC 0] 28)) r3 bn/\Ln (bE (bE F (E #[H r3 12 k,H v (L ab) ai] 60)) (E #[U MC 0,U MC 0] 28)) v ab):=⟨ap,by rw[aS _ _ _ ac];exact aP _ _,hZ _ _ _,(bo.below an).base (a5 _),bp.1.below an,br.ln.below an⟩
     clear aF an ap bo bp br
     go_upto_region 13 with fail
     generalize bE (bE F (E #[H r3 12 k,H v (L ab) ai] 60)) (E #[U MC 0,U MC 0] 28)=ds at*;generalize I (G F)=cQ at*;have cp:=cm.o ds (cJ.o.below ao.o.1)
     have bx:=db.o;have b0:=dc.o;have dt:=cM.o.1;have du:=cM.o.2;obtain⟨dv,co⟩:=dl.o;clear cm;rcases dv with⟨c1,cq⟩|⟨c1,cq⟩<;>rcases co with⟨c2,k⟩|⟨c2,k⟩
     all_goals
      rw[cq,k] at cp;clear cq k;go_wp2_with fail;refine cp.mono ?_;clear cp;rintro e p ⟨cb,B,ad,nb,ag,rfl,bo,bp,br,cr⟩
      have an:=(aw p (E #[H B 12 ad,H nb (L m) ag] 60)).alloc ac (E #[U MC 0,U MC 0] 28)
      have ap:=cr.trans (an.mono cr.size)
      have d:aA (C (I (G wr)) wr (bE (bE p (E #[H B 12 ad,H nb (L m) ag] 60)) (E #[U MC 0,U MC 0] 28))/\(bE (bE p (E #[H B 12 ad,H nb (L m) ag] 60)) (E #[U MC 0,U MC 0] 28)).heap[cQ]?=Z (E #[H r3 12 k,H v (L ab) ai] 60 (0,0))/\(bE (bE p (E #[H B 12 ad,H nb (L m) ag] 60)) (E #[U MC 0,U MC 0] 28)).heap[cQ+1]?=Z (E #[ak 0,ak 0] 28 (0,0))/\(bE (bE p (E #[H B 12 ad,H nb (L m) ag] 60)) (E #[U MC 0,U MC 0] 28)).heap[I (G p)]?=Z (E #[H B 12 ad,H nb (L m) ag] 60 (0,0))/\(bE (bE p (E #[H B 12 ad,H nb (L m) ag] 60)) (E #[U MC 0,U MC 0] 28)).heap[I (G p)+1]?=Z (E #[ak 0,ak 0] 28 (0,0))/\(gg (bE (bE p (E #[H B 12 ad,H nb (L m) ag] 60)) (E #[U MC 0,U MC 0] 28)) 0 ca a0/\dC (bE (bE p (E #[H B 12 ad,H nb (L m) ag] 60)) (E #[U MC 0,U MC 0] 28)) r3 bn/\Ln (bE (bE p (E #[H B 12 ad,H nb (L m) ag] 60)) (E #[U MC 0,U MC 0] 28)) v ab)/\gg (bE (bE p (E #[H B 12 ad,H nb (L m) ag] 60)) (E #[U MC 0,U MC 0] 28)) 0 cb a1/\dC (bE (bE p (E #[H B 12 ad,H nb (L m) ag] 60)) (E #[U MC 0,U MC 0] 28)) B cn/\Ln (bE (bE p (E #[H B 12 ad,H nb (L m) ag] 60)) (E #[U MC 0,U MC 0] 28)) nb m):=⟨ao.o.1.trans (ap.mono ao.o.1.size),(ap.block _ (lt_of_some ao.o.2.1)).trans ao.o.2.1,(ap.block _ (lt_of_some ao.o.2.2.1)).trans ao.o.2.2.1,by rw[aS _ _ _ ac];exact aP _ _,hZ _ _ _,⟨ao.o.2.2.2.1.below ap,ao.o.2.2.2.2.1.below ap,ao.o.2.2.2.2.2.below ap⟩,(bo.below an).base (a5 _),bp.1.below an,br.ln.below an⟩
      clear cr an ap ao bo bp br
      go_upto_region 14 with fail
      generalize bE (bE p (E #[H B 12 ad,H nb (L m) ag] 60)) (E #[U MC 0,U MC 0] 28)=a2 at*;generalize I (G p)=dE at*;obtain⟨ce,y1,_⟩:=o5 d.o.2.2.1;obtain⟨cf,cg,_⟩:=o5 d.o.2.2.2.2.1;have f:=Co ca (L D) 0 a0 3 a2 (by rw[ar.o.1];have:=aV.o.2.1;omega) d.o.2.2.2.2.2.1.1;rw[ar.o.1] at f;clear bx b0 dt du c1 c2;go_wp2_with fail;refine f.mono ?_;clear f;rintro e bl ⟨rfl,cR⟩
      have bs:aA (C (I (G a2)) a2 bl):=cR;clear cR ce y1 cf cg;cases hc1:bQ a0 3
      ·have f:=Co cb (L D) 0 a1 3 bl (by rw[cl.o.1];have:=aV.o.2.1;omega) (d.o.2.2.2.2.2.2.1.below bs.o)
       rw[cl.o.1] at f;go_wp2_with fail;refine f.mono ?_;clear f;rintro e cS ⟨rfl,cT⟩
       have bg:aA (C (I (G a2)) a2 cS):=bs.o.trans (cT.mono bs.o.size)
       clear cT bs;cases hc2:bQ a1 3
       ·obtain⟨dw,dx⟩:a1=a0/\(cn,cP,m)=(bn,cO,ab):=by
         rcases dr.o with q|q|q
         ·rw[bP.2 q] at hc1;cases hc1
         ·rw[bP.2 q] at hc2;cases hc2
         ·exact q
        cases dx;subst dw;have f:=Ca ca cb (L D) (L D) 0 0 a1 cS (by rw[ar.o.1];have:=aV.o.2.1;omega) (d.o.2.2.2.2.2.1.1.below bg.o) (d.o.2.2.2.2.2.2.1.below bg.o)
        rw[ar.o.1] at f;clear hc1 hc2;go_wp2_with fail;refine f.mono ?_;clear f;rintro e cU ⟨rfl,cV⟩
        have cs:aA (C (I (G a2)) a2 cU):=bg.o.trans (cV.mono bg.o.size)
        have hz:=cs.o;obtain⟨z0,dF,_⟩:=o5 ((hz.block _ (lt_of_some d.o.2.1)).trans d.o.2.1)
        obtain⟨dG,dH,_⟩:=o5 ((hz.block _ (lt_of_some d.o.2.2.2.1)).trans d.o.2.2.2.1)
        have f:=DR r3 B v nb k ad ai ag bn ab cU (by rw[ar.o.2.1];decide) (by have:=ar.o.2.2.1;omega) (fun nd dy=>by have:=ar.o.2.2.2 nd dy;omega) (d.o.2.2.2.2.2.1.2.1.below hz) (d.o.2.2.2.2.2.2.2.1.below hz) (d.o.2.2.2.2.2.1.2.2.below hz) (d.o.2.2.2.2.2.2.2.2.below hz)
        rw[ar.o.2.1] at f;clear cV hz bg;go_wp2_with fail;refine f.mono ?_;clear f;rintro e dI ⟨rfl,cW⟩
        have bt:=be.o.trans ((d.o.1.trans ((cs.o.trans (cW.mono cs.o.size)).mono d.o.1.size)).mono be.o.size)
        clear cW;go_wp2_with fail;go_ret;exact⟨rfl,bt⟩
       ·have bt:=be.o.trans ((d.o.1.trans (bg.o.mono d.o.1.size)).mono be.o.size)
        go_wp2_with fail;go_ret;exact⟨rfl,bt⟩
      ·have bt:=be.o.trans ((d.o.1.trans (bs.o.mono d.o.1.size)).mono be.o.size)
       go_wp2_with fail;go_ret;exact⟨rfl,bt⟩
end TRm
end Go.Proofs.YtpkjkjhanlbcoaaGreat
