import Derived.Test.YtjckpdepffejnaaGreatDoorJ15
import Derived.Maps.RangeWalk
open Array renaming size->I
open Bool renaming false->O4,true->C
open Go renaming Addr->bB,Calls->O2,TypeId->bI,Value->a7
open Go.Ending renaming returned->Q
open Go.IntKind renaming i64->R
open Go.Obj renaming cells->OX
open Go.Proofs.Tryz renaming prog->J
open Go.Result renaming ok->sS
open Go.RowKit renaming Below->O
open Go.Value renaming agg->bz,bool->bA,int->U,ownBlock->A,slice->Z,tuple->ay
open Go.World renaming alloc->bu,cell?->V,frozen?->bF,heap->G,ownsRow->aC,setCell->O8
open Int renaming toNat->K
open List renaming contains_iff_mem->bT,getD->X,length->OQ,length_set->lG,mem_map->bS,replicate->aZ
open Option renaming none->Y,some->H
open Option.some renaming inj->kg
namespace Go.Proofs.YtjckpdepffejnaaGreatDoor
set_option maxRecDepth 100000
set_option maxHeartbeats 4000000
open Tryz
open Go.RowKit W Kp ch
theorem BH {P:Prop}(h:P:=by
 go_wp2_with fail;refine(s7 _ _).mono ?_;rintro e w2 ⟨rfl,hb2⟩
 have hq:=(hb2.block (w.heap.size+1+1) ac).trans (wG w _ _ _)
 obtain⟨e0,e1,f0,lw⟩:=dt hq;have HN:=cg hq;have HB:=cg (b1.trans (hb2.mono b1.size))
 go_wp2_with fail;obtain⟨r0,r1,_,_⟩:=dt (ib (v1:=ak 1) (v2:=ak 0) HN.o)
 exact a3 (v:=.agg #[ak 1,ak 0]) (by simp[results,results212,go_sem,r0,r1]) rfl ⟨rfl,(HB.o.setCell (by simp;omega) _).setCell (by simp;omega) _⟩):P:=h
theorem BI {P:Prop}(h:P:=by
 rintro e w1 ⟨rfl,hb⟩
 have HB:=cg (((aH _ w).alloc bY _).trans (hb.mono ac))
 go_wp2;go_ret2;exact⟨rfl,HB.o.alloc HB.o.size _⟩):P:=h
structure dG where
 A:List Bool
 td:List Int
 hd:Int->List (Int×Int)
 m:Nat
def eF (s:dG)(v:Int×Int):dG:=if eN s.A v=C then s else {s with A:=s.A.set (K v.2) C,td:=s.td++[v.2]}
def dz (s:dG)(l:List (Int×Int)):dG:=l.foldl eF s
def mB (s:dG)(k v:Int×Int):dG:=if eN s.A k=C then eF s v else {s with hd:=λx=>if x=k.2 then s.hd x++[v] else s.hd x,m:=s.m+1}
def hZ (T:List cH)(wt:List b8)(s:dG)(i:Int):dG:=
 if(X T (K i) t0).1=1\/(X T (K i) t0).1=2 then dz s (X T (K i) t0).2.1
 else if(X T (K i) t0).1=3 then eF s (X (X T (K i) t0).2.1 1 (0,0))
 else if(X T (K i) t0).1=4 then mB s (X (X T (K i) t0).2.1 0 (0,0)) (X (X T (K i) t0).2.1 1 (0,0))
 else if(X T (K i) t0).1=5 then dz s ((eS wt i).map λx=>(3,x)) else s
def ii (T:List cH)(wt:List b8)(s:dG)(i:Int):dG:=dz (hZ T wt s i) ((hZ T wt s i).hd i)
theorem BJ (s:dG)(l:List (Int×Int))(v:Int×Int):dz s (l++[v])=eF (dz s l) v:=by simp[dz,List.foldl_append]
def q8 (T:List cH)(wt:List b8)(s:dG)(P:Int->Prop)(i:Nat):Prop:=
 ((X T i t0).1≠4->∀v,jH T wt (λ_=>True) i v->v.1=3->cx s.A (K v.2))/\
 ((
   X T i t0).1=4->((X (X T i t0).2.1 0 (0,0)).1=3/\(¬cx s.A (K (X (X T i t0).2.1 0 (0,0)).2)\/P (X (X T i t0).2.1 0 (0,0)).2)/\X (X T i t0).2.1 1 (0,0)∈s.hd (X (X T i t0).2.1 0 (0,0)).2)\/
   ((X (X T i t0).2.1 1 (0,0)).1=3->cx s.A (K (X (X T i t0).2.1 1 (0,0)).2)))
structure fu (T:List cH)(wt:List b8)(is:List Bool)(s:dG)(E:List Int):Prop where
 len:OQ s.A=OQ T
 al:∀k,cx s.A k->cz T k
 lt:∀X,iM T wt X->(∀k,cx is k->X k)->∀k,cx s.A k->X k
 td:∀x,x∈E\/x∈s.td->0<=x/\cx s.A (K x)
 hd:∀x v,v∈s.hd x->∃i,cx s.A i/\(T.getD i t0).1=4/\(T.getD i t0).2.1.getD 0 (0,0)=(3,x)/\v=(T.getD i t0).2.1.getD 1 (0,0)
 dp:∀i:Nat,cx s.A i->¬((i:Int)∈E\/(i:Int)∈s.td)->q8 T wt s (λx=>x∈E\/x∈s.td) i
section
variable {T:List cH}{wt:List b8}{is:List Bool}{s:dG}{E:List Int}
theorem BK {L:List Bool}{i k:Nat}(h:cx L k):cx (L.set i C) k:=by grind [cx]
theorem q9 (s:dG)(v:Int×Int){k:Nat}(h:cx s.A k):cx (eF s v).A k:=by grind [BK,eF]
theorem wH (s:dG)(v:Int×Int)(b:v.1=3)(hl:K v.2<OQ s.A):cx (eF s v).A (K v.2):=by grind [oH,eF,cx]
theorem s8 (s:dG)(v:Int×Int):OQ (eF s v).A=OQ s.A:=by grind [eF]
theorem oJ (s:dG)(v:Int×Int):(eF s v).hd=s.hd/\(eF s v).m=s.m:=by grind [eF]
theorem JT (s:dG)(v:Int×Int){x:Int}(h:x∈s.td):x∈(eF s v).td:=by grind [eF]
theorem JU (s:dG)(v:Int×Int)(hv:v.1=3->0<=v.2){k:Nat}(h:cx (eF s v).A k):cx s.A k\/(k:Int)∈(eF s v).td:=by grind [eF,eN,cx]
theorem kF (s:dG)(l:List _):(dz s l).hd=s.hd/\(dz s l).m=s.m/\OQ (dz s l).A=OQ s.A:=by
 induction l generalizing s with
 |nil=>exact⟨rfl,rfl,rfl⟩
 |cons v l b=>
  have h:=b (eF s v)
  exact⟨h.1.trans (oJ s v).1,h.2.1.trans (oJ s v).2,h.2.2.trans (s8 s v)⟩
theorem mC (s:dG)(l:List _){k:Nat}(h:cx s.A k):cx (dz s l).A k:=by
 induction l generalizing s with
 |nil=>exact h
 |cons v l b=>exact b (eF s v) (q9 s v h)
theorem JV (s:dG)(l:List _){x:Int}(h:x∈s.td):x∈(dz s l).td:=by
 induction l generalizing s with
 |nil=>exact h
 |cons v l b=>exact b (eF s v) (JT s v h)
theorem wJ (s:dG)(l:List _)(hl:∀v∈l,v.1=3->K v.2<OQ s.A):∀v∈l,v.1=3->cx (dz s l).A (K v.2):=by
 induction l generalizing s with
 |nil=>grind
 |cons u l b=>
  intro v hv c;rcases List.mem_cons.1 hv with e|hv
  ·exact mC (eF s u) l (by grind [wH])
  ·exact b (eF s u) (by grind [s8]) v hv c
theorem JW (s:dG)(l:List _)(hl:∀v∈l,v.1=3->0<=v.2){k:Nat}(h:cx (dz s l).A k):cx s.A k\/(k:Int)∈(dz s l).td:=by
 induction l generalizing s with
 |nil=>exact aK h
 |cons v l b=>
  rcases b (eF s v) (by grind) h with c|c
  ·rcases JU s v (by grind) c with c|c
   ·grind
   ·exact aI (JV (eF s v) l c)
  ·exact aI c
theorem q8.mono {s d:dG}{P e:Int->Prop}{i:Nat}(h:q8 T wt s P i)(f:∀k,cx s.A k->cx d.A k)(j:∀x:Int,0<=x->cx d.A (K x)->¬cx s.A (K x)->e x)(l:∀x,P x->e x)(m:∀x v,v∈s.hd x->v∈d.hd x)(h0:(X T i t0).1=4->(X (X T i t0).2.1 0 (0,0)).1=3->0<=(X (X T i t0).2.1 0 (0,0)).2):q8 T wt d e i:=by
 refine⟨λhk v hv g=>f _ (h.1 hk v hv g),λhk=>?_⟩
 rcases h.2 hk with⟨a,b,c⟩|a
 all_goals grind
theorem m4 (b:e6 T wt){i:Nat}(hi:cz T i)(hk:(X T i t0).1=4)(j:Nat)(c:j<2):(X (X T i t0).2.1 j (0,0)).1=3->0<=(X (X T i t0).2.1 j (0,0)).2/\cz T (K (X (X T i t0).2.1 j (0,0)).2):=λd=>
 b.fv i hi _ (fL ((b.fl i hi (aI hk)▸c))) d
theorem wK {s:dG}{v:Int×Int}(h:eN s.A v=C):eF s v=s:=by grind [eF]
theorem s9 {s:dG}{v:Int×Int}(h:eN s.A v=O4):eF s v={s with A:=s.A.set (K v.2) C,td:=s.td++[v.2]}:=by grind [eF]
theorem fu.mark (h:fu T wt is s E)(e:e6 T wt)(v:Int×Int)(hv:v.1=3->0<=v.2/\cz T (K v.2))(l:v.1=3->∀X,iM T wt X->(∀k,cx is k->X k)->X (K v.2)):fu T wt is (eF s v) E:=by
 cases hi:eN s.A v
 ·obtain⟨c,m⟩:=oG hi;obtain⟨v0,f⟩:=hv c;have hl:K v.2<OQ s.A:=(h.len▸f.1)
  have n:∀k,cx (eF s v).A k↔K v.2=k\/cx s.A k:=λk=>by grind [s9,cx]
  have g:∀x,x∈(eF s v).td↔x∈s.td\/x=v.2:=λx=>by grind [s9]
  refine⟨(s8 s v).trans h.len,λk hk=>?_,λX hX hb k hk=>?_,λx b=>?_,λx u j=>?_,λi o hn=>?_⟩
  ·grind [al]
  ·grind [lt]
  ·rcases b with b|b
   ·exact⟨(h.td x (by grind)).1,q9 s v (h.td x (by grind)).2⟩
   ·rcases(g x).1 b with b|b
    ·exact⟨(h.td x (by grind)).1,q9 s v (h.td x (by grind)).2⟩
    grind
  ·rw[(oJ s v).1] at j
   grind [hd]
  ·have d:cx s.A i:=by grind
   refine(h.dp i d (by grind)).mono (by grind) (λx p ha hb=>?_) (by grind) (by grind [oJ]) (λhk c=>(m4 e (h.al i d) hk 0 ae c).1)
   grind
 grind [wK]
theorem fu.marks (h:fu T wt is s E)(c:e6 T wt)(l:List _)(hv:∀v∈l,v.1=3->0<=v.2/\cz T (K v.2))(d:∀v∈l,v.1=3->∀X,iM T wt X->(∀k,cx is k->X k)->X (K v.2)):fu T wt is (dz s l) E:=by
 induction l generalizing s with
 |nil=>exact h
 |cons v l b=>exact b (by grind [mark]) (by grind) (by grind)
theorem BL (s:dG)(v:Int×Int)(hv:v.1=3->K v.2<OQ s.A):OQ (eF s v).td+cnt (eF s v).A=OQ s.td+cnt s.A:=by
 cases hi:eN s.A v
 ·obtain⟨b,c⟩:=oG hi;have d:=wE s.A (K v.2) (by simp_all)
  rw[s9 hi]
  grind
 ·rw[wK hi]
theorem q_ (s:dG)(l:List _)(hl:∀v∈l,v.1=3->K v.2<OQ s.A):OQ (dz s l).td+cnt (dz s l).A=OQ s.td+cnt s.A:=by
 induction l generalizing s with
 |nil=>rfl
 |cons v l b=>exact(b (eF s v) (by grind [s8])).trans (BL s v (by grind))
theorem fu.pop {t:List Int}{x:Int}(h:fu T wt is s [])(b:e6 T wt)(e:s.td=t++[x]):fu T wt is {s with td:=t} [x]:=by
 have hm:∀y,(y∈[x]\/y∈t)↔(y∈([]:List Int)\/y∈s.td):=λy=>by grind
 exact⟨h.len,h.al,h.lt,λy hy=>h.td y (by grind),h.hd,λi hi hn=>(h.dp i hi (by grind)).mono (by grind) (by grind) (by grind) (by grind) (λhk c=>(m4 b (h.al i hi) hk 0 ae c).1)⟩
theorem fu.hold {i n:Nat}{x:Int}{u:Int×Int}(h:fu T wt is s E)(c:e6 T wt)(hi:cx s.A i)(hk:(X T i t0).1=4)(h0:X (X T i t0).2.1 0 (0,0)=(3,x))(e:X (X T i t0).2.1 1 (0,0)=u):
 fu T wt is {s with hd:=λy=>if y=x then s.hd y++[u] else s.hd y,m:=n} E:=by
 refine⟨h.len,h.al,h.lt,h.td,λy v hv=>?_,λj b hn=>(h.dp j b hn).mono (by grind) (by grind) (by grind) (λy v hv=>?_) (λhk d=>(m4 c (h.al j b) hk 0 ae d).1)⟩
 all_goals grind [hd]
theorem fu.drop {i:Nat}(h:fu T wt is s [(i:Int)])(f:¬(i:Int)∈s.td->q8 T wt s (λx=>x∈s.td) i)(g:∀v∈s.hd i,v.1=3->cx s.A (K v.2)):fu T wt is s []:=by
 refine⟨h.len,h.al,h.lt,λx k=>h.td x (by grind),h.hd,λj d hn=>?_⟩
 have hn:_:=λc=>hn (aI c)
 by_cases e:j=i
 ·simp_all
 ·have:=h.dp j d (by grind)
  refine⟨this.1,λhk=>?_⟩
  rcases this.2 hk with⟨a,b,c⟩|a
  all_goals grind
theorem wL {i x:Int}:x∈eS wt i↔(∃e∈wt,e.1=i/\x=e.2):=by simp_all [eS]
theorem fu.list {i:Nat}(h:fu T wt is s [(i:Int)])(c:e6 T wt)(hi:cx s.A i)(l:List _)(hl:∀v∈l,jH T wt (cx s.A) i v):fu T wt is (dz s l) [(i:Int)]/\∀v∈l,v.1=3->cx (dz s l).A (K v.2):=
 ⟨h.marks c l (λv hv b=>c.q7 (h.al i hi) (hl v hv) b) (λv hv b X hX hb=>hX i (h.al i hi).1 (by grind [lt]) v (by grind [jH.mono,lt]) b),
  wJ s l (λv hv b=>(h.len▸(c.q7 (h.al i hi) (hl v hv) b).2.1))⟩
theorem fu.free {i:Nat}(h:fu T wt is s [(i:Int)])(f:e6 T wt)(hi:cx s.A i):fu T wt is (dz s (s.hd i)) [(i:Int)]/\(∀v∈s.hd i,v.1=3->cx (dz s (s.hd i)).A (K v.2))/\(∀v∈s.hd i,v.1=3->0<=v.2/\K v.2<OQ s.A):=by
 have ho:∀v∈s.hd i,v.1=3->0<=v.2/\cz T (K v.2):=λv hv d=>by obtain⟨j,a,b,c,e⟩:=h.hd _ _ hv;rw[e] at d⊢;exact m4 f (h.al j a) b 1 ae d
 refine⟨h.marks f _ ho (λv hv d X hX hb=>?_),wJ s _ (λv hv d=>(h.len▸(ho v hv d).2.1)),λv hv d=>⟨(ho v hv d).1,(h.len▸(ho v hv d).2.1)⟩⟩
 obtain⟨j,a,b,c,e⟩:=h.hd _ _ hv;refine hX j (h.al j a).1 (by grind [lt]) v (aI (aI (aK ⟨b,λ_=>?_,e⟩))) d
 grind [lt]
structure BM (T:List cH)(wt:List b8)(is:List Bool)(s s':dG):Prop where
 mi:fu T wt is s' []
 mm:s'.m<=s.m+1
 td:OQ s'.td+cnt s'.A=OQ s.td+cnt s.A
 up:∀k,cx s.A k->cx s'.A k
theorem s_ {i:Nat}(h:fu T wt is s [(i:Int)])(b:e6 T wt)(hi:cx s.A i)(hk:(X T i t0).1≠4)(l:List _)(d:∀v∈l,jH T wt (cx s.A) i v)(f:∀v,jH T wt (λ_=>True) i v->v∈l):
 BM T wt is s (dz (dz s l) ((dz s l).hd i)):=by
 obtain⟨a1,a2⟩:=h.list b hi l d;obtain⟨b1,b2,b3⟩:=a1.free b (mC s l hi)
 refine⟨b1.drop (λ_=>⟨λ_ v hv e=>(by grind [mC]),λc=>aa⟩) (λv hv=>?_),?_,?_,λk hk=>(by grind [mC])⟩
 ·grind [kF]
 ·grind [kF]
 ·rw[q_ _ _ (by grind),q_ _ _ (λv hv e=>by rw[h.len];exact(b.q7 (h.al i hi) (d v hv) e).2.1)]
theorem fu.look {i:Nat}(h:fu T wt is s [(i:Int)])(b:e6 T wt)(hi:cx s.A i):BM T wt is s (ii T wt s i):=by
 have f:=h.al i hi;unfold ii hZ;rw[Int.toNat_natCast];by_cases k1:(X T i t0).1=1\/(X T i t0).1=2
 ·rw[aN k1];refine s_ h b hi aa _ (λv hv=>aK ⟨k1,hv⟩) (λv hv=>?_)
  rcases hv with c|c|c|c
  all_goals grind
 rw[aJ k1];by_cases k3:(X T i t0).1=3
 ·rw[aN k3];refine s_ h b hi aa [_] (λv hv=>aI (aK ⟨k3,by simpa using hv⟩)) (λv hv=>?_)
  rcases hv with c|c|c|c
  all_goals grind
 rw[aJ k3];by_cases k4:(X T i t0).1=4
 ·rw[aN k4];unfold mB;cases hk:eN s.A _
  ·obtain⟨q3,q⟩:=oG hk;rw[aJ ae];have g:X (X T i t0).2.1 0 (0,0)=(3,(X (X T i t0).2.1 0 (0,0)).2):=by rw[<-q3]
   obtain⟨b1,b2,b3⟩:=(h.hold (n:=s.m+1) b hi k4 g rfl).free b hi;refine⟨b1.drop (λ_=>⟨λc=>absurd k4 c,λ_=>aK ⟨q3,?_,?_⟩⟩) (λv hv=>?_),?_,?_,λk hk=>mC _ _ hk⟩
   ·by_cases c:cx (dz {s with hd:=λy=>if y=(X (X T i t0).2.1 0 (0,0)).2 then s.hd y++[X (X T i t0).2.1 1 (0,0)] else s.hd y,m:=s.m+1} ((λy=>if y=(X (X T i t0).2.1 0 (0,0)).2 then s.hd y++[X (X T i t0).2.1 1 (0,0)] else s.hd y) (i:Int))).A (K (X (X T i t0).2.1 0 (0,0)).2)
    ·right;rcases JW _ _ (by grind) c with c|c
     ·grind [cx]
     grind [m4]
    ·exact aK c
   ·grind [kF]
   ·grind [kF]
   ·simp[kF]
   grind [q_]
  ·rw[aN rfl];have d:∀v∈[X (X T i t0).2.1 1 (0,0)],jH T wt (cx s.A) i v:=λv hv=>aI (aI (aK ⟨k4,λc=>oH hk c,by simpa using hv⟩))
   obtain⟨a1,a2⟩:=h.list b hi _ d;obtain⟨b1,b2,b3⟩:=a1.free b (mC s _ hi)
   refine⟨b1.drop (λ_=>⟨λc=>absurd k4 c,λ_=>(by grind [mC])⟩) (λv hv=>?_),?_,?_,λk hk=>mC _ _ (mC s [_] hk)⟩
   ·grind [kF]
   ·grind [kF,dz]
   ·rw[show eF s (X (X T i t0).2.1 1 (0,0))=dz s [X (X T i t0).2.1 1 (0,0)] from rfl];rw[q_ _ _ (by grind),q_ _ _ (λv hv j=>by rw[h.len];exact(b.q7 f (d v hv) j).2.1)]
 rw[aJ k4];by_cases k5:(X T i t0).1=5
 ·rw[aN k5];refine s_ h b hi k4 _ (λv hv=>?_) (λv hv=>?_)
  ·obtain⟨x,l,rfl⟩:=bS.1 hv;obtain⟨e,o,p,rfl⟩:=wL.1 l;exact aI (aI (aI ⟨k5,e,o,p,rfl⟩))
  ·rcases hv with c|c|c|c
   ·exact absurd c.1 aa
   ·exact absurd c.1 aa
   ·exact absurd c.1 aa
   grind [wL]
 ·rw[aJ k5];refine s_ h b hi k4 [] (λv hv=>by cases hv) (λv hv=>?_)
  rcases hv with c|c|c|c
  all_goals omega
theorem fu.done (h:fu T wt is s [])(e:s.td=[])(hl:OQ is=OQ T)(d:∀k,cx is k->cx s.A k):pM T wt is s.A:=by
 refine⟨(by grind [len]),d,λi _ hX v hv f=>?_,h.lt⟩
 have hd:=h.dp i hX (by grind)
 by_cases k4:(X T i t0).1=4
 ·rcases hv with c|c|c|c
  ·omega
  ·omega
  ·rcases hd.2 k4 with⟨a,b,_⟩|a
   all_goals grind
  omega
 ·exact hd.1 k4 v (by grind [jH.mono]) f
theorem fu.base (h:fu T wt is s []){b:List Bool}(c:∀k,cx s.A k->cx b k):fu T wt b s []:=⟨h.len,h.al,λ_ _ hb k hk=>(by grind),h.td,h.hd,h.dp⟩
theorem fu.start (T:List cH)(wt:List b8)(is:List Bool):fu T wt is ⟨aZ (OQ T) O4,[],λ_=>[],0⟩ []:=by
 have hn:∀k,¬cx (aZ (OQ T) O4) k:=λk hk=>by grind [cx]
 exact⟨ac,λk hk=>(by grind),λ_ _ _ k hk=>(by grind),λx b=>(by grind),λx v hv=>(by grind),λi hi=>(by grind)⟩
end
def hld (v:a7):Option (DataW a7×List MemPlace):=H (.held v,[])
theorem rd:Maps.Keyed J 2:=Maps.int_keyed underlying2
theorem wM {a:Int}(h0:0<=a)(b:a<1152921504606846976):keyOf J 2 (.int R a)=H (.int R a):=Maps.keyOf_int_mk underlying2 (WalkArith.wf_i64 aa)
def re (D:DataW a7)(f:Int->Option a7):Prop:=∀x:Int,Maps.has D (.int R x)=(f x).isSome/\∀v,f x=H v->∀z,D.atKey (.int R x) z=.held v
def eT (w:az)(b n:Nat)(f:Int->Option a7):Prop:=∃D,w.ownsMap J 2 hld b n D/\re D f
def kG (f:Int->Option a7)(x:Int)(v:a7):Int->Option Value:=λy=>if y=x then H v else f y
def hV (w:az)(b r n:Nat)(f:Int->Option a7)(left:Int->Bool)(c:Nat):Prop:=∃D L,w.ranges J 2 hld b r n D L c/\re D f/\∀x:Int,L (.int R x)=left x
section
variable {w w':az}{b r n c:Nat}{f:Int->Option a7}{t e:bI}{left:Int->Bool}
theorem eT.made (w:az):eT (bu w (.map #[] 0)) (I (G w)) 0 (λ_=>Y):=⟨_,World.ownsMap_made w J 2 hld,λ_=>⟨rfl,λ_ h=>by grind⟩⟩
theorem eT.lt (h:eT w b n f):b<I (G w):=let⟨_,h,_⟩:=h;h.lt
theorem eT.same (h:eT w b n f)(e:w'.heap[b]?=w.heap[b]?):eT w' b n f:=by obtain⟨D,⟨es,c,hb,r⟩,hD⟩:=h;exact⟨D,⟨es,c,e.trans hb,r⟩,hD⟩
theorem eT.cY (h:eT w b n f):∃es k,w.heap[b]?=H (.map es k):=let⟨_,⟨es,k,hb,_⟩,_⟩:=h;(by grind)
theorem eT.put (h:eT w b n f)(ht:prog.underlying t=H (.map 2 e))(hn:n<100000){x:Int}(h0:0<=x)(g:x<1152921504606846976)(v:a7):
 ∃w',(Instr.mapUpdate t (.map (H b)) (ak x) v).run J w=sS () w'/\eT w' b (n+1) (kG f x v)/\w.grownBy w' (H b):=by
 obtain⟨D,h,hD⟩:=h;obtain⟨w',r1,i,r3⟩:=h.update rd ht (by unfold maxLen;omega) (wM h0 g) rfl;refine⟨w',r1,⟨_,i,λy=>?_⟩,r3⟩
 unfold kG;by_cases d:y=x
 ·subst d;rw[aN rfl];exact⟨Maps.has_put_same (k:=.int R y) h.isMap trivial _,λu c z=>by cases c;exact Maps.atKey_put_same (k:=.int R y) h.isMap trivial _ _⟩
 ·rw[aJ d,Maps.has_put_other (by grind)];exact⟨(hD y).1,λu c z=>by rw[Maps.atKey_put_other (by grind)];exact(hD y).2 u c z⟩
theorem re.val {D:DataW a7}(hD:re D f){x:Int}{z v:a7}{ps:List MemPlace}(h:hld v=H (D.atKey (.int R x) (.held z),ps)):v=(f x).getD z:=by
 have b:=(Prod.mk.inj (kg h)).1;cases hf:f x with
 |none=>
  rw[Maps.atKey_of_not_has (by rw[(hD x).1,hf];rfl)] at b
  grind
 |some u=>
  rw[(hD x).2 u hf] at b
  grind
theorem eT.look (h:eT w b n f)(ht:prog.underlying t=H (.map 2 e)){z:a7}(hz:(zeroValue e).run J w=.ok z w){x:Int}(h0:0<=x)(c:x<1152921504606846976):
 (Instr.lookup t (.map (H b)) (ak x) O4).run J w=.ok ((f x).getD z) w:=by
 obtain⟨D,h,hD⟩:=h;obtain⟨v,ps,r1,d⟩:=h.lookup rd ht hz rfl (wM h0 c)
 grind [re.val]
theorem eT.look_ok (h:eT w b n f)(ht:prog.underlying t=H (.map 2 e)){z:a7}(hz:(zeroValue e).run J w=.ok z w){x:Int}(h0:0<=x)(c:x<1152921504606846976):
 (Instr.lookup t (.map (H b)) (ak x) C).run J w=.ok (ay #[(f x).getD z,.bool (f x).isSome]) w:=by
 obtain⟨D,h,hD⟩:=h;obtain⟨v,ps,r1,d⟩:=h.look_ok rd ht hz rfl (wM h0 c)
 rw[r1,hD.val d,(hD x).1]
theorem hV.oK (h:hV w b r n f left c):eT w b n f:=let⟨D,_,h,d,_⟩:=h;⟨D,h.owns,d⟩
theorem hV.left_eq (h:hV w b r n f left c):w.rangeLeft b r=c:=let⟨_,_,h,_⟩:=h;h.left_eq
theorem hV.lt (h:hV w b r n f left c):r<I (G w):=let⟨_,_,h,_⟩:=h;h.lt
theorem hV.same (h:hV w b r n f left c)(hb:w'.heap[b]?=w.heap[b]?)(hr:w'.heap[r]?=w.heap[r]?):hV w' b r n f left c:=by obtain⟨D,L,⟨es,d,e,seen,c0,g,i,j,k,l,m⟩,q⟩:=h;exact⟨D,L,⟨es,d,e,seen,c0,hb.trans g,i,j,k,hr.trans l,m⟩,q⟩
theorem eT.range (h:eT w b n f)(ht:prog.underlying t=H (.map 2 e)):
 ∃w' c,(Instr.range t (.map (H b))).run J w=sS (aq (I (G w))) w'/\hV w' b (I (G w)) n f (λx=>(f x).isSome) c/\w.grownBy w' Y/\I (G w')=I (G w)+1:=by
 obtain⟨D,h,hD⟩:=h;obtain⟨w',r1,d,r3,g⟩:=h.range rd ht;exact⟨w',_,r1,⟨D,_,d,hD,λx=>(hD x).1⟩,r3,g⟩
theorem hV.next (h:hV w b r n f left c)(ty:bI):(c=0/\(∀x,left x=O4)/\(Instr.next (aq r) O4 ty).run J w=sS (ay #[.bool O4]) w)\/
 ∃x v w' d,left x=C/\f x=H v/\(Instr.next (aq r) O4 ty).run J w=sS (ay #[.bool C,ak x,v]) w'/\
  hV w' b r n f (λy=>left y&&!(y==x)) d/\d<c/\w.grownBy w' (H r)/\I (G w')=I (G w)/\(Instr.entry (aq r)).run J w'=sS (ay #[ak x,v]) w':=by
 obtain⟨D,L,h,hD,g⟩:=h;rcases h.next rd ty with⟨h0,hl,i⟩|⟨key,v,B,y,w',d,k,l,hv,j,i,m,o,p,q,s⟩
 ·grind
 ·obtain⟨x,rfl,rfl,F⟩:=Maps.keyOf_int_inv underlying2 k;have hy:y.1=.held v:=by cases hv;rfl
  have t:f x=H v:=by
   cases hf:f x with
   |none=>
    have e:=j (.lit (.int R 0))
    rw[Maps.atKey_of_not_has (by rw[(hD x).1,hf];rfl),hy] at e
    grind
   |some u=>
    have e:=j (.lit (.int R 0))
    rw[(hD x).2 u hf,hy] at e
    grind
  refine aI ⟨x,v,w',d,(g x).symm.trans l,t,i,⟨D,_,m,hD,λz=>?_⟩,o,p,q,s⟩
  rw[g z,show(Lit.int R z).sameKey (.int R x)=(z==x) from(by show decide _=_;grind)]
end
def ij (v:Int×Int):Int:=ew v.1 v.2
def fH (T:List cH)(v:Int×Int):Prop:=vc v.1 v.2=0/\(v.1=3->0<=v.2/\cz T (K v.2))
theorem fH.lt {T:List cH}{v:Int×Int}(h:fH T v)(b:v.1=3):0<=v.2/\v.2<OQ T:=by obtain⟨h0,c⟩:=h.2 b;have:=c.1;omega
def tI (n:Nat):List Int:=(List.range n).map (λi:Nat=>(i:Int))
theorem rf {n:Nat}{a:Int}:a∈tI n↔0<=a/\a<n:=by
 unfold tI;simp only [bS,List.mem_range];constructor
 ·omega
 ·rintro⟨h0,b⟩
  exact⟨K a,aa,aa⟩
theorem oL (n:Nat):OQ (tI n)=n:=by simp[tI]
def iz (T:List cH)(a:Int):Int:=(X T (K a) t0).1
def iA (T:List cH)(wt:List b8)(a:Int):List Int:=((X T (K a) t0).2.1.map ij)++(if(X T (K a) t0).1=5 then(wt.filter (λe=>e.1==a)).map (λe=>ew 3 e.2) else[])
structure kH (T:List cH)(wt:List b8):Prop where
 fv:∀i,cz T i->∀v∈(X T i t0).2.1,fH T v
 wv:∀e∈wt,0<=e.1/\0<=e.2/\cz T (K e.2)
 tl:∀i,OQ (X T i t0).2.1<=12
 l1:OQ T<=10000
 l2:OQ wt<=10000
section
variable {T:List cH}{M:cT->Int->cT}{s:cT}{v:Int×Int}
theorem pN (h:fH T v):dk (ij v)=v.1/\dp (ij v)=v.2:=(rK _ _ h.1).2
theorem JX (h:fH T v)(b:v.1≠3):el M (tI (OQ T)) s (ij v)=(v,s):=by grind [pN,el]
theorem JY (h:fH T v)(b:v.1=3)(hs:s.1.contains v.2=C):el M (tI (OQ T)) s (ij v)=((3,(s.1.idxOf v.2:Int)),s):=by unfold el;rw[(pN h).1,(pN h).2,aN b,aN (bT.2 (rf.2 (h.lt b))),aN hs]
theorem JZ (h:fH T v)(b:v.1=3)(hs:s.1.contains v.2=O4):el M (tI (OQ T)) s (ij v)=((3,(OQ s.1:Int)),M s v.2):=by unfold el;rw[(pN h).1,(pN h).2,aN b,aN (bT.2 (rf.2 (h.lt b))),aJ (by grind)]
end
def ee.eU (T:List cH)(wt:List b8)(l:List (Int×Int)):List (Int×Int)×cT:=dE (met (tI (OQ T)) (iz T) (iA T wt) (OQ T)) (tI (OQ T)) ([],[]) (l.map ij)
def ta (T:List cH)(x:Int):Bool:=decide (0<=x)&&(decide (K x<OQ T)&&!(X T (K x) t0).2.2.2)
theorem BN {T:List cH}{x:Int}:ta T x=C↔0<=x/\cz T (K x):=by grind [ta,cz]
theorem J0 {T:List cH}{x:Int}(h:¬(0<=x/\cz T (K x))):ta T x=O4:=by grind [BN]
abbrev Fm:=Nat->Option bB×Nat
abbrev ff (T:List cH)(fm:Fm)(i:Nat):Value:=Z (fm i).1 (OQ (X T i t0).2.1) (fm i).2
abbrev gX (T:List cH)(fm:Fm)(i:Nat):Value:=bz #[ak (X T i t0).1,ff T fm i]
def iU (T:List cH)(fm:Fm)(x:Int):Option Value:=if ta T x=C then H (gX T fm (K x)) else Y
theorem ki {T:List cH}{fm:Fm}{x:Int}(h:0<=x/\cz T (K x)):iU T fm x=H (gX T fm (K x)):=by grind [BN,iU]
theorem nF {T:List cH}{fm:Fm}{x:Int}(h:¬(0<=x/\cz T (K x))):iU T fm x=Y:=by grind [J0,iU]
structure ik where
 own:Nat->Nat
 mb:Nat
 bp:Nat
 rb:Nat
 fm:Fm
 fY:Nat
 n:Nat
 a0:Option bB
 k0:Nat
 a1:Option bB
 k1:Nat
structure G2 (l:ik)(T:List cH)(w:az):Prop where
 mp:eT w l.mb l.n (iU T l.fm)
 mn:l.n<=OQ T
 dy:l.own l.mb=2
 fl:∀i,cz T i->aC w 0 139 2 (ff T l.fm i) (OQ (X T i t0).2.1) (ev (X T i t0).2.1)
 fC:∀i,cz T i->∀k,H k=A (ff T l.fm i)->l.own k=10+i
 fY:∀i,cz T i->(X T i t0).2.2.1=decide (i<l.fY)
 al:l.fY<=OQ T
structure G3 (l:ik)(r q:List b8)(w:az):Prop where
 sd:fF w l.bp l.a0 l.k0 l.a1 l.k1 r q
 so:l.own l.bp=3
 ro:∀k,H k=A (Value.slice l.a0 (OQ r) l.k0)->l.own k=5
 nG:∀k,H k=A (Value.slice l.a1 (OQ q) l.k1)->l.own k=6
structure G4 (l:ik)(rs:List (Int×Int))(w:az):Prop where
 rt:w.heap[l.rb]?=H (OX (ev rs).toArray 139 (0,0))
 rl:OQ rs=12
 ro:l.own l.rb=4
structure dO (b7:Nat)(ce grow:Int)(l:ik)(s:ck)(w:az):Prop where
 cY:w.heap[b7]?=H (OX #[ak ce,ak grow,.map (H l.mb),ak (OQ s.T),ak l.fY,aq l.bp,Z (au l.rb) 12 12] 200 (0,0))
 bo:l.own b7=1
 g2:G2 l s.T w
 g3:G3 l s.rg s.wt w
 g4:G4 l s.rs w
 lt:∀b,l.own b≠0->b<I (G w)
section
variable {b7:Nat}{ce grow:Int}{l:ik}{s:ck}{w w':az}{T:List cH}{r q:List b8}{rs:List (Int×Int)}
theorem G2.keep (h:G2 l T w)(hk:∀b,l.own b=2\/10<=l.own b->w'.heap[b]?=w.heap[b]?):G2 l T w':=
 {
  h with
  mp:=h.mp.same (hk _ (aK h.dy))
  fl:=λi hi=>cK (h.fl i hi) (by grind [fC])}
theorem G3.keep (h:G3 l r q w)(hk:∀b,l.own b=3\/l.own b=5\/l.own b=6->w'.heap[b]?=w.heap[b]?):G3 l r q w':=
 {h with sd:=h.sd.keep (hk _ (aK h.so)) (by grind [ro]) (by grind [nG])}
theorem G4.keep (h:G4 l rs w)(hk:∀b,l.own b=4->w'.heap[b]?=w.heap[b]?):G4 l rs w':={h with rt:=(by grind [ro,rt])}
theorem dO.keep (h:dO b7 ce grow l s w)(hs:I (G w)<=I (G w'))(hk:∀b,l.own b≠0->w'.heap[b]?=w.heap[b]?):dO b7 ce grow l s w':=
 {
  cY:=(by grind [bo,cY])
  bo:=h.bo
  g2:=h.g2.keep (by grind)
  g3:=h.g3.keep (by grind)
  g4:=h.g4.keep (by grind)
  lt:=λb hb=>aL (h.lt b hb) hs}
end
def cG (b7:Nat)(ce grow:Int)(rb:Nat):dr ck where
 J F s w:=∃l,dO b7 ce grow l s w/\l.rb=rb/\∀b,F b↔l.own b≠0
 lt:=by rintro F s w ⟨l,h,_,c⟩ b hb;exact h.lt b ((c b).1 hb)
 keep:=by rintro F s w w' ⟨l,h,hr,c⟩ hs hk;exact⟨l,h.keep hs (λb hb=>hk b ((c b).2 hb)),hr,c⟩
section
variable {b7:Nat}{ce grow:Int}{l:ik}{s:ck}{w w':az}
theorem dO.below (h:dO b7 ce grow l s w)(hb:O (I (G w)) w w'):dO b7 ce grow l s w':=(by grind [keep,lt,Below.size,Below.block])
theorem dO.cells (h:dO b7 ce grow l s w):V w (av b7 0)=H (ak ce)/\V w (av b7 1)=H (ak grow)/\V w (av b7 2)=H (.map (H l.mb))/\V w (av b7 3)=H (ak (OQ s.T))/\V w (av b7 4)=H (ak l.fY)/\
 V w (av b7 5)=H (aq l.bp)/\V w (av b7 6)=H (Z (au l.rb) 12 12)/\(∀o,bF w (av b7 o)=O4)/\b7<I (G w):=by
 have b:=h.cY;refine⟨?_,?_,?_,?_,?_,?_,?_,λo=>by simp[World.frozen?,b],cj b⟩<;>simp[World.cell?,b]
theorem dO.J3 {rb:Nat}(h:dO b7 ce grow l s w)(e:V w (av b7 6)=H (Z (au rb) 12 12)):l.rb=rb:=by
 have c:=h.cells.2.2.2.2.2.2.1
 grind
theorem G4.cells {rs:List _}(h:G4 l rs w):l.rb<I (G w)/\OQ rs=12/\
 (∀i,i<12->V w (av l.rb (i*2))=H (ak (X rs i (0,0)).1)/\V w (av l.rb (i*2+1))=H (ak (X rs i (0,0)).2)/\bF w (av l.rb (i*2))=O4/\bF w (av l.rb (i*2+1))=O4):=by
 have b:=h.rt;have hl:=h.rl;refine⟨cj b,hl,λi hi=>?_⟩
 obtain⟨c,d⟩:=o9 rs i aa;refine⟨?_,?_,by simp[World.frozen?,b],by simp[World.frozen?,b]⟩
 ·simp[World.cell?,b];assumption
 ·simp[World.cell?,b];assumption
end
theorem nH (w:az):(zeroValue 271).run J w=sS (bz #[ak 0,Z Y 0 0]) w:=by kernel_rfl
theorem jz (w:az)(a o:Obj):((w.alloc a).alloc o).heap[I (G w)+1]?=H o:=by grind [aO,bh]
theorem dt {w:az}{p:Nat}{a b:a7}{T:bI}(h:w.heap[p]?=H (OX #[a,b] T (0,0))):V w (av p 0)=H a/\V w (av p 1)=H b/\(∀o,bF w (av p o)=O4)/\p<I (G w):=
 ⟨by simp[World.cell?,h],by simp[World.cell?,h],λo=>by simp[World.frozen?,h],cj h⟩
section
variable {b7:Nat}{ce grow:Int}{l:ik}{s:ck}{w:az}
theorem wN (v:Int×Int)(hv:v.1≠3):
 O2 J 202 #[aq b7,bz #[ak v.1,ak v.2]] w λe w'=>e=Q (ay #[bz #[ak 0,Z Y 0 0],bA O4])/\O (I (G w)) w w':=by
 go_wp2;exact a3 (by simp[results,results202,go_sem]) rfl ⟨rfl,(bZ.alloc bY _).alloc ac _⟩
theorem tc (h:dO b7 ce grow l s w)(x:Int)(b:0<=x/\cz s.T x.toNat)(c:OQ s.T<=10000):
 O2 J 202 #[aq b7,.agg #[ak 3,ak x]] w λe w'=>e=Q (ay #[gX s.T l.fm x.toNat,.bool C])/\O (I (G w)) w w':=by
 obtain⟨_,_,c2,_,_,_,_,_,d⟩:=h.cells;have hl:x<10000:=by have:=b.2.1;omega
 have L:∀W,O (I (G w)) w W->(Instr.lookup 194 (.map (H l.mb)) (ak x) C).run J W=.ok (ay #[gX s.T l.fm x.toNat,.bool C]) W:=λW hb=>by
  have:=(h.below hb).g2.mp.look_ok (t:=194) (e:=271) underlying194 (nH W) (x:=x) b.1 aa
  grind [ki]
 have b1:O (I (G w)) w ((w.alloc (OX #[.int R 3,.int R x] 139)).alloc (OX #[.int R 0,.slice Y 0 0] 271)):=(by simp_all [Below.alloc,Below.refl])
 have k:=(b1.cell (p:=av b7 2) d).trans c2;have m:V ((w.alloc (OX #[.int R 3,.int R x] 139)).alloc (OX #[.int R 0,.slice Y 0 0] 271)) (av (I (G w)) 1)=H (ak x):=by simp[go_sem]
 have hn:=jz w (OX #[.int R 3,.int R x] 139) (OX #[.int R 0,.slice Y 0 0] 271)
 clear h c;dsimp only [gX,ff] at L⊢;generalize (s.T.getD x.toNat t0).1=kd at*;generalize OQ (s.T.getD x.toNat t0).2.1=n at*;generalize (l.fm x.toNat).1=ad at*;generalize (l.fm x.toNat).2=cp at*;clear b;go_enter func202,ntmps202;go_wp2_with fail;generalize (w.alloc (OX #[.int R 3,.int R x] 139)).alloc (OX #[.int R 0,.slice Y 0 0] 271)=W at*;obtain⟨o,q,u,lw⟩:=dt hn;have f:aA (_=_):=hn;have g:aA (O (I (G w)) w W):=b1;have i:=L _ b1.drew;have j:=L _ (b1.alloc b1.size (OX #[.int R 0,.slice Y 0 0] 271)).drew;clear L b1 hn
 go_region_held3 (λw'=>V w' (av b7 2)=H (.map (H l.mb))/\V w' (av (I (G w)) 1)=H (ak x)) (go_keep) (fail)
 all_goals
  clear i j;go_wp2_with fail;have hs:=g.o.size;obtain⟨r0,r1,_,_⟩:=dt ((aU _ (OX #[.int R kd,.slice ad n cp] 271) _ (by simpa using lw)).trans (ib (v1:=ak kd) (v2:=.slice ad n cp) f.o))
  exact a3 (v:=ay #[.agg #[ak kd,.slice ad n cp],.bool C]) (by simp[results,results202,go_sem,r0,r1]) rfl (by grind [Below.drew,Below.alloc,Below.setCell,Hid.out,World.size_setCell])
theorem BO (h:dO b7 ce grow l s w)(v:Int×Int)(hv:v.1=3->0<=v.2/\cz s.T (K v.2))(d:OQ s.T<=10000):
 O2 J 203 #[aq b7,bz #[ak v.1,ak v.2]] w λe w'=>e=Q (bA (jy s.T v))/\O (I (G w)) w w':=by
 obtain⟨k,x⟩:=v;by_cases c:k=3
 ·subst c;have P:=tc (h.below ((aH _ w).alloc bY (OX #[U R 3,U R x] 139))) x (by grind) d;have e:jy s.T (3,x)=decide ((X s.T (K x) t0).1=5):=af;rw[e];dsimp only [gX,ff] at P⊢;generalize (X s.T (K x) t0).1=kd at*;generalize OQ (X s.T (K x) t0).2.1=n at*;generalize (l.fm (K x)).1=ad at*;generalize (l.fm (K x)).2=cp at*;go_enter func203,ntmps203;go_wp2_with fail;refine P.mono ?_;clear P;rintro e w1 ⟨rfl,hb⟩
  have b:=cg (((aH _ w).alloc bY _).trans (hb.mono ac))
  clear hb;go_wp2;go_ret;exact⟨rfl,b.o.alloc b.o.size _⟩
 ·have e:jy s.T (k,x)=O4:=by grind [jy]
  rw[e];go_enter func203,ntmps203;go_wp2_with fail;refine(wN (b7:=b7) (w:=bu w (OX #[U R k,U R x] 139)) (k,x) c).mono ?_;rintro e w1 ⟨rfl,hb⟩
  have b:=cg (((aH _ w).alloc bY _).trans (hb.mono ac))
  go_wp2;go_ret;exact⟨rfl,b.o.alloc b.o.size _⟩
theorem BP (h:dO b7 ce grow l s w)(v:Int×Int)(hv:v.1=3->0<=v.2/\cz s.T (K v.2))(c:OQ s.T<=10000)(hk:v.1=3->(X s.T (K v.2) t0).1=5):
 O2 J 282 #[aq b7,bz #[ak v.1,ak v.2]] w λe w'=>e=Q (ay #[Z Y 0 0,ak 2])/\O (I (G w)) w w':=by
 obtain⟨k,x⟩:=v;by_cases b:k=3
 ·subst b;have P:=tc (h.below ((aH _ w).alloc bY (OX #[U R 3,U R x] 139))) x (by grind) c;have hk:=hk rfl;dsimp only [gX,ff] at P hk⊢;rw[hk] at P;generalize OQ (X s.T (K x) t0).2.1=n at*;generalize (l.fm (K x)).1=ad at*;generalize (l.fm (K x)).2=cp at*;go_enter func282,ntmps282;go_wp2_with fail;refine P.mono ?_;exact BI
 ·go_enter func282,ntmps282;go_wp2_with fail;refine(wN (b7:=b7) (w:=bu w (OX #[U R k,U R x] 139)) (k,x) b).mono ?_;exact BI
theorem wO (h:dO b7 ce grow l s w)(x:Int)(hv:0<=x/\cz s.T (K x))(c:OQ s.T<=10000)(hk:(X s.T (K x) t0).1≠5):
 O2 J 282 #[aq b7,bz #[ak 3,ak x]] w λe w'=>e=Q (ay #[ff s.T l.fm (K x),ak 0])/\O (I (G w)) w w':=by
 have P:=tc (h.below ((aH _ w).alloc bY (OX #[U R 3,U R x] 139))) x hv c;dsimp only [gX,ff] at P hk⊢;generalize (X s.T (K x) t0).1=kd at*;go_enter func282,ntmps282;go_wp2_with fail;refine P.mono ?_;clear P;rintro e w1 ⟨rfl,hb⟩
 have b:=cg (((aH _ w).alloc bY _).trans (hb.mono ac))
 clear hb;go_wp2_with fail;go_ret2;exact⟨rfl,b.o.alloc b.o.size _⟩
theorem BQ (h:dO b7 ce grow l s w)(v:Int×Int)(i:Int)(hv:v.1=3->0<=v.2/\cz s.T (K v.2))(b:OQ s.T<=10000)(hk:v.1=3->(X s.T (K v.2) t0).1=5):
 O2 J 204 #[aq b7,bz #[ak v.1,ak v.2],ak i] w λe w'=>e=Q (ay #[bz #[ak 0,ak 0],ak 2])/\O (I (G w)) w w':=by
 obtain⟨k,x⟩:=v;have b1:O (I (G w)) w (bu (bu w (OX #[U R k,U R x] 139)) (OX #[U R 0,U R 0] 139)):=(bZ.alloc bY _).alloc ac _;go_enter func204,ntmps204;go_wp2_with fail;refine(BP (h.below b1) (k,x) hv b hk).mono ?_;rintro e w1 ⟨rfl,hb⟩
 have hq:=(hb.block (I (G w)+1) ac).trans (jz w (OX #[U R k,U R x] 139) (OX #[U R 0,U R 0] 139))
 obtain⟨c,d,f,lw⟩:=dt hq;go_wp2_with fail;obtain⟨r0,r1,_,_⟩:=dt (ib (v1:=ak 0) (v2:=ak 0) (cg hq).o)
 exact a3 (by simp[results,results204,go_sem,r0,r1]) rfl ⟨rfl,((cg (b1.trans (hb.mono (by simp;omega)))).o.setCell ac _).setCell ac _⟩
theorem BR (h:dO b7 ce grow l s w)(x i:Int)(hv:0<=x/\cz s.T (K x))(b:OQ s.T<=10000)(hk:(X s.T (K x) t0).1≠5)(hi:i<0\/(OQ (X s.T (K x) t0).2.1:Int)<=i):
 O2 J 204 #[aq b7,bz #[ak 3,ak x],ak i] w λe w'=>e=Q (ay #[bz #[ak 0,ak 0],ak 1])/\O (I (G w)) w w':=by
 have b1:O (I (G w)) w (bu (bu w (OX #[U R 3,U R x] 139)) (OX #[U R 0,U R 0] 139)):=(by simp_all [Below.alloc,Below.refl])
 have P:=wO (h.below b1) x hv b hk;clear h hv b hk;dsimp only [ff] at P;generalize OQ (X s.T (K x) t0).2.1=n at*;generalize (l.fm (K x)).1=ad at*;generalize (l.fm (K x)).2=cp at*;by_cases h0:i<0
 all_goals
  first
   |(have d:(n:Int)<=i:=by omega)
   |skip
  go_enter func204,ntmps204;go_wp2_with fail;refine P.mono ?_;clear P;rintro e w1 ⟨rfl,hb⟩
  have hq:=(hb.block (I (G w)+1) ac).trans (jz w (OX #[U R 3,U R x] 139) (OX #[U R 0,U R 0] 139))
  obtain⟨f,g,j,lw⟩:=dt hq;have c:=cg hq;have k:=cg (b1.trans (hb.mono (by simp;omega)))
  clear hb b1 hq hi;go_wp2_with fail;obtain⟨r0,r1,_,_⟩:=dt (ib (v1:=ak 0) (v2:=ak 0) c.o)
  exact a3 (v:=ay #[bz #[ak 0,ak 0],ak 1]) (by simp[results,results204,go_sem,r0,r1]) rfl (by grind [Below.setCell,Hid.out])
theorem BS (h:dO b7 ce grow l s w)(x:Int)(i:Nat)(hv:0<=x/\cz s.T (K x))(f:OQ s.T<=10000)(hk:(X s.T (K x) t0).1≠5)(hi:i<OQ (X s.T (K x) t0).2.1):
 O2 J 204 #[aq b7,bz #[ak 3,ak x],ak i] w λe w'=>e=Q (ay #[bz #[ak (X (X s.T (K x) t0).2.1 i (0,0)).1,ak (X (X s.T (K x) t0).2.1 i (0,0)).2],ak 0])/\O (I (G w)) w w':=by
 have b1:O (I (G w)) w (bu (bu w (OX #[U R 3,U R x] 139)) (OX #[U R 0,U R 0] 139)):=(by simp_all [Below.alloc,Below.refl])
 have P:=wO (h.below b1) x hv f hk;have g:=iQ (h.g2.fl _ hv.2)
 obtain⟨b,o,c,lb,j⟩:=g aa;have hc:=j i hi;dsimp only [ff] at P;rw[c] at P;generalize X (X s.T (K x) t0).2.1 i (0,0)=y at*;generalize OQ (X s.T (K x) t0).2.1=n at*;generalize (l.fm (K x)).2=cp at*;clear c;go_enter func204,ntmps204;go_wp2_with fail;refine P.mono ?_;clear P;rintro e w1 ⟨rfl,hb⟩
 have hq:=(hb.block (I (G w)+1) ac).trans (jz w (OX #[U R 3,U R x] 139) (OX #[U R 0,U R 0] 139))
 obtain⟨m,q,t,lw⟩:=dt hq;have k:=cg hq;have d:=cg (b1.trans (hb.mono (by simp;omega)))
 have g0:=(d.o.cell (p:=av b (o+i*2)) lb).trans hc.1;have g1:=(d.o.cell (p:=av b (o+i*2+1)) lb).trans hc.2;clear hb b1 hq hc;go_wp2_with fail;obtain⟨r0,r1,_,_⟩:=dt (ib (v1:=ak y.1) (v2:=ak y.2) k.o)
 exact a3 (v:=ay #[bz #[ak y.1,ak y.2],ak 0]) (by simp[results,results204,go_sem,r0,r1]) rfl (by grind [Below.setCell,Hid.out])
theorem s7 (x:Int)(w:az):O2 J 208 #[ak x] w λe w'=>e=Q (bz #[ak 1,ak x])/\O (I (G w)) w w':=by go_enter func208,ntmps208;go_wp2;exact a3 (v:=bz #[ak 1,ak x]) (by simp[results,results208,go_sem]) rfl (by simp_all [Below.alloc,Below.refl])
theorem pO (x:Int)(w:az):O2 J 289 #[ak x] w λe w'=>e=Q (bz #[ak 3,ak x])/\O (I (G w)) w w':=by go_enter func289,ntmps289;go_wp2;exact a3 (v:=bz #[ak 3,ak x]) (by simp[results,results289,go_sem]) rfl (by simp_all [Below.alloc,Below.refl])
end
section
variable {b7:Nat}{ce grow:Int}{l:ik}{F:Nat->Prop}{s:ck}{w w':az}{T T':List cH}
theorem J4 {fm:Fm}(b:∀i,cz T' i↔cz T i)(c:∀i,(X T' i t0).1=(X T i t0).1/\OQ (X T' i t0).2.1=OQ (X T i t0).2.1):iU T' fm=iU T fm:=by
 funext x
 by_cases h:0<=x/\cz T (K x)
 ·simp_all [ki]
 grind [nF]
theorem J5 (T:List cH)(j i:Nat)(y:Int×Int)(k:Nat):X (jT T j i y) k t0=if j=k/\j<OQ T then((X T j t0).1,(X T j t0).2.1.set i y,(X T j t0).2.2) else X T k t0:=by grind
theorem te (T:List cH)(j i:Nat)(y:Int×Int)(k:Nat):cz (jT T j i y) k↔cz T k:=by grind [cz]
theorem dO.field (h:dO b7 ce grow l s w){j i:Nat}(m:cz s.T j)(hi:i<OQ (X s.T j t0).2.1)(y:Int×Int):∃b cp,ff s.T l.fm j=Z (au b) (OQ (X s.T j t0).2.1) cp/\
 V w (av b (i*2))=H (ak (X (X s.T j t0).2.1 i (0,0)).1)/\V w (av b (i*2+1))=H (ak (X (X s.T j t0).2.1 i (0,0)).2)/\(∀o,bF w (av b o)=O4)/\b<I (G w)/\l.own b=10+j/\
 ∀w' W:az,(∀k,l.own k≠0->k≠b->w'.heap[k]?=w.heap[k]?)->I (G w)<=I (G w')->W.heap[b]?=w.heap[b]?->w'.heap[b]?=(O8 (O8 W ⟨b,i*2,Y⟩ (U R y.1)) ⟨b,i*2+1,Y⟩ (U R y.2)).heap[b]?->dO b7 ce grow l {s with T:=jT s.T j i y} w':=by
 have hr:=h.g2.fl j m;obtain⟨b,cp,e⟩:=fi hr aa;have ho:=h.g2.fC j m b (by rw[e];rfl)
 obtain⟨N,p⟩:=fI hr b (by rw[e];rfl)
 obtain⟨S,o,q,lb,u⟩:=iQ hr aa;have v:(l.fm j).1=au b:=by grind
 rw[v] at q;cases q;have hc:=u i hi;rw[Nat.zero_add] at hc;refine⟨b,cp,e,hc.1,hc.2,λo=>by simp[World.frozen?,p],cj p,ho,λw' W hk hs x hb=>?_⟩
 have hlen:(X (jT s.T j i y) j t0)=((X s.T j t0).1,(X s.T j t0).2.1.set i y,(X s.T j t0).2.2):=by rw[J5,aN ⟨rfl,m.1⟩]
 have B:∀k,(X (jT s.T j i y) k t0).1=(X s.T k t0).1/\OQ (X (jT s.T j i y) k t0).2.1=OQ (X s.T k t0).2.1/\(X (jT s.T j i y) k t0).2.2=(X s.T k t0).2.2:=λk=>by grind
 refine {cY:=?_,bo:=h.bo,g2:=?_,g3:=h.g3.keep (by grind),g4:=h.g4.keep (by grind),lt:=λk g=>aL (h.lt k g) hs}
 ·grind [bo,cY]
 ·refine {mp:=?_,mn:=by rw[lG];exact h.g2.mn,dy:=h.g2.dy,fl:=λk g=>?_,fC:=λk g=>?_,fY:=λk g=>?_,al:=by rw[lG];exact h.g2.al}
  ·rw[J4 (λk=>te _ _ _ _ k) (by grind)];exact h.g2.mp.same (hk _ (by rw[h.g2.dy];decide) (λc=>by have:=h.g2.dy;grind))
  ·have n:=(te _ _ _ _ k).1 g;by_cases gS:k=j
   ·rw[gS,hlen];dsimp only [ff] at hr e⊢;rw[hlen];rw[lG,vy];have t:=qq (qq (cK (e▸hr) (λd f=>by cases f;exact x)) (i*2) (ak y.1)) (i*2+1) (ak y.2)
    rw[e];exact cK t (λd f=>by cases f;exact hb)
   ·have F:X (jT s.T j i y) k t0=X s.T k t0:=by grind
    dsimp only [ff];rw[F];exact cK (h.g2.fl k n) (λd f=>hk d (by rw[h.g2.fC k n d f];omega) (λc=>by
     have t:=h.g2.fC k n d f
     grind))
  ·intro d f;refine h.g2.fC k (by grind [te]) d ?_
   grind
  ·rw[(B k).2.2];exact h.g2.fY k (by grind [te])
end
structure Cp where
 w0:az
 b7:Nat
 ce:Int
 grow:Int
 l:ik
 s:ck
 cp:Nat
 ab:Nat
 hb:Nat
def fD (T:List cH)(fm:Fm)(A:List Bool)(x:Int):Option Value:=if 0<=x/\X A (K x) O4=C then H (gX T fm (K x)) else Y
def hdF (hd:Int->List (Int×Int))(hm:Int->Option bB×Nat)(x:Int):Option Value:=if(hd x).isEmpty=C then Y else H (Z (hm x).1 (OQ (hd x)) (hm x).2)
structure c7 (c:Cp)(own:Nat->Nat)(vt:a7)(n1 n2:Nat)(hm:Int->Option bB×Nat)(st:dG)(w:az):Prop where
 ol:∀k,k<I (G c.w0)->w.heap[k]?=c.w0.heap[k]?
 sz:I (G c.w0)<=I (G w)
 cb:w.heap[c.cp]?=H (OX #[aq c.b7,.map (H c.ab),vt,.map (H c.hb)] 326 (0,0))
 co:own c.cp=1
 am:eT w c.ab n1 (fD c.s.T c.l.fm st.A)
 ao:own c.ab=2
 an:n1+cnt st.A<=OQ c.s.T
 tr:aC w 0 2 1 vt (OQ st.td) (st.td.map (Value.int R))
 tw:∀k,H k=vt.ownBlock->own k=3
 tn:OQ st.td+cnt st.A<=OQ c.s.T
 hq:eT w c.hb n2 (hdF st.hd hm)
 ho:own c.hb=4
 hn:n2<=st.m
 hr:∀x,st.hd x≠[]->0<=x/\aC w 0 139 2 (Z (hm x).1 (OQ (st.hd x)) (hm x).2) (OQ (st.hd x)) (ev (st.hd x))
 hro:∀x,st.hd x≠[]->∀k,H k=(Value.slice (hm x).1 (OQ (st.hd x)) (hm x).2).ownBlock->own k=10+K x
 lt:∀b,own b≠0->I (G c.w0)<=b/\b<I (G w)
section
variable {c:Cp}{own:Nat->Nat}{vt:a7}{n1 n2:Nat}{hm:Int->Option bB×Nat}{st:dG}{w w':az}
theorem c7.keep (h:c7 c own vt n1 n2 hm st w)(hs:I (G w)<=I (G w'))(hk:∀b,b<I (G c.w0)\/own b≠0->w'.heap[b]?=w.heap[b]?):c7 c own vt n1 n2 hm st w':=
 {
  h with
  ol:=λk e=>(by grind [ol])
  sz:=aQ h.sz hs
  cb:=(by grind [co,cb])
  am:=h.am.same (by grind [ao])
  tr:=cK h.tr (by grind [tw])
  hq:=h.hq.same (by grind [ho])
  hr:=λx d=>⟨(h.hr x d).1,cK (h.hr x d).2 (by grind [hro])⟩
  lt:=λb hb=>⟨(h.lt b hb).1,aL (h.lt b hb).2 hs⟩}
theorem c7.below (h:c7 c own vt n1 n2 hm st w)(hb:O (I (G w)) w w'):c7 c own vt n1 n2 hm st w':=h.keep hb.size (λb ho=>hb.block b (ho.elim (λc=>aL c h.sz) (λc=>(h.lt b c).2)))
end
def tf (c:Cp):dr dG where
 J F st w:=∃own vt n1 d hm,c7 c own vt n1 d hm st w/\∀b,F b↔b<I (G c.w0)\/own b≠0
 lt:=by
  rintro F st w ⟨own,vt,n1,d,hm,h,f⟩ b hb;rcases(f b).1 hb with e|e
  ·exact aL e h.sz
  ·exact(h.lt b e).2
 keep:=by rintro F st w w' ⟨own,vt,n1,d,hm,h,f⟩ hs hk;exact⟨own,vt,n1,d,hm,h.keep hs (λb hb=>hk b ((f b).2 hb)),f⟩
structure gm (own:Nat->Nat)(w:az)(own':Nat->Nat)(w':az):Prop where
 fr:Fr (λb=>own b=1\/own b=2\/own b=3) w w'
 old:∀b,b<I (G w)->own' b=own b
 nw:∀b,I (G w)<=b->own' b≠0->own' b=3
section
variable {c:Cp}{own own' nI:Nat->Nat}{vt:a7}{n1 n2:Nat}{hm:Int->Option bB×Nat}{st:dG}{w w' w'':az}
theorem gm.of (h:O (I (G w)) w w')(hl:∀b,own b≠0->b<I (G w)):gm own w own w':=⟨Fr.of h,λ_ _=>rfl,λb hb ho=>by grind⟩
theorem gm.trans (h:gm own w own' w')(k:gm own' w' nI w''):gm own w nI w'':=by
 refine⟨h.fr.trans k.fr (λi hi=>?_),λb hb=>(k.old b (aL hb h.fr.size)).trans (h.old b hb),λb hb ho=>?_⟩
 ·grind [old]
 ·by_cases c:b<I (G w')
  all_goals grind [old,nw]
theorem c7.cells (h:c7 c own vt n1 n2 hm st w):V w (av c.cp 0)=H (aq c.b7)/\V w (av c.cp 1)=H (.map (H c.ab))/\V w (av c.cp 2)=H vt/\V w (av c.cp 3)=H (.map (H c.hb))/\(∀o,bF w (av c.cp o)=O4)/\c.cp<I (G w):=by have b:=h.cb;refine⟨?_,?_,?_,?_,λo=>by simp[World.frozen?,b],cj b⟩<;>simp[World.cell?,b]
theorem c7.gv (h:c7 c own vt n1 n2 hm st w)(hg:dO c.b7 c.ce c.grow c.l c.s c.w0):dO c.b7 c.ce c.grow c.l c.s w:=(by grind [dO.keep,sz,ol,dO.lt])
theorem J6 (T:List cH)(fm:Fm)(A:List Bool){x:Int}(h0:0<=x)(hl:K x<OQ A):kG (fD T fm A) x (gX T fm (K x))=fD T fm (A.set (K x) C):=by grind [kG,fD]
theorem wP {T:List cH}{fm:Fm}{A:List Bool}{x:Int}(h0:0<=x):(fD T fm A x).isSome=cZ A x:=by grind [fD,cZ]
theorem c7.gO {cV:a7}{v:Int×Int}(h:c7 c own vt n1 n2 hm st w)(hi:eN st.A v=O4)(h0:0<=v.2)(hl:K v.2<OQ st.A)(fr:Fr (λb=>own b=1\/own b=2\/own b=3) w w')
 (hM:eT w' c.ab (n1+1) (kG (fD c.s.T c.l.fm st.A) v.2 (gX c.s.T c.l.fm (K v.2))))
 (f:aC w' 0 2 1 cV (OQ st.td+1) ((st.td++[v.2]).map (Value.int R)))(hb:w'.heap[c.cp]?=H (OX #[aq c.b7,.map (H c.ab),cV,.map (H c.hb)] 326 (0,0)))
 (ht:∀k,H k=cV.ownBlock->own k=3\/I (G w)<=k):∃own',c7 c own' cV (n1+1) n2 hm (eF st v) w'/\gm own w own' w':=by
 obtain⟨i,j⟩:=oG hi;have hc:=wE st.A (K v.2) (by simp_all)
 have he:∀b,own b≠0->(if I (G w)<=b then(if H b=cV.ownBlock then 3 else 0) else own b)=own b:=λb hb=>aJ (by have:=(h.lt b hb).2;omega)
 have hk:∀b,own b=4\/10<=own b->_=_:=λb hb=>fr.block b (by grind) aa;have hs:=h.sz;refine⟨λb=>if I (G w)<=b then(if H b=cV.ownBlock then 3 else 0) else own b,?_,fr,λb hb=>aJ aa,λb hb ho=>?_⟩
 ·rw[s9 hi];refine {
   ol:=λk g=>(fr.block k aa (λcc=>?_)).trans (h.ol k g),sz:=aQ h.sz fr.size,cb:=hb,co:=(by grind [co]),am:=?_,ao:=(by grind [ao]),an:=?_,tr:=by grind,tw:=λk e=>?_,tn:=?_
   hq:=h.hq.same (hk _ (aK h.ho)),ho:=(by grind [ho]),hn:=h.hn,hr:=λx d=>⟨(h.hr x d).1,cK (h.hr x d).2 (by grind [hro])⟩,hro:=λx d k e=>(by grind [hro]),lt:=λb hb=>?_}
  ·have:=(h.lt k aa).1;omega
  ·grind [J6]
  ·have:=h.an
   grind
  ·grind
  ·have:=h.tn
   grind
  ·split at hb
   ·rename_i hw;split at hb
    ·rename_i e;exact⟨aa,(cu f b e).2⟩
    omega
   grind [lt,Fr.size,aL]
 grind
end
theorem J7 (k:Int)(ad:Option bB)(n c:Nat)(w:az):(Instr.field 271 (bz #[ak k,Z ad n c]) 1).run J w=sS (Z ad n c) w:=ah
theorem wG (w:az)(a b o:Obj):(((w.alloc a).alloc b).alloc o).heap[I (G w)+1+1]?=H o:=by have h:=aO ((w.alloc a).alloc b) o;rwa [show I (G ((w.alloc a).alloc b))=I (G w)+1+1 by simp] at h
section
variable {b7:Nat}{ce grow:Int}{l:ik}{F:Nat->Prop}{s:ck}{w:az}
theorem J8 (h:dO b7 ce grow l s w)(v:Int×Int)(hv:v.1=3->0<=v.2/\cz s.T (K v.2))(b:OQ s.T<=10000)(hk:v.1=3->(X s.T (K v.2) t0).1=5):
 O2 J 211 #[aq b7,bz #[ak v.1,ak v.2]] w λe w'=>e=Q (ay #[bz #[ak 0,ak 0],ak 2])/\O (I (G w)) w w':=by
 obtain⟨k,x⟩:=v;have b1:O (I (G w)) w (bu (bu w (OX #[U R k,U R x] 139)) (OX #[U R 0,U R 0] 139)):=(bZ.alloc bY _).alloc ac _;have P:=BP (h.below b1) (k,x) hv b hk;go_enter func211,ntmps211;go_wp2_with fail;refine P.mono ?_;rintro e w1 ⟨rfl,hb⟩
 have hq:=(hb.block (I (G w)+1) ac).trans (jz w (OX #[U R k,U R x] 139) (OX #[U R 0,U R 0] 139))
 obtain⟨f,g,i,lw⟩:=dt hq;have c:=cg hq;have d:=cg (b1.trans (hb.mono (by simp;omega)))
 go_wp2_with fail;obtain⟨r0,r1,_,_⟩:=dt (ib (v1:=ak 0) (v2:=ak 0) c.o)
 exact a3 (v:=ay #[bz #[ak 0,ak 0],ak 2]) (by simp[results,results211,go_sem,r0,r1]) rfl ⟨rfl,(d.o.setCell ac _).setCell ac _⟩
theorem J9 (h:dO b7 ce grow l s w)(x:Int)(hv:0<=x/\cz s.T (K x))(d:OQ s.T<=10000)(hk:(X s.T (K x) t0).1≠5):
 O2 J 211 #[aq b7,bz #[ak 3,ak x]] w λe w'=>e=Q (ay #[bz #[ak 1,ak (OQ (X s.T (K x) t0).2.1)],ak 0])/\O (I (G w)) w w':=by
 have b1:O (I (G w)) w (bu (bu w (OX #[U R 3,U R x] 139)) (OX #[U R 0,U R 0] 139)):=(bZ.alloc bY _).alloc ac _;have P:=wO (h.below b1) x hv d hk;dsimp only [ff] at P;generalize OQ (X s.T (K x) t0).2.1=n at*;go_enter func211,ntmps211;go_wp2_with fail;refine P.mono ?_;clear P;rintro e w1 ⟨rfl,hb⟩
 have hq:=(hb.block (I (G w)+1) ac).trans (jz w (OX #[U R 3,U R x] 139) (OX #[U R 0,U R 0] 139))
 have b:=cg (b1.trans (hb.mono (by simp;omega)))
 clear hb b1;go_wp2_with fail;refine(s7 n w1).mono ?_;rintro e f ⟨rfl,c⟩
 have hq:=(c.block _ (cj hq)).trans hq;obtain⟨g,i,j,lw⟩:=dt hq;go_wp2_with fail;obtain⟨r0,r1,_,_⟩:=dt (ib (v1:=ak 1) (v2:=ak n) (cg hq).o)
 exact a3 (by simp[results,results211,go_sem,r0,r1]) rfl ⟨rfl,((cg (b.o.trans (c.mono b.o.size))).o.setCell ac _).setCell ac _⟩
theorem J_ (x y:Int×Int)(w:az):
 O2 J 212 #[bz #[ak x.1,ak x.2],bz #[ak y.1,ak y.2]] w λe w'=>e=Q (bz #[ak 1,ak (if x=y then 1 else 0)])/\O (I (G w)) w w':=by
 obtain⟨b,g⟩:=x;obtain⟨d,y1⟩:=y;have b1:O (I (G w)) w (bu (bu (bu w (OX #[U R b,U R g] 139)) (OX #[U R d,U R y1] 139)) (OX #[U R 0,U R 0] 139)):=((bZ.alloc bY _).alloc ac _).alloc (by simp;omega) _;by_cases h0:b=d/\g=y1
 ·obtain⟨h0,f⟩:=h0;subst h0 f;rw[aN rfl];go_enter func212,ntmps212;go_wp2_with fail;refine(s7 _ _).mono ?_;rintro e w2 ⟨rfl,hb2⟩
  have hq:=(hb2.block (I (G w)+1+1) ac).trans (wG w _ _ _)
  obtain⟨e0,e1,f0,lw⟩:=dt hq;have HN:=cg hq;have HB:=cg (b1.trans (hb2.mono b1.size))
  go_wp2_with fail;obtain⟨r0,r1,_,_⟩:=dt (ib (v1:=ak 1) (v2:=ak 1) HN.o)
  exact a3 (v:=bz #[ak 1,ak 1]) (by simp[results,results212,go_sem,r0,r1]) rfl ⟨rfl,(HB.o.setCell (by simp;omega) _).setCell (by simp;omega) _⟩
 ·rw[aJ (λc=>h0 (by cases c;exact⟨rfl,rfl⟩))];by_cases f:b=d
  ·subst f;go_enter func212,ntmps212;exact BH
  ·go_enter func212,ntmps212;exact BH
theorem Ka (h:dO b7 ce grow l s w)(x:Int)(i:Nat)(y:Int×Int)(hv:0<=x/\cz s.T x.toNat)(v:OQ s.T<=10000)(hk:(s.T.getD x.toNat t0).1≠5)(hi:i<OQ (s.T.getD x.toNat t0).2.1)(ad:i<12):
 O2 J 132 #[aq b7,.agg #[ak 3,ak x],ak i,.agg #[ak y.1,ak y.2]] w λe w'=>e=Q (ak 0)/\dO b7 ce grow l {s with T:=jT s.T x.toNat i y} w'/\Fr (λb=>l.own b≠0) w w':=by
 obtain⟨f,y1⟩:=y;have b1:O (I (G w)) w ((w.alloc (OX #[.int R 3,.int R x] 139)).alloc (OX #[.int R f,.int R y1] 139)):=(bZ.alloc bY _).alloc ac _;have P:=BS (h.below b1) x i hv v hk hi;obtain⟨b,cp,B,g0,g1,F,lb,m,q⟩:=h.field hv.2 hi (f,y1)
 obtain⟨_,_,c2,_,_,_,_,_,N⟩:=h.cells;have hl:x<10000:=by have:=hv.2.1;omega
 have L:∀W,O (I (G w)) w W->(Instr.lookup 194 (.map (H l.mb)) (ak x) O4).run J W=.ok (gX s.T l.fm x.toNat) W:=λW hb=>by
  have:=(h.below hb).g2.mp.look (t:=194) (e:=271) underlying194 (nH W) (x:=x) hv.1 aa;rw[ki hv] at this
  exact this
 have ag:=hv.1;dsimp only [gX] at L;rw[B] at L;have q:=cg q;have S:=cg m;have ab:=cg h.lt;have ai:b≠b7:=λc=>by have:=h.bo;rw[<-c,m] at this;omega
 have m1:b≠I (G w):=aa;have al:b≠I (G w)+1:=aa;clear h hv v hk B m;generalize (s.T.getD x.toNat t0).2.1.getD i (0,0)=z at*;generalize OQ (s.T.getD x.toNat t0).2.1=n at*;generalize (s.T.getD x.toNat t0).1=kd at*;go_enter func132,ntmps132;go_wp2_with fail;refine P.mono ?_;clear P;rintro e w1 ⟨rfl,hb⟩
 have d:=cg (b1.trans (hb.mono (by simp;omega)))
 have g:=(hb.block (I (G w)) (by simp;omega)).trans ((aU _ _ _ ac).trans (aO w (OX #[.int R 3,.int R x] 139)))
 have j:=(hb.block (I (G w)+1) ac).trans (jz w (OX #[.int R 3,.int R x] 139) (OX #[.int R f,.int R y1] 139))
 have b2:=d.o.alloc d.o.size (OX #[.int R z.1,.int R z.2] 139)
 have g:=(aU w1 (OX #[.int R z.1,.int R z.2] 139) _ (cj g)).trans g;have j:=(aU w1 (OX #[.int R z.1,.int R z.2] 139) _ (cj j)).trans j;clear hb b1 d;go_wp2_with fail;generalize w1.alloc (OX #[.int R z.1,.int R z.2] 139)=W at*;obtain⟨_,am,_,_⟩:=dt g;obtain⟨q0,q1,_,_⟩:=dt j;have an:=(b2.cell (p:=av b7 2) N).trans c2;have k0:=(b2.cell (p:=av b (i*2)) lb).trans g0;have k1:=(b2.cell (p:=av b (i*2+1)) lb).trans g1;have kf:∀o,bF W (av b o)=O4:=λo=>(b2.frozen (p:=av b o) lb).trans (F o)
 have ao:=L _ b2.drew;have ap:=J7 kd (au b) n cp;have n1:(0:Int)<=i:=aa;have ar:(i:Int)<n:=aa;have d:aA (O (I (G w)) w W):=b2;clear g j L g0 g1 F c2 b2
 go_region_held3 (λw'=>V w' (av b7 2)=H (.map (H l.mb))/\V w' (av (I (G w)) 1)=H (ak x)/\V w' (av (I (G w)+1) 0)=H (ak f)/\V w' (av (I (G w)+1) 1)=H (ak y1)) (go_keep) (fail)
 go_wp2_with fail;go_ret;have hs:=d.o.size;have fr:Fr (λk=>k=b) W (O8 (O8 W ⟨b,i*2,Y⟩ (.int R f)) ⟨b,i*2+1,Y⟩ (.int R y1)).drew:=(((Fr.refl (λk=>k=b) W).set b _ _ rfl).set b _ _ rfl).drew;have u:=(Fr.of d.o).trans fr (λ_ c=>aK c)
 exact⟨rfl,q.o _ W (λk hk hn=>u.block k (ab.o k hk) hn) u.size (d.o.block b lb) rfl,u.mono (λk e=>by rw[e,S.o];omega)⟩
theorem Kb (v y:Int×Int)(i c:Int)(hc:c≠0)
 (P:∀w',O (I (G w)) w w'->O2 J 204 #[aq b7,bz #[ak v.1,ak v.2],ak i] w' λe d=>e=Q (ay #[bz #[ak 0,ak 0],ak c])/\O (I (G w')) w' d):
 O2 J 132 #[aq b7,bz #[ak v.1,ak v.2],ak i,bz #[ak y.1,ak y.2]] w λe w'=>e=Q (ak c)/\O (I (G w)) w w':=by
 obtain⟨f,y1⟩:=y;obtain⟨k,x⟩:=v;have b1:O (I (G w)) w (bu (bu w (OX #[U R k,U R x] 139)) (OX #[U R f,U R y1] 139)):=(bZ.alloc bY _).alloc ac _;go_enter func132,ntmps132;go_wp2_with fail;refine(P _ b1).mono ?_;rintro e w1 ⟨rfl,hb⟩
 have b:=cg (b1.trans (hb.mono b1.size))
 go_wp2_with fail;go_ret;exact⟨rfl,b.o.alloc b.o.size _⟩
end
theorem Kc:(prog.info? 2).map (λi=>(i.zero,i.size,i.bytes))=H (H (ak 0),1,8):=ah
section
variable {c:Cp}{own:Nat->Nat}{vt:a7}{n1 n2:Nat}{hm:Int->Option bB×Nat}{st:dG}{w:az}
theorem BU {cp ab:Nat}{T:List cH}{fm:Fm}{A:List Bool}(c1:V w (av cp 1)=H (.map (H ab)))(hM:eT w ab n1 (fD T fm A))(x:Int)(h0:0<=x)(b:x<1152921504606846976):
 O2 J 316 #[aq cp,ak x] w λe w'=>e=Q (.bool (cZ A x))/\O (I (G w)) w w':=by
 have L:=hM.look_ok underlying194 (nH w) h0 b;rw[wP h0] at L;have hv:∃k ad n c,(fD T fm A x).getD (.agg #[ak 0,.slice Y 0 0])=.agg #[ak k,.slice ad n c]:=by
  unfold fD;split
  ·exact⟨_,_,_,_,rfl⟩
  ·exact⟨_,_,_,_,rfl⟩
 obtain⟨k,ad,n,cc,ev⟩:=hv;rw[ev] at L;exact ll
theorem BV {cp ab:Nat}{T:List cH}{fm:Fm}{A:List Bool}(c1:V w (av cp 1)=H (.map (H ab)))(hM:eT w ab n1 (fD T fm A))(v:Int×Int)(hv:v.1=3->0<=v.2/\v.2<1152921504606846976):
 O2 J 319 #[aq cp,bz #[ak v.1,ak v.2]] w λe w'=>e=Q (bA (!eN A v))/\O (I (G w)) w w':=by
 obtain⟨k,x⟩:=v;by_cases c:k=3
 ·subst c;have b1:=aw w (OX #[U R 3,U R x] 139)
  have P:=BU ((b1.cell (p:=av cp 1) (aT w _ c1)).trans c1) (hM.same (b1.block ab hM.lt)) x (hv rfl).1 (hv rfl).2;have e:eN A (3,x)=cZ A x:=by unfold eN cZ;simp
  rw[e];generalize cZ A x=b at*;go_enter func319,ntmps319;go_wp2_with fail;refine P.mono ?_;rintro e w1 ⟨rfl,hb⟩
  have d:=cg (b1.trans (hb.mono b1.size))
  go_wp2;go_ret;exact⟨rfl,d.o⟩
 ·have e:eN A (k,x)=C:=by unfold eN;simp[c]
  rw[e];go_enter func319,ntmps319;exact ll
theorem Kd (h:c7 c own vt n1 n2 hm st w)(x:Int)(h0:0<=x)(b:x<1152921504606846976):
 O2 J 316 #[aq c.cp,ak x] w λe w'=>e=Q (bA (cZ st.A x))/\O (I (G w)) w w':=BU h.cells.2.1 h.am x h0 b
theorem wQ (h:c7 c own vt n1 n2 hm st w)(v:Int×Int)(hv:v.1=3->0<=v.2/\v.2<1152921504606846976):
 O2 J 319 #[aq c.cp,bz #[ak v.1,ak v.2]] w λe w'=>e=Q (bA (!eN st.A v))/\O (I (G w)) w w':=BV h.cells.2.1 h.am v hv
structure kI (own:Nat->Nat)(w:az)(ad:Option bB)(l:List (Int×Int)):Prop where
 lp:dQ w ad l
 no:0<OQ l->∀z,ad=H z->¬(own z.block=1\/own z.block=2\/own z.block=3)
theorem kI.tm {own d:Nat->Nat}{w w':az}{ad:Option bB}{l:List _}(h:kI own w ad l)(t:gm own w d w'):kI d w' ad l:=
 ⟨h.lp.keep t.fr.size (λhp z e=>t.fr.block _ (by obtain⟨b,o,c,hb,_⟩:=h.lp hp;rw[e] at c;cases c;exact hb) (h.no hp z e)),λhp z e=>by rw[t.old _ (by obtain⟨b,o,c,hb,_⟩:=h.lp hp;rw[e] at c;cases c;exact hb)];exact h.no hp z e⟩
theorem nJ (hg:dO c.b7 c.ce c.grow c.l c.s c.w0)(am:OQ c.s.T<=10000)(hlen:OQ st.A=OQ c.s.T)(h:c7 c own vt n1 n2 hm st w)(ad:Option bB)(cap:Nat)(l:List (Int×Int))(hl:kI own w ad l)(hv:∀v∈l,v.1=3->0<=v.2/\cz c.s.T v.2.toNat)(cS:OQ l<=100000):
 O2 J 314 #[aq c.cp,.slice ad (OQ l) cap] w λe w'=>∃m cV q,e=Q (ay #[])/\c7 c m cV q n2 hm (dz st l) w'/\gm own w m w':=by
 have bd:aA (dO c.b7 c.ce c.grow c.l c.s c.w0):=hg;have ci:aA (∀v∈l,v.1=3->0<=v.2/\cz c.s.T v.2.toNat):=hv;have be:aA (c7 c own vt n1 n2 hm st w/\kI own w ad l):=⟨h,hl⟩
 have ck:aA (OQ c.s.T<=10000/\OQ st.A=OQ c.s.T):=⟨am,hlen⟩
 have cT:=h.cells.2.2.2.2.2;clear hg h hl hv am hlen;go_enter func314,ntmps314;go_wp2_with fail
 go_loopw [8] (λi wr=>∃(j:Nat)(m:Nat->Nat)(cV:a7)(q:Nat),j<=OQ l/\i=ak j/\c7 c m cV q n2 hm (dz st (l.take j)) wr/\gm own w m wr) (λi _=>OQ l-(intOf i).toNat)
 case atStart=>exact⟨0,own,vt,n1,a4 _,rfl,be.o.1,gm.of bZ (λb hb=>(be.o.1.lt b hb).2)⟩
 case round=>
  obtain⟨j,m,cV,q,an,rfl,g,t⟩:=hrel;by_cases bg:j<OQ l
  ·have bi:l.take (j+1)=l.take j++[l.getD j (0,0)]:=by rw[List.take_add_one,aM,aP bg];rfl
   have ag:=ci.o (l.getD j (0,0)) (fL bg)
   obtain⟨am,hlen⟩:=ck.o;have aB:OQ (dz st (l.take j)).A=OQ c.s.T:=((kF st (l.take j)).2.2).trans hlen;have bl:aA (dz st (l.take (j+1))=eF (dz st (l.take j)) (l.getD j (0,0))):=by show _=_;rw[bi,BJ]
   generalize dz st (l.take j)=S at g bl aB;obtain⟨cU,o,aF,lb,bn⟩:=(be.o.2.tm t).lp aa;have hc:=bn j bg;obtain⟨z0,cl⟩:=hc;generalize l.getD j (0,0)=v at*;obtain⟨k,x⟩:=v;dsimp only at z0 cl ag;have b1:=aw wr (OX #[.int R k,.int R x] 139)
   have P:=wQ (g.below b1) (k,x) (λao=>⟨(ag ao).1,by have:=(ag ao).2.1;omega⟩)
   have cW:aA (I (G wr)+1=I (G wr)+1):=rfl;have cX:(j:Int)<OQ l:=aa;have cY:IntKind.i64.wrap ((j:Int)+1)=(j:Int)+1:=by rw[bc];omega
   cases hi:eN S.A (k,x)
   ·rw[hi] at P;obtain⟨ao,cm⟩:=oG hi;dsimp only at ao cm;subst ao;obtain⟨aR,aV⟩:=ag rfl;have cZ:x<10000:=by have:=aV.1;omega
    obtain⟨B,F,cn⟩:=e7 g.tr;subst cn;have c0:OQ S.td<=10000:=by have:=g.tn;omega
    have bx:q<100000:=by have:=g.an;omega
    have np:∀b,m b=3->b≠c.cp:=λb hb e=>by rw[e,g.co] at hb;omega
    have b0:aA (∀w1,O (I (G wr)) wr w1->w1.heap[I (G wr)]?=H (OX #[ak 3,ak x] 139 (0,0))->∃kd bo bp fc f,(V w1 (av c.cp 0)=H (aq c.b7)/\V w1 (av c.cp 1)=H (.map (H c.ab))/\V w1 (av c.b7 2)=H (.map (H c.l.mb)))/\
     (Instr.lookup 194 (.map (H c.l.mb)) (ak x) O4).run J w1.drew=.ok (.agg #[ak kd,.slice bo bp fc]) w1.drew/\(Instr.mapUpdate 194 (.map (H c.ab)) (ak x) (.agg #[ak kd,.slice bo bp fc])).run J w1.drew=.ok () f/\
     (V f (av c.cp 0)=H (aq c.b7)/\V f (av c.cp 1)=H (.map (H c.ab))/\V f (av c.b7 2)=H (.map (H c.l.mb))/\V f (av (I (G wr)) 1)=H (ak x)/\V f (av c.cp 2)=H (.slice B (OQ S.td) F)/\(∀o,bF f (av c.cp o)=O4)/\c.cp<I (G f))/\
     aA (aC f 0 2 1 (.slice B (OQ S.td) F) (OQ S.td) (S.td.map (Value.int R))/\H c.cp≠(Value.slice B (OQ S.td) F).ownBlock/\∀n b4 s,(f.alloc (OX #[.int R x] 2)).drew.grownBy n (Value.slice B (OQ S.td) F).ownBlock->aC n 0 2 1 (.slice (au b4) (OQ S.td+1) s) (OQ S.td+1) ((S.td++[x]).map (Value.int R))->(H b4=(Value.slice B (OQ S.td) F).ownBlock\/I (G f)<=b4)->
      ∃ai,c7 c ai (.slice (au b4) (OQ S.td+1) s) (q+1) n2 hm (dz st (l.take (j+1))) (O8 n ⟨c.cp,2,Y⟩ (.slice (H ⟨b4,0,Y⟩) (OQ S.td+1) s))/\gm own w ai (O8 n ⟨c.cp,2,Y⟩ (.slice (H ⟨b4,0,Y⟩) (OQ S.td+1) s)))):=λw1 hb al=>by
     have g1:=g.below hb;have gv:=g1.gv bd.o;have b2:=g.below hb.drew;have L:=(b2.gv bd.o).g2.mp.look (t:=194) (e:=271) underlying194 (nH _) (x:=x) aR aa;rw[ki ⟨aR,aV⟩] at L;obtain⟨f,co,br,ab⟩:=b2.am.put (t:=194) (e:=271) underlying194 bx aR aa (gX c.s.T c.l.fm x.toNat)
     obtain⟨q0,q1,cp,_,cq,a0⟩:=g1.cells;obtain⟨_,_,b3,_,_,_,_,_,pl⟩:=gv.cells;have a1:∀b,b<I (G w1)->b≠c.ab->f.heap[b]?=w1.heap[b]?:=λb hb hn=>ab.block b hb (λe=>hn (kg e))
     have b5:c.cp≠c.ab:=λe=>by have W:=g1.co;rw[e,g1.ao] at W;omega
     have cr:c.b7≠c.ab:=λe=>by have W:=bd.o.cells.2.2.2.2.2.2.2.2;have cs:=(g1.lt c.ab (by rw[g1.ao];decide)).1;omega
     have ct:I (G wr)≠c.ab:=λe=>by have cs:=(g.lt c.ab (by rw[g.ao];decide)).2;omega
     have ap:=a1 c.cp a0 b5;refine⟨_,_,_,_,f,⟨q0,q1,b3⟩,L,co,⟨(aS (a:=⟨c.cp,0,Y⟩) ap).trans q0,(aS (a:=⟨c.cp,1,Y⟩) ap).trans q1,(aS (a:=⟨c.b7,2,Y⟩) (a1 c.b7 pl cr)).trans b3,(aS (a:=⟨I (G wr),1,Y⟩) (a1 (I (G wr)) (cj al) ct)).trans (by simp[World.cell?,al]),(aS (a:=⟨c.cp,2,Y⟩) ap).trans cp,λo=>(World.frozen?_of_block (a:=⟨c.cp,o,Y⟩) ap).trans (cq o),aL a0 ab.size⟩,?_⟩
     have cv:aC f 0 2 1 (.slice B (OQ S.td) F) (OQ S.td) (S.td.map (Value.int R)):=cK g1.tr (λk e=>a1 k (cu g1.tr k e).2 (λcc=>by have W:=g1.tw k e;rw[cc,g1.ao] at W;omega))
     refine⟨cv,λe=>np c.cp (g1.tw c.cp e) rfl,λn b4 s bs cw b6=>?_⟩
     have cx:Fr (λb=>m b=1\/m b=2\/m b=3) w1 f:=((Fr.refl _ w1).drew).grown ab (λk e=>aK (by cases e;exact aI (aK g1.ao)))
     have cy:Fr (λb=>m b=1\/m b=2\/m b=3) f n:=(((Fr.refl _ f).alloc _).drew).grown bs (λk e=>aK (aI (aI (g1.tw k e.symm))))
     have cA:=(cx.trans cy (λ_ d=>aK d)).set c.cp 2 (.slice (au b4) (OQ S.td+1) s) (aK g1.co)
     have cB:b4≠c.cp:=by
      rcases b6 with e|e
      ·exact np b4 (g1.tw b4 e)
      ·have:=ab.size;have:I (G w1)<=I (G f):=this
       omega
     have b7:∀b,b≠c.cp->(O8 n ⟨c.cp,2,Y⟩ (.slice (H ⟨b4,0,Y⟩) (OQ S.td+1) s)).heap[b]?=n.heap[b]?:=λb hn=>aW _ _ _ _ hn;have cC:(O8 n ⟨c.cp,2,Y⟩ (.slice (H ⟨b4,0,Y⟩) (OQ S.td+1) s)).heap[c.ab]?=f.heap[c.ab]?:=(b7 c.ab b5.symm).trans ((bs.block c.ab (by have:=br.lt;simp[World.drew];omega) (λe=>by have W:=g1.tw c.ab e;rw[g1.ao] at W;omega)).trans (aU _ _ _ br.lt))
     have cD:n.heap[c.cp]?=w1.heap[c.cp]?:=(bs.block c.cp (by have:=aL a0 ab.size;simp[World.drew];omega) (λe=>np c.cp (g1.tw c.cp e) rfl)).trans ((aU _ _ _ (aL a0 ab.size)).trans ap)
     obtain⟨ai,c1,c2⟩:=g1.gO (cV:=.slice (au b4) (OQ S.td+1) s) hi aR (by rw[aB];exact aV.1) cA (br.same cC) (cK cw (λk e=>by cases e;exact b7 _ cB)) (by
      have W:=cD.trans g1.cb;simp only [World.setCell,Array.getElem?_modify,if_true,W,Option.map_some];rfl) (λk e=>by
      cases e;exact b6.imp (λe=>g1.tw _ e) (λe=>aQ (show I (G w1)<=I (G f) from ab.size) e))
     rw[bl.o];exact⟨ai,c1,(t.trans (gm.of hb (λb hb=>(g.lt b hb).2))).trans c2⟩
    rw[aF];clear g t bn ag bi hi aB am hlen aF np bx aV;go_wp2_with fail;refine P.mono ?_;clear P;rintro e w1 ⟨rfl,hb⟩
    have al:=(hb.block (I (G wr)) ac).trans (aO wr (OX #[.int R 3,.int R x] 139))
    obtain⟨kd,bo,bp,fc,f,⟨cE,y1,cF⟩,cG,cH,⟨u0,cI,cJ,c3,b8,b9,bt⟩,a2⟩:=b0.o w1 (b1.trans (hb.mono b1.size)) al;obtain⟨_,cL,_,_⟩:=dt al;clear hb b1 al b0;go_wp2_with fail
    go_region_held3 (λw'=>V w' (av c.cp 0)=H (aq c.b7)/\V w' (av c.cp 1)=H (.map (H c.ab))/\V w' (av c.b7 2)=H (.map (H c.l.mb))/\V w' (av (I (G wr)) 1)=H (ak x)) (go_keep) (fail)
    clear cG cH cE y1 cF cL u0 cI cJ;obtain⟨cM,cN,cO,cP,cQ⟩:=info_parts Kc;have ar:=(aw f (OX #[.int R x] 2)).drew;have ca:aA (aC (f.alloc (OX #[.int R x] 2)).drew 0 2 1 (.slice B (OQ S.td) F) (OQ S.td) (S.td.map (Value.int R))):=cK (gq a2.o.1 _) (λ_ _=>rfl)
    have cb:H c.cp≠(Value.slice B (OQ S.td) F).ownBlock:=a2.o.2.1;have cR:=b9 2;clear b9;go_wp2_with fail
    go_region_law (refine step_append_lies _ rfl (.tmp 35) (.tmp 38) 66 rfl 0 2 cM (ak 0) 1 8 underlying66 cN cO cP cQ rfl ae (.slice B (OQ S.td) F) (OQ S.td) (S.td.map (Value.int R)) (by simp[Act.eval]) ca.o ⟨I (G f),0,Y⟩ 1 1 [ak x] (by simp[Act.eval]) rfl ?_ ?_ ae (by unfold maxLen;omega) aa ac _ rfl ?_;(intro j u an;match j,an with|0,an=>(simp at an;subst an;simp[Addr.add]));(intro u cd;simp at cd;subst cd;rfl);intro b4 s n ce bb cf c4;have c5:=bb.cell (a:=⟨c.cp,2,Y⟩) (v:=.slice B (OQ S.td) F) ((ar.cell (p:=av c.cp 2) bt).trans b8) cb;have c6:bF n (av c.cp 2)=O4:=(World.frozen?_of_block (a:=⟨c.cp,2,Y⟩) (bb.block _ (aL bt ar.size) cb)).trans ((ar.frozen (p:=av c.cp 2) bt).trans cR))
    all_goals
     obtain⟨ai,cg,ch⟩:=a2.o.2.2 n b4 s bb (by simpa using ce) (cf.imp Eq.symm (λe=>by rw[e];exact ar.size))
     have N:aA (_/\_):=⟨cg,ch⟩
     clear ce bb cf a2 ca cg ch ar b8;go_wp2_with fail;go_roundw
     case rel=>exact⟨j+1,ai,_,q+1,aa,aj,N.o.1,N.o.2⟩
     case measure=>simp[intOf];omega
   ·rw[hi] at P;have N:aA (∀w1,O (I (G wr)) wr w1->c7 c m cV q n2 hm (dz st (l.take (j+1))) w1/\gm own w m w1):=λw1 hb=>by rw[bl.o,wK hi];exact⟨g.below hb,t.trans (gm.of hb (λb hb=>(g.lt b hb).2))⟩
    rw[aF];clear g t bn ag bi hi aB am hlen aF;go_wp2_with fail;refine P.mono ?_;clear P;rintro e w1 ⟨rfl,hb⟩
    have hb:=b1.trans (hb.mono b1.size)
    have N:aA (_/\_):=N.o w1 hb;clear hb b1;go_wp2_with fail;go_roundw
    case rel=>exact⟨j+1,m,cV,q,aa,aj,N.o.1,N.o.2⟩
    case measure=>simp[intOf];omega
  ·have e:l.take j=l:=List.take_of_length_le aa;rw[e] at g;have N:aA (c7 c m cV q n2 hm (dz st l) wr/\gm own w m wr):=⟨g,t⟩
   have c8:(OQ l:Int)<=j:=aa;clear g t e;go_wp2_with fail;go_end0;exact⟨m,cV,q,rfl,N.o.1,N.o.2⟩
end
end Go.Proofs.YtjckpdepffejnaaGreatDoor
