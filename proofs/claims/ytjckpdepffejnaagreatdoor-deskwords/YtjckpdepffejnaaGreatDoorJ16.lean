import Derived.Test.YtjckpdepffejnaaGreatDoorJ15
import Derived.Maps.RangeWalk
open Array renaming size->I
open Bool renaming false->OU,true->C
open Go renaming Addr->bB,Calls->OS,TypeId->bI,Value->a7
open Go.Ending renaming returned->Q
open Go.IntKind renaming i64->R
open Go.Obj renaming cells->ON
open Go.Proofs.Tryz renaming prog->O
open Go.Result renaming ok->sQ
open Go.RowKit renaming Below->J
open Go.Value renaming agg->bz,bool->bA,int->OP,ownBlock->OY,slice->Z,tuple->ay
open Go.World renaming alloc->bu,cell?->V,frozen?->bF,heap->G,ownsRow->aC,setCell->A
open Int renaming toNat->K
open List renaming contains_iff_mem->bS,getD->U,length->OG,length_set->lD,mem_map->bR,replicate->aZ
open Option renaming none->Y,some->H
open Option.some renaming inj->j3
namespace Go.Proofs.YtjckpdepffejnaaGreatDoor
set_option maxRecDepth 100000
set_option maxHeartbeats 4000000
open Tryz
open Go.RowKit W Kp ch
theorem BB {P:Prop}(h:P:=by
 go_wp2_with fail;refine(sZ _ _).mono ?_;rintro e w2 ⟨rfl,hb2⟩
 have hq:=(hb2.block (w.heap.size+1+1) ac).trans (wB w _ _ _)
 obtain⟨e0,e1,f0,lw⟩:=dt hq;have HN:=cg hq;have HB:=cg (b1.trans (hb2.mono b1.size))
 go_wp2_with fail;obtain⟨r0,r1,_,_⟩:=dt (h_ (v1:=ak 1) (v2:=ak 0) HN.o)
 exact a3 (v:=.agg #[ak 1,ak 0]) (by simp[results,results212,go_sem,r0,r1]) rfl ⟨rfl,(HB.o.setCell (by simp;omega) _).setCell (by simp;omega) _⟩):P:=h
theorem BC {P:Prop}(h:P:=by
 rintro e w1 ⟨rfl,hb⟩
 have HB:=cg (((aH _ w).alloc bY _).trans (hb.mono ac))
 go_wp2;go_ret2;exact⟨rfl,HB.o.alloc HB.o.size _⟩):P:=h
structure dG where
 A:List Bool
 td:List Int
 hd:Int->List (Int×Int)
 m:Nat
def eE (s:dG)(v:Int×Int):dG:=if eM s.A v=C then s else {s with A:=s.A.set (K v.2) C,td:=s.td++[v.2]}
def dz (s:dG)(l:List (Int×Int)):dG:=l.foldl eE s
def mz (s:dG)(k v:Int×Int):dG:=if eM s.A k=C then eE s v else {s with hd:=λx=>if x=k.2 then s.hd x++[v] else s.hd x,m:=s.m+1}
def hV (T:List cH)(wt:List b8)(s:dG)(i:Int):dG:=
 if(U T (K i) t0).1=1\/(U T (K i) t0).1=2 then dz s (U T (K i) t0).2.1
 else if(U T (K i) t0).1=3 then eE s (U (U T (K i) t0).2.1 1 (0,0))
 else if(U T (K i) t0).1=4 then mz s (U (U T (K i) t0).2.1 0 (0,0)) (U (U T (K i) t0).2.1 1 (0,0))
 else if(U T (K i) t0).1=5 then dz s ((eR wt i).map λx=>(3,x)) else s
def ig (T:List cH)(wt:List b8)(s:dG)(i:Int):dG:=dz (hV T wt s i) ((hV T wt s i).hd i)
theorem BD (s:dG)(l:List (Int×Int))(v:Int×Int):dz s (l++[v])=eE (dz s l) v:=by simp[dz,List.foldl_append]
def qX (T:List cH)(wt:List b8)(s:dG)(P:Int->Prop)(i:Nat):Prop:=
 ((U T i t0).1≠4->∀v,jH T wt (λ_=>True) i v->v.1=3->cx s.A (K v.2))/\
 ((
   U T i t0).1=4->((U (U T i t0).2.1 0 (0,0)).1=3/\(¬cx s.A (K (U (U T i t0).2.1 0 (0,0)).2)\/P (U (U T i t0).2.1 0 (0,0)).2)/\U (U T i t0).2.1 1 (0,0)∈s.hd (U (U T i t0).2.1 0 (0,0)).2)\/
   ((U (U T i t0).2.1 1 (0,0)).1=3->cx s.A (K (U (U T i t0).2.1 1 (0,0)).2)))
structure ft (T:List cH)(wt:List b8)(is:List Bool)(s:dG)(E:List Int):Prop where
 len:OG s.A=OG T
 al:∀k,cx s.A k->cz T k
 lt:∀X,iJ T wt X->(∀k,cx is k->X k)->∀k,cx s.A k->X k
 td:∀x,x∈E\/x∈s.td->0<=x/\cx s.A (K x)
 hd:∀x v,v∈s.hd x->∃i,cx s.A i/\(U T i t0).1=4/\U (U T i t0).2.1 0 (0,0)=(3,x)/\v=U (U T i t0).2.1 1 (0,0)
 dp:∀i:Nat,cx s.A i->¬((i:Int)∈E\/(i:Int)∈s.td)->qX T wt s (λx=>x∈E\/x∈s.td) i
section
variable {T:List cH}{wt:List b8}{is:List Bool}{s:dG}{E:List Int}
theorem BE {L:List Bool}{i k:Nat}(h:cx L k):cx (L.set i C) k:=by grind [cx]
theorem qY (s:dG)(v:Int×Int){k:Nat}(h:cx s.A k):cx (eE s v).A k:=by grind [BE,eE]
theorem wC (s:dG)(v:Int×Int)(b:v.1=3)(hl:K v.2<OG s.A):cx (eE s v).A (K v.2):=by grind [oF,eE,cx]
theorem s3 (s:dG)(v:Int×Int):OG (eE s v).A=OG s.A:=by grind [eE]
theorem oH (s:dG)(v:Int×Int):(eE s v).hd=s.hd/\(eE s v).m=s.m:=by grind [eE]
theorem JM (s:dG)(v:Int×Int){x:Int}(h:x∈s.td):x∈(eE s v).td:=by grind [eE]
theorem JN (s:dG)(v:Int×Int)(hv:v.1=3->0<=v.2){k:Nat}(h:cx (eE s v).A k):cx s.A k\/(k:Int)∈(eE s v).td:=by grind [eE,eM,cx]
theorem kD (s:dG)(l:List _):(dz s l).hd=s.hd/\(dz s l).m=s.m/\OG (dz s l).A=OG s.A:=by
 induction l generalizing s with
 |nil=>exact⟨rfl,rfl,rfl⟩
 |cons v l b=>
  have h:=b (eE s v)
  exact⟨h.1.trans (oH s v).1,h.2.1.trans (oH s v).2,h.2.2.trans (s3 s v)⟩
theorem mA (s:dG)(l:List _){k:Nat}(h:cx s.A k):cx (dz s l).A k:=by
 induction l generalizing s with
 |nil=>exact h
 |cons v l b=>exact b (eE s v) (qY s v h)
theorem JO (s:dG)(l:List _){x:Int}(h:x∈s.td):x∈(dz s l).td:=by
 induction l generalizing s with
 |nil=>exact h
 |cons v l b=>exact b (eE s v) (JM s v h)
theorem wD (s:dG)(l:List _)(hl:∀v∈l,v.1=3->K v.2<OG s.A):∀v∈l,v.1=3->cx (dz s l).A (K v.2):=by
 induction l generalizing s with
 |nil=>grind
 |cons u l b=>
  intro v hv c;rcases List.mem_cons.1 hv with e|hv
  ·exact mA (eE s u) l (by grind [wC])
  ·exact b (eE s u) (by grind [s3]) v hv c
theorem JP (s:dG)(l:List _)(hl:∀v∈l,v.1=3->0<=v.2){k:Nat}(h:cx (dz s l).A k):cx s.A k\/(k:Int)∈(dz s l).td:=by
 induction l generalizing s with
 |nil=>exact aK h
 |cons v l b=>
  rcases b (eE s v) (by grind) h with c|c
  ·rcases JN s v (by grind) c with c|c
   ·grind
   ·exact aI (JO (eE s v) l c)
  ·exact aI c
theorem qX.mono {s d:dG}{P e:Int->Prop}{i:Nat}(h:qX T wt s P i)(f:∀k,cx s.A k->cx d.A k)(j:∀x:Int,0<=x->cx d.A (K x)->¬cx s.A (K x)->e x)(l:∀x,P x->e x)(m:∀x v,v∈s.hd x->v∈d.hd x)(h0:(U T i t0).1=4->(U (U T i t0).2.1 0 (0,0)).1=3->0<=(U (U T i t0).2.1 0 (0,0)).2):qX T wt d e i:=by
 refine⟨λhk v hv g=>f _ (h.1 hk v hv g),λhk=>?_⟩
 rcases h.2 hk with⟨a,b,c⟩|a
 all_goals grind
theorem m3 (b:e9 T wt){i:Nat}(hi:cz T i)(hk:(U T i t0).1=4)(j:Nat)(c:j<2):(U (U T i t0).2.1 j (0,0)).1=3->0<=(U (U T i t0).2.1 j (0,0)).2/\cz T (K (U (U T i t0).2.1 j (0,0)).2):=λd=>
 b.fv i hi _ (fL ((b.fl i hi (aI hk)▸c))) d
theorem wE {s:dG}{v:Int×Int}(h:eM s.A v=C):eE s v=s:=by grind [eE]
theorem s7 {s:dG}{v:Int×Int}(h:eM s.A v=OU):eE s v={s with A:=s.A.set (K v.2) C,td:=s.td++[v.2]}:=by grind [eE]
theorem ft.mark (h:ft T wt is s E)(e:e9 T wt)(v:Int×Int)(hv:v.1=3->0<=v.2/\cz T (K v.2))(l:v.1=3->∀X,iJ T wt X->(∀k,cx is k->X k)->X (K v.2)):ft T wt is (eE s v) E:=by
 cases hi:eM s.A v
 ·obtain⟨c,m⟩:=oE hi;obtain⟨v0,f⟩:=hv c;have hl:K v.2<OG s.A:=(h.len▸f.1)
  have n:∀k,cx (eE s v).A k↔K v.2=k\/cx s.A k:=λk=>by grind [s7,cx]
  have g:∀x,x∈(eE s v).td↔x∈s.td\/x=v.2:=λx=>by grind [s7]
  refine⟨(s3 s v).trans h.len,λk hk=>?_,λX hX hb k hk=>?_,λx b=>?_,λx u j=>?_,λi o hn=>?_⟩
  ·grind [al]
  ·grind [lt]
  ·rcases b with b|b
   ·exact⟨(h.td x (by grind)).1,qY s v (h.td x (by grind)).2⟩
   ·rcases(g x).1 b with b|b
    ·exact⟨(h.td x (by grind)).1,qY s v (h.td x (by grind)).2⟩
    grind
  ·rw[(oH s v).1] at j
   grind [hd]
  ·have d:cx s.A i:=by grind
   refine(h.dp i d (by grind)).mono (by grind) (λx p ha hb=>?_) (by grind) (by grind [oH]) (λhk c=>(m3 e (h.al i d) hk 0 ae c).1)
   grind
 grind [wE]
theorem ft.marks (h:ft T wt is s E)(c:e9 T wt)(l:List _)(hv:∀v∈l,v.1=3->0<=v.2/\cz T (K v.2))(d:∀v∈l,v.1=3->∀X,iJ T wt X->(∀k,cx is k->X k)->X (K v.2)):ft T wt is (dz s l) E:=by
 induction l generalizing s with
 |nil=>exact h
 |cons v l b=>exact b (by grind [mark]) (by grind) (by grind)
theorem BF (s:dG)(v:Int×Int)(hv:v.1=3->K v.2<OG s.A):OG (eE s v).td+cnt (eE s v).A=OG s.td+cnt s.A:=by
 cases hi:eM s.A v
 ·obtain⟨b,c⟩:=oE hi;have d:=wz s.A (K v.2) (by simp_all)
  rw[s7 hi]
  grind
 ·rw[wE hi]
theorem qZ (s:dG)(l:List _)(hl:∀v∈l,v.1=3->K v.2<OG s.A):OG (dz s l).td+cnt (dz s l).A=OG s.td+cnt s.A:=by
 induction l generalizing s with
 |nil=>rfl
 |cons v l b=>exact(b (eE s v) (by grind [s3])).trans (BF s v (by grind))
theorem ft.pop {t:List Int}{x:Int}(h:ft T wt is s [])(b:e9 T wt)(e:s.td=t++[x]):ft T wt is {s with td:=t} [x]:=by
 have hm:∀y,(y∈[x]\/y∈t)↔(y∈([]:List Int)\/y∈s.td):=λy=>by grind
 exact⟨h.len,h.al,h.lt,λy hy=>h.td y (by grind),h.hd,λi hi hn=>(h.dp i hi (by grind)).mono (by grind) (by grind) (by grind) (by grind) (λhk c=>(m3 b (h.al i hi) hk 0 ae c).1)⟩
theorem ft.hold {i n:Nat}{x:Int}{u:Int×Int}(h:ft T wt is s E)(c:e9 T wt)(hi:cx s.A i)(hk:(U T i t0).1=4)(h0:U (U T i t0).2.1 0 (0,0)=(3,x))(e:U (U T i t0).2.1 1 (0,0)=u):
 ft T wt is {s with hd:=λy=>if y=x then s.hd y++[u] else s.hd y,m:=n} E:=by
 refine⟨h.len,h.al,h.lt,h.td,λy v hv=>?_,λj b hn=>(h.dp j b hn).mono (by grind) (by grind) (by grind) (λy v hv=>?_) (λhk d=>(m3 c (h.al j b) hk 0 ae d).1)⟩
 all_goals grind [hd]
theorem ft.drop {i:Nat}(h:ft T wt is s [(i:Int)])(f:¬(i:Int)∈s.td->qX T wt s (λx=>x∈s.td) i)(g:∀v∈s.hd i,v.1=3->cx s.A (K v.2)):ft T wt is s []:=by
 refine⟨h.len,h.al,h.lt,λx k=>h.td x (by grind),h.hd,λj d hn=>?_⟩
 have hn:_:=λc=>hn (aI c)
 by_cases e:j=i
 ·simp_all
 ·have:=h.dp j d (by grind)
  refine⟨this.1,λhk=>?_⟩
  rcases this.2 hk with⟨a,b,c⟩|a
  all_goals grind
theorem wF {i x:Int}:x∈eR wt i↔(∃e∈wt,e.1=i/\x=e.2):=by simp_all [eR]
theorem ft.list {i:Nat}(h:ft T wt is s [(i:Int)])(c:e9 T wt)(hi:cx s.A i)(l:List _)(hl:∀v∈l,jH T wt (cx s.A) i v):ft T wt is (dz s l) [(i:Int)]/\∀v∈l,v.1=3->cx (dz s l).A (K v.2):=
 ⟨h.marks c l (λv hv b=>c.qW (h.al i hi) (hl v hv) b) (λv hv b X hX hb=>hX i (h.al i hi).1 (by grind [lt]) v (by grind [jH.mono,lt]) b),
  wD s l (λv hv b=>(h.len▸(c.qW (h.al i hi) (hl v hv) b).2.1))⟩
theorem ft.free {i:Nat}(h:ft T wt is s [(i:Int)])(f:e9 T wt)(hi:cx s.A i):ft T wt is (dz s (s.hd i)) [(i:Int)]/\(∀v∈s.hd i,v.1=3->cx (dz s (s.hd i)).A (K v.2))/\(∀v∈s.hd i,v.1=3->0<=v.2/\K v.2<OG s.A):=by
 have ho:∀v∈s.hd i,v.1=3->0<=v.2/\cz T (K v.2):=λv hv d=>by obtain⟨j,a,b,c,e⟩:=h.hd _ _ hv;rw[e] at d⊢;exact m3 f (h.al j a) b 1 ae d
 refine⟨h.marks f _ ho (λv hv d X hX hb=>?_),wD s _ (λv hv d=>(h.len▸(ho v hv d).2.1)),λv hv d=>⟨(ho v hv d).1,(h.len▸(ho v hv d).2.1)⟩⟩
 obtain⟨j,a,b,c,e⟩:=h.hd _ _ hv;refine hX j (h.al j a).1 (by grind [lt]) v (aI (aI (aK ⟨b,λ_=>?_,e⟩))) d
 grind [lt]
structure BG (T:List cH)(wt:List b8)(is:List Bool)(s s':dG):Prop where
 mi:ft T wt is s' []
 mm:s'.m<=s.m+1
 td:OG s'.td+cnt s'.A=OG s.td+cnt s.A
 up:∀k,cx s.A k->cx s'.A k
theorem s8 {i:Nat}(h:ft T wt is s [(i:Int)])(b:e9 T wt)(hi:cx s.A i)(hk:(U T i t0).1≠4)(l:List _)(d:∀v∈l,jH T wt (cx s.A) i v)(f:∀v,jH T wt (λ_=>True) i v->v∈l):
 BG T wt is s (dz (dz s l) ((dz s l).hd i)):=by
 obtain⟨a1,a2⟩:=h.list b hi l d;obtain⟨b1,b2,b3⟩:=a1.free b (mA s l hi)
 refine⟨b1.drop (λ_=>⟨λ_ v hv e=>(by grind [mA]),λc=>aa⟩) (λv hv=>?_),?_,?_,λk hk=>(by grind [mA])⟩
 ·grind [kD]
 ·grind [kD]
 ·rw[qZ _ _ (by grind),qZ _ _ (λv hv e=>by rw[h.len];exact(b.qW (h.al i hi) (d v hv) e).2.1)]
theorem ft.look {i:Nat}(h:ft T wt is s [(i:Int)])(b:e9 T wt)(hi:cx s.A i):BG T wt is s (ig T wt s i):=by
 have f:=h.al i hi;unfold ig hV;rw[Int.toNat_natCast];by_cases k1:(U T i t0).1=1\/(U T i t0).1=2
 ·rw[aM k1];refine s8 h b hi aa _ (λv hv=>aK ⟨k1,hv⟩) (λv hv=>?_)
  rcases hv with c|c|c|c
  all_goals grind
 rw[aJ k1];by_cases k3:(U T i t0).1=3
 ·rw[aM k3];refine s8 h b hi aa [_] (λv hv=>aI (aK ⟨k3,by simpa using hv⟩)) (λv hv=>?_)
  rcases hv with c|c|c|c
  all_goals grind
 rw[aJ k3];by_cases k4:(U T i t0).1=4
 ·rw[aM k4];unfold mz;cases hk:eM s.A _
  ·obtain⟨q3,q⟩:=oE hk;rw[aJ ae];have g:U (U T i t0).2.1 0 (0,0)=(3,(U (U T i t0).2.1 0 (0,0)).2):=by rw[<-q3]
   obtain⟨b1,b2,b3⟩:=(h.hold (n:=s.m+1) b hi k4 g rfl).free b hi;refine⟨b1.drop (λ_=>⟨λc=>absurd k4 c,λ_=>aK ⟨q3,?_,?_⟩⟩) (λv hv=>?_),?_,?_,λk hk=>mA _ _ hk⟩
   ·by_cases c:cx (dz {s with hd:=λy=>if y=(U (U T i t0).2.1 0 (0,0)).2 then s.hd y++[U (U T i t0).2.1 1 (0,0)] else s.hd y,m:=s.m+1} ((λy=>if y=(U (U T i t0).2.1 0 (0,0)).2 then s.hd y++[U (U T i t0).2.1 1 (0,0)] else s.hd y) (i:Int))).A (K (U (U T i t0).2.1 0 (0,0)).2)
    ·right;rcases JP _ _ (by grind) c with c|c
     ·grind [cx]
     grind [m3]
    ·exact aK c
   ·grind [kD]
   ·grind [kD]
   ·simp[kD]
   grind [qZ]
  ·rw[aM rfl];have d:∀v∈[U (U T i t0).2.1 1 (0,0)],jH T wt (cx s.A) i v:=λv hv=>aI (aI (aK ⟨k4,λc=>oF hk c,by simpa using hv⟩))
   obtain⟨a1,a2⟩:=h.list b hi _ d;obtain⟨b1,b2,b3⟩:=a1.free b (mA s _ hi)
   refine⟨b1.drop (λ_=>⟨λc=>absurd k4 c,λ_=>(by grind [mA])⟩) (λv hv=>?_),?_,?_,λk hk=>mA _ _ (mA s [_] hk)⟩
   ·grind [kD]
   ·grind [kD,dz]
   ·rw[show eE s (U (U T i t0).2.1 1 (0,0))=dz s [U (U T i t0).2.1 1 (0,0)] from rfl];rw[qZ _ _ (by grind),qZ _ _ (λv hv j=>by rw[h.len];exact(b.qW f (d v hv) j).2.1)]
 rw[aJ k4];by_cases k5:(U T i t0).1=5
 ·rw[aM k5];refine s8 h b hi k4 _ (λv hv=>?_) (λv hv=>?_)
  ·obtain⟨x,l,rfl⟩:=bR.1 hv;obtain⟨e,o,p,rfl⟩:=wF.1 l;exact aI (aI (aI ⟨k5,e,o,p,rfl⟩))
  ·rcases hv with c|c|c|c
   ·exact absurd c.1 aa
   ·exact absurd c.1 aa
   ·exact absurd c.1 aa
   grind [wF]
 ·rw[aJ k5];refine s8 h b hi k4 [] (λv hv=>by cases hv) (λv hv=>?_)
  rcases hv with c|c|c|c
  all_goals omega
theorem ft.done (h:ft T wt is s [])(e:s.td=[])(hl:OG is=OG T)(d:∀k,cx is k->cx s.A k):pK T wt is s.A:=by
 refine⟨(by grind [len]),d,λi _ hX v hv f=>?_,h.lt⟩
 have hd:=h.dp i hX (by grind)
 by_cases k4:(U T i t0).1=4
 ·rcases hv with c|c|c|c
  ·omega
  ·omega
  ·rcases hd.2 k4 with⟨a,b,_⟩|a
   all_goals grind
  omega
 ·exact hd.1 k4 v (by grind [jH.mono]) f
theorem ft.base (h:ft T wt is s []){b:List Bool}(c:∀k,cx s.A k->cx b k):ft T wt b s []:=⟨h.len,h.al,λ_ _ hb k hk=>(by grind),h.td,h.hd,h.dp⟩
theorem ft.start (T:List cH)(wt:List b8)(is:List Bool):ft T wt is ⟨aZ (OG T) OU,[],λ_=>[],0⟩ []:=by
 have hn:∀k,¬cx (aZ (OG T) OU) k:=λk hk=>by grind [cx]
 exact⟨ac,λk hk=>(by grind),λ_ _ _ k hk=>(by grind),λx b=>(by grind),λx v hv=>(by grind),λi hi=>(by grind)⟩
end
def hld (v:a7):Option (DataW a7×List MemPlace):=H (.held v,[])
theorem q6:Maps.Keyed O 2:=Maps.int_keyed underlying2
theorem wG {a:Int}(h0:0<=a)(b:a<1152921504606846976):keyOf O 2 (.int R a)=H (.int R a):=Maps.keyOf_int_mk underlying2 (WalkArith.wf_i64 aa)
def q7 (D:DataW a7)(f:Int->Option a7):Prop:=∀x:Int,Maps.has D (.int R x)=(f x).isSome/\∀v,f x=H v->∀z,D.atKey (.int R x) z=.held v
def eS (w:az)(b n:Nat)(f:Int->Option a7):Prop:=∃D,w.ownsMap O 2 hld b n D/\q7 D f
def kE (f:Int->Option a7)(x:Int)(v:a7):Int->Option Value:=λy=>if y=x then H v else f y
def hK (w:az)(b r n:Nat)(f:Int->Option a7)(left:Int->Bool)(c:Nat):Prop:=∃D L,w.ranges O 2 hld b r n D L c/\q7 D f/\∀x:Int,L (.int R x)=left x
section
variable {w w':az}{b r n c:Nat}{f:Int->Option a7}{t e:bI}{left:Int->Bool}
theorem eS.made (w:az):eS (bu w (.map #[] 0)) (I (G w)) 0 (λ_=>Y):=⟨_,World.ownsMap_made w O 2 hld,λ_=>⟨rfl,λ_ h=>by grind⟩⟩
theorem eS.lt (h:eS w b n f):b<I (G w):=let⟨_,h,_⟩:=h;h.lt
theorem eS.same (h:eS w b n f)(e:w'.heap[b]?=w.heap[b]?):eS w' b n f:=by obtain⟨D,⟨es,c,hb,r⟩,hD⟩:=h;exact⟨D,⟨es,c,e.trans hb,r⟩,hD⟩
theorem eS.cX (h:eS w b n f):∃es k,w.heap[b]?=H (.map es k):=let⟨_,⟨es,k,hb,_⟩,_⟩:=h;(by grind)
theorem eS.put (h:eS w b n f)(ht:prog.underlying t=H (.map 2 e))(hn:n<100000){x:Int}(h0:0<=x)(g:x<1152921504606846976)(v:a7):
 ∃w',(Instr.mapUpdate t (.map (H b)) (ak x) v).run O w=sQ () w'/\eS w' b (n+1) (kE f x v)/\w.grownBy w' (H b):=by
 obtain⟨D,h,hD⟩:=h;obtain⟨w',r1,i,r3⟩:=h.update q6 ht (by unfold maxLen;omega) (wG h0 g) rfl;refine⟨w',r1,⟨_,i,λy=>?_⟩,r3⟩
 unfold kE;by_cases d:y=x
 ·subst d;rw[aM rfl];exact⟨Maps.has_put_same (k:=.int R y) h.isMap trivial _,λu c z=>by cases c;exact Maps.atKey_put_same (k:=.int R y) h.isMap trivial _ _⟩
 ·rw[aJ d,Maps.has_put_other (by grind)];exact⟨(hD y).1,λu c z=>by rw[Maps.atKey_put_other (by grind)];exact(hD y).2 u c z⟩
theorem q7.val {D:DataW a7}(hD:q7 D f){x:Int}{z v:a7}{ps:List MemPlace}(h:hld v=H (D.atKey (.int R x) (.held z),ps)):v=(f x).getD z:=by
 have b:=(Prod.mk.inj (j3 h)).1;cases hf:f x with
 |none=>
  rw[Maps.atKey_of_not_has (by rw[(hD x).1,hf];rfl)] at b
  grind
 |some u=>
  rw[(hD x).2 u hf] at b
  grind
theorem eS.look (h:eS w b n f)(ht:prog.underlying t=H (.map 2 e)){z:a7}(hz:(zeroValue e).run O w=.ok z w){x:Int}(h0:0<=x)(c:x<1152921504606846976):
 (Instr.lookup t (.map (H b)) (ak x) OU).run O w=.ok ((f x).getD z) w:=by
 obtain⟨D,h,hD⟩:=h;obtain⟨v,ps,r1,d⟩:=h.lookup q6 ht hz rfl (wG h0 c)
 grind [q7.val]
theorem eS.look_ok (h:eS w b n f)(ht:prog.underlying t=H (.map 2 e)){z:a7}(hz:(zeroValue e).run O w=.ok z w){x:Int}(h0:0<=x)(c:x<1152921504606846976):
 (Instr.lookup t (.map (H b)) (ak x) C).run O w=.ok (ay #[(f x).getD z,.bool (f x).isSome]) w:=by
 obtain⟨D,h,hD⟩:=h;obtain⟨v,ps,r1,d⟩:=h.look_ok q6 ht hz rfl (wG h0 c)
 rw[r1,hD.val d,(hD x).1]
theorem hK.oI (h:hK w b r n f left c):eS w b n f:=let⟨D,_,h,d,_⟩:=h;⟨D,h.owns,d⟩
theorem hK.left_eq (h:hK w b r n f left c):w.rangeLeft b r=c:=let⟨_,_,h,_⟩:=h;h.left_eq
theorem hK.lt (h:hK w b r n f left c):r<I (G w):=let⟨_,_,h,_⟩:=h;h.lt
theorem hK.same (h:hK w b r n f left c)(hb:w'.heap[b]?=w.heap[b]?)(hr:w'.heap[r]?=w.heap[r]?):hK w' b r n f left c:=by obtain⟨D,L,⟨es,d,e,seen,c0,g,i,j,k,l,m⟩,q⟩:=h;exact⟨D,L,⟨es,d,e,seen,c0,hb.trans g,i,j,k,hr.trans l,m⟩,q⟩
theorem eS.range (h:eS w b n f)(ht:prog.underlying t=H (.map 2 e)):
 ∃w' c,(Instr.range t (.map (H b))).run O w=sQ (aq (I (G w))) w'/\hK w' b (I (G w)) n f (λx=>(f x).isSome) c/\w.grownBy w' Y/\I (G w')=I (G w)+1:=by
 obtain⟨D,h,hD⟩:=h;obtain⟨w',r1,d,r3,g⟩:=h.range q6 ht;exact⟨w',_,r1,⟨D,_,d,hD,λx=>(hD x).1⟩,r3,g⟩
theorem hK.next (h:hK w b r n f left c)(ty:bI):(c=0/\(∀x,left x=OU)/\(Instr.next (aq r) OU ty).run O w=sQ (ay #[.bool OU]) w)\/
 ∃x v w' d,left x=C/\f x=H v/\(Instr.next (aq r) OU ty).run O w=sQ (ay #[.bool C,ak x,v]) w'/\
  hK w' b r n f (λy=>left y&&!(y==x)) d/\d<c/\w.grownBy w' (H r)/\I (G w')=I (G w)/\(Instr.entry (aq r)).run O w'=sQ (ay #[ak x,v]) w':=by
 obtain⟨D,L,h,hD,g⟩:=h;rcases h.next q6 ty with⟨h0,hl,i⟩|⟨key,v,B,y,w',d,k,l,hv,j,i,m,o,p,q,s⟩
 ·grind
 ·obtain⟨x,rfl,rfl,F⟩:=Maps.keyOf_int_inv underlying2 k;have hy:y.1=.held v:=by cases hv;rfl
  have t:f x=H v:=by
   cases hf:f x with
   |none=>
    have e:=j (.lit (.int R 0))
    rw[Maps.atKey_of_not_has (by rw[(hD x).1,hf];rfl),hy] at e
    grind
   |some u=>
    have e:=j (.lit (.int R 0))
    rw[(hD x).2 u hf,hy] at e
    grind
  refine aI ⟨x,v,w',d,(g x).symm.trans l,t,i,⟨D,_,m,hD,λz=>?_⟩,o,p,q,s⟩
  rw[g z,show(Lit.int R z).sameKey (.int R x)=(z==x) from(by show decide _=_;grind)]
end
def ih (v:Int×Int):Int:=ew v.1 v.2
def fG (T:List cH)(v:Int×Int):Prop:=vc v.1 v.2=0/\(v.1=3->0<=v.2/\cz T (K v.2))
theorem fG.lt {T:List cH}{v:Int×Int}(h:fG T v)(b:v.1=3):0<=v.2/\v.2<OG T:=by obtain⟨h0,c⟩:=h.2 b;have:=c.1;omega
def tI (n:Nat):List Int:=(List.range n).map (λi:Nat=>(i:Int))
theorem q8 {n:Nat}{a:Int}:a∈tI n↔0<=a/\a<n:=by
 unfold tI;simp only [bR,List.mem_range];constructor
 ·omega
 ·rintro⟨h0,b⟩
  exact⟨K a,aa,aa⟩
theorem oJ (n:Nat):OG (tI n)=n:=by simp[tI]
def iu (T:List cH)(a:Int):Int:=(U T (K a) t0).1
def iw (T:List cH)(wt:List b8)(a:Int):List Int:=((U T (K a) t0).2.1.map ih)++(if(U T (K a) t0).1=5 then(wt.filter (λe=>e.1==a)).map (λe=>ew 3 e.2) else[])
structure kF (T:List cH)(wt:List b8):Prop where
 fv:∀i,cz T i->∀v∈(U T i t0).2.1,fG T v
 wv:∀e∈wt,0<=e.1/\0<=e.2/\cz T (K e.2)
 tl:∀i,OG (U T i t0).2.1<=12
 l1:OG T<=10000
 l2:OG wt<=10000
section
variable {T:List cH}{M:cT->Int->cT}{s:cT}{v:Int×Int}
theorem pL (h:fG T v):dk (ih v)=v.1/\dp (ih v)=v.2:=(rI _ _ h.1).2
theorem JQ (h:fG T v)(b:v.1≠3):eg M (tI (OG T)) s (ih v)=(v,s):=by grind [pL,eg]
theorem JR (h:fG T v)(b:v.1=3)(hs:s.1.contains v.2=C):eg M (tI (OG T)) s (ih v)=((3,(s.1.idxOf v.2:Int)),s):=by unfold eg;rw[(pL h).1,(pL h).2,aM b,aM (bS.2 (q8.2 (h.lt b))),aM hs]
theorem JS (h:fG T v)(b:v.1=3)(hs:s.1.contains v.2=OU):eg M (tI (OG T)) s (ih v)=((3,(OG s.1:Int)),M s v.2):=by unfold eg;rw[(pL h).1,(pL h).2,aM b,aM (bS.2 (q8.2 (h.lt b))),aJ (by grind)]
end
def ee.eT (T:List cH)(wt:List b8)(l:List (Int×Int)):List (Int×Int)×cT:=dE (met (tI (OG T)) (iu T) (iw T wt) (OG T)) (tI (OG T)) ([],[]) (l.map ih)
def s9 (T:List cH)(x:Int):Bool:=decide (0<=x)&&(decide (K x<OG T)&&!(U T (K x) t0).2.2.2)
theorem BH {T:List cH}{x:Int}:s9 T x=C↔0<=x/\cz T (K x):=by grind [s9,cz]
theorem JT {T:List cH}{x:Int}(h:¬(0<=x/\cz T (K x))):s9 T x=OU:=by grind [BH]
abbrev Fm:=Nat->Option bB×Nat
abbrev e_ (T:List cH)(fm:Fm)(i:Nat):Value:=Z (fm i).1 (OG (U T i t0).2.1) (fm i).2
abbrev gU (T:List cH)(fm:Fm)(i:Nat):Value:=bz #[ak (U T i t0).1,e_ T fm i]
def iR (T:List cH)(fm:Fm)(x:Int):Option Value:=if s9 T x=C then H (gU T fm (K x)) else Y
theorem kh {T:List cH}{fm:Fm}{x:Int}(h:0<=x/\cz T (K x)):iR T fm x=H (gU T fm (K x)):=by grind [BH,iR]
theorem nE {T:List cH}{fm:Fm}{x:Int}(h:¬(0<=x/\cz T (K x))):iR T fm x=Y:=by grind [JT,iR]
structure ii where
 own:Nat->Nat
 mb:Nat
 bp:Nat
 rb:Nat
 fm:Fm
 fY:Nat
 n:Nat
 a0:Option bB
 k0:Nat
 a1:Option bB
 k1:Nat
structure G2 (l:ii)(T:List cH)(w:az):Prop where
 mp:eS w l.mb l.n (iR T l.fm)
 mn:l.n<=OG T
 dy:l.own l.mb=2
 fl:∀i,cz T i->aC w 0 139 2 (e_ T l.fm i) (OG (U T i t0).2.1) (ev (U T i t0).2.1)
 fB:∀i,cz T i->∀k,H k=OY (e_ T l.fm i)->l.own k=10+i
 fY:∀i,cz T i->(U T i t0).2.2.1=decide (i<l.fY)
 al:l.fY<=OG T
structure G3 (l:ii)(r q:List b8)(w:az):Prop where
 sd:fE w l.bp l.a0 l.k0 l.a1 l.k1 r q
 so:l.own l.bp=3
 ro:∀k,H k=OY (Value.slice l.a0 (OG r) l.k0)->l.own k=5
 nF:∀k,H k=OY (Value.slice l.a1 (OG q) l.k1)->l.own k=6
structure G4 (l:ii)(rs:List (Int×Int))(w:az):Prop where
 rt:w.heap[l.rb]?=H (ON (ev rs).toArray 139 (0,0))
 rl:OG rs=12
 ro:l.own l.rb=4
structure dO (b7:Nat)(ce grow:Int)(l:ii)(s:cj)(w:az):Prop where
 cX:w.heap[b7]?=H (ON #[ak ce,ak grow,.map (H l.mb),ak (OG s.T),ak l.fY,aq l.bp,Z (au l.rb) 12 12] 200 (0,0))
 bo:l.own b7=1
 g2:G2 l s.T w
 g3:G3 l s.rg s.wt w
 g4:G4 l s.rs w
 lt:∀b,l.own b≠0->b<I (G w)
section
variable {b7:Nat}{ce grow:Int}{l:ii}{s:cj}{w w':az}{T:List cH}{r q:List b8}{rs:List (Int×Int)}
theorem G2.keep (h:G2 l T w)(hk:∀b,l.own b=2\/10<=l.own b->w'.heap[b]?=w.heap[b]?):G2 l T w':=
 {
  h with
  mp:=h.mp.same (hk _ (aK h.dy))
  fl:=λi hi=>cK (h.fl i hi) (by grind [fB])}
theorem G3.keep (h:G3 l r q w)(hk:∀b,l.own b=3\/l.own b=5\/l.own b=6->w'.heap[b]?=w.heap[b]?):G3 l r q w':=
 {h with sd:=h.sd.keep (hk _ (aK h.so)) (by grind [ro]) (by grind [nF])}
theorem G4.keep (h:G4 l rs w)(hk:∀b,l.own b=4->w'.heap[b]?=w.heap[b]?):G4 l rs w':={h with rt:=(by grind [ro,rt])}
theorem dO.keep (h:dO b7 ce grow l s w)(hs:I (G w)<=I (G w'))(hk:∀b,l.own b≠0->w'.heap[b]?=w.heap[b]?):dO b7 ce grow l s w':=
 {
  cX:=(by grind [bo,cX])
  bo:=h.bo
  g2:=h.g2.keep (by grind)
  g3:=h.g3.keep (by grind)
  g4:=h.g4.keep (by grind)
  lt:=λb hb=>aL (h.lt b hb) hs}
end
def cG (b7:Nat)(ce grow:Int)(rb:Nat):dr cj where
 J F s w:=∃l,dO b7 ce grow l s w/\l.rb=rb/\∀b,F b↔l.own b≠0
 lt:=by rintro F s w ⟨l,h,_,c⟩ b hb;exact h.lt b ((c b).1 hb)
 keep:=by rintro F s w w' ⟨l,h,hr,c⟩ hs hk;exact⟨l,h.keep hs (λb hb=>hk b ((c b).2 hb)),hr,c⟩
section
variable {b7:Nat}{ce grow:Int}{l:ii}{s:cj}{w w':az}
theorem dO.below (h:dO b7 ce grow l s w)(hb:J (I (G w)) w w'):dO b7 ce grow l s w':=(by grind [keep,lt,Below.size,Below.block])
theorem dO.cells (h:dO b7 ce grow l s w):V w (av b7 0)=H (ak ce)/\V w (av b7 1)=H (ak grow)/\V w (av b7 2)=H (.map (H l.mb))/\V w (av b7 3)=H (ak (OG s.T))/\V w (av b7 4)=H (ak l.fY)/\
 V w (av b7 5)=H (aq l.bp)/\V w (av b7 6)=H (Z (au l.rb) 12 12)/\(∀o,bF w (av b7 o)=OU)/\b7<I (G w):=by
 have b:=h.cX;refine⟨?_,?_,?_,?_,?_,?_,?_,λo=>by simp[World.frozen?,b],ck b⟩<;>simp[World.cell?,b]
theorem dO.JU {rb:Nat}(h:dO b7 ce grow l s w)(e:V w (av b7 6)=H (Z (au rb) 12 12)):l.rb=rb:=by
 have c:=h.cells.2.2.2.2.2.2.1
 grind
theorem G4.cells {rs:List _}(h:G4 l rs w):l.rb<I (G w)/\OG rs=12/\
 (∀i,i<12->V w (av l.rb (i*2))=H (ak (U rs i (0,0)).1)/\V w (av l.rb (i*2+1))=H (ak (U rs i (0,0)).2)/\bF w (av l.rb (i*2))=OU/\bF w (av l.rb (i*2+1))=OU):=by
 have b:=h.rt;have hl:=h.rl;refine⟨ck b,hl,λi hi=>?_⟩
 obtain⟨c,d⟩:=o7 rs i aa;refine⟨?_,?_,by simp[World.frozen?,b],by simp[World.frozen?,b]⟩
 ·simp[World.cell?,b];assumption
 ·simp[World.cell?,b];assumption
end
theorem nG (w:az):(zeroValue 271).run O w=sQ (bz #[ak 0,Z Y 0 0]) w:=by kernel_rfl
theorem jy (w:az)(a o:Obj):((w.alloc a).alloc o).heap[I (G w)+1]?=H o:=by grind [aO,bh]
theorem dt {w:az}{p:Nat}{a b:a7}{T:bI}(h:w.heap[p]?=H (ON #[a,b] T (0,0))):V w (av p 0)=H a/\V w (av p 1)=H b/\(∀o,bF w (av p o)=OU)/\p<I (G w):=
 ⟨by simp[World.cell?,h],by simp[World.cell?,h],λo=>by simp[World.frozen?,h],ck h⟩
section
variable {b7:Nat}{ce grow:Int}{l:ii}{s:cj}{w:az}
theorem wH (v:Int×Int)(hv:v.1≠3):
 OS O 202 #[aq b7,bz #[ak v.1,ak v.2]] w λe w'=>e=Q (ay #[bz #[ak 0,Z Y 0 0],bA OU])/\J (I (G w)) w w':=by
 go_wp2;exact a3 (by simp[results,results202,go_sem]) rfl ⟨rfl,(bZ.alloc bY _).alloc ac _⟩
theorem s_ (h:dO b7 ce grow l s w)(x:Int)(b:0<=x/\cz s.T x.toNat)(c:OG s.T<=10000):
 OS O 202 #[aq b7,.agg #[ak 3,ak x]] w λe w'=>e=Q (ay #[gU s.T l.fm x.toNat,.bool C])/\J (I (G w)) w w':=by
 obtain⟨_,_,c2,_,_,_,_,_,d⟩:=h.cells;have hl:x<10000:=by have:=b.2.1;omega
 have L:∀W,J (I (G w)) w W->(Instr.lookup 194 (.map (H l.mb)) (ak x) C).run O W=.ok (ay #[gU s.T l.fm x.toNat,.bool C]) W:=λW hb=>by
  have:=(h.below hb).g2.mp.look_ok (t:=194) (e:=271) underlying194 (nG W) (x:=x) b.1 aa
  grind [kh]
 have b1:J (I (G w)) w ((w.alloc (ON #[OP R 3,OP R x] 139)).alloc (ON #[OP R 0,.slice Y 0 0] 271)):=(by simp_all [Below.alloc,Below.refl])
 have k:=(b1.cell (p:=av b7 2) d).trans c2;have m:V ((w.alloc (ON #[OP R 3,OP R x] 139)).alloc (ON #[OP R 0,.slice Y 0 0] 271)) (av (I (G w)) 1)=H (ak x):=by simp[go_sem]
 have hn:=jy w (ON #[OP R 3,OP R x] 139) (ON #[OP R 0,.slice Y 0 0] 271)
 clear h c;dsimp only [gU,e_] at L⊢;generalize (s.T.getD x.toNat t0).1=kd at*;generalize OG (s.T.getD x.toNat t0).2.1=n at*;generalize (l.fm x.toNat).1=ad at*;generalize (l.fm x.toNat).2=cp at*;clear b;go_enter func202,ntmps202;go_wp2_with fail;generalize (w.alloc (ON #[OP R 3,OP R x] 139)).alloc (ON #[OP R 0,.slice Y 0 0] 271)=W at*;obtain⟨o,q,u,lw⟩:=dt hn;have f:aA (_=_):=hn;have g:aA (J (I (G w)) w W):=b1;have i:=L _ b1.drew;have j:=L _ (b1.alloc b1.size (ON #[OP R 0,.slice Y 0 0] 271)).drew;clear L b1 hn
 go_region_held3 (λw'=>V w' (av b7 2)=H (.map (H l.mb))/\V w' (av (I (G w)) 1)=H (ak x)) (go_keep) (fail)
 all_goals
  clear i j;go_wp2_with fail;have hs:=g.o.size;obtain⟨r0,r1,_,_⟩:=dt ((aU _ (ON #[OP R kd,.slice ad n cp] 271) _ (by simpa using lw)).trans (h_ (v1:=ak kd) (v2:=.slice ad n cp) f.o))
  exact a3 (v:=ay #[.agg #[ak kd,.slice ad n cp],.bool C]) (by simp[results,results202,go_sem,r0,r1]) rfl (by grind [Below.drew,Below.alloc,Below.setCell,Hid.out,World.size_setCell])
theorem BI (h:dO b7 ce grow l s w)(v:Int×Int)(hv:v.1=3->0<=v.2/\cz s.T (K v.2))(d:OG s.T<=10000):
 OS O 203 #[aq b7,bz #[ak v.1,ak v.2]] w λe w'=>e=Q (bA (jx s.T v))/\J (I (G w)) w w':=by
 obtain⟨k,x⟩:=v;by_cases c:k=3
 ·subst c;have P:=s_ (h.below ((aH _ w).alloc bY (ON #[OP R 3,OP R x] 139))) x (by grind) d;have e:jx s.T (3,x)=decide ((U s.T (K x) t0).1=5):=af;rw[e];dsimp only [gU,e_] at P⊢;generalize (U s.T (K x) t0).1=kd at*;generalize OG (U s.T (K x) t0).2.1=n at*;generalize (l.fm (K x)).1=ad at*;generalize (l.fm (K x)).2=cp at*;go_enter func203,ntmps203;go_wp2_with fail;refine P.mono ?_;clear P;rintro e w1 ⟨rfl,hb⟩
  have b:=cg (((aH _ w).alloc bY _).trans (hb.mono ac))
  clear hb;go_wp2;go_ret;exact⟨rfl,b.o.alloc b.o.size _⟩
 ·have e:jx s.T (k,x)=OU:=by grind [jx]
  rw[e];go_enter func203,ntmps203;go_wp2_with fail;refine(wH (b7:=b7) (w:=bu w (ON #[OP R k,OP R x] 139)) (k,x) c).mono ?_;rintro e w1 ⟨rfl,hb⟩
  have b:=cg (((aH _ w).alloc bY _).trans (hb.mono ac))
  go_wp2;go_ret;exact⟨rfl,b.o.alloc b.o.size _⟩
theorem BJ (h:dO b7 ce grow l s w)(v:Int×Int)(hv:v.1=3->0<=v.2/\cz s.T (K v.2))(c:OG s.T<=10000)(hk:v.1=3->(U s.T (K v.2) t0).1=5):
 OS O 282 #[aq b7,bz #[ak v.1,ak v.2]] w λe w'=>e=Q (ay #[Z Y 0 0,ak 2])/\J (I (G w)) w w':=by
 obtain⟨k,x⟩:=v;by_cases b:k=3
 ·subst b;have P:=s_ (h.below ((aH _ w).alloc bY (ON #[OP R 3,OP R x] 139))) x (by grind) c;have hk:=hk rfl;dsimp only [gU,e_] at P hk⊢;rw[hk] at P;generalize OG (U s.T (K x) t0).2.1=n at*;generalize (l.fm (K x)).1=ad at*;generalize (l.fm (K x)).2=cp at*;go_enter func282,ntmps282;go_wp2_with fail;refine P.mono ?_;exact BC
 ·go_enter func282,ntmps282;go_wp2_with fail;refine(wH (b7:=b7) (w:=bu w (ON #[OP R k,OP R x] 139)) (k,x) b).mono ?_;exact BC
theorem wJ (h:dO b7 ce grow l s w)(x:Int)(hv:0<=x/\cz s.T (K x))(c:OG s.T<=10000)(hk:(U s.T (K x) t0).1≠5):
 OS O 282 #[aq b7,bz #[ak 3,ak x]] w λe w'=>e=Q (ay #[e_ s.T l.fm (K x),ak 0])/\J (I (G w)) w w':=by
 have P:=s_ (h.below ((aH _ w).alloc bY (ON #[OP R 3,OP R x] 139))) x hv c;dsimp only [gU,e_] at P hk⊢;generalize (U s.T (K x) t0).1=kd at*;go_enter func282,ntmps282;go_wp2_with fail;refine P.mono ?_;clear P;rintro e w1 ⟨rfl,hb⟩
 have b:=cg (((aH _ w).alloc bY _).trans (hb.mono ac))
 clear hb;go_wp2_with fail;go_ret2;exact⟨rfl,b.o.alloc b.o.size _⟩
theorem BK (h:dO b7 ce grow l s w)(v:Int×Int)(i:Int)(hv:v.1=3->0<=v.2/\cz s.T (K v.2))(b:OG s.T<=10000)(hk:v.1=3->(U s.T (K v.2) t0).1=5):
 OS O 204 #[aq b7,bz #[ak v.1,ak v.2],ak i] w λe w'=>e=Q (ay #[bz #[ak 0,ak 0],ak 2])/\J (I (G w)) w w':=by
 obtain⟨k,x⟩:=v;have b1:J (I (G w)) w (bu (bu w (ON #[OP R k,OP R x] 139)) (ON #[OP R 0,OP R 0] 139)):=(bZ.alloc bY _).alloc ac _;go_enter func204,ntmps204;go_wp2_with fail;refine(BJ (h.below b1) (k,x) hv b hk).mono ?_;rintro e w1 ⟨rfl,hb⟩
 have hq:=(hb.block (I (G w)+1) ac).trans (jy w (ON #[OP R k,OP R x] 139) (ON #[OP R 0,OP R 0] 139))
 obtain⟨c,d,f,lw⟩:=dt hq;go_wp2_with fail;obtain⟨r0,r1,_,_⟩:=dt (h_ (v1:=ak 0) (v2:=ak 0) (cg hq).o)
 exact a3 (by simp[results,results204,go_sem,r0,r1]) rfl ⟨rfl,((cg (b1.trans (hb.mono (by simp;omega)))).o.setCell ac _).setCell ac _⟩
theorem BL (h:dO b7 ce grow l s w)(x i:Int)(hv:0<=x/\cz s.T (K x))(b:OG s.T<=10000)(hk:(U s.T (K x) t0).1≠5)(hi:i<0\/(OG (U s.T (K x) t0).2.1:Int)<=i):
 OS O 204 #[aq b7,bz #[ak 3,ak x],ak i] w λe w'=>e=Q (ay #[bz #[ak 0,ak 0],ak 1])/\J (I (G w)) w w':=by
 have b1:J (I (G w)) w (bu (bu w (ON #[OP R 3,OP R x] 139)) (ON #[OP R 0,OP R 0] 139)):=(by simp_all [Below.alloc,Below.refl])
 have P:=wJ (h.below b1) x hv b hk;clear h hv b hk;dsimp only [e_] at P;generalize OG (U s.T (K x) t0).2.1=n at*;generalize (l.fm (K x)).1=ad at*;generalize (l.fm (K x)).2=cp at*;by_cases h0:i<0
 all_goals
  first
   |(have d:(n:Int)<=i:=by omega)
   |skip
  go_enter func204,ntmps204;go_wp2_with fail;refine P.mono ?_;clear P;rintro e w1 ⟨rfl,hb⟩
  have hq:=(hb.block (I (G w)+1) ac).trans (jy w (ON #[OP R 3,OP R x] 139) (ON #[OP R 0,OP R 0] 139))
  obtain⟨f,g,j,lw⟩:=dt hq;have c:=cg hq;have k:=cg (b1.trans (hb.mono (by simp;omega)))
  clear hb b1 hq hi;go_wp2_with fail;obtain⟨r0,r1,_,_⟩:=dt (h_ (v1:=ak 0) (v2:=ak 0) c.o)
  exact a3 (v:=ay #[bz #[ak 0,ak 0],ak 1]) (by simp[results,results204,go_sem,r0,r1]) rfl (by grind [Below.setCell,Hid.out])
theorem BM (h:dO b7 ce grow l s w)(x:Int)(i:Nat)(hv:0<=x/\cz s.T (K x))(f:OG s.T<=10000)(hk:(U s.T (K x) t0).1≠5)(hi:i<OG (U s.T (K x) t0).2.1):
 OS O 204 #[aq b7,bz #[ak 3,ak x],ak i] w λe w'=>e=Q (ay #[bz #[ak (U (U s.T (K x) t0).2.1 i (0,0)).1,ak (U (U s.T (K x) t0).2.1 i (0,0)).2],ak 0])/\J (I (G w)) w w':=by
 have b1:J (I (G w)) w (bu (bu w (ON #[OP R 3,OP R x] 139)) (ON #[OP R 0,OP R 0] 139)):=(by simp_all [Below.alloc,Below.refl])
 have P:=wJ (h.below b1) x hv f hk;have g:=iN (h.g2.fl _ hv.2)
 obtain⟨b,o,c,lb,j⟩:=g aa;have hc:=j i hi;dsimp only [e_] at P;rw[c] at P;generalize U (U s.T (K x) t0).2.1 i (0,0)=y at*;generalize OG (U s.T (K x) t0).2.1=n at*;generalize (l.fm (K x)).2=cp at*;clear c;go_enter func204,ntmps204;go_wp2_with fail;refine P.mono ?_;clear P;rintro e w1 ⟨rfl,hb⟩
 have hq:=(hb.block (I (G w)+1) ac).trans (jy w (ON #[OP R 3,OP R x] 139) (ON #[OP R 0,OP R 0] 139))
 obtain⟨m,q,t,lw⟩:=dt hq;have k:=cg hq;have d:=cg (b1.trans (hb.mono (by simp;omega)))
 have g0:=(d.o.cell (p:=av b (o+i*2)) lb).trans hc.1;have g1:=(d.o.cell (p:=av b (o+i*2+1)) lb).trans hc.2;clear hb b1 hq hc;go_wp2_with fail;obtain⟨r0,r1,_,_⟩:=dt (h_ (v1:=ak y.1) (v2:=ak y.2) k.o)
 exact a3 (v:=ay #[bz #[ak y.1,ak y.2],ak 0]) (by simp[results,results204,go_sem,r0,r1]) rfl (by grind [Below.setCell,Hid.out])
theorem sZ (x:Int)(w:az):OS O 208 #[ak x] w λe w'=>e=Q (bz #[ak 1,ak x])/\J (I (G w)) w w':=by go_enter func208,ntmps208;go_wp2;exact a3 (v:=bz #[ak 1,ak x]) (by simp[results,results208,go_sem]) rfl (by simp_all [Below.alloc,Below.refl])
theorem pM (x:Int)(w:az):OS O 289 #[ak x] w λe w'=>e=Q (bz #[ak 3,ak x])/\J (I (G w)) w w':=by go_enter func289,ntmps289;go_wp2;exact a3 (v:=bz #[ak 3,ak x]) (by simp[results,results289,go_sem]) rfl (by simp_all [Below.alloc,Below.refl])
end
section
variable {b7:Nat}{ce grow:Int}{l:ii}{F:Nat->Prop}{s:cj}{w w':az}{T T':List cH}
theorem JV {fm:Fm}(b:∀i,cz T' i↔cz T i)(c:∀i,(U T' i t0).1=(U T i t0).1/\OG (U T' i t0).2.1=OG (U T i t0).2.1):iR T' fm=iR T fm:=by
 funext x
 by_cases h:0<=x/\cz T (K x)
 ·simp_all [kh]
 grind [nE]
theorem JW (T:List cH)(j i:Nat)(y:Int×Int)(k:Nat):U (jT T j i y) k t0=if j=k/\j<OG T then((U T j t0).1,(U T j t0).2.1.set i y,(U T j t0).2.2) else U T k t0:=by grind
theorem ta (T:List cH)(j i:Nat)(y:Int×Int)(k:Nat):cz (jT T j i y) k↔cz T k:=by grind [cz]
theorem dO.field (h:dO b7 ce grow l s w){j i:Nat}(m:cz s.T j)(hi:i<OG (U s.T j t0).2.1)(y:Int×Int):∃b cp,e_ s.T l.fm j=Z (au b) (OG (U s.T j t0).2.1) cp/\
 V w (av b (i*2))=H (ak (U (U s.T j t0).2.1 i (0,0)).1)/\V w (av b (i*2+1))=H (ak (U (U s.T j t0).2.1 i (0,0)).2)/\(∀o,bF w (av b o)=OU)/\b<I (G w)/\l.own b=10+j/\
 ∀w' W:az,(∀k,l.own k≠0->k≠b->w'.heap[k]?=w.heap[k]?)->I (G w)<=I (G w')->W.heap[b]?=w.heap[b]?->w'.heap[b]?=(A (A W ⟨b,i*2,Y⟩ (OP R y.1)) ⟨b,i*2+1,Y⟩ (OP R y.2)).heap[b]?->dO b7 ce grow l {s with T:=jT s.T j i y} w':=by
 have hr:=h.g2.fl j m;obtain⟨b,cp,e⟩:=ff hr aa;have ho:=h.g2.fB j m b (by rw[e];rfl)
 obtain⟨N,p⟩:=fI hr b (by rw[e];rfl)
 obtain⟨S,o,q,lb,u⟩:=iN hr aa;have v:(l.fm j).1=au b:=by grind
 rw[v] at q;cases q;have hc:=u i hi;rw[Nat.zero_add] at hc;refine⟨b,cp,e,hc.1,hc.2,λo=>by simp[World.frozen?,p],ck p,ho,λw' W hk hs x hb=>?_⟩
 have hlen:(U (jT s.T j i y) j t0)=((U s.T j t0).1,(U s.T j t0).2.1.set i y,(U s.T j t0).2.2):=by rw[JW,aM ⟨rfl,m.1⟩]
 have B:∀k,(U (jT s.T j i y) k t0).1=(U s.T k t0).1/\OG (U (jT s.T j i y) k t0).2.1=OG (U s.T k t0).2.1/\(U (jT s.T j i y) k t0).2.2=(U s.T k t0).2.2:=λk=>by grind
 refine {cX:=?_,bo:=h.bo,g2:=?_,g3:=h.g3.keep (by grind),g4:=h.g4.keep (by grind),lt:=λk g=>aL (h.lt k g) hs}
 ·grind [bo,cX]
 ·refine {mp:=?_,mn:=by rw[lD];exact h.g2.mn,dy:=h.g2.dy,fl:=λk g=>?_,fB:=λk g=>?_,fY:=λk g=>?_,al:=by rw[lD];exact h.g2.al}
  ·rw[JV (λk=>ta _ _ _ _ k) (by grind)];exact h.g2.mp.same (hk _ (by rw[h.g2.dy];decide) (λc=>by have:=h.g2.dy;grind))
  ·have n:=(ta _ _ _ _ k).1 g;by_cases h9:k=j
   ·rw[h9,hlen];dsimp only [e_] at hr e⊢;rw[hlen];rw[lD,vm];have t:=ql (ql (cK (e▸hr) (λd f=>by cases f;exact x)) (i*2) (ak y.1)) (i*2+1) (ak y.2)
    rw[e];exact cK t (λd f=>by cases f;exact hb)
   ·have F:U (jT s.T j i y) k t0=U s.T k t0:=by grind
    dsimp only [e_];rw[F];exact cK (h.g2.fl k n) (λd f=>hk d (by rw[h.g2.fB k n d f];omega) (λc=>by
     have t:=h.g2.fB k n d f
     grind))
  ·intro d f;refine h.g2.fB k (by grind [ta]) d ?_
   grind
  ·rw[(B k).2.2];exact h.g2.fY k (by grind [ta])
end
structure Cp where
 w0:az
 b7:Nat
 ce:Int
 grow:Int
 l:ii
 s:cj
 cp:Nat
 ab:Nat
 hb:Nat
def fC (T:List cH)(fm:Fm)(A:List Bool)(x:Int):Option Value:=if 0<=x/\U A (K x) OU=C then H (gU T fm (K x)) else Y
def hdF (hd:Int->List (Int×Int))(hm:Int->Option bB×Nat)(x:Int):Option Value:=if(hd x).isEmpty=C then Y else H (Z (hm x).1 (OG (hd x)) (hm x).2)
structure c7 (c:Cp)(own:Nat->Nat)(vt:a7)(n1 n2:Nat)(hm:Int->Option bB×Nat)(st:dG)(w:az):Prop where
 ol:∀k,k<I (G c.w0)->w.heap[k]?=c.w0.heap[k]?
 sz:I (G c.w0)<=I (G w)
 cb:w.heap[c.cp]?=H (ON #[aq c.b7,.map (H c.ab),vt,.map (H c.hb)] 326 (0,0))
 co:own c.cp=1
 am:eS w c.ab n1 (fC c.s.T c.l.fm st.A)
 ao:own c.ab=2
 an:n1+cnt st.A<=OG c.s.T
 tr:aC w 0 2 1 vt (OG st.td) (st.td.map (Value.int R))
 tw:∀k,H k=OY vt->own k=3
 tn:OG st.td+cnt st.A<=OG c.s.T
 hq:eS w c.hb n2 (hdF st.hd hm)
 ho:own c.hb=4
 hn:n2<=st.m
 hr:∀x,st.hd x≠[]->0<=x/\aC w 0 139 2 (Z (hm x).1 (OG (st.hd x)) (hm x).2) (OG (st.hd x)) (ev (st.hd x))
 hro:∀x,st.hd x≠[]->∀k,H k=OY (Value.slice (hm x).1 (OG (st.hd x)) (hm x).2)->own k=10+K x
 lt:∀b,own b≠0->I (G c.w0)<=b/\b<I (G w)
section
variable {c:Cp}{own:Nat->Nat}{vt:a7}{n1 n2:Nat}{hm:Int->Option bB×Nat}{st:dG}{w w':az}
theorem c7.keep (h:c7 c own vt n1 n2 hm st w)(hs:I (G w)<=I (G w'))(hk:∀b,b<I (G c.w0)\/own b≠0->w'.heap[b]?=w.heap[b]?):c7 c own vt n1 n2 hm st w':=
 {
  h with
  ol:=λk e=>(by grind [ol])
  sz:=aS h.sz hs
  cb:=(by grind [co,cb])
  am:=h.am.same (by grind [ao])
  tr:=cK h.tr (by grind [tw])
  hq:=h.hq.same (by grind [ho])
  hr:=λx d=>⟨(h.hr x d).1,cK (h.hr x d).2 (by grind [hro])⟩
  lt:=λb hb=>⟨(h.lt b hb).1,aL (h.lt b hb).2 hs⟩}
theorem c7.below (h:c7 c own vt n1 n2 hm st w)(hb:J (I (G w)) w w'):c7 c own vt n1 n2 hm st w':=h.keep hb.size (λb ho=>hb.block b (ho.elim (λc=>aL c h.sz) (λc=>(h.lt b c).2)))
end
def tc (c:Cp):dr dG where
 J F st w:=∃own vt n1 d hm,c7 c own vt n1 d hm st w/\∀b,F b↔b<I (G c.w0)\/own b≠0
 lt:=by
  rintro F st w ⟨own,vt,n1,d,hm,h,f⟩ b hb;rcases(f b).1 hb with e|e
  ·exact aL e h.sz
  ·exact(h.lt b e).2
 keep:=by rintro F st w w' ⟨own,vt,n1,d,hm,h,f⟩ hs hk;exact⟨own,vt,n1,d,hm,h.keep hs (λb hb=>hk b ((f b).2 hb)),f⟩
structure gm (own:Nat->Nat)(w:az)(own':Nat->Nat)(w':az):Prop where
 fr:Fr (λb=>own b=1\/own b=2\/own b=3) w w'
 old:∀b,b<I (G w)->own' b=own b
 nw:∀b,I (G w)<=b->own' b≠0->own' b=3
section
variable {c:Cp}{own own' nH:Nat->Nat}{vt:a7}{n1 n2:Nat}{hm:Int->Option bB×Nat}{st:dG}{w w' w'':az}
theorem gm.of (h:J (I (G w)) w w')(hl:∀b,own b≠0->b<I (G w)):gm own w own w':=⟨Fr.of h,λ_ _=>rfl,λb hb ho=>by grind⟩
theorem gm.trans (h:gm own w own' w')(k:gm own' w' nH w''):gm own w nH w'':=by
 refine⟨h.fr.trans k.fr (λi hi=>?_),λb hb=>(k.old b (aL hb h.fr.size)).trans (h.old b hb),λb hb ho=>?_⟩
 ·grind [old]
 ·by_cases c:b<I (G w')
  all_goals grind [old,nw]
theorem c7.cells (h:c7 c own vt n1 n2 hm st w):V w (av c.cp 0)=H (aq c.b7)/\V w (av c.cp 1)=H (.map (H c.ab))/\V w (av c.cp 2)=H vt/\V w (av c.cp 3)=H (.map (H c.hb))/\(∀o,bF w (av c.cp o)=OU)/\c.cp<I (G w):=by have b:=h.cb;refine⟨?_,?_,?_,?_,λo=>by simp[World.frozen?,b],ck b⟩<;>simp[World.cell?,b]
theorem c7.gv (h:c7 c own vt n1 n2 hm st w)(hg:dO c.b7 c.ce c.grow c.l c.s c.w0):dO c.b7 c.ce c.grow c.l c.s w:=(by grind [dO.keep,sz,ol,dO.lt])
theorem JX (T:List cH)(fm:Fm)(A:List Bool){x:Int}(h0:0<=x)(hl:K x<OG A):kE (fC T fm A) x (gU T fm (K x))=fC T fm (A.set (K x) C):=by grind [kE,fC]
theorem wK {T:List cH}{fm:Fm}{A:List Bool}{x:Int}(h0:0<=x):(fC T fm A x).isSome=cZ A x:=by grind [fC,cZ]
theorem c7.gN {cU:a7}{v:Int×Int}(h:c7 c own vt n1 n2 hm st w)(hi:eM st.A v=OU)(h0:0<=v.2)(hl:K v.2<OG st.A)(fr:Fr (λb=>own b=1\/own b=2\/own b=3) w w')
 (hM:eS w' c.ab (n1+1) (kE (fC c.s.T c.l.fm st.A) v.2 (gU c.s.T c.l.fm (K v.2))))
 (f:aC w' 0 2 1 cU (OG st.td+1) ((st.td++[v.2]).map (Value.int R)))(hb:w'.heap[c.cp]?=H (ON #[aq c.b7,.map (H c.ab),cU,.map (H c.hb)] 326 (0,0)))
 (ht:∀k,H k=OY cU->own k=3\/I (G w)<=k):∃own',c7 c own' cU (n1+1) n2 hm (eE st v) w'/\gm own w own' w':=by
 obtain⟨i,j⟩:=oE hi;have hc:=wz st.A (K v.2) (by simp_all)
 have he:∀b,own b≠0->(if I (G w)<=b then(if H b=OY cU then 3 else 0) else own b)=own b:=λb hb=>aJ (by have:=(h.lt b hb).2;omega)
 have hk:∀b,own b=4\/10<=own b->_=_:=λb hb=>fr.block b (by grind) aa;have hs:=h.sz;refine⟨λb=>if I (G w)<=b then(if H b=OY cU then 3 else 0) else own b,?_,fr,λb hb=>aJ aa,λb hb ho=>?_⟩
 ·rw[s7 hi];refine {
   ol:=λk g=>(fr.block k aa (λcc=>?_)).trans (h.ol k g),sz:=aS h.sz fr.size,cb:=hb,co:=(by grind [co]),am:=?_,ao:=(by grind [ao]),an:=?_,tr:=by grind,tw:=λk e=>?_,tn:=?_
   hq:=h.hq.same (hk _ (aK h.ho)),ho:=(by grind [ho]),hn:=h.hn,hr:=λx d=>⟨(h.hr x d).1,cK (h.hr x d).2 (by grind [hro])⟩,hro:=λx d k e=>(by grind [hro]),lt:=λb hb=>?_}
  ·have:=(h.lt k aa).1;omega
  ·grind [JX]
  ·have:=h.an
   grind
  ·grind
  ·have:=h.tn
   grind
  ·split at hb
   ·rename_i hw;split at hb
    ·rename_i e;exact⟨aa,(cu f b e).2⟩
    omega
   grind [lt,Fr.size,aL]
 grind
end
theorem JY (k:Int)(ad:Option bB)(n c:Nat)(w:az):(Instr.field 271 (bz #[ak k,Z ad n c]) 1).run O w=sQ (Z ad n c) w:=ah
theorem wB (w:az)(a b o:Obj):(((w.alloc a).alloc b).alloc o).heap[I (G w)+1+1]?=H o:=by have h:=aO ((w.alloc a).alloc b) o;rwa [show I (G ((w.alloc a).alloc b))=I (G w)+1+1 by simp] at h
section
variable {b7:Nat}{ce grow:Int}{l:ii}{F:Nat->Prop}{s:cj}{w:az}
theorem JZ (h:dO b7 ce grow l s w)(v:Int×Int)(hv:v.1=3->0<=v.2/\cz s.T (K v.2))(b:OG s.T<=10000)(hk:v.1=3->(U s.T (K v.2) t0).1=5):
 OS O 211 #[aq b7,bz #[ak v.1,ak v.2]] w λe w'=>e=Q (ay #[bz #[ak 0,ak 0],ak 2])/\J (I (G w)) w w':=by
 obtain⟨k,x⟩:=v;have b1:J (I (G w)) w (bu (bu w (ON #[OP R k,OP R x] 139)) (ON #[OP R 0,OP R 0] 139)):=(bZ.alloc bY _).alloc ac _;have P:=BJ (h.below b1) (k,x) hv b hk;go_enter func211,ntmps211;go_wp2_with fail;refine P.mono ?_;rintro e w1 ⟨rfl,hb⟩
 have hq:=(hb.block (I (G w)+1) ac).trans (jy w (ON #[OP R k,OP R x] 139) (ON #[OP R 0,OP R 0] 139))
 obtain⟨f,g,i,lw⟩:=dt hq;have c:=cg hq;have d:=cg (b1.trans (hb.mono (by simp;omega)))
 go_wp2_with fail;obtain⟨r0,r1,_,_⟩:=dt (h_ (v1:=ak 0) (v2:=ak 0) c.o)
 exact a3 (v:=ay #[bz #[ak 0,ak 0],ak 2]) (by simp[results,results211,go_sem,r0,r1]) rfl ⟨rfl,(d.o.setCell ac _).setCell ac _⟩
theorem J0 (h:dO b7 ce grow l s w)(x:Int)(hv:0<=x/\cz s.T (K x))(d:OG s.T<=10000)(hk:(U s.T (K x) t0).1≠5):
 OS O 211 #[aq b7,bz #[ak 3,ak x]] w λe w'=>e=Q (ay #[bz #[ak 1,ak (OG (U s.T (K x) t0).2.1)],ak 0])/\J (I (G w)) w w':=by
 have b1:J (I (G w)) w (bu (bu w (ON #[OP R 3,OP R x] 139)) (ON #[OP R 0,OP R 0] 139)):=(bZ.alloc bY _).alloc ac _;have P:=wJ (h.below b1) x hv d hk;dsimp only [e_] at P;generalize OG (U s.T (K x) t0).2.1=n at*;go_enter func211,ntmps211;go_wp2_with fail;refine P.mono ?_;clear P;rintro e w1 ⟨rfl,hb⟩
 have hq:=(hb.block (I (G w)+1) ac).trans (jy w (ON #[OP R 3,OP R x] 139) (ON #[OP R 0,OP R 0] 139))
 have b:=cg (b1.trans (hb.mono (by simp;omega)))
 clear hb b1;go_wp2_with fail;refine(sZ n w1).mono ?_;rintro e f ⟨rfl,c⟩
 have hq:=(c.block _ (ck hq)).trans hq;obtain⟨g,i,j,lw⟩:=dt hq;go_wp2_with fail;obtain⟨r0,r1,_,_⟩:=dt (h_ (v1:=ak 1) (v2:=ak n) (cg hq).o)
 exact a3 (by simp[results,results211,go_sem,r0,r1]) rfl ⟨rfl,((cg (b.o.trans (c.mono b.o.size))).o.setCell ac _).setCell ac _⟩
theorem J3 (x y:Int×Int)(w:az):
 OS O 212 #[bz #[ak x.1,ak x.2],bz #[ak y.1,ak y.2]] w λe w'=>e=Q (bz #[ak 1,ak (if x=y then 1 else 0)])/\J (I (G w)) w w':=by
 obtain⟨b,g⟩:=x;obtain⟨d,y1⟩:=y;have b1:J (I (G w)) w (bu (bu (bu w (ON #[OP R b,OP R g] 139)) (ON #[OP R d,OP R y1] 139)) (ON #[OP R 0,OP R 0] 139)):=((bZ.alloc bY _).alloc ac _).alloc (by simp;omega) _;by_cases h0:b=d/\g=y1
 ·obtain⟨h0,f⟩:=h0;subst h0 f;rw[aM rfl];go_enter func212,ntmps212;go_wp2_with fail;refine(sZ _ _).mono ?_;rintro e w2 ⟨rfl,hb2⟩
  have hq:=(hb2.block (I (G w)+1+1) ac).trans (wB w _ _ _)
  obtain⟨e0,e1,f0,lw⟩:=dt hq;have HN:=cg hq;have HB:=cg (b1.trans (hb2.mono b1.size))
  go_wp2_with fail;obtain⟨r0,r1,_,_⟩:=dt (h_ (v1:=ak 1) (v2:=ak 1) HN.o)
  exact a3 (v:=bz #[ak 1,ak 1]) (by simp[results,results212,go_sem,r0,r1]) rfl ⟨rfl,(HB.o.setCell (by simp;omega) _).setCell (by simp;omega) _⟩
 ·rw[aJ (λc=>h0 (by cases c;exact⟨rfl,rfl⟩))];by_cases f:b=d
  ·subst f;go_enter func212,ntmps212;exact BB
  ·go_enter func212,ntmps212;exact BB
theorem J4 (h:dO b7 ce grow l s w)(x:Int)(i:Nat)(y:Int×Int)(hv:0<=x/\cz s.T x.toNat)(v:OG s.T<=10000)(hk:(s.T.getD x.toNat t0).1≠5)(hi:i<OG (s.T.getD x.toNat t0).2.1)(ad:i<12):
 OS O 132 #[aq b7,.agg #[ak 3,ak x],ak i,.agg #[ak y.1,ak y.2]] w λe w'=>e=Q (ak 0)/\dO b7 ce grow l {s with T:=jT s.T x.toNat i y} w'/\Fr (λb=>l.own b≠0) w w':=by
 obtain⟨f,y1⟩:=y;have b1:J (I (G w)) w ((w.alloc (ON #[OP R 3,OP R x] 139)).alloc (ON #[OP R f,OP R y1] 139)):=(bZ.alloc bY _).alloc ac _;have P:=BM (h.below b1) x i hv v hk hi;obtain⟨b,cp,B,g0,g1,F,lb,m,q⟩:=h.field hv.2 hi (f,y1)
 obtain⟨_,_,c2,_,_,_,_,_,N⟩:=h.cells;have hl:x<10000:=by have:=hv.2.1;omega
 have L:∀W,J (I (G w)) w W->(Instr.lookup 194 (.map (H l.mb)) (ak x) OU).run O W=.ok (gU s.T l.fm x.toNat) W:=λW hb=>by
  have:=(h.below hb).g2.mp.look (t:=194) (e:=271) underlying194 (nG W) (x:=x) hv.1 aa;rw[kh hv] at this
  exact this
 have ag:=hv.1;dsimp only [gU] at L;rw[B] at L;have q:=cg q;have S:=cg m;have ab:=cg h.lt;have ai:b≠b7:=λc=>by have:=h.bo;rw[<-c,m] at this;omega
 have m1:b≠I (G w):=aa;have al:b≠I (G w)+1:=aa;clear h hv v hk B m;generalize (s.T.getD x.toNat t0).2.1.getD i (0,0)=z at*;generalize OG (s.T.getD x.toNat t0).2.1=n at*;generalize (s.T.getD x.toNat t0).1=kd at*;go_enter func132,ntmps132;go_wp2_with fail;refine P.mono ?_;clear P;rintro e w1 ⟨rfl,hb⟩
 have d:=cg (b1.trans (hb.mono (by simp;omega)))
 have g:=(hb.block (I (G w)) (by simp;omega)).trans ((aU _ _ _ ac).trans (aO w (ON #[OP R 3,OP R x] 139)))
 have j:=(hb.block (I (G w)+1) ac).trans (jy w (ON #[OP R 3,OP R x] 139) (ON #[OP R f,OP R y1] 139))
 have b2:=d.o.alloc d.o.size (ON #[OP R z.1,OP R z.2] 139)
 have g:=(aU w1 (ON #[OP R z.1,OP R z.2] 139) _ (ck g)).trans g;have j:=(aU w1 (ON #[OP R z.1,OP R z.2] 139) _ (ck j)).trans j;clear hb b1 d;go_wp2_with fail;generalize w1.alloc (ON #[OP R z.1,OP R z.2] 139)=W at*;obtain⟨_,am,_,_⟩:=dt g;obtain⟨q0,q1,_,_⟩:=dt j;have an:=(b2.cell (p:=av b7 2) N).trans c2;have k0:=(b2.cell (p:=av b (i*2)) lb).trans g0;have k1:=(b2.cell (p:=av b (i*2+1)) lb).trans g1;have kf:∀o,bF W (av b o)=OU:=λo=>(b2.frozen (p:=av b o) lb).trans (F o)
 have ao:=L _ b2.drew;have ap:=JY kd (au b) n cp;have n1:(0:Int)<=i:=aa;have ar:(i:Int)<n:=aa;have d:aA (J (I (G w)) w W):=b2;clear g j L g0 g1 F c2 b2
 go_region_held3 (λw'=>V w' (av b7 2)=H (.map (H l.mb))/\V w' (av (I (G w)) 1)=H (ak x)/\V w' (av (I (G w)+1) 0)=H (ak f)/\V w' (av (I (G w)+1) 1)=H (ak y1)) (go_keep) (fail)
 go_wp2_with fail;go_ret;have hs:=d.o.size;have fr:Fr (λk=>k=b) W ((W.setCell ⟨b,i*2,Y⟩ (OP R f)).setCell ⟨b,i*2+1,Y⟩ (OP R y1)).drew:=(((Fr.refl (λk=>k=b) W).set b _ _ rfl).set b _ _ rfl).drew;have u:=(Fr.of d.o).trans fr (λ_ c=>aK c)
 exact⟨rfl,q.o _ W (λk hk hn=>u.block k (ab.o k hk) hn) u.size (d.o.block b lb) rfl,u.mono (λk e=>by rw[e,S.o];omega)⟩
theorem J5 (v y:Int×Int)(i c:Int)(hc:c≠0)
 (P:∀w',J (I (G w)) w w'->OS O 204 #[aq b7,bz #[ak v.1,ak v.2],ak i] w' λe d=>e=Q (ay #[bz #[ak 0,ak 0],ak c])/\J (I (G w')) w' d):
 OS O 132 #[aq b7,bz #[ak v.1,ak v.2],ak i,bz #[ak y.1,ak y.2]] w λe w'=>e=Q (ak c)/\J (I (G w)) w w':=by
 obtain⟨f,y1⟩:=y;obtain⟨k,x⟩:=v;have b1:J (I (G w)) w (bu (bu w (ON #[OP R k,OP R x] 139)) (ON #[OP R f,OP R y1] 139)):=(bZ.alloc bY _).alloc ac _;go_enter func132,ntmps132;go_wp2_with fail;refine(P _ b1).mono ?_;rintro e w1 ⟨rfl,hb⟩
 have b:=cg (b1.trans (hb.mono b1.size))
 go_wp2_with fail;go_ret;exact⟨rfl,b.o.alloc b.o.size _⟩
end
theorem J6:(prog.info? 2).map (λi=>(i.zero,i.size,i.bytes))=H (H (ak 0),1,8):=ah
section
variable {c:Cp}{own:Nat->Nat}{vt:a7}{n1 n2:Nat}{hm:Int->Option bB×Nat}{st:dG}{w:az}
theorem BN {cp ab:Nat}{T:List cH}{fm:Fm}{A:List Bool}(c1:V w (av cp 1)=H (.map (H ab)))(hM:eS w ab n1 (fC T fm A))(x:Int)(h0:0<=x)(b:x<1152921504606846976):
 OS O 316 #[aq cp,ak x] w λe w'=>e=Q (.bool (cZ A x))/\J (I (G w)) w w':=by
 have L:=hM.look_ok underlying194 (nG w) h0 b;rw[wK h0] at L;have hv:∃k ad n c,(fC T fm A x).getD (.agg #[ak 0,.slice Y 0 0])=.agg #[ak k,.slice ad n c]:=by
  unfold fC;split
  ·exact⟨_,_,_,_,rfl⟩
  ·exact⟨_,_,_,_,rfl⟩
 obtain⟨k,ad,n,cc,ev⟩:=hv;rw[ev] at L;exact lh
theorem BO {cp ab:Nat}{T:List cH}{fm:Fm}{A:List Bool}(c1:V w (av cp 1)=H (.map (H ab)))(hM:eS w ab n1 (fC T fm A))(v:Int×Int)(hv:v.1=3->0<=v.2/\v.2<1152921504606846976):
 OS O 319 #[aq cp,bz #[ak v.1,ak v.2]] w λe w'=>e=Q (bA (!eM A v))/\J (I (G w)) w w':=by
 obtain⟨k,x⟩:=v;by_cases c:k=3
 ·subst c;have b1:=aw w (ON #[OP R 3,OP R x] 139)
  have P:=BN ((b1.cell (p:=av cp 1) (aT w _ c1)).trans c1) (hM.same (b1.block ab hM.lt)) x (hv rfl).1 (hv rfl).2;have e:eM A (3,x)=cZ A x:=by unfold eM cZ;simp
  rw[e];generalize cZ A x=b at*;go_enter func319,ntmps319;go_wp2_with fail;refine P.mono ?_;rintro e w1 ⟨rfl,hb⟩
  have d:=cg (b1.trans (hb.mono b1.size))
  go_wp2;go_ret;exact⟨rfl,d.o⟩
 ·have e:eM A (k,x)=C:=by unfold eM;simp[c]
  rw[e];go_enter func319,ntmps319;exact lh
theorem J7 (h:c7 c own vt n1 n2 hm st w)(x:Int)(h0:0<=x)(b:x<1152921504606846976):
 OS O 316 #[aq c.cp,ak x] w λe w'=>e=Q (bA (cZ st.A x))/\J (I (G w)) w w':=BN h.cells.2.1 h.am x h0 b
theorem wL (h:c7 c own vt n1 n2 hm st w)(v:Int×Int)(hv:v.1=3->0<=v.2/\v.2<1152921504606846976):
 OS O 319 #[aq c.cp,bz #[ak v.1,ak v.2]] w λe w'=>e=Q (bA (!eM st.A v))/\J (I (G w)) w w':=BO h.cells.2.1 h.am v hv
structure kG (own:Nat->Nat)(w:az)(ad:Option bB)(l:List (Int×Int)):Prop where
 lp:dQ w ad l
 no:0<OG l->∀z,ad=H z->¬(own z.block=1\/own z.block=2\/own z.block=3)
theorem kG.tm {own d:Nat->Nat}{w w':az}{ad:Option bB}{l:List _}(h:kG own w ad l)(t:gm own w d w'):kG d w' ad l:=
 ⟨h.lp.keep t.fr.size (λhp z e=>t.fr.block _ (by obtain⟨b,o,c,hb,_⟩:=h.lp hp;rw[e] at c;cases c;exact hb) (h.no hp z e)),λhp z e=>by rw[t.old _ (by obtain⟨b,o,c,hb,_⟩:=h.lp hp;rw[e] at c;cases c;exact hb)];exact h.no hp z e⟩
theorem nI (hg:dO c.b7 c.ce c.grow c.l c.s c.w0)(am:OG c.s.T<=10000)(hlen:OG st.A=OG c.s.T)(h:c7 c own vt n1 n2 hm st w)(ad:Option bB)(cap:Nat)(l:List (Int×Int))(hl:kG own w ad l)(hv:∀v∈l,v.1=3->0<=v.2/\cz c.s.T v.2.toNat)(cS:OG l<=100000):
 OS O 314 #[aq c.cp,.slice ad (OG l) cap] w λe w'=>∃m cU q,e=Q (ay #[])/\c7 c m cU q n2 hm (dz st l) w'/\gm own w m w':=by
 have bd:aA (dO c.b7 c.ce c.grow c.l c.s c.w0):=hg;have ci:aA (∀v∈l,v.1=3->0<=v.2/\cz c.s.T v.2.toNat):=hv;have be:aA (c7 c own vt n1 n2 hm st w/\kG own w ad l):=⟨h,hl⟩
 have cj:aA (OG c.s.T<=10000/\OG st.A=OG c.s.T):=⟨am,hlen⟩
 have cT:=h.cells.2.2.2.2.2;clear hg h hl hv am hlen;go_enter func314,ntmps314;go_wp2_with fail
 go_loopw [8] (λi wr=>∃(j:Nat)(m:Nat->Nat)(cU:a7)(q:Nat),j<=OG l/\i=ak j/\c7 c m cU q n2 hm (dz st (l.take j)) wr/\gm own w m wr) (λi _=>OG l-(intOf i).toNat)
 case atStart=>exact⟨0,own,vt,n1,a4 _,rfl,be.o.1,gm.of bZ (λb hb=>(be.o.1.lt b hb).2)⟩
 case round=>
  obtain⟨j,m,cU,q,an,rfl,g,t⟩:=hrel;by_cases bg:j<OG l
  ·have bi:l.take (j+1)=l.take j++[l.getD j (0,0)]:=by rw[List.take_add_one,aN,aP bg];rfl
   have ag:=ci.o (l.getD j (0,0)) (fL bg)
   obtain⟨am,hlen⟩:=cj.o;have aB:OG (dz st (l.take j)).A=OG c.s.T:=((kD st (l.take j)).2.2).trans hlen;have bl:aA (dz st (l.take (j+1))=eE (dz st (l.take j)) (l.getD j (0,0))):=by show _=_;rw[bi,BD]
   generalize dz st (l.take j)=S at g bl aB;obtain⟨cV,o,aF,lb,bn⟩:=(be.o.2.tm t).lp aa;have hc:=bn j bg;obtain⟨z0,cl⟩:=hc;generalize l.getD j (0,0)=v at*;obtain⟨k,x⟩:=v;dsimp only at z0 cl ag;have b1:=aw wr (ON #[.int R k,.int R x] 139)
   have P:=wL (g.below b1) (k,x) (λao=>⟨(ag ao).1,by have:=(ag ao).2.1;omega⟩)
   have cW:aA (I (G wr)+1=I (G wr)+1):=rfl;have cX:(j:Int)<OG l:=aa;have cY:IntKind.i64.wrap ((j:Int)+1)=(j:Int)+1:=by rw[ba];omega
   cases hi:eM S.A (k,x)
   ·rw[hi] at P;obtain⟨ao,cm⟩:=oE hi;dsimp only at ao cm;subst ao;obtain⟨aR,aV⟩:=ag rfl;have cZ:x<10000:=by have:=aV.1;omega
    obtain⟨B,F,cn⟩:=e5 g.tr;subst cn;have c0:OG S.td<=10000:=by have:=g.tn;omega
    have bx:q<100000:=by have:=g.an;omega
    have np:∀b,m b=3->b≠c.cp:=λb hb e=>by rw[e,g.co] at hb;omega
    have b0:aA (∀w1,J (I (G wr)) wr w1->w1.heap[I (G wr)]?=H (ON #[ak 3,ak x] 139 (0,0))->∃kd bo bp fc f,(V w1 (av c.cp 0)=H (aq c.b7)/\V w1 (av c.cp 1)=H (.map (H c.ab))/\V w1 (av c.b7 2)=H (.map (H c.l.mb)))/\
     (Instr.lookup 194 (.map (H c.l.mb)) (ak x) OU).run O w1.drew=.ok (.agg #[ak kd,.slice bo bp fc]) w1.drew/\(Instr.mapUpdate 194 (.map (H c.ab)) (ak x) (.agg #[ak kd,.slice bo bp fc])).run O w1.drew=.ok () f/\
     (V f (av c.cp 0)=H (aq c.b7)/\V f (av c.cp 1)=H (.map (H c.ab))/\V f (av c.b7 2)=H (.map (H c.l.mb))/\V f (av (I (G wr)) 1)=H (ak x)/\V f (av c.cp 2)=H (.slice B (OG S.td) F)/\(∀o,bF f (av c.cp o)=OU)/\c.cp<I (G f))/\
     aA (aC f 0 2 1 (.slice B (OG S.td) F) (OG S.td) (S.td.map (Value.int R))/\H c.cp≠OY (Value.slice B (OG S.td) F)/\∀n b4 s,(f.alloc (ON #[.int R x] 2)).drew.grownBy n (Value.slice B (OG S.td) F).ownBlock->aC n 0 2 1 (.slice (au b4) (OG S.td+1) s) (OG S.td+1) ((S.td++[x]).map (Value.int R))->(H b4=OY (Value.slice B (OG S.td) F)\/I (G f)<=b4)->
      ∃ai,c7 c ai (.slice (au b4) (OG S.td+1) s) (q+1) n2 hm (dz st (l.take (j+1))) (n.setCell ⟨c.cp,2,Y⟩ (.slice (H ⟨b4,0,Y⟩) (OG S.td+1) s))/\gm own w ai (n.setCell ⟨c.cp,2,Y⟩ (.slice (H ⟨b4,0,Y⟩) (OG S.td+1) s)))):=λw1 hb al=>by
     have g1:=g.below hb;have gv:=g1.gv bd.o;have b2:=g.below hb.drew;have L:=(b2.gv bd.o).g2.mp.look (t:=194) (e:=271) underlying194 (nG _) (x:=x) aR aa;rw[kh ⟨aR,aV⟩] at L;obtain⟨f,co,br,ab⟩:=b2.am.put (t:=194) (e:=271) underlying194 bx aR aa (gU c.s.T c.l.fm x.toNat)
     obtain⟨q0,q1,cp,_,cq,a0⟩:=g1.cells;obtain⟨_,_,b3,_,_,_,_,_,pl⟩:=gv.cells;have a1:∀b,b<I (G w1)->b≠c.ab->f.heap[b]?=w1.heap[b]?:=λb hb hn=>ab.block b hb (λe=>hn (j3 e))
     have b5:c.cp≠c.ab:=λe=>by have W:=g1.co;rw[e,g1.ao] at W;omega
     have cr:c.b7≠c.ab:=λe=>by have W:=bd.o.cells.2.2.2.2.2.2.2.2;have cs:=(g1.lt c.ab (by rw[g1.ao];decide)).1;omega
     have ct:I (G wr)≠c.ab:=λe=>by have cs:=(g.lt c.ab (by rw[g.ao];decide)).2;omega
     have ap:=a1 c.cp a0 b5;refine⟨_,_,_,_,f,⟨q0,q1,b3⟩,L,co,⟨(aQ (a:=⟨c.cp,0,Y⟩) ap).trans q0,(aQ (a:=⟨c.cp,1,Y⟩) ap).trans q1,(aQ (a:=⟨c.b7,2,Y⟩) (a1 c.b7 pl cr)).trans b3,(aQ (a:=⟨I (G wr),1,Y⟩) (a1 (I (G wr)) (ck al) ct)).trans (by simp[World.cell?,al]),(aQ (a:=⟨c.cp,2,Y⟩) ap).trans cp,λo=>(World.frozen?_of_block (a:=⟨c.cp,o,Y⟩) ap).trans (cq o),aL a0 ab.size⟩,?_⟩
     have cv:aC f 0 2 1 (.slice B (OG S.td) F) (OG S.td) (S.td.map (Value.int R)):=cK g1.tr (λk e=>a1 k (cu g1.tr k e).2 (λcc=>by have W:=g1.tw k e;rw[cc,g1.ao] at W;omega))
     refine⟨cv,λe=>np c.cp (g1.tw c.cp e) rfl,λn b4 s bs cw b6=>?_⟩
     have cx:Fr (λb=>m b=1\/m b=2\/m b=3) w1 f:=((Fr.refl _ w1).drew).grown ab (λk e=>aK (by cases e;exact aI (aK g1.ao)))
     have cy:Fr (λb=>m b=1\/m b=2\/m b=3) f n:=(((Fr.refl _ f).alloc _).drew).grown bs (λk e=>aK (aI (aI (g1.tw k e.symm))))
     have cA:=(cx.trans cy (λ_ d=>aK d)).set c.cp 2 (.slice (au b4) (OG S.td+1) s) (aK g1.co)
     have cB:b4≠c.cp:=by
      rcases b6 with e|e
      ·exact np b4 (g1.tw b4 e)
      ·have:=ab.size;have:I (G w1)<=I (G f):=this
       omega
     have b7:∀b,b≠c.cp->(n.setCell ⟨c.cp,2,Y⟩ (.slice (H ⟨b4,0,Y⟩) (OG S.td+1) s)).heap[b]?=n.heap[b]?:=λb hn=>aW _ _ _ _ hn;have cC:(n.setCell ⟨c.cp,2,Y⟩ (.slice (H ⟨b4,0,Y⟩) (OG S.td+1) s)).heap[c.ab]?=f.heap[c.ab]?:=(b7 c.ab b5.symm).trans ((bs.block c.ab (by have:=br.lt;simp[World.drew];omega) (λe=>by have W:=g1.tw c.ab e;rw[g1.ao] at W;omega)).trans (aU _ _ _ br.lt))
     have cD:n.heap[c.cp]?=w1.heap[c.cp]?:=(bs.block c.cp (by have:=aL a0 ab.size;simp[World.drew];omega) (λe=>np c.cp (g1.tw c.cp e) rfl)).trans ((aU _ _ _ (aL a0 ab.size)).trans ap)
     obtain⟨ai,c1,c2⟩:=g1.gN (cU:=.slice (au b4) (OG S.td+1) s) hi aR (by rw[aB];exact aV.1) cA (br.same cC) (cK cw (λk e=>by cases e;exact b7 _ cB)) (by
      have W:=cD.trans g1.cb;simp only [World.setCell,Array.getElem?_modify,if_true,W,Option.map_some];rfl) (λk e=>by
      cases e;exact b6.imp (λe=>g1.tw _ e) (λe=>aS (show I (G w1)<=I (G f) from ab.size) e))
     rw[bl.o];exact⟨ai,c1,(t.trans (gm.of hb (λb hb=>(g.lt b hb).2))).trans c2⟩
    rw[aF];clear g t bn ag bi hi aB am hlen aF np bx aV;go_wp2_with fail;refine P.mono ?_;clear P;rintro e w1 ⟨rfl,hb⟩
    have al:=(hb.block (I (G wr)) ac).trans (aO wr (ON #[.int R 3,.int R x] 139))
    obtain⟨kd,bo,bp,fc,f,⟨cE,y1,cF⟩,cG,cH,⟨u0,cI,cJ,c3,b8,b9,bt⟩,a2⟩:=b0.o w1 (b1.trans (hb.mono b1.size)) al;obtain⟨_,cL,_,_⟩:=dt al;clear hb b1 al b0;go_wp2_with fail
    go_region_held3 (λw'=>V w' (av c.cp 0)=H (aq c.b7)/\V w' (av c.cp 1)=H (.map (H c.ab))/\V w' (av c.b7 2)=H (.map (H c.l.mb))/\V w' (av (I (G wr)) 1)=H (ak x)) (go_keep) (fail)
    clear cG cH cE y1 cF cL u0 cI cJ;obtain⟨cM,cN,cO,cP,cQ⟩:=info_parts J6;have ar:=(aw f (ON #[.int R x] 2)).drew;have ca:aA (aC (f.alloc (ON #[.int R x] 2)).drew 0 2 1 (.slice B (OG S.td) F) (OG S.td) (S.td.map (Value.int R))):=cK (gq a2.o.1 _) (λ_ _=>rfl)
    have cb:H c.cp≠OY (Value.slice B (OG S.td) F):=a2.o.2.1;have cR:=b9 2;clear b9;go_wp2_with fail
    go_region_law (refine step_append_lies _ rfl (.tmp 35) (.tmp 38) 66 rfl 0 2 cM (ak 0) 1 8 underlying66 cN cO cP cQ rfl ae (.slice B (OG S.td) F) (OG S.td) (S.td.map (Value.int R)) (by simp[Act.eval]) ca.o ⟨I (G f),0,Y⟩ 1 1 [ak x] (by simp[Act.eval]) rfl ?_ ?_ ae (by unfold maxLen;omega) aa ac _ rfl ?_;(intro j u an;match j,an with|0,an=>(simp at an;subst an;simp[Addr.add]));(intro u cd;simp at cd;subst cd;rfl);intro b4 s n ce bb cf c4;have c5:=bb.cell (a:=⟨c.cp,2,Y⟩) (v:=.slice B (OG S.td) F) ((ar.cell (p:=av c.cp 2) bt).trans b8) cb;have c6:bF n (av c.cp 2)=OU:=(World.frozen?_of_block (a:=⟨c.cp,2,Y⟩) (bb.block _ (aL bt ar.size) cb)).trans ((ar.frozen (p:=av c.cp 2) bt).trans cR))
    all_goals
     obtain⟨ai,cg,ch⟩:=a2.o.2.2 n b4 s bb (by simpa using ce) (cf.imp Eq.symm (λe=>by rw[e];exact ar.size))
     have N:aA (_/\_):=⟨cg,ch⟩
     clear ce bb cf a2 ca cg ch ar b8;go_wp2_with fail;go_roundw
     case rel=>exact⟨j+1,ai,_,q+1,aa,aj,N.o.1,N.o.2⟩
     case measure=>simp[intOf];omega
   ·rw[hi] at P;have N:aA (∀w1,J (I (G wr)) wr w1->c7 c m cU q n2 hm (dz st (l.take (j+1))) w1/\gm own w m w1):=λw1 hb=>by rw[bl.o,wE hi];exact⟨g.below hb,t.trans (gm.of hb (λb hb=>(g.lt b hb).2))⟩
    rw[aF];clear g t bn ag bi hi aB am hlen aF;go_wp2_with fail;refine P.mono ?_;clear P;rintro e w1 ⟨rfl,hb⟩
    have hb:=b1.trans (hb.mono b1.size)
    have N:aA (_/\_):=N.o w1 hb;clear hb b1;go_wp2_with fail;go_roundw
    case rel=>exact⟨j+1,m,cU,q,aa,aj,N.o.1,N.o.2⟩
    case measure=>simp[intOf];omega
  ·have e:l.take j=l:=List.take_of_length_le aa;rw[e] at g;have N:aA (c7 c m cU q n2 hm (dz st l) wr/\gm own w m wr):=⟨g,t⟩
   have c8:(OG l:Int)<=j:=aa;clear g t e;go_wp2_with fail;go_end0;exact⟨m,cU,q,rfl,N.o.1,N.o.2⟩
end
end Go.Proofs.YtjckpdepffejnaaGreatDoor
