import Derived.Test.YtjpjpjemibgjpaaGreatJ31
import Derived.Test.YtjpjpjemibgjpaaGreatJ32
import Derived.Test.YtjpjpjemibgjpaaGreatJ10
import Derived.Test.YtjpjpjemibgjpaaGreatJ28
import Derived.Test.YtjpjpjemibgjpaaGreatJ05
import Derived.Test.YtjpjpjemibgjpaaGreatJ24
import Derived.Test.YtjpjpjemibgjpaaGreatJ00
import Derived.Test.YtjpjpjemibgjpaaGreatJ01
import Derived.Test.YtjpjpjemibgjpaaGreatJ02
import Derived.Test.YtjpjpjemibgjpaaGreatJ19
import Derived.Test.YtjpjpjemibgjpaaGreatJ03
namespace Go.Proofs.YtjpjpjemibgjpaaGreat
set_option maxRecDepth 100000
set_option maxHeartbeats 2000000
open Tryz
open Go.RowKit W Kp bY
theorem AE {w:World}{pw p q pc ct sd nb N O y g:Nat}{ws M rs:List Int}(h:Wf w pw p q pc ct sd nb N O y g ws (dx O) M rs)(l:rs.length=12)(j:w.heap[nb]?=some (.cells (rs.map (Value.int .i64)).toArray 2 (0,0)))(hs:w.heap[sd]?=some (.cells #[.slice none 0 0,.slice none 0 0] 128 (0,0))):
 ∃F,(eT ⟨pw,p,q,pc,sd,nb,N,O⟩).J F ⟨⟨y,g,ws,M,rs⟩,[],[]⟩ w/\∀b,F b->b=pw\/b=p\/b=q\/b=pc\/b=ct\/b=sd\/b=nb:=by
 obtain⟨a1,a2,m,n,o,s,t,u⟩:=h.gn.apart;obtain⟨⟨s1,s2,v,s4⟩,⟨n1,x,A,n4⟩,B,C⟩:=h.apart;have s5:sd≠pw:=fun e=>by have k:=h.gn.blk;rw[<-e,hs] at k;simp at k
 have D:ct<w.heap.size:=h.gn.cd.ef;refine⟨fun b=>b=pw\/b=p\/b=q\/b=pc\/b=ct\/b=sd\/b=nb,⟨fun b=>b=pw\/b=p\/b=q\/b=pc\/b=ct\/b=sd\/b=nb,none,0,⟨fun b=>b=pw\/b=p\/b=q\/b=pc\/b=ct\/b=nb,none,0,⟨fun b=>if b=p\/b=q then 1 else if b=pc\/b=ct then 2 else if b=pw then 3 else if b=nb then 4 else 0,ct,?_,fun b=>?_⟩,hs,aO _ _ _ _,fun b a=>?_,an (an (an (an (an (ap rfl))))),fun a=>?_,fun b e=>by simp[Value.ownBlock] at e,fun b a=>?_⟩,aO _ _ _ _,fun b e=>by simp[Value.ownBlock] at e,fun b=>?_⟩,fun b a=>a⟩
 ·exact {
   ar:=h.gn.ar,cd:=h.gn.cd,wd:=h.gn.blk,rt:=j,rl:=l
   a1:=V
   a2:=V
   c1:=by simp[Ne.symm o,Ne.symm t]
   c2:=by simp[Ne.symm s,Ne.symm u]
   w1:=by simp[a1,a2,m,n]
   r1:=by simp[n1,x,A,n4,B]
   le:=fun b=>by
    split
    ·decide
    ·split
     ·decide
     ·split
      ·decide
      ·split<;>decide
   lt:=fun b a=>by
    have k1:=h.gn.ar.ee;have E:=h.gn.ar.ef;have G:=h.gn.cd.ee;have H:=lt_of_some h.gn.blk;have k5:=lt_of_some j;by_cases c:b=p\/b=q
    ·rcases c with e|e<;>(rw[e];assumption)
    ·rw[ao c] at a;by_cases d:b=pc\/b=ct
     ·rcases d with e|e<;>(rw[e];assumption)
     ·rw[ao d] at a;by_cases f:b=pw
      ·rw[f];assumption
      ·rw[ao f] at a;by_cases i:b=nb
       ·rw[i];assumption
       ·rw[ao i] at a;exact absurd rfl a}
 ·dsimp only;by_cases c:b=p\/b=q
  ·rw[aq c];rcases c with e|e<;>simp[e]
  ·rw[ao c];by_cases d:b=pc\/b=ct
   ·rw[aq d];rcases d with e|e<;>simp[e]
   ·rw[ao d];by_cases f:b=pw
    ·rw[aq f];simp[f]
    ·rw[ao f];by_cases i:b=nb
     ·rw[aq i];simp[i]
     ·rw[ao i];simp only [not_or] at c d;simp[c,d,f,i]
 ·rcases a with a|a|a|a|a|a
  ·exact ap a
  ·exact an (ap a)
  ·exact an (an (ap a))
  ·exact an (an (an (ap a)))
  ·exact an (an (an (an (ap a))))
  ·exact an (an (an (an (an (an a)))))
 ·rcases a with a|a|a|a|a|a
  ·exact s5 a
  ·exact s1 a
  ·exact s2 a
  ·exact v a
  ·exact s4 a
  ·exact C a.symm
 ·rcases a with a|a|a|a|a|a|a
  ·rw[a];exact lt_of_some h.gn.blk
  ·rw[a];exact h.gn.ar.ee
  ·rw[a];exact h.gn.ar.ef
  ·rw[a];exact h.gn.cd.ee
  ·rw[a];exact D
  ·rw[a];exact lt_of_some hs
  ·rw[a];exact lt_of_some j
 ·exact⟨ap,fun a=>a.elim id (fun e=>by simp[Value.ownBlock] at e)⟩
def e0 (n o:Nat):bZ×b_:=(⟨⟨0,0,List.replicate (n+o) 0,[],tw 2 12⟩,[],[]⟩,⟨[],List.replicate 12 (0,0),[],[]⟩)
theorem ub (n o:Nat)(w:World)(h0:16<=n)(x:n<=256)(A:o<=1024):
 Calls prog 6 #[ae n,ae o] w fun e w'=>∃c F,e=.returned (.tuple #[af c.pb,.bool true])/\(ce c).J F (e0 n o) w'/\(c.a.N=n/\c.a.O=o/\c.bS=n/\c.bT=o)/\(∀b,F b->w.heap.size<=b)/\Below w.heap.size w w':=by
 have P:=AA n o w h0 x A;go_enter func6,ntmps6;go_wp2_with fail;refine P.mono ?_;clear P;rintro e w1 ⟨pw,p,q,pc,ct,s,nb,rfl,i,hs,k,hg,j⟩
 obtain⟨g,t,g1⟩:=AE (AD i hs k j I) Z k hs;have d:=(Below.refl w1.heap.size w1).alloc bJ (.cells #[ae 0,ae 0] 28)
 have j2:=(eT ⟨pw,p,q,pc,s,nb,n,o⟩).below t d;have E:(w1.alloc (.cells #[.int .i64 0,.int .i64 0] 28)).cell? (ah pw 3)=some (.slice (ag nb) 12 12):=(d.cell (p:=ah pw 3) (lt_of_some i.blk)).trans i.cells.2.2.2.1;have f:Hid ((eT ⟨pw,p,q,pc,s,nb,n,o⟩).J g (e0 n o).1 (w1.alloc (.cells #[.int .i64 0,.int .i64 0] 28))/\(∀b,g b->w.heap.size<=b)/\Below w.heap.size w (w1.alloc (.cells #[.int .i64 0,.int .i64 0] 28))):=⟨j2,fun b a=>by obtain⟨G,g2,g3,H,J,K,L⟩:=hg;rcases g1 b a with e|e|e|e|e|e|e<;>(rw[e];assumption),j.trans (d.mono j.size)⟩
 clear i hs k hg j t g1 d j2;go_wp2_with fail;generalize w1.alloc (.cells #[.int .i64 0,.int .i64 0] 28)=B at*;refine(xz n o _).mono ?_;rintro e w3 ⟨rp,rb,l,rfl,b7,g3,b3⟩
 have d:=(Below.refl w3.heap.size w3).alloc bJ (.cells #[af pw,af rp] 65)
 have m:Hid ((ce ⟨⟨pw,p,q,pc,s,nb,n,o⟩,rp,rb,n,o,w3.heap.size⟩).J (fun b=>g b\/l b\/b=w3.heap.size) (e0 n o) (w3.alloc (.cells #[.pointer (some ⟨pw,0,none⟩),.pointer (some ⟨rp,0,none⟩)] 65))/\(∀b,(g b\/l b\/b=w3.heap.size)->w.heap.size<=b)/\Below w.heap.size w (w3.alloc (.cells #[.pointer (some ⟨pw,0,none⟩),.pointer (some ⟨rp,0,none⟩)] 65))):=by
  have C:=f.out.2.2.size;have M:=b3.size;have k1:=(eT ⟨pw,p,q,pc,s,nb,n,o⟩).lt f.out.1;have D:=(cf rp rb n o).lt b7;refine⟨⟨g,l,(eT ⟨pw,p,q,pc,s,nb,n,o⟩).below ((eT ⟨pw,p,q,pc,s,nb,n,o⟩).below f.out.1 b3) d,(cf rp rb n o).below b7 d,aw _ _,fun b a e=>?_,fun a=>?_,fun a=>?_,fun b=>Iff.rfl⟩,fun b a=>?_,(f.out.2.2.trans (b3.mono C)).trans (d.mono I)⟩
  ·have u:=k1 b a;have N:=g3 b e;omega
  ·have u:w3.heap.size<B.heap.size:=k1 _ a;omega
  ·have u:w3.heap.size<w3.heap.size:=D _ a;omega
  ·rcases a with a|a|a
   ·exact f.out.2.1 b a
   ·have:=g3 b a;omega
   ·omega
 clear b7 g3 b3 d f;go_wp2_with fail;exact aW (v:=.tuple #[af w3.heap.size,.bool true]) (by simp[results,results6,go_sem]) rfl ⟨⟨⟨pw,p,q,pc,s,nb,n,o⟩,rp,rb,n,o,w3.heap.size⟩,_,rfl,m.out.1,⟨rfl,rfl,rfl,rfl⟩,m.out.2.1,m.out.2.2⟩
theorem AF (n o:Int)(w:World)(h:n<16\/256<n\/o<0\/1024<o):
 Calls prog 6 #[ae n,ae o] w fun e w'=>e=.returned (.tuple #[.pointer none,.bool false])/\Below w.heap.size w w':=by
 have P:=AB n o w h;clear h;go_enter func6,ntmps6;go_wp2_with fail;refine P.mono ?_;clear P;rintro e w1 ⟨rfl,a⟩
 have b:Hid (Below w.heap.size w (w1.alloc (.cells #[.int .i64 1,.int .i64 (-1)] 28))):=a.trans (((Below.refl w1.heap.size w1).alloc bJ _).mono a.size)
 clear a;go_wp2_with fail;exact aW (v:=.tuple #[.pointer none,.bool false]) (by simp[results,results6,go_sem]) rfl ⟨rfl,b.out⟩
def dZ (c:ej)(S:bZ×b_)(a b B C:Int):bZ×b_:=
 if a=0 then i_ c S b B C else if a=1 then kW c S b B C else if a=2 then jE c S b B C else if a=3 then jC S b C
 else if a=4 then(⟨{S.1.s with rs:=S.1.s.rs.set (bV C) 2},S.1.r,S.1.q⟩,{S.2 with rs:=S.2.rs.set (bV C) (0,0)}) else if a=5 then ir c S b C else S
def jF (c:ej)(S:bZ×b_)(b a B C:Int):Bool:=
 if b=0 then S.2.h3 c.bS a B==decide (0<=eh c.a.N S.1.s.y a B) else if b=1\/b=2 then dH c.a.N S.1.s.y S.1.s.g S.1.s.ws (S.1.s.rs.getD (bV a) 0) B==S.2.gc (bV a) B
 else if b=3 then vc 1 a==rc a (-1152921504606846976) else if b=5 then(S.1.rK c.a (bV a) (bV C)&&!g5 (S.1.r.length+S.1.q.length))==(S.2.rc (bV a) (bV C)==0) else true
section
variable {c:ej}{F:Nat->Prop}{S:bZ×b_}{w:World}
theorem p7 (h:(ce c).J F S w)(hB:jD S.2)(m:0<=c.bS)(m1:c.bS<=100000)(hM:S.1.s.M.length<=100000)(n:S.1.r.length<=90000)(hq:S.1.q.length<=90000)(a b B C:Int):
 Calls prog 8 #[af c.pb,j_ a b B C] w fun e w'=>∃k,e=.returned (.bool (jF c S a b B C))/\(ce c).J k (dZ c S a b B C) w'/\bM F w k w':=by
 unfold jF dZ;by_cases d:a=0
 ·subst d;exact Al h hB m m1 b B C
 by_cases f:a=1
 ·subst f;exact An h hB hM b B C
 by_cases g:a=2
 ·subst g;exact Ai h hB b B C
 by_cases i:a=3
 ·subst i;exact Ah h b B C
 by_cases l:a=4
 ·subst l;exact Ag h b B C
 by_cases j:a=5
 ·subst j;exact Ap h hB n hq b B C
 rw[ao d,ao d,ao f,ao (fun e=>e.elim f g),ao g,ao i,ao i,ao l,ao j,ao j];exact Aq h a b B C I
end
structure fM (s:b_):Prop where
 rl:s.rs.length=12
 rv:∀v∈s.rs,v.1=3->0<=v.2/\v.2<s.T.length
 tv:∀t∈s.T,∀v∈t.2.1,v.1=3->0<=v.2/\v.2<s.T.length
 tl:∀t∈s.T,t.2.1.length<=12
theorem kY {a:Type}{l:List a}{i:Nat}{x y:a}(h:y∈l.set i x):y∈l\/y=x:=List.mem_or_eq_of_mem_set h
theorem lR {a:Type}(l:List a)(i:Nat)(x:a):l.getD i x∈l\/l.getD i x=x:=by
 by_cases h:i<l.length
 ·left;rw[aj,am h];exact aK h
 ·right;rw[aj,List.getElem?_eq_none I];rfl
theorem fM.start (n o:Nat):fM (e0 n o).2:=⟨by simp[e0],fun v a e=>by have b:=List.eq_of_mem_replicate a;subst b;exact absurd e Z,fun t ht=>(by cases ht),fun t ht=>(by cases ht)⟩
theorem fM.th {s:b_}(h:fM s)(i:Nat)(hi:0<=s.th i):s.th i<s.T.length:=by
 unfold b_.th at hi⊢;split at hi
 ·rename_i e;rw[aq e];rcases lR s.rs i (0,0) with a|a
  ·exact(h.rv _ a e).2
  ·rw[a] at e;exact absurd e Z
 ·omega
theorem fM.root {s:b_}(h:fM s)(i:Nat)(v:Int×Int)(b:v.1=3->0<=v.2/\v.2<s.T.length):fM {s with rs:=s.rs.set i v}:=
 ⟨by rw[aM];exact h.rl,fun x c e=>(kY c).elim (fun a=>h.rv x a e) (fun a=>by subst a;exact b e),h.tv,h.tl⟩
theorem fM.field {s:b_}(h:fM s)(a:Nat)(b:Int)(e:(s.gf a b).1=3):0<=(s.gf a b).2/\(s.gf a b).2<s.T.length:=by
 unfold b_.gf at e⊢;rcases lR s.T (s.th a).toNat (0,[],false,false) with c|c
 ·rcases lR (s.T.getD (s.th a).toNat (0,[],false,false)).2.1 b.toNat (0,0) with g|g
  ·exact h.tv _ c _ g e
  ·rw[g] at e;exact absurd e Z
 ·rw[c] at e;exact absurd e V
theorem fM.set {s:b_}(h:fM s)(c B:Nat)(d:Int):fM {s with T:=s.sT c B d}:=by
 have f:(s.sT c B d).length=s.T.length:=aM ..;refine⟨h.rl,fun v b e=>by have:=h.rv v b e;dsimp only;omega,fun t ht v b e=>?_,fun t ht=>?_⟩
 ·dsimp only at ht⊢;rw[f];rcases kY ht with a|a
  ·exact h.tv t a v b e
  ·subst a;dsimp only at b;rcases kY b with g|g
   ·rcases lR s.T (s.th c).toNat (0,[],false,false) with k|k
    ·exact h.tv _ k v g e
    ·rw[k] at g;cases g
   ·subst g;rcases lR s.rs B (0,0) with k|k
    ·exact h.rv _ k e
    ·rw[k] at e;exact absurd e Z
 ·rcases kY ht with a|a
  ·exact h.tl t a
  ·subst a;dsimp only;rw[aM];rcases lR s.T (s.th c).toNat (0,[],false,false) with k|k
   ·exact h.tl _ k
   ·rw[k];simp
theorem fM.fr {s:b_}(h:fM s)(bS:Int)(i:Nat)(k f:Int):fM (s.fr bS i k f)/\(s.fr bS i k f).T.length<=s.T.length+1:=by
 unfold b_.fr;split
 ·rename_i c;have g:=gK k f (of_decide_eq_true c).1;refine⟨⟨by simp[h.rl],fun v b e=>?_,fun t ht v b e=>?_,fun t ht=>?_⟩,V⟩
  ·simp only [List.length_append,List.length_cons,List.length_nil];rcases kY b with a|a
   ·have:=h.rv v a e;omega
   ·subst a;dsimp only;omega
  ·simp only [List.length_append,List.length_cons,List.length_nil];rcases List.mem_append.1 ht with a|a
   ·have:=h.tv t a v b e;omega
   ·rw[a7] at a;subst a;have d:=List.eq_of_mem_replicate b;subst d;exact absurd e Z
  ·rcases List.mem_append.1 ht with a|a
   ·exact h.tl t a
   ·rw[a7] at a;subst a;dsimp only;rw[List.length_replicate];omega
 ·exact⟨h,I⟩
theorem AG {c:ej}{S:bZ×b_}(h:fM S.2)(a b B C:Int):fM (dZ c S a b B C).2/\(dZ c S a b B C).2.T.length<=S.2.T.length+1/\(dZ c S a b B C).2.rg.length<=S.2.rg.length+1/\(dZ c S a b B C).2.wt=S.2.wt:=by
 unfold dZ;by_cases d:a=0
 ·rw[aq d];obtain⟨l,m⟩:=h.fr c.bS (bV C) b B;refine⟨l,m,?_,?_⟩
  ·show(S.2.fr c.bS (bV C) b B).rg.length<=_;unfold b_.fr;split<;>simp
  ·show(S.2.fr c.bS (bV C) b B).wt=_;unfold b_.fr;split<;>rfl
 rw[ao d];by_cases f:a=1
 ·rw[aq f];unfold kW;dsimp only;split
  ·exact⟨h.set (bV b) (bV C) B,by simp[b_.sT],V,rfl⟩
  ·exact⟨h,I,I,rfl⟩
 rw[ao f];by_cases g:a=2
 ·rw[aq g];unfold jE;dsimp only;split
  ·exact⟨h.root _ _ (fun e=>h.field _ _ e),V,V,rfl⟩
  ·exact⟨h,I,I,rfl⟩
 rw[ao g];by_cases i:a=3
 ·rw[aq i];unfold jC;dsimp only;split
  ·exact⟨h.root _ _ (fun e=>absurd e V),V,V,rfl⟩
  ·exact⟨h,I,I,rfl⟩
 rw[ao i];by_cases j:a=4
 ·rw[aq j];exact⟨h.root _ _ (fun e=>absurd e V),V,V,rfl⟩
 rw[ao j];by_cases k:a=5
 ·rw[aq k];unfold ir;dsimp only;split
  ·exact⟨⟨h.rl,h.rv,h.tv,h.tl⟩,V,V,rfl⟩
  ·exact⟨h,I,I,rfl⟩
 rw[ao k];exact⟨h,I,I,rfl⟩
theorem fM.rb {s:b_}(h:fM s)(a:s.T.length<=10000)(b:s.rg.length<=10000)(c:s.wt.length<=10000):jD s:=
 ⟨fun i _ hi=>h.th i hi,h.tl,a,b,c⟩
def iT (N O y g:Nat)(ws M Y G:List Int):Prop:=
 ∀v∈G,∀i,0<=i->i<pf (ld N y g ws v)->cI (ld N y g ws (v+1+i))=true->bQ (ld N y g ws (v+1+i))∈Y->(fS N (dx O) v&&M.contains (cN N v))=true
section
variable {N O y g:Nat}{ws M Y G rs:List Int}
theorem iT.make (h:gm N y g ws Y G rs)(hc:iT N O y g ws M Y G)(hl:ws.length=N+O){k f:Int}(hm:gu N y k f=true):iT N O (dU N y k f) g (dR N y k f ws) M (Y++[(y:Int)]) G:=by
 obtain⟨m,s⟩:=jS hm;have t:=gK k f m;have n:dU N y k f=y+1+f.toNat:=by unfold dU;rw[aq hm]
 have o:dR N y k f ws=eA ws y (hw k f) f.toNat:=by unfold dR;rw[aq hm]
 have l:y+f.toNat<ws.length:=I;rw[n,o];intro v a i d b ha hy;have hi:=h.full.io v a;have p:ld N (y+1+f.toNat) g (eA ws y (hw k f) f.toNat) v=ld N y g ws v:=by rw[dh (eK hi.1 hi.2),dh (eK hi.1 hi.2),gW _ _ _ _ _ l,ao I,ao I]
 rw[p] at b;have c:=kS h.full a d b;have q:ld N (y+1+f.toNat) g (eA ws y (hw k f) f.toNat) (v+1+i)=ld N y g ws (v+1+i):=by rw[dh (eK c.1 c.2),dh (eK c.1 c.2),gW _ _ _ _ _ l,ao I,ao I]
 rw[q] at ha hy;rcases List.mem_append.1 hy with j|j
 ·exact hc v a i d b ha j
 ·simp at j;rcases h.fd v (an a) i d b ha with e|e
  ·have:=(h.full.f4 _ e).2;omega
  ·have:=(h.full.io _ e).1;omega
theorem uc {v:Int}(h0:(N:Int)<=v)(a:v<(N:Int)+g)(hg:g<=O):fS N (dx O) v=true:=by unfold fS dx;rw[ao I];simp only [Bool.and_eq_true,decide_eq_true_eq];omega
theorem p8 {x i z c:Int}(h:dH N y g ws x i≠0):fi N y g ws x i z=ws/\stM N y g ws x i z c M=M:=by
 refine⟨by unfold fi;rw[ao h],?_⟩
 have e:ky N y g ws x i z=false:=by unfold ky;rw[aZ h];rfl
 unfold stM;rw[e];rfl
theorem ud (h:dS N y g ws Y G){u v i j:Int}(b:u∈G)(c:v∈G)(d:0<=i)(f:i<pf (ld N y g ws u))(j0:0<=j)(k:j<pf (ld N y g ws v))(e:u+1+i=v+1+j):u=v:=by
 rcases Int.lt_trichotomy u v with a|a|a
 ·have:=h.dN.apart u b v c a;omega
 ·exact a
 ·have:=h.dN.apart v c u b a;omega
theorem iT.set (h:gm N y g ws Y G rs)(hc:iT N O y g ws M Y G)(hl:ws.length=N+O)(hN:N<=256)(hy:y<=N)(hO:O<=1024)(hg:g<=O)(x i z:Int):iT N O y g (fi N y g ws x i z) (stM N y g ws x i z (dx O) M) Y G:=by
 by_cases n:dH N y g ws x i=0
 ·obtain⟨q,J,t3,d⟩:=lN n;obtain⟨l1,l2⟩:=h.full.lists (O:=O) hN hy hO hg;have f:bQ x∈Y\/bQ x∈G:=by unfold tB at q;rw[l1,l2] at q;have A:=(aQ _ _▸q:cI x=true/\(Y.contains (bQ x)||G.contains (bQ x))=true).2;simpa using A
  have B:=h.full.stands hy f;rw[B] at d;have u:=i6 h.full f t3 d;have K:=gV (O:=O) u hy hg;have C:fi N y g ws x i z=ws.set (bQ x+1+i).toNat z:=by unfold fi;rw[aq n,aq u]
  obtain⟨L,hk⟩:=h.full.set (z:=z) hl hy hg f t3 d;rw[C];have D:∀k,M.contains k=true->(stM N y g ws x i z (dx O) M).contains k=true:=fun k hk=>by
   unfold stM;split
   ·unfold jk;split
    ·rw[o4,hk];rfl
    ·exact hk
   ·exact hk
  intro v b j j0 l ha m;rw[hk v (an b)] at l;have hi:=i6 h.full (an b) j0 l;have P:=gV (O:=O) hi hy hg;have s:ld N y g (ws.set (bQ x+1+i).toNat z) (v+1+j)=if(bQ x+1+i).toNat=(v+1+j).toNat then z else ld N y g ws (v+1+j):=by rw[dh hi,dh hi,i1 _ _ _ _ I]
  rw[s] at ha m;have o:=h.full.io v b;by_cases e:(bQ x+1+i).toNat=(v+1+j).toNat
  ·rw[aq e] at ha m;have t:bQ x+1+i=v+1+j:=I;have hz:=h.full.f4 _ m;have w:hB N g (bQ x)=true:=by
    unfold hB;rw[decide_eq_true_eq];rcases f with a|a
    ·have p:=lO h.full a t3 d;have Q:=kS h.full b j0 l;omega
    ·have:=h.full.io _ a;omega
   have eo:=hR w;have E:ky N y g ws x i z=true:=by unfold ky;rw[ha,w,a8 n];simp only [Bool.true_and,Bool.and_true];unfold hB;rw[decide_eq_true_eq];omega
   have F:bQ x∈G:=by
    rcases f with a|a
    ·have:=h.full.f4 _ a;omega
    ·exact a
   have H:bQ x=v:=ud h.full F b t3 d j0 l t;rw[aQ];refine⟨uc o.1 o.2 hg,?_⟩
   unfold stM;rw[aq E,H,rJ (uc o.1 o.2 hg),o4];simp
  ·rw[ao e] at ha m;have p:=hc v b j j0 l ha m;rw[aQ] at p⊢;exact⟨p.1,D _ p.2⟩
 ·obtain⟨s,t⟩:=p8 (z:=z) (c:=dx O) (M:=M) n;rw[s,t];exact hc
end
structure cG (a:Wc)(s:dT):Prop where
 n0:16<=a.N
 n1:a.N<=256
 o1:a.O<=1024
 y1:s.y<=a.N
 g1:s.g<=a.O
 l1:s.ws.length=a.N+a.O
 r1:s.rs.length=12
structure d3 (a:Wc)(s:dT)(Y G:List Int):Prop where
 inv:gm a.N s.y s.g s.ws Y G s.rs
 cd:iT a.N a.O s.y s.g s.ws s.M Y G
section
variable {a:Wc}{s:dT}{Y G:List Int}
theorem d3.root (h:d3 a s Y G)(k:Nat)(x:Int)(b:cI x=true->bQ x∈Y\/bQ x∈G):d3 a {s with rs:=s.rs.set k x} Y G:=⟨h.inv.root k x b,h.cd⟩
theorem d3.set (h:d3 a s Y G)(b:cG a s)(k m:Nat)(hk:k<12)(i:Int)(hm:m<12):
 d3 a {s with ws:=fi a.N s.y s.g s.ws (s.rs.getD k 0) i (s.rs.getD m 0),M:=stM a.N s.y s.g s.ws (s.rs.getD k 0) i (s.rs.getD m 0) (dx a.O) s.M} Y G:=by
 refine⟨?_,iT.set h.inv h.cd b.l1 b.n1 b.y1 b.o1 b.g1 _ _ _⟩
 dsimp only;by_cases d:dH a.N s.y s.g s.ws (s.rs.getD k 0) i=0
 ·obtain⟨g,n,t3,e⟩:=lN d;have j:cI (s.rs.getD k 0)=true:=by rw[<-h.inv.tb (O:=a.O) b.n1 b.y1 b.o1 b.g1 k (by rw[b.r1];exact hk)];exact g
  have f:=h.inv.at k (by rw[b.r1];exact hk) j;rw[h.inv.full.stands b.y1 f] at e;have hi:=i6 h.inv.full f t3 e;unfold fi;rw[aq d,aq hi];exact h.inv.set b.l1 b.y1 b.g1 f t3 e (fun l=>h.inv.at m (by rw[b.r1];exact hm) l)
 ·rw[(p8 (M:=s.M) (c:=dx a.O) d).1];exact h.inv
theorem d3.get (h:d3 a s Y G)(b:cG a s)(k:Nat)(hk:k<12)(i:Int)(e:dH a.N s.y s.g s.ws (s.rs.getD k 0) i=0)(ha:cI (ld a.N s.y s.g s.ws (bQ (s.rs.getD k 0)+1+i))=true):bQ (ld a.N s.y s.g s.ws (bQ (s.rs.getD k 0)+1+i))∈Y\/bQ (ld a.N s.y s.g s.ws (bQ (s.rs.getD k 0)+1+i))∈G:=by
 obtain⟨f,j,t3,c⟩:=lN e;have g:cI (s.rs.getD k 0)=true:=by rw[<-h.inv.tb (O:=a.O) b.n1 b.y1 b.o1 b.g1 k (by rw[b.r1];exact hk)];exact f
 have d:=h.inv.at k (by rw[b.r1];exact hk) g;rw[h.inv.full.stands b.y1 d] at c;exact h.inv.fd _ d i t3 c ha
theorem d3.make (h:d3 a s Y G)(b:cG a s)(k f:Int)(m:Nat):∃d,d3 a {s with y:=dU a.N s.y k f,ws:=dR a.N s.y k f s.ws,rs:=if 0<=eh a.N s.y k f then s.rs.set m (ew 3 (eh a.N s.y k f)) else s.rs} d G:=by
 cases hm:gu a.N s.y k f
 ·refine⟨Y,?_⟩
  have e:dU a.N s.y k f=s.y:=by unfold dU;rw[hm];rfl
  have g:dR a.N s.y k f s.ws=s.ws:=by unfold dR;rw[hm];rfl
  have c:¬0<=eh a.N s.y k f:=by unfold eh;rw[hm,ao V];omega
  rw[e,g,ao c];exact h
 ·have c:eh a.N s.y k f=s.y:=by unfold eh;rw[hm];rfl
  rw[c,aq I];have i:=h.inv.make (O:=a.O) b.l1 hm;obtain⟨l,j⟩:=kR s.y (by have:=b.y1;have:=b.n1;omega)
  exact⟨Y++[(s.y:Int)],i.root m _ (fun _=>ap (by rw[j];simp)),iT.make h.inv h.cd b.l1 hm⟩
end
theorem AH {c:ej}{S:bZ×b_}{Y G:List Int}(h:d3 c.a S.1.s Y G)(d:cG c.a S.1.s)(a b B C:Int):∃l,d3 c.a (dZ c S a b B C).1.s l G:=by
 unfold dZ;by_cases e:a=0
 ·rw[aq e];exact h.make d b B (bV C)
 rw[ao e];by_cases f:a=1
 ·rw[aq f];exact⟨Y,h.set d _ _ (dY b) B (dY C)⟩
 rw[ao f];by_cases g:a=2
 ·rw[aq g];refine⟨Y,?_⟩
  unfold jE;dsimp only;split
  ·rename_i m;exact h.root _ _ (fun ha=>h.get d _ (dY b) B m ha)
  ·exact h
 rw[ao g];by_cases i:a=3
 ·rw[aq i];refine⟨Y,?_⟩
  unfold jC;dsimp only;split
  ·rename_i n;refine h.root _ _ (fun ha=>?_)
   have o:=(kk 1 b n).1;rw[o] at ha;exact absurd ha Z
  ·exact h
 rw[ao i];by_cases j:a=4
 ·rw[aq j];exact⟨Y,h.root _ _ (fun ha=>absurd ha Z)⟩
 rw[ao j];by_cases k:a=5
 ·rw[aq k];refine⟨Y,?_⟩
  unfold ir bZ.kX;dsimp only;split
  ·split
   ·exact h
   ·exact h
  ·exact h
 rw[ao k];exact⟨Y,h⟩
theorem ue {b:Type}(o:eQ b)(is:b->Int->Bool)(kp:b->Int->Int×b)(hl:∀s x,(o.wt (kp s x).2).length=(o.wt s).length):∀(n:Nat)(s:b)(a:List bN),(o.wt (eu (cm o is kp) n s a).1).length+(eu (cm o is kp) n s a).2.length=(o.wt s).length+a.length
 |0,s,a=>rfl
 |n+1,s,a=>by
  have c:=pd o is kp hl s a;have d:=l6 (cm o is kp) s a;by_cases h:(pts (cm o is kp) s a).1.length=0
  ·rw[lA _ _ _ _ h];dsimp only;omega
  ·rw[lB _ _ _ _ h,ue o is kp hl n];omega
theorem n7 {a:Type}(o:eQ a)(is:a->Int->Bool)(kp:a->Int->Int×a)(nw:a->Int->Int)(hl:∀s x,(o.wt (kp s x).2).length=(o.wt s).length)(s:a)(r:List bN):(el o is kp nw s r).length+(em o is kp nw s r).length<=r.length+(o.wt s).length:=by
 have b:=ue o is kp hl ((r.filter (fun e=>!is s e.2)).length+1) s (r.filter (fun e=>!is s e.2))
 have c:(em o is kp nw s r).length<=(o.wt (eH o is kp s r)).length:=by unfold em;rw[aE];exact aY _ _
 have d:(el o is kp nw s r).length<=(r.filter (fun e=>is s e.2)).length:=by unfold el;rw[aE];exact aY _ _
 have f:(r.filter (fun e=>is s e.2)).length+(r.filter (fun e=>!is s e.2)).length=r.length:=by
  clear b c d
  induction r with
  |nil=>rfl
  |cons e r g=>
   simp only [List.filter_cons];cases is s e.2<;>simp<;>omega
 have i:(o.wt (eH o is kp s r)).length<=(o.wt s).length+(r.filter (fun e=>!is s e.2)).length:=by unfold eH;omega
 omega
theorem AI (a:Wc)(S:bZ):(S.cut a).r.length+(S.cut a).q.length<=S.r.length+S.q.length:=by
 unfold bZ.cut;split
 ·exact ak _
 ·have b:=n7 (dE bU) (fun s x=>(S.s.k0 a).al s.1 x) (S.s.k0 a).ke (fun s x=>(S.s.k0 a).nw s.1 x) (fun s x=>pR (S.s.k0 a) s x) (S.t3 a) S.r;have d:(S.t3 a).2.length=S.q.length:=by unfold bZ.t3 bP.sp;rw[mJ]
  dsimp only;generalize S.t3 a=t at*;have c:(dE bU).wt t=t.2:=rfl;rw[c] at b;unfold bP.sR bP.fw;omega
theorem uf (c:ej)(S:bZ×b_)(a b B C:Int):(dZ c S a b B C).1.s.M.length<=S.1.s.M.length+1/\(dZ c S a b B C).1.r.length+(dZ c S a b B C).1.q.length<=S.1.r.length+S.1.q.length+1:=by
 unfold dZ;split
 ·exact⟨Nat.le_succ _,Nat.le_succ _⟩
 split
 ·exact⟨z1 ..,Nat.le_succ _⟩
 split
 ·exact⟨Nat.le_succ _,Nat.le_succ _⟩
 split
 ·exact⟨Nat.le_succ _,Nat.le_succ _⟩
 split
 ·exact⟨Nat.le_succ _,Nat.le_succ _⟩
 split
 ·unfold ir bZ.kX;dsimp only;split
  ·split
   ·exact⟨Nat.le_succ _,Nat.le_succ _⟩
   ·refine⟨Nat.le_succ _,?_⟩
    simp only [List.length_append,List.length_cons,List.length_nil];omega
  ·exact⟨Nat.le_succ _,Nat.le_succ _⟩
 ·exact⟨Nat.le_succ _,Nat.le_succ _⟩
end Go.Proofs.YtjpjpjemibgjpaaGreat
