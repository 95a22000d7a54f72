import Derived.Test.YtjpjpjemibgjpaaGreatJ19
namespace Go.Proofs.YtjpjpjemibgjpaaGreat
set_option maxRecDepth 100000
set_option maxHeartbeats 4000000
open Tryz
open Go.RowKit W Kp cg
theorem zG {P:Prop}(h:P:=by
 rcases hm with e|⟨g1,g2,g3⟩
 ·rw[e] at ha hy⊢;rcases hz a zH i i0 i1 ha with d|d
  ·unfold ca.cK at hy;rw[ha] at hy;simp at hy;exact absurd d hy
  ·exact aZ _ d
 ·have hT:cf (k.l0 z (a+1+i))∈k.T:=by unfold ca.cK at g1;rw[ba] at g1;simpa using g1.2
  have hH:=h.mi.fh _ hT g2;have hbd:=h.mi.iV hH;have hN:=h.mi.ci.hN';have hO:=h.mi.ci.hO;have hg:=h.mi.ci.hg;obtain⟨n,hn⟩:∃n:Nat,s.f (cf (k.l0 z (a+1+i)))=n:=⟨(s.f (cf (k.l0 z (a+1+i)))).toNat,V⟩
  rw[g3,hn,(mU n V).2,<-hn];exact bc _ hH):P:=h
structure Wf (w:au)(pw p q pc cM sd nb N O y g:Nat)(ws:List Int)(c:Int)(M rs:List Int):Prop where
 hZ:gZ w pw p q pc cM N O y g ws c M (aj sd) (.slice (ak nb) 12 12)
 Hg:w.heap[sd]?=some (.cells #[.slice none 0 0,.slice none 0 0] 128 (0,0))
 rts:w.heap[nb]?=some (.cells (rs.map (Value.int .i64)).toArray 2 (0,0))
 rl:rs.length=12
 nq:nb≠q
section
variable {w w':au}{pw p q pc cM sd nb N O y g:Nat}{ws:List Int}{c:Int}{M rs:List Int}
theorem Wf.apart (h:Wf w pw p q pc cM sd nb N O y g ws c M rs):(sd≠p/\sd≠q/\sd≠pc/\sd≠cM)/\(nb≠p/\nb≠q/\nb≠pc/\nb≠cM)/\nb≠pw/\nb≠sd:=by
 obtain⟨D,⟨k,l,f,_⟩,_⟩:=h.hZ.cd.hq;have i:=h.hZ.ar.hp;have j:=h.hZ.cd.hp;have d:=h.Hg;have b:=h.rts;refine⟨⟨fun e=>?_,fun e=>?_,fun e=>?_,fun e=>?_⟩,⟨fun e=>?_,h.nq,fun e=>?_,fun e=>?_⟩,fun e=>?_,fun e=>?_⟩
 ·rw[e,i] at d;simp at d
 ·rw[e,h.hZ.ar.hq] at d;simp at d
 ·rw[e,j] at d;simp at d
 ·rw[e,f] at d;simp at d
 ·rw[e,i] at b;simp at b
 ·rw[e,j] at b;simp at b
 ·rw[e,f] at b;simp at b
 ·rw[e,h.hZ.blk] at b;simp at b
 ·rw[e,d] at b;simp at b
end
def ud:List Int:=ff (List.replicate 24 0) 0 (hw 1 2) 2
def qQ:List Int:=fZ 16 3 0 ud (ew 3 0) 1 20
def zI:List Int:=(tw 2 12).set 0 (ew 3 0)
theorem b1:dT 16 3 0 ud (ew 3 0) 1=0:=by decide+kernel
theorem b2:stM 16 3 0 ud (ew 3 0) 1 20 (dU 8) []=[]:=by decide+kernel
theorem b3:dT 16 3 0 qQ (ew 3 0) 1=0:=by decide+kernel
theorem b4:ld 16 3 0 qQ (cf (ew 3 0)+1+1)=20:=by decide+kernel
theorem b5:(fe 16 3 0 qQ [] zI).1=[(3,0),(0,0),(0,0),(0,0),(0,0),(0,0),(0,0),(0,0),(0,0),(0,0),(0,0),(0,0)]:=by decide+kernel
theorem b6:(fe 16 3 0 qQ [] zI).2.2=[(1,[(0,0),(1,5)])]:=by decide+kernel
theorem Hh {w w':au}{pw p q pc cM s nb n o:Nat}(b:gZ w' pw p q pc cM n o 0 0 (List.replicate (n+o) 0) (dU o) [] (aj s) (.slice (ak nb) 12 12))(hs:w'.heap[s]?=some (.cells #[.slice none 0 0,.slice none 0 0] 128 (0,0)))(c:w'.heap[nb]?=some (.cells ((tw 2 12).map (Value.int .i64)).toArray 2 (0,0)))(_:Below w.heap.size w w')(h0:16<=n):
 Wf w' pw p q pc cM s nb n o 0 0 (List.replicate (n+o) 0) (dU o) [] (tw 2 12):=by
 refine⟨b,hs,c,aa,fun e=>?_⟩
 have:=b.ar.hq;rw[<-e,c] at this
 simp only [Option.some.injEq,Obj.cells.injEq,and_true] at this
 have d:=congrArg (fun a:Array Value=>a[0]?) this
 rw[show n+o=(n+o-1)+1 by omega] at d;simp[tw,List.replicate_succ] at d
theorem Hi {w:au}{pw p q pc cM sd nb N O y g:Nat}{ws M rs:List Int}(h:Wf w pw p q pc cM sd nb N O y g ws (dU O) M rs)(m:rs.length=12)(k:w.heap[nb]?=some (.cells (rs.map (Value.int .i64)).toArray 2 (0,0)))(hs:w.heap[sd]?=some (.cells #[.slice none 0 0,.slice none 0 0] 128 (0,0))):
 ∃F,(fq ⟨pw,p,q,pc,sd,nb,N,O⟩).J F ⟨⟨y,g,ws,M,rs⟩,[],[]⟩ w/\∀b,F b->b=pw\/b=p\/b=q\/b=pc\/b=cM\/b=sd\/b=nb:=by
 obtain⟨a1,a2,n,o,s,t,u,v⟩:=h.hZ.apart;obtain⟨⟨s1,s2,x,s4⟩,⟨n1,A,B,n4⟩,C,D⟩:=h.apart;have s5:sd≠pw:=fun e=>by have l:=h.hZ.blk;rw[<-e,hs] at l;simp at l
 have E:=h.hZ.cd.eK;refine⟨fun b=>b=pw\/b=p\/b=q\/b=pc\/b=cM\/b=sd\/b=nb,⟨fun b=>b=pw\/b=p\/b=q\/b=pc\/b=cM\/b=sd\/b=nb,none,0,⟨fun b=>b=pw\/b=p\/b=q\/b=pc\/b=cM\/b=nb,none,0,⟨fun b=>if b=p\/b=q then 1 else if b=pc\/b=cM then 2 else if b=pw then 3 else if b=nb then 4 else 0,cM,?_,fun b=>?_⟩,hs,a7 _ _ _ _,fun b c=>?_,aI (aI (aI (aI (aI (aJ rfl))))),fun c=>?_,fun b e=>by simp[Value.ownBlock] at e,fun b c=>?_⟩,a7 _ _ _ _,fun b e=>by simp[Value.ownBlock] at e,fun b=>?_⟩,fun b c=>c⟩
 ·exact {
   ar:=h.hZ.ar,cd:=h.hZ.cd,wd:=h.hZ.blk,rt:=k,rl:=m
   a1:=Z
   a2:=Z
   c1:=by simp[Ne.symm s,Ne.symm u]
   c2:=by simp[Ne.symm t,Ne.symm v]
   w1:=by simp[a1,a2,n,o]
   r1:=by simp[n1,A,B,n4,C]
   le:=fun b=>by
    split
    ·decide
    ·split
     ·decide
     ·split
      ·decide
      ·split<;>decide
   lt:=fun b c=>by
    have k1:=h.hZ.ar.eJ;have G:=h.hZ.ar.eK;have H:=h.hZ.cd.eJ;have I:=lt_of_some h.hZ.blk;have k5:=lt_of_some k;by_cases d:b=p\/b=q
    ·rcases d with e|e<;>(rw[e];assumption)
    ·rw[aE d] at c;by_cases f:b=pc\/b=cM
     ·rcases f with e|e<;>(rw[e];assumption)
     ·rw[aE f] at c;by_cases i:b=pw
      ·rw[i];assumption
      ·rw[aE i] at c;by_cases j:b=nb
       ·rw[j];assumption
       ·rw[aE j] at c;exact absurd rfl c}
 ·dsimp only;by_cases d:b=p\/b=q
  ·rw[aH d];rcases d with e|e<;>simp[e]
  ·rw[aE d];by_cases f:b=pc\/b=cM
   ·rw[aH f];rcases f with e|e<;>simp[e]
   ·rw[aE f];by_cases i:b=pw
    ·rw[aH i];simp[i]
    ·rw[aE i];by_cases j:b=nb
     ·rw[aH j];simp[j]
     ·rw[aE j];simp only [not_or] at d f;simp[d,f,i,j]
 ·rcases c with c|c|c|c|c|c
  ·exact aJ c
  ·exact aI (aJ c)
  ·exact aI (aI (aJ c))
  ·exact aI (aI (aI (aJ c)))
  ·exact aI (aI (aI (aI (aJ c))))
  ·exact aI (aI (aI (aI (aI (aI c)))))
 ·rcases c with c|c|c|c|c|c
  ·exact s5 c
  ·exact s1 c
  ·exact s2 c
  ·exact x c
  ·exact s4 c
  ·exact D c.symm
 ·rcases c with c|c|c|c|c|c|c
  ·rw[c];exact lt_of_some h.hZ.blk
  ·rw[c];exact h.hZ.ar.eJ
  ·rw[c];exact h.hZ.ar.eK
  ·rw[c];exact h.hZ.cd.eJ
  ·rw[c];exact E
  ·rw[c];exact lt_of_some hs
  ·rw[c];exact lt_of_some k
 ·exact⟨aJ,fun c=>c.elim id (fun e=>by simp[Value.ownBlock] at e)⟩
def iM (n o:Nat):ck×cj:=(⟨⟨0,0,List.replicate (n+o) 0,[],tw 2 12⟩,[],[]⟩,⟨[],List.replicate 12 (0,0),[],[]⟩)
section
variable {c:ka}{F:Nat->Prop}{S:ck×cj}{w:au}
end
theorem zJ {b:Type}{l:List b}{i:Nat}{x y:b}(h:y∈l.set i x):y∈l\/y=x:=bB h
def kG (N O y g:Nat)(ws M Y G:List Int):Prop:=
 ∀v∈G,∀i,0<=i->i<pf (ld N y g ws v)->cX (ld N y g ws (v+1+i))=true->cf (ld N y g ws (v+1+i))∈Y->(fQ N (dU O) v&&M.contains (cN N v))=true
section
variable {N O y g:Nat}{ws M Y G rs:List Int}
theorem kG.make (h:hX N y g ws Y G rs)(hc:kG N O y g ws M Y G)(hl:ws.length=N+O){k f:Int}(hm:gY N y k f=true):kG N O (ix N y k f) g (eM N y k f ws) M (Y++[(y:Int)]) G:=by
 obtain⟨l,q⟩:=ow hm;have s:=iE k f l;have m:ix N y k f=y+1+f.toNat:=by unfold ix;rw[aH hm]
 have n:eM N y k f ws=ff ws y (hw k f) f.toNat:=by unfold eM;rw[aH hm]
 have hlt:y+f.toNat<ws.length:=V;rw[m,n];intro v b i d c ha hy;have hi:=h.full.io v b;have o:ld N (y+1+f.toNat) g (ff ws y (hw k f) f.toNat) v=ld N y g ws v:=by exact qr
 rw[o] at c;have hb:=mW h.full b d c;have p:ld N (y+1+f.toNat) g (ff ws y (hw k f) f.toNat) (v+1+i)=ld N y g ws (v+1+i):=by exact zy
 rw[p] at ha hy;rcases List.mem_append.1 hy with j|j
 ·exact hc v b i d c ha j
 ·simp at j;rcases h.fd v (aI b) i d c ha with e|e
  ·have:=(h.full.ii _ e).2;omega
  ·have:=(h.full.io _ e).1;omega
theorem zK {v:Int}(h0:(N:Int)<=v)(b:v<(N:Int)+g)(hg:g<=O):fQ N (dU O) v=true:=by unfold fQ dU;simp only [Bool.and_eq_true,decide_eq_true_eq];omega
theorem nY {x i z c:Int}(h:dT N y g ws x i≠0):fZ N y g ws x i z=ws/\stM N y g ws x i z c M=M:=by
 refine⟨by unfold fZ;rw[aE h],?_⟩
 have e:mx N y g ws x i z=false:=by unfold mx;rw[bz h];rfl
 unfold stM;rw[e];rfl
theorem zL (h:d6 N y g ws Y G){u v i j:Int}(c:u∈G)(d:v∈G)(f:0<=i)(k:i<pf (ld N y g ws u))(j0:0<=j)(l:j<pf (ld N y g ws v))(e:u+1+i=v+1+j):u=v:=by
 rcases Int.lt_trichotomy u v with b|b|b
 ·have:=h.ee.apart u c v d b;omega
 ·exact b
 ·have:=h.ee.apart v d u c b;omega
theorem kG.set (h:hX N y g ws Y G rs)(hc:kG N O y g ws M Y G)(hl:ws.length=N+O)(hN:N<=256)(hy:y<=N)(hO:O<=1024)(hg:g<=O)(x i z:Int):kG N O y g (fZ N y g ws x i z) (stM N y g ws x i z (dU O) M) Y G:=by
 by_cases m:dT N y g ws x i=0
 ·obtain⟨q,E,t3,c⟩:=mT m;obtain⟨l1,l2⟩:=h.full.lists hN hy hO hg;have d:cf x∈Y\/cf x∈G:=by unfold tB at q;rw[l1,l2] at q;simpa using(ba _ _▸q:cX x=true/\(Y.contains (cf x)||G.contains (cf x))=true).2
  rw[(h.full.stands hy d)] at c;have u:=jF h.full d t3 c;have F:=jd u hy hg;have A:fZ N y g ws x i z=ws.set (cf x+1+i).toNat z:=by unfold fZ;rw[aH m,aH u]
  obtain⟨H,hk⟩:=h.full.set hl hy hg d t3 c;rw[A];have B:∀k,M.contains k=true->(stM N y g ws x i z (dU O) M).contains k=true:=fun k hk=>by
   unfold stM;split
   ·unfold kU;split
    ·rw[se,hk];rfl
    ·exact hk
   ·exact hk
  intro v f j j0 n ha l;rw[hk v (aI f)] at n;have hi:=jF h.full (aI f) j0 n;have s:ld N y g (ws.set (cf x+1+i).toNat z) (v+1+j)=if(cf x+1+i).toNat=(v+1+j).toNat then z else ld N y g ws (v+1+j):=by rw[dX hi,dX hi,jS _ _ _ _ V]
  rw[s] at ha l;have o:=h.full.io v f;by_cases e:(cf x+1+i).toNat=(v+1+j).toNat
  ·rw[aH e] at ha l;have t:cf x+1+i=v+1+j:=V;have hz:=h.full.ii _ l;have w:hB N g (cf x)=true:=by
    unfold hB;rw[decide_eq_true_eq];rcases d with b|b
    ·have p:=mV h.full b t3 c;omega
    ·have:=h.full.io _ b;omega
   have eo:=jc w;have C:mx N y g ws x i z=true:=by unfold mx;rw[ha,w,bm m];simp only [Bool.true_and,Bool.and_true];unfold hB;rw[decide_eq_true_eq];omega
   have D:cf x∈G:=by
    rcases d with b|b
    ·have:=h.full.ii _ b;omega
    ·exact b
   rw[ba];refine⟨zK o.1 o.2 hg,?_⟩
   unfold stM;rw[aH C,(zL h.full D f t3 c j0 n t),wH (zK o.1 o.2 hg),se];simp
  ·rw[aE e] at ha l;have p:=hc v f j j0 n ha l;rw[ba] at p⊢;exact⟨p.1,B _ p.2⟩
 ·obtain⟨s,t⟩:=nY m;rw[s,t];exact hc
end
structure cI (a:Wc)(s:ec):Prop where
 n0:16<=a.N
 n1:a.N<=256
 o1:a.O<=1024
 y1:s.y<=a.N
 g1:s.g<=a.O
 l1:s.ws.length=a.N+a.O
 r1:s.rs.length=12
structure em (a:Wc)(s:ec)(Y G:List Int):Prop where
 inv:hX a.N s.y s.g s.ws Y G s.rs
 cd:kG a.N a.O s.y s.g s.ws s.M Y G
section
variable {a:Wc}{s:ec}{Y G:List Int}
theorem em.root (h:em a s Y G)(k:Nat)(x:Int)(b:cX x=true->cf x∈Y\/cf x∈G):em a {s with rs:=s.rs.set k x} Y G:=⟨h.inv.root k x b,h.cd⟩
theorem em.set (h:em a s Y G)(b:cI a s)(k m:Nat)(hk:k<12)(i:Int)(hm:m<12):
 em a {s with ws:=fZ a.N s.y s.g s.ws (s.rs.getD k 0) i (s.rs.getD m 0),M:=stM a.N s.y s.g s.ws (s.rs.getD k 0) i (s.rs.getD m 0) (dU a.O) s.M} Y G:=by
 refine⟨?_,kG.set h.inv h.cd b.l1 b.n1 b.y1 b.o1 b.g1 _ _ _⟩
 by_cases d:dT a.N s.y s.g s.ws (s.rs.getD k 0) i=0
 ·obtain⟨g,n,t3,e⟩:=mT d;have j:cX (s.rs.getD k 0)=true:=by rw[<-h.inv.tb b.n1 b.y1 b.o1 b.g1 k (by rw[b.r1];exact hk)];exact g
  have f:=h.inv.at k (by rw[b.r1];exact hk) j;rw[h.inv.full.stands b.y1 f] at e;unfold fZ;rw[aH d,aH (jF h.inv.full f t3 e)];exact h.inv.set b.l1 b.y1 b.g1 f t3 e (fun l=>h.inv.at m (by rw[b.r1];exact hm) l)
 ·rw[(nY (M:=s.M) (c:=dU a.O) d).1];exact h.inv
end
theorem zM {c:Type}(o:fB c)(is:c->Int->Bool)(kp:c->Int->Int×c)(hl:∀s x,(o.wt (kp s x).2).length=(o.wt s).length):∀(n:Nat)(s:c)(b:List bZ),(o.wt (eD (cm o is kp) n s b).1).length+(eD (cm o is kp) n s b).2.length=(o.wt s).length+b.length
 |0,s,b=>rfl
 |n+1,s,b=>by
  have d:=sA o is kp hl s b;have e:=om (cm o is kp) s b;by_cases h:(pts (cm o is kp) s b).1.length=0
  ·rw[lN _ _ _ _ h];dsimp only;omega
  ·rw[lO _ _ _ _ h,zM o is kp hl n];omega
theorem qR {b:Type}(o:fB b)(is:b->Int->Bool)(kp:b->Int->Int×b)(nw:b->Int->Int)(hl:∀s x,(o.wt (kp s x).2).length=(o.wt s).length)(s:b)(r:List bZ):(eP o is kp nw s r).length+(eQ o is kp nw s r).length<=r.length+(o.wt s).length:=by
 have c:=zM o is kp hl ((r.filter (fun e=>!is s e.2)).length+1) s (r.filter (fun e=>!is s e.2))
 have d:(eQ o is kp nw s r).length<=(o.wt (fi o is kp s r)).length:=by unfold eQ;rw[aQ];exact bk _ _
 have f:(eP o is kp nw s r).length<=(r.filter (fun e=>is s e.2)).length:=by unfold eP;rw[aQ];exact bk _ _
 have g:(r.filter (fun e=>is s e.2)).length+(r.filter (fun e=>!is s e.2)).length=r.length:=by
  clear c d f
  induction r with
  |nil=>rfl
  |cons e r i=>
   simp only [List.filter_cons];cases is s e.2<;>simp<;>omega
 have j:(o.wt (fi o is kp s r)).length<=(o.wt s).length+(r.filter (fun e=>!is s e.2)).length:=by unfold fi;omega
 omega
theorem Hj (a:Wc)(S:ck):(S.cut a).r.length+(S.cut a).q.length<=S.r.length+S.q.length:=by
 unfold ck.cut;split
 ·exact aA _
 ·have b:=qR (dK ch) (fun s x=>(S.s.k0 a).al s.1 x) _ (fun s x=>(S.s.k0 a).nw s.1 x) (fun s x=>tW (S.s.k0 a) s x) (S.t3 a) S.r;have d:(S.t3 a).2.length=S.q.length:=by unfold ck.t3 ca.sp;rw[pa]
  dsimp only;generalize S.t3 a=t at*;have c:(dK ch).wt t=t.2:=rfl;rw[c] at b;unfold ca.sR ca.i5;omega
theorem cU.pl {k:b8}{s:ct}(h:cU k s)(hN:(0:Int)<=k.a.N):cU k (k.pl s).1:=by
 obtain⟨P,_,b,d⟩:=pn k (fun c=>!(s.f c==-1)) k.T (s,k.a.N) h.nd (fun c _=>rfl)
 have P:Pos (fun c=>pf (k.ld c)) (fun c=>!(s.f c==-1)) (k.pl s).1.f k.a.N k.T (k.pl s).2:=P;have b:(k.pl s).1.td=s.td:=b;have d:(k.pl s).1.ep=s.ep:=d;have f:k.lost (k.pl s).1<=k.lost s:=by
  unfold b8.lost;rw[<-List.countP_eq_length_filter,<-List.countP_eq_length_filter];refine List.countP_mono_left (fun c hc e=>?_)
  cases q:(s.f c==-1)
  ·have:=(P.bd (fun c=>(di _).1) c hc (by rw[q];rfl)).1;have e:(k.pl s).1.f c=-1:=by simpa using e
   omega
  ·rfl
 have:=h.sum;exact⟨h.nd,h.ps,by rw[b];exact h.td,by rw[d];exact h.ep,h.tl,by rw[b,d];omega⟩
theorem qS {b c:Type}(g:b->c)(fm:b->Int->Int)(st:b->Int->b)(h:∀t a,g (st t a)=g t):∀(l:List Int)(t:b),g (gJ fm st t l)=g t
 |[],_=>rfl
 |a::l,t=>by
  have e:gJ fm st t (a::l)=gJ fm st (e6 fm st t a) l:=rfl;rw[e,qS g fm st h l];unfold e6;split
  ·rfl
  ·exact h t a
theorem zN (k:b8)(s:ct):∀n,(k.fK s n).a=k.a
 |0=>rfl
 |n+1=>zN k s n
theorem zO (k:b8)(s:ct)(a:Int):∀n,(k.gE s a n).a=k.a
 |0=>rfl
 |n+1=>zO k s a n
theorem Hk (k:b8)(s:ct):(k.eW s).a=k.a:=by
 unfold b8.eW b8.nR;rw[qS (fun k:b8=>k.a) _ _ (fun t a=>?_)]
 ·exact zN k s 12
 ·unfold b8.jD;rw[zO];exact(t6 t s a).1
theorem Hl (k:b8)(s:ct):(k.sl s).a=k.a:=by
 have b:(k.lg s k.G).1.a=k.a:=qS (fun t:b8×Int=>t.1.a) (fun _ a=>s.f a) (b8.iU s) (fun _ _=>rfl) k.G (k,0)
 have c:(k.sl2 s).a=(k.sl1 s).a:=qS (fun t:b8=>t.a) (fun(_:b8) a=>s.f a) (fun k a=>k.cop a) (fun _ _=>rfl) k.Y (k.sl1 s)
 have d:(k.sl s).a=(k.sl2 s).a:=rfl;have e:(k.sl1 s).a=(k.lg s k.G).1.a:=rfl;rw[d,c,e,b]
theorem zP {c:e4}{k:b8}{vt e:Value}{F:Nat->Prop}{s:ct}{w:au}(h:(cS c k vt e).J F s w):∃d,(dY k.a).J d k.s w/\∀b,d b->F b:=by obtain⟨d,own,h,f⟩:=h;exact⟨d,h.wd,fun b g=>(f b).2 (by rw[(h.w1 b).1 g];decide)⟩
section
variable {a:Wc}{F:Nat->Prop}{S:ck}{w:au}
theorem Hm (h:(fq a).J F S w)(hq:S.q.length+S.r.length<=90000)(cL:S.fD a=false->∃G,il (S.k5 a) (S.dG a) G/\G 0 (S.k5 a,0)):
 Calls prog 20 #[aj a.pw] w fun e w'=>∃f,e=.returned (ah (S.hQ a))/\(fq a).J f (S.dA a) w'/\b_ F w f w':=by
 obtain⟨cM,ar,ag,a3,H,A,g⟩:=h;obtain⟨u,P,Q,g1,g2,g3,i,g5,I,v,ai⟩:=a3;have cN:=hide cL;have dV:=(jZ g1).1;have B:=BF g1 g2 g3 H i g5 I;have ca:=jp v ai A g;have cO:=G2 (S:=S) g1 ⟨g2,H,g3⟩ V V;have cb:av (S.hQ a=if S.fD a=true then 3 else 0):=rfl;have cc:av (S.dA a=if S.fD a=true then S else⟨(S.k6 a).s,(S.k5 a).tR (S.cz a,S.q3 a) (S.r3 a),(S.k5 a).hP (S.cz a,S.q3 a) (S.r3 a)⟩):=rfl;go_enter func20,ntmps20;go_wp2_with fail;refine cO.mono ?_;rintro e w1 ⟨c,br,J,cd,rfl,cP,cQ,cR,cT,cV⟩
 have cW:av (b_ u w cd w1):=⟨Fr.of cV,cT⟩
 have al:=dC cQ cR;obtain⟨cX,⟨cY,ap⟩,cZ⟩:=iT cP;have ap:=ap;have c0:=Gb cY ap;have c3:av (∀j t w',(eH c (S.s.j0 a)).J j t w'->cU (S.s.j0 a) t->b_ cX w1 j w'->∃f,(c9 (dN c (S.s.j0 a)) c.bs (.slice br S.r.length J)).J f (t,S.q) w'/\b_ cd w1 f w'):=fun j t w' q1 C q3=>cZ (dN c (S.s.j0 a)) j t w' ⟨q1,C⟩ q3;have c4:=hide (du.cJ ap 12).eS;go_wp2_with fail;refine c0.mono ?_;rintro e c5 ⟨j,rfl,c6,c7⟩
 obtain⟨dW,c8,cf⟩:=c3.o j _ c5 c6 c4.o c7;have cg:=y6 (c:=c) rfl c8 (by show S.q.length<=90000;omega)
 have bb:=dC (cW.o.trans cf) cf;go_wp2_with fail;refine cg.mono ?_;clear cg;rintro e w3 ⟨bd,rfl,R,be⟩
 have R:=R;obtain⟨dX,⟨⟨dZ,d0,da⟩,d1⟩,_⟩:=iT R;obtain⟨_,_,_,_,ch,_⟩:=ey da;have db:=aK w3 _ ch;have hd:=(ao w3).drew;have D:av ((c9 (dN c (S.s.j0 a)) c.bs (.slice br S.r.length J)).J bd (S.j2 a) w3.drew/\b_ u w bd w3.drew/\w3.drew.ownsRow 0 83 2 (.slice br S.r.length J) S.r.length (ev S.r)/\(∀b,bd b->b<w3.heap.size)/\w.heap.size<=w3.heap.size):=by
  have ci:=bb.o.2.trans be;refine⟨(c9 (dN c (S.s.j0 a)) c.bs (.slice br S.r.length J)).below R hd,(bb.o.1.trans be).below hd,?_,(c9 (dN c (S.s.j0 a)) c.bs (.slice br S.r.length J)).lt R,(bb.o.1.trans be).fr.size⟩
  exact cv al.o.1 (fun b e=>(hd.block b (aM (ce al.o.1 b e).2 ci.fr.size)).trans (ci.fr.block b (ce al.o.1 b e).2 (al.o.2 b e).1))
 have dc:(S.j2 a).2.length+S.r.length<=90000:=by have:(S.j2 a).2.length=S.q.length:=pd _ _ _;omega
 have dd:av (∀m,Below w3.drew.heap.size w3.drew m->m.heap[w3.heap.size]?=some (dl c)->m.heap[w3.heap.size+1]?=some (jj (lT c))->Calls prog 53 #[aj c.bs,.agg #[(iK w3.heap.size).v,(hI (w3.heap.size+1)).v,(i4 c).v]] m fun e w'=>∃a1 c1 f,e=.returned (.tuple #[])/\(c9 (dN c (S.s.j0 a)) c.bs (.slice a1 (S.r3 a).length c1)).J f (S.cy a,S.q3 a) w'/\w'.ownsRow 0 83 2 (.slice a1 (S.r3 a).length c1) (S.r3 a).length (ev (S.r3 a))/\(∀b,some b=(Value.slice a1 (S.r3 a).length c1).ownBlock->¬f b/\m.heap.size<=b)/\b_ u w f w'/\w.heap.size<=m.heap.size):=fun m E bg bi=>by
  have hs:w3.drew.heap.size=w3.heap.size:=rfl;refine(Ga (t:=S.j2 a) (r:=S.r) rfl ((c9 (dN c (S.s.j0 a)) c.bs (.slice br S.r.length J)).below D.o.1 E) (cv D.o.2.2.1 (fun b e=>E.block b (ce D.o.2.2.1 b e).2)) dc w3.heap.size (w3.heap.size+1) V bg bi (fun d=>by have:=D.o.2.2.2.1 _ d;omega) (fun d=>by have:=D.o.2.2.2.1 _ d;omega)).mono ?_;rintro e w' ⟨a1,c1,f,rfl,q1,C,q3,de,df⟩
  have bl:=D.o.2.1.below E;have d2:=D.o.2.2.2.2;have d3:=E.size;refine⟨a1,c1,f,rfl,q1,C,q3,⟨bl.fr.trans de (fun b d=>?_),fun b d=>?_⟩,V⟩
  ·rcases d with d|d|d
   ·exact bl.sub b d
   ·exact aI V
   ·exact aI V
  ·exact(df b d).elim (bl.sub b) (fun d=>aI V)
 go_wp2_with fail
 go_region_held3 (fun w'=>w'.cell? (am c.pk 4)=some (aj c.bs)) (go_keep)
  (first
    |(go_at_call 54;refine(tP (lT c) w3.drew c.pk).mono ?_;rintro e m ⟨rfl,bg,bi,E⟩;have d4:=(E.cell (p:=am c.pk 4) db).trans ch;have bn:=ir bg bi E)
    |(go_at_call 53;refine(dd.o m bn.o.2.2 bn.o.1 bn.o.2.1).mono ?_;rintro e dg ⟨a1,c1,dh,rfl,cj,di,ck,dj,dk⟩;obtain⟨_,⟨⟨cl,cm,U⟩,_⟩,_⟩:=iT cj;obtain⟨_,_,_,_,d5,_⟩:=ey U;have K:av (_/\_/\(∀b,some b=(Value.slice a1 (S.r3 a).length c1).ownBlock->¬dh b/\w.heap.size<=b)/\_):=⟨cj,di,fun b e=>⟨(ck b e).1,aP dk (ck b e).2⟩,dj⟩))
 all_goals
  obtain⟨Fm,⟨⟨cl,cm,U⟩,W⟩,dm⟩:=iT K.o.1;have W:=W;have U:=U;have cn:=Gk U W.tl W.ps;have dn:=hide (W.pl V)
  have co:av (((S.s.j0 a).pl (S.cy a)).2-(S.s.j0 a).a.N=S.n4 a/\((S.s.j0 a).pl (S.cy a)).1=S.cz a):=⟨rfl,rfl⟩
  rw[co.o.1,co.o.2] at cn;have dp:av (∀j w' vt L,(cS c (S.s.j0 a) vt L).J j (S.cz a) w'->b_ Fm dg j w'->_):=fun j w' vt L q1 q3=>dm (dN c (S.s.j0 a)) j (S.cz a) w' ⟨⟨vt,L,q1⟩,dn.o⟩ q3;go_wp2_with fail;refine cn.mono ?_;rintro e ax ⟨dq,rfl,cp,dr⟩
  obtain⟨aB,ds,bo⟩:=dp.o dq ax cl cm cp dr;have cq:=Gf cp;have dt:av ((S.s.j0 a).a.O=a.O):=rfl;rw[dt.o] at cq;have X:av ((c9 (dN c (S.s.j0 a)) c.bs (.slice a1 (S.r3 a).length c1)).J aB (S.cz a,S.q3 a) ax/\b_ u w aB ax/\ax.ownsRow 0 83 2 (.slice a1 (S.r3 a).length c1) (S.r3 a).length (ev (S.r3 a))/\∀b,some b=(Value.slice a1 (S.r3 a).length c1).ownBlock->¬aB b):=by refine⟨ds,K.o.2.2.2.trans bo,gH K.o.2.1 bo.fr (fun b e=>(K.o.2.2.1 b e).1),fun b e d=>(bo.sub b d).elim (K.o.2.2.1 b e).1 (fun d=>by have:=(ce K.o.2.1 b e).2;omega)⟩
  go_wp2_with fail;refine cq.mono ?_;rintro e aF ⟨rfl,bp⟩
  have n:=jp ((c9 (dN c (S.s.j0 a)) c.bs (.slice a1 (S.r3 a).length c1)).below X.o.1 bp) (X.o.2.1.below bp) (cv X.o.2.2.1 (fun b e=>bp.block b (ce X.o.2.2.1 b e).2)) X.o.2.2.2;by_cases bs:(a.O:Int)<S.n4 a
  ·have M:S.fD a=true:=bm bs;have bt:av (∃f,(fq a).J f (S.dA a) aF/\b_ F w f aF):=by
    have Y:=cc.o;rw[aH M] at Y;rw[Y];obtain⟨_,⟨⟨vt,L,cr⟩,_⟩,_⟩:=iT n.o.1;obtain⟨d6,d7,d8,⟨⟨vt,L,cr⟩,_⟩,_,_,bx,_⟩:=n.o.1;obtain⟨l,q1,C⟩:=zP cr;have q1:=q1;have T:b_ u w l aF:=n.o.2.1.less (fun b d=>bx b (C b d))
    obtain⟨g1,g2,g3,H,i,g5,I⟩:=B.o;obtain⟨v,ai,A,g⟩:=ca.o;obtain⟨d9,_,eb⟩:=iT (o:=dY a) (F:=cM) (t:=(S.s,S.q)) (w:=w) (p:=a.sd) (vr:=.slice ar S.r.length ag) ⟨u,P,Q,g1,g2,g3,i,g5,I,v,ai⟩
    have cs:=lt_of_some g2;refine⟨fun b=>(l b\/b=a.sd\/some b=(Value.slice P S.q.length Q).ownBlock)\/some b=(Value.slice ar S.r.length ag).ownBlock,⟨fun b=>l b\/b=a.sd\/some b=(Value.slice P S.q.length Q).ownBlock,ar,ag,⟨l,P,Q,q1,(T.fr.block _ cs I).trans g2,gH g3 T.fr (fun b e=>(v b e).2),fun b d=>aJ d,aI (aJ rfl),fun d=>(T.sub _ d).elim I (fun d=>by omega),fun b e=>⟨aI (aI e),fun d=>(T.sub b d).elim (v b e).2 (fun d=>by have:=(ce g3 b e).2;omega)⟩,fun b d=>?_⟩,gH H T.fr (fun b e d=>A b e (i b d)),fun b e d=>?_,fun b=>Iff.rfl⟩,⟨T.fr.mono (fun b d=>(g b).2 (aJ (i b d))),fun b d=>?_⟩⟩
    ·rcases d with d|d|d
     ·exact(dY a).lt q1 b d
     ·have:=T.fr.size;omega
     ·have:=(ce g3 b d).2;have:=T.fr.size;omega
    ·have ec:=(ce H b e).2;rcases d with d|d|d
     ·exact(T.sub b d).elim (fun d=>A b e (i b d)) (fun d=>by omega)
     ·exact A b e (by rw[d];exact g5)
     ·exact A b e (v b d).1
    ·rcases d with(d|d|d)|d
     ·exact(T.sub b d).imp (fun d=>(g b).2 (aJ (i b d))) id
     ·exact aJ ((g b).2 (aJ (by rw[d];exact g5)))
     ·exact aJ ((g b).2 (aJ (v b d).1))
     ·exact aJ ((g b).2 (aI d))
   have ab:=cb.o;rw[aH M] at ab;have bY:=hide ab;have ed:decide ((a.O:Int)<S.n4 a)=true:=bm bs;go_wp2_with fail;go_ret;obtain⟨f,bZ,j2⟩:=bt.o;exact⟨f,by rw[bY.o];rfl,bZ,j2⟩
  ·have M:S.fD a=false:=bz bs;obtain⟨cu,dv,dw⟩:=cN.o M;have cw:av (il (S.k5 a) (S.dG a) cu/\cu 0 (S.k5 a,0)):=⟨dv,dw⟩
   have dx:(S.q3 a).length+(S.r3 a).length<=90000:=by have a3:=qR (dK ct) (fun s x=>(S.s.j0 a).al s.1 x) (S.s.j0 a).ke (fun s x=>(S.s.j0 a).nw s.1 x) (fun s x=>qI (S.s.j0 a) s x) (S.j2 a) S.r;have dy:(dK ct).wt (S.j2 a)=(S.j2 a).2:=rfl;have dz:S.r3 a=eP (dK ct) (fun s x=>(S.s.j0 a).al s.1 x) (S.s.j0 a).ke (fun s x=>(S.s.j0 a).nw s.1 x) (S.j2 a) S.r:=rfl;have dA:S.q3 a=eQ (dK ct) (fun s x=>(S.s.j0 a).al s.1 x) (S.s.j0 a).ke (fun s x=>(S.s.j0 a).nw s.1 x) (S.j2 a) S.r:=rfl;rw[dy,<-dz,<-dA] at a3;omega
   have dB:¬aB a.sd:=fun d=>(n.o.2.1.sub _ d).elim B.o.2.2.2.2.2.2 (fun d=>by have:=lt_of_some B.o.2.1;omega)
   have cx:=Gy (k:=S.s.j0 a) (t:=(S.cz a,S.q3 a)) rfl n.o.1 n.o.2.2.1 n.o.2.2.2 dx (v1:=.slice ar S.r.length ag) (v2:=.slice P S.q.length Q) ((n.o.2.1.fr.block a.sd (lt_of_some B.o.2.1) B.o.2.2.2.2.2.2).trans B.o.2.1) dB;have dD:av ((S.s.j0 a).eW (S.cz a)=S.k5 a):=rfl;rw[dD.o] at cx;go_wp2_with fail;refine cx.mono ?_;rintro e cy ⟨a2,c2,dE,rfl,dF,cz,cA,dG,dH,dI,dJ⟩
   have dL:av (Fr (fun b=>u b\/b=a.sd) w cy/\(∀b,dE b->u b\/w.heap.size<=b)/\w.heap.size<=aF.heap.size):=by
    have T:=n.o.2.1;have z:=T.fr.size;refine⟨(T.fr.mono (fun b d=>aJ d)).trans dI (fun b d=>?_),fun b d=>(dJ b d).elim (T.sub b) (fun d=>aI V),z⟩
    rcases d with d|d
    ·exact(T.sub b d).imp aJ id
    ·exact aJ (aI d)
   obtain⟨cB,aR,aT,⟨⟨vt,L,b0⟩,aV⟩,b7,cC,bx,ee,ef,cD,dM⟩:=dF;have b0:=b0;have aV:=aV;have cE:=GS cw.o.1 cw.o.2 b0 aV.tl aV.ps;have dO:av ((S.k5 a).sl (S.dG a)=S.k6 a):=rfl;rw[dO.o] at cE;obtain⟨ad,cF⟩:∃ad,(S.k5 a).tR (S.cz a,S.q3 a) (S.r3 a)=ad:=⟨_,rfl⟩
   obtain⟨N,cG⟩:∃N,(S.k5 a).hP (S.cz a,S.q3 a) (S.r3 a)=N:=⟨_,rfl⟩
   rw[cF] at cz cA b7;rw[cG] at b7 cC cD;have dP:=BE (dG.trans b7) cC bx dH cD dM;have dQ:=dC cz cA;have cH:av ((S.k5 a).tR (S.cz a,S.q3 a) (S.r3 a)=ad/\(S.k5 a).hP (S.cz a,S.q3 a) (S.r3 a)=N):=⟨cF,cG⟩
   go_wp2_with fail;refine cE.mono ?_;rintro e cI ⟨eg,rfl,dR,O⟩
   have bt:av (∃f,(fq a).J f (S.dA a) cI/\b_ F w f cI):=by
    have Y:=cc.o;rw[aE (by rw[M];simp),cH.o.1,cH.o.2] at Y;rw[Y];obtain⟨l,q1,C⟩:=zP dR;have ea:(S.k6 a).a=a:=by have dS:S.k6 a=(S.k5 a).sl (S.dG a):=rfl;have dT:S.k5 a=(S.s.j0 a).eW (S.cz a):=rfl;rw[dS,Hl,dT,Hk];rfl
    rw[ea] at q1;obtain⟨b1,b2,b3,b4,b5,b6⟩:=dP.o;obtain⟨r1,b8⟩:=dQ.o;obtain⟨cJ,b9,t3⟩:=dL.o;obtain⟨g1,g2,g3,H,i,g5,I⟩:=B.o;obtain⟨v,ai,A,g⟩:=ca.o;have cs:=lt_of_some g2;have eh:=cJ.size;have ei:=O.fr.size;have a0:∀b,l b->cB b\/cy.heap.size<=b:=fun b d=>O.sub b (C b d)
    have cK:¬cB a.sd:=fun d=>b4 (b3 _ d)
    have dU:∀b,some b=(Value.slice a2 ad.length c2).ownBlock->¬(l b\/b=a.sd\/some b=(Value.slice aR N.length aT).ownBlock):=fun b e d=>by
     have q:=b8 b e;rcases d with d|d|d
     ·exact(a0 b d).elim (fun d=>q.1 (b3 b d)) (fun d=>by have:=(ce r1 b e).2;omega)
     ·omega
     ·exact q.1 (b5 b d).1
    refine⟨fun b=>(l b\/b=a.sd\/some b=(Value.slice aR N.length aT).ownBlock)\/some b=(Value.slice a2 ad.length c2).ownBlock,⟨fun b=>l b\/b=a.sd\/some b=(Value.slice aR N.length aT).ownBlock,a2,c2,⟨l,aR,aT,q1,(O.fr.block _ V cK).trans b1,gH b2 O.fr (fun b e=>(b5 b e).2),fun b d=>aJ d,aI (aJ rfl),fun d=>(a0 _ d).elim cK (fun d=>by omega),fun b e=>⟨aI (aI e),fun d=>(a0 b d).elim (b5 b e).2 (fun d=>by have:=(ce b2 b e).2;omega)⟩,fun b d=>?_⟩,gH r1 O.fr (fun b e d=>(b8 b e).1 (b3 b d)),dU,fun b=>Iff.rfl⟩,⟨(cJ.trans O.fr (fun b d=>(b9 b (b3 b d)).imp aJ id)).mono (fun b d=>?_),fun b d=>?_⟩⟩
    ·rcases d with d|d|d
     ·exact(dY a).lt q1 b d
     ·omega
     ·have:=(ce b2 b d).2;omega
    ·rcases d with d|d
     ·exact(g b).2 (aJ (i b d))
     ·exact(g b).2 (aJ (by rw[d];exact g5))
    ·rcases d with(d|d|d)|d
     ·rcases a0 b d with d|d
      ·exact(b9 b (b3 b d)).imp (fun d=>(g b).2 (aJ (i b d))) id
      ·exact aI V
     ·exact aJ ((g b).2 (aJ (by rw[d];exact g5)))
     ·exact(b9 b (b5 b d).1).imp (fun d=>(g b).2 (aJ (i b d))) id
     ·have:=(b8 b d).2;exact aI V
   have ab:=cb.o;rw[aE (by rw[M];simp)] at ab;have bY:=hide ab;go_wp2_with fail;go_ret;obtain⟨f,bZ,j2⟩:=bt.o;exact⟨f,by rw[bY.o];rfl,bZ,j2⟩
end
theorem d5.next {L:Int->Int}{hi:Int}:∀{l:List Int}{a:Int},d5 L hi a l->∀x∈l,x+(1+pf (L x))∈l\/x+(1+pf (L x))=hi
 |[],_,_,x,b=>by cases b
 |y::l,a,h,x,b=>by
  obtain⟨e,_,_,ht⟩:=h;rcases List.mem_cons.1 b with c|c
  ·subst c;subst e
   match l,ht with
   |[],ht=>exact aI ht
   |f::g,ht=>
    obtain⟨d,_⟩:=ht;exact aJ (by rw[<-d];simp)
  ·exact(d5.next ht x c).imp (aO _) id
theorem zQ {L:Int->Int}{hi:Int}:∀{l m:List Int}{a x y:Int},d5 L hi a (l++m)->x∈l->y∈m->x<y
 |[],_,_,_,_,_,b,_=>by cases b
 |u::l,m,a,x,y,h,b,hy=>by
  obtain⟨e,_,_,ht⟩:=h;have hp:=di (L a)
  rcases List.mem_cons.1 b with c|c
  ·have:=(ht.mem y (bc l hy)).1;omega
  ·exact zQ ht c hy
structure LI (k:ca)(z:C0)(s:ch)(H D:List Int):Prop where
 mi:dE k z s H
 bo:s.nx∈H\/s.nx=(k.N:Int)+s.g
 lo:∀b∈H,b<s.nx->Lo k s b
 ld:∀b∈D,Lo k s b
 dg:∀b∈D,b∈z.G
section
variable {k:ca}{z:C0}{s t:ch}{H D:List Int}
theorem LI.kE (h:LI k z s H D)(v:hB k.N s.g s.nx=true):∃d,LI k z {k.lk s s.nx with nx:=s.nx+(1+pf (k.ld s s.nx))} d D/\df k s {k.lk s s.nx with nx:=s.nx+(1+pf (k.ld s s.nx))}/\∃g,d=H++g:=by
 have E:=jc v;have e:=h.bo.resolve_right V;obtain⟨a,j⟩:=h.mi.from (bc z.G e)
 have F:=di (k.ld s s.nx)
 have hg:=h.mi.ci.hg;obtain⟨d,m1,f,⟨g,i⟩,w,x,A⟩:=h.mi.lk j;have n:=h.mi.hd a _ j;have p:=m1.hd a _ (f.or j)
 have hlo:=h.mi.hlo _ e;have B:∀b∈g,s.nx<b:=fun b c=>zQ (by have:=m1.full.ee;rw[i,<-bj] at this;exact this) (bc z.G e) c;have q:∀b,b∈H->b∈d:=fun b c=>by rw[i];exact aZ _ c
 have keep:∀b,(∃a,k.or z s a b)->Lo k s b->Lo k {k.lk s s.nx with nx:=s.nx+(1+pf (k.ld s s.nx))} b:=fun b ⟨a,o⟩ l=>by
  have l2:=Lo.go l h.mi m1 f o (x b) (A b)
  exact l2
 refine⟨d,⟨(m1.turn _ _ _ _ m1.ci.ij m1.ci.g_ V V),?_,fun b c lt=>?_,fun b c=>keep b ⟨b,aJ ⟨rfl,h.dg b c⟩⟩ (h.ld b c),h.dg⟩,⟨f.f,f.g,f.cl⟩,g,i⟩
 ·have t:=d5.next m1.full.ee s.nx (bc z.G (q _ e))
  have m:Proofs.YtjpjpjemibgjpaaGreat.ld k.N k.y (k.lk s s.nx).g (k.lk s s.nx).ws s.nx=k.ld s s.nx:=p.trans n.symm;rw[m] at t;rcases t with c|c
  ·rcases List.mem_append.1 c with c|c
   ·have:=h.mi.kF _ c;omega
   ·exact aJ c
  ·exact aI c
 ·dsimp only at lt;by_cases C:b=s.nx
  ·subst C;exact w
  ·by_cases lb:b<s.nx
   ·have u:b∈H:=by
     rw[i] at c;rcases List.mem_append.1 c with c|c
     ·exact c
     ·exact absurd (B b c) V
    exact keep b (h.mi.from (bc z.G u)) (h.lo b u lb)
   ·have ap:=m1.full.ee.apart s.nx (bc z.G (q _ e)) b (bc z.G c) V;have m:Proofs.YtjpjpjemibgjpaaGreat.ld k.N k.y (k.lk s s.nx).g (k.lk s s.nx).ws s.nx=k.ld s s.nx:=p.trans n.symm;rw[m] at ap;omega
end
section
variable {k:ca}{z:C0}{s t:ch}{H D:List Int}
theorem LI.lift (h:LI k z s H D){K:List Int}(ht:dE k z t K)(p:df k s t)(hw:t.wk=s.wk)(he:t.ep=s.ep)(f:t.nx=s.nx)(g:t.nx∈K\/t.nx=(k.N:Int)+t.g)(i:∀b∈K,b<t.nx->b∈H):LI k z t K D:=
 ⟨ht,g,fun b d lt=>by
  have e:=i b d lt;obtain⟨a,o⟩:=h.mi.from (bc z.G e)
  exact Lo.go (h.lo b e (by rw[<-f];exact lt)) h.mi ht p o (fun c=>by rw[hw];exact c) (fun c=>by rw[he];exact c),fun b d=>Lo.go (h.ld b d) h.mi ht p (aJ ⟨rfl,h.dg b d⟩) (fun c=>by rw[hw];exact c) (fun c=>by rw[he];exact c),h.dg⟩
theorem LI.zR (h:LI k z s H D):s.nx<=(k.N:Int)+s.g:=by
 rcases h.bo with b|b
 ·have:=(h.mi.iV b).2;omega
 ·omega
theorem LI.cp (h:LI k z s H D){a:Int}(ha:a∈k.T)(e:s.f a=-1):LI k z (k.cp s a) (H++[((k.N+s.g:Nat):Int)]) D/\df k s (k.cp s a):=by
 obtain⟨m1,d,_⟩:=h.mi.cp ha e;have f:=h.zR;refine⟨h.lift m1 d rfl rfl rfl ?_ (fun b c lt=>?_),d⟩
 ·show s.nx∈_\/_;rcases h.bo with c|c
  ·exact aJ (aZ _ c)
  ·exact aJ (bc _ (by rw[c];simp))
 ·have g:b<s.nx:=lt;rcases List.mem_append.1 c with c|c
  ·exact c
  ·rw[bD] at c;omega
theorem LI.br (h:LI k z s H D)(x:Int):∃f,LI k z (k.br s x).2 f D/\df k s (k.br s x).2/\(∃j,f=H++j)/\k.cK (k.br s x).1=false/\(∀g,k.ml s g x->k.ml (k.br s x).2 g (k.br s x).1):=by
 obtain⟨_,_,_,i,_,b,_⟩:=h.mi.br x;cases hls:k.ls s x
 ·have e:(k.br s x).2=s:=by unfold ca.br;rw[hls];rfl
  rw[e] at b⊢;exact⟨H,h,df.refl _ _,⟨[],Z⟩,i,b⟩
 ·have e:(k.br s x).2=k.cp s (cf x):=by unfold ca.br;rw[aH hls]
  have c:=hls;unfold ca.ls at c;rw[ba] at c;have d:=c.1;unfold ca.cK at d;rw[ba] at d;obtain⟨l,j2⟩:=h.cp (by simpa using d.2) (by simpa using c.2)
  rw[e] at b⊢;exact⟨_,l,j2,⟨_,rfl⟩,i,b⟩
theorem LI.kf (h:LI k z s H D){a b i:Int}(d:k.or z s a b)(e:0<=i)(f:i<pf (k.l0 z a)):∃c,LI k z (k.kf s (b+1+i)) c D/\df k s (k.kf s (b+1+i))/\k.cK (k.ld (k.kf s (b+1+i)) (b+1+i))=false/\∃l,c=H++l:=by
 obtain⟨c,m1,g,m,j,n⟩:=h.br _;obtain⟨s1,s2,q⟩:=m1.mi.st (g.or d) e f (n _ (h.mi.fd a b d i e f))
 have p:=df.st (a:=b+1+i) m1.mi.ci j;refine⟨c,m1.lift s1 p rfl rfl rfl m1.bo (fun b o _=>o),g.trans p,?_,m⟩
 unfold ca.kf;rw[s2];exact j
end
section
variable {k:ca}{z:C0}{s t:ch}{H D:List Int}
theorem lX (k:ca)(s:ch)(x:Int):(k.br s x).2.rs=s.rs/\(k.br s x).2.wk=s.wk/\(k.br s x).2.ep=s.ep/\(k.br s x).2.nx=s.nx:=by unfold ca.br;split<;>exact⟨rfl,rfl,rfl,rfl⟩
theorem LI.roots (h:LI k z s H D)(rs:List Int):LI k z {s with rs:=rs} H D:=
 h.lift (h.mi.turn s.wk s.ep rs s.nx h.mi.ci.ij h.mi.ci.g_ h.mi.ci.gT h.mi.ci.gB) (df.turn k s s.wk s.ep rs s.nx) rfl rfl rfl h.bo (fun _ b _=>b)
theorem LI.cJ (h:LI k z s H D):∀n:Nat,n<=s.rs.length->∃d,LI k z (k.cJ s n) d D/\df k s (k.cJ s n)/\(∃b,d=H++b)/\(k.cJ s n).rs.length=s.rs.length/\(∀i,i<n->k.cK ((k.cJ s n).rs.getD i 0)=false)/\(∀i,n<=i->(k.cJ s n).rs.getD i 0=s.rs.getD i 0)/\∀i,i<n->k.ml (k.cJ s n) (s.rs.getD i 0) ((k.cJ s n).rs.getD i 0)
 |0,_=>⟨H,h,df.refl _ _,⟨[],Z⟩,rfl,fun i hi=>V,fun _ _=>rfl,fun i hi=>V⟩
 |n+1,v=>by
  obtain⟨w,m1,l,⟨b,m⟩,f,o,g,p⟩:=LI.cJ h n V;obtain⟨q,t,j2,⟨u,cy⟩,cz,dG⟩:=m1.br _;obtain⟨r1,_⟩:=lX k _ _;have hl:n<(k.br (k.cJ s n) ((k.cJ s n).rs.getD n 0)).2.rs.length:=by rw[r1,f];omega
  have c:∀i,((k.br (k.cJ s n) ((k.cJ s n).rs.getD n 0)).2.rs.set n (k.br (k.cJ s n) ((k.cJ s n).rs.getD n 0)).1).getD i 0=if n=i then(k.br (k.cJ s n) ((k.cJ s n).rs.getD n 0)).1 else(k.cJ s n).rs.getD i 0:=fun i=>by rw[jS _ _ _ _ hl,r1]
  have j:=df.turn k (k.br (k.cJ s n) ((k.cJ s n).rs.getD n 0)).2 (k.br (k.cJ s n) ((k.cJ s n).rs.getD n 0)).2.wk (k.br (k.cJ s n) ((k.cJ s n).rs.getD n 0)).2.ep ((k.br (k.cJ s n) ((k.cJ s n).rs.getD n 0)).2.rs.set n (k.br (k.cJ s n) ((k.cJ s n).rs.getD n 0)).1) (k.br (k.cJ s n) ((k.cJ s n).rs.getD n 0)).2.nx;refine⟨q,t.roots _,l.trans (j2.trans j),⟨b++u,by rw[cy,m,bj]⟩,?_,fun i hi=>?_,fun i hi=>?_,fun i hi=>?_⟩
  ·show(List.set _ _ _).length=_;rw[aX,r1,f]
  ·show k.cK ((List.set _ _ _).getD i 0)=false;rw[c];split
   ·exact cz
   ·exact o i V
  ·show(List.set _ _ _).getD i 0=_;rw[c,aE V];exact g i V
  ·show k.ml _ _ ((List.set _ _ _).getD i 0)
   rw[c];by_cases e:n=i
   ·rw[aH e];subst e;exact dG _ (aJ (g n bW))
   ·rw[aE e];exact(j2.trans j).ml (p i V)
end
theorem zS {L c:Int->Int}{hi d:Int}:∀{l m:List Int}{a:Int},d5 L hi a l->d5 c d a (l++m)->(∀x∈l,c x=L x)->(hi∈m\/hi=d)/\∀y∈m,hi<=y
 |[],m,a,h,b,_=>by
  have e:=h;subst e;refine⟨?_,fun y hy=>(b.mem y hy).1⟩
  match m,b with
  |[],b=>exact aI b
  |y::k,b=>
   obtain⟨i,_⟩:=b;exact aJ (by rw[<-i];simp)
 |u::l,m,a,h,b,he=>by obtain⟨e,_,_,ht⟩:=h;obtain⟨_,_,_,f⟩:=b;have g:=he u Z;rw[e] at g;rw[g] at f;exact zS ht f (fun x j=>he x (aO _ j))
section
variable {k:ca}{z:C0}{s t:ch}{H D:List Int}
theorem LI.lk (h:LI k z s H D){b:Int}(l:b∈z.G):∃g,LI k z (k.lk s b) g (b::D)/\df k s (k.lk s b)/\∃j,g=H++j:=by
 obtain⟨g,m1,i,⟨j,f⟩,u,m,n⟩:=h.mi.lk (aJ ⟨rfl,l⟩)
 obtain⟨p,w⟩:=qP k s b;have q:=zS h.mi.full.ee (by have:=m1.full.ee;rw[f,<-bj] at this;exact this) (fun x v=>by obtain⟨a,o⟩:=h.mi.from v;exact(m1.hd a x (i.or o)).trans (h.mi.hd a x o).symm)
 have A:=h.zR;refine⟨g,⟨m1,?_,fun c d lt=>?_,fun c d=>?_,fun c d=>?_⟩,i,j,f⟩
 ·rw[p];rcases h.bo with d|d
  ·exact aJ (by rw[f];exact aZ _ d)
  ·rw[d];exact q.1.imp (fun e=>by rw[f];exact bc _ e) id
 ·rw[p] at lt;have t:c∈H:=by
   rw[f] at d;rcases List.mem_append.1 d with d|d
   ·exact d
   ·have:=q.2 c d;omega
  obtain⟨a,o⟩:=h.mi.from (bc z.G t)
  exact Lo.go (h.lo c t lt) h.mi m1 i o (m c) (n c)
 ·rcases List.mem_cons.1 d with d|d
  ·rw[d];exact u
  ·exact Lo.go (h.ld c d) h.mi m1 i (aJ ⟨rfl,h.dg c d⟩) (m c) (n c)
 ·rcases List.mem_cons.1 d with d|d
  ·rw[d];exact l
  ·exact h.dg c d
end
structure dL (k:ca)(z:C0)(s:ch)(H:List Int):Prop where
 wk:∀a∈s.wk,a∈z.G++H/\pk (k.ld s a)=3
 ep:∀a∈s.ep,a∈z.G++H/\pk (k.ld s a)=4
section
variable {k:ca}{z:C0}{s t:ch}{H K D:List Int}
theorem df.hd (p:df k s t)(h:dE k z s H)(ht:dE k z t K){b:Int}(c:b∈z.G++H):k.ld t b=k.ld s b:=by obtain⟨a,o⟩:=h.from c;exact(ht.hd a b (p.or o)).trans (h.hd a b o).symm
theorem kH {G H K:List Int}{x:Int}(h:∃b,K=H++b)(c:x∈G++H):x∈G++K:=by obtain⟨b,e⟩:=h;rw[e,<-bj];exact aZ _ c
theorem dL.go (w:dL k z s H)(h:dE k z s H)(ht:dE k z t K)(p:df k s t)(c:∃d,K=H++d)(e:t.wk=s.wk)(f:t.ep=s.ep):dL k z t K:=
 ⟨fun a ha=>by
  rw[e] at ha;obtain⟨m1,b⟩:=w.wk a ha;exact⟨kH c m1,by rw[p.hd h ht m1];exact b⟩,fun a ha=>by
  rw[f] at ha;obtain⟨m1,b⟩:=w.ep a ha;exact⟨kH c m1,by rw[p.hd h ht m1];exact b⟩⟩
theorem zT (k:ca)(s:ch)(b:Int):((k.lk s b).wk=s.wk\/(pk (k.ld s b)=3/\(k.lk s b).wk=s.wk++[b]))/\((k.lk s b).ep=s.ep\/(pk (k.ld s b)=4/\(k.lk s b).ep=s.ep++[b])):=by
 unfold ca.lk;split
 ·exact⟨aJ (mZ _ _ _ _).1,aJ (mZ _ _ _ _).2.1⟩
 ·split
  ·rename_i e;exact⟨aI ⟨e,(jG _ _ _).1⟩,aJ (jG _ _ _).2.1⟩
  ·split
   ·rename_i e;exact⟨aJ rfl,aI ⟨e,rfl⟩⟩
   ·exact⟨aJ rfl,aJ rfl⟩
theorem dL.lk (w:dL k z s H)(h:dE k z s H){b:Int}(g:b∈z.G++H)(ht:dE k z (k.lk s b) K)(p:df k s (k.lk s b))(f:∃j,K=H++j):dL k z (k.lk s b) K:=by
 obtain⟨c1,c2⟩:=zT k s b;refine⟨fun a ha=>?_,fun a ha=>?_⟩
 ·rcases c1 with e|⟨i,e⟩
  ·rw[e] at ha;obtain⟨m1,d⟩:=w.wk a ha;exact⟨kH f m1,by rw[p.hd h ht m1];exact d⟩
  ·rw[e] at ha;rcases List.mem_append.1 ha with c|c
   ·obtain⟨m1,d⟩:=w.wk a c;exact⟨kH f m1,by rw[p.hd h ht m1];exact d⟩
   ·rw[bD] at c;subst c;exact⟨kH f g,by rw[p.hd h ht g];exact i⟩
 ·rcases c2 with e|⟨i,e⟩
  ·rw[e] at ha;obtain⟨m1,d⟩:=w.ep a ha;exact⟨kH f m1,by rw[p.hd h ht m1];exact d⟩
  ·rw[e] at ha;rcases List.mem_append.1 ha with c|c
   ·obtain⟨m1,d⟩:=w.ep a c;exact⟨kH f m1,by rw[p.hd h ht m1];exact d⟩
   ·rw[bD] at c;subst c;exact⟨kH f g,by rw[p.hd h ht g];exact i⟩
theorem LI.qT (h:LI k z s H D){b:Int}(f:b∈z.G++H)(m:pk (k.ld s b)=4):∃g,LI k z (k.kf (k.kf s (b+1)) (b+2)) g D/\df k s (k.kf (k.kf s (b+1)) (b+2))/\(∃d,g=H++d)/\k.cK (k.ld (k.kf (k.kf s (b+1)) (b+2)) (b+1))=false/\k.cK (k.ld (k.kf (k.kf s (b+1)) (b+2)) (b+2))=false:=by
 obtain⟨a,o⟩:=h.mi.from f;have n:=h.mi.bd f;have w:=hY n.2.2 (aI (aI m))
 have j:=h.mi.hd a b o;obtain⟨x,m1,c,l,⟨d,p⟩⟩:=h.kf (i:=0) o V (by rw[<-j];omega)
 obtain⟨q,e,j2,cy,⟨t,cz⟩⟩:=m1.kf (i:=1) (c.or o) V (by rw[<-j];omega)
 have u:b+1+0=b+1:=V;have v:b+1+1=b+2:=V;rw[u] at m1 c l e j2 cy;rw[v] at e j2 cy;exact⟨q,e,c.trans j2,⟨d++t,by rw[cz,p,bj]⟩,j2.cl _ V (by have:=c.g;omega) l,cy⟩
theorem LI.dx:∀(l left:List Int){s:ch}{H:List Int},LI k z s H D->(∀a∈l,a∈z.G++H/\pk (k.ld s a)=4)->∃n,LI k z (l.foldl k.cO (left,s)).2 n D/\df k s (l.foldl k.cO (left,s)).2/\(∃t,n=H++t)/\(l.foldl k.cO (left,s)).2.wk=s.wk/\(l.foldl k.cO (left,s)).2.ep=s.ep/\(∀a∈l,a∈(l.foldl k.cO (left,s)).1\/(k.cK (k.ld (l.foldl k.cO (left,s)).2 (a+1))=false/\k.cK (k.ld (l.foldl k.cO (left,s)).2 (a+2))=false))/\(∀a∈left,a∈(l.foldl k.cO (left,s)).1)/\∀a∈(l.foldl k.cO (left,s)).1,a∈left\/a∈l
 |[],left,s,H,h,_=>⟨H,h,df.refl _ _,⟨[],Z⟩,rfl,rfl,fun a ha=>(by cases ha),fun _ c=>c,fun _ c=>aJ c⟩
 |b::l,left,s,H,h,hl=>by
  rw[a8];cases hls:k.ls s _
  ·have e:k.cO (left,s) b=(left,k.kf (k.kf s (b+1)) (b+2)):=by unfold ca.cO;rw[aE (by rw[hls];simp)]
   rw[e];obtain⟨o,p⟩:=hl b Z;obtain⟨I,m1,f,q,u,v⟩:=h.qT o p;obtain⟨g,i,j2,cy,cz,dG,j,d,m⟩:=LI.dx l left m1 (fun a ha=>by
    obtain⟨n1,w⟩:=hl a (aO _ ha)
    exact⟨kH q n1,by rw[f.hd h.mi m1.mi n1];exact w⟩)
   obtain⟨w1,x,_⟩:=jG k s (b+1)
   obtain⟨w3,A,_⟩:=jG k _ (b+2)
   have B:=h.mi.bd o;have J:=hY B.2.2 (aI (aI p))
   have hg:=f.g;refine⟨g,i,f.trans j2,?_,cz.trans (w3.trans w1),dG.trans (A.trans x),fun a ha=>?_,d,fun a ha=>(m a ha).imp id (aO _)⟩
   ·obtain⟨C,E⟩:=q;obtain⟨F,G⟩:=cy;exact⟨C++F,by rw[G,E,bj]⟩
   ·rcases List.mem_cons.1 ha with c|c
    ·subst c;exact aI ⟨j2.cl _ V V u,j2.cl _ V V v⟩
    ·exact j a c
  ·have e:k.cO (left,s) b=(left++[b],s):=by unfold ca.cO;rw[aH hls]
   rw[e];obtain⟨g,i,j2,cy,cz,dG,j,d,m⟩:=LI.dx l _ h (fun a ha=>hl a (aO _ ha))
   refine⟨g,i,j2,cy,cz,dG,fun a ha=>?_,fun a c=>d a (aZ _ c),fun a ha=>?_⟩
   ·rcases List.mem_cons.1 ha with c|c
    ·exact aJ (d a (by rw[c];simp))
    ·exact j a c
   ·rcases m a ha with c|c
    ·rcases List.mem_append.1 c with c|c
     ·exact aJ c
     ·rw[bD] at c;exact aI (by rw[c];simp)
    ·exact aI (aO _ c)
end
section
variable {k:ca}{z:C0}{s t:ch}{H K D:List Int}
theorem dL.kE (w:dL k z s H)(h:LI k z s H D)(d:hB k.N s.g s.nx=true)(ht:dE k z {k.lk s s.nx with nx:=s.nx+(1+pf (k.ld s s.nx))} K)(p:df k s {k.lk s s.nx with nx:=s.nx+(1+pf (k.ld s s.nx))})(e:∃f,K=H++f):dL k z {k.lk s s.nx with nx:=s.nx+(1+pf (k.ld s s.nx))} K:=by have g:=jc d;obtain⟨b,_⟩:=qP k s s.nx;have c:=w.lk h.mi (bc z.G (h.bo.resolve_right V)) (ht.turn (k.lk s s.nx).wk _ _ (k.lk s s.nx).nx ht.ci.ij ht.ci.g_ (by rw[b];exact h.mi.ci.gT) (by rw[b];exact h.mi.ci.gB)) ⟨p.f,p.g,p.cl⟩ e;exact⟨c.wk,c.ep⟩
theorem LI.po:∀(n:Nat){s:ch}{H:List Int},LI k z s H D->dL k z s H->∃c,LI k z (k.lb n s) c D/\dL k z (k.lb n s) c/\df k s (k.lb n s)/\(∃d,c=H++d)/\(((k.N:Int)+k.O-s.nx).toNat<n->hB k.N (k.lb n s).g (k.lb n s).nx=false)
 |0,s,H,h,w=>⟨H,h,w,df.refl _ _,⟨[],Z⟩,fun e=>absurd e V⟩
 |n+1,s,H,h,w=>by
  unfold ca.lb;cases hn:hB k.N s.g s.nx
  ·rw[aE Z];exact⟨H,h,w,df.refl _ _,⟨[],Z⟩,fun _=>hn⟩
  ·obtain⟨l,m1,f,b⟩:=h.kE hn;have w1:=w.kE h hn m1.mi f b;obtain⟨d,b⟩:=b;obtain⟨g,i,kc,j2,⟨j,cy⟩,cz⟩:=LI.po n m1 w1;refine⟨g,i,kc,f.trans j2,⟨d++j,by rw[cy,b,bj]⟩,fun e=>cz ?_⟩
   have m:=di (k.ld s s.nx)
   have o:=jc hn;have hg:=h.mi.ci.hg;dsimp only;omega
theorem Lo.ep {b:Int}(l:Lo k t b)(e:List Int)(hc:b∈t.ep->b∈e\/(k.cK (k.ld t (b+1))=false/\k.cK (k.ld t (b+2))=false))(o:pk (k.ld t b)=4->pf (k.ld t b)=2):Lo k {t with ep:=e} b:=by
 intro i f g;have j:i<pf (k.ld t b):=g;rcases l i f j with d|d|⟨m,n⟩
 ·exact aJ d
 ·exact aI (aJ d)
 ·rcases hc n with c|⟨c1,c2⟩
  ·exact aI (aI ⟨m,c⟩)
  ·left;rcases(by omega:i=0\/i=1) with e|e
   ·rw[e,show b+1+0=b+1 by omega];exact c1
   ·rw[e,show b+1+1=b+2 by omega];exact c2
theorem LI.kv (h:LI k z s H D)(w:dL k z s H):∃f,LI k z (k.kv s).2 f D/\dL k z (k.kv s).2 f/\df k s (k.kv s).2/\∃j,f=H++j:=by
 obtain⟨f,c,j2,cy,cz,dG,l,_,m⟩:=LI.dx s.ep [] h w.ep;have sub:_:=fun a ha=>(m a ha).elim (fun d=>by cases d) id;have i:=w.go h.mi c.mi j2 cy cz dG;have cl:∀b,b∈(s.ep.foldl k.cO ([],s)).2.ep->_:=fun b g=>l b (by rw[<-dG];exact g)
 have two:∀b,b∈z.G++f->pk (k.ld (s.ep.foldl k.cO ([],s)).2 b)=4->_=_:=fun b g e=>hY (c.mi.bd g).2.2 (aI (aI e))
 refine⟨f,⟨(c.mi.turn _ _ _ _ c.mi.ci.ij (fun a ha=>h.mi.ci.g_ a (sub a ha)) c.mi.ci.gT c.mi.ci.gB),c.bo,fun b d lt=>?_,fun b d=>?_,c.dg⟩,⟨i.wk,fun a ha=>i.ep a (by rw[dG];exact sub a ha)⟩,⟨j2.f,j2.g,j2.cl⟩,cy⟩
 ·exact(c.lo b d lt).ep _ (cl b) (two b (bc _ d))
 ·exact(c.ld b d).ep _ (cl b) (two b (aZ _ (c.dg b d)))
end
def cW (k:ca)(z:C0)(D:List Int)(s t:ch):Prop:=∀H,LI k z s H D->dL k z s H->∃b,LI k z t b D/\dL k z t b/\df k s t/\∃c,b=H++c
section
variable {k:ca}{z:C0}{s t u:ch}{D:List Int}
theorem cW.refl:cW k z D s s:=fun H h w=>⟨H,h,w,df.refl _ _,⟨[],Z⟩⟩
theorem cW.trans (h:cW k z D s t)(j:cW k z D t u):cW k z D s u:=fun H l w=>by obtain⟨b,m1,c,d,⟨A,e⟩⟩:=h H l w;obtain⟨f,g,j2,cy,⟨B,cz⟩⟩:=j b m1 c;exact⟨f,g,j2,d.trans cy,⟨A++B,by rw[cz,e,bj]⟩⟩
theorem cW.br (x:Int):cW k z D s (k.br s x).2:=fun _ h w=>by obtain⟨d,m1,b,c,_,_⟩:=h.br x;obtain⟨_,e,f,_⟩:=lX k s x;exact⟨d,m1,w.go h.mi m1.mi b c e f,b,c⟩
theorem cW.lb (n:Nat):cW k z D s (k.lb n s):=fun _ h w=>by obtain⟨b,m1,c,d,e,_⟩:=LI.po n h w;exact⟨b,m1,c,d,e⟩
theorem cW.kv:cW k z D s (k.kv s).2:=fun _ h w=>h.kv w
theorem cW.kI:∀(l:List Nat)(t:(ch×List bZ)×Bool),cW k z D t.1.1 (l.foldl (dB k.al k.br) t).1.1
 |[],t=>cW.refl
 |i::l,t=>by
  refine cW.trans ?_ (cW.kI l _)
  unfold dB;split
  ·exact cW.refl
  ·exact cW.br _
theorem cW.wa (t:ch×List bZ):cW k z D t.1 (k.wa t).1.1:=cW.kI (List.range t.2.length) (t,false)
theorem cW.cV:∀(n:Nat)(t:ch×List bZ),cW k z D t.1 (k.cV n t).1
 |0,t=>cW.refl
 |n+1,t=>by
  have b:cW k z D t.1 (k.kv (k.lb (k.O+1) t.1)).2:=(cW.lb (k.O+1)).trans cW.kv;unfold ca.cV;split
  ·exact b.trans (cW.cV n ((k.kv (k.lb (k.O+1) t.1)).2,t.2))
  ·split
   ·exact(b.trans (cW.wa ((k.kv (k.lb (k.O+1) t.1)).2,t.2))).trans (cW.cV n (k.wa ((k.kv (k.lb (k.O+1) t.1)).2,t.2)).1)
   ·exact b.trans (cW.wa ((k.kv (k.lb (k.O+1) t.1)).2,t.2))
theorem cW.sp (t:ch×List bZ):cW k z D t.1 (k.sp t).1:=cW.cV _ t
theorem cW.ke (t:ch×List bZ)(x:Int):cW k z D t.1 (k.ke t x).2.1:=(cW.br x).trans (cW.sp ((k.br t.1 x).2,t.2))
theorem cW.one (t:ch×List bZ)(e:bZ):cW k z D t.1 (cm (dK ch) (fun s x=>k.al s.1 x) k.ke t e).2.1:=by
 unfold cm;split
 ·exact cW.ke t e.2
 ·exact cW.refl
theorem cW.part (l:List bZ)(t:ch×List bZ):cW k z D t.1 (pts (cm (dK ch) (fun s x=>k.al s.1 x) k.ke) t l).2.2.1:=by
 have key:∀(l:List bZ)(p:List bZ×List bZ×(ch×List bZ)),cW k z D p.2.2.1 (l.foldl (ej (cm (dK ch) (fun s x=>k.al s.1 x) k.ke)) p).2.2.1:=by
  intro l
  induction l with
  |nil=>exact fun p=>cW.refl
  |cons e l c=>
   intro p;refine cW.trans ?_ (c _)
   have b:=cW.one (k:=k) (z:=z) (D:=D) p.2.2 e;unfold ej;split
   ·exact b
   ·exact b
 exact key l ([],[],t)
theorem cW.turn:∀(n:Nat)(t:ch×List bZ)(b:List bZ),cW k z D t.1 (eD (cm (dK ch) (fun s x=>k.al s.1 x) k.ke) n t b).1.1
 |0,t,b=>cW.refl
 |n+1,t,b=>by
  unfold eD;split
  ·exact cW.part b t
  ·exact(cW.part b t).trans (cW.turn n _ _)
theorem cW.eO (t:ch×List bZ)(r:List bZ):cW k z D t.1 (k.eO t r).1:=cW.turn _ _ _
end
section
variable {k:ca}{z:C0}{s t:ch}{D:List Int}
theorem qU (k:ca):∀(l left:List Int)(s:ch),(l.foldl k.cO (left,s)).1.length<=left.length+l.length/\((l.foldl k.cO (left,s)).1.length=left.length+l.length->(l.foldl k.cO (left,s)).2=s)
 |[],left,s=>⟨Z,fun _=>rfl⟩
 |b::l,left,s=>by
  rw[a8];cases hls:k.ls s _
  ·have c:k.cO (left,s) b=(left,k.kf (k.kf s (b+1)) (b+2)):=by unfold ca.cO;rw[aE (by rw[hls];simp)]
   rw[c];have d:=(qU k l left (k.kf (k.kf s (b+1)) (b+2))).1;rw[bC];exact⟨V,fun e=>V⟩
  ·have c:k.cO (left,s) b=(left++[b],s):=by unfold ca.cO;rw[aH hls]
   rw[c];obtain⟨d,f⟩:=qU k l (left++[b]) s;rw[aW,List.length_singleton] at d f;rw[bC];exact⟨V,fun e=>f V⟩
theorem Hn (k:ca)(s:ch)(h:(k.kv s).1=false):(k.kv s).2.g=s.g/\(k.kv s).2.nx=s.nx:=by unfold ca.kv ca.dx at h⊢;obtain⟨c,b⟩:=qU k s.ep [] s;have d:=of_decide_eq_false h;rw[List.length_nil,bF] at c b;rw[b V];exact⟨rfl,rfl⟩
theorem ue (k:ca):∀(l:List Nat)(t:(ch×List bZ)×Bool),(l.foldl (dB k.al k.br) t).2=false->(l.foldl (dB k.al k.br) t).1=t.1/\t.2=false
 |[],t,h=>⟨rfl,h⟩
 |i::l,t,h=>by
  rw[a8] at h⊢;obtain⟨c,b⟩:=ue k l _ h;unfold dB at c b⊢;split at b
  ·rename_i e;rw[aH e] at c⊢;exact⟨c,b⟩
  ·cases b
theorem uf (k:ca)(t:ch×List bZ)(h:(k.wa t).2=false):(k.wa t).1=t:=(ue k (List.range t.2.length) (t,false) h).1
theorem qV:∀(n:Nat)(t:ch×List bZ)(H:List Int),LI k z t.1 H D->dL k z t.1 H->ei k t.1->k.mu t.1<n->hB k.N (k.cV n t).1.g (k.cV n t).1.nx=false
 |0,t,H,_,_,_,e=>absurd e V
 |n+1,t,H,h,w,g,e=>by
  obtain⟨u,l1,w1,_,_,i⟩:=LI.po (k.O+1) h w;have gT:=h.mi.ci.gT;obtain⟨c1,c2,c3⟩:=CI.lb h.mi.ci g (k.O+1)
  obtain⟨j,b,v,l⟩:=CI.kv c1 c2;obtain⟨c,l2,d,_,_⟩:=l1.kv w1;unfold ca.cV;cases hk:(k.kv _).1
  ·rw[aE Z];obtain⟨g1,g2⟩:=Hn k _ hk;obtain⟨x,m,A,B,o⟩:=CI.wa (s:=((k.kv _).2,t.2)) j b;cases hw:(k.wa ((k.kv _).2,t.2)).2
   ·rw[aE Z,uf k _ hw];rw[g1,g2];exact i V
   ·obtain⟨p,q,w3,_,_⟩:=cW.wa ((k.kv _).2,t.2) c l2 d;have f:=o hw;dsimp only at f;exact qV n _ p q w3 m V
  ·rw[aH rfl];have f:=l hk;exact qV n ((k.kv _).2,t.2) c l2 d b (by dsimp only;omega)
end
section
variable {k:ca}{z:C0}{s:ch}{H D:List Int}
theorem LI.fields (h:LI k z s H D)(he:hB k.N s.g s.nx=false)
 (hz:∀v,(v∈k.T\/v∈z.G)->∀i,0<=i->i<pf (k.l0 z v)->cX (k.l0 z (v+1+i))=true->cf (k.l0 z (v+1+i))∈k.T\/cf (k.l0 z (v+1+i))∈z.G)
 (hc:∀v∈z.G,v∉D->∀i,0<=i->i<pf (k.l0 z v)->k.cK (k.l0 z (v+1+i))=false)
 {b:Int}(g:b∈z.G++H){i:Int}(i0:0<=i)(i1:i<pf (k.ld s b))(ha:cX (k.ld s (b+1+i))=true):
 cf (k.ld s (b+1+i))∈z.G++H\/(pk (k.ld s b)=3/\i=0/\b∈s.wk)\/(pk (k.ld s b)=4/\b∈s.ep):=by
 obtain⟨a,o⟩:=h.mi.from g;have f:=h.mi.hd a b o;rw[f] at i1;have hm:=h.mi.fd a b o i i0 i1;have zH:a∈k.T\/a∈z.G:=by
  rcases o with⟨e,d⟩|⟨d,_⟩
  ·exact aI (by rw[e];exact d)
  ·exact aJ d
 have l:s.nx=(k.N:Int)+s.g:=by
  rcases h.bo with d|d
  ·have m:=h.mi.iV d;unfold hB at he;have:=of_decide_eq_false he;omega
  ·exact d
 have key:k.cK (k.ld s (b+1+i))=false->cf (k.ld s (b+1+i))∈z.G++H:=fun hy=>by exact zG
 rcases List.mem_append.1 g with d|d
 ·by_cases hD:b∈D
  ·rcases h.ld b hD i i0 (by rw[f];exact i1) with c|c|c
   ·exact aJ (key c)
   ·exact aI (aJ c)
   ·exact aI (aI c)
  ·have ea:a=b:=by
    rcases o with⟨e,_⟩|⟨o1,j,p⟩
    ·exact e
    ·have m:=h.mi.hlo b (by rw[<-j];exact h.mi.fh a o1 (by rw[j];exact p))
     have q:=h.mi.kF b d;omega
   subst ea;have hy:=hc a d hD i i0 i1;refine aJ (key ?_)
   rcases hm with e|⟨g1,_⟩
   ·rw[e];exact hy
   ·rw[hy] at g1;cases g1
 ·rcases h.lo b d (by rw[l];exact(h.mi.iV d).2) i i0 (by rw[f];exact i1) with c|c|c
  ·exact aJ (key c)
  ·exact aI (aJ c)
  ·exact aI (aI c)
end
def jH (k:ca)(G:List Int)(x:Int):Prop:=cX x=true->k.cK x=false/\cf x∈G
structure gG (k:ca)(G:List Int)(P:Int->Int->Prop)(s:ch):Prop where
 full:d6 k.N k.y s.g s.ws k.T G
 len:s.ws.length=k.N+k.O
 hy:k.y<=k.N
 hg:s.g<=k.O
 fd:∀b∈G,∀i,0<=i->i<pf (k.ld s b)->jH k G (k.ld s (b+1+i))\/P b i
 fy:∀b∈G,∀i,0<=i->i<pf (k.ld s b)->k.cK (k.ld s (b+1+i))=false->jH k G (k.ld s (b+1+i))
section
variable {k:ca}{G:List Int}{P:Int->Int->Prop}{s:ch}
theorem gG.st (h:gG k G P s){b i v:Int}(g:b∈G)(l:0<=i)(m:i<pf (k.ld s b))(n:jH k G v):gG k G (fun c j=>P c j/\¬(c=b/\j=i)) (k.st s (b+1+i) v)/\∀c∈G,k.ld (k.st s (b+1+i) v) c=k.ld s c:=by
 have hi:=jF h.full (aI g) l m;have x:=jd hi h.hy h.hg;obtain⟨t,hk⟩:=h.full.set h.len h.hy h.hg (aI g) l m;have e:k.st s (b+1+i) v={s with ws:=s.ws.set (b+1+i).toNat v}:=by unfold ca.st;rw[aH hi]
 have f:∀c∈G,k.ld (k.st s (b+1+i) v) c=k.ld s c:=fun c hc=>by rw[e];exact hk c (aI hc)
 have hld:∀c∈G,∀j,0<=j->j<pf (k.ld s c)->k.ld (k.st s (b+1+i) v) (c+1+j)=if(b+1+i).toNat=(c+1+j).toNat then v else k.ld s (c+1+j):=fun c hc j j0 d=>by
  have o:=jF h.full (aI hc) j0 d;rw[e];show ld k.N k.y s.g _ _=if _ then v else ld k.N k.y s.g s.ws _
  have hl:=h.len;rw[dX o,dX o,jS _ _ _ _ V]
 refine⟨⟨by rw[e];exact t,by rw[e];show(List.set _ _ _).length=_;rw[aX];exact h.len,h.hy,by rw[e];exact h.hg,fun c hc j j0 d=>?_,fun c hc j j0 d=>?_⟩,f⟩
 ·rw[f c hc] at d;rw[hld c hc j j0 d];by_cases q:(b+1+i).toNat=(c+1+j).toNat
  ·rw[aH q];exact aJ n
  ·rw[aE q];exact(h.fd c hc j j0 d).imp id (fun p=>⟨p,fun⟨u,w⟩=>q (by rw[u,w])⟩)
 ·rw[f c hc] at d;rw[hld c hc j j0 d];by_cases q:(b+1+i).toNat=(c+1+j).toNat
  ·rw[aH q];exact fun _=>n
  ·rw[aE q];exact h.fy c hc j j0 d
theorem gG.imp {Q:Int->Int->Prop}(h:gG k G P s)(hp:∀b i,P b i->Q b i):gG k G Q s:=⟨h.full,h.len,h.hy,h.hg,fun b c i d e=>(h.fd b c i d e).imp id (hp b i),h.fy⟩
theorem jH.gone:jH k G 3:=fun h=>absurd h aa
theorem gG.told (h:gG k G P s)(hN:k.N<=256)(hO:k.O<=1024){n:Int}(b:n∈G):jH k G (ew 3 n):=fun _=>by
 have f:=h.full.io n b;have hg:=h.hg;have hy:=h.hy;obtain⟨m,rfl⟩:∃m:Nat,n=m:=⟨n.toNat,V⟩
 obtain⟨d,c⟩:=mU m V;refine⟨?_,by rw[c];exact b⟩
 unfold ca.cK;rw[d,c];cases hc:k.T.contains (m:Int)
 ·rfl
 ·have e:(m:Int)∈k.T:=by simpa using hc
  have:=h.full.ii _ e;omega
theorem gG.mw (hN:k.N<=256)(hO:k.O<=1024):∀(l:List Int){P:Int->Int->Prop}{s:ch},gG k G P s->(∀a∈l,a∈G/\pk (k.ld s a)=3)->(∀a∈k.T,s.f a≠-1->s.f a∈G)->gG k G (fun b i=>P b i/\¬(b∈l/\i=0)) (l.foldl k.eF s)/\(∀c∈G,k.ld (l.foldl k.eF s) c=k.ld s c)/\(l.foldl k.eF s).g=s.g/\(l.foldl k.eF s).rs=s.rs/\(l.foldl k.eF s).ep=s.ep
 |[],P,s,h,_,_=>⟨h.imp (fun b i p=>⟨p,fun⟨d,_⟩=>by cases d⟩),fun _ _=>rfl,rfl,rfl,rfl⟩
 |a::l,P,s,h,hl,g=>by
  rw[a8];obtain⟨ha,o⟩:=hl a Z;have j:=hY (h.full.ee.mem a ha).2.2 (aI (aJ o))
  have j:pf (k.ld s a)=2:=j;have m:a+1+0=a+1:=V;have fy:=h.fy a ha 0 V V;rw[m] at fy;obtain⟨v,ev,q⟩:∃v,k.eF s a=k.st s (a+1) v/\jH k G v:=by
   unfold ca.eF;cases hls:k.ls s _
   ·refine⟨k.nw s _,by rw[aE Z],?_⟩
    cases hy:k.cK _
    ·have e:k.nw s (k.ld s (a+1))=k.ld s (a+1):=by unfold ca.nw;rw[hy];rfl
     rw[e];exact fy hy
    ·unfold ca.ls at hls;rw[hy,Bool.true_and] at hls;have e:k.nw s (k.ld s (a+1))=ew 3 (s.f (cf (k.ld s (a+1)))):=by unfold ca.nw;rw[hy,hls];rfl
     rw[e];unfold ca.cK at hy;rw[ba] at hy;exact h.told hN hO (g _ (by simpa using hy.2) (by simpa using hls))
   ·exact⟨3,by rw[aH rfl],jH.gone⟩
  obtain⟨m1,f⟩:=h.st ha (i:=0) V V q;rw[m] at m1 f;rw[ev];obtain⟨t,j2,cy,cz,dG⟩:=gG.mw hN hO l m1 (fun c hc=>by
   obtain⟨n1,u⟩:=hl c (aO _ hc)
   exact⟨n1,by rw[f c n1];exact u⟩) g
  refine⟨t.imp (fun b i ⟨⟨w,x⟩,A⟩=>⟨w,fun⟨B,n⟩=>?_⟩),fun c hc=>(j2 c hc).trans (f c hc),cy,cz,dG⟩
  rcases List.mem_cons.1 B with d|d
  ·exact x ⟨d,n⟩
  ·exact A ⟨d,n⟩
end
section
variable {k:ca}{G:List Int}
theorem gG.be:∀(l:List Int){P:Int->Int->Prop}{s:ch},gG k G P s->(∀a∈l,a∈G/\pk (k.ld s a)=4)->gG k G (fun b i=>P b i/\¬(b∈l/\(i=0\/i=1))) (l.foldl k.gt s)/\(∀c∈G,k.ld (l.foldl k.gt s) c=k.ld s c)/\(l.foldl k.gt s).g=s.g/\(l.foldl k.gt s).rs=s.rs
 |[],P,s,h,_=>⟨h.imp (fun b i p=>⟨p,fun⟨d,_⟩=>by cases d⟩),fun _ _=>rfl,rfl,rfl⟩
 |a::l,P,s,h,hl=>by
  obtain⟨ha,j⟩:=hl a Z;have B:pf (k.ld s a)=2:=hY (h.full.ee.mem a ha).2.2 (aI (aI j))
  have m:a+1+0=a+1:=V;have n:a+1+1=a+2:=V;obtain⟨m1,f⟩:=h.st ha (i:=0) (v:=3) V V jH.gone;rw[m] at m1 f;obtain⟨n1,g⟩:=m1.st ha (i:=1) (v:=3) V (by rw[f a ha];omega) jH.gone;rw[n] at n1 g;obtain⟨o,j2,cy,cz⟩:=gG.be l n1 (fun c hc=>by
   obtain⟨q1,q⟩:=hl c (aO _ hc)
   exact⟨q1,by rw[g c q1,f c q1];exact q⟩)
  refine⟨o.imp (fun b i ⟨⟨⟨t,u⟩,w⟩,x⟩=>⟨t,fun⟨A,e⟩=>?_⟩),fun c hc=>((j2 c hc).trans (g c hc)).trans (f c hc),cy,cz⟩
  rcases List.mem_cons.1 A with d|d
  ·rcases e with e|e
   ·exact u ⟨d,e⟩
   ·exact w ⟨d,e⟩
  ·exact x ⟨d,e⟩
theorem ug {N y g:Nat}{ws:List Int}{a:Int}(ha:(N:Int)<=a)(hy:y<=N):ld N 0 g ws a=ld N y g ws a:=by
 have e:da N 0 g a=da N y g a:=by unfold da hB;have b:decide ((0:Int)<=a/\a<0+(y:Int))=false:=bz V;rw[(bz V),b]
 unfold ld;rw[e]
theorem gG.done {s:ch}{rs:List Int}(h:gG k G (fun _ _=>False) s)(f:∀x∈rs,jH k G x):hX k.N 0 s.g s.ws [] G rs:=by
 have io:=h.full.io;have eq:∀a,(k.N:Int)<=a->ld k.N 0 s.g s.ws a=ld k.N k.y s.g s.ws a:=fun a ha=>ug ha h.hy;refine⟨⟨by simpa using d5.done,h.full.ee.heads (fun x c=>eq x (io x c).1)⟩,fun x c ha=>aI (f x c ha).2,fun v d i g e ha=>?_⟩
 rcases d with b|b
 ·cases b
 ·have d:=io v b;rw[eq v d.1] at e;rw[eq (v+1+i) V] at ha⊢;exact aI (((h.fd v b i g e).resolve_right id) ha).2
end
end Go.Proofs.YtjpjpjemibgjpaaGreat
