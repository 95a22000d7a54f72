import Derived.Test.YtpkjkjhanlbcoaaGreatJ25
namespace Go.Proofs.YtpkjkjhanlbcoaaGreat
open Go.RowKit W Kp cf
theorem zl {P:Prop}(h:P:=by
 have q0:(S.k5 a).cS (S.cE a) x=(S.s.j0 a).cS (S.cE a) x:=by unfold b9.cS b9.jt;rw[zm]
 unfold b9.al;rw[q0];cases hj:(S.s.j0 a).jt x
 ·unfold b9.cS;rw[hj];rfl
 ·have hmem:=og hj;rw[l3] at hmem;have q:=g.iff _ hmem;unfold b9.cS;by_cases c:(S.cA a).f (cg x)=-1
  ·rw[c,q.2 c]
  ·rw[beq_false_of_ne c,beq_false_of_ne (fun d=>c (q.1 d))]):P:=h
theorem zn {P:Prop}(h:P:=by
 have:(fun e:b7=>((S.s.j0 a).nw (S.cA a) e.1,(S.s.j0 a).nw (S.cA a) e.2))=id:=by
  funext e
  rw[d1.jR.nw,d1.jR.nw];rfl
 rw[this,List.map_id]):P:=h
section
variable {k:b9}{s:cu}
theorem cZ.nw {X:Int->Prop}(h:cZ k X s)(x:Int):k.nw s x=x:=by
 unfold b9.nw;split
 ·rename_i c;rw[a_] at c;have b:s.f (cg x)≠-1:=by simpa using c.2
  have ha:cY x=true:=by have q:=c.1;unfold b9.jt at q;rw[a_] at q;exact q.1
  have h0:dc x=0:=by have q:=ha;unfold cY at q;rw[a_] at q;simpa using q.1
  rw[h.self _ (og c.1) b,lN x ha];have q:=(vu x h0).2;rw[tZ ha] at q;exact q
 ·rfl
theorem t4 {t:cu×List b7}{r:List b7}(h:∀e∈r,k.al t.1 e.2=true):k.tS t r=t:=by
 have e:r.filter (fun e=>!k.al t.1 e.2)=[]:=by rw[List.filter_eq_nil_iff];intro e he;rw[h e he];simp
 show ft (dI cu) (fun s x=>k.al s.1 x) k.ch t r=t;unfold ft;rw[e];rfl
end
section
variable {a:Wc}{S:cq}{Y G:List Int}
theorem qO (c:cV (S.s.j0 a) gL):∀e∈S.r3 a,(S.s.j0 a).al (S.cA a) e.2=true:=by obtain⟨d,f,_⟩:=oh c;intro e he;obtain⟨b,g,i⟩:=List.mem_map.1 he;rw[<-i];show(S.s.j0 a).al (S.cA a) ((S.s.j0 a).nw (S.cA a) b.2)=true;rw[(d.jR.nw b.2)];exact yE f (List.mem_filter.1 (List.mem_filter.1 g).1).2
structure zo (a:Wc)(s:d9)(T:List Int)(j:cu):Prop where
 rt:∀i,i<12->cY (s.rs.getD i 0)=true->cg (s.rs.getD i 0)∈T/\j.f (cg (s.rs.getD i 0))≠-1
 fd:∀c∈T,j.f c≠-1->∀i,0<=i->i<pf (ld a.N s.y s.g s.ws c)->cY ((s.j0 a).ij j c i)=true->cg ((s.j0 a).ij j c i)∈T/\j.f (cg ((s.j0 a).ij j c i))≠-1
theorem l_.inv {s b:d9}{j:cu}(g:l_ a s (G++Y) j b)(h:el a s Y G)(hb:cI a s)(al:zo a s (G++Y) j):el a b [] (j.lf (G++Y))/\cI a b:=by
 obtain⟨_,_,f⟩:=kO h.inv.full hb;have hN:=hb.n1;have hO:=hb.o1;have t:=g.g;have n:∀c∈(s.j0 a).T,j.f c≠-1->0<=j.f c/\j.f c<1000000:=fun c hc o=>by
  rw[f] at hc;have:=g.bd c hc o;have:=dj (ld a.N s.y s.g s.ws c)
  omega
 have key:∀x,(cY x=true->cg x∈G++Y/\j.f (cg x)≠-1)->cY ((s.j0 a).nw j x)=true->cg ((s.j0 a).nw j x)∈j.lf (G++Y):=fun x k ha=>by obtain⟨_,p⟩:=Gu (fun ha=>by rw[f];exact k ha) n;obtain⟨c,c1,c2,c3⟩:=p ha;rw[f] at c1;exact t1.2 ⟨c,c1,c2,c3.symm⟩
 refine⟨⟨?_,fun v _ i _ _ _ hy=>by cases hy⟩,⟨hb.n0,hb.n1,hb.o1,by rw[g.y];exact aZ _,g.g,g.l,g.rl⟩⟩
 rw[g.y];refine⟨(g.full h.inv.full),fun x k ha=>?_,fun v hv i l d ha=>?_⟩
 ·obtain⟨i,hi,e⟩:=List.mem_iff_getElem.1 k;have q:b.rs.getD i 0=x:=by rw[aE,aL hi,e];rfl
  have m:i<12:=by rw[<-g.rl];exact hi
  rw[<-q,g.rs i m] at ha⊢;exact aJ (key _ (al.rt i m) ha)
 ·obtain⟨c,c1,c2,c3⟩:=t1.1 (hv.resolve_left Z)
  rw[<-c3] at d ha⊢;rw[g.hd c c1 c2] at d;rw[g.fd c c1 c2 i l d] at ha⊢;exact aJ (key _ (al.fd c c1 c2 i l d) ha)
structure Gv (a:Wc)(S:cq)(Y G:List Int)(j:cu):Prop where
 gc:l_ a S.s (G++Y) j (S.dy a).s
 al:zo a S.s (G++Y) j
 g:((S.dy a).s.g:Int)=S.n4 a
 iff:∀c∈G++Y,j.f c=-1↔(S.cA a).f c=-1
 j:S.cE a=j
theorem mc (h:el a S.s Y G)(hb:cI a S.s)(t:S.fM a=false):(∃F,iD (S.k5 a) (S.dC a) F/\F 0 (S.k5 a,0))/\Gv a S Y G (S.cE a)/\S.dC a=S.cE a:=by
 have j:=cV.start hb.n1 hb.o1 hb.y1 hb.g1;obtain⟨k,U,H⟩:=oh (S:=S) j;obtain⟨l1,l2,d⟩:=kO h.inv.full hb;have hm:((S.s.j0 a).pl (S.cA a)).2<=a.N+a.O:=by
  have:=of_decide_eq_false t;unfold cq.n4 at this
  omega
 obtain⟨g1,g2,g3,g4⟩:=Gs h.inv.full hb (S.cA a) hm;have I:((S.s.j0 a).pl (S.cA a)).1=S.cE a:=rfl;rw[I] at g1 g2 g3 g4;have u:(S.s.j0 a).e3 (S.cE a)=S.k5 a:=rfl;rw[u] at g1 g2 g4;have J:(S.k5 a).T=(S.s.j0 a).T:=by
  obtain⟨_,v,t3,_⟩:=pr ⟨hb.l1,hb.y1,hb.g1⟩ hb.r1 j.nd (oq h.inv.full hb) (py h.inv.full hb)
  rw[u] at v t3;unfold b9.T;rw[v,t3]
 have w:∀x,(S.s.j0 a).cS (S.cE a) x=(S.s.j0 a).cS (S.cA a) x:=fun x=>by
  cases hj:(S.s.j0 a).jt x
  ·unfold b9.cS;rw[hj];rfl
  ·have A:=og hj;rw[d] at A;have q:=g3 _ A;unfold b9.cS;by_cases c:(S.cA a).f (cg x)=-1
   ·rw[c,q.2 c]
   ·rw[beq_false_of_ne c,beq_false_of_ne (fun K=>c (q.1 K))]
 have B:S.dC a=S.cE a:=by
  have q:(S.k5 a).tS (S.cE a,S.q3 a) (S.r3 a)=(S.cE a,S.q3 a):=t4 (fun e he=>by
   have q1:=qO (S:=S) j e he;unfold b9.al at q1⊢;have C:(S.k5 a).cS (S.cE a) e.2=(S.s.j0 a).cS (S.cE a) e.2:=by unfold b9.cS b9.jt;rw[J]
   rw[C,w];exact q1)
  unfold cq.dC;rw[q]
 have L:(S.k5 a).sl (S.cE a)=S.k6 a:=by unfold cq.k6;rw[B]
 rw[L] at g1 g2;have D:(S.dy a).s=(S.k6 a).s:=by unfold cq.dy;rw[t,aG Z]
 have E:∀x,cY x=true->cg x∈G++Y->(S.s.j0 a).cS (S.cA a) x=false->(S.cE a).f (cg x)≠-1:=fun x ha hm hj=>by
  have M:(S.s.j0 a).jt x=true:=by unfold b9.jt;rw[ha,d,List.contains_iff_mem.2 hm];rfl
  rw[b9.pm M] at hj;exact fun e=>hj ((g3 _ hm).1 e)
 rw[B];refine⟨g4,⟨by rw[D];exact g1,⟨fun i hi ha=>?_,fun c hc N i l m ha=>?_⟩,by rw[D];exact g2,g3,rfl⟩,rfl⟩
 ·have O:S.s.rs.getD i 0∈S.s.rs:=by rw[aE,aL (by rw[hb.r1];exact hi)];exact a6 _
  have b:=List.mem_append.2 (h.inv.rt _ O ha).symm;exact⟨b,E _ ha b (H i hi)⟩
 ·have n:pc (ld a.N S.s.y S.s.g S.s.ws c)=0:=(oq h.inv.full hb c (by rw[d];exact hc)).c;have P:c∈(S.s.j0 a).T:=by rw[d];exact hc
  have Q:_:=fun e=>N ((g3 c hc).2 e)
  have hM:m4 (S.s.j0 a) (S.cA a) c:=by
   rcases k.jR.cmp c P Q with q|q|q
   ·rw[k.td] at q;cases q
   ·exact absurd q id
   ·exact q
  have mem:∀i,0<=i->i<pf (ld a.N S.s.y S.s.g S.s.ws c)->cY (ld a.N S.s.y S.s.g S.s.ws (c+1+i))=true->_:=fun i l m ha=>List.mem_append.2 (h.inv.fd c (List.mem_append.1 hc).symm i l m ha).symm;unfold b9.ij at ha⊢;rw[w] at ha⊢;by_cases cb:((pk ((S.s.j0 a).ld c)=3\/pk ((S.s.j0 a).ld c)=4)/\(S.s.j0 a).cS (S.cA a) ((S.s.j0 a).ld (c+1))=true)/\(i=0\/(pk ((S.s.j0 a).ld c)=4/\i=1))
  ·rw[aI cb] at ha;exact absurd ha aa
  ·rw[aG cb] at ha⊢;have ha:=ha;have b:=mem i l m ha;refine⟨b,E _ ha b ?_⟩
   by_cases p:pk ((S.s.j0 a).ld c)=1\/pk ((S.s.j0 a).ld c)=2
   ·have q:=hM.p p i.toNat (by show(i.toNat:Int)<pf (ld a.N S.s.y S.s.g S.s.ws c);omega)
    rwa [show((i.toNat:Nat):Int)=i from by omega] at q
   ·by_cases f:pk ((S.s.j0 a).ld c)=3
    ·have R:=ii n (aJ (aK f))
     by_cases z:i=0
     ·cases hl:(S.s.j0 a).cS (S.cA a) ((S.s.j0 a).ld (c+1))
      ·rw[z,Int.add_zero];exact hl
      ·exact absurd ⟨⟨aK f,hl⟩,aK z⟩ cb
     ·have o:i=1:=V;rw[o,show c+1+1=c+2 from by omega];exact hM.w f
    ·by_cases g:pk ((S.s.j0 a).ld c)=4
     ·have R:=ii n (aJ (aJ g))
      have s:(S.s.j0 a).cS (S.cA a) ((S.s.j0 a).ld (c+1))=false:=by
       cases hl:(S.s.j0 a).cS (S.cA a) _
       ·rfl
       ·exact absurd ⟨⟨aJ g,hl⟩,V⟩ cb
      by_cases z:i=0
      ·rw[z,Int.add_zero];exact s
      ·have o:i=1:=V;rw[o,show c+1+1=c+2 from by omega];rcases hM.e g with q|q
       ·rw[k.ep c q] at s;cases s
       ·exact q
     ·have q1:=yL n;have C:pf (ld a.N S.s.y S.s.g S.s.ws c)=0:=by
       have q3:pk (ld a.N S.s.y S.s.g S.s.ws c)≠1/\pk (ld a.N S.s.y S.s.g S.s.ws c)≠2/\pk (ld a.N S.s.y S.s.g S.s.ws c)≠3/\pk (ld a.N S.s.y S.s.g S.s.ws c)≠4:=⟨fun e=>p (aK e),fun e=>p (aJ e),f,g⟩
       omega
      omega
theorem Gw (a:Wc)(S:cq):(S.dy a).r.length+(S.dy a).q.length<=S.r.length+S.q.length:=by
 unfold cq.dy;split
 ·exact aD _
 ·have b:(S.j2 a).2.length=S.q.length:=pd _ _ _;have c:(S.r3 a).length+(S.q3 a).length<=S.r.length+(S.j2 a).2.length:=qD (dI cu) (fun s x=>(S.s.j0 a).al s.1 x) _ (fun s x=>(S.s.j0 a).nw s.1 x) (fun s x=>qx _ s x) (S.j2 a) S.r;have d:((S.k5 a).tR (S.cE a,S.q3 a) (S.r3 a)).length+((S.k5 a).ie (S.cE a,S.q3 a) (S.r3 a)).length<=(S.r3 a).length+(S.q3 a).length:=qD (dI cu) (fun s x=>(S.k5 a).al s.1 x) _ (fun s x=>(S.k5 a).nw s.1 x) (fun _ _=>rfl) (S.cE a,S.q3 a) (S.r3 a)
  dsimp only;omega
theorem el.dy (h:el a S.s Y G)(hb:cI a S.s):(S.fM a=false->∃F,iD (S.k5 a) (S.dC a) F/\F 0 (S.k5 a,0))/\(∃c d,el a (S.dy a).s c d)/\(S.dy a).s.M.length<=S.s.M.length:=by
 refine⟨fun b=>(mc h hb b).1,?_⟩
 cases b:S.fM a
 ·obtain⟨_,g,_⟩:=mc h hb b;obtain⟨e,_⟩:=g.gc.inv h hb g.al;exact⟨⟨[],_,e⟩,by rw[g.gc.M];exact aZ _⟩
 ·have f:S.dy a=S:=by unfold cq.dy;rw[aI b]
  rw[f];exact⟨⟨Y,G,h⟩,aD _⟩
end
structure nf (k:b9)(C:Int->Prop):Prop where
 rt:∀i,i<12->k.jt (k.s.rs.getD i 0)=true->C (cg (k.s.rs.getD i 0))
 p:∀a∈k.T,C a->pk (k.ld a)=1\/pk (k.ld a)=2->∀i:Nat,(i:Int)<pf (k.ld a)->k.jt (k.ld (a+1+i))=true->C (cg (k.ld (a+1+i)))
 w:∀a∈k.T,C a->pk (k.ld a)=3->k.jt (k.ld (a+2))=true->C (cg (k.ld (a+2)))
 e:∀a∈k.T,C a->pk (k.ld a)=4->(k.jt (k.ld (a+1))=true->C (cg (k.ld (a+1))))->k.jt (k.ld (a+2))=true->C (cg (k.ld (a+2)))
def pz (k:b9)(C:Int->Prop)(q:List b7):Prop:=∀e∈q,(k.jt e.1=true->C (cg e.1))->k.jt e.2=true->C (cg e.2)
structure dG (k:b9)(C:Int->Prop)(s:cu):Prop where
 snd:∀a∈k.T,s.f a≠-1->C a
 ea:∀a∈s.ep,a∈k.T/\s.f a≠-1/\pk (k.ld a)=4
section
variable {k:b9}{C:Int->Prop}{s:cu}
theorem dG.cS (h:dG k C s){x:Int}(b:k.cS s x=false):k.jt x=true->C (cg x):=fun ht=>h.snd _ (og ht) ((b9.pm ht).1 b)
theorem dG.al (h:dG k C s){x:Int}(b:k.al s x=true):k.jt x=true->C (cg x):=h.cS (by unfold b9.al at b;simpa using b)
theorem dG.ma (h:dG k C s)(x:Int)(i:k.jt x=true->C (cg x))(le:dQ k s (k.ma s x)):dG k C (k.ma s x):=by
 refine⟨fun b hb d=>?_,fun b hb=>?_⟩
 ·by_cases c:k.cS s x=true
  ·have e:(k.ma s x).f b=if b=cg x then cg x else s.f b:=by unfold b9.ma;rw[aI c];rfl
   rw[e] at d;by_cases f:b=cg x
   ·rw[f];refine i ?_;unfold b9.cS at c;rw[a_] at c;exact c.1
   ·rw[aG f] at d;exact h.snd b hb d
  ·have e:k.ma s x=s:=by unfold b9.ma;rw[aG c]
   rw[e] at d;exact h.snd b hb d
 ·rw[qA] at hb;obtain⟨q1,g,q3⟩:=h.ea b hb;exact⟨q1,by rw[le.f b g];exact g,q3⟩
theorem dG.e7 {X:Int->Prop}(h:dG k C s)(m:cZ k X s)(a:Int):∀n:Nat,(∀i:Nat,i<n->k.jt (k.ld (a+1+i))=true->C (cg (k.ld (a+1+i))))->dG k C (k.e7 s a n)
 |0,_=>h
 |n+1,b=>by obtain⟨m1,_⟩:=m.e7 a n;exact(dG.e7 h m a n (fun i hi=>b i V)).ma _ (b n V) (m1.ma _).2.1
theorem dG.l1 (h:dG k C s)(m:cZ k (fun _=>False) s)(d:nf k C)(hl:0<s.td.length):dG k C (k.l1 s):=by
 obtain⟨x,e⟩:∃x,s.td.getD (s.td.length-1) 0=x:=⟨_,rfl⟩
 have hm:x∈s.td:=by rw[<-e,aE,aL V];exact a6 _
 have c:=m.eX.td x hm;have f:=m.td x hm;have hc:=h.snd x c f;have j:k.l1 s=k.lk {s with td:=s.td.take (s.td.length-1)} x:=by unfold b9.l1;rw[e]
 have hs:=m.eX.sum;have n:(s.td.take (s.td.length-1)).length=s.td.length-1:=by rw[bw];omega
 have g:cZ k (fun b=>b∈s.td) {s with td:=s.td.take (s.td.length-1)}:=⟨⟨m.eX.nd,m.eX.ps,fun a ha=>m.eX.td a (List.mem_of_mem_take ha),m.eX.ep,m.eX.tl,by
  show k.lost s+(s.td.take _).length+s.ep.length<=_;omega⟩,m.self,fun a ha=>m.td a (List.mem_of_mem_take ha),fun a ha l=>by
  rcases m.cmp a ha l with q|q|q
  ·exact aJ (aK q)
  ·exact absurd q id
  ·exact aJ (aJ ⟨q.p,q.w,q.e⟩)⟩
 have h0:dG k C {s with td:=s.td.take (s.td.length-1)}:=⟨h.snd,h.ea⟩
 rw[j];unfold b9.lk;by_cases c1:pk (k.ld x)=1\/pk (k.ld x)=2
 ·rw[aI c1];exact h0.e7 g x _ (fun i hi=>d.p x c hc c1 i V)
 ·rw[aG c1];by_cases c3:pk (k.ld x)=3
  ·rw[aI c3];exact h0.ma _ (d.w x c hc c3) (g.ma _).2.1
  ·rw[aG c3];by_cases c4:pk (k.ld x)=4
   ·rw[aI c4];refine⟨h.snd,fun b hb=>?_⟩
    rcases List.mem_append.1 hb with hb|hb
    ·exact h.ea b hb
    ·rw[List.mem_singleton.1 hb];exact⟨c,f,c4⟩
   ·rw[aG c4];exact h0
theorem dG.lm (b:nf k C):∀(n:Nat){s:cu},dG k C s->cZ k (fun _=>False) s->dG k C (k.lm n s)
 |0,s,h,_=>h
 |n+1,s,h,m=>by
  unfold b9.lm;by_cases c:0<s.td.length
  ·rw[aI c];exact dG.lm b n (h.l1 m b c) (m.l1 c).1
  ·rw[aG c];exact h
theorem dG.iC (d:nf k C):∀(l:List Int){t:List Int×cu},dG k C t.2->cZ k (fun _=>False) t.2->(∀a∈l,a∈k.T/\t.2.f a≠-1/\pk (k.ld a)=4)->dG k C (l.foldl k.cP t).2/\∀a∈(l.foldl k.cP t).1,a∈t.1\/a∈l
 |[],t,h,_,_=>⟨h,fun _ ha=>aK ha⟩
 |a::l,t,h,m,hl=>by
  rw[a8];obtain⟨a1,a2,j⟩:=hl a Z;by_cases c:k.cS t.2 (k.ld (a+1))=true
  ·have e:k.cP t a=(t.1++[a],t.2):=by unfold b9.cP;rw[aI c]
   rw[e];obtain⟨f,g⟩:=dG.iC d l (t:=(t.1++[a],t.2)) h m (fun b hb=>hl b (aO _ hb))
   refine⟨f,fun b hb=>?_⟩
   rcases g b hb with q|q
   ·rcases List.mem_append.1 q with q|q
    ·exact aK q
    ·exact aJ (by rw[List.mem_singleton.1 q];simp)
   ·exact aJ (aO _ q)
  ·have e:k.cP t a=(t.1,k.ma t.2 (k.ld (a+2))):=by unfold b9.cP;rw[aG c]
   rw[e];obtain⟨m1,i,_⟩:=m.ma _;obtain⟨f,g⟩:=dG.iC d l (t:=(t.1,k.ma t.2 _)) (h.ma _ (d.e a a1 (h.snd a a1 a2) j (h.cS (by simpa using c))) i) m1 (fun b hb=>by
    obtain⟨b1,b2,b3⟩:=hl b (aO _ hb)
    exact⟨b1,by rw[i.f b b2];exact b2,b3⟩)
   exact⟨f,fun b hb=>(g b hb).imp id (fun q=>aO _ q)⟩
theorem dG.kv (d:nf k C)(h:dG k C s)(m:cZ k (fun _=>False) s):dG k C (k.kv s).2:=by
 obtain⟨e,f⟩:=dG.iC d s.ep (t:=([],s)) h m h.ea;obtain⟨_,le,_⟩:=cZ.iC s.ep (t:=([],s)) m;refine⟨e.snd,fun b hb=>?_⟩
 have hb:=hb;rcases f b hb with q|q
 ·cases q
 ·obtain⟨q1,c,q3⟩:=h.ea b q;exact⟨q1,by show(s.ep.foldl k.cP ([],s)).2.f b≠-1;rw[le.f b c];exact c,q3⟩
theorem dG.kn (q:List b7)(b:pz k C q):∀(l:List Nat)(t:(cu×List b7)×Bool),t.1.2=q->(∀i∈l,i<q.length)->dG k C t.1.1->cZ k (fun _=>False) t.1.1->dG k C (l.foldl (dB k.al k.mp) t).1.1
 |[],t,_,_,h,_=>h
 |i::l,t,e,hl,h,m=>by
  rw[a8];have hi:=hl i Z;by_cases c:(k.al t.1.1 (t.1.2.getD i (0,0)).2||!k.al t.1.1 (t.1.2.getD i (0,0)).1)=true
  ·have d:dB k.al k.mp t i=t:=by unfold dB;rw[aI c]
   rw[d];exact dG.kn q b l t e (fun j f=>hl j (aO _ f)) h m
  ·have d:dB k.al k.mp t i=((k.ma t.1.1 (t.1.2.getD i (0,0)).2,t.1.2),true):=by exact yt
   rw[d];have hm:t.1.2.getD i (0,0)∈q:=by rw[e,aE,aL hi];exact a6 hi
   have hg:k.al t.1.1 (t.1.2.getD i (0,0)).1=true:=by
    cases hh:k.al t.1.1 _
    ·exact absurd (by rw[hh];simp) c
    ·rfl
   obtain⟨m1,g,_⟩:=m.ma _;exact dG.kn q b l _ e (fun j f=>hl j (aO _ f)) (h.ma _ (b _ hm (h.al hg)) g) m1
theorem dG.cW (b:nf k C):∀(n:Nat)(t:cu×List b7),pz k C t.2->dG k C t.1->cZ k (fun _=>False) t.1->dG k C (k.cW n t).1
 |0,t,_,h,_=>h
 |n+1,t,c,h,m=>by
  obtain⟨l1,_⟩:=m.eJ;have d:=dG.kv b (dG.lm b _ h m) l1;obtain⟨v1,_⟩:=l1.kv;have e:dG k C (k.wa ((k.kv (k.eJ t.1)).2,t.2)).1.1:=dG.kn t.2 c _ (((k.kv _).2,t.2),false) rfl (fun i hi=>by simpa using hi) d v1;obtain⟨w1,_,f,_⟩:=cZ.wa (t:=((k.kv _).2,t.2)) v1;unfold b9.cW;split
  ·exact dG.cW b n _ c d v1
  ·split
   ·exact dG.cW b n _ (by rw[f];exact c) e w1
   ·exact e
theorem dG.ke (b:nf k C){t:cu×List b7}(c:pz k C t.2)(h:dG k C t.1)(m:cZ k (fun _=>False) t.1)(x:Int)(d:k.jt x=true->C (cg x)):dG k C (k.ke t x).2.1:=by obtain⟨m1,e,_⟩:=m.ma x;exact dG.cW b _ (k.ma t.1 x,t.2) c (h.ma x d e) m1
end
section
variable {k:b9}
end
def kP (k:b9)(l:List b7):Prop:=∀e∈l,k.jt e.1=true/\k.jt e.2=true
section
variable {a:Wc}{S:cq}{Y G:List Int}
theorem zp (h:el a S.s Y G)(hb:cI a S.s)(j:S.fM a=false):(S.dy a).q=(((S.s.j0 a).eW (S.j2 a) S.r).2.filter (fun e=>(S.s.j0 a).al (S.cA a) e.1)).map (fun e=>((S.s.j0 a).nw (S.cE a) e.1,(S.s.j0 a).nw (S.cE a) e.2)):=by
 have i:=cV.start hb.n1 hb.o1 hb.y1 hb.g1;obtain⟨d1,o,p⟩:=oh (S:=S) i;obtain⟨_,l2,l3⟩:=kO h.inv.full hb;obtain⟨_,g,t⟩:=mc h hb j;obtain⟨_,b,t3,_⟩:=pr (s:=S.cE a) (k:=S.s.j0 a) ⟨hb.l1,hb.y1,hb.g1⟩ hb.r1 i.nd (oq h.inv.full hb) (py h.inv.full hb)
 have b:(S.k5 a).Y=(S.s.j0 a).Y:=b;have t3:(S.k5 a).G=(S.s.j0 a).G:=t3;have zm:(S.k5 a).T=(S.s.j0 a).T:=by unfold b9.T;rw[b,t3]
 have l:∀x,(S.k5 a).al (S.cE a) x=(S.s.j0 a).al (S.cA a) x:=fun x=>by exact zl
 have q3:S.q3 a=((S.s.j0 a).eW (S.j2 a) S.r).2.filter (fun e=>(S.s.j0 a).al (S.cA a) e.1):=by show((((S.s.j0 a).eW (S.j2 a) S.r).2.filter (fun e=>(S.s.j0 a).al (S.cA a) e.1)).map fun e=>((S.s.j0 a).nw (S.cA a) e.1,(S.s.j0 a).nw (S.cA a) e.2))=_;exact zn
 have m:(S.k5 a).tS (S.cE a,S.q3 a) (S.r3 a)=(S.cE a,S.q3 a):=t4 (fun e he=>by rw[l];exact qO i e he)
 unfold cq.dy;rw[j,aG Z];show eP (dI cu) (fun s x=>(S.k5 a).al s.1 x) _ (fun s x=>(S.k5 a).nw s.1 x) (S.cE a,S.q3 a) (S.r3 a)=_;unfold eP;have e:ft (dI cu) (fun s x=>(S.k5 a).al s.1 x) (S.k5 a).ch (S.cE a,S.q3 a) (S.r3 a)=(S.cE a,S.q3 a):=m;rw[e];show((S.q3 a).filter (fun e=>(S.k5 a).al (S.cE a) e.1)).map (fun e=>((S.k5 a).nw (S.cE a) e.1,(S.k5 a).nw (S.cE a) e.2))=_;have n:(S.q3 a).filter (fun e=>(S.k5 a).al (S.cE a) e.1)=S.q3 a:=List.filter_eq_self.2 (fun e he=>by rw[l];rw[q3] at he;exact(List.mem_filter.1 he).2)
 rw[n,q3];refine List.map_congr_left (fun e _=>?_)
 rw[b9.km _ _ b t3,b9.km _ _ b t3]
end
theorem Gx {k:b9}{j:cu}{x:Int}(b:k.jt x=true)(c:j.f (cg x)≠-1)(hb:0<=j.f (cg x)/\j.f (cg x)<1000000):k.nw j x=ew 3 (j.f (cg x))/\cY (k.nw j x)=true/\cg (k.nw j x)=j.f (cg x):=by
 have e:k.nw j x=ew 3 (j.f (cg x)):=by unfold b9.nw;rw[b,beq_false_of_ne c];rfl
 obtain⟨n,hn⟩:∃n:Nat,j.f (cg x)=n:=⟨(j.f (cg x)).toNat,V⟩
 obtain⟨w1,d⟩:=m6 n V;rw[e,hn];exact⟨rfl,w1,d⟩
section
variable {a:Wc}{S:cq}{Y G:List Int}
end
section
variable {a:Wc}{S:cq}{G:List Int}
end
def jB (a:Wc)(W:cq):Prop:=∀e,(e∈W.r\/e∈W.q)->tB a.N W.s.y W.s.g W.s.ws e.1=true/\tB a.N W.s.y W.s.g W.s.ws e.2=true
section
variable {a:Wc}{S:cq}{Y G:List Int}
theorem i8 {N O y g:Nat}{ws Y G:List Int}(h:d5 N y g ws Y G)(hN:N<=256)(hy:y<=N)(hO:O<=1024)(hg:g<=O){x:Int}:tB N y g ws x=true↔cY x=true/\(cg x∈Y\/cg x∈G):=by
 refine⟨yJ h hN hy hO hg,fun⟨b,c⟩=>?_⟩
 obtain⟨d,e⟩:=h.lists hN hy hO hg;unfold tB;rw[b,d,e];rcases c with q|q
 ·rw[List.contains_iff_mem.2 q];rfl
 ·rw[List.contains_iff_mem.2 q,Bool.or_true];rfl
theorem qP (h:el a S.s Y G)(hb:cI a S.s){x:Int}:(S.s.j0 a).jt x=true↔tB a.N S.s.y S.s.g S.s.ws x=true:=by
 obtain⟨_,_,d⟩:=kO h.inv.full hb;rw[i8 h.inv.full hb.n1 hb.y1 hb.o1 hb.g1];unfold b9.jt;rw[d,a_];constructor
 ·rintro⟨b,c⟩
  exact⟨b,(List.mem_append.1 (List.contains_iff_mem.1 c)).symm⟩
 ·rintro⟨b,c⟩
  exact⟨b,List.contains_iff_mem.2 (List.mem_append.2 c.symm)⟩
theorem jB.ok (h:jB a S)(hk:el a S.s Y G)(hb:cI a S.s):kP (S.s.j0 a) S.r/\kP (S.s.j0 a) S.q:=
 ⟨fun e he=>⟨(qP hk hb).2 (h e (aK he)).1,(qP hk hb).2 (h e (aK he)).2⟩,fun e he=>⟨(qP hk hb).2 (h e (aJ he)).1,(qP hk hb).2 (h e (aJ he)).2⟩⟩
theorem Gy (u:cV (S.s.j0 a) gL)(hr:kP (S.s.j0 a) S.r)(hq:kP (S.s.j0 a) S.q):∀e∈((S.s.j0 a).eW (S.j2 a) S.r).2,(S.s.j0 a).jt e.1=true/\(S.s.j0 a).jt e.2=true:=by
 obtain⟨v,_,_⟩:=(cZ.start u).cJ 12;obtain⟨w,_,i⟩:=cZ.sp (t:=((S.s.j0 a).cJ gL 12,S.q)) v;have i:(S.j2 a).2=S.q:=i;have key:∀(n:Nat)(t:cu×List b7)(f:List b7),fN (S.s.j0 a) t.1 t.2->kP (S.s.j0 a) t.2->kP (S.s.j0 a) f->kP (S.s.j0 a) (eB (S.s.j0 a).fF n t f).1.2:=fun n=>by
  have pl:∀(l:List b7)(d:List b7×List b7×(cu×List b7)),fN (S.s.j0 a) d.2.2.1 d.2.2.2->kP (S.s.j0 a) d.2.2.2->kP (S.s.j0 a) l->kP (S.s.j0 a) (l.foldl (eh (S.s.j0 a).fF) d).2.2.2:=fun l=>by
   induction l with
   |nil=>intro d _ g _;exact g
   |cons e l j=>
    intro d m g hl;have o:(eh (S.s.j0 a).fF d e).2.2=((S.s.j0 a).fF d.2.2 e).2:=by unfold eh;split<;>rfl
    refine j _ (by rw[o];exact(m.cm e).1) ?_ (fun b hb=>hl b (aO _ hb))
    rw[o];cases c:(S.s.j0 a).al d.2.2.1 e.1
    ·have k:(S.s.j0 a).fF d.2.2 e=(false,d.2.2):=mS c;rw[k];exact g
    ·obtain⟨_,_,x,_⟩:=m.jR.ke e.2;have k:(S.s.j0 a).fF d.2.2 e=(true,(((S.s.j0 a).ke d.2.2 e.2).2.1,d.2.2.2++[e])):=by refine(mT (s:=d.2.2) c).trans ?_;show(true,(((S.s.j0 a).ke d.2.2 e.2).2.1,((S.s.j0 a).ke d.2.2 e.2).2.2++[(e.1,e.2)]))=_;rw[x]
     rw[k];intro b hb;rcases List.mem_append.1 hb with hb|hb
     ·exact g b hb
     ·rw[List.mem_singleton.1 hb];exact hl e Z
  induction n with
  |zero=>intro t f _ ht _;exact ht
  |succ n j=>
   intro t f p ht hd;have q:=pl f ([],[],t) p ht hd;by_cases c:(pts (S.s.j0 a).fF t f).1.length=0
   ·rw[lR _ _ _ _ c];exact q
   ·rw[lS _ _ _ _ c];exact j _ _ (fN.pl f ([],[],t) p).1 q (fun e he=>hd e (sx _ t f e (aJ he)))
 exact key _ (S.j2 a) _ w (by rw[i];exact hq) (fun e he=>hr e (List.mem_filter.1 he).1)
theorem jB.dy (h:jB a S)(hk:el a S.s Y G)(hb:cI a S.s):jB a (S.dy a):=by
 cases hf:S.fM a
 ·have n:=cV.start hb.n1 hb.o1 hb.y1 hb.g1;obtain⟨hr,hq⟩:=h.ok hk hb;obtain⟨o,D,_⟩:=oh n;obtain⟨_,_,w⟩:=kO hk.inv.full hb;obtain⟨_,g,p⟩:=mc hk hb hf;obtain⟨E,B1⟩:=g.gc.inv hk hb g.al;have hN:=hb.n1;have hO:=hb.o1;have K:=g.gc.g;have bnd:∀c∈G++Y,(S.cE a).f c≠-1->0<=(S.cE a).f c/\(S.cE a).f c<1000000:=fun c hc F=>by
   have q1:=g.gc.bd c hc F;have b:=dj (ld a.N S.s.y S.s.g S.s.ws c)
   omega
  have H:∀x,(S.s.j0 a).jt x=true->(S.s.j0 a).al (S.cA a) x=true->(S.cE a).f (cg x)≠-1:=fun x d ha q=>by
   have hm:=og d;rw[w] at hm;unfold b9.al at ha;have b:(S.s.j0 a).cS (S.cA a) x=false:=by simpa using ha
   exact(b9.pm d).1 b ((g.iff _ hm).1 q)
  have key:∀x,(S.s.j0 a).jt x=true->(S.s.j0 a).al (S.cA a) x=true->tB a.N (S.dy a).s.y (S.dy a).s.g (S.dy a).s.ws ((S.s.j0 a).nw (S.cE a) x)=true:=fun x d ha=>by
   have hm:=og d;rw[w] at hm;have s:=H x d ha;obtain⟨_,b,q3⟩:=Gx d s (bnd _ hm s)
   refine(i8 E.inv.full B1.n1 B1.y1 B1.o1 B1.g1).2 ⟨b,aJ ?_⟩
   rw[q3];exact t1.2 ⟨_,hm,s,rfl⟩
  obtain⟨_,j,t3,_⟩:=pr ⟨hb.l1,hb.y1,hb.g1⟩ hb.r1 n.nd (oq hk.inv.full hb) (py hk.inv.full hb)
  have j:=j;have t3:=t3;intro e he;rcases he with he|he
  ·have t:(S.dy a).r=(S.k5 a).tR (S.cE a,S.q3 a) (S.r3 a):=by unfold cq.dy;rw[hf,aG Z]
   rw[t] at he;have he:e∈(((S.r3 a).filter (fun e=>(S.k5 a).al (S.cE a) e.2)).filter (fun e=>(S.k5 a).al ((S.k5 a).tS (S.cE a,S.q3 a) (S.r3 a)).1 e.1)).map fun e=>((S.k5 a).nw ((S.k5 a).tS (S.cE a,S.q3 a) (S.r3 a)).1 e.1,(S.k5 a).nw ((S.k5 a).tS (S.cE a,S.q3 a) (S.r3 a)).1 e.2):=he;have p:((S.k5 a).tS (S.cE a,S.q3 a) (S.r3 a)).1=S.cE a:=p;rw[p] at he;obtain⟨f,u,v⟩:=List.mem_map.1 he;have i:=(List.mem_filter.1 (List.mem_filter.1 u).1).1;have i:f∈((S.r.filter (fun e=>(S.s.j0 a).al (S.j2 a).1 e.2)).filter (fun e=>(S.s.j0 a).al (S.cA a) e.1)).map fun e=>((S.s.j0 a).nw (S.cA a) e.1,(S.s.j0 a).nw (S.cA a) e.2):=i;obtain⟨I,l,m⟩:=List.mem_map.1 i;obtain⟨J,A⟩:=List.mem_filter.1 l;obtain⟨B,C⟩:=List.mem_filter.1 J;rw[o.jR.nw,o.jR.nw] at m;have m:I=f:=m;rw[m] at A B C;obtain⟨q1,b⟩:=hr f B;rw[<-v,b9.km (k:=S.k5 a) _ _ j t3,b9.km (k:=S.k5 a) _ _ j t3];exact⟨key _ q1 A,key _ b (yE D C)⟩
  ·rw[zp hk hb hf] at he;obtain⟨f,u,v⟩:=List.mem_map.1 he;obtain⟨i,l⟩:=List.mem_filter.1 u;obtain⟨q1,b⟩:=Gy n hr hq f i;rw[<-v];refine⟨key _ q1 l,key _ b ?_⟩
   rcases o.wq f i with q|q
   ·exact q
   ·rw[l] at q;cases q
 ·have t:S.dy a=S:=by unfold cq.dy;rw[aI hf]
  rw[t];exact h
theorem jB.more {W:cq}{b:d9}{d f:List Int}(h:jB a W)(hk:el a W.s Y G)(hb:cI a W.s)(g:d5 a.N b.y b.g b.ws d f)(hy:b.y<=a.N)(hg:b.g<=a.O)(hs:∀v,(v∈Y\/v∈G)->(v∈d\/v∈f)):jB a ⟨b,W.r,W.q⟩:=fun e he=>by
 have key:∀x,tB a.N W.s.y W.s.g W.s.ws x=true->tB a.N b.y b.g b.ws x=true:=fun x i=>by obtain⟨q1,c⟩:=(i8 hk.inv.full hb.n1 hb.y1 hb.o1 hb.g1).1 i;exact(i8 g hb.n1 hy hb.o1 hg).2 ⟨q1,hs _ c⟩
 obtain⟨q1,c⟩:=h e he;exact⟨key _ q1,key _ c⟩
end
def jW (k:ce)(z:C0)(x:Int):Prop:=cY x=true/\(cg x∈k.T\/cg x∈z.G)
def gV (k:ce)(z:C0)(s:cj)(q:List b7):Prop:=∀e∈q,jW k z e.1/\∃b,jW k z b/\k.ml s b e.2
def t5 (k:ce)(s:cj)(q:List b7):Prop:=∀e∈q,k.al s e.2=true\/k.al s e.1=false
section
variable {k:ce}{z:C0}{s t u:cj}{D H:List Int}{q:List b7}
theorem gV.iY (h:gV k z s q)(p:dh k s t):gV k z t q:=fun e he=>by obtain⟨b,c,d,f⟩:=h e he;exact⟨b,c,d,p.ml f⟩
theorem pA (p:dh k s t){x:Int}(h:k.al s x=true):k.al t x=true:=by
 unfold ce.al ce.ls at h⊢;cases c:k.cK x
 ·rfl
 ·rw[c] at h;have b:s.f (cg x)≠-1:=by intro e;rw[e] at h;simp at h
  rw[p.f _ b];simpa using b
theorem qQ {x:Int}(h:k.cK x=false):k.al s x=true:=by unfold ce.al ce.ls;rw[h];rfl
theorem gV.kM:∀(l:List Nat)(t:(cj×List b7)×Bool)(H:List Int),LI k z t.1.1 H D->dL k z t.1.1 H->(∀i∈l,i<t.1.2.length)->gV k z t.1.1 t.1.2->gV k z (l.foldl (dB k.al k.br) t).1.1 (l.foldl (dB k.al k.br) t).1.2
 |[],_,_,_,_,_,e=>e
 |i::l,t,H,h,w,hl,e=>by
  rw[a8];by_cases c:(k.al t.1.1 (t.1.2.getD i (0,0)).2||!k.al t.1.1 (t.1.2.getD i (0,0)).1)=true
  ·have b:dB k.al k.br t i=t:=by unfold dB;rw[aI c]
   rw[b];exact gV.kM l t H h w (fun j d=>hl j (aO _ d)) e
  ·have b:dB k.al k.br t i=(((k.br t.1.1 (t.1.2.getD i (0,0)).2).2,t.1.2.set i ((t.1.2.getD i (0,0)).1,(k.br t.1.1 (t.1.2.getD i (0,0)).2).1)),true):=by unfold dB;rw[aG c]
   have hi:=hl i Z;have hm:t.1.2.getD i (0,0)∈t.1.2:=by rw[aE,aL hi];exact a6 hi
   obtain⟨g,l1,w1,m,_⟩:=cX.br _ H h w;obtain⟨_,_,_,_,_,m1,_⟩:=h.mi.br _;rw[b];refine gV.kM l _ g l1 w1 (fun j d=>?_) ?_
   ·show j<(t.1.2.set i _).length;rw[a4];exact hl j (aO _ d)
   ·intro n hd;have hd:=hd;rcases List.mem_or_eq_of_mem_set hd with hd|rfl
    ·exact e.iY m n hd
    ·obtain⟨g1,f,g2,g3⟩:=e _ hm;exact⟨g1,f,g2,m1 f g3⟩
theorem gV.wa {t:cj×List b7}(h:LI k z t.1 H D)(w:dL k z t.1 H)(e:gV k z t.1 t.2):gV k z (k.wa t).1.1 (k.wa t).1.2:=
 gV.kM _ (t,false) H h w (fun _ hi=>List.mem_range.1 hi) e
theorem gV.cW:∀(n:Nat)(t:cj×List b7)(H:List Int),LI k z t.1 H D->dL k z t.1 H->gV k z t.1 t.2->gV k z (k.cW n t).1 (k.cW n t).2
 |0,_,_,_,_,e=>e
 |n+1,t,H,h,w,e=>by
  obtain⟨g,l1,w1,i,_⟩:=cX.lb (k.O+1) H h w;obtain⟨c,l2,b,j,_⟩:=cX.kv g l1 w1;have d:=e.iY (i.trans j)
  obtain⟨l,m,o,_,_⟩:=cX.wa ((k.kv _).2,t.2) c l2 b;have f:=gV.wa (t:=((k.kv _).2,t.2)) l2 b d;unfold ce.cW;split
  ·exact gV.cW n ((k.kv _).2,t.2) c l2 b d
  ·split
   ·exact gV.cW n _ l m o f
   ·exact f
theorem zq (k:ce):∀(l:List Nat)(t:(cj×List b7)×Bool),(l.foldl (dB k.al k.br) t).2=false->∀i∈l,k.al t.1.1 (t.1.2.getD i (0,0)).2=true\/k.al t.1.1 (t.1.2.getD i (0,0)).1=false
 |[],_,_,_,hi=>by cases hi
 |j::l,t,h,i,hi=>by
  rw[a8] at h;obtain⟨_,b⟩:=tN k l _ h;by_cases c:(k.al t.1.1 (t.1.2.getD j (0,0)).2||!k.al t.1.1 (t.1.2.getD j (0,0)).1)=true
  ·have d:dB k.al k.br t j=t:=by unfold dB;rw[aI c]
   rw[d] at h;rcases List.mem_cons.1 hi with rfl|hi
   ·simpa using c
   ·exact zq k l t h i hi
  ·unfold dB at b;rw[aG c] at b;cases b
theorem qR:∀(n:Nat)(t:cj×List b7)(H:List Int),LI k z t.1 H D->dL k z t.1 H->ee k t.1->k.mu t.1<n->t5 k (k.cW n t).1 (k.cW n t).2
 |0,t,H,_,_,_,e=>absurd e V
 |n+1,t,H,h,w,hb,e=>by
  obtain⟨B,l1,w1,_,_,_⟩:=LI.oj (k.O+1) h w;obtain⟨c1,c2,c3⟩:=CI.lb h.mi.ci hb (k.O+1)
  obtain⟨g,b,C,j⟩:=CI.kv c1 c2;obtain⟨c,l2,d,_,_⟩:=l1.kv w1;unfold ce.cW;cases hk:(k.kv _).1
  ·rw[aG Z];obtain⟨E,l,F,G,m⟩:=CI.wa (s:=((k.kv _).2,t.2)) g b;cases hw:(k.wa ((k.kv _).2,t.2)).2
   ·rw[aG Z,tO k _ hw];intro o hd;obtain⟨i,hi,p⟩:=List.mem_iff_getElem.1 hd;have q:=zq k _ (((k.kv _).2,t.2),false) hw i (List.mem_range.2 hi)
    have u:t.2.getD i (0,0)=o:=by rw[aE,aL hi,p];rfl
    rw[u] at q;exact q
   ·obtain⟨v,x,A,_,_⟩:=cX.wa ((k.kv _).2,t.2) c l2 d;have f:=m hw;dsimp only at f;exact qR n _ v x A l V
  ·rw[aI rfl];have f:=j hk;exact qR n ((k.kv _).2,t.2) c l2 d b (by dsimp only;omega)
def gW (k:ce)(z:C0)(D:List Int)(t:cj×List b7):Prop:=∃H,LI k z t.1 H D/\dL k z t.1 H/\ee k t.1/\gV k z t.1 t.2/\t5 k t.1 t.2
theorem gW.sp {t:cj×List b7}(h:LI k z t.1 H D)(w:dL k z t.1 H)(hb:ee k t.1)(e:gV k z t.1 t.2):gW k z D (k.sp t):=by obtain⟨K,m1,b,_,_⟩:=cX.sp t H h w;exact⟨K,m1,b,(pu _ t h.mi.ci hb).2,gV.cW _ t H h w e,qR _ t H h w hb V⟩
theorem gW.cm {t:cj×List b7}(h:gW k z D t){e:b7}(i:jW k z e.1)(j2:jW k z e.2):gW k z D (cm (dI cj) (fun s x=>k.al s.1 x) k.ke t e).2:=by
 cases c:k.al t.1 e.1
 ·rw[mS (o:=dI cj) (is:=fun s x=>k.al s.1 x) (kp:=k.ke) (s:=t) (e:=e) c];exact h
 ·rw[mT (o:=dI cj) (is:=fun s x=>k.al s.1 x) (kp:=k.ke) (s:=t) (e:=e) c];obtain⟨H,d,j,f,l,B⟩:=h;obtain⟨m,l1,w1,n,_⟩:=cX.br (k:=k) (z:=z) (D:=D) (s:=t.1) e.2 H d j;obtain⟨_,_,_,y1,_,m1,_⟩:=d.mi.br e.2;obtain⟨_,p,q,g⟩:=l8 k t.1 e.2;have hb:ee k (k.br t.1 e.2).2:=⟨by rw[p,g];exact f.wk,by rw[q,g];exact f.ep⟩
  obtain⟨K,q1,u,q3,v,w⟩:=gW.sp (t:=((k.br t.1 e.2).2,t.2)) l1 w1 hb (l.iY n)
  obtain⟨_,_,_,A,_⟩:=cX.sp (k:=k) (z:=z) (D:=D) ((k.br t.1 e.2).2,t.2) m l1 w1;show gW k z D ((k.sp ((k.br t.1 e.2).2,t.2)).1,(k.sp ((k.br t.1 e.2).2,t.2)).2++[(e.1,(k.br t.1 e.2).1)])
  refine⟨K,q1,u,q3,fun b hd=>?_,fun b hd=>?_⟩
  ·rcases List.mem_append.1 hd with hd|hd
   ·exact v b hd
   ·rw[List.mem_singleton.1 hd];exact⟨i,e.2,j2,A.ml (m1 _ (aK rfl))⟩
  ·rcases List.mem_append.1 hd with hd|hd
   ·exact w b hd
   ·rw[List.mem_singleton.1 hd];exact aK (qQ y1)
theorem gW.pl:∀(l:List b7)(u:List b7×List b7×(cj×List b7)),gW k z D u.2.2->(∀e∈l,jW k z e.1/\jW k z e.2)->gW k z D (l.foldl (eh (Go.Proofs.YtpkjkjhanlbcoaaGreat.cm (dI cj) (fun s x=>k.al s.1 x) k.ke)) u).2.2
 |[],_,h,_=>h
 |e::l,u,h,hl=>by
  have key:(eh (Go.Proofs.YtpkjkjhanlbcoaaGreat.cm (dI cj) (fun s x=>k.al s.1 x) k.ke) u e).2.2=(Go.Proofs.YtpkjkjhanlbcoaaGreat.cm (dI cj) (fun s x=>k.al s.1 x) k.ke u.2.2 e).2:=by unfold eh;split<;>rfl
  refine gW.pl l _ ?_ (fun b hd=>hl b (aO _ hd))
  rw[key];exact h.cm (hl e Z).1 (hl e Z).2
theorem gW.eB:∀(n:Nat)(t:cj×List b7)(b:List b7),gW k z D t->(∀e∈b,jW k z e.1/\jW k z e.2)->gW k z D (eB (Go.Proofs.YtpkjkjhanlbcoaaGreat.cm (dI cj) (fun s x=>k.al s.1 x) k.ke) n t b).1
 |0,_,_,h,_=>h
 |n+1,t,b,h,hd=>by
  have d:=gW.pl b ([],[],t) h hd;have d:gW k z D (pts (Go.Proofs.YtpkjkjhanlbcoaaGreat.cm (dI cj) (fun s x=>k.al s.1 x) k.ke) t b).2.2:=d;by_cases c:(pts (Go.Proofs.YtpkjkjhanlbcoaaGreat.cm (dI cj) (fun s x=>k.al s.1 x) k.ke) t b).1.length=0
  ·rw[lR _ _ _ _ c];exact d
  ·rw[lS _ _ _ _ c];exact gW.eB n _ _ d (fun e he=>hd e (sx _ t b e (aJ he)))
theorem zr (k:ce):∀(l:List Int)(s:cj),(l.foldl k.eF s).g=s.g
 |[],_=>rfl
 |x::l,s=>by rw[a8,zr k l];unfold ce.eF;split<;>rfl
theorem zs (k:ce):∀(l:List Int)(s:cj),(l.foldl k.gA s).g=s.g
 |[],_=>rfl
 |x::l,s=>by rw[a8,zs k l];rfl
end
section
variable {a:Wc}{S:cq}{Y G:List Int}
theorem Gz (h:el a S.s Y G)(hb:cI a S.s)(hr:S.s.y<=a.O-S.s.g)(he:jB a S):∃D,gW (S.s.k0 a) (S.s.z0 G) D ((S.s.k0 a).eW (S.t3 a) S.r)/\dh (S.s.k0 a) (S.t3 a).1 (S.s4 a):=by
 have p:(S.s.k0 a).T=Y:=oo h.inv.full hb.n1 hb.y1 hb.o1 hb.g1;have d:∀x,tB a.N S.s.y S.s.g S.s.ws x=true->jW (S.s.k0 a) (S.s.z0 G) x:=fun x f=>by
  obtain⟨q1,q2⟩:=(i8 h.inv.full hb.n1 hb.y1 hb.o1 hb.g1).1 f;refine⟨q1,?_⟩
  rw[p];exact q2
 have i:=LI.start h.inv.full hb.n0 hb.n1 hb.o1 hb.y1 hb.g1 hb.l1 hr;obtain⟨H1,c,q,⟨H,s⟩,l1,y1,_,m1⟩:=i.cJ 12 (by show 12<=S.s.rs.length;rw[hb.r1];exact aD _)
 have j:dD a.N S.s.y (S.s.s1 a).g (S.s.s1 a).ws=G++H1:=(c.mi.full.lists hb.n1 hb.y1 hb.o1 c.mi.ci.hg).2;have u:(S.s.s1 a).nx=((S.s.k0 a).N:Int)+(S.s.z0 G).g:=(lC _ _ 12).2.2;have v:d4 ((S.s.k0 a).l0 (S.s.z0 G)) (((S.s.k0 a).N:Int)+(S.s.z0 G).g) (S.s.k0 a).N (S.s.z0 G).G:=h.inv.full.ec;obtain⟨k,g,m,n,A,⟨I,J⟩,_,L⟩:=LI.pt (dF a.O) S.s.M v (G++H1) c ((dL.start a S.s G).cJ i.mi 12 c.mi q ⟨_,s⟩) (fun x f=>(List.mem_append.1 f).imp id (fun B=>c.mi.hlo x B))
 have C:(G++H1).foldl ((S.s.k0 a).gh (((S.s.k0 a).N:Int)+(S.s.z0 G).g) (dF a.O) S.s.M) ((S.s.k0 a).cJ (S.s.s0 a) 12)=S.s.s2 a:=by unfold d9.s2 ce.lm;rw[j,u];rfl
 have hlen:=qK (S.s.k0 a) (((S.s.k0 a).N:Int)+(S.s.z0 G).g) (dF a.O) S.s.M (G++H1) ((S.s.k0 a).cJ (S.s.s0 a) 12)
 rw[C] at m n A hlen;have M:(G++H1).length<=2000:=by rw[<-j];exact iL _ _
 obtain⟨q1,q2,q3⟩:=lC _ _ 12;have cb:ee (S.s.k0 a) (S.s.s2 a):=by exact tU
 have key:∀s2:cj,LI (S.s.k0 a) (S.s.z0 G) s2 k g->dL (S.s.k0 a) (S.s.z0 G) s2 k->ee (S.s.k0 a) s2->_:=fun s2 l w b=>
  gW.sp (t:=(s2,S.q)) l w b (fun e hq=>⟨d _ (he e (aJ hq)).1,e.2,d _ (he e (aJ hq)).2,aK rfl⟩)
 have o:gW (S.s.k0 a) (S.s.z0 G) g (S.t3 a):=by exact key _ m n cb
 refine⟨g,gW.eB _ (S.t3 a) _ o (fun e hq=>?_),?_⟩
 ·have hq:=(List.mem_filter.1 hq).1;exact⟨d _ (he e (aK hq)).1,d _ (he e (aK hq)).2⟩
 ·obtain⟨K,r1,E,_⟩:=o;obtain⟨_,_,_,F,_⟩:=cX.eW (S.t3 a) S.r K r1 E;exact F
theorem jB.cut (h:el a S.s Y G)(hb:cI a S.s)(he:jB a S):jB a (S.cut a):=by
 cases hf:S.full a
 ·have hr:S.s.y<=a.O-S.s.g:=by have:=of_decide_eq_false hf;omega
  obtain⟨K,D,c⟩:=qL h hb hr;obtain⟨R,⟨H,s1,s2,_,s4,s5⟩,iY⟩:=Gz h hb hr he;have E:(S.s.k0 a).T=Y:=oo h.inv.full hb.n1 hb.y1 hb.o1 hb.g1;have hN:=hb.n1;have hO:=hb.o1;have hg:=c.li.mi.ci.hg;have U:(S.s.k0 a).N=a.N:=rfl;have W:(S.s.k0 a).O=a.O:=rfl;have F:(S.s6 a).g=(S.s4 a).g:=(zs _ _ _).trans (zr _ _ _)
  have g:S.cut a=⟨⟨0,(S.s6 a).g,(S.s6 a).ws,[],(S.s6 a).rs⟩,(S.s.k0 a).sR (S.t3 a) S.r,(S.s.k0 a).jf (S.t3 a) S.r⟩:=by unfold cq.cut;rw[aG (by rw[hf];simp)]
  have s:∀x,cY x=true->cg x∈G++K->tB a.N (S.cut a).s.y (S.cut a).s.g (S.cut a).s.ws x=true:=fun x i j=>by rw[g];exact(i8 (O:=a.O) (c.done h hb).full hN (aZ _) hO (by rw[F];exact hg)).2 ⟨i,aJ j⟩
  have u:∀v∈(S.s.k0 a).T,(S.s4 a).f v≠-1->cY (ew 3 ((S.s4 a).f v))=true/\cg (ew 3 ((S.s4 a).f v))∈G++K:=fun v hv I=>by
   have w:=c.li.mi.fh _ hv I;have X:=c.li.mi.i7 w;obtain⟨n,hn⟩:∃n:Nat,(S.s4 a).f v=n:=⟨((S.s4 a).f v).toNat,V⟩
   rw[hn];obtain⟨w1,d⟩:=m6 n V;rw[d,<-hn];rw[<-hn] at w1;exact⟨w1,a9 _ w⟩
  have A:∀x,(S.s.k0 a).cK x=true->cg x∈(S.s.k0 a).T:=fun x k=>by unfold ce.cK at k;rw[a_] at k;simpa using k.2
  have key:∀x,jW (S.s.k0 a) (S.s.z0 G) x->(S.s.k0 a).al (S.s4 a) x=true->tB a.N (S.cut a).s.y (S.cut a).s.g (S.cut a).s.ws ((S.s.k0 a).nw (S.s4 a) x)=true:=fun x l ha=>by
   cases hy:(S.s.k0 a).cK x
   ·have b:(S.s.k0 a).nw (S.s4 a) x=x:=by unfold ce.nw;rw[hy];rfl
    rw[b];refine s x l.1 (aY _ ?_)
    rcases l.2 with q|q
    ·unfold ce.cK at hy;rw[l.1] at hy;simp at hy;exact absurd q hy
    ·exact q
   ·have B:(S.s4 a).f (cg x)≠-1:=fun e=>by unfold ce.al ce.ls at ha;rw[hy,e] at ha;simp at ha
    have b:(S.s.k0 a).nw (S.s4 a) x=ew 3 ((S.s4 a).f (cg x)):=by unfold ce.nw;rw[hy,aI (by simp[B])]
    rw[b];obtain⟨w1,d⟩:=u _ (A x hy) B;exact s _ w1 d
  have J:∀f x,jW (S.s.k0 a) (S.s.z0 G) f->(S.s.k0 a).ml (S.s4 a) f x->(S.s.k0 a).al (S.s4 a) x=true->tB a.N (S.cut a).s.y (S.cut a).s.g (S.cut a).s.ws ((S.s.k0 a).nw (S.s4 a) x)=true:=fun f x l hm ha=>by
   rcases hm with rfl|⟨m1,L,M⟩
   ·exact key _ l ha
   ·obtain⟨w1,d⟩:=u _ (A f m1) L;rw[<-M] at w1 d;have b:(S.s.k0 a).nw (S.s4 a) x=x:=by unfold ce.nw;rw[(c.li.mi.om d)];rfl
    rw[b];exact s _ w1 d
  have C:∀x,tB a.N S.s.y S.s.g S.s.ws x=true->jW (S.s.k0 a) (S.s.z0 G) x:=fun x k=>by
   obtain⟨q1,N⟩:=(i8 (O:=a.O) h.inv.full hb.n1 hb.y1 hb.o1 hb.g1).1 k;refine⟨q1,?_⟩
   rw[E];exact N
  intro e hm;rcases hm with hm|hm
  ·have b:(S.cut a).r=(S.s.k0 a).sR (S.t3 a) S.r:=by rw[g]
   rw[b] at hm;have hm:=hm;obtain⟨m,i,j⟩:=List.mem_map.1 hm;obtain⟨o,p⟩:=List.mem_filter.1 i;obtain⟨P,Q⟩:=List.mem_filter.1 o;obtain⟨t,j2⟩:=he m (aK P)
   rw[<-j];exact⟨key _ (C _ t) p,key _ (C _ j2) (pA iY Q)⟩
  ·have b:(S.cut a).q=(S.s.k0 a).jf (S.t3 a) S.r:=by rw[g]
   rw[b] at hm;have hm:e∈(((S.s.k0 a).eW (S.t3 a) S.r).2.filter (fun e=>(S.s.k0 a).al (S.s4 a) e.1)).map fun e=>((S.s.k0 a).nw (S.s4 a) e.1,(S.s.k0 a).nw (S.s4 a) e.2):=hm;obtain⟨m,i,j⟩:=List.mem_map.1 hm;obtain⟨o,p⟩:=List.mem_filter.1 i;obtain⟨t,f,j2,cA⟩:=s4 m o;rw[<-j];refine⟨key _ t p,J f _ j2 cA ?_⟩
   rcases s5 m o with q|q
   ·exact q
   ·have q:(S.s.k0 a).al (S.s4 a) m.1=false:=q;rw[p] at q;cases q
 ·have g:S.cut a=S:=by unfold cq.cut;rw[aI hf]
  rw[g];exact he
end
end Go.Proofs.YtpkjkjhanlbcoaaGreat
