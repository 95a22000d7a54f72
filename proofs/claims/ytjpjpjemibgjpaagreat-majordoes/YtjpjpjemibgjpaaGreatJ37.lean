import Derived.Test.YtjpjpjemibgjpaaGreatJ36
import Derived.Test.YtjpjpjemibgjpaaGreatJ33
import Derived.Test.YtjpjpjemibgjpaaGreatJ07
import Derived.Test.YtjpjpjemibgjpaaGreatJ34
import Derived.Test.YtjpjpjemibgjpaaGreatJ26
import Derived.Test.YtjpjpjemibgjpaaGreatJ29
import Derived.Test.YtjpjpjemibgjpaaGreatJ02
import Derived.Test.YtjpjpjemibgjpaaGreatJ00
import Derived.Test.YtjpjpjemibgjpaaGreatJ01
import Derived.Test.YtjpjpjemibgjpaaGreatJ19
import Derived.Test.YtjpjpjemibgjpaaGreatJ05
namespace Go.Proofs.YtjpjpjemibgjpaaGreat
open Tryz
open Go.RowKit W Kp bY
theorem A1 {N O y g:Nat}{ws Y G:List Int}(h:dS N y g ws Y G)(hN:N<=256)(hy:y<=N)(hO:O<=1024)(hg:g<=O)(Q:List bN)(rs:List Int):j9 (c_ N y g ws Q rs).2.2=eD (hv (ld N y g ws)) (c_ N y g ws Q rs).2.1/\(c_ N y g ws Q rs).2.1.Nodup/\∀a∈(c_ N y g ws Q rs).2.1,a∈Y++G:=by
 have c:=rU N y g ws Q rs;obtain⟨m,n⟩:=h.lists (O:=O) hN hy hO hg;generalize c_ N y g ws Q rs=r at c⊢;obtain⟨vs,ms,d⟩:=r;rw[m,n] at c;have e:=c.ok;have hl:d.length=ms.length:=e.len;have o:ms.Nodup:=e.nd;have k:∀a∈ms,a∈Y++G:=e.sub;refine⟨t5 (kd:=fun a=>pk (ld N y g ws a)) d ms hl (fun i hi=>?_),o,k⟩
 obtain⟨nd,q1,f,q3,_⟩:=c.nw i (aA _) hi;have q0:d.getD i (0,[])=nd:=by rw[aj];have q1:d[i]?=some nd:=q1;rw[q1];rfl
 rw[q0];dsimp only at f q3;have hm:ms.getD i 0∈ms:=by rw[aj,am hi];exact aK hi
 have l:ms.getD i 0∈Y\/ms.getD i 0∈G:=List.mem_append.1 (k _ hm)
 have p:pc (ld N y g ws (ms.getD i 0))=0:=by
  rcases l with j|j
  ·exact(h.ty.mem _ j).2.2
  ·exact(h.dN.mem _ j).2.2
 unfold hv;by_cases b:nd.1=5
 ·rw[aq b];rw[f] at b;have:=pZ p;omega
 ·rw[ao b,q3];rw[f] at b;have:=lP h hy Q l b;omega
theorem mW {N y g:Nat}{ws Y G:List Int}(h:dS N y g ws Y G)(hy:y<=N)(Q:List bN){c:Int}(hc:c∈Y\/c∈G)(b:pk (ld N y g ws c)≠5):(∀i:Nat,i<(dj N y g ws Q c).length->(dj N y g ws Q c).getD i 0=ld N y g ws (c+1+(i:Int)))/\(∀i:Nat,(i:Int)<pf (ld N y g ws c)->ld N y g ws (c+1+(i:Int))∈dj N y g ws Q c):=by
 have hl:=lP h hy Q hc b;have key:∀i:Nat,i<(dj N y g ws Q c).length->(dj N y g ws Q c).getD i 0=ld N y g ws (c+1+(i:Int)):=fun i hi=>by unfold dj at hi⊢;rw[ao b] at hi⊢;rw[aj,am hi];simp
 refine⟨key,fun i hi=>?_⟩
 have a:i<(dj N y g ws Q c).length:=I;rw[<-key i a,aj,am a];exact aK a
section
variable {a:Wc}{s:dT}{Y G:List Int}
theorem A2 (h:d3 a s Y G)(hk:gH a s Y G)(b:cG a s):(s.j0 a).k12:=fun c hc=>by obtain⟨_,_,d⟩:=h4 h.inv.full b;rw[d] at hc;exact hk c ((List.mem_append.1 hc).symm)
theorem oo (h:d3 a s Y G)(d:cG a s){x:Int}:(s.j0 a).jt x=true↔dk x=3/\cL x∈Y++G:=by
 obtain⟨_,_,e⟩:=h4 h.inv.full d;unfold bL.jt;rw[e,aQ];constructor
 ·rintro⟨c,b⟩
  have b:=List.contains_iff_mem.1 b;rw[iD x c] at b;exact⟨ol c,List.mem_append.2 ((List.mem_append.1 b).symm)⟩
 ·rintro⟨c,b⟩
  have ha:=uC c;refine⟨ha,List.contains_iff_mem.2 ?_⟩
  rw[iD x ha];exact List.mem_append.2 ((List.mem_append.1 b).symm)
theorem oq {x:Int}(b:(s.j0 a).jt x=true):bQ x=cL x:=by unfold bL.jt at b;rw[aQ] at b;exact iD x b.1
theorem A3 (h:d3 a s Y G)(hk:gH a s Y G)(b:cG a s)(Q:List bN):(s.j0 a).sp ((s.j0 a).cg dw 12,[])=((s.j0 a).c6 ((s.j0 a).cg dw 12),[])/\tU (s.j0 a) (fun c=>c∈(c_ a.N s.y s.g s.ws Q s.rs).2.1) ((s.j0 a).c6 ((s.j0 a).cg dw 12))/\
 ∀c∈(c_ a.N s.y s.g s.ws Q s.rs).2.1,((s.j0 a).c6 ((s.j0 a).cg dw 12)).f c≠-1:=by
 obtain⟨l1,l2,t⟩:=h4 h.inv.full b;obtain⟨w,j⟩:=h.inv.full.lists (O:=a.O) b.n1 b.y1 b.o1 b.g1;have m:∀c,c∈Y\/c∈G->pk (ld a.N s.y s.g s.ws c)≠5:=fun c hc=>by have:=hk c hc;omega
 have u:∀c,c∈(s.j0 a).T->c∈Y\/c∈G:=fun c hc=>by rw[t] at hc;exact(List.mem_append.1 hc).symm
 obtain⟨w1,v⟩:=AY (T:=Y++G) (kd:=fun k=>pk (ld a.N s.y s.g s.ws k)) (sh:=dj a.N s.y s.g s.ws Q) (n:=(Y++G).length) bJ s.rs;have ev:c_ a.N s.y s.g s.ws Q s.rs=cD (met (Y++G) (fun k=>pk (ld a.N s.y s.g s.ws k)) (dj a.N s.y s.g s.ws Q) (Y++G).length) (Y++G) ([],[]) s.rs:=by unfold c_;rw[w,j]
 rw[<-ev] at w1 v;have A:∀i,i<12->s.rs.getD i 0∈s.rs:=fun i hi=>by rw[aj,am (by rw[b.r1];exact hi)];exact aK _
 have o:mM (s.j0 a) (fun c=>c∈(c_ a.N s.y s.g s.ws Q s.rs).2.1):=by
  refine⟨fun i hi d=>?_,fun c hc o i hi d=>?_⟩
  ·rw[oq d];obtain⟨q1,f⟩:=(oo h b).1 d;exact w1 _ (A i hi) q1 f
  ·rw[oq d];obtain⟨q1,f⟩:=(oo h b).1 d;exact v c o _ ((mW h.inv.full b.y1 Q (u c hc) (m c (u c hc))).2 i hi) q1 f
 obtain⟨m1,p⟩:=e6.done (cu.start b.n1 b.o1 b.y1 b.g1) (A2 h hk b) o;refine⟨m1,p,?_⟩
 have key:=A0 (T:=Y++G) (kd:=fun k=>pk (ld a.N s.y s.g s.ws k)) (sh:=dj a.N s.y s.g s.ws Q) (n:=(Y++G).length) (l:=s.rs) (C:=fun c=>(c∈Y\/c∈G)/\((s.j0 a).c6 ((s.j0 a).cg dw 12)).f c≠-1) (fun c hc x q q1 f=>?_) (fun x q q1 f=>?_)
 ·rw[<-ev] at key;exact fun c hc=>(key c hc).2
 ·have d:=(oo h b).2 ⟨q1,f⟩
  obtain⟨i,hi,e⟩:=List.mem_iff_getElem.1 q;have hl:=lP h.inv.full b.y1 Q hc.1 (m c hc.1)
  have j:x=ld a.N s.y s.g s.ws (c+1+(i:Int)):=by rw[<-(mW h.inv.full b.y1 Q hc.1 (m c hc.1)).1 i hi,aj,am hi,e];rfl
  have g:=p.ik c (by rw[t];exact List.mem_append.2 hc.1.symm) hc.2 i (by show(i:Int)<pf (ld a.N s.y s.g s.ws c);omega)
  have g:(s.j0 a).co ((s.j0 a).c6 ((s.j0 a).cg dw 12)) (ld a.N s.y s.g s.ws (c+1+(i:Int)))=false:=g;rw[<-j,bL.jA d,oq d] at g;exact⟨List.mem_append.1 f,g⟩
 ·have d:=(oo h b).2 ⟨q1,f⟩
  obtain⟨i,hi,e⟩:=List.mem_iff_getElem.1 q;have j:x=s.rs.getD i 0:=by rw[aj,am hi,e];rfl
  have g:=p.rt i (by rw[<-b.r1];exact hi)
  have g:(s.j0 a).co ((s.j0 a).c6 ((s.j0 a).cg dw 12)) (s.rs.getD i 0)=false:=g;rw[<-j,bL.jA d,oq d] at g;exact⟨List.mem_append.1 f,g⟩
theorem qi {k:bL}{j:bX}{x:Int}(g:cI x=true->bQ x∈k.T/\j.f (bQ x)≠-1)(i:∀c∈k.T,j.f c≠-1->0<=j.f c/\j.f c<1000000):iw (fun c=>c∈k.T/\j.f c≠-1) j.f x (k.nw j x)/\(cI (k.nw j x)=true->∃c∈k.T,j.f c≠-1/\bQ (k.nw j x)=j.f c):=by
 cases ha:cI x
 ·have e:k.nw j x=x:=by unfold bL.nw bL.jt;rw[ha];rfl
  rw[e];refine⟨an ⟨fun a=>?_,rfl,rfl⟩,fun a=>?_⟩
  ·rw[uC a] at ha;cases ha
  ·rw[ha] at a;cases a
 ·obtain⟨b,d⟩:=g ha;have e:k.nw j x=ew 3 (j.f (bQ x)):=by unfold bL.nw bL.jt;rw[ha,List.contains_iff_mem.2 b,a6 d];rfl
  obtain⟨b0,b1⟩:=i _ b d;obtain⟨n,l⟩:∃n:Nat,j.f (bQ x)=n:=⟨(j.f (bQ x)).toNat,I⟩
  obtain⟨w1,f⟩:=kR n I;rw[<-l,<-e] at w1 f;refine⟨ap ⟨ol ha,ol w1,⟨by rw[<-iD x ha];exact b,by rw[<-iD x ha];exact d⟩,?_⟩,fun _=>⟨bQ x,b,d,f⟩⟩
  rw[<-iD x ha,<-iD _ w1];exact f
end
def bX.lf (j:bX)(T:List Int):List Int:=(T.filter (fun c=>!(j.f c==-1))).map j.f
section
variable {a:Wc}{s s':dT}{Y G:List Int}{j:bX}
structure uI (a:Wc)(s:dT)(T:List Int)(j:bX):Prop where
 rt:∀i,i<12->cI (s.rs.getD i 0)=true->bQ (s.rs.getD i 0)∈T/\j.f (bQ (s.rs.getD i 0))≠-1
 fd:∀c∈T,j.f c≠-1->∀i,0<=i->i<pf (ld a.N s.y s.g s.ws c)->cI (ld a.N s.y s.g s.ws (c+1+i))=true->bQ (ld a.N s.y s.g s.ws (c+1+i))∈T/\j.f (bQ (ld a.N s.y s.g s.ws (c+1+i)))≠-1
theorem A4 {k:bL}{c:Int}(h:pk (k.ld c)=1\/pk (k.ld c)=2)(i:Int):k.fO j c i=k.ld (c+1+i):=by unfold bL.fO;rw[ao (fun q=>by omega)]
theorem iW.bd (g:iW a s (G++Y) j s'):∀c∈G++Y,j.f c≠-1->(a.N:Int)<=j.f c/\j.f c+(1+pf (ld a.N s.y s.g s.ws c))<=a.N+s'.g:=fun c hc b=>g.pos.bd (fun c=>(cU _).1) c hc (by rw[a6 b];rfl)
theorem kc {T:List Int}{x:Int}:x∈j.lf T↔∃c∈T,j.f c≠-1/\j.f c=x:=by
 unfold bX.lf;rw[List.mem_map];constructor
 ·rintro⟨c,a,b⟩
  obtain⟨d,e⟩:=List.mem_filter.1 a;exact⟨c,d,by simpa using e,b⟩
 ·rintro⟨c,a,b,d⟩
  exact⟨c,List.mem_filter.2 ⟨a,by rw[a6 b];rfl⟩,d⟩
theorem iW.full (g:iW a s (G++Y) j s')(h:dS a.N s.y s.g s.ws Y G):dS a.N 0 s'.g s'.ws [] (j.lf (G++Y)):=by
 refine⟨rfl,g.pos.p3 (fun c=>(cU _).1) (fun c hc d=>?_)⟩
 have e:j.f c≠-1:=by simpa using d
 rw[g.hd c hc e];refine⟨?_,rfl⟩
 rcases List.mem_append.1 hc with b|b
 ·exact(h.dN.mem c b).2.2
 ·exact(h.ty.mem c b).2.2
theorem iW.done (g:iW a s (G++Y) j s')(h:d3 a s Y G)(hk:gH a s Y G)(b:cG a s)(al:uI a s (G++Y) j):d3 a s' [] (j.lf (G++Y))/\gH a s' [] (j.lf (G++Y))/\cG a s'/\
 ∀Q l:List bN,(c_ a.N s'.y s'.g s'.ws l s'.rs).1=(c_ a.N s.y s.g s.ws Q s.rs).1/\(c_ a.N s'.y s'.g s'.ws l s'.rs).2.2=(c_ a.N s.y s.g s.ws Q s.rs).2.2:=by
 obtain⟨_,_,m⟩:=h4 h.inv.full b;have t:=g.full h.inv.full;have P:=g.bd;have hN:=b.n1;have hO:=b.o1;have ax:=g.g;have H:∀c∈(s.j0 a).T,j.f c≠-1->0<=j.f c/\j.f c<1000000:=fun c hc u=>by
  rw[m] at hc;have:=P c hc u;have:=cU (ld a.N s.y s.g s.ws c)
  omega
 have C:∀c,c∈G++Y->pk (ld a.N s.y s.g s.ws c)=1\/pk (ld a.N s.y s.g s.ws c)=2:=fun c hc=>hk c (List.mem_append.1 hc).symm;have J:∀i,i<12->iw (fun c=>c∈(s.j0 a).T/\j.f c≠-1) j.f (s.rs.getD i 0) (s'.rs.getD i 0)/\(cI (s'.rs.getD i 0)=true->bQ (s'.rs.getD i 0)∈j.lf (G++Y)):=fun i hi=>by
  rw[g.rs i hi];obtain⟨q1,D⟩:=qi (k:=s.j0 a) (j:=j) (x:=s.rs.getD i 0) (fun ha=>by rw[m];exact al.rt i hi ha) H;refine⟨q1,fun ha=>?_⟩
  obtain⟨c,c1,c2,f⟩:=D ha;rw[m] at c1;exact kc.2 ⟨c,c1,c2,f.symm⟩
 have K:∀c∈G++Y,j.f c≠-1->∀i,0<=i->i<pf (ld a.N s.y s.g s.ws c)->iw (fun c=>c∈(s.j0 a).T/\j.f c≠-1) j.f (ld a.N s.y s.g s.ws (c+1+i)) (ld a.N 0 s'.g s'.ws (j.f c+1+i))/\(cI (ld a.N 0 s'.g s'.ws (j.f c+1+i))=true->bQ (ld a.N 0 s'.g s'.ws (j.f c+1+i))∈j.lf (G++Y)):=fun c hc u i w o=>by
  have R:(s.j0 a).fO j c i=ld a.N s.y s.g s.ws (c+1+i):=A4 (k:=s.j0 a) (C c hc) i;rw[g.fd c hc u i w o,R];obtain⟨q1,D⟩:=qi (k:=s.j0 a) (j:=j) (x:=ld a.N s.y s.g s.ws (c+1+i)) (fun ha=>by rw[m];exact al.fd c hc u i w o ha) H;refine⟨q1,fun ha=>?_⟩
  obtain⟨A,c1,c2,f⟩:=D ha;rw[m] at c1;exact kc.2 ⟨A,c1,c2,f.symm⟩
 have S:cG a s':=⟨b.n0,b.n1,b.o1,by rw[g.y];exact aA _,g.g,g.l,g.rl⟩
 have U:gm a.N 0 s'.g s'.ws [] (j.lf (G++Y)) s'.rs:=by
  refine⟨t,fun x W ha=>?_,fun v d i w o ha=>?_⟩
  ·obtain⟨i,hi,e⟩:=List.mem_iff_getElem.1 W;have E:s'.rs.getD i 0=x:=by rw[aj,am hi,e];rfl
   have q:=(J i (by rw[<-g.rl];exact hi)).2;rw[E] at q;exact an (q ha)
  ·rcases d with d|d
   ·cases d
   ·obtain⟨c,c1,c2,f⟩:=kc.1 d;rw[<-f] at o ha⊢;rw[g.hd c c1 c2] at o;exact an ((K c c1 c2 i w o).2 ha)
 have X:gH a s' [] (j.lf (G++Y)):=fun v d=>by
  rcases d with d|d
  ·cases d
  ·obtain⟨c,c1,c2,f⟩:=kc.1 d;rw[<-f,g.y,g.hd c c1 c2];exact C c c1
 refine⟨⟨by rw[g.y];exact U,fun v _ i _ _ _ hy=>by cases hy⟩,X,S,fun Q l=>?_⟩
 obtain⟨ad,E⟩:=h.inv.full.lists (O:=a.O) b.n1 b.y1 b.o1 b.g1;obtain⟨ai,ar⟩:=t.lists (O:=a.O) b.n1 (aA _) b.o1 g.g;have B:lT (fun c=>c∈(s.j0 a).T/\j.f c≠-1) j.f (Y++G) (fun v=>pk (ld a.N s.y s.g s.ws v)) (dj a.N s.y s.g s.ws Q) (j.lf (G++Y)) (fun v=>pk (ld a.N 0 s'.g s'.ws v)) (dj a.N 0 s'.g s'.ws l):=by
  have p:∀c,c∈(s.j0 a).T->c∈G++Y:=fun c hc=>by rw[m] at hc;exact hc
  refine⟨fun c hc=>List.mem_append.2 (List.mem_append.1 (p c hc.1)).symm,fun c hc=>kc.2 ⟨c,p c hc.1,hc.2,rfl⟩,fun c A hc hd e=>?_,fun c hc=>?_,fun c hc=>?_⟩
  ·exact g.pos.inj (fun c=>(cU _).1) c (p c hc.1) A (p A hd.1) (by rw[a6 hc.2];rfl) (by rw[a6 hd.2];rfl) e
  ·show pk (ld a.N 0 s'.g s'.ws (j.f c))=_;rw[g.hd c (p c hc.1) hc.2]
  ·have hm:=p c hc.1;have k1:=C c hm;have F:pk (ld a.N s.y s.g s.ws c)≠5:=I;have L:=g.hd c hm hc.2;have M:pk (ld a.N 0 s'.g s'.ws (j.f c))≠5:=by rw[L];exact F
   have d:c∈Y\/c∈G:=(List.mem_append.1 hm).symm;have N:j.f c∈([]:List Int)\/j.f c∈j.lf (G++Y):=an (kc.2 ⟨c,hm,hc.2,rfl⟩)
   have l1:=lP h.inv.full b.y1 Q d F;have l2:=lP t (aA _) l N M;rw[L] at l2;refine gT.of I (fun i hi=>?_)
   rw[(mW h.inv.full b.y1 Q d F).1 i hi,(mW t (aA _) l N M).1 i I];exact(K c hm hc.2 i I I).1
 have hl:gT (iw (fun c=>c∈(s.j0 a).T/\j.f c≠-1) j.f) s.rs s'.rs:=gT.of (by rw[b.r1,g.rl]) (fun i hi=>(J i (by rw[<-b.r1];exact hi)).1)
 unfold c_;rw[g.y,ad,E,ai,ar,List.nil_append];obtain⟨b1,b2,_⟩:=uB B hl (n:=(Y++G).length) (n':=(j.lf (G++Y)).length) bJ bJ
 exact⟨b1.symm,b2⟩
end
section
variable {a:Wc}{S:bZ}{Y G:List Int}
theorem A5 (h:d3 a S.s Y G)(hk:gH a S.s Y G)(f:cG a S.s)(m:S.r=[])(hq:S.q=[]):
 S.n4 a=(j9 (c_ a.N S.s.y S.s.g S.s.ws S.q S.s.rs).2.2:Int)/\
 (S.e5 a=false->(∃F,hK (S.k5 a) (S.cC a) F/\F 0 (S.k5 a,0))/\(S.cW a).r=[]/\(S.cW a).q=[]/\((S.cW a).s.g:Int)=S.n4 a/\∃j,iW a S.s (G++Y) j (S.cW a).s/\uI a S.s (G++Y) j/\∀c∈G++Y,j.f c≠-1↔c∈(c_ a.N S.s.y S.s.g S.s.ws S.q S.s.rs).2.1):=by
 obtain⟨m1,k,n⟩:=A3 h hk f S.q;obtain⟨_,_,l⟩:=h4 h.inv.full f;obtain⟨v1,v2,x⟩:=A1 (O:=a.O) h.inv.full f.n1 f.y1 f.o1 f.g1 S.q S.s.rs;obtain⟨b,A⟩:∃b,(S.s.j0 a).c6 ((S.s.j0 a).cg dw 12)=b:=⟨_,rfl⟩
 rw[A] at m1 k n;have o:S.j2 a=(b,[]):=by unfold bZ.j2;rw[hq];exact m1
 have u:S.b7 a=b:=by unfold bZ.b7;rw[o,m];rfl
 have er:S.r3 a=[]:=by unfold bZ.r3;rw[o,m];rfl
 have eq:S.q3 a=[]:=by unfold bZ.q3;rw[o,m];rfl
 have B:S.b9 a=((S.s.j0 a).pl b).1:=by unfold bZ.b9;rw[u]
 have en:S.n4 a=((S.s.j0 a).pl b).2-a.N:=by unfold bZ.n4;rw[u]
 have v:S.cC a=S.b9 a:=by unfold bZ.cC;rw[er,eq];rfl
 have p:(S.s.j0 a).T.Nodup:=k.dy.nd;have w:∀c∈(S.s.j0 a).T,b.f c≠-1↔c∈(c_ a.N S.s.y S.s.g S.s.ws S.q S.s.rs).2.1:=fun c hc=>⟨k.snd c hc,n c⟩
 refine⟨?_,fun q=>?_⟩
 ·obtain⟨C,_⟩:=lQ (S.s.j0 a) (fun c=>!(b.f c==-1)) (S.s.j0 a).T (b,a.N) p (fun c _=>rfl)
  have hs:=C.sum (fun c=>(cU _).1)
  have hs:(eD (hv (ld a.N S.s.y S.s.g S.s.ws)) ((S.s.j0 a).T.filter (fun c=>!(b.f c==-1))):Int)=((S.s.j0 a).pl b).2-a.N:=hs;have q1:eD (hv (ld a.N S.s.y S.s.g S.s.ws)) ((S.s.j0 a).T.filter (fun c=>!(b.f c==-1)))<=eD (hv (ld a.N S.s.y S.s.g S.s.ws)) (c_ a.N S.s.y S.s.g S.s.ws S.q S.s.rs).2.1:=nZ (p.filter _) v2 (fun c hc=>by obtain⟨c1,c2⟩:=List.mem_filter.1 hc;exact(w c c1).1 (by simpa using c2))
  have N:eD (hv (ld a.N S.s.y S.s.g S.s.ws)) (c_ a.N S.s.y S.s.g S.s.ws S.q S.s.rs).2.1<=eD (hv (ld a.N S.s.y S.s.g S.s.ws)) ((S.s.j0 a).T.filter (fun c=>!(b.f c==-1))):=nZ v2 (p.filter _) (fun c hc=>by
   refine List.mem_filter.2 ⟨?_,by rw[a6 (n c hc)];rfl⟩
   rw[l];exact List.mem_append.2 (List.mem_append.1 (x c hc)).symm)
  rw[en,v1];omega
 ·have hm:((S.s.j0 a).pl b).2<=a.N+a.O:=by unfold bZ.e5 at q;have:=of_decide_eq_false q;omega
  obtain⟨g1,g2,g3,s⟩:=uD h.inv.full f b hm;rw[<-B] at g1 g2 g3 s;have D:(S.s.j0 a).es (S.b9 a)=S.k5 a:=rfl;rw[D] at g1 g2 s;have E:(S.k5 a).sl (S.b9 a)=S.k6 a:=by unfold bZ.k6;rw[v]
  rw[E] at g1 g2;have H:S.cW a=⟨(S.k6 a).s,[],[]⟩:=by unfold bZ.cW;rw[q,ao V,er,eq];rfl
  rw[H,v];refine⟨s,rfl,rfl,by rw[en];exact g2,S.b9 a,g1,⟨fun i hi ha=>?_,fun c hc J i K L ha=>?_⟩,fun c hc=>?_⟩
  ·have M:S.s.rs.getD i 0∈S.s.rs:=by rw[aj,am (by rw[f.r1];exact hi)];exact aK _
   have g:bQ (S.s.rs.getD i 0)∈G++Y:=List.mem_append.2 (h.inv.rt _ M ha).symm;have t:(S.s.j0 a).jt (S.s.rs.getD i 0)=true:=by unfold bL.jt;rw[ha,l,List.contains_iff_mem.2 g];rfl
   have d:=k.rt i hi;have d:(S.s.j0 a).co b (S.s.rs.getD i 0)=false:=d;rw[bL.jA t] at d;exact⟨g,fun e=>d ((g3 _ g).1 e)⟩
  ·have g:bQ (ld a.N S.s.y S.s.g S.s.ws (c+1+i))∈G++Y:=List.mem_append.2 (h.inv.fd c (List.mem_append.1 hc).symm i K L ha).symm;have t:(S.s.j0 a).jt (ld a.N S.s.y S.s.g S.s.ws (c+1+i))=true:=by unfold bL.jt;rw[ha,l,List.contains_iff_mem.2 g];rfl
   have d:=k.ik c (by rw[l];exact hc) (fun e=>J ((g3 c hc).2 e)) i.toNat (by show(i.toNat:Int)<pf (ld a.N S.s.y S.s.g S.s.ws c);omega)
   rw[show((i.toNat:Nat):Int)=i from by omega] at d;have d:(S.s.j0 a).co b (ld a.N S.s.y S.s.g S.s.ws (c+1+i))=false:=d;rw[bL.jA t] at d;exact⟨g,fun e=>d ((g3 _ g).1 e)⟩
  ·rw[<-w c (by rw[l];exact hc)];exact not_congr (g3 c hc)
end
section
variable {c:ej}{F:Nat->Prop}{S:bZ×b_}{w:World}
theorem A6 (h:(ce c).J F S w)(hq:S.1.q.length+S.1.r.length<=90000):
 Calls prog 33 #[af c.a.pw] w fun e w'=>∃a,e=.returned (ae (S.1.code c.a))/\(ce c).J a (S.1.cut c.a,S.2) w'/\bM F w a w':=by
 obtain⟨k,b,_,d⟩:=ip h;refine(zz b hq).mono ?_;rintro e w' ⟨l,rfl,f,g⟩
 obtain⟨i,m1,j⟩:=d _ _ _ f g;exact⟨i,rfl,m1,j⟩
theorem uJ (h:(ce c).J F S w):Calls prog 15 #[af c.a.p] w fun e w'=>e=.returned (.tuple #[ae S.1.s.y,ae S.1.s.g])/\Below w.heap.size w w':=by obtain⟨b,a,_⟩:=ip h;obtain⟨d,g1,_⟩:=i9 a;exact iZ w (hG g1).1
theorem uK (h:(ce c).J F S w)(hq:S.1.q.length<=90000):
 Calls prog 18 #[af c.a.pw] w fun e w'=>∃b a d f k,e=.returned (.agg #[.slice b 12 a,.slice d f k])/\cS w' b (c_ c.a.N S.1.s.y S.1.s.g S.1.s.ws S.1.q S.1.s.rs).1/\Ln w' d (c_ c.a.N S.1.s.y S.1.s.g S.1.s.ws S.1.q S.1.s.rs).2.2/\f=(c_ c.a.N S.1.s.y S.1.s.g S.1.s.ws S.1.q S.1.s.rs).2.2.length/\Below w.heap.size w w':=by
 obtain⟨p,g,_⟩:=ip h;obtain⟨q,g1,_⟩:=i9 g;obtain⟨c0,_,c2,m,_,rl,_,n⟩:=hH g1;have ha:=(hG g1).1;obtain⟨s,ar,t,⟨u,v,x,⟨own,ct,hM,hO⟩,a,o,A,_⟩,r0,r1,B⟩:=g;have hl:Lq w (ag c.a.nb) S.1.s.rs:=by
  have j:=hM.rt;refine⟨fun _=>⟨c.a.nb,0,rfl,lt_of_some j,fun i hi=>?_⟩,fun _=>⟨c.a.nb,0,_,rfl,j⟩⟩
  rw[Nat.zero_add];exact(n i (by rw[<-rl];exact hi)).1
 have P:=xd (l:=S.1.s.rs) (ra:=ag c.a.nb) (rc:=12) ⟨c0,c2,ha,a,fR o,hq⟩ (by rw[rl];exact m) hl (by rw[rl];decide)
 rw[rl] at P;exact P
end
structure jd (c:ej)(S:bZ×b_)(j:Nat):Prop where
 kv:∃Y G,d3 c.a S.1.s Y G
 uL:fM S.2
 m:S.1.s.M.length<=j
 ix:S.1.r.length+S.1.q.length<=j
 t:S.2.T.length<=j
 rg:S.2.rg.length<=j
 wt:S.2.wt=[]
section
variable {c:ej}{F:Nat->Prop}{S:bZ×b_}{w:World}{j:Nat}
theorem qj:cI 2=false:=Z
theorem jd.start (c:ej)(n o:Nat):jd c (e0 n o) 0:=by
 refine⟨⟨[],[],⟨dS.start,fun x a ha=>?_,fun v b=>?_⟩,fun v b=>(by cases b)⟩,fM.start n o,ak _,ak _,ak _,ak _,rfl⟩
 ·have a:x∈tw 2 12:=a;have e:x=2:=by simpa[tw] using a
  rw[e,qj] at ha;cases ha
 ·rcases b with d|d<;>cases d
theorem jd.do (h:jd c S j)(d:cG c.a S.1.s)(a b B C:Int):jd c (dZ c S a b B C) (j+1):=by obtain⟨Y,G,hk⟩:=h.kv;obtain⟨e,f⟩:=AH hk d a b B C;obtain⟨w1,i,w3,g⟩:=AG (c:=c) h.uL a b B C;obtain⟨l1,l2⟩:=uf c S a b B C;have k:=h.m;have l:=h.ix;have m:=h.t;have n:=h.rg;exact⟨⟨e,G,f⟩,w1,I,I,I,I,g.trans h.wt⟩
theorem jd.rb (h:jd c S j)(a:j<=10000):jD S.2:=by have b:=h.t;have d:=h.rg;exact h.uL.rb I I (by rw[h.wt];exact aA _)
theorem k4 (h:(ce c).J F S w):cG c.a S.1.s:=by obtain⟨b,a,_⟩:=ip h;obtain⟨d,g1,_⟩:=i9 a;obtain⟨_,_,_,_,_,rl,_⟩:=hH g1;have ha:=(hG g1).1;exact⟨ha.hN,ha.hN',ha.hO,ha.hy,ha.hg,ha.hl,rl⟩
structure A7 (c:ej)(s:dT)(w:World):Prop where
 at_:At w c.a.p c.a.q c.a.N c.a.O s.y s.g s.ws
 cd:∃ct,Cd w c.a.pc ct c.a.N (dx c.a.O) s.M
 c0:w.cell? (ah c.a.pw 0)=some (af c.a.p)
 c1:w.cell? (ah c.a.pw 1)=some (af c.a.pc)
 b0:w.cell? (ah c.pb 0)=some (af c.a.pw)
theorem A8 (h:(ce c).J F S w):A7 c S.1.s w:=by obtain⟨a,_⟩:=n3 h;obtain⟨d,b,_⟩:=ip h;obtain⟨e,g1,_⟩:=i9 b;obtain⟨c0,c1,_⟩:=hH g1;obtain⟨ct,hc,_⟩:=pK g1;exact⟨(hG g1).1,⟨ct,hc⟩,c0,c1,a⟩
end
section
variable {a:Wc}{s:dT}{Y G:List Int}
theorem gH.set (h:d3 a s Y G)(hk:gH a s Y G)(b:cG a s)(x i z:Int)(M rs:List Int):gH a {s with ws:=fi a.N s.y s.g s.ws x i z,M:=M,rs:=rs} Y G:=by
 intro v c;dsimp only;by_cases h0:dH a.N s.y s.g s.ws x i=0
 ·obtain⟨ht,_,f,d⟩:=lN h0;obtain⟨_,e⟩:=pY (O:=a.O) h.inv.full b.n1 b.y1 b.o1 b.g1 ht;rw[h.inv.full.stands b.y1 e] at d;unfold fi;rw[aq h0];split
  ·rw[(h.inv.full.set (z:=z) b.l1 b.y1 b.g1 e f d).2 v c];exact hk v c
  ·exact hk v c
 ·unfold fi;rw[ao h0];exact hk v c
theorem gH.make (h:d3 a s Y G)(hk:gH a s Y G)(e:cG a s){k f:Int}(hm:gu a.N s.y k f=true)(i:k=1\/k=2)(M rs:List Int):gH a {s with y:=dU a.N s.y k f,ws:=dR a.N s.y k f s.ws,M:=M,rs:=rs} (Y++[(s.y:Int)]) G:=by
 obtain⟨g,p⟩:=jS hm;have q:=gK k f g;have j:dU a.N s.y k f=s.y+1+f.toNat:=by unfold dU;rw[aq hm]
 have l:dR a.N s.y k f s.ws=eA s.ws s.y (hw k f) f.toNat:=by unfold dR;rw[aq hm]
 have t:=e.l1;have c:s.y+f.toNat<s.ws.length:=I;have u:=e.y1;intro v m;dsimp only;rw[j,l];have n:v∈Y\/v∈G\/v=s.y:=by
  rcases m with b|b
  ·rcases List.mem_append.1 b with b|b
   ·exact ap b
   ·exact an (an (by simpa using b))
  ·exact an (ap b)
 rcases n with b|b|b
 ·have hi:=h.inv.full.f4 v b;have d:cO a.N (s.y+1+f.toNat) s.g v=true:=(ih _ _ _ _).2 (ap I)
  have o:cO a.N s.y s.g v=true:=(ih _ _ _ _).2 (ap I)
  rw[dh d,gW _ _ _ _ _ c,ao I,ao I,<-dh o];exact hk v (ap b)
 ·have hi:=h.inv.full.io v b;rw[dh (eK hi.1 hi.2),gW _ _ _ _ _ c,ao I,ao I,<-dh (y:=s.y) (eK hi.1 hi.2)];exact hk v (an b)
 ·have d:cO a.N (s.y+1+f.toNat) s.g v=true:=(ih _ _ _ _).2 (ap I)
  rw[dh d,gW _ _ _ _ _ c,aq I,(m3 k f g).1];exact i
end
theorem A9 {c:ej}{S:bZ×b_}{Y G:List Int}(h:d3 c.a S.1.s Y G)(hk:gH c.a S.1.s Y G)(e:cG c.a S.1.s)(a b B C:Int)(hd:a=0->b=1\/b=2):∃f,d3 c.a (dZ c S a b B C).1.s f G/\gH c.a (dZ c S a b B C).1.s f G:=by
 by_cases j:a=0
 ·cases hm:gu c.a.N S.1.s.y b B
  ·unfold dZ;rw[aq j];have g:dU c.a.N S.1.s.y b B=S.1.s.y:=by unfold dU;rw[hm];rfl
   have i:dR c.a.N S.1.s.y b B S.1.s.ws=S.1.s.ws:=by unfold dR;rw[hm];rfl
   have d:¬0<=eh c.a.N S.1.s.y b B:=by unfold eh;rw[hm,ao V];omega
   refine⟨Y,?_⟩
   unfold i_;dsimp only;rw[g,i,ao d];exact⟨h,hk⟩
  ·have d:eh c.a.N S.1.s.y b B=S.1.s.y:=by unfold eh;rw[hm];rfl
   obtain⟨s,n⟩:=kR S.1.s.y (by have:=e.y1;have:=e.n1;omega)
   have m:=h.inv.make (O:=c.a.O) e.l1 hm;refine⟨Y++[(S.1.s.y:Int)],?_⟩
   unfold dZ;rw[aq j];unfold i_;dsimp only;rw[d,aq I];exact⟨⟨m.root (bV C) _ (fun _=>ap (by rw[n];simp)),iT.make h.inv h.cd e.l1 hm⟩,gH.make h hk e hm (hd j) _ _⟩
 ·have key:∃f,d3 c.a (dZ c S a b B C).1.s f G/\f=Y:=by
   unfold dZ;rw[ao j];by_cases g:a=1
   ·rw[aq g];exact⟨Y,h.set e _ _ (dY b) B (dY C),rfl⟩
   rw[ao g];by_cases i:a=2
   ·rw[aq i];refine⟨Y,?_,rfl⟩
    unfold jE;dsimp only;split
    ·rename_i o;exact h.root _ _ (fun ha=>h.get e _ (dY b) B o ha)
    ·exact h
   rw[ao i];by_cases d:a=3
   ·rw[aq d];refine⟨Y,?_,rfl⟩
    unfold jC;dsimp only;split
    ·rename_i p;refine h.root _ _ (fun ha=>?_)
     have m:=(kk 1 b p).1;rw[m] at ha;exact absurd ha Z
    ·exact h
   rw[ao d];by_cases k:a=4
   ·rw[aq k];exact⟨Y,h.root _ _ (fun ha=>absurd ha Z),rfl⟩
   rw[ao k];by_cases l:a=5
   ·rw[aq l];refine⟨Y,?_,rfl⟩
    unfold ir bZ.kX;dsimp only;split
    ·split
     ·exact h
     ·exact h
    ·exact h
   rw[ao l];exact⟨Y,h,rfl⟩
  obtain⟨f,k1,q⟩:=key;subst q;refine⟨f,k1,?_⟩
  unfold dZ;rw[ao j];by_cases g:a=1
  ·rw[aq g];exact gH.set h hk e _ _ _ _ _
  rw[ao g];by_cases i:a=2
  ·rw[aq i];exact hk
  rw[ao i];by_cases d:a=3
  ·rw[aq d];exact hk
  rw[ao d];by_cases k:a=4
  ·rw[aq k];exact hk
  rw[ao k];by_cases l:a=5
  ·rw[aq l];unfold ir bZ.kX;dsimp only;split
   ·split
    ·exact hk
    ·exact hk
   ·exact hk
  rw[ao l];exact hk
def k7 (a:Wc)(s:dT):Prop:=∃Y G,d3 a s Y G/\gH a s Y G
theorem k7.start (a:Wc)(n o:Nat):k7 a (e0 n o).1.s:=by
 refine⟨[],[],⟨⟨dS.start,fun x d ha=>?_,fun v b=>?_⟩,fun v b=>(by cases b)⟩,fun v b=>?_⟩
 ·have d:x∈tw 2 12:=d;have e:x=2:=by simpa[tw] using d
  rw[e,qj] at ha;cases ha
 ·rcases b with c|c<;>cases c
 ·rcases b with c|c<;>cases c
theorem k7.do {c:ej}{S:bZ×b_}(h:k7 c.a S.1.s)(d:cG c.a S.1.s)(b a B C:Int)(hd:b=0->a=1\/a=2):k7 c.a (dZ c S b a B C).1.s:=by obtain⟨Y,G,e,f⟩:=h;obtain⟨g,i,j⟩:=A9 e f d b a B C hd;exact⟨g,G,i,j⟩
theorem uM {c:ej}{F:Nat->Prop}{S:bZ×b_}{w:World}(h:(ce c).J F S w)(hq:S.1.q.length+S.1.r.length<=90000)(b:S.1.e5 c.a=false->∃G,hK (S.1.k5 c.a) (S.1.cC c.a) G/\G 0 (S.1.k5 c.a,0)):
 Calls prog 20 #[af c.a.pw] w fun e w'=>∃a,e=.returned (ae (S.1.gG c.a))/\(ce c).J a (S.1.cW c.a,S.2) w'/\bM F w a w':=by
 obtain⟨l,d,_,f⟩:=ip h;refine(AL d hq b).mono ?_;rintro e w' ⟨m,rfl,g,i⟩
 obtain⟨j,m1,k⟩:=f _ _ _ g i;exact⟨j,rfl,m1,k⟩
structure je (a:Wc)(W:bZ):Prop where
 k:k7 a W.s
 r:W.r=[]
 q:W.q=[]
theorem je.start (a:Wc)(n o:Nat):je a (e0 n o).1:=⟨k7.start a n o,rfl,rfl⟩
theorem A_ {a:Wc}{W:bZ}{Y G:List Int}(h:d3 a W.s Y G)(hk:gH a W.s Y G)(b:cG a W.s)(i k:Nat):W.rK a i k=false:=by
 unfold bZ.rK;refine aZ (fun⟨d,_,c⟩=>?_)
 unfold bZ.ja at c;by_cases ht:tB a.N W.s.y W.s.g W.s.ws (W.s.rs.getD k 0)=true
 ·rw[aq ht] at c;have:=hk _ (pY (O:=a.O) h.inv.full b.n1 b.y1 b.o1 b.g1 ht).2;omega
 ·rw[ao ht] at c;omega
theorem je.do {c:ej}{S:bZ×b_}(h:je c.a S.1)(d:cG c.a S.1.s)(b a B C:Int)(hd:b=0->a=1\/a=2):je c.a (dZ c S b a B C).1:=by
 have key:(dZ c S b a B C).1.r=S.1.r/\(dZ c S b a B C).1.q=S.1.q:=by
  obtain⟨Y,G,f,g⟩:=h.k;have e:=A_ (W:=S.1) f g d (bV a) (bV C)
  unfold dZ;split
  ·exact⟨rfl,rfl⟩
  split
  ·exact⟨rfl,rfl⟩
  split
  ·exact⟨rfl,rfl⟩
  split
  ·exact⟨rfl,rfl⟩
  split
  ·exact⟨rfl,rfl⟩
  split
  ·unfold ir bZ.kX;rw[e];exact⟨rfl,rfl⟩
  ·exact⟨rfl,rfl⟩
 exact⟨h.k.do d b a B C hd,key.1.trans h.r,key.2.trans h.q⟩
theorem Ba {a:Wc}{W:bZ}(h:je a W)(c:cG a W.s):(W.e5 a=false->∃G,hK (W.k5 a) (W.cC a) G/\G 0 (W.k5 a,0))/\je a (W.cW a)/\(W.cW a).s.M.length<=W.s.M.length/\
 (c_ a.N (W.cW a).s.y (W.cW a).s.g (W.cW a).s.ws (W.cW a).q (W.cW a).s.rs).1=(c_ a.N W.s.y W.s.g W.s.ws W.q W.s.rs).1/\(c_ a.N (W.cW a).s.y (W.cW a).s.g (W.cW a).s.ws (W.cW a).q (W.cW a).s.rs).2.2=(c_ a.N W.s.y W.s.g W.s.ws W.q W.s.rs).2.2/\
 ((W.gG a=0/\(W.cW a).s.y=0/\(W.cW a).s.g=j9 (c_ a.N W.s.y W.s.g W.s.ws W.q W.s.rs).2.2/\j9 (c_ a.N W.s.y W.s.g W.s.ws W.q W.s.rs).2.2<=a.O)\/(W.gG a=3/\(W.cW a).s.y=W.s.y/\(W.cW a).s.g=W.s.g/\a.O<j9 (c_ a.N W.s.y W.s.g W.s.ws W.q W.s.rs).2.2)):=by
 obtain⟨Y,G,d,e⟩:=h.k;obtain⟨n1,f⟩:=A5 d e c h.r h.q;refine⟨fun b=>(f b).1,?_⟩
 cases b:W.e5 a
 ·obtain⟨_,g1,g2,g3,j,gc,g,_⟩:=f b;obtain⟨i,k,q,l⟩:=gc.done d e c g;obtain⟨m,n⟩:=l W.q (W.cW a).q;have o:W.n4 a<=a.O:=by unfold bZ.e5 at b;have:=of_decide_eq_false b;omega
  refine⟨⟨⟨[],_,i,k⟩,g1,g2⟩,by rw[gc.M];exact aA _,m,n,ap ⟨by unfold bZ.gG;rw[b];rfl,gc.y,I,I⟩⟩
 ·have o:(a.O:Int)<W.n4 a:=by unfold bZ.e5 at b;exact of_decide_eq_true b
  have p:W.cW a=W:=by unfold bZ.cW;rw[aq b]
  rw[p];exact⟨h,ak _,rfl,rfl,an ⟨by unfold bZ.gG;rw[aq b],rfl,rfl,I⟩⟩
def h5:bZ:=⟨⟨6,0,dR 16 3 1 2 (dR 16 0 1 2 (List.replicate 24 0)),[],((tw 2 12).set 0 (ew 3 0)).set 0 (ew 3 3)⟩,[],[]⟩
theorem Bb:j9 (c_ 16 h5.s.y h5.s.g h5.s.ws h5.q h5.s.rs).2.2=3:=by decide+kernel
theorem Bd:(c_ 16 h5.s.y h5.s.g h5.s.ws h5.q h5.s.rs).2.2.length=1:=by decide+kernel
theorem uN:dU 16 3 1 2=6/\eh 16 3 1 2=3:=by decide+kernel
section
variable {k:bL}{s:bX}
theorem cM.nw {X:Int->Prop}(h:cM k X s)(x:Int):k.nw s x=x:=by
 unfold bL.nw;split
 ·rename_i c;rw[aQ] at c;have ht:=mN c.1;have a:s.f (bQ x)≠-1:=by simpa using c.2
  have ha:cI x=true:=by have q:=c.1;unfold bL.jt at q;rw[aQ] at q;exact q.1
  have h0:dc x=0:=by have q:=ha;unfold cI at q;rw[aQ] at q;simpa using q.1
  rw[h.self _ ht a,iD x ha];have q:=(qK x h0).2;rw[ol ha] at q;exact q
 ·rfl
theorem qk {t:bX×List bN}{r:List bN}(h:∀e∈r,k.al t.1 e.2=true):k.tS t r=t:=by
 have e:r.filter (fun e=>!k.al t.1 e.2)=[]:=by rw[List.filter_eq_nil_iff];intro e he;rw[h e he];simp
 show eH (dE bX) (fun s x=>k.al s.1 x) k.bW t r=t;unfold eH;rw[e];rfl
end
section
variable {a:Wc}{S:bZ}{Y G:List Int}
theorem ot (c:cu (S.s.j0 a) dw):∀e∈S.r3 a,(S.s.j0 a).al (S.b7 a) e.2=true:=by obtain⟨d,f,_⟩:=mO (S:=S) c;intro e he;have he:e∈((S.r.filter (fun e=>(S.s.j0 a).al (S.j2 a).1 e.2)).filter (fun e=>(S.s.j0 a).al ((S.s.j0 a).d_ (S.j2 a) S.r).1 e.1)).map fun e=>((S.s.j0 a).nw ((S.s.j0 a).d_ (S.j2 a) S.r).1 e.1,(S.s.j0 a).nw ((S.s.j0 a).d_ (S.j2 a) S.r).1 e.2):=he;obtain⟨b,g,i⟩:=List.mem_map.1 he;have j:=(List.mem_filter.1 (List.mem_filter.1 g).1).2;rw[<-i];have q:(S.s.j0 a).nw (S.b7 a) b.2=b.2:=d.iQ.nw b.2;show(S.s.j0 a).al (S.b7 a) ((S.s.j0 a).nw (S.b7 a) b.2)=true;rw[q];exact zP f j
structure uO (a:Wc)(s:dT)(T:List Int)(j:bX):Prop where
 rt:∀i,i<12->cI (s.rs.getD i 0)=true->bQ (s.rs.getD i 0)∈T/\j.f (bQ (s.rs.getD i 0))≠-1
 fd:∀c∈T,j.f c≠-1->∀i,0<=i->i<pf (ld a.N s.y s.g s.ws c)->cI ((s.j0 a).fO j c i)=true->bQ ((s.j0 a).fO j c i)∈T/\j.f (bQ ((s.j0 a).fO j c i))≠-1
theorem iW.inv {s s':dT}{j:bX}(g:iW a s (G++Y) j s')(h:d3 a s Y G)(b:cG a s)(al:uO a s (G++Y) j):d3 a s' [] (j.lf (G++Y))/\cG a s':=by
 obtain⟨_,_,f⟩:=h4 h.inv.full b;have p:=g.full h.inv.full;have q:=g.bd;have hN:=b.n1;have hO:=b.o1;have C:=g.g;have t:∀c∈(s.j0 a).T,j.f c≠-1->0<=j.f c/\j.f c<1000000:=fun c hc u=>by
  rw[f] at hc;have:=q c hc u;have:=cU (ld a.N s.y s.g s.ws c)
  omega
 have key:∀x,(cI x=true->bQ x∈G++Y/\j.f (bQ x)≠-1)->cI ((s.j0 a).nw j x)=true->bQ ((s.j0 a).nw j x)∈j.lf (G++Y):=fun x l ha=>by obtain⟨_,w⟩:=qi (k:=s.j0 a) (j:=j) (x:=x) (fun ha=>by rw[f];exact l ha) t;obtain⟨c,c1,c2,m⟩:=w ha;rw[f] at c1;exact kc.2 ⟨c,c1,c2,m.symm⟩
 refine⟨⟨?_,fun v _ i _ _ _ hy=>by cases hy⟩,⟨b.n0,b.n1,b.o1,by rw[g.y];exact aA _,g.g,g.l,g.rl⟩⟩
 rw[g.y];refine⟨p,fun x l ha=>?_,fun v A i n d ha=>?_⟩
 ·obtain⟨i,hi,e⟩:=List.mem_iff_getElem.1 l;have B:s'.rs.getD i 0=x:=by rw[aj,am hi,e];rfl
  have o:i<12:=by rw[<-g.rl];exact hi
  rw[<-B,g.rs i o] at ha⊢;exact an (key _ (al.rt i o) ha)
 ·obtain⟨c,c1,c2,m⟩:=kc.1 (A.resolve_left V)
  rw[<-m] at d ha⊢;rw[g.hd c c1 c2] at d;rw[g.fd c c1 c2 i n d] at ha⊢;exact an (key _ (al.fd c c1 c2 i n d) ha)
structure Be (a:Wc)(S:bZ)(Y G:List Int)(j:bX):Prop where
 gc:iW a S.s (G++Y) j (S.cW a).s
 al:uO a S.s (G++Y) j
 g:((S.cW a).s.g:Int)=S.n4 a
 iff:∀c∈G++Y,j.f c=-1↔(S.b7 a).f c=-1
 j:S.b9 a=j
theorem mX (h:d3 a S.s Y G)(b:cG a S.s)(l:S.e5 a=false):(∃F,hK (S.k5 a) (S.cC a) F/\F 0 (S.k5 a,0))/\Be a S Y G (S.b9 a)/\S.cC a=S.b9 a:=by
 have m:cu (S.s.j0 a) dw:=cu.start b.n1 b.o1 b.y1 b.g1;obtain⟨n,ai,L⟩:=mO (S:=S) m;obtain⟨l1,l2,f⟩:=h4 h.inv.full b;have hm:((S.s.j0 a).pl (S.b7 a)).2<=a.N+a.O:=by
  unfold bZ.e5 at l;have:=of_decide_eq_false l;unfold bZ.n4 at this
  omega
 obtain⟨g1,g2,g3,p⟩:=uD h.inv.full b (S.b7 a) hm;have M:((S.s.j0 a).pl (S.b7 a)).1=S.b9 a:=rfl;rw[M] at g1 g2 g3 p;have A:(S.s.j0 a).es (S.b9 a)=S.k5 a:=rfl;rw[A] at g1 g2 p;have N:(S.k5 a).T=(S.s.j0 a).T:=by
  obtain⟨_,B,t3,_⟩:=oc (s:=S.b9 a) (k:=S.s.j0 a) ⟨b.l1,b.y1,b.g1⟩ b.r1 m.nd (mV h.inv.full b) (om h.inv.full b)
  rw[A] at B t3;unfold bL.T;rw[B,t3]
 have C:∀x,(S.s.j0 a).co (S.b9 a) x=(S.s.j0 a).co (S.b7 a) x:=fun x=>by
  cases hj:(S.s.j0 a).jt x
  ·unfold bL.co;rw[hj];rfl
  ·have D:=mN hj;rw[f] at D;have q:=g3 _ D;unfold bL.co;rw[hj,Bool.true_and,Bool.true_and];by_cases c:(S.b7 a).f (bQ x)=-1
   ·rw[c,q.2 c]
   ·rw[a6 c,a6 (fun O=>c (q.1 O))]
 have E:S.cC a=S.b9 a:=by
  have q:(S.k5 a).tS (S.b9 a,S.q3 a) (S.r3 a)=(S.b9 a,S.q3 a):=qk (fun e he=>by
   have q1:=ot (S:=S) m e he;unfold bL.al at q1⊢;have H:(S.k5 a).co (S.b9 a) e.2=(S.s.j0 a).co (S.b9 a) e.2:=by unfold bL.co bL.jt;rw[N]
   dsimp only;rw[H,C];exact q1)
  unfold bZ.cC;rw[q]
 have P:(S.k5 a).sl (S.b9 a)=S.k6 a:=by unfold bZ.k6;rw[E]
 rw[P] at g1 g2;have J:(S.cW a).s=(S.k6 a).s:=by unfold bZ.cW;rw[l,ao V]
 have K:∀x,cI x=true->bQ x∈G++Y->(S.s.j0 a).co (S.b7 a) x=false->(S.b9 a).f (bQ x)≠-1:=fun x ha hm hj=>by
  have Q:(S.s.j0 a).jt x=true:=by unfold bL.jt;rw[ha,f,List.contains_iff_mem.2 hm];rfl
  rw[bL.jA Q] at hj;exact fun e=>hj ((g3 _ hm).1 e)
 rw[E];refine⟨p,⟨by rw[J];exact g1,⟨fun i hi ha=>?_,fun c hc R i t u ha=>?_⟩,by rw[J];exact g2,g3,rfl⟩,rfl⟩
 ·have U:S.s.rs.getD i 0∈S.s.rs:=by rw[aj,am (by rw[b.r1];exact hi)];exact aK _
  have d:bQ (S.s.rs.getD i 0)∈G++Y:=List.mem_append.2 (h.inv.rt _ U ha).symm;exact⟨d,K _ ha d (L i hi)⟩
 ·have hw:=mV h.inv.full b c (by rw[f];exact hc)
  have v:pc (ld a.N S.s.y S.s.g S.s.ws c)=0:=hw.c;have W:c∈(S.s.j0 a).T:=by rw[f];exact hc
  have X:(S.b7 a).f c≠-1:=fun e=>R ((g3 c hc).2 e)
  have hM:kQ (S.s.j0 a) (S.b7 a) c:=by
   rcases n.iQ.cmp c W X with q|q|q
   ·rw[n.td] at q;cases q
   ·exact absurd q id
   ·exact q
  have mem:∀i,0<=i->i<pf (ld a.N S.s.y S.s.g S.s.ws c)->cI (ld a.N S.s.y S.s.g S.s.ws (c+1+i))=true->bQ (ld a.N S.s.y S.s.g S.s.ws (c+1+i))∈G++Y:=fun i t u ha=>List.mem_append.2 (h.inv.fd c (List.mem_append.1 hc).symm i t u ha).symm;unfold bL.fO at ha⊢;rw[C] at ha⊢;by_cases cb:((pk ((S.s.j0 a).ld c)=3\/pk ((S.s.j0 a).ld c)=4)/\(S.s.j0 a).co (S.b7 a) ((S.s.j0 a).ld (c+1))=true)/\(i=0\/(pk ((S.s.j0 a).ld c)=4/\i=1))
  ·rw[aq cb] at ha;exact absurd ha Z
  ·rw[ao cb] at ha⊢;have ha:cI (ld a.N S.s.y S.s.g S.s.ws (c+1+i))=true:=ha;have d:=mem i t u ha;refine⟨d,K _ ha d ?_⟩
   show(S.s.j0 a).co (S.b7 a) ((S.s.j0 a).ld (c+1+i))=false;by_cases k12:pk ((S.s.j0 a).ld c)=1\/pk ((S.s.j0 a).ld c)=2
   ·have q:=hM.p k12 i.toNat (by show(i.toNat:Int)<pf (ld a.N S.s.y S.s.g S.s.ws c);omega)
    rwa [show((i.toNat:Nat):Int)=i from by omega] at q
   ·by_cases g:pk ((S.s.j0 a).ld c)=3
    ·have ad:=fV v (an (ap g))
     by_cases z:i=0
     ·cases hl:(S.s.j0 a).co (S.b7 a) ((S.s.j0 a).ld (c+1))
      ·rw[z,Int.add_zero];exact hl
      ·exact absurd ⟨⟨ap g,hl⟩,ap z⟩ cb
     ·have o:i=1:=I;rw[o,show c+1+1=c+2 from by omega];exact hM.w g
    ·by_cases j:pk ((S.s.j0 a).ld c)=4
     ·have ad:=fV v (an (an j))
      have w:(S.s.j0 a).co (S.b7 a) ((S.s.j0 a).ld (c+1))=false:=by
       cases hl:(S.s.j0 a).co (S.b7 a) ((S.s.j0 a).ld (c+1))
       ·rfl
       ·exact absurd ⟨⟨an j,hl⟩,I⟩ cb
      by_cases z:i=0
      ·rw[z,Int.add_zero];exact w
      ·have o:i=1:=I;rw[o,show c+1+1=c+2 from by omega];rcases hM.e j with q|q
       ·rw[n.ep c q] at w;cases w
       ·exact q
     ·exfalso;have q1:=pZ v;have H:pf (ld a.N S.s.y S.s.g S.s.ws c)=0:=by
       have q3:pk (ld a.N S.s.y S.s.g S.s.ws c)≠1/\pk (ld a.N S.s.y S.s.g S.s.ws c)≠2/\pk (ld a.N S.s.y S.s.g S.s.ws c)≠3/\pk (ld a.N S.s.y S.s.g S.s.ws c)≠4:=⟨fun e=>k12 (ap e),fun e=>k12 (an e),g,j⟩
       omega
      omega
theorem Bf (a:Wc)(S:bZ):(S.cW a).r.length+(S.cW a).q.length<=S.r.length+S.q.length:=by
 unfold bZ.cW;split
 ·exact ak _
 ·have b:=n7 (dE bX) (fun s x=>(S.s.j0 a).al s.1 x) (S.s.j0 a).ke (fun s x=>(S.s.j0 a).nw s.1 x) (fun s x=>nQ (S.s.j0 a) s x) (S.j2 a) S.r;have d:(S.j2 a).2.length=S.q.length:=lJ _ _ _;have e:(dE bX).wt (S.j2 a)=(S.j2 a).2:=rfl;have f:(S.r3 a).length+(S.q3 a).length<=S.r.length+(S.j2 a).2.length:=b;have c:=n7 (dE bX) (fun s x=>(S.k5 a).al s.1 x) (S.k5 a).bW (fun s x=>(S.k5 a).nw s.1 x) (fun _ _=>rfl) (S.b9 a,S.q3 a) (S.r3 a)
  have g:((S.k5 a).tR (S.b9 a,S.q3 a) (S.r3 a)).length+((S.k5 a).fz (S.b9 a,S.q3 a) (S.r3 a)).length<=(S.r3 a).length+(S.q3 a).length:=c;dsimp only;omega
theorem d3.cW (h:d3 a S.s Y G)(c:cG a S.s):(S.e5 a=false->∃F,hK (S.k5 a) (S.cC a) F/\F 0 (S.k5 a,0))/\(∃d e,d3 a (S.cW a).s d e)/\(S.cW a).s.M.length<=S.s.M.length:=by
 refine⟨fun b=>(mX h c b).1,?_⟩
 cases b:S.e5 a
 ·obtain⟨_,g,_⟩:=mX h c b;obtain⟨f,_⟩:=g.gc.inv h c g.al;exact⟨⟨[],_,f⟩,by rw[g.gc.M];exact aA _⟩
 ·have i:S.cW a=S:=by unfold bZ.cW;rw[aq b]
  rw[i];exact⟨⟨Y,G,h⟩,ak _⟩
end
end Go.Proofs.YtjpjpjemibgjpaaGreat
