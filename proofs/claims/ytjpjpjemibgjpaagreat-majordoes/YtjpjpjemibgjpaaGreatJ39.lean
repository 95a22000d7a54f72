import Derived.Test.YtjpjpjemibgjpaaGreatJ38
import Derived.Test.YtjpjpjemibgjpaaGreatJ09
import Derived.Test.YtjpjpjemibgjpaaGreatJ07
import Derived.Test.YtjpjpjemibgjpaaGreatJ00
import Derived.Test.YtjpjpjemibgjpaaGreatJ02
import Derived.Test.YtjpjpjemibgjpaaGreatJ05
import Derived.Test.YtjpjpjemibgjpaaGreatJ19
import Derived.Test.YtjpjpjemibgjpaaGreatJ01
import Derived.Test.YtjpjpjemibgjpaaGreatJ03
namespace Go.Proofs.YtjpjpjemibgjpaaGreat
open Go.RowKit W Kp bY
def eM (P:Nat->Bool)(z:Nat->Nat):Nat->Nat
 |0=>0
 |n+1=>eM P z n+if P n=true then z n else 0
theorem uU {P:Nat->Bool}{z:Nat->Nat}{m:Nat->Int}{f:Int->Nat}:∀n,(∀i,i<n->P i=true->f (m i)=z i)->eM P z n=eD f (((List.range n).filter P).map m)
 |0,_=>by simp[eM,eD]
 |n+1,h=>by
  rw[eM,uU n (fun i hi hp=>h i I hp),List.range_succ,List.filter_append,bc,zZ];cases c:P n
  ·simp[c,eD]
  ·simp[c,eD,h n I c]
theorem qp {P:Nat->Bool}{z:Nat->Nat}{m:Nat->Int}{f:Int->Nat}{n:Nat}{l:List Int}(p:∀i,i<n->P i=true->f (m i)=z i)(k:l.Nodup)(inj:∀i j,i<n->j<n->P i=true->P j=true->m i=m j->i=j)(hl:∀v,v∈l↔∃i,i<n/\P i=true/\m i=v):eM P z n=eD f l:=by
 rw[uU n p];have o:∀v,v∈((List.range n).filter P).map m↔v∈l:=fun v=>by
  rw[hl v];simp only [List.mem_map,List.mem_filter,List.mem_range];constructor
  ·rintro⟨i,⟨a,b⟩,c⟩
   exact⟨i,a,b,c⟩
  ·rintro⟨i,a,b,c⟩
   exact⟨i,⟨a,b⟩,c⟩
 have nd:(((List.range n).filter P).map m).Nodup:=by unfold List.Nodup;rw[List.pairwise_map];have h0:((List.range n).filter P).Nodup:=List.nodup_range.filter _;refine List.Pairwise.imp_of_mem (fun {i j} hi d q e=>q ?_) h0;simp only [List.mem_filter,List.mem_range] at hi d;exact inj i j hi.1 d.1 hi.2 d.2 e
 exact Nat.le_antisymm (nZ nd k (fun v g=>(o v).1 g)) (nZ k nd (fun v g=>(o v).2 g))
theorem uV {P Q:Nat->Bool}{z:Nat->Nat}:∀n,(∀i,i<n->P i=true->Q i=true)->eM P z n<=eM Q z n
 |0,_=>ak _
 |n+1,h=>by
  have a:=uV (z:=z) n (fun i hi=>h i I)
  rw[eM,eM];by_cases c:P n=true
  ·rw[aq c,aq (h n I c)];omega
  ·rw[ao c];omega
theorem uW {P Q R:Nat->Bool}{z:Nat->Nat}:∀n,(∀i,i<n->R i=(P i||Q i)/\(P i&&Q i)=false)->eM R z n=eM P z n+eM Q z n
 |0,_=>rfl
 |n+1,h=>by
  have a:=uW (z:=z) n (fun i hi=>h i I)
  obtain⟨b,c⟩:=h n I;rw[eM,eM,eM,a,b];cases hp:P n<;>cases hq:Q n<;>simp_all<;>omega
def f9 (T:List cE)(i:Nat):Nat:=1+(T.getD i t0).2.1.length
def g7 (T:List cE)(i:Nat):Bool:=!(T.getD i t0).2.2.2&&!(T.getD i t0).2.2.1
def oB (T:List cE)(i:Nat):Bool:=!(T.getD i t0).2.2.2&&(T.getD i t0).2.2.1
theorem uX (T:List cE):∀n,n<=T.length->d8 (T.take n)=((eM (g7 T) (f9 T) n:Int),(eM (oB T) (f9 T) n:Int))
 |0,_=>by simp[d8,eM]
 |n+1,h=>by
  rw[eY T n I t0,r5,uX T n I];show g8 _ _=(((eM (g7 T) (f9 T) n+if g7 T n=true then f9 T n else 0:Nat):Int),((eM (oB T) (f9 T) n+if oB T n=true then f9 T n else 0:Nat):Int))
  generalize eM (g7 T) (f9 T) n=a;generalize eM (oB T) (f9 T) n=B;unfold g8 g7 oB f9;generalize T.getD n t0=t;cases hd:t.2.2.2<;>cases ho:t.2.2.1<;>simp
theorem uY (T:List cE):d8 T=((eM (g7 T) (f9 T) T.length:Int),(eM (oB T) (f9 T) T.length:Int)):=by
 have:=uX T T.length bJ
 rwa [aP] at this
theorem qq (T:List cE)(L:List Bool):∀n,f2 T L n=(eM (fun i=>L.getD i false) (f9 T) n:Int)
 |0=>rfl
 |n+1=>by
  rw[f2,qq T L n,eM];split
  ·simp[f9]
  ·simp
section
variable {a:Wc}{S:bZ}{W:b_}{m:Nat->Int}{Y G:List Int}
theorem cj.size (h:cj a S W m Y G){i:Nat}(hi:cv W.T i):hv (ld a.N S.s.y S.s.g S.s.ws) (m i)=f9 W.T i:=by unfold hv f9;rw[(h.parts hi).2.1];simp
theorem kg {T:List cE}{i:Nat}(a:i<T.length)(b:(T.getD i t0).2.2.2=false):cv T i:=⟨a,b⟩
theorem cj.us (h:cj a S W m Y G)(f:cG a S.s):d8 W.T=((S.s.y:Int),(S.s.g:Int)):=by
 have o:=f.y1;have g:eM (g7 W.T) (f9 W.T) W.T.length=eD (hv (ld a.N S.s.y S.s.g S.s.ws)) Y:=by
  refine qp (m:=m) (fun i hi hp=>?_) h.kv.inv.full.ty.nodup (fun i j hi d hp hq e=>?_) (fun v=>⟨fun b=>?_,?_⟩)
  ·unfold g7 at hp;simp at hp;exact h.size (kg hi hp.1)
  ·unfold g7 at hp hq;simp at hp hq;exact h.inj i j (kg hi hp.1) (kg d hq.1) e
  ·obtain⟨i,hi,e⟩:=h.e8 v (ap b)
   refine⟨i,hi.1,?_,e⟩
   unfold g7;rw[hi.2];cases c:(W.T.getD i t0).2.2.1
   ·rfl
   ·have k:=h.kv.inv.full.io _ (h.old i hi c)
    have l:=h.kv.inv.full.f4 v b;omega
  ·rintro⟨i,hi,hp,e⟩
   unfold g7 at hp;simp at hp;rw[<-e];exact h.gp i (kg hi hp.1) hp.2
 have n:eM (oB W.T) (f9 W.T) W.T.length=eD (hv (ld a.N S.s.y S.s.g S.s.ws)) G:=by
  refine qp (m:=m) (fun i hi hp=>?_) h.kv.inv.full.dN.nodup (fun i j hi d hp hq e=>?_) (fun v=>⟨fun b=>?_,?_⟩)
  ·unfold oB at hp;simp at hp;exact h.size (kg hi hp.1)
  ·unfold oB at hp hq;simp at hp hq;exact h.inj i j (kg hi hp.1) (kg d hq.1) e
  ·obtain⟨i,hi,e⟩:=h.e8 v (an b)
   refine⟨i,hi.1,?_,e⟩
   unfold oB;rw[hi.2];cases c:(W.T.getD i t0).2.2.1
   ·have k:=h.kv.inv.full.f4 _ (h.gp i hi c)
    have l:=h.kv.inv.full.io v b;omega
   ·rfl
  ·rintro⟨i,hi,hp,e⟩
   unfold oB at hp;simp at hp;rw[<-e];exact h.old i (kg hi hp.1) hp.2
 have p:=h.kv.inv.full.ty.sum;have q:=h.kv.inv.full.dN.sum;rw[uY,g,n];exact Prod.ext (by show _=(S.s.y:Int);omega) (by show _=(S.s.g:Int);omega)
theorem uZ:ew 0 0=2:=Z
theorem u1 (ws:List Int)(y:Nat)(x:Int):∀k,(eA ws y x k).length=ws.length
 |0=>by simp[eA]
 |k+1=>by simp[eA,u1 ws y x k]
theorem cj.fresh (h:cj a S W m Y G)(j:cG a S.s){k f:Int}(hm:gu a.N S.s.y k f=true):
 cj a ⟨{S.s with y:=dU a.N S.s.y k f,ws:=dR a.N S.s.y k f S.s.ws},S.r,S.q⟩ {W with T:=W.T++[(k,List.replicate f.toNat (0,0),false,false)]} (hC m W.T.length S.s.y) (Y++[(S.s.y:Int)]) G:=by
 obtain⟨l,s⟩:=jS hm;have t:=gK k f l;have c:dU a.N S.s.y k f=S.s.y+1+f.toNat:=by unfold dU;rw[aq hm]
 have e:dR a.N S.s.y k f S.s.ws=eA S.s.ws S.s.y (hw k f) f.toNat:=by unfold dR;rw[aq hm]
 have hl:=j.l1;have g:S.s.y+f.toNat<S.s.ws.length:=I;have o:((List.replicate f.toNat ((0,0):Int×Int)).length:Int)=f:=by simp;omega
 have keep:∀q:Int,((0<=q/\q<S.s.y)\/((a.N:Int)<=q/\q<a.N+S.s.g))->ld a.N (S.s.y+1+f.toNat) S.s.g (eA S.s.ws S.s.y (hw k f) f.toNat) q=ld a.N S.s.y S.s.g S.s.ws q:=fun q hq=>by
  rcases hq with⟨q0,q1⟩|⟨q0,q1⟩
  ·rw[dh (gM q0 I),dh (gM q0 q1),gW _ _ _ _ _ g,ao I,ao I]
  ·rw[dh (eK q0 q1),dh (eK q0 q1),gW _ _ _ _ _ g,ao I,ao I]
 refine h.new (kd:=k) (vs:=List.replicate f.toNat (0,0)) (s':={S.s with y:=dU a.N S.s.y k f,ws:=dR a.N S.s.y k f S.s.ws}) (by rw[o];exact l) (fun v d=>by rw[List.eq_of_mem_replicate d];exact d4.nil _) rfl (by show dU a.N S.s.y k f<=a.N;rw[c];omega) ⟨h.kv.inv.make (O:=a.O) j.l1 hm,iT.make h.kv.inv h.kv.cd j.l1 hm⟩ ?_ (fun n i=>?_) (fun v d=>?_) (fun v d n i=>?_)
 ·show ld a.N (dU a.N S.s.y k f) S.s.g (dR a.N S.s.y k f S.s.ws) S.s.y=_;rw[c,e,o3 _ _ g,o]
 ·show ld a.N (dU a.N S.s.y k f) S.s.g (dR a.N S.s.y k f S.s.ws) (S.s.y+1+n)=_;rw[List.length_replicate] at i;have p:(List.replicate f.toNat ((0,0):Int×Int)).getD n (0,0)=(0,0):=by rw[aj,List.getElem?_replicate];split<;>rfl
  rw[c,e,dh (gM I I),gW _ _ _ _ _ g,ao I,aq I,p,iz Z,uZ]
 ·show ld a.N (dU a.N S.s.y k f) S.s.g (dR a.N S.s.y k f S.s.ws) v=_;rw[c,e];exact keep v (d.imp (fun b=>h.kv.inv.full.f4 v b) (fun b=>h.kv.inv.full.io v b))
 ·show ld a.N (dU a.N S.s.y k f) S.s.g (dR a.N S.s.y k f S.s.ws) (v+1+n)=_;rw[c,e];exact keep _ (d.imp (fun b=>lO h.kv.inv.full b (Int.natCast_nonneg n) i) (fun b=>kS h.kv.inv.full b (Int.natCast_nonneg n) i))
end
theorem cj.do {c:ej}{S:bZ×b_}{m:Nat->Int}{Y G:List Int}(h:cj c.a S.1 S.2 m Y G)(b:cG c.a S.1.s)(hm:c.bS=c.a.N)(d a B C:Int):jF c S d a B C=true/\∃W X,cj c.a (dZ c S d a B C).1 (dZ c S d a B C).2 W X G:=by
 have ad:=h.us b;have code:=h.code b (dY a) B;unfold jF dZ;by_cases H:d=0
 ·rw[aq H,aq H];have ai:S.2.h3 c.bS a B=gu c.a.N S.1.s.y a B:=by
   unfold b_.h3 gu;rw[ad,hm];have:(hc a B=0/\1+B<=((c.a.N:Int))-((S.1.s.y:Int),(S.1.s.g:Int)).1)↔(hc a B=0/\B+1<=(c.a.N:Int)-S.1.s.y):=by constructor<;>rintro⟨q1,ar⟩<;>exact⟨q1,by dsimp only at*;omega⟩
   rw[decide_eq_decide.2 this]
  unfold i_ b_.fr;rw[ai];cases hmk:gu c.a.N S.1.s.y a B
  ·have s:dU c.a.N S.1.s.y a B=S.1.s.y:=by unfold dU;rw[hmk];rfl
   have w:dR c.a.N S.1.s.y a B S.1.s.ws=S.1.s.ws:=by unfold dR;rw[hmk];rfl
   have l:¬0<=eh c.a.N S.1.s.y a B:=by unfold eh;rw[hmk,ao V];omega
   refine⟨by rw[aZ l];rfl,m,Y,?_⟩
   dsimp only;rw[s,w,ao l,ao V];exact h
  ·have l:eh c.a.N S.1.s.y a B=S.1.s.y:=by unfold eh;rw[hmk];rfl
   refine⟨by rw[l,a8 I];rfl,hC m S.2.T.length S.1.s.y,Y++[(S.1.s.y:Int)],?_⟩
   dsimp only;rw[aq rfl,l,aq I];have ax:=h.fresh b hmk;have al:cv (S.2.T++[(a,List.replicate B.toNat ((0,0):Int×Int),false,false)]) S.2.T.length:=(uT rfl _).2 (an rfl)
   have aB:cG c.a {S.1.s with y:=dU c.a.N S.1.s.y a B,ws:=dR c.a.N S.1.s.y a B S.1.s.ws}:=by
    obtain⟨q1,ar⟩:=jS hmk;have bn:=gK a B q1;have aF:dU c.a.N S.1.s.y a B=S.1.s.y+1+B.toNat:=by unfold dU;rw[aq hmk]
    have aR:dR c.a.N S.1.s.y a B S.1.s.ws=eA S.1.s.ws S.1.s.y (hw a B) B.toNat:=by unfold dR;rw[aq hmk]
    exact⟨b.n0,b.n1,b.o1,by show dU c.a.N S.1.s.y a B<=c.a.N;rw[aF];omega,b.g1,by show(dR c.a.N S.1.s.y a B S.1.s.ws).length=_;rw[aR,u1];exact b.l1,b.r1⟩
   have j:=ax.put aB (bV C) (v:=(3,(S.2.T.length:Int))) ⟨fun _=>⟨by dsimp only;omega,by simpa using al⟩,fun e=>absurd rfl e⟩
   have aT:wv (hC m S.2.T.length S.1.s.y) (3,(S.2.T.length:Int))=ew 3 (S.1.s.y:Int):=by rw[fW rfl];unfold hC;simp
   rw[aT] at j;exact j
 rw[ao H,ao H];by_cases s:d=1
 ·rw[aq s,aq (ap s)];refine⟨by rw[code];simp,m,Y,?_⟩
  unfold kW;dsimp only;by_cases c0:S.2.gc (bV a) B=0
  ·rw[aq c0];have o:dH c.a.N S.1.s.y S.1.s.g S.1.s.ws (S.1.s.rs.getD (bV a) 0) B=0:=code.trans c0;have aV:=h.kv.set b (bV a) (bV C) (dY a) B (dY C)
   obtain⟨er,g⟩:=h.root (dY a)
   obtain⟨J,t⟩:=h.root (dY C)
   obtain⟨A,a0,t3,K⟩:=lN o;rw[er,h.tB b g] at A;have f:(S.2.rs.getD (bV a) (0,0)).1=3:=by simpa using A
   obtain⟨z,al⟩:=g.t f;rw[er,(h.vt b g f).2,h.kv.inv.full.stands b.y1 (h.mem al),(h.parts al).2.1] at K;have O:S.2.th (bV a)=(S.2.rs.getD (bV a) (0,0)).2:=by unfold b_.th;rw[aq f]
   have hw:fi c.a.N S.1.s.y S.1.s.g S.1.s.ws (S.1.s.rs.getD (bV a) 0) B (S.1.s.rs.getD (bV C) 0)=S.1.s.ws.set (m (S.2.rs.getD (bV a) (0,0)).2.toNat+1+(B.toNat:Nat)).toNat (wv m (S.2.rs.getD (bV C) (0,0))):=by
    unfold fi;rw[aq o,er,(h.vt b g f).2,J];have hi:=i6 h.kv.inv.full (h.mem al) t3 (by rw[(h.parts al).2.1];exact K)
    rw[aq hi,Int.toNat_of_nonneg t3]
   have a1:=h.store b al (k:=B.toNat) I t hw aV;unfold b_.sT;rw[O];exact a1
  ·rw[ao c0];have o:dH c.a.N S.1.s.y S.1.s.g S.1.s.ws (S.1.s.rs.getD (bV a) 0) B≠0:=fun e=>c0 (code.symm.trans e)
   obtain⟨a2,a3⟩:=p8 (z:=S.1.s.rs.getD (bV C) 0) (c:=dx c.a.O) (M:=S.1.s.M) o;rw[a2,a3];exact h
 rw[ao s];by_cases w:d=2
 ·rw[aq (an w),aq w];refine⟨by rw[code];simp,m,Y,?_⟩
  unfold jE;dsimp only;by_cases c0:S.2.gc (bV a) B=0
  ·have o:dH c.a.N S.1.s.y S.1.s.g S.1.s.ws (S.1.s.rs.getD (bV a) 0) B=0:=code.trans c0;rw[aq c0,aq o,aq o];obtain⟨er,g⟩:=h.root (dY a)
   obtain⟨A,a0,t3,K⟩:=lN o;rw[er,h.tB b g] at A;have f:(S.2.rs.getD (bV a) (0,0)).1=3:=by simpa using A
   obtain⟨z,al⟩:=g.t f;rw[er,(h.vt b g f).2,h.kv.inv.full.stands b.y1 (h.mem al),(h.parts al).2.1] at K;have O:S.2.th (bV a)=(S.2.rs.getD (bV a) (0,0)).2:=by unfold b_.th;rw[aq f]
   have hB:B.toNat<(S.2.T.getD (S.2.rs.getD (bV a) (0,0)).2.toNat t0).2.1.length:=I;have Q:=h.fd _ al B.toNat hB;rw[Int.toNat_of_nonneg t3] at Q;have j:=h.put b (bV C) (h.fv _ al _ (getD_in (x:=(0,0)) hB))
   rw[<-Q] at j;rw[er,(h.vt b g f).2];unfold b_.gf;rw[O];exact j
  ·have o:dH c.a.N S.1.s.y S.1.s.g S.1.s.ws (S.1.s.rs.getD (bV a) 0) B≠0:=fun e=>c0 (code.symm.trans e)
   rw[ao c0,ao o];exact h
 rw[ao (fun e=>e.elim s w),ao w];by_cases l:d=3
 ·rw[aq l,aq l];have ev:vc 1 a=rc a (-1152921504606846976):=by unfold vc;rw[ao Z,ao Z,aq rfl]
  refine⟨by rw[ev];simp,m,Y,?_⟩
  unfold jC;dsimp only;rw[<-ev];by_cases c0:vc 1 a=0
  ·rw[aq c0,aq c0];have j:=h.put b (bV C) (v:=(1,a)) (d4.of Z c0)
   rw[iz (show(1:Int)≠3 by decide)] at j;exact j
  ·rw[ao c0,ao c0];exact h
 rw[ao l,ao l];by_cases R:d=4
 ·rw[aq R,ao I];refine⟨rfl,m,Y,?_⟩
  have j:=h.put b (bV C) (d4.nil S.2.T)
  rw[iz Z,uZ] at j;exact j
 rw[ao R];by_cases L:d=5
 ·rw[aq L,aq L];obtain⟨er,g⟩:=h.root (dY a)
  obtain⟨J,t⟩:=h.root (dY C)
  have bb:S.1.r.length+S.1.q.length=S.2.rg.length+S.2.wt.length:=by rw[h.rg,h.wt,aE,aE]
  have iq:∀i,i<12->(S.1.iq c.a i=0↔(S.2.rs.getD i (0,0)).1=3):=fun i hi=>by
   obtain⟨er,g⟩:=h.root hi;unfold bZ.iq;rw[er,h.tB b g];by_cases f:(S.2.rs.getD i (0,0)).1=3
   ·rw[f,aq (show((3:Int)==3)=true from rfl),(h.vt b g f).2,(h.parts (g.t f).2).2.2];simp
   ·have l:((S.2.rs.getD i (0,0)).1==3)=false:=by simpa using f
    rw[l,ao V];exact⟨fun q=>absurd q Z,fun q=>absurd q f⟩
  have ja:(S.2.rs.getD (bV C) (0,0)).1=3->S.1.ja c.a (bV C)=(S.2.T.getD (S.2.rs.getD (bV C) (0,0)).2.toNat t0).1:=fun f=>by unfold bZ.ja;rw[J,h.tB b t,f,aq (show((3:Int)==3)=true from rfl),(h.vt b t f).2,(h.parts (t.t f).2).1]
  have rK:S.1.rK c.a (bV a) (bV C)=true↔¬(S.2.th (bV a)<0\/S.2.gd (bV C)<0):=by
   unfold bZ.rK;rw[decide_eq_true_iff,iq _ (dY a),iq _ (dY C)];unfold b_.gd b_.th;by_cases p:(S.2.rs.getD (bV a) (0,0)).1=3
   ·have bo:=(g.t p).1;by_cases n:(S.2.rs.getD (bV C) (0,0)).1=3
    ·have bp:=(t.t n).1;rw[aq p,aq n,ja n,ao I];have bd:S.2.T.getD (S.2.rs.getD (bV C) (0,0)).2.toNat (0,[],false,false)=S.2.T.getD (S.2.rs.getD (bV C) (0,0)).2.toNat t0:=rfl;rw[bd];by_cases N:(S.2.T.getD (S.2.rs.getD (bV C) (0,0)).2.toNat t0).1=5
     ·rw[aq N];exact⟨fun _ d=>I,fun _=>⟨n,p,N⟩⟩
     ·rw[ao N];exact⟨fun q=>absurd q.2.2 N,fun q=>absurd (an Z) q⟩
    ·rw[ao n,aq (by decide:(-1:Int)<0)];exact⟨fun q=>absurd q.1 n,fun q=>absurd (an Z) q⟩
   ·rw[ao p];exact⟨fun q=>absurd q.2.1 p,fun q=>absurd (ap Z) q⟩
  unfold ir bZ.kX b_.rc;dsimp only;rw[bb];by_cases cR:S.1.rK c.a (bV a) (bV C)=true
  ·have D:=rK.1 cR;rw[cR,ao D,aq rfl];by_cases u:24<=S.2.rg.length+S.2.wt.length
   ·refine⟨by unfold g5;rw[a8 u,aq u];rfl,m,Y,?_⟩
    rw[aq u,aq u,ao Z];exact h
   ·refine⟨by unfold g5;rw[aZ u,ao u];rfl,m,Y,?_⟩
    rw[ao u,ao u,aq rfl];have P:¬S.2.th (bV a)<0:=fun d=>D (ap d)
    have E:¬S.2.gd (bV C)<0:=fun d=>D (an d)
    have p:(S.2.rs.getD (bV a) (0,0)).1=3:=by
     unfold b_.th at P;split at P
     ·assumption
     ·exact absurd Z P
    have be:S.2.th (bV a)=(S.2.rs.getD (bV a) (0,0)).2:=by unfold b_.th;rw[aq p]
    have F:¬S.2.th (bV C)<0:=fun d=>E (by unfold b_.gd;rw[aq d];decide)
    have n:(S.2.rs.getD (bV C) (0,0)).1=3:=by
     unfold b_.th at F;split at F
     ·assumption
     ·exact absurd Z F
    have U:S.2.th (bV C)=(S.2.rs.getD (bV C) (0,0)).2:=by unfold b_.th;rw[aq n]
    have k5:(S.2.T.getD (S.2.rs.getD (bV C) (0,0)).2.toNat t0).1=5:=by
     unfold b_.gd at E;rw[ao F,U] at E;split at E
     ·assumption
     ·exact absurd Z E
    have bg:S.2.gd (bV C)=(S.2.rs.getD (bV C) (0,0)).2:=by unfold b_.gd;rw[ao F,U];exact aq k5
    rw[be,bg];have bi:gI S.2.T ((S.2.rs.getD (bV C) (0,0)).2,(S.2.rs.getD (bV a) (0,0)).2):=⟨(t.t n).1,(t.t n).2,k5,(g.t p).1,(g.t p).2⟩
    have j:=h.beside (r:=S.2.rg++[((S.2.rs.getD (bV C) (0,0)).2,(S.2.rs.getD (bV a) (0,0)).2)]) (q:=S.2.wt) (fun e he=>by
     rcases List.mem_append.1 he with d|d
     ·exact h.gv e d
     ·rw[List.mem_singleton.1 d];exact bi) h.de
    have s:(S.2.rg++[((S.2.rs.getD (bV C) (0,0)).2,(S.2.rs.getD (bV a) (0,0)).2)]).map (we m)=S.1.r++[(S.1.s.rs.getD (bV C) 0,S.1.s.rs.getD (bV a) 0)]:=by rw[bc,<-h.rg,er,J,fW p,fW n];rfl
    rw[s,<-h.wt] at j;exact j
  ·have D:S.2.th (bV a)<0\/S.2.gd (bV C)<0:=Classical.not_not.1 (fun d=>cR (rK.2 d))
   have bl:S.1.rK c.a (bV a) (bV C)=false:=by simpa using cR
   rw[bl,aq D];refine⟨rfl,m,Y,?_⟩
   rw[ao V,ao Z];exact h
 rw[ao L,ao L];exact⟨rfl,m,Y,h⟩
theorem cj.start (a:Wc)(n o:Nat):cj a (e0 n o).1 (e0 n o).2 (fun _=>0) [] []:=by
 have no:∀i,¬cv (e0 n o).2.T i:=fun i hi=>absurd hi.1 (Nat.not_lt_zero i)
 have f:∀x∈(e0 n o).1.s.rs,cI x=true->bQ x∈([]:List Int)\/bQ x∈([]:List Int):=fun x d ha=>by
  have d:x∈tw 2 12:=d;have e:x=2:=by simpa[tw] using d
  rw[e,qj] at ha;cases ha
 exact
 {
  kv:=⟨⟨dS.start,f,fun v b=>(by rcases b with c|c<;>cases c)⟩,fun v b=>(by cases b)⟩
  rl:=by simp[e0],rv:=fun v b=>by rw[List.eq_of_mem_replicate b];exact d4.nil _
  fv:=fun i hi=>absurd hi (no i),rs:=by show tw 2 12=(List.replicate 12 ((0,0):Int×Int)).map (wv fun _=>0);decide
  gp:=fun i hi=>absurd hi (no i),old:=fun i hi=>absurd hi (no i),inj:=fun i _ hi=>absurd hi (no i)
  e8:=fun v b=>by rcases b with c|c<;>cases c
  hd:=fun i hi=>absurd hi (no i),fd:=fun i hi=>absurd hi (no i),rg:=rfl,gv:=fun e he=>(by cases he),wt:=rfl,de:=fun e he=>(by cases he)
  tl:=fun i=>by simp[e0,t0]}
structure lU {σ:Type}(lk:σ->bN->Bool×σ)(g:List Bool->List Bool)(pe:bN->bN)(R:List bN)(ρ:σ->List Bool->List bN->Prop):Prop where
 no:∀t L C e,ρ t L C->e∈R->cn L e.1=false->lk t (pe e)=(false,t)
 yes:∀t L C e,ρ t L C->e∈R->cn L e.1=true->(lk t (pe e)).1=true/\ρ (lk t (pe e)).2 (dp g L e.2) (C++[e])
section
variable {σ:Type}{lk:σ->bN->Bool×σ}{g:List Bool->List Bool}{pe:bN->bN}{R:List bN}{ρ:σ->List Bool->List bN->Prop}
theorem lU.pass (h:lU lk g pe R ρ):∀(l:List bN)(t:σ)(L:List Bool)(C D a:List bN),(∀e∈l,e∈R)->ρ t L C->
 ρ ((l.map pe).foldl (ec lk) (a,D.map pe,t)).2.2 (bY.pass cn (dp g) l L C D).1 (bY.pass cn (dp g) l L C D).2.1/\((l.map pe).foldl (ec lk) (a,D.map pe,t)).2.1=(bY.pass cn (dp g) l L C D).2.2.map pe/\
 ((l.map pe).foldl (ec lk) (a,D.map pe,t)).1.length+C.length=a.length+(bY.pass cn (dp g) l L C D).2.1.length
 |[],t,L,C,D,a,_,b=>⟨b,rfl,rfl⟩
 |e::l,t,L,C,D,a,hl,b=>by
  have he:=hl e V;rw[List.map_cons,aI];cases c:cn L e.1
  ·have d:ec lk (a,D.map pe,t) (pe e)=(a,(D++[e]).map pe,t):=by unfold ec;rw[h.no t L C e b he c,bc];rfl
   rw[d,bY.pass,c,ao V];exact h.pass l t L C (D++[e]) a (fun x f=>hl x (ay _ f)) b
  ·obtain⟨y1,i⟩:=h.yes t L C e b he c;have d:ec lk (a,D.map pe,t) (pe e)=(a++[pe e],D.map pe,(lk t (pe e)).2):=by unfold ec;rw[aq y1]
   rw[d,bY.pass,c,aq rfl];obtain⟨j,k,m⟩:=h.pass l (lk t (pe e)).2 (dp g L e.2) (C++[e]) D (a++[pe e]) (fun x f=>hl x (ay _ f)) i;refine⟨j,k,?_⟩
   simp only [List.length_append,List.length_cons,List.length_nil] at m;omega
theorem qr {σ:Type}(is:σ->Int->Bool)(kp:σ->Int->σ)(e:bN):∀(l:List bN)(s:σ)(C D:List bN),e∈(bY.pass is kp l s C D).2.2->e∈D\/e∈l
 |[],_,_,_,h=>ap h
 |x::l,s,C,D,h=>by
  rw[bY.pass] at h;split at h
  ·exact(qr is kp e l _ _ _ h).imp id (ay _)
  ·rcases qr is kp e l _ _ _ h with a|a
   ·rcases List.mem_append.1 a with a|a
    ·exact ap a
    ·exact an (by rw[List.mem_singleton.1 a];simp)
   ·exact an (ay _ a)
theorem Bk {σ:Type}(is:σ->Int->Bool)(kp:σ->Int->σ)(l:List bN)(s:σ)(C:List bN)(e:bN)(h:e∈(bY.pass is kp l s C []).2.2):e∈l:=
 (qr is kp e l s C [] h).resolve_left V
theorem lU.turns (h:lU lk g pe R ρ):∀(n:Nat)(D:List bN)(t:σ)(L:List Bool)(C:List bN),(∀e∈D,e∈R)->ρ t L C->
 ρ (eu lk n t (D.map pe)).1 (bY.turns cn (dp g) n D L C).1 (bY.turns cn (dp g) n D L C).2.1/\(eu lk n t (D.map pe)).2=(bY.turns cn (dp g) n D L C).2.2.map pe
 |0,D,t,L,C,_,d=>⟨d,rfl⟩
 |n+1,D,t,L,C,hD,d=>by
  obtain⟨a,b,f⟩:=h.pass D t L C [] [] hD d;have a:ρ (pts lk t (D.map pe)).2.2 (bY.pass cn (dp g) D L C []).1 (bY.pass cn (dp g) D L C []).2.1:=a;have b:(pts lk t (D.map pe)).2.1=(bY.pass cn (dp g) D L C []).2.2.map pe:=b;have f:(pts lk t (D.map pe)).1.length+C.length=0+(bY.pass cn (dp g) D L C []).2.1.length:=f;by_cases c:(pts lk t (D.map pe)).1.length=0
  ·rw[lA _ _ _ _ c,qM I];exact⟨a,b⟩
  ·rw[lB _ _ _ _ c,qL I,b];exact h.turns n _ _ _ _ (fun e he=>hD e (Bk _ _ D L C e he)) a
end
theorem qs {b:Type}(lk:b->bN->Bool×b):∀(n k:Nat)(t:b)(a:List bN),a.length<n->a.length<k->eu lk n t a=eu lk k t a
 |0,_,_,_,h,_=>absurd h I
 |_+1,0,_,_,_,h=>absurd h I
 |n+1,k+1,t,a,d,e=>by
  have hl:=l6 lk t a;by_cases c:(pts lk t a).1.length=0
  ·rw[lA _ _ _ _ c,lA _ _ _ _ c]
  ·rw[lB _ _ _ _ c,lB _ _ _ _ c];exact qs lk n k _ _ I I
theorem jJ {a b:Type}(f:a->b)(p:b->Bool)(q:a->Bool):∀l:List a,(∀x∈l,p (f x)=q x)->(l.map f).filter p=(l.filter q).map f
 |[],_=>rfl
 |x::l,h=>by
  have d:=jJ f p q l (fun y hy=>h y (ay _ hy))
  have e:=h x V;rw[List.map_cons];cases c:q x
  ·rw[List.filter_cons_of_neg (by rw[e,c];simp),List.filter_cons_of_neg (by rw[c];simp),d]
  ·rw[List.filter_cons_of_pos (by rw[e,c]),List.filter_cons_of_pos c,List.map_cons,d]
section
variable {a:Wc}{S:bZ}{W:b_}{m:Nat->Int}{Y G:List Int}
theorem cj.qt (h:cj a S W m Y G)(d:W.T.length<=10000)(f:W.rg.length<=1000)(b:W.wt.length<=1000):iJ W:=
 {
  iv:=⟨fun i hi hk=>by have:=lY _ _ (h.hd i hi).1;omega,fun i hi v c b=>(h.fv i hi v c).t b,fun e he=>⟨(h.de e he).h0,(h.de e he).h⟩,h.tl⟩
  rv:=fun v c b=>(h.rv v c).t b
  gv:=fun e he=>⟨⟨(h.gv e he).g0,(h.gv e he).g⟩,(h.gv e he).h0,(h.gv e he).h⟩
  wg:=fun e he=>⟨(h.de e he).g0,(h.de e he).g⟩
  tl:=d,gl:=f,wl:=b}
theorem cj.iv (h:cj a S W m Y G):gX W.T W.wt:=
 ⟨fun i hi hk=>by have:=lY _ _ (h.hd i hi).1;omega,fun i hi v b c=>(h.fv i hi v b).t c,fun e he=>⟨(h.de e he).h0,(h.de e he).h⟩,h.tl⟩
theorem cj.first (h:cj a S W m Y G)(c:Bool):fp W.T (iG W.T W.rs c):=
 ⟨ni _ _ _,fun k hk=>by
  obtain⟨d,b⟩:=(kB _ _ _ _).1 hk;rcases b with⟨_,b,_⟩|⟨v,f,g,e⟩
  ·exact⟨d,b⟩
  ·rw[<-e];exact((h.rv v f).t g).2⟩
theorem cj.field (h:cj a S W m Y G){i:Nat}(hi:cv W.T i){v:Int×Int}(c:v∈(W.T.getD i t0).2.1):∃k:Nat,k<(W.T.getD i t0).2.1.length/\(W.T.getD i t0).2.1.getD k (0,0)=v/\ld a.N S.s.y S.s.g S.s.ws (m i+1+k)=wv m v:=by
 obtain⟨k,hk,e⟩:=List.mem_iff_getElem.1 c;have b:(W.T.getD i t0).2.1.getD k (0,0)=v:=by rw[aj,am hk,e];rfl
 exact⟨k,hk,b,by rw[h.fd i hi k hk,b]⟩
theorem cj.two (h:cj a S W m Y G){i:Nat}(hi:cv W.T i)(hk:(W.T.getD i t0).1=1\/(W.T.getD i t0).1=3\/(W.T.getD i t0).1=4):(W.T.getD i t0).2.1.length=2:=by have:=lY _ _ (h.hd i hi).1;omega
end
structure jf (k:bP)(z:C0)(C:Int->Prop):Prop where
 old:∀b∈z.G,C b
 p:∀c,(c∈k.T\/c∈z.G)->C c->pk (k.l0 z c)=1\/pk (k.l0 z c)=2->∀i:Nat,(i:Int)<pf (k.l0 z c)->k.cq (k.l0 z (c+1+i))=true->C (bQ (k.l0 z (c+1+i)))
 w:∀c,(c∈k.T\/c∈z.G)->C c->pk (k.l0 z c)=3->k.cq (k.l0 z (c+1+1))=true->C (bQ (k.l0 z (c+1+1)))
 e:∀c,(c∈k.T\/c∈z.G)->C c->pk (k.l0 z c)=4->(k.cq (k.l0 z (c+1+0))=true->C (bQ (k.l0 z (c+1+0))))->k.cq (k.l0 z (c+1+1))=true->C (bQ (k.l0 z (c+1+1)))
def jg (k:bP)(C:Int->Prop)(q:List bN):Prop:=∀e∈q,(k.cq e.1=true->C (bQ e.1))->k.cq e.2=true->C (bQ e.2)
def cQ (k:bP)(C:Int->Prop)(s:bU):Prop:=∀a∈k.T,s.f a≠-1->C a
section
variable {k:bP}{z:C0}{s t:bU}{H D:List Int}{C:Int->Prop}
theorem k_ {x:Int}(h:k.cq x=true):bQ x∈k.T:=by unfold bP.cq at h;simp at h;exact h.2
theorem kh {x:Int}(h:k.ls s x=true):k.cq x=true:=by unfold bP.ls at h;rw[aQ] at h;exact h.1
theorem cQ.br (h:cQ k C s)(x:Int)(d:k.cq x=true->C (bQ x)):cQ k C (k.br s x).2:=by
 unfold bP.br;split
 ·rename_i c;intro b f a;by_cases e:b=bQ x
  ·rw[e];exact d (kh c)
  ·refine h b f ?_;have g:(k.cp s (bQ x)).f b=s.f b:=by unfold bP.cp fe;dsimp only;rw[ao e]
   have a:(k.cp s (bQ x)).f b≠-1:=a;rw[g] at a;exact a
 ·exact h
theorem di.ox (h:di k z s H){a b i:Int}(c:k.or z s a b)(d:0<=i)(f:i<pf (k.l0 z a))(hl:k.cq (k.ld s (b+1+i))=true):k.ld s (b+1+i)=k.l0 z (a+1+i):=by
 rcases h.fd a b c i d f with e|⟨y1,g,j⟩
 ·exact e
 ·exfalso;have l:=h.hu (h.fh _ (k_ y1) g)
  have n1:=h.ci.hN';have m:=h.ci.hO;have n:=h.ci.hg;rw[j,kU h.ci l.1 I] at hl;cases hl
theorem cQ.kf (h:cQ k C s)(mi:di k z s H){a b i:Int}(c:k.or z s a b)(d:0<=i)(f:i<pf (k.l0 z a))(g:k.cq (k.l0 z (a+1+i))=true->C (bQ (k.l0 z (a+1+i)))):cQ k C (k.kf s (b+1+i)):=
 h.br (k.ld s (b+1+i)) (fun hy=>by have e:=mi.ox c d f hy;rw[e] at hy;rw[e];exact g hy)
theorem cQ.eW (h:cQ k C s)(mi:di k z s H){a b:Int}(c:k.or z s a b)(d:∀i:Nat,(i:Int)<pf (k.l0 z a)->k.cq (k.l0 z (a+1+i))=true->C (bQ (k.l0 z (a+1+i)))):∀n:Nat,(n:Int)<=pf (k.l0 z a)->cQ k C (k.eW s b n)
 |0,_=>h
 |n+1,f=>by obtain⟨g,m1,e,_⟩:=mi.eW c n I;exact(cQ.eW h mi c d n I).kf m1 (e.or c) (i:=n) I I (d n I)
theorem qu {a b:Int}(c:k.or z s a b):a∈k.T\/a∈z.G:=by
 rcases c with⟨e,h⟩|⟨h,_⟩
 ·rw[e];exact an h
 ·exact ap h
theorem cQ.or (h:cQ k C s)(d:jf k z C){a b:Int}(f:k.or z s a b):C a:=by
 rcases f with⟨e,c⟩|⟨c,g,i⟩
 ·rw[e];exact d.old b c
 ·exact h a c (by rw[g];exact i)
theorem cQ.lk (h:cQ k C s)(mi:di k z s H)(g:jf k z C){a b:Int}(c:k.or z s a b):cQ k C (k.lk s b):=by
 have ha:=h.or g c;have hm:=qu c;have d:=mi.hd a b c;have l:=mi.bd (mi.mem c)
 have p:=cU (k.ld s b)
 unfold bP.lk;by_cases c1:pk (k.ld s b)=1\/pk (k.ld s b)=2
 ·rw[aq c1];exact h.eW mi c (g.p a hm ha (by rw[<-d];exact c1)) _ (by rw[<-d];omega)
 ·rw[ao c1];by_cases e:pk (k.ld s b)=3
  ·rw[aq e];have q:=fV l.2.2 (an (ap e))
   have hN:=mi.ci.hN';have hO:=mi.ci.hO;have hg:=mi.ci.hg;have m:=mi.turn (s.wk++[b]) s.ep s.rs s.nx (fun x n=>by
    rcases List.mem_append.1 n with f|f
    ·exact mi.ci.gN x f
    ·rw[a7] at f;subst f;omega) mi.ci.gD mi.ci.f5 mi.ci.gC
   have o:cQ k C {s with wk:=s.wk++[b],ep:=s.ep,rs:=s.rs,nx:=s.nx}:=h;have j:=o.kf (a:=a) (b:=b) (i:=1) m c I (by rw[<-d];omega) (g.w a hm ha (by rw[<-d];exact e))
   have ea:b+1+1=b+2:=I;rw[ea] at j;exact j
  ·rw[ao e];split
   ·exact h
   ·exact h
theorem cQ.lb (b:jf k z C):∀(n:Nat){s:bU}{H:List Int},LI k z s H D->cQ k C s->cQ k C (k.lb n s)
 |0,_,_,_,h=>h
 |n+1,s,H,l,h=>by
  unfold bP.lb;cases hn:hB k.N s.g s.nx
  ·rw[ao V];exact h
  ·rw[aq rfl];have f:=hR hn;have c:s.nx∈H:=l.bo.resolve_right I;obtain⟨a,d⟩:=l.mi.from (aS z.G c)
   obtain⟨g,m1,_,_⟩:=l.i4 hn;have e:cQ k C (k.lk s s.nx):=h.lk l.mi b d;exact cQ.lb b n m1 e
theorem cQ.key (h:cQ k C s)(mi:di k z s H){a b:Int}(c:k.or z s a b)(d:0<pf (k.l0 z a))(hl:k.ls s (k.ld s (b+1))=false)(hy:k.cq (k.l0 z (a+1+0))=true):C (bQ (k.l0 z (a+1+0))):=by
 refine h _ (k_ hy) ?_;have f:b+1+0=b+1:=I;rcases mi.fd a b c 0 I d with e|⟨y1,g,_⟩
 ·rw[f] at e;intro i;unfold bP.ls at hl;rw[e,hy,i] at hl;simp at hl
 ·exact g
theorem cQ.n9 (h:cQ k C s)(l:LI k z s H D)(d:jf k z C){b:Int}(e:b∈z.G++H)(f:pk (k.ld s b)=4)(g:k.ls s (k.ld s (b+1))=false):cQ k C (k.kf (k.kf s (b+1)) (b+2)):=by
 obtain⟨a,o⟩:=l.mi.from e;have m:=l.mi.bd e;have u:=fV m.2.2 (an (an f))
 have c:=l.mi.hd a b o;have n:b+1+0=b+1:=I;have p:b+1+1=b+2:=I;obtain⟨v,m1,q,_,_⟩:=l.mi.kf (i:=0) o I (by rw[<-c];omega)
 have t:=h.kf (i:=0) l.mi o I (by rw[<-c];omega) (h.key l.mi o (by rw[<-c];omega) g)
 have j:=t.kf (i:=1) m1 (q.or o) I (by rw[<-c];omega) (d.e a (qu o) (h.or d o) (by rw[<-c];exact f) (h.key l.mi o (by rw[<-c];omega) g))
 rw[n,p] at j;exact j
theorem cQ.gE (c:jf k z C):∀(l left:List Int){s:bU}{H:List Int},LI k z s H D->(∀a∈l,a∈z.G++H/\pk (k.ld s a)=4)->cQ k C s->cQ k C (l.foldl k.cr (left,s)).2
 |[],_,_,_,_,_,h=>h
 |b::l,left,s,H,li,hl,h=>by
  rw[aI];cases hls:k.ls s (k.ld s (b+1))
  ·have d:k.cr (left,s) b=(left,k.kf (k.kf s (b+1)) (b+2)):=by unfold bP.cr;rw[ao (by rw[hls];simp)]
   rw[d];obtain⟨e,f⟩:=hl b V;obtain⟨m,m1,g,i,n,o⟩:=li.n9 e f;exact cQ.gE c l left m1 (fun a ha=>by
    obtain⟨n1,j⟩:=hl a (ay _ ha)
    exact⟨jb i n1,by rw[g.hd li.mi m1.mi n1];exact j⟩) (h.n9 li c e f hls)
  ·have d:k.cr (left,s) b=(left++[b],s):=by unfold bP.cr;rw[aq hls]
   rw[d];exact cQ.gE c l (left++[b]) li (fun a ha=>hl a (ay _ ha)) h
theorem cQ.kv (a:jf k z C)(l:LI k z s H D)(w:dJ k z s H)(h:cQ k C s):cQ k C (k.kv s).2:=cQ.gE a s.ep [] l w.ep h
theorem cQ.iR:∀(l:List Nat)(t:(bU×List bN)×Bool)(H:List Int),LI k z t.1.1 H D->dJ k z t.1.1 H->(∀i∈l,i<t.1.2.length)->jg k C t.1.2->cQ k C t.1.1->cQ k C (l.foldl (dt k.al k.br) t).1.1/\jg k C (l.foldl (dt k.al k.br) t).1.2
 |[],_,_,_,_,_,q,h=>⟨h,q⟩
 |i::l,t,H,li,w,hl,q,h=>by
  rw[aI];by_cases c:(k.al t.1.1 (t.1.2.getD i (0,0)).2||!k.al t.1.1 (t.1.2.getD i (0,0)).1)=true
  ·have a:dt k.al k.br t i=t:=by unfold dt;rw[aq c]
   rw[a];exact cQ.iR l t H li w (fun j b=>hl j (ay _ b)) q h
  ·have a:dt k.al k.br t i=(((k.br t.1.1 (t.1.2.getD i (0,0)).2).2,t.1.2.set i ((t.1.2.getD i (0,0)).1,(k.br t.1.1 (t.1.2.getD i (0,0)).2).1)),true):=by unfold dt;rw[ao c]
   have hi:=hl i V;have hm:t.1.2.getD i (0,0)∈t.1.2:=getD_in hi;obtain⟨e,l1,w1,f,_⟩:=cP.br (k:=k) (z:=z) (D:=D) (s:=t.1.1) (t.1.2.getD i (0,0)).2 H li w;obtain⟨_,_,_,y1,_,_,_⟩:=li.mi.br (t.1.2.getD i (0,0)).2;have c2:k.al t.1.1 (t.1.2.getD i (0,0)).1=true:=by
    cases d:k.al t.1.1 (t.1.2.getD i (0,0)).1
    ·rw[d] at c;simp at c
    ·rfl
   have hg:k.cq (t.1.2.getD i (0,0)).1=true->C (bQ (t.1.2.getD i (0,0)).1):=fun hy=>h _ (k_ hy) (fun d=>by unfold bP.al bP.ls at c2;rw[hy,d] at c2;simp at c2)
   rw[a];refine cQ.iR l _ e l1 w1 (fun j b=>?_) ?_ (h.br _ (q _ hm hg))
   ·show j<(t.1.2.set i _).length;rw[aM];exact hl j (ay _ b)
   ·intro d hd;have hd:d∈t.1.2.set i ((t.1.2.getD i (0,0)).1,(k.br t.1.1 (t.1.2.getD i (0,0)).2).1):=hd;rcases List.mem_or_eq_of_mem_set hd with hd|rfl
    ·exact q d hd
    ·intro _ hy;rw[y1] at hy;cases hy
theorem cQ.wa {t:bU×List bN}(l:LI k z t.1 H D)(w:dJ k z t.1 H)(q:jg k C t.2)(h:cQ k C t.1):cQ k C (k.wa t).1.1/\jg k C (k.wa t).1.2:=
 cQ.iR (List.range t.2.length) (t,false) H l w (fun _ hi=>List.mem_range.1 hi) q h
theorem cQ.cK (a:jf k z C):∀(n:Nat)(t:bU×List bN)(H:List Int),LI k z t.1 H D->dJ k z t.1 H->jg k C t.2->cQ k C t.1->cQ k C (k.cK n t).1/\jg k C (k.cK n t).2
 |0,_,_,_,_,q,h=>⟨h,q⟩
 |n+1,t,H,l,w,q,h=>by
  obtain⟨f,l1,w1,m,_⟩:=cP.lb (k:=k) (z:=z) (D:=D) (s:=t.1) (k.O+1) H l w;obtain⟨c,l2,b,o,_⟩:=cP.kv (k:=k) (z:=z) (D:=D) (s:=k.lb (k.O+1) t.1) f l1 w1;have g:=cQ.lb a (k.O+1) l h;have d:=cQ.kv a l1 w1 g;obtain⟨i,j,w3,_,_⟩:=cP.wa (k:=k) (z:=z) (D:=D) ((k.kv (k.lb (k.O+1) t.1)).2,t.2) c l2 b;obtain⟨e,q3⟩:=cQ.wa (t:=((k.kv (k.lb (k.O+1) t.1)).2,t.2)) l2 b q d;unfold bP.cK;split
  ·exact cQ.cK a n ((k.kv (k.lb (k.O+1) t.1)).2,t.2) c l2 b q d
  ·split
   ·exact cQ.cK a n _ i j w3 q3 e
   ·exact⟨e,q3⟩
theorem cQ.ke (a:jf k z C){t:bU×List bN}(l:LI k z t.1 H D)(w:dJ k z t.1 H)(q:jg k C t.2)(h:cQ k C t.1)(x:Int)(b:k.cq x=true->C (bQ x)):cQ k C (k.ke t x).2.1/\jg k C (k.ke t x).2.2:=by obtain⟨c,l1,w1,_,_⟩:=cP.br (k:=k) (z:=z) (D:=D) (s:=t.1) x H l w;exact cQ.cK a _ ((k.br t.1 x).2,t.2) c l1 w1 q (h.br x b)
theorem cQ.cg (l:LI k z s H D)(h:cQ k C s)(a:∀i,i<s.rs.length->k.cq (s.rs.getD i 0)=true->C (bQ (s.rs.getD i 0))):∀n,n<=s.rs.length->cQ k C (k.cg s n)
 |0,_=>h
 |n+1,c=>by
  obtain⟨_,_,_,_,_,_,b,_⟩:=LI.cg l n I;have e:=b n bJ
  have:=(cQ.cg l h a n I).br ((k.cg s n).rs.getD n 0) (by rw[e];exact a n I)
  exact this
theorem cQ.lm (f:jf k z C)(c:Int)(M:List Int)(hz:dK (k.l0 z) ((k.N:Int)+z.g) k.N z.G):∀(l:List Int){s:bU}{H D:List Int},LI k z s H D->(∀a∈l,a∈z.G\/(k.N:Int)+z.g<=a)->cQ k C s->cQ k C (l.foldl (k.ff ((k.N:Int)+z.g) c M) s)
 |[],_,_,_,_,_,h=>h
 |b::l,s,H,D,li,hl,h=>by
  rw[aI];have m:=cU (k.ld s b)
  by_cases d:b∈z.G/\(fS k.N c b&&M.contains (cN k.N b))=true
  ·have j:=li.mi.hd b b (ap ⟨rfl,d.1⟩)
   have n:=(hz.mem b d.1).2.1;have g:k.ff ((k.N:Int)+z.g) c M s b=k.lk s b:=by unfold bP.ff;rw[aq (by rw[j];omega),aq d.2]
   rw[g];obtain⟨o,m1,p,⟨q,t⟩⟩:=li.lk d.1;exact cQ.lm f c M hz l m1 (fun a ha=>hl a (ay _ ha)) (h.lk li.mi f (a:=b) (b:=b) (ap ⟨rfl,d.1⟩))
  ·have g:k.ff ((k.N:Int)+z.g) c M s b=s:=by
    unfold bP.ff;by_cases i:b∈z.G
    ·split
     ·rw[ao (fun e=>d ⟨i,e⟩)]
     ·rfl
    ·have:=(hl b V).resolve_left i;rw[ao I]
   rw[g];exact cQ.lm f c M hz l li (fun a ha=>hl a (ay _ ha)) h
end
end Go.Proofs.YtjpjpjemibgjpaaGreat
