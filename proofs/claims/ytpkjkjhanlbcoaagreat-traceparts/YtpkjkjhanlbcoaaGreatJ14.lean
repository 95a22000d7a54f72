import Derived.Test.YtpkjkjhanlbcoaaGreatJ13
namespace Go.Proofs.YtpkjkjhanlbcoaaGreat
set_option maxRecDepth 100000
set_option maxHeartbeats 1000000
open Tryz
open Go.RowKit W Kp ck
theorem zI {P:Prop}(h:P:=by
 have q0:(S.k5 a).cX (S.cJ a) x=(S.s.j0 a).cX (S.cJ a) x:=by unfold cf.cX cf.jt;rw[zJ]
 unfold cf.al;rw[q0];cases hj:(S.s.j0 a).jt x
 ·unfold cf.cX;rw[hj];rfl
 ·have hmem:=ow hj;rw[l3] at hmem;have q:=g.iff _ hmem;unfold cf.cX;by_cases c:(S.cH a).f (cq x)=-1
  ·rw[c,q.2 c]
  ·rw[beq_false_of_ne c,beq_false_of_ne (fun d=>c (q.1 d))]):P:=h
theorem zK {P:Prop}(h:P:=by
 have:(fun e:ce=>((S.s.j0 a).nw (S.cH a) e.1,(S.s.j0 a).nw (S.cH a) e.2))=id:=by
  funext e
  rw[d1.j9.nw,d1.j9.nw];rfl
 rw[this,List.map_id]):P:=h
theorem Pos.same {z g:Int->Int}{al i:Int->Bool}{f j:Int->Int}:∀{l:List Int}{n m:Int},(∀a∈l,z a=g a/\al a=i a/\f a=j a)->Pos z al f n l m->Pos g i j n l m
 |[],n,m,_,h=>h
 |a::l,n,m,he,h=>by
  obtain⟨q,k,o⟩:=he a ac;have p:∀{n m:Int},Pos z al f n l m->_:=fun h=>Pos.same (fun b hb=>he b (aX _ hb)) h;refine⟨fun c=>?_,fun c=>?_⟩
  ·obtain⟨d,e⟩:=h.1 (by rw[k];exact c)
   rw[<-o,<-q];exact⟨d,p e⟩
  ·obtain⟨d,e⟩:=h.2 (by rw[k];exact c)
   rw[<-o];exact⟨d,p e⟩
structure mz (a:Wc)(s:ej)(T:List Int)(j:cy)(s':ej):Prop where
 y:s'.y=0
 M:s'.M=[]
 rl:s'.rs.length=12
 g:s'.g<=a.O
 l:s'.ws.length=a.N+a.O
 pos:Pos (fun c=>pf (ld a.N s.y s.g s.ws c)) (fun c=>!(j.f c==-1)) j.f a.N T (a.N+s'.g)
 rs:∀i,i<12->s'.rs.getD i 0=(s.j0 a).nw j (s.rs.getD i 0)
 hd:∀c∈T,j.f c≠-1->ld a.N 0 s'.g s'.ws (j.f c)=ld a.N s.y s.g s.ws c
 fd:∀c∈T,j.f c≠-1->∀i,0<=i->i<pf (ld a.N s.y s.g s.ws c)->ld a.N 0 s'.g s'.ws (j.f c+1+i)=(s.j0 a).nw j ((s.j0 a).iA j c i)
section
variable {a:Wc}{s:ej}{Y G:List Int}
theorem k3 (h:ec a.N s.y s.g s.ws Y G)(hb:cM a s):(s.j0 a).Y=Y/\(s.j0 a).G=G/\(s.j0 a).T=G++Y:=by
 have c:(s.j0 a).Y=Y:=by show em _ _=Y;rw[(h.lists hb.n1 hb.y1 hb.o1 hb.g1).1];exact qO (fun x b=>bB (by have:=(h.ty.mem x b).2.1;omega))
 have d:(s.j0 a).G=G:=by show em _ _=G;rw[(h.lists hb.n1 hb.y1 hb.o1 hb.g1).2];exact qO (fun x b=>bB (by have:=(h.es.mem x b).2.1;omega))
 exact⟨c,d,by unfold cf.T;rw[c,d]⟩
theorem oD (h:ec a.N s.y s.g s.ws Y G)(hb:cM a s):∀c∈(s.j0 a).T,kZ (s.j0 a) c:=fun c hc=>by
 obtain⟨l,m,f⟩:=k3 h hb;rw[f] at hc;rcases List.mem_append.1 hc with d|d
 ·obtain⟨g,j,e⟩:=h.es.mem c d;exact⟨e,fun i k b=>hD (by show(a.N:Int)<=_;omega) (by have b:i<=pf (ld a.N s.y s.g s.ws c):=b;show c+i<(a.N:Int)+s.g;omega)⟩
 ·obtain⟨g,j,e⟩:=h.ty.mem c d;exact⟨e,fun i k b=>iW aa (by have b:i<=pf (ld a.N s.y s.g s.ws c):=b;show c+i<(s.y:Int);omega)⟩
theorem pE (h:ec a.N s.y s.g s.ws Y G)(hb:cM a s):∀c∈(s.j0 a).T,∀b∈(s.j0 a).T,c<b->c+(1+pf ((s.j0 a).ld c))<=b:=fun c hc b hd q=>by
 obtain⟨g,i,d⟩:=k3 h hb;rw[d] at hc hd;show c+(1+pf (ld a.N s.y s.g s.ws c))<=b;have hy:=hb.y1;rcases List.mem_append.1 hc with hc|hc<;>rcases List.mem_append.1 hd with hd|hd
 ·exact h.es.apart c hc b hd q
 ·have e:=(h.es.mem c hc).1;have f:=(h.ty.mem b hd).2.1;have:=dr (ld a.N s.y s.g s.ws b)
  omega
 ·have e:=(h.ty.mem c hc).2.1;have f:=(h.es.mem b hd).1;omega
 ·exact h.ty.apart c hc b hd q
theorem GP (h:ec a.N s.y s.g s.ws Y G)(hb:cM a s)(cH:cy)(hm:((s.j0 a).pl cH).2<=a.N+a.O):
 mz a s (G++Y) ((s.j0 a).pl cH).1 (((s.j0 a).fj ((s.j0 a).pl cH).1).sl ((s.j0 a).pl cH).1).s/\((((s.j0 a).fj ((s.j0 a).pl cH).1).sl ((s.j0 a).pl cH).1).s.g:Int)=((s.j0 a).pl cH).2-a.N/\
 (∀c∈G++Y,((s.j0 a).pl cH).1.f c=-1↔cH.f c=-1)/\(∃F,iL ((s.j0 a).fj ((s.j0 a).pl cH).1) ((s.j0 a).pl cH).1 F/\F 0 ((s.j0 a).fj ((s.j0 a).pl cH).1,0)):=by
 obtain⟨ar,aB,S⟩:=k3 h hb;have ew:=oD h hb;have aF:=pE h hb;have ad:=(c8.start (s:=s) hb.n1 hb.o1 hb.y1 hb.g1).nd;have hz:∀c,0<=(fun c=>pf ((s.j0 a).ld c)) c:=fun c=>(dr _).1;obtain⟨k,hk⟩:∃k,s.j0 a=k:=⟨_,rfl⟩
 have W:k.a=a:=by rw[<-hk];rfl
 have n:k.s=s:=by rw[<-hk];rfl
 have ag:∀x,k.ld x=ld a.N s.y s.g s.ws x:=fun x=>by rw[<-hk];rfl
 have b3:ka k:=⟨by rw[n,W];exact hb.l1,by rw[n,W];exact hb.y1,by rw[n,W];exact hb.g1⟩
 obtain⟨o,_,_,_⟩:=pv (s.j0 a) (fun c=>!(cH.f c==-1)) (s.j0 a).T (cH,a.N) ad (fun c _=>rfl)
 have o:Pos (fun c=>pf ((s.j0 a).ld c)) (fun c=>!(cH.f c==-1)) ((s.j0 a).pl cH).1.f a.N (s.j0 a).T ((s.j0 a).pl cH).2:=o;rw[hk] at ar aB S ew aF ad hz o hm⊢;obtain⟨j,aR⟩:∃j,(k.pl cH).1=j:=⟨_,rfl⟩
 obtain⟨m,ai⟩:∃m,(k.pl cH).2=m:=⟨_,rfl⟩
 rw[aR,ai] at o;rw[ai] at hm;rw[aR,ai];have t:∀c∈k.T,(!(cH.f c==-1))=!(j.f c==-1):=fun c hc=>by
  cases q:(!(cH.f c==-1))
  ·rw[o.no c hc q];rfl
  ·have:=(o.bd hz c hc q).1;rw[beq_false_of_ne aa];rfl
 have P:=o.same (fun c hc=>⟨rfl,t c hc,rfl⟩)
 have b4:∀c∈k.T,j.f c=-1↔cH.f c=-1:=fun c hc=>by
  have:=t c hc;constructor
  ·intro q;rw[q] at this
   simpa using this
  ·intro q;rw[q] at this
   simpa using this.symm
 obtain⟨aV,a0,t3,a1,a2,f,a3,ba,ab,bb⟩:=py (s:=j) b3 ((n▸hb.r1)) ad ew aF;obtain⟨k5,b5⟩:∃k5,k.fj j=k5:=⟨_,rfl⟩
 rw[b5] at aV a0 t3 a1 a2 f a3 ba ab bb⊢;have bd:∀c∈k.T,pf (k5.ld c)=pf (k.ld c):=fun c hc=>by rw[ab c hc]
 have e:=aV.trans W;have be:=t3.trans aB;have al:∀c,c∈G\/c∈Y->c∈k.T:=fun c hc=>by simp_all
 rw[S] at P;obtain⟨am,b6,b9⟩:=P.app;have bg:Pos (fun c=>pf (k5.ld c)) (fun c=>!(j.f c==-1)) j.f (k5.a.N+(0:Int)) G am:=by rw[e,Int.add_zero];exact b6.same (fun c hc=>⟨(bd c (al c (aM hc))).symm,rfl,rfl⟩)
 have bi:=b9.same (fun c hc=>⟨(bd c (al c (aL hc))).symm,rfl,rfl⟩)
 have bl:∀c,0<=(fun c=>pf (k5.ld c)) c:=fun c=>(dr _).1;have cm:=bi.le bl;have ca:jv k5 (fun c=>!(j.f c==-1)) j.f am [] G (k5,0):=by
  refine⟨kH.refl _,rfl,Int.le_refl _,bg,⟨a.N,?_,by simp_all,fun _ _ _=>rfl⟩,fun _ _ _=>rfl,fun c hc=>by cases hc⟩
  rw[e,a2,n];exact h.es.heads (fun x cb=>by simp_all)
 have bn:∀c∈k5.G,(fun c=>!(j.f c==-1)) c=!(j.f c==-1):=fun _ _=>rfl;have g:=jv.all f.l f.y f.g bn G [] (k5,0) (fun c hc=>(be▸hc)) ca;have an:=g.pos;have bo:k5.lM j k5.G=hJ (fun _ a=>j.f a) (cf.jd j) (k5,0) G:=by unfold cf.lM;rw[be]
 obtain⟨u,cc⟩:∃u,hJ (fun _ a=>j.f a) (cf.jd j) (k5,0) G=u:=⟨_,rfl⟩
 rw[cc] at g an bo;have u0:=g.u0;rw[e] at an;have cd:=f.g;have bp:=f.y;rw[e] at cd bp;obtain⟨k1,br⟩:∃k1,k5.sl1 j=k1:=⟨_,rfl⟩
 have p:k1=u.1.ar u.1.s.y u.2.toNat u.1.s.ws:=by rw[<-br];unfold cf.sl1;rw[bo]
 have g1:(k1.s.g:Int)=u.2:=by rw[p];show(u.2.toNat:Int)=_;omega
 have ao:=g.sm.a;have ap:=g.sm.y;have bs:∀x:Int,(0<=x/\x<k5.s.y)\/((a.N:Int)<=x/\x<a.N+u.2/\x<a.N+k5.s.g)->k1.ld x=u.1.ld x:=fun x cb=>by
  have v:dt u.1.a.N u.1.s.y u.1.s.g x=true:=by rw[ao,ap,g.g,e];exact(ob _ _ _ _).2 aa
  have ce:dt u.1.a.N u.1.s.y u.2.toNat x=true:=by rw[ao,ap,e];exact(ob _ _ _ _).2 aa
  rw[p];show ld u.1.a.N u.1.s.y u.2.toNat u.1.s.ws x=ld u.1.a.N u.1.s.y u.1.s.g u.1.s.ws x;rw[ef v,ef ce]
 obtain⟨b,cg,ch,_⟩:=g.tl;have ci:_=_:=cg;rw[e] at ch ci;have C0:lN k5 (fun c=>!(j.f c==-1)) j.f m G Y k1:=by
  refine⟨⟨(p▸ao),(p▸ap),(p▸g.sm.rs),(p▸g.sm.len)⟩,by rw[e];omega,?_,fun x bt bx=>?_,fun c hc t=>?_⟩
  ·rw[e,g1,an];exact bi
  ·rw[bs x (aM ⟨bt,bx⟩)];exact g.cP x bt bx
  ·obtain⟨r1,b0⟩:=g.rel c hc t;have r3:=(bg.bd bl c hc t).1;rw[e] at r1 r3⊢;refine⟨aa,aa,fun i w v=>?_⟩
   rw[bs _ (aL ⟨aa,aa,aa⟩)];exact b0 i w v
 have l:=lN.all (s:=j) f.l f.y ((e▸hm)) Y G k1 (fun c hc=>by
  have b1:=al c (aL hc)
  obtain⟨q1,cj,q3⟩:=h.ty.mem c hc;rw[ab c b1,ag,a1,n];exact⟨rfl,q1,cj,q3⟩) C0
 obtain⟨d,b2⟩:∃d,k1.pt j Y=d:=⟨_,rfl⟩
 rw[b2] at l;have ck:k5.sl2 j=d:=by unfold cf.sl2;rw[br,(a0.trans ar)];exact b2
 have e6:(k5.sl j).s=⟨0,d.s.g,d.s.ws,[],d.s.rs⟩:=by unfold cf.sl;rw[ck];rfl
 have cn:(a.N:Int)+d.s.g=m:=by
  have:=l.pos;rw[e] at this
  exact this
 have cl:d.s.y<=a.N:=(l.sm.y▸bp)
 have rel:∀c∈G++Y,j.f c≠-1->(a.N:Int)<=j.f c/\∀i,0<=i->i<=pf (k.ld c)->ld a.N 0 d.s.g d.s.ws (j.f c+i)=k5.ld (c+i):=fun c hc B=>by
  have b1:c∈k.T:=by simp_all
  obtain⟨r1,b0,r3⟩:=l.rel c hc (by simp_all)
  rw[e] at r1;refine⟨r1,fun i w v=>?_⟩
  rw[ub (y:=d.s.y) aa cl,<-r3 i w (by simp_all)];show ld a.N d.s.y d.s.g d.s.ws _=ld d.a.N d.s.y d.s.g d.s.ws _;rw[(l.sm.a.trans e)]
 refine⟨?_,?_,fun c hc=>b4 c (by rw[S];exact hc),⟨_,(jv.qW (m:=am) f.l f.y f.g ((e▸hb.n1)) ((e▸hb.o1)) bn (by rw[e];omega)),?_⟩⟩
 ·rw[e6];refine⟨rfl,rfl,?_,?_,?_,?_,fun i hi=>?_,fun c hc B=>?_,fun c hc B i w v=>?_⟩
  ·show d.s.rs.length=12;rw[l.sm.rs];exact a3
  ·show d.s.g<=a.O;omega
  ·show d.s.ws.length=a.N+a.O;rw[l.sm.len,f.l,e]
  ·simp_all
  ·show d.s.rs.getD i 0=_;rw[l.sm.rs,ba i hi,n,hk]
  ·have N:=(rel c hc B).2 0 aa (dr _).1;rw[Int.add_zero,Int.add_zero,ab c ((S▸hc)),ag] at N;exact N
  ·have N:=(rel c hc B).2 (1+i) aa (by rw[ag];omega)
   rw[<-Int.add_assoc,<-Int.add_assoc,bb c (by simp_all) B i w (by simp_all),<-hk] at N;exact N
 ·rw[e6];show(d.s.g:Int)=m-a.N;omega
 ·simp_all
end
open W
theorem GQ {N y g:Nat}{ws Y G:List Int}(h:ec N y g ws Y G)(hy:y<=N)(Q:List ce){c:Int}(hc:c∈Y\/c∈G)(d:pk (ld N y g ws c)≠5):(∀i:Nat,i<(e9 N y g ws Q c).length->(e9 N y g ws Q c).getD i 0=ld N y g ws (c+1+(i:Int)))/\(∀i:Nat,(i:Int)<pf (ld N y g ws c)->ld N y g ws (c+1+(i:Int))∈e9 N y g ws Q c):=by
 have hl:=zj h hy Q hc d;have key:∀i:Nat,i<(e9 N y g ws Q c).length->(e9 N y g ws Q c).getD i 0=ld N y g ws (c+1+(i:Int)):=fun i hi=>by unfold e9 at hi⊢;rw[aI d] at hi⊢;rw[aJ,aN hi];simp
 refine⟨key,fun i hi=>?_⟩
 have b:i<(e9 N y g ws Q c).length:=aa;rw[<-key i b,aJ,aN b];exact a8 b
theorem GR {k:cf}{j:cy}{x:Int}(i:dd x=true->cq x∈k.T/\j.f (cq x)≠-1)(l:∀c∈k.T,j.f c≠-1->0<=j.f c/\j.f c<1000000):lP (fun c=>c∈k.T/\j.f c≠-1) j.f x (k.nw j x)/\(dd (k.nw j x)=true->∃c∈k.T,j.f c≠-1/\cq (k.nw j x)=j.f c):=by
 cases ha:dd x
 ·have e:k.nw j x=x:=by unfold cf.nw cf.jt;rw[ha];rfl
  rw[e];refine⟨aL ⟨fun g=>?_,rfl,rfl⟩,fun g=>?_⟩
  ·rw[GO g] at ha;cases ha
  ·simp_all
 ·obtain⟨b,d⟩:=i ha;have e:k.nw j x=ew 3 (j.f (cq x)):=by unfold cf.nw cf.jt;rw[ha,List.contains_iff_mem.2 b,beq_false_of_ne d];rfl
  obtain⟨m,b1⟩:=l _ b d;obtain⟨n,hn⟩:∃n:Nat,j.f (cq x)=n:=⟨(j.f (cq x)).toNat,aa⟩
  obtain⟨w1,f⟩:=nk n aa;rw[<-hn,<-e] at w1 f;refine⟨aM ⟨ug ha,ug w1,⟨(lW x ha▸b),(lW x ha▸d)⟩,?_⟩,fun _=>⟨cq x,b,d,f⟩⟩
  rw[<-lW x ha,<-lW _ w1];exact f
def cy.lf (j:cy)(T:List Int):List Int:=(T.filter (fun c=>!(j.f c==-1))).map j.f
section
variable {a:Wc}{s s':ej}{Y G:List Int}{j:cy}
theorem mz.bd (g:mz a s (G++Y) j s'):∀c∈G++Y,j.f c≠-1->(a.N:Int)<=j.f c/\j.f c+(1+pf (ld a.N s.y s.g s.ws c))<=a.N+s'.g:=fun c hc b=>g.pos.bd (fun c=>(dr _).1) c hc (by simp_all)
theorem uh {T:List Int}{x:Int}:x∈j.lf T↔∃c∈T,j.f c≠-1/\j.f c=x:=by
 unfold cy.lf;rw[List.mem_map];constructor
 ·rintro⟨c,b,e⟩
  obtain⟨d,f⟩:=List.mem_filter.1 b;exact⟨c,d,by simpa using f,e⟩
 ·rintro⟨c,b,e,d⟩
  exact⟨c,List.mem_filter.2 ⟨b,by simp_all⟩,d⟩
theorem mz.full (g:mz a s (G++Y) j s')(h:ec a.N s.y s.g s.ws Y G):ec a.N 0 s'.g s'.ws [] (j.lf (G++Y)):=by
 refine⟨rfl,g.pos.t7 (fun c=>(dr _).1) (fun c hc d=>?_)⟩
 have e:j.f c≠-1:=by simpa using d
 rw[g.hd c hc e];refine⟨?_,rfl⟩
 rcases List.mem_append.1 hc with b|b
 ·exact(h.es.mem c b).2.2
 ·exact(h.ty.mem c b).2.2
end
theorem zL:dd 2=false:=ae
section
variable {k:cf}{s:cy}
theorem de.nw {X:Int->Prop}(h:de k X s)(x:Int):k.nw s x=x:=by
 unfold cf.nw;split
 ·rename_i c;rw[bv] at c;have b:s.f (cq x)≠-1:=by simpa using c.2
  have ha:dd x=true:=by have q:=c.1;unfold cf.jt at q;rw[bv] at q;exact q.1
  have h0:dc x=0:=by have q:=ha;unfold dd at q;rw[bv] at q;simpa using q.1
  rw[h.self _ (ow c.1) b,lW x ha];have q:=(vV x h0).2;rw[ug ha] at q;exact q
 ·rfl
theorem ui {t:cy×List ce}{r:List ce}(h:∀e∈r,k.al t.1 e.2=true):k.tS t r=t:=by
 have e:r.filter (fun e=>!k.al t.1 e.2)=[]:=by rw[List.filter_eq_nil_iff];intro e he;rw[h e he];simp
 show fE (dU cy) (fun s x=>k.al s.1 x) k.ct t r=t;unfold fE;rw[e];rfl
end
section
variable {a:Wc}{S:cv}{Y G:List Int}
theorem q8 (c:c8 (S.s.j0 a) g6):∀e∈S.r3 a,(S.s.j0 a).al (S.cH a) e.2=true:=by obtain⟨d,f,_⟩:=ox c;intro e he;obtain⟨b,g,i⟩:=List.mem_map.1 he;rw[<-i];show(S.s.j0 a).al (S.cH a) ((S.s.j0 a).nw (S.cH a) b.2)=true;rw[(d.j9.nw b.2)];exact y9 f (List.mem_filter.1 (List.mem_filter.1 g).1).2
structure zM (a:Wc)(s:ej)(T:List Int)(j:cy):Prop where
 rt:∀i,i<12->dd (s.rs.getD i 0)=true->cq (s.rs.getD i 0)∈T/\j.f (cq (s.rs.getD i 0))≠-1
 fd:∀c∈T,j.f c≠-1->∀i,0<=i->i<pf (ld a.N s.y s.g s.ws c)->dd ((s.j0 a).iA j c i)=true->cq ((s.j0 a).iA j c i)∈T/\j.f (cq ((s.j0 a).iA j c i))≠-1
theorem mz.inv {s b:ej}{j:cy}(g:mz a s (G++Y) j b)(h:eE a s Y G)(hb:cM a s)(al:zM a s (G++Y) j):eE a b [] (j.lf (G++Y))/\cM a b:=by
 obtain⟨_,_,f⟩:=k3 h.inv.full hb;have hN:=hb.n1;have hO:=hb.o1;have t:=g.g;have n:∀c∈(s.j0 a).T,j.f c≠-1->0<=j.f c/\j.f c<1000000:=fun c hc o=>by
  rw[f] at hc;have:=g.bd c hc o;have:=dr (ld a.N s.y s.g s.ws c)
  omega
 have key:∀x,(dd x=true->cq x∈G++Y/\j.f (cq x)≠-1)->dd ((s.j0 a).nw j x)=true->cq ((s.j0 a).nw j x)∈j.lf (G++Y):=fun x k ha=>by obtain⟨_,p⟩:=GR (fun ha=>(f▸k ha)) n;obtain⟨c,c1,c2,c3⟩:=p ha;rw[f] at c1;exact uh.2 ⟨c,c1,c2,c3.symm⟩
 refine⟨⟨?_,fun v _ i _ _ _ hy=>by cases hy⟩,⟨hb.n0,hb.n1,hb.o1,(g.y▸a4 _),g.g,g.l,g.rl⟩⟩
 rw[g.y];refine⟨(g.full h.inv.full),fun x k ha=>?_,fun v hv i l d ha=>?_⟩
 ·obtain⟨i,hi,e⟩:=List.mem_iff_getElem.1 k;have q:b.rs.getD i 0=x:=by simp_all
  have m:i<12:=(g.rl▸hi)
  rw[<-q,g.rs i m] at ha⊢;exact aL (key _ (al.rt i m) ha)
 ·obtain⟨c,c1,c2,c3⟩:=uh.1 (hv.resolve_left ac)
  rw[<-c3] at d ha⊢;rw[g.hd c c1 c2] at d;rw[g.fd c c1 c2 i l d] at ha⊢;exact aL (key _ (al.fd c c1 c2 i l d) ha)
structure GS (a:Wc)(S:cv)(Y G:List Int)(j:cy):Prop where
 gc:mz a S.s (G++Y) j (S.dD a).s
 al:zM a S.s (G++Y) j
 g:((S.dD a).s.g:Int)=S.n4 a
 iff:∀c∈G++Y,j.f c=-1↔(S.cH a).f c=-1
 j:S.cJ a=j
theorem mA (h:eE a S.s Y G)(hb:cM a S.s)(s:S.fX a=false):(∃F,iL (S.k5 a) (S.dI a) F/\F 0 (S.k5 a,0))/\GS a S Y G (S.cJ a)/\S.dI a=S.cJ a:=by
 have f:=c8.start hb.n1 hb.o1 hb.y1 hb.g1;obtain⟨g,a0,ab⟩:=ox (S:=S) f;obtain⟨l1,l2,j⟩:=k3 h.inv.full hb;have hm:((S.s.j0 a).pl (S.cH a)).2<=a.N+a.O:=by
  have:=of_decide_eq_false s;unfold cv.n4 at this
  omega
 obtain⟨g1,g2,g3,g4⟩:=GP h.inv.full hb (S.cH a) hm;have ad:((S.s.j0 a).pl (S.cH a)).1=S.cJ a:=rfl;rw[ad] at g1 g2 g3 g4;have e6:(S.s.j0 a).fj (S.cJ a)=S.k5 a:=rfl;rw[e6] at g1 g2 g4;have ag:(S.k5 a).T=(S.s.j0 a).T:=by
  obtain⟨_,t,t3,_⟩:=py ⟨hb.l1,hb.y1,hb.g1⟩ hb.r1 f.nd (oD h.inv.full hb) (pE h.inv.full hb)
  rw[e6] at t t3;unfold cf.T;rw[t,t3]
 have u:∀x,(S.s.j0 a).cX (S.cJ a) x=(S.s.j0 a).cX (S.cH a) x:=fun x=>by
  cases hj:(S.s.j0 a).jt x
  ·unfold cf.cX;rw[hj];rfl
  ·have v:=ow hj;rw[j] at v;have q:=g3 _ v;unfold cf.cX;by_cases c:(S.cH a).f (cq x)=-1
   ·rw[c,q.2 c]
   ·rw[beq_false_of_ne c,beq_false_of_ne (fun ai=>c (q.1 ai))]
 have w:S.dI a=S.cJ a:=by
  have q:(S.k5 a).tS (S.cJ a,S.q3 a) (S.r3 a)=(S.cJ a,S.q3 a):=ui (fun e he=>by
   have q1:=q8 (S:=S) f e he;unfold cf.al at q1⊢;have B:(S.k5 a).cX (S.cJ a) e.2=(S.s.j0 a).cX (S.cJ a) e.2:=by unfold cf.cX cf.jt;rw[ag]
   rw[B,u];exact q1)
  unfold cv.dI;rw[q]
 have al:(S.k5 a).sl (S.cJ a)=S.k6 a:=by unfold cv.k6;rw[w]
 rw[al] at g1 g2;have am:(S.dD a).s=(S.k6 a).s:=by unfold cv.dD;rw[s,aI ac]
 have N:∀x,dd x=true->cq x∈G++Y->(S.s.j0 a).cX (S.cH a) x=false->(S.cJ a).f (cq x)≠-1:=fun x ha hm hj=>by
  have an:(S.s.j0 a).jt x=true:=by unfold cf.jt;rw[ha,j,List.contains_iff_mem.2 hm];rfl
  rw[cf.pu an] at hj;exact fun e=>hj ((g3 _ hm).1 e)
 rw[w];refine⟨g4,⟨by simp_all,⟨fun i hi ha=>?_,fun c hc ao i k l ha=>?_⟩,(am▸g2),g3,rfl⟩,rfl⟩
 ·have ap:S.s.rs.getD i 0∈S.s.rs:=by rw[aJ,aN ((hb.r1▸hi))];exact a8 _
  have b:=List.mem_append.2 (h.inv.rt _ ap ha).symm;exact⟨b,N _ ha b (ab i hi)⟩
 ·have m:pc (ld a.N S.s.y S.s.g S.s.ws c)=0:=(oD h.inv.full hb c ((j▸hc))).c;have ar:c∈(S.s.j0 a).T:=by simp_all
  have aF:_:=fun e=>ao ((g3 c hc).2 e)
  have hM:nh (S.s.j0 a) (S.cH a) c:=by
   rcases g.j9.cmp c ar aF with q|q|q
   ·rw[g.td] at q;cases q
   ·exact absurd q id
   ·exact q
  have mem:∀i,0<=i->i<pf (ld a.N S.s.y S.s.g S.s.ws c)->dd (ld a.N S.s.y S.s.g S.s.ws (c+1+i))=true->_:=fun i k l ha=>List.mem_append.2 (h.inv.fd c (List.mem_append.1 hc).symm i k l ha).symm;unfold cf.iA at ha⊢;rw[u] at ha⊢;by_cases cb:((pk ((S.s.j0 a).ld c)=3\/pk ((S.s.j0 a).ld c)=4)/\(S.s.j0 a).cX (S.cH a) ((S.s.j0 a).ld (c+1))=true)/\(i=0\/(pk ((S.s.j0 a).ld c)=4/\i=1))
  ·rw[aK cb] at ha;exact absurd ha ae
  ·rw[aI cb] at ha⊢;have ha:=ha;have b:=mem i k l ha;refine⟨b,N _ ha b ?_⟩
   by_cases n:pk ((S.s.j0 a).ld c)=1\/pk ((S.s.j0 a).ld c)=2
   ·have q:=hM.p n i.toNat (by show(i.toNat:Int)<pf (ld a.N S.s.y S.s.g S.s.ws c);omega)
    rwa [show((i.toNat:Nat):Int)=i from by omega] at q
   ·by_cases p:pk ((S.s.j0 a).ld c)=3
    ·have aR:=iz m (aL (aM p))
     by_cases z:i=0
     ·simp_all
     ·have o:i=1:=aa;rw[o,show c+1+1=c+2 from by omega];exact hM.w p
    ·by_cases d:pk ((S.s.j0 a).ld c)=4
     ·have aR:=iz m (aL (aL d))
      have W:(S.s.j0 a).cX (S.cH a) ((S.s.j0 a).ld (c+1))=false:=by
       cases hl:(S.s.j0 a).cX (S.cH a) _
       ·rfl
       ·exact absurd ⟨⟨aL d,hl⟩,aa⟩ cb
      by_cases z:i=0
      ·simp_all
      ·have o:i=1:=aa;rw[o,show c+1+1=c+2 from by omega];rcases hM.e d with q|q
       ·rw[g.ep c q] at W;cases W
       ·exact q
     ·have q1:=ze m;have B:pf (ld a.N S.s.y S.s.g S.s.ws c)=0:=by
       have q3:pk (ld a.N S.s.y S.s.g S.s.ws c)≠1/\pk (ld a.N S.s.y S.s.g S.s.ws c)≠2/\pk (ld a.N S.s.y S.s.g S.s.ws c)≠3/\pk (ld a.N S.s.y S.s.g S.s.ws c)≠4:=⟨fun e=>n (aM e),fun e=>n (aL e),p,d⟩
       omega
      omega
theorem GT (a:Wc)(S:cv):(S.dD a).r.length+(S.dD a).q.length<=S.r.length+S.q.length:=by
 unfold cv.dD;split
 ·exact aG _
 ·have b:(S.j2 a).2.length=S.q.length:=po _ _ _;have c:(S.r3 a).length+(S.q3 a).length<=S.r.length+(S.j2 a).2.length:=qR (dU cy) (fun s x=>(S.s.j0 a).al s.1 x) _ (fun s x=>(S.s.j0 a).nw s.1 x) (fun s x=>qM _ s x) (S.j2 a) S.r;have d:((S.k5 a).tR (S.cJ a,S.q3 a) (S.r3 a)).length+((S.k5 a).iw (S.cJ a,S.q3 a) (S.r3 a)).length<=(S.r3 a).length+(S.q3 a).length:=qR (dU cy) (fun s x=>(S.k5 a).al s.1 x) _ (fun s x=>(S.k5 a).nw s.1 x) (fun _ _=>rfl) (S.cJ a,S.q3 a) (S.r3 a)
  dsimp only;omega
theorem eE.dD (h:eE a S.s Y G)(hb:cM a S.s):(S.fX a=false->∃F,iL (S.k5 a) (S.dI a) F/\F 0 (S.k5 a,0))/\(∃c d,eE a (S.dD a).s c d)/\(S.dD a).s.M.length<=S.s.M.length:=by
 refine⟨fun b=>(mA h hb b).1,?_⟩
 cases b:S.fX a
 ·obtain⟨_,g,_⟩:=mA h hb b;obtain⟨e,_⟩:=g.gc.inv h hb g.al;exact⟨⟨[],_,e⟩,(g.gc.M▸a4 _)⟩
 ·have f:S.dD a=S:=by unfold cv.dD;rw[aK b]
  rw[f];exact⟨⟨Y,G,h⟩,aG _⟩
end
structure nt (k:cf)(C:Int->Prop):Prop where
 rt:∀i,i<12->k.jt (k.s.rs.getD i 0)=true->C (cq (k.s.rs.getD i 0))
 p:∀a∈k.T,C a->pk (k.ld a)=1\/pk (k.ld a)=2->∀i:Nat,(i:Int)<pf (k.ld a)->k.jt (k.ld (a+1+i))=true->C (cq (k.ld (a+1+i)))
 w:∀a∈k.T,C a->pk (k.ld a)=3->k.jt (k.ld (a+2))=true->C (cq (k.ld (a+2)))
 e:∀a∈k.T,C a->pk (k.ld a)=4->(k.jt (k.ld (a+1))=true->C (cq (k.ld (a+1))))->k.jt (k.ld (a+2))=true->C (cq (k.ld (a+2)))
def pF (k:cf)(C:Int->Prop)(q:List ce):Prop:=∀e∈q,(k.jt e.1=true->C (cq e.1))->k.jt e.2=true->C (cq e.2)
structure dK (k:cf)(C:Int->Prop)(s:cy):Prop where
 snd:∀a∈k.T,s.f a≠-1->C a
 ea:∀a∈s.ep,a∈k.T/\s.f a≠-1/\pk (k.ld a)=4
section
variable {k:cf}{C:Int->Prop}{s:cy}
theorem dK.cX (h:dK k C s){x:Int}(b:k.cX s x=false):k.jt x=true->C (cq x):=fun ht=>h.snd _ (ow ht) ((cf.pu ht).1 b)
theorem dK.al (h:dK k C s){x:Int}(b:k.al s x=true):k.jt x=true->C (cq x):=h.cX (by unfold cf.al at b;simpa using b)
theorem dK.ma (h:dK k C s)(x:Int)(i:k.jt x=true->C (cq x))(le:dP k s (k.ma s x)):dK k C (k.ma s x):=by
 refine⟨fun b hb d=>?_,fun b hb=>?_⟩
 ·by_cases c:k.cX s x=true
  ·have e:(k.ma s x).f b=if b=cq x then cq x else s.f b:=by unfold cf.ma;rw[aK c];rfl
   rw[e] at d;by_cases f:b=cq x
   ·rw[f];refine i ?_;unfold cf.cX at c;rw[bv] at c;exact c.1
   ·rw[aI f] at d;exact h.snd b hb d
  ·have e:k.ma s x=s:=by unfold cf.ma;rw[aI c]
   rw[e] at d;exact h.snd b hb d
 ·rw[t5] at hb;obtain⟨q1,g,q3⟩:=h.ea b hb;exact⟨q1,(le.f b g▸g),q3⟩
theorem dK.fq {X:Int->Prop}(h:dK k C s)(m:de k X s)(a:Int):∀n:Nat,(∀i:Nat,i<n->k.jt (k.ld (a+1+i))=true->C (cq (k.ld (a+1+i))))->dK k C (k.fq s a n)
 |0,_=>h
 |n+1,b=>by obtain⟨m1,_⟩:=m.fq a n;exact(dK.fq h m a n (fun i hi=>b i aa)).ma _ (b n aa) (m1.ma _).2.1
theorem dK.l1 (h:dK k C s)(m:de k (fun _=>False) s)(d:nt k C)(hl:0<s.td.length):dK k C (k.l1 s):=by
 obtain⟨x,e⟩:∃x,s.td.getD (s.td.length-1) 0=x:=⟨_,rfl⟩
 have hm:x∈s.td:=by rw[<-e,aJ,aN aa];exact a8 _
 have c:=m.ff.td x hm;have g:=m.td x hm;have hc:=h.snd x c g;have j:k.l1 s=k.lk {s with td:=s.td.take (s.td.length-1)} x:=by unfold cf.l1;rw[e]
 have hs:=m.ff.sum;have n:(s.td.take (s.td.length-1)).length=s.td.length-1:=by simp_all
 have f:de k (fun b=>b∈s.td) {s with td:=s.td.take (s.td.length-1)}:=⟨⟨m.ff.nd,m.ff.ps,fun a ha=>m.ff.td a (List.mem_of_mem_take ha),m.ff.ep,m.ff.tl,by
  show k.lost s+(s.td.take _).length+s.ep.length<=_;omega⟩,m.self,fun a ha=>m.td a (List.mem_of_mem_take ha),fun a ha l=>by
  rcases m.cmp a ha l with q|q|q
  ·simp_all
  ·exact absurd q id
  ·exact aL (aL ⟨q.p,q.w,q.e⟩)⟩
 have h0:dK k C {s with td:=s.td.take (s.td.length-1)}:=⟨h.snd,h.ea⟩
 rw[j];unfold cf.lk;by_cases c1:pk (k.ld x)=1\/pk (k.ld x)=2
 ·rw[aK c1];exact h0.fq f x _ (fun i hi=>d.p x c hc c1 i aa)
 ·rw[aI c1];by_cases c3:pk (k.ld x)=3
  ·rw[aK c3];exact h0.ma _ (d.w x c hc c3) (f.ma _).2.1
  ·rw[aI c3];by_cases c4:pk (k.ld x)=4
   ·rw[aK c4];refine⟨h.snd,fun b hb=>?_⟩
    rcases List.mem_append.1 hb with hb|hb
    ·exact h.ea b hb
    ·simp_all
   ·simp_all
theorem dK.lm (b:nt k C):∀(n:Nat){s:cy},dK k C s->de k (fun _=>False) s->dK k C (k.lm n s)
 |0,s,h,_=>h
 |n+1,s,h,m=>by
  unfold cf.lm;by_cases c:0<s.td.length
  ·rw[aK c];exact dK.lm b n (h.l1 m b c) (m.l1 c).1
  ·simp_all
theorem dK.iK (d:nt k C):∀(l:List Int){t:List Int×cy},dK k C t.2->de k (fun _=>False) t.2->(∀a∈l,a∈k.T/\t.2.f a≠-1/\pk (k.ld a)=4)->dK k C (l.foldl k.cU t).2/\∀a∈(l.foldl k.cU t).1,a∈t.1\/a∈l
 |[],t,h,_,_=>⟨h,fun _ ha=>aM ha⟩
 |a::l,t,h,m,hl=>by
  rw[a9];obtain⟨a1,a2,j⟩:=hl a ac;by_cases c:k.cX t.2 (k.ld (a+1))=true
  ·have e:k.cU t a=(t.1++[a],t.2):=by unfold cf.cU;rw[aK c]
   rw[e];obtain⟨f,g⟩:=dK.iK d l (t:=(t.1++[a],t.2)) h m (fun b hb=>hl b (aX _ hb))
   refine⟨f,fun b hb=>?_⟩
   rcases g b hb with q|q
   ·rcases List.mem_append.1 q with q|q
    ·exact aM q
    ·simp_all
   ·simp_all
  ·have e:k.cU t a=(t.1,k.ma t.2 (k.ld (a+2))):=by unfold cf.cU;rw[aI c]
   rw[e];obtain⟨m1,i,_⟩:=m.ma _;obtain⟨f,g⟩:=dK.iK d l (t:=(t.1,k.ma t.2 _)) (h.ma _ (d.e a a1 (h.snd a a1 a2) j (h.cX (by simpa using c))) i) m1 (fun b hb=>by
    obtain⟨b1,b2,b3⟩:=hl b (aX _ hb)
    exact⟨b1,(i.f b b2▸b2),b3⟩)
   exact⟨f,fun b hb=>(g b hb).imp id (fun q=>aX _ q)⟩
theorem dK.kv (d:nt k C)(h:dK k C s)(m:de k (fun _=>False) s):dK k C (k.kv s).2:=by
 obtain⟨e,f⟩:=dK.iK d s.ep (t:=([],s)) h m h.ea;obtain⟨_,le,_⟩:=de.iK s.ep (t:=([],s)) m;refine⟨e.snd,fun b hb=>?_⟩
 have hb:=hb;rcases f b hb with q|q
 ·cases q
 ·obtain⟨q1,c,q3⟩:=h.ea b q;exact⟨q1,by show(s.ep.foldl k.cU ([],s)).2.f b≠-1;rw[le.f b c];exact c,q3⟩
theorem dK.kD (q:List ce)(b:pF k C q):∀(l:List Nat)(t:(cy×List ce)×Bool),t.1.2=q->(∀i∈l,i<q.length)->dK k C t.1.1->de k (fun _=>False) t.1.1->dK k C (l.foldl (dE k.al k.mp) t).1.1
 |[],t,_,_,h,_=>h
 |i::l,t,e,hl,h,m=>by
  rw[a9];have hi:=hl i ac;by_cases c:(k.al t.1.1 (t.1.2.getD i (0,0)).2||!k.al t.1.1 (t.1.2.getD i (0,0)).1)=true
  ·have d:dE k.al k.mp t i=t:=by unfold dE;rw[aK c]
   rw[d];exact dK.kD q b l t e (fun j f=>hl j (aX _ f)) h m
  ·have d:dE k.al k.mp t i=((k.ma t.1.1 (t.1.2.getD i (0,0)).2,t.1.2),true):=by exact yY
   rw[d];have hm:t.1.2.getD i (0,0)∈q:=by simp_all
   have hg:k.al t.1.1 (t.1.2.getD i (0,0)).1=true:=by simp_all
   obtain⟨m1,g,_⟩:=m.ma _;exact dK.kD q b l _ e (fun j f=>hl j (aX _ f)) (h.ma _ (b _ hm (h.al hg)) g) m1
theorem dK.c9 (b:nt k C):∀(n:Nat)(t:cy×List ce),pF k C t.2->dK k C t.1->de k (fun _=>False) t.1->dK k C (k.c9 n t).1
 |0,t,_,h,_=>h
 |n+1,t,c,h,m=>by
  obtain⟨l1,_⟩:=m.eR;have d:=dK.kv b (dK.lm b _ h m) l1;obtain⟨v1,_⟩:=l1.kv;have e:dK k C (k.wa ((k.kv (k.eR t.1)).2,t.2)).1.1:=dK.kD t.2 c _ (((k.kv _).2,t.2),false) rfl (fun i hi=>by simpa using hi) d v1;obtain⟨w1,_,f,_⟩:=de.wa (t:=((k.kv _).2,t.2)) v1;unfold cf.c9;split
  ·exact dK.c9 b n _ c d v1
  ·split
   ·exact dK.c9 b n _ (by simp_all) e w1
   ·exact e
theorem dK.ke (b:nt k C){t:cy×List ce}(c:pF k C t.2)(h:dK k C t.1)(m:de k (fun _=>False) t.1)(x:Int)(d:k.jt x=true->C (cq x)):dK k C (k.ke t x).2.1:=by obtain⟨m1,e,_⟩:=m.ma x;exact dK.c9 b _ (k.ma t.1 x,t.2) c (h.ma x d e) m1
end
def k4 (k:cf)(l:List ce):Prop:=∀e∈l,k.jt e.1=true/\k.jt e.2=true
section
variable {a:Wc}{S:cv}{Y G:List Int}
theorem zN (h:eE a S.s Y G)(hb:cM a S.s)(j:S.fX a=false):(S.dD a).q=(((S.s.j0 a).e_ (S.j2 a) S.r).2.filter (fun e=>(S.s.j0 a).al (S.cH a) e.1)).map (fun e=>((S.s.j0 a).nw (S.cJ a) e.1,(S.s.j0 a).nw (S.cJ a) e.2)):=by
 have i:=c8.start hb.n1 hb.o1 hb.y1 hb.g1;obtain⟨d1,o,p⟩:=ox (S:=S) i;obtain⟨_,l2,l3⟩:=k3 h.inv.full hb;obtain⟨_,g,t⟩:=mA h hb j;obtain⟨_,b,t3,_⟩:=py (s:=S.cJ a) (k:=S.s.j0 a) ⟨hb.l1,hb.y1,hb.g1⟩ hb.r1 i.nd (oD h.inv.full hb) (pE h.inv.full hb)
 have b:(S.k5 a).Y=(S.s.j0 a).Y:=b;have t3:(S.k5 a).G=(S.s.j0 a).G:=t3;have zJ:(S.k5 a).T=(S.s.j0 a).T:=by unfold cf.T;rw[b,t3]
 have l:∀x,(S.k5 a).al (S.cJ a) x=(S.s.j0 a).al (S.cH a) x:=fun x=>by exact zI
 have q3:S.q3 a=((S.s.j0 a).e_ (S.j2 a) S.r).2.filter (fun e=>(S.s.j0 a).al (S.cH a) e.1):=by show((((S.s.j0 a).e_ (S.j2 a) S.r).2.filter (fun e=>(S.s.j0 a).al (S.cH a) e.1)).map fun e=>((S.s.j0 a).nw (S.cH a) e.1,(S.s.j0 a).nw (S.cH a) e.2))=_;exact zK
 have m:(S.k5 a).tS (S.cJ a,S.q3 a) (S.r3 a)=(S.cJ a,S.q3 a):=ui (fun e he=>by rw[l];exact q8 i e he)
 unfold cv.dD;rw[j,aI ac];show eW (dU cy) (fun s x=>(S.k5 a).al s.1 x) _ (fun s x=>(S.k5 a).nw s.1 x) (S.cJ a,S.q3 a) (S.r3 a)=_;unfold eW;have e:fE (dU cy) (fun s x=>(S.k5 a).al s.1 x) (S.k5 a).ct (S.cJ a,S.q3 a) (S.r3 a)=(S.cJ a,S.q3 a):=m;rw[e];show((S.q3 a).filter (fun e=>(S.k5 a).al (S.cJ a) e.1)).map (fun e=>((S.k5 a).nw (S.cJ a) e.1,(S.k5 a).nw (S.cJ a) e.2))=_;have n:(S.q3 a).filter (fun e=>(S.k5 a).al (S.cJ a) e.1)=S.q3 a:=List.filter_eq_self.2 (fun e he=>by simp_all)
 rw[n,q3];refine List.map_congr_left (fun e _=>?_)
 rw[cf.kC _ _ b t3,cf.kC _ _ b t3]
end
theorem GU {k:cf}{j:cy}{x:Int}(b:k.jt x=true)(c:j.f (cq x)≠-1)(hb:0<=j.f (cq x)/\j.f (cq x)<1000000):k.nw j x=ew 3 (j.f (cq x))/\dd (k.nw j x)=true/\cq (k.nw j x)=j.f (cq x):=by
 have e:k.nw j x=ew 3 (j.f (cq x)):=by unfold cf.nw;rw[b,beq_false_of_ne c];rfl
 obtain⟨n,hn⟩:∃n:Nat,j.f (cq x)=n:=⟨(j.f (cq x)).toNat,aa⟩
 obtain⟨w1,d⟩:=nk n aa;rw[e,hn];exact⟨rfl,w1,d⟩
def jJ (a:Wc)(W:cv):Prop:=∀e,(e∈W.r\/e∈W.q)->tB a.N W.s.y W.s.g W.s.ws e.1=true/\tB a.N W.s.y W.s.g W.s.ws e.2=true
section
variable {a:Wc}{S:cv}{Y G:List Int}
theorem jf {N O y g:Nat}{ws Y G:List Int}(h:ec N y g ws Y G)(hN:N<=256)(hy:y<=N)(hO:O<=1024)(hg:g<=O){x:Int}:tB N y g ws x=true↔dd x=true/\(cq x∈Y\/cq x∈G):=by
 refine⟨zc h hN hy hO hg,fun⟨b,c⟩=>?_⟩
 obtain⟨d,e⟩:=h.lists hN hy hO hg;unfold tB;rw[b,d,e];rcases c with q|q
 ·simp_all
 ·simp_all
theorem q9 (h:eE a S.s Y G)(hb:cM a S.s){x:Int}:(S.s.j0 a).jt x=true↔tB a.N S.s.y S.s.g S.s.ws x=true:=by
 obtain⟨_,_,d⟩:=k3 h.inv.full hb;rw[jf h.inv.full hb.n1 hb.y1 hb.o1 hb.g1];unfold cf.jt;rw[d,bv];constructor
 ·rintro⟨b,c⟩
  exact⟨b,(List.mem_append.1 (List.contains_iff_mem.1 c)).symm⟩
 ·rintro⟨b,c⟩
  exact⟨b,List.contains_iff_mem.2 (List.mem_append.2 c.symm)⟩
theorem jJ.ok (h:jJ a S)(hk:eE a S.s Y G)(hb:cM a S.s):k4 (S.s.j0 a) S.r/\k4 (S.s.j0 a) S.q:=
 ⟨fun e he=>⟨(q9 hk hb).2 (h e (aM he)).1,(q9 hk hb).2 (h e (aM he)).2⟩,fun e he=>⟨(q9 hk hb).2 (h e (aL he)).1,(q9 hk hb).2 (h e (aL he)).2⟩⟩
theorem GV (q:c8 (S.s.j0 a) g6)(hr:k4 (S.s.j0 a) S.r)(hq:k4 (S.s.j0 a) S.q):∀e∈((S.s.j0 a).e_ (S.j2 a) S.r).2,(S.s.j0 a).jt e.1=true/\(S.s.j0 a).jt e.2=true:=by
 obtain⟨v,_,_⟩:=(de.start q).cO 12;obtain⟨w,_,g⟩:=de.sp (t:=((S.s.j0 a).cO g6 12,S.q)) v;have g:(S.j2 a).2=S.q:=g;have key:∀(n:Nat)(t:cy×List ce)(d:List ce),fN (S.s.j0 a) t.1 t.2->k4 (S.s.j0 a) t.2->k4 (S.s.j0 a) d->k4 (S.s.j0 a) (eK (S.s.j0 a).fO n t d).1.2:=fun n=>by
  have pl:∀(l:List ce)(u:List ce×List ce×(cy×List ce)),fN (S.s.j0 a) u.2.2.1 u.2.2.2->k4 (S.s.j0 a) u.2.2.2->k4 (S.s.j0 a) l->k4 (S.s.j0 a) (l.foldl (eB (S.s.j0 a).fO) u).2.2.2:=fun l=>by
   induction l with
   |nil=>intro u _ f _;exact f
   |cons e l i=>
    intro u k f hl;have m:(eB (S.s.j0 a).fO u e).2.2=((S.s.j0 a).fO u.2.2 e).2:=by unfold eB;split<;>rfl
    refine i _ ((m▸(k.cm e).1)) ?_ (fun b hb=>hl b (aX _ hb))
    rw[m];cases c:(S.s.j0 a).al u.2.2.1 e.1
    ·have j:(S.s.j0 a).fO u.2.2 e=(false,u.2.2):=m4 c;rw[j];exact f
    ·obtain⟨_,_,x,_⟩:=k.j9.ke e.2;have j:(S.s.j0 a).fO u.2.2 e=(true,(((S.s.j0 a).ke u.2.2 e.2).2.1,u.2.2.2++[e])):=by refine(m5 (s:=u.2.2) c).trans ?_;show(true,(((S.s.j0 a).ke u.2.2 e.2).2.1,((S.s.j0 a).ke u.2.2 e.2).2.2++[(e.1,e.2)]))=_;rw[x]
     rw[j];intro b hb;rcases List.mem_append.1 hb with hb|hb
     ·exact f b hb
     ·rw[List.mem_singleton.1 hb];exact hl e ac
  induction n with
  |zero=>intro t d _ ht _;exact ht
  |succ n i=>
   intro t d o ht hd;have p:=pl d ([],[],t) o ht hd;by_cases c:(pts (S.s.j0 a).fO t d).1.length=0
   ·rw[l4 _ _ _ _ c];exact p
   ·rw[l5 _ _ _ _ c];exact i _ _ (fN.pl d ([],[],t) o).1 p (fun e he=>hd e (sM _ t d e (aL he)))
 exact key _ (S.j2 a) _ w ((g▸hq)) (fun e he=>hr e (List.mem_filter.1 he).1)
theorem jJ.dD (h:jJ a S)(hk:eE a S.s Y G)(hb:cM a S.s):jJ a (S.dD a):=by
 cases hf:S.fX a
 ·have m:=c8.start hb.n1 hb.o1 hb.y1 hb.g1;obtain⟨hr,hq⟩:=h.ok hk hb;obtain⟨n,W,_⟩:=ox m;obtain⟨_,_,w⟩:=k3 hk.inv.full hb;obtain⟨_,g,o⟩:=mA hk hb hf;obtain⟨ab,B1⟩:=g.gc.inv hk hb g.al;have hN:=hb.n1;have hO:=hb.o1;have am:=g.gc.g;have bnd:∀c∈G++Y,(S.cJ a).f c≠-1->0<=(S.cJ a).f c/\(S.cJ a).f c<1000000:=fun c hc ad=>by
   have q1:=g.gc.bd c hc ad;have b:=dr (ld a.N S.s.y S.s.g S.s.ws c)
   omega
  have ag:∀x,(S.s.j0 a).jt x=true->(S.s.j0 a).al (S.cH a) x=true->(S.cJ a).f (cq x)≠-1:=fun x d ha q=>by
   have hm:=ow d;rw[w] at hm;unfold cf.al at ha;have b:(S.s.j0 a).cX (S.cH a) x=false:=by simpa using ha
   exact(cf.pu d).1 b ((g.iff _ hm).1 q)
  have key:∀x,(S.s.j0 a).jt x=true->(S.s.j0 a).al (S.cH a) x=true->tB a.N (S.dD a).s.y (S.dD a).s.g (S.dD a).s.ws ((S.s.j0 a).nw (S.cJ a) x)=true:=fun x d ha=>by
   have hm:=ow d;rw[w] at hm;have p:=ag x d ha;obtain⟨_,b,q3⟩:=GU d p (bnd _ hm p)
   refine(jf ab.inv.full B1.n1 B1.y1 B1.o1 B1.g1).2 ⟨b,aL ?_⟩
   rw[q3];exact uh.2 ⟨_,hm,p,rfl⟩
  obtain⟨_,j,t3,_⟩:=py ⟨hb.l1,hb.y1,hb.g1⟩ hb.r1 m.nd (oD hk.inv.full hb) (pE hk.inv.full hb)
  have j:=j;have t3:=t3;intro e he;rcases he with he|he
  ·have s:(S.dD a).r=(S.k5 a).tR (S.cJ a,S.q3 a) (S.r3 a):=by unfold cv.dD;rw[hf,aI ac]
   rw[s] at he;have he:e∈(((S.r3 a).filter (fun e=>(S.k5 a).al (S.cJ a) e.2)).filter (fun e=>(S.k5 a).al ((S.k5 a).tS (S.cJ a,S.q3 a) (S.r3 a)).1 e.1)).map fun e=>((S.k5 a).nw ((S.k5 a).tS (S.cJ a,S.q3 a) (S.r3 a)).1 e.1,(S.k5 a).nw ((S.k5 a).tS (S.cJ a,S.q3 a) (S.r3 a)).1 e.2):=he;have o:((S.k5 a).tS (S.cJ a,S.q3 a) (S.r3 a)).1=S.cJ a:=o;rw[o] at he;obtain⟨f,t,u⟩:=List.mem_map.1 he;have i:=(List.mem_filter.1 (List.mem_filter.1 t).1).1;have i:f∈((S.r.filter (fun e=>(S.s.j0 a).al (S.j2 a).1 e.2)).filter (fun e=>(S.s.j0 a).al (S.cH a) e.1)).map fun e=>((S.s.j0 a).nw (S.cH a) e.1,(S.s.j0 a).nw (S.cH a) e.2):=i;obtain⟨ai,v,l⟩:=List.mem_map.1 i;obtain⟨al,B⟩:=List.mem_filter.1 v;obtain⟨F,N⟩:=List.mem_filter.1 al;rw[n.j9.nw,n.j9.nw] at l;have l:ai=f:=l;rw[l] at B F N;obtain⟨q1,b⟩:=hr f F;rw[<-u,cf.kC (k:=S.k5 a) _ _ j t3,cf.kC (k:=S.k5 a) _ _ j t3];exact⟨key _ q1 B,key _ b (y9 W N)⟩
  ·rw[zN hk hb hf] at he;obtain⟨f,t,u⟩:=List.mem_map.1 he;obtain⟨i,v⟩:=List.mem_filter.1 t;obtain⟨q1,b⟩:=GV m hr hq f i;rw[<-u];refine⟨key _ q1 v,key _ b ?_⟩
   rcases n.wq f i with q|q
   ·exact q
   ·simp_all
 ·have s:S.dD a=S:=by unfold cv.dD;rw[aK hf]
  rw[s];exact h
theorem jJ.more {W:cv}{b:ej}{d f:List Int}(h:jJ a W)(hk:eE a W.s Y G)(hb:cM a W.s)(g:ec a.N b.y b.g b.ws d f)(hy:b.y<=a.N)(hg:b.g<=a.O)(hs:∀v,(v∈Y\/v∈G)->(v∈d\/v∈f)):jJ a ⟨b,W.r,W.q⟩:=fun e he=>by
 have key:∀x,tB a.N W.s.y W.s.g W.s.ws x=true->tB a.N b.y b.g b.ws x=true:=fun x i=>by obtain⟨q1,c⟩:=(jf hk.inv.full hb.n1 hb.y1 hb.o1 hb.g1).1 i;exact(jf g hb.n1 hy hb.o1 hg).2 ⟨q1,hs _ c⟩
 obtain⟨q1,c⟩:=h e he;exact⟨key _ q1,key _ c⟩
end
def kc (k:cj)(z:C0)(x:Int):Prop:=dd x=true/\(cq x∈k.T\/cq x∈z.G)
def hK (k:cj)(z:C0)(s:cr)(q:List ce):Prop:=∀e∈q,kc k z e.1/\∃b,kc k z b/\k.ml s b e.2
def uj (k:cj)(s:cr)(q:List ce):Prop:=∀e∈q,k.al s e.2=true\/k.al s e.1=false
section
variable {k:cj}{z:C0}{s t u:cr}{D H:List Int}{q:List ce}
theorem hK.jI (h:hK k z s q)(p:da k s t):hK k z t q:=fun e he=>by
 obtain⟨b,c,d,f⟩:=h e he
 grind [da.ml]
theorem pG (p:da k s t){x:Int}(h:k.al s x=true):k.al t x=true:=by grind [da.f,cj.al,cj.ls]
theorem q_ {x:Int}(h:k.cP x=false):k.al s x=true:=by grind [cj.al,cj.ls]
theorem hK.kY:∀(l:List Nat)(t:(cr×List ce)×Bool)(H:List Int),LI k z t.1.1 H D->dQ k z t.1.1 H->(∀i∈l,i<t.1.2.length)->hK k z t.1.1 t.1.2->hK k z (l.foldl (dE k.al k.br) t).1.1 (l.foldl (dE k.al k.br) t).1.2
 |[],_,_,_,_,_,e=>e
 |i::l,t,H,h,w,hl,e=>by
  rw[a9];by_cases c:(k.al t.1.1 (t.1.2.getD i (0,0)).2||!k.al t.1.1 (t.1.2.getD i (0,0)).1)=true
  ·have b:dE k.al k.br t i=t:=by grind [dE]
   rw[b];exact hK.kY l t H h w (by grind) e
  ·have b:dE k.al k.br t i=(((k.br t.1.1 (t.1.2.getD i (0,0)).2).2,t.1.2.set i ((t.1.2.getD i (0,0)).1,(k.br t.1.1 (t.1.2.getD i (0,0)).2).1)),true):=by grind [dE]
   have hi:=hl i ac;have hm:t.1.2.getD i (0,0)∈t.1.2:=by simp_all
   obtain⟨f,l1,w1,g,_⟩:=c_.br _ H h w;obtain⟨_,_,_,_,_,m1,_⟩:=h.mi.br _;rw[b];refine hK.kY l _ f l1 w1 (fun j n=>?_) ?_
   ·grind
   ·intro m hd;have hd:=hd;rcases List.mem_or_eq_of_mem_set hd with hd|rfl
    ·exact e.jI g m hd
    ·obtain⟨g1,d,g2,g3⟩:=e _ hm;exact⟨g1,d,g2,m1 d g3⟩
theorem hK.wa {t:cr×List ce}(h:LI k z t.1 H D)(w:dQ k z t.1 H)(e:hK k z t.1 t.2):hK k z (k.wa t).1.1 (k.wa t).1.2:=
 hK.kY _ (t,false) H h w (by grind) e
theorem hK.c9:∀(n:Nat)(t:cr×List ce)(H:List Int),LI k z t.1 H D->dQ k z t.1 H->hK k z t.1 t.2->hK k z (k.c9 n t).1 (k.c9 n t).2
 |0,_,_,_,_,e=>e
 |n+1,t,H,h,w,e=>by
  obtain⟨f,l1,w1,g,_⟩:=c_.lb (k.O+1) H h w;obtain⟨c,l2,b,i,_⟩:=c_.kv f l1 w1;have d:=e.jI (g.trans i)
  obtain⟨j,l,m,_,_⟩:=c_.wa ((k.kv _).2,t.2) c l2 b;have o:=hK.wa (t:=((k.kv _).2,t.2)) l2 b d;unfold cj.c9;split
  ·exact hK.c9 n ((k.kv _).2,t.2) c l2 b d
  ·split
   ·exact hK.c9 n _ j l m o
   omega
theorem zO (k:cj):∀(l:List Nat)(t:(cr×List ce)×Bool),(l.foldl (dE k.al k.br) t).2=false->∀i∈l,k.al t.1.1 (t.1.2.getD i (0,0)).2=true\/k.al t.1.1 (t.1.2.getD i (0,0)).1=false
 |[],_,_,_,hi=>by cases hi
 |j::l,t,h,i,hi=>by
  rw[a9] at h;obtain⟨_,b⟩:=t_ k l _ h;by_cases c:(k.al t.1.1 (t.1.2.getD j (0,0)).2||!k.al t.1.1 (t.1.2.getD j (0,0)).1)=true
  ·have d:dE k.al k.br t j=t:=by unfold dE;rw[aK c]
   rw[d] at h;rcases List.mem_cons.1 hi with rfl|hi
   ·simpa using c
   ·exact zO k l t h i hi
  ·unfold dE at b;rw[aI c] at b;cases b
theorem rd:∀(n:Nat)(t:cr×List ce)(H:List Int),LI k z t.1 H D->dQ k z t.1 H->eg k t.1->k.mu t.1<n->uj k (k.c9 n t).1 (k.c9 n t).2
 |0,t,H,_,_,_,e=>aa
 |n+1,t,H,h,w,hb,e=>by
  obtain⟨v,l1,w1,_,_,_⟩:=LI.oA (k.O+1) h w;obtain⟨c1,c2,c3⟩:=CI.lb h.mi.ci hb (k.O+1)
  obtain⟨g,b,x,j⟩:=CI.kv c1 c2;obtain⟨c,l2,d,_,_⟩:=l1.kv w1;unfold cj.c9;cases hk:(k.kv _).1
  ·rw[aI ac];obtain⟨B,l,F,N,m⟩:=CI.wa (s:=((k.kv _).2,t.2)) g b;cases hw:(k.wa ((k.kv _).2,t.2)).2
   ·rw[aI ac,ua k _ hw];intro S hd;obtain⟨i,hi,W⟩:=List.mem_iff_getElem.1 hd;have q:=zO k _ (((k.kv _).2,t.2),false) hw i (by grind)
    grind
   ·obtain⟨o,p,u,_,_⟩:=c_.wa ((k.kv _).2,t.2) c l2 d;have f:=m hw;dsimp only at f;exact rd n _ o p u l aa
  ·rw[aK rfl];have f:=j hk;exact rd n ((k.kv _).2,t.2) c l2 d b (by grind)
def hL (k:cj)(z:C0)(D:List Int)(t:cr×List ce):Prop:=∃H,LI k z t.1 H D/\dQ k z t.1 H/\eg k t.1/\hK k z t.1 t.2/\uj k t.1 t.2
theorem hL.sp {t:cr×List ce}(h:LI k z t.1 H D)(w:dQ k z t.1 H)(hb:eg k t.1)(e:hK k z t.1 t.2):hL k z D (k.sp t):=by obtain⟨K,m1,b,_,_⟩:=c_.sp t H h w;exact⟨K,m1,b,(pA _ t h.mi.ci hb).2,hK.c9 _ t H h w e,rd _ t H h w hb aa⟩
theorem hL.cm {t:cr×List ce}(h:hL k z D t){e:ce}(f:kc k z e.1)(j2:kc k z e.2):hL k z D (cm (dU cr) (fun s x=>k.al s.1 x) k.ke t e).2:=by
 cases c:k.al t.1 e.1
 ·grind [m4]
 ·rw[m5 (o:=dU cr) (is:=fun s x=>k.al s.1 x) (kp:=k.ke) (s:=t) (e:=e) c];obtain⟨H,d,g,u,i,v⟩:=h;obtain⟨j,l1,w1,l,_⟩:=c_.br (k:=k) (z:=z) (D:=D) (s:=t.1) e.2 H d g;obtain⟨_,_,_,y1,_,m1,_⟩:=d.mi.br e.2;obtain⟨_,w,B,F⟩:=mx k t.1 e.2;have hb:eg k (k.br t.1 e.2).2:=⟨by simp_all [eg.wk],by simp_all [eg.ep]⟩
  obtain⟨K,q1,m,q3,n,p⟩:=hL.sp (t:=((k.br t.1 e.2).2,t.2)) l1 w1 hb (i.jI l)
  obtain⟨_,_,_,q,_⟩:=c_.sp (k:=k) (z:=z) (D:=D) ((k.br t.1 e.2).2,t.2) j l1 w1;show hL k z D ((k.sp ((k.br t.1 e.2).2,t.2)).1,(k.sp ((k.br t.1 e.2).2,t.2)).2++[(e.1,(k.br t.1 e.2).1)])
  refine⟨K,q1,m,q3,fun b hd=>?_,fun b hd=>?_⟩
  ·rcases List.mem_append.1 hd with hd|hd
   ·exact n b hd
   ·rw[List.mem_singleton.1 hd];exact⟨f,e.2,j2,q.ml (m1 _ (aM rfl))⟩
  ·rcases List.mem_append.1 hd with hd|hd
   ·exact p b hd
   grind [q_]
theorem hL.pl:∀(l:List ce)(u:List ce×List ce×(cr×List ce)),hL k z D u.2.2->(∀e∈l,kc k z e.1/\kc k z e.2)->hL k z D (l.foldl (eB (Go.Proofs.YtpkjkjhanlbcoaaGreat.cm (dU cr) (fun s x=>k.al s.1 x) k.ke)) u).2.2
 |[],_,h,_=>h
 |e::l,u,h,hl=>by
  have key:(eB (Go.Proofs.YtpkjkjhanlbcoaaGreat.cm (dU cr) (fun s x=>k.al s.1 x) k.ke) u e).2.2=(Go.Proofs.YtpkjkjhanlbcoaaGreat.cm (dU cr) (fun s x=>k.al s.1 x) k.ke u.2.2 e).2:=by grind [eB]
  refine hL.pl l _ ?_ (by grind)
  grind [cm]
theorem hL.eK:∀(n:Nat)(t:cr×List ce)(b:List ce),hL k z D t->(∀e∈b,kc k z e.1/\kc k z e.2)->hL k z D (eK (Go.Proofs.YtpkjkjhanlbcoaaGreat.cm (dU cr) (fun s x=>k.al s.1 x) k.ke) n t b).1
 |0,_,_,h,_=>h
 |n+1,t,b,h,hd=>by
  have d:=hL.pl b ([],[],t) h hd;have d:hL k z D (pts (Go.Proofs.YtpkjkjhanlbcoaaGreat.cm (dU cr) (fun s x=>k.al s.1 x) k.ke) t b).2.2:=d;by_cases c:(pts (Go.Proofs.YtpkjkjhanlbcoaaGreat.cm (dU cr) (fun s x=>k.al s.1 x) k.ke) t b).1.length=0
  ·grind [l4]
  ·rw[l5 _ _ _ _ c];exact hL.eK n _ _ d (fun e he=>(by grind [sM]))
theorem zP (k:cj):∀(l:List Int)(s:cr),(l.foldl k.eO s).g=s.g
 |[],_=>rfl
 |x::l,s=>by rw[a9,zP k l];unfold cj.eO;split<;>rfl
theorem zQ (k:cj):∀(l:List Int)(s:cr),(l.foldl k.gP s).g=s.g
 |[],_=>rfl
 |x::l,s=>by rw[a9,zQ k l];rfl
end
section
variable {a:Wc}{S:cv}{Y G:List Int}
theorem GW (h:eE a S.s Y G)(hb:cM a S.s)(hr:S.s.y<=a.O-S.s.g)(he:jJ a S):∃D,hL (S.s.k0 a) (S.s.z0 G) D ((S.s.k0 a).e_ (S.t3 a) S.r)/\da (S.s.k0 a) (S.t3 a).1 (S.s4 a):=by
 have p:(S.s.k0 a).T=Y:=oC h.inv.full hb.n1 hb.y1 hb.o1 hb.g1;have d:∀x,tB a.N S.s.y S.s.g S.s.ws x=true->kc (S.s.k0 a) (S.s.z0 G) x:=fun x f=>by
  obtain⟨q1,q2⟩:=(jf h.inv.full hb.n1 hb.y1 hb.o1 hb.g1).1 f;refine⟨q1,?_⟩
  rw[p];exact q2
 have i:=LI.start h.inv.full hb.n0 hb.n1 hb.o1 hb.y1 hb.g1 hb.l1 hr;obtain⟨H1,c,q,⟨ab,ad⟩,l1,y1,_,m1⟩:=i.cO 12 (by show 12<=S.s.rs.length;rw[hb.r1];omega)
 have j:dH a.N S.s.y (S.s.s1 a).g (S.s.s1 a).ws=G++H1:=(c.mi.full.lists hb.n1 hb.y1 hb.o1 c.mi.ci.hg).2;have s:(S.s.s1 a).nx=((S.s.k0 a).N:Int)+(S.s.z0 G).g:=(lO _ _ 12).2.2;have u:eb ((S.s.k0 a).l0 (S.s.z0 G)) (((S.s.k0 a).N:Int)+(S.s.z0 G).g) (S.s.k0 a).N (S.s.z0 G).G:=h.inv.full.es;obtain⟨k,g,m,n,v,⟨ag,ai⟩,_,al⟩:=LI.pz (dJ a.O) S.s.M u (G++H1) c ((dQ.start a S.s G).cO i.mi 12 c.mi q (by grind)) (fun x f=>(List.mem_append.1 f).imp id (fun B=>c.mi.hlo x B))
 have F:(G++H1).foldl ((S.s.k0 a).gB (((S.s.k0 a).N:Int)+(S.s.z0 G).g) (dJ a.O) S.s.M) ((S.s.k0 a).cO (S.s.s0 a) 12)=S.s.s2 a:=by unfold ej.s2 cj.lm;rw[j,s];rfl
 have hlen:=qY (S.s.k0 a) (((S.s.k0 a).N:Int)+(S.s.z0 G).g) (dJ a.O) S.s.M (G++H1) ((S.s.k0 a).cO (S.s.s0 a) 12)
 rw[F] at m n v hlen;have am:(G++H1).length<=2000:=(j▸iX _ _)
 obtain⟨q1,q2,q3⟩:=lO _ _ 12;have cb:eg (S.s.k0 a) (S.s.s2 a):=by exact t8
 have key:∀s2:cr,LI (S.s.k0 a) (S.s.z0 G) s2 k g->dQ (S.s.k0 a) (S.s.z0 G) s2 k->eg (S.s.k0 a) s2->_:=fun s2 l w b=>
  hL.sp (t:=(s2,S.q)) l w b (fun e hq=>⟨d _ (he e (by grind)).1,e.2,d _ (he e (by grind)).2,aM rfl⟩)
 have o:hL (S.s.k0 a) (S.s.z0 G) g (S.t3 a):=by exact key _ m n cb
 refine⟨g,hL.eK _ (S.t3 a) _ o (fun e hq=>?_),?_⟩
 ·have hq:=(List.mem_filter.1 hq).1;exact⟨d _ (he e (by grind)).1,d _ (he e (by grind)).2⟩
 ·obtain⟨K,r1,N,_⟩:=o;obtain⟨_,_,_,W,_⟩:=c_.e_ (S.t3 a) S.r K r1 N;exact W
theorem jJ.cut (h:eE a S.s Y G)(hb:cM a S.s)(he:jJ a S):jJ a (S.cut a):=by
 cases hf:S.full a
 ·have hr:S.s.y<=a.O-S.s.g:=by have:=of_decide_eq_false hf;omega
  obtain⟨K,D,c⟩:=qZ h hb hr;obtain⟨W,⟨H,s1,s2,_,s4,s5⟩,jI⟩:=GW h hb hr he;have p:(S.s.k0 a).T=Y:=oC h.inv.full hb.n1 hb.y1 hb.o1 hb.g1;have hN:=hb.n1;have hO:=hb.o1;have hg:=c.li.mi.ci.hg;have ab:(S.s.k0 a).N=a.N:=rfl;have ad:(S.s.k0 a).O=a.O:=rfl;have ag:(S.s6 a).g=(S.s4 a).g:=(zQ _ _ _).trans (zP _ _ _)
  have s:S.cut a=⟨⟨0,(S.s6 a).g,(S.s6 a).ws,[],(S.s6 a).rs⟩,(S.s.k0 a).sR (S.t3 a) S.r,(S.s.k0 a).jq (S.t3 a) S.r⟩:=by grind [cv.cut]
  have t:∀x,dd x=true->cq x∈G++K->tB a.N (S.cut a).s.y (S.cut a).s.g (S.cut a).s.ws x=true:=fun x g i=>(s▸(jf (O:=a.O) (c.done h hb).full hN aa hO aa).2 (by grind))
  have ai:∀v∈(S.s.k0 a).T,(S.s4 a).f v≠-1->dd (ew 3 ((S.s4 a).f v))=true/\cq (ew 3 ((S.s4 a).f v))∈G++K:=fun v hv u=>by
   have w:=c.li.mi.fh _ hv u;have al:=c.li.mi.je w;obtain⟨n,hn⟩:∃n:Nat,(S.s4 a).f v=n:=⟨((S.s4 a).f v).toNat,aa⟩
   grind [nk]
  have am:∀x,(S.s.k0 a).cP x=true->cq x∈(S.s.k0 a).T:=fun x m=>by grind [cj.cP]
  have key:∀x,kc (S.s.k0 a) (S.s.z0 G) x->(S.s.k0 a).al (S.s4 a) x=true->tB a.N (S.cut a).s.y (S.cut a).s.g (S.cut a).s.ws ((S.s.k0 a).nw (S.s4 a) x)=true:=fun x j ha=>by
   cases hy:(S.s.k0 a).cP x
   ·have b:(S.s.k0 a).nw (S.s4 a) x=x:=by grind [cj.nw]
    rw[b];refine t x j.1 (bk _ ?_)
    rcases j.2 with q|q
    ·unfold cj.cP at hy;rw[j.1] at hy
     grind
    ·exact q
   grind [cj.al,cj.ls,cj.nw]
  have B:∀d x,kc (S.s.k0 a) (S.s.z0 G) d->(S.s.k0 a).ml (S.s4 a) d x->(S.s.k0 a).al (S.s4 a) x=true->tB a.N (S.cut a).s.y (S.cut a).s.g (S.cut a).s.ws ((S.s.k0 a).nw (S.s4 a) x)=true:=fun d x j hm ha=>by
   rcases hm with rfl|⟨m1,an,ao⟩
   all_goals grind [cj.nw]
  have ap:∀x,tB a.N S.s.y S.s.g S.s.ws x=true->kc (S.s.k0 a) (S.s.z0 G) x:=fun x m=>by
   obtain⟨q1,F⟩:=(jf (O:=a.O) h.inv.full (by assumption) hb.y1 (by assumption) hb.g1).1 m;refine⟨q1,?_⟩
   rw[p];exact F
  intro e hm;rcases hm with hm|hm
  ·have b:(S.cut a).r=(S.s.k0 a).sR (S.t3 a) S.r:=by grind
   rw[b] at hm;have hm:=hm;obtain⟨f,g,i⟩:=List.mem_map.1 hm;obtain⟨k,l⟩:=List.mem_filter.1 g;obtain⟨ar,N⟩:=List.mem_filter.1 k;obtain⟨o,j2⟩:=he f (by grind)
   rw[<-i];exact⟨key _ (by grind) l,key _ (by grind) (pG jI N)⟩
  ·have b:(S.cut a).q=(S.s.k0 a).jq (S.t3 a) S.r:=by grind
   rw[b] at hm;have hm:e∈(((S.s.k0 a).e_ (S.t3 a) S.r).2.filter (fun e=>(S.s.k0 a).al (S.s4 a) e.1)).map fun e=>((S.s.k0 a).nw (S.s4 a) e.1,(S.s.k0 a).nw (S.s4 a) e.2):=hm;obtain⟨f,g,i⟩:=List.mem_map.1 hm;obtain⟨k,l⟩:=List.mem_filter.1 g;obtain⟨o,d,j2,cH⟩:=s4 f k;rw[<-i];refine⟨key _ o l,B d _ j2 cH ?_⟩
   rcases s5 f k with q|q
   ·exact q
   ·have q:(S.s.k0 a).al (S.s4 a) f.1=false:=q
    grind
 grind [cv.cut]
end
def cv.kx (a:Wc)(S:cv)(x:Int):Int:=if tB a.N S.s.y S.s.g S.s.ws x=true then pk (ld a.N S.s.y S.s.g S.s.ws (cq x)) else 0
def cv.fx (a:Wc)(S:cv)(x:Int):Int:=if tB a.N S.s.y S.s.g S.s.ws x=true then pf (ld a.N S.s.y S.s.g S.s.ws (cq x)) else 0
def cv.ex (a:Wc)(S:cv)(x:Int):Int:=if tB a.N S.s.y S.s.g S.s.ws x=true then pc (ld a.N S.s.y S.s.g S.s.ws (cq x)) else 2
def cv.room (a:Wc)(S:cv)(m:Int):Int×cv:=if m<=(a.N:Int)-S.s.y then(0,S) else if(S.s.y:Int)<=(a.O:Int)-S.s.g then(S.code a,S.cut a) else(S.iM a,S.dD a)
def cv.put (a:Wc)(S:cv)(kd:Int)(rl:List Nat):cv:=⟨{S.s with y:=S.s.y+1+rl.length,ws:=i6 S.s.rs S.s.y (fS a.N S.s.y kd rl.length S.s.ws) rl rl.length},S.r,S.q⟩
def cv.b_ (a:Wc)(S:cv)(kd:Int)(rl:List Nat):Int×Int×cv:=if(S.room a (1+rl.length)).1=0 then(ew 3 (S.room a (1+rl.length)).2.s.y,0,(S.room a (1+rl.length)).2.put a kd rl) else(0,(S.room a (1+rl.length)).1,(S.room a (1+rl.length)).2)
def cv.pop (a:Wc)(S:cv)(x:Int):Int×Int×cv:=
 if S.kx a x=5 then(if dV x S.q<S.q.length then((S.q.getD (dV x S.q) (0,0)).2,0,⟨S.s,S.r,S.q.take (dV x S.q)++S.q.drop (dV x S.q+1)⟩) else(0,4,S)) else(0,2,S)
def cv.len (a:Wc)(S:cv)(x:Int):Int×Int×cv:=if S.ex a x=0/\S.kx a x≠5 then(ew 1 (S.fx a x),vc 1 (S.fx a x),S) else(0,2,S)
def cv.rt (a:Wc)(S:cv)(k:Int)(A B:Nat)(I n:Int):Int×Int×cv:=
 if k=1 then(ew 1 n,vc 1 n,S) else if k=3 then(S.s.rs.getD A 0,0,S) else if k=4 then S.b_ a 1 [A,B] else if k=5 then S.b_ a 2 (List.replicate n.toNat A)
 else if k=6 then S.b_ a 3 [A,B] else if k=7 then S.b_ a 4 [A,B] else if k=8 then S.b_ a 5 [] else if k=10 then S.pop a (S.s.rs.getD A 0)
 else if k=11 then((if eD a.N S.s.y S.s.g S.s.ws (S.s.rs.getD A 0) I=0 then ld a.N S.s.y S.s.g S.s.ws (cq (S.s.rs.getD A 0)+1+I) else 0),eD a.N S.s.y S.s.g S.s.ws (S.s.rs.getD A 0) I,S)
 else if k=13 then S.len a (S.s.rs.getD A 0) else if k=14 then(if S.s.rs.getD A 0=S.s.rs.getD B 0 then ew 1 1 else ew 1 0,0,S) else(2,0,S)
def cv.reg (a:Wc)(S:cv)(t g:Int):Int×cv:=
 if S.ex a t=0 then(if S.kx a g=5 then(if 24<=S.r.length+S.q.length then(3,S) else(0,⟨S.s,S.r++[(g,t)],S.q⟩)) else(2,S)) else(S.ex a t,S)
def cv.set (a:Wc)(S:cv)(x i z:Int):cv:=⟨{S.s with ws:=gz a.N S.s.y S.s.g S.s.ws x i z,M:=stM a.N S.s.y S.s.g S.s.ws x i z (dJ a.O) S.s.M},S.r,S.q⟩
def cv.st (S:cv)(R:Nat)(x:Int):cv:=⟨{S.s with rs:=S.s.rs.set R x},S.r,S.q⟩
def cv.hd (a:Wc)(S:cv)(k R A B I n:Int):Int×cv:=
 if d4 k R A B n=0 then(if k=9 then S.reg a (S.s.rs.getD A.toNat 0) (S.s.rs.getD B.toNat 0) else if k=12 then(eD a.N S.s.y S.s.g S.s.ws (S.s.rs.getD A.toNat 0) I,S.set a (S.s.rs.getD A.toNat 0) I (S.s.rs.getD B.toNat 0))
  else if k=15 then(S.code a,S.cut a) else if k=16 then(S.iM a,S.dD a)
  else if(S.rt a k A.toNat B.toNat I n).2.1=0 then(0,(S.rt a k A.toNat B.toNat I n).2.2.st R.toNat (S.rt a k A.toNat B.toNat I n).1) else((S.rt a k A.toNat B.toNat I n).2.1,(S.rt a k A.toNat B.toNat I n).2.2))
 else(d4 k R A B n,S)
theorem zR (k:cj):∀(l:List Int)(s:cr),(l.foldl k.eO s).rs=s.rs
 |[],_=>rfl
 |x::l,s=>by rw[a9,zR k l];unfold cj.eO;split<;>rfl
theorem zS (k:cj):∀(l:List Int)(s:cr),(l.foldl k.gP s).rs=s.rs
 |[],_=>rfl
 |x::l,s=>by rw[a9,zS k l];rfl
section
variable {a:Wc}{S:cv}{Y G:List Int}
theorem eE.GX (h:eE a S.s Y G)(hb:cM a S.s):cM a (S.cut a).s:=by
 unfold cv.cut;cases hf:S.full a
 ·have hr:S.s.y<=a.O-S.s.g:=by exact qz
  obtain⟨K,D,c⟩:=qZ h hb hr;rw[aI ac];have c4:=c.li.mi.ci;have c5:=(c4.mw (fun x b=>(c4.iI x b).1)).1;have d:=(c5.be (fun x b=>(c5.il x b).1)).1;have e:(S.s6 a).rs=(S.s4 a).rs:=(zS _ _ _).trans (zR _ _ _)
  exact⟨hb.n0,hb.n1,hb.o1,a4 _,d.hg,d.len,(e▸c.rl)⟩
 ·exact hb
theorem eE.GY (h:eE a S.s Y G)(hb:cM a S.s):cM a (S.dD a).s:=by
 cases hf:S.fX a
 ·obtain⟨_,g,_⟩:=mA h hb hf;exact(g.gc.inv h hb g.al).2
 ·have b:S.dD a=S:=by unfold cv.dD;rw[aK hf]
  rw[b];exact hb
theorem eE.store {s:ej}(h:eE a s Y G)(hb:cM a s){v i z:Int}(hv:v∈Y)(d:0<=i)(e:i<pf (ld a.N s.y s.g s.ws v))(hz:dd z=true->cq z∈Y\/cq z∈G):eE a {s with ws:=s.ws.set (v+1+i).toNat z} Y G:=by
 refine⟨h.inv.set hb.l1 hb.y1 hb.g1 (aM hv) d e hz,?_⟩
 obtain⟨_,hk⟩:=h.inv.full.set hb.l1 hb.y1 hb.g1 (aM hv) d e;have k:=nl h.inv.full hv d e;have l:=hb.y1;have hl:=hb.l1;intro u b j j0 c ha f;rw[hk u (aL b)] at c;have m:=nm h.inv.full b j0 c;have hi:=kF h.inv.full (aL b) j0 c;have g:ld a.N s.y s.g (s.ws.set (v+1+i).toNat z) (u+1+j)=ld a.N s.y s.g s.ws (u+1+j):=by rw[ef hi,ef hi,lZ _ _ _ _ aa,aI aa]
 rw[g] at ha f;exact h.cd u b j j0 c ha f
end
theorem eE.any {a:Wc}{s:ej}{Y G:List Int}(h:eE a s Y G)(i:Nat)(ha:dd (s.rs.getD i 0)=true):cq (s.rs.getD i 0)∈Y\/cq (s.rs.getD i 0)∈G:=by
 by_cases hi:i<s.rs.length
 ·exact h.inv.at i hi ha
 ·rw[aJ,List.getElem?_eq_none aa] at ha;exact absurd ha ae
theorem uk (ws:List Int)(y:Nat)(x:Int):∀k,(fK ws y x k).length=ws.length
 |0=>by simp[fK]
 |k+1=>by rw[fK,bf];exact uk ws y x k
structure GZ (a:Wc)(S:cv)(kd:Int)(rl:List Nat)(Y G:List Int)(ws:List Int):Prop where
 k:eE a {S.s with y:=S.s.y+1+rl.length,ws:=ws} (Y++[(S.s.y:Int)]) G
 l:ws.length=a.N+a.O
 p:ld a.N (S.s.y+1+rl.length) S.s.g ws S.s.y=hw kd rl.length
 h:∀v,(v∈Y\/v∈G)->ld a.N (S.s.y+1+rl.length) S.s.g ws v=ld a.N S.s.y S.s.g S.s.ws v
theorem ul {a:Wc}{S:cv}{Y G:List Int}{kd:Int}{rl:List Nat}(h:eE a S.s Y G)(hb:cM a S.s)(hk:hc kd rl.length=0)(hr:S.s.y+1+rl.length<=a.N):∀j,j<=rl.length->GZ a S kd rl Y G (i6 S.s.rs S.s.y (fS a.N S.s.y kd rl.length S.s.ws) rl j)
 |0,_=>by
  have hm:iV a.N S.s.y kd rl.length=true:=by unfold iV;simp;omega
  have m:i_ a.N S.s.y kd rl.length=S.s.y+1+rl.length:=by unfold i_;rw[aK hm];omega
  have d:fS a.N S.s.y kd rl.length S.s.ws=fK S.s.ws S.s.y (hw kd rl.length) rl.length:=by unfold fS;rw[aK hm];rfl
  have n:=hb.l1;have hlt:S.s.y+rl.length<S.s.ws.length:=aa;have m1:=h.inv.make hb.l1 hm;have k:=kX.make h.inv h.cd hb.l1 hm;rw[m] at m1 k;have o:(fS a.N S.s.y kd rl.length S.s.ws).length=a.N+a.O:=by rw[d,uk];exact n
  refine⟨⟨m1,k⟩,o,?_,fun v hv=>?_⟩
  ·show ld a.N _ S.s.g (fS a.N S.s.y kd rl.length S.s.ws) S.s.y=_;rw[d,ef (iW aa aa),jT _ _ _ _ _ hlt,aK aa]
  ·show ld a.N _ S.s.g (fS a.N S.s.y kd rl.length S.s.ws) v=_;rw[d];rcases hv with f|f
   ·have hi:=h.inv.full.iH v f;exact xe
   ·have hi:=h.inv.full.io v f;exact sF
 |j+1,p=>by
  have b:=ul h hb hk hr j aa;have e:i6 S.s.rs S.s.y (fS a.N S.s.y kd rl.length S.s.ws) rl (j+1)=(i6 S.s.rs S.s.y (fS a.N S.s.y kd rl.length S.s.ws) rl j).set (S.s.y+1+j) (S.s.rs.getD (rl.getD j 0) 0):=rfl;rw[e];generalize i6 S.s.rs S.s.y _ rl j=ws at b⊢;have g:cM a {S.s with y:=S.s.y+1+rl.length,ws:=ws}:=⟨hb.n0,hb.n1,hb.o1,hr,hb.g1,b.l,hb.r1⟩
  have i:(S.s.y:Int)∈Y++[(S.s.y:Int)]:=ac;have l:((j:Nat):Int)<pf (ld a.N (S.s.y+1+rl.length) S.s.g ws S.s.y):=by rw[b.p,(p8 kd rl.length hk).2.1];omega
  have st:=b.k.store g (z:=S.s.rs.getD (rl.getD j 0) 0) i aa l (fun ha=>by exact(h.any _ ha).imp (fun c=>bk _ c) id)
  have q:((S.s.y:Int)+1+(j:Nat)).toNat=S.s.y+1+j:=aa;have hs:=(b.k.inv.full.set (z:=S.s.rs.getD (rl.getD j 0) 0) b.l g.y1 g.g1 (aM i) (Int.natCast_nonneg j) l).2;refine⟨st,by rw[bf];exact b.l,(hs _ (aM i)).trans b.p,fun v hv=>(hs v (hv.imp (fun c=>bk _ c) id)).trans (b.h v hv)⟩
theorem zT (w:az)(B n1 b:Nat)(l1 l2:List ce)(d f:Addr)(c1 c2:Nat)(g:l1.length=n1)(i:l2.length=b)(j:w.cell? (av B 0)=some (.slice (some d) n1 c1))(k:w.cell? (av B 1)=some (.slice (some f) b c2))(l:dz w (some d) l1)(n:dz w (some f) l2)(hm:n1+b<=100000):
 Calls prog 230 #[.slice (au B) 2 2] w fun e w'=>∃a c m,e=.returned (.slice a m c)/\aA (m=n1+b)/\aA (w'.ownsRow w.heap.size 103 2 (.slice a m c) m (ev (l1++l2)))/\Below w.heap.size w w':=by
 subst g;subst i;refine(EF w B l1 l2 d f c1 c2 j k l n hm).mono ?_;rintro e w' ⟨a,c,rfl,o,p⟩
 exact⟨a,c,_,rfl,rfl,o,p⟩
theorem dz.take {w:az}{ad:Option Addr}{q:List ce}(h:dz w ad q)(i:Nat):dz w ad (q.take i):=by
 intro hp;simp only [List.length_take] at hp;obtain⟨b,o,e,hb,hc⟩:=h aa;refine⟨b,o,e,hb,fun j c=>?_⟩
 simp only [List.length_take] at c;have d:(q.take i).getD j (0,0)=q.getD j (0,0):=by rw[aJ,aJ,List.getElem?_take_of_lt aa]
 rw[d];exact hc j aa
theorem dz.drop {w:az}{b o:Nat}{q:List ce}(h:dz w (some ⟨b,o,none⟩) q)(i:Nat):dz w (some ⟨b,o+i*2,none⟩) (q.drop i):=by
 intro hp;simp only [List.length_drop] at hp;obtain⟨f,g,e,hb,hc⟩:=h aa;cases e;refine⟨b,o+i*2,rfl,hb,fun j c=>?_⟩
 simp only [List.length_drop] at c;have d:(q.drop i).getD j (0,0)=q.getD (i+j) (0,0):=by simp[List.getElem?_drop]
 rw[d,show o+i*2+j*2=o+(i+j)*2 by omega];exact hc (i+j) aa
theorem G0:dS 229:=gw func229 ah rfl
theorem G1 (w:az)(B:Nat)(g:Int)(e:ce)(h:w.cell? (av B 0)=some (ak g)):
 Calls prog 229 #[en e,aq B] w fun r w'=>r=.returned (.bool (e.1==g))/\Below w.heap.size w w':=by
 obtain⟨x,y⟩:=e;have c:=aT w _ h;have b:=aw w (.cells #[.int .i64 x,.int .i64 y] 103)
 ·go_wp2;go_ret;exact⟨ac,b⟩
theorem zU {w w1 b:az}{p m:Nat}{a0 c:Option Addr}{k0 k1 c5 i n:Nat}{r q:List ce}(h:fF w p a0 k0 (au m) k1 r q)(f:Below w.heap.size w w1)(o:Below w1.heap.size w1 b)(g:b.ownsRow w1.heap.size 103 2 (.slice c n c5) n (ev (q.take i++q.drop (i+1))))(hi:i<q.length)(hn:n+1=q.length):
 fF (b.setCell ⟨p,1,none⟩ (.slice c n c5)) p a0 k0 c c5 r (q.take i++q.drop (i+1))/\(∀z,c=some z->w.heap.size<=z.block)/\Fr (fun k=>k=p) w (b.setCell ⟨p,1,none⟩ (.slice c n c5)):=by
 have j:=f.trans (o.mono f.size)
 have d:=h.below j;have hl:(q.take i++q.drop (i+1)).length=n:=by rw[a7,bq,List.length_drop];omega
 have l:∀k,k≠p->(b.setCell ⟨p,1,none⟩ (.slice c n c5)).heap[k]?=b.heap[k]?:=fun k hk=>aW _ _ _ _ hk;refine⟨⟨by rw[hl];exact EI d.blk,cL d.r0 (fun k e=>l k (d.np d.r0 k e)),?_⟩,fun z e=>?_,(Fr.of j).set p 1 _ rfl⟩
 ·rw[hl];exact e8 (cL g (fun k e=>l k (d.np g k e))) (fun _ _=>a4 _)
 ·have:=(cu g z.block (by rw[e];rfl)).1;have:=f.size;omega
theorem zV (w:az)(p:Nat)(a0 a1:Option Addr)(k0 k1:Nat)(r q:List ce)(g:Int)(h:fF w p a0 k0 a1 k1 r q)(aV:q.length<=90000):
 Calls prog 194 #[aq p,ak g] w fun e w'=>
  (e=.returned (.tuple #[ak 0,.bool false])/\(∀e∈q,¬e.1=g)/\Below w.heap.size w w')\/
  (∃(i:Nat)(b1:Option Addr)(c1:Nat),e=.returned (.tuple #[ak (q.getD i (0,0)).2,.bool true])/\i<q.length/\(q.getD i (0,0)).1=g/\(∀e∈q.take i,¬e.1=g)/\fF w' p a0 k0 b1 c1 r (q.take i++q.drop (i+1))/\(∀z,b1=some z->w.heap.size<=z.block)/\Fr (fun k=>k=p) w w'):=by
 obtain⟨c0,c1,al,a2,lp⟩:=h.cells;have H:aA (fF w p a0 k0 a1 k1 r q):=h;have l:=aw w (.cells #[.int .i64 g] 2)
 have y1:=(l.cell (p:=av p 1) lp).trans c1;have P:=C2 (fun _=>True) 229 #[] #[aq w.heap.size] (fun e=>e.1==g) G0 (w.alloc (.cells #[.int .i64 g] 2)) (fun w' e _ hs hk=>G1 w' w.heap.size g e ((aQ (a:=⟨w.heap.size,0,none⟩) (hk _ ac)).trans ac)) q a1 k1 (fun _ _=>trivial) aa ((hZ h.q0).below l)
 clear h c0 al;go_enter func194,ntmps194;go_wp2_with fail;refine P.mono ?_;clear P;rintro e w1 ⟨hb,⟨rfl,hn⟩|⟨i,rfl,hi,ht,hn⟩⟩
 ·have n:aA (∀e∈q,¬e.1=g):=fun e he=>by simpa using hn e he
  have f:=l.trans (hb.mono ac)
  clear hb hn;go_wp2_with fail;go_ret2;exact aM ⟨rfl,n.o,f⟩
 ·have n:aA (∀e∈q.take i,¬e.1=g):=fun e he=>by simpa using hn e he
  have W:aA ((q.getD i (0,0)).1=g):=by show _=_;simpa using ht
  obtain⟨z,s⟩:∃z,aA (z=(q.getD i (0,0)).2):=⟨_,rfl⟩
  have f:=l.trans (hb.mono ac)
  have a3:=f.size;have j:=H.o.below f;obtain⟨ba,ab,bb,ad,o⟩:=j.cells;have t:=qD j.q0;obtain⟨b,cap,ag⟩:=eT j.q0 aa;simp at ag;obtain⟨rfl,rfl⟩:=ag;have bd:=t.le;have am:k1<=maxLen:=by
   rcases j.q0.2 with⟨_,h0⟩|⟨g,be,bg,hv,_,_,_,hc,_⟩
   ·omega
   ·simp at hv;omega
  unfold maxLen at am;obtain⟨bi,bl,an,bn,hc⟩:=t.lp aa;cases an;have ao:=(hc i hi).2;rw[Nat.zero_add,<-s.o] at ao;have bo:(0:Int)<=(i:Int):=aa;have bp:(i:Int)<(q.length:Int):=aa;have br:aA (fF w1 p a0 k0 (au b) k1 r q):=j;clear hb hn l hc j ht;have u:aA (dz w1 (au b) q):=t.lp;have ai:aA ((q.take i).length=i):=by show _=_;rw[bq];omega
  have bs:(i:Int)<=(k1:Int):=aa;have bt:IntKind.i64.wrap ((i:Int)+1)=(i:Int)+1:=by rw[bu];omega
  have bx:(0:Int)<=(i:Int)+1:=aa;have b0:(i:Int)+1<=(q.length:Int):=aa;have b2:((i:Int)+1).toNat=i+1:=aa;have b3:(i:Int).toNat=i:=aa;by_cases hk:i+1=k1
  ·subst hk;have hz:q.length-(i+1)=0:=aa;have c:=(aw w1 (.cells #[.slice (some ⟨b,0,none⟩) i (i+1),.slice (some ⟨b,0,none⟩) 0 0] 151)).drew;have v:aA ((q.drop (i+1)).length=0):=by show _=_;rw[List.length_drop];omega
   have ap:dz (w1.alloc (.cells #[.slice (some ⟨b,0,none⟩) i (i+1),.slice (some ⟨b,0,none⟩) 0 0] 151)).drew (au b) (q.drop (i+1)):=fun h=>by rw[List.length_drop] at h;omega
   go_wp2_with fail
   go_region_with (go_at_call 230;refine(zT _ w1.heap.size i (0) (q.take i) (q.drop (i+1)) ⟨b,0,none⟩ ⟨b,0,none⟩ (i+1) (0) ai.o v.o ac ac ((u.o.take i).below c) (ap) aa).mono ?_;rintro e x ⟨B,c5,ar,rfl,F,m,d⟩;have aB:=(d.cell (p:=av p 1) (by simp;omega)).trans ((c.cell (p:=av p 1) o).trans ab);have aF:=(d.frozen (p:=av p 1) (by simp;omega)).trans ((c.frozen (p:=av p 1) o).trans ad))
   all_goals
    go_wp2_with fail;go_ret2;refine aL ⟨i,B,c5,by rw[<-s.o];rfl,hi,W.o,n.o,?_⟩
    have N:Below w1.heap.size w1 x:=c.trans (d.mono ac)
    exact zU H.o f N (e8 m.o (fun k e=>by have:=(cu m.o k e).1;simp at this;omega)) hi (by have:=F.o;omega)
  ·have b4:¬k1=i+1:=fun e=>hk e.symm;have c:=(aw w1 (.cells #[.slice (some ⟨b,0,none⟩) i k1,.slice (some ⟨b,(i+1)*2,none⟩) (q.length-(i+1)) (k1-(i+1))] 151)).drew;have v:aA ((q.drop (i+1)).length=q.length-(i+1)):=List.length_drop;have S:=(u.o.drop (i+1)).below c;rw[Nat.zero_add] at S;have aR:aA (dz (w1.alloc (.cells #[.slice (some ⟨b,0,none⟩) i k1,.slice (some ⟨b,(i+1)*2,none⟩) (q.length-(i+1)) (k1-(i+1))] 151)).drew (some ⟨b,(i+1)*2,none⟩) (q.drop (i+1))):=S;clear S;go_wp2_with fail
   go_region_with (go_at_call 230;refine(zT _ w1.heap.size i (q.length-(i+1)) (q.take i) (q.drop (i+1)) ⟨b,0,none⟩ ⟨b,(i+1)*2,none⟩ k1 (k1-(i+1)) ai.o v.o ac ac ((u.o.take i).below c) (aR.o) aa).mono ?_;rintro e x ⟨B,c5,ar,rfl,F,m,d⟩;have aB:=(d.cell (p:=av p 1) (by simp;omega)).trans ((c.cell (p:=av p 1) o).trans ab);have aF:=(d.frozen (p:=av p 1) (by simp;omega)).trans ((c.frozen (p:=av p 1) o).trans ad))
   all_goals
    go_wp2_with fail;go_ret2;refine aL ⟨i,B,c5,by rw[<-s.o];rfl,hi,W.o,n.o,?_⟩
    have N:Below w1.heap.size w1 x:=c.trans (d.mono ac)
    exact zU H.o f N (e8 m.o (fun k e=>by have:=(cu m.o k e).1;simp at this;omega)) hi (by have:=F.o;omega)
end Go.Proofs.YtpkjkjhanlbcoaaGreat
