import Derived.Test.YtjpjpjemibgjpaaGreatJ05
import Derived.Deep.LoopGhost
import Derived.Deep.DeepCutAuto
namespace Go.Proofs.YtjpjpjemibgjpaaGreat
set_option maxRecDepth 100000
set_option maxHeartbeats 8000000
open Tryz
open Go.RowKit W Kp cg
theorem qa {P:Prop}(h:P:=by
 go_wp2_with fail;go_roundw;exact⟨i+1,V,af,nz⟩
 simp[intOf];omega):P:=h
theorem oL {P:Prop}(h:P:=by have:=(List.getElem?_eq_some_iff.1 hj).1;simpa using this):P:=h
theorem xi {P:Prop}(h:P:=by
 go_wp2_with fail;go_roundw
 case rel=>exact⟨i+1,L,more,V,rfl,af,⟨HB1.o.1,HB1.o.2.1⟩,HN⟩
 case measure=>simp[intOf];omega):P:=h
theorem sB {P:Prop}(h:P:=by simp only [World.setCell,Array.getElem?_modify,if_true,h,Option.map_some];simp):P:=h
theorem xj:d3 113:=gP func113 ae rfl
theorem Dw:d3 114:=gP func114 ae rfl
theorem Dx:d3 118:=gP func118 ae rfl
def xk:Value->Nat
 |.slice _ n _=>n
 |_=>0
def qb (n m:Nat):Nat:=if n=0 then 0 else m+1
theorem Dy {c b y n:Nat}(hc:¬c=0)(h:y+n=b):qb y n<qb c b:=by unfold qb;rw[aE hc];split<;>omega
theorem nA {w:au}{a:Addr}{p i:Nat}{v:Value}(h:a.block≠p):(w.setCell ⟨p,i,none⟩ v).cell? a=w.cell? a:=aU (aN _ _ _ _ h)
theorem qc {w:au}{p:Nat}{x y v1 v2:Value}{T:TypeId}(h:w.heap[p]?=some (.cells #[x,y] T (0,0))):((w.setCell ⟨p,0,none⟩ v1).setCell ⟨p,1,none⟩ v2).heap[p]?=some (.cells #[v1,v2] T (0,0)):=by exact sB
theorem Fr.unbox {F:Nat->Prop}{w w':au}{p bl b bs:Nat}{d fk e:fH}(h:Fr (fun k=>F k\/k=bl\/k=b\/k=bs) w w')(hB:kW w p bl b bs d fk e)(c:kW w' p bl b bs d fk e):Fr F w w':=
 ⟨h.os,h.tape,h.output,h.size,fun k hk j=>by
  by_cases f:k=bl
  ·rw[f,hB.l,c.l]
  by_cases g:k=b
  ·rw[g,hB.g,c.g]
  by_cases i:k=bs
  ·rw[i,hB.s,c.s]
  exact h.block k hk (by simp[j,f,g,i])⟩
theorem Dz {M:Type}(o:fB M)(D:Int->Prop)(l fk d:fH)(is:M->Int->Bool)(kp:M->Int->Int×M)(nw:M->Int->Int)(bi:lP o D l fk d is kp nw)(r:List bZ)(bn:Option Addr)(ci:Nat)(cQ:o.vr=.slice bn r.length ci)(cR:r.length<=90000)(hD:∀e∈r,D e.1/\D e.2)
 (F:Nat->Prop)(s:M)(w:au)(dH:∀e∈o.wt (fi o is kp s r),D e.1/\D e.2)(eA:(o.wt s).length+r.length<=90000)(bl b bs G:Nat)(ap:o.J F s w)(hB:kW w o.p bl b bs l fk d)(cj:w.heap[G]?=some (.cells #[mE b bl bs] 81 (0,0)))(bo:¬F bl)(bp:¬F b)(dI:¬F bs)(dJ:¬F G)(dK:G≠bl/\G≠b/\G≠bs)(cS:cY w bn r):
 Calls prog 116 #[aj bs,aj bl,aj G,aj b] w fun e w'=>∃a1 c1 a2 c2 br cT,e=.returned (.bool true)/\o.J br (fi o is kp s r) cT/\Fr (fun k=>k=o.p) cT w'/\
  w'.heap[o.p]?=some (.cells #[.slice a1 (eP o is kp nw s r).length c1,.slice a2 (eQ o is kp nw s r).length c2] 128 (0,0))/\w'.ownsRow w.heap.size 83 2 (.slice a1 (eP o is kp nw s r).length c1) (eP o is kp nw s r).length (ev (eP o is kp nw s r))/\
  w'.ownsRow w.heap.size 83 2 (.slice a2 (eQ o is kp nw s r).length c2) (eQ o is kp nw s r).length (ev (eQ o is kp nw s r))/\Fr F w w'/\(∀k,br k->F k\/w.heap.size<=k)/\(∀k,some k=(Value.slice a1 (eP o is kp nw s r).length c1).ownBlock->¬br k)/\(∀k,some k=(Value.slice a2 (eQ o is kp nw s r).length c2).ownBlock->¬br k)/\(∀k,some k=(Value.slice a1 (eP o is kp nw s r).length c1).ownBlock->some k≠(Value.slice a2 (eQ o is kp nw s r).length c2).ownBlock):=by
 obtain⟨eB,eC,hp,_,eE,_⟩:=o.side ap;rw[cQ] at hp;have c3:w.cell? (am bs 0)=some (aj o.p):=ay hB.s
 have c4:w.cell? (am o.p 0)=some (.slice bn r.length ci):=ay hp
 have l1:bl<w.heap.size:=lt_of_some hB.l;have l2:b<w.heap.size:=lt_of_some hB.g;have eF:bs<w.heap.size:=lt_of_some hB.s;have dL:G<w.heap.size:=lt_of_some cj;have v:av (lP o D l fk d is kp nw):=bi;have dM:av (kW w o.p bl b bs l fk d):=hB;have eG:av (∀e∈r,D e.1/\D e.2):=hD;have dN:av (∀e∈o.wt (fi o is kp s r),D e.1/\D e.2):=dH;have dO:av (w.heap[G]?=some (.cells #[mE b bl bs] 81 (0,0))):=cj;have c0:w.cell? (am bl 0)=some l.v:=ay hB.l
 have ck:=rX (fun e=>D e.1/\D e.2) 118 #[] #[aj bl] (fun e=>is s e.2) Dx w (fun w' e hd hs hk=>Dt o.todP D l is bi.ea bi.ha F s w' bl e hd.2 (o.keep ap hs (fun k h=>hk k (o.lt ap k h))) ((aU (a:=⟨bl,0,none⟩) (hk bl l1)).trans c0)) r bn ci hD V cS;obtain⟨A,bt⟩:∃A,av (A=r.filter (fun e=>is s e.2)):=⟨_,rfl⟩
 obtain⟨B,ar⟩:∃B,av (B=r.filter (fun e=>!is s e.2)):=⟨_,rfl⟩
 rw[<-bt.o,<-ar.o] at ck;have dP:A.length<=90000:=by rw[bt.o];exact aP (bk _ _) cR
 have cU:B.length<=90000:=by rw[ar.o];exact aP (bk _ _) cR
 have dQ:(o.wt s).length+B.length<=90000:=by have:=bk (fun e=>!is s e.2) r;rw[ar.o];omega
 have cV:av ((eD (cm o is kp) (B.length+1) s B).1=fi o is kp s r):=by show _=_;rw[ar.o];rfl
 have cW:av (∀e∈A,D e.1/\D e.2):=fun e he=>hD e (by rw[bt.o] at he;exact(List.mem_filter.1 he).1)
 have dR:av (∀e∈B,D e.1/\D e.2):=fun e he=>hD e (by rw[ar.o] at he;exact(List.mem_filter.1 he).1)
 have cX:av ((boxed o bl b bs l fk d).J (fun k=>F k\/k=bl\/k=b\/k=bs) s w):=⟨F,ap,hB,bo,bp,dI,fun k=>Iff.rfl⟩
 clear bi ap hp cQ cS cj hD hB c0;go_enter func116,ntmps116;go_wp2_with fail;refine ck.mono ?_;clear ck;rintro e w1 ⟨a1,ax,a2,cl,rfl,cn,co,cp⟩
 have cZ:Fr (fun k=>F k\/k=bl\/k=b\/k=bs) w w1:=Fr.of cp;have c5:=(boxed o bl b bs l fk d).below cX.o cp;have c6:av (∀k,(F k\/k=bl\/k=b\/k=bs)->(F k\/k=bl\/k=b\/k=bs)\/w.heap.size<=k):=fun k h=>aJ h;have cq:=(boxed o bl b bs l fk d).lt cX.o;have O:av (∀k,some k=(Value.slice a1 A.length ax).ownBlock->¬(F k\/k=bl\/k=b\/k=bs)):=fun k e h=>by have:=(ce cn k e).1;have:=cq k h;omega
 have c7:av (∀k,some k=(Value.slice a2 B.length cl).ownBlock->¬(F k\/k=bl\/k=b\/k=bs)):=fun k e h=>by have:=(ce co k e).1;have:=cq k h;omega
 clear cq cp;go_wp2_with fail
 go_loopw [6,7] (fun cr vc wr=>∃(f C:List bZ)(aB c8:Option Addr)(cd cc n:Nat)(S:Nat->Prop)(s2:M),cr=.slice aB f.length cd/\vc=.slice c8 C.length cc/\av (C.length=0->s2=fi o is kp s r)/\av (¬C.length=0->(eD (cm o is kp) n s2 f).1=fi o is kp s r/\f.length<n)/\av (∀e∈f,D e.1/\D e.2)/\f.length<=90000/\C.length<=90000/\(o.wt s2).length+f.length<=90000/\
  wr.ownsRow w.heap.size 83 2 (.slice aB f.length cd) f.length (ev f)/\wr.ownsRow w.heap.size 83 2 (.slice a1 A.length ax) A.length (ev A)/\(boxed o bl b bs l fk d).J S s2 wr/\Fr (fun k=>F k\/k=bl\/k=b\/k=bs) w wr/\av (∀k,S k->(F k\/k=bl\/k=b\/k=bs)\/w.heap.size<=k)/\
  av (∀k,some k=(Value.slice a1 A.length ax).ownBlock->¬S k)/\av (∀k,some k=(Value.slice aB f.length cd).ownBlock->¬S k)) (fun cr vc _=>qb (xk vc) (xk cr))
 case atStart=>
  refine⟨B,B,a2,a2,cl,cl,B.length+1,(fun k=>F k\/k=bl\/k=b\/k=bs),s,rfl,rfl,fun h=>?_,fun _=>⟨cV.o,Nat.lt_succ_self _⟩,dR,cU,cU,dQ,co,cn,c5,cZ,c6,O,c7⟩
  rw[<-cV.o,List.eq_nil_of_length_eq_zero h];rfl
 case round=>
  clear cn co c5 cZ c6 O c7;obtain⟨f,C,aB,c8,cd,cc,n,S,s2,rfl,rfl,cs,U,c9,eH,eI,eJ,hd,aF,ct,P,bx,O,cu⟩:=hrel;by_cases W:C.length=0
  ·have bY:av (s2=fi o is kp s r):=cs.o W;obtain⟨Q,j0,H,n1,cw,cx,da⟩:=ct;have db:wr.cell? (am b 0)=some (.func (.func 113) #[] #[aj bl]):=ay H.g
   have dc:wr.cell? (am bl 0)=some l.v:=ay H.l
   have dd:wr.cell? (am bl 2)=some (.func (.func d.f) d.b d.c):=ay H.l
   have de:wr.cell? (am bs 0)=some (aj o.p):=ay H.s
   obtain⟨aR,aT,b0,df,aV,dS⟩:=o.side j0;have dg:wr.cell? (am o.p 1)=some (.slice aR (o.wt s2).length aT):=ay b0
   have m1:=lt_of_some H.l;have cy:=lt_of_some H.g;have cz:=lt_of_some H.s;have cA:=lt_of_some b0;have dh:=P.size;have di:av (∀(w':au)(e:bZ),D e.1/\D e.2->wr.heap.size<=w'.heap.size->(∀k,k<wr.heap.size->w'.heap[k]?=wr.heap[k]?)->Calls prog 113 ((#[]:Array Value).push (en e)++#[aj bl]) w' fun r dT=>r=.returned (.bool (is s2 e.1))/\Below w'.heap.size w' dT):=
    fun w' e hd hs hk=>xh o.todP D l is v.o.ea v.o.ha Q s2 w' bl e hd.1 (o.keep j0 hs (fun k h=>hk k (o.lt j0 k h))) ((aU (a:=⟨bl,0,none⟩) (hk bl m1)).trans dc)
   have cB:=rX (fun e=>D e.1/\D e.2) 113 #[] #[aj bl] (fun e=>is s2 e.1) xj wr di.o A a1 ax cW.o V (gh aF)
   obtain⟨t,b3⟩:∃t,av (t=A.filter (fun e=>is s2 e.1)):=⟨_,rfl⟩
   rw[<-b3.o] at cB;have eK:t.length<=90000:=by rw[b3.o];exact aP (bk _ _) dP
   have dU:av (∀e∈t,D e.1/\D e.2):=fun e he=>cW.o e (by rw[b3.o] at he;exact(List.mem_filter.1 he).1)
   have dV:(o.wt s2).length<=90000:=V;have dj:av (∀e∈o.wt s2,D e.1/\D e.2):=by rw[bY.o];exact dN
   obtain⟨u,b4⟩:∃u,av (u=(o.wt s2).filter (fun e=>is s2 e.1)):=⟨_,rfl⟩
   have eL:u.length<=90000:=by rw[b4.o];exact aP (bk _ _) dV
   have dW:av (∀e∈u,D e.1/\D e.2):=fun e he=>dj.o e (by rw[b4.o] at he;exact(List.mem_filter.1 he).1)
   have cC:av (kW wr o.p bl b bs l fk d):=H;have dX:av (o.J Q s2 wr):=j0;have dY:av (it wr aR (o.wt s2) aT):=df;have dk:av (Fr (fun k=>F k\/k=bl\/k=b\/k=bs) w wr):=P;clear hd aF H j0 df P cs U O cu dS;go_wp2_with fail;refine cB.mono ?_;clear cB;rintro e w3 ⟨b1,cD,b2,cE,rfl,cF,_,E⟩
   have cG:=rX (fun e=>D e.1/\D e.2) 113 #[] #[aj bl] (fun e=>is s2 e.1) xj w3.drew (fun w' e hd hs hk=>di.o w' e hd (aP E.size hs) (fun k h=>(hk k (aM h E.size)).trans (E.block k h))) (o.wt s2) aR aT dj.o V (dY.o.lp.below E.drew)
   rw[<-b4.o] at cG;have dl:=(E.cell (p:=am b 0) cy).trans db;have dm:=(E.cell (p:=am bs 0) cz).trans de;have dn:=(E.cell (p:=am o.p 1) cA).trans dg;have dp:=(E.cell (p:=am bl 2) m1).trans dd;go_wp2_with fail;have a0:=E.size
   go_region_held3 (fun w'=>w'.cell? (am bs 0)=some (aj o.p)/\w'.cell? (am o.p 1)=some (.slice aR (o.wt s2).length aT)/\w'.cell? (am b 0)=some (.func (.func 113) #[] #[aj bl])) (go_keep)
    (first|(go_at_call 117;refine cG.mono ?_;rintro e g ⟨dZ,d0,eM,eN,rfl,dq,_,K⟩;have d1:=(K.cell (p:=am b 0) (aM cy a0)).trans dl;have cH:=(K.cell (p:=am bs 0) (aM cz a0)).trans dm;have d2:=(K.cell (p:=am o.p 1) (aM cA a0)).trans dn;have cI:=(K.cell (p:=am bl 2) (aM m1 a0)).trans dp))
   have a3:Below wr.heap.size wr g:=E.drew.trans (K.mono a0)
   have eO:w3.heap.size<=g.heap.size:=K.size;have dr:=cv (w:=w3) cF (fun k e=>K.block k (ce cF k e).2)
   have b5:=o.below dX.o a3;have ds:=(a3.block o.p cA).trans b0;have b6:o.p≠bs:=fun e=>cx (by rw[<-e];exact aV)
   have b7:o.p≠bl:=fun e=>n1 (by rw[<-e];exact aV)
   have d3:o.p≠b:=fun e=>cw (by rw[<-e];exact aV)
   have dt:av (∀k,Q k->F k\/w.heap.size<=k):=fun k h=>by
    rcases bx.o k ((da k).2 (aJ h)) with(c|c|c|c)|c
    ·exact aJ c
    ·exact absurd (by rw[<-c];exact h) n1
    ·exact absurd (by rw[<-c];exact h) cw
    ·exact absurd (by rw[<-c];exact h) cx
    ·exact aI c
   have d4:av (Q o.p):=aV;have du:o.p<g.heap.size:=lt_of_some ds;have dv:bs<g.heap.size:=V;have dw:bl<g.heap.size:=V;have d5:t.length<=100000:=V;have d6:u.length<=100000:=V;have dx:=gh dr;have dy:=gh dq;have cJ:=o.below b5 (ao g).drew;have dz:=dx.below (ao g).drew;have dA:=dy.below (ao g).drew;clear cF K E dl dm dn dp dc db de dg dd cG d1 d2 b0 aV n1 cw cx da;go_wp2_with fail
   go_region_held3 (fun w'=>w'.cell? (am bs 0)=some (aj o.p)/\w'.cell? (am bl 2)=some (.func (.func d.f) d.b d.c)) (first|exact⟨cH,cI⟩|exact⟨cK,cL⟩|exact⟨b8,b9⟩|exact⟨(nA b6.symm).trans b8,(nA b7.symm).trans b9⟩|exact⟨(nA b6.symm).trans ((nA b6.symm).trans b8),(nA b7.symm).trans ((nA b7.symm).trans b9)⟩)
    (first
      |(have eR:=I;go_at_call 119;refine(xg o.todP D d.f d.b d.c nw v.o.en v.o.ht u dZ d0 Q s2 _ dW.o d6 (o.below cJ I) (dA.below I)).mono ?_;rintro e q ⟨ab,ad,rfl,J,R⟩;have eS:=R.size;have b8:=(R.cell (p:=am bs 0) (aM dv bb)).trans cK;have b9:=(R.cell (p:=am bl 2) (aM dw bb)).trans cL;have bd:=(R.block o.p (aM du bb)).trans ((I.block o.p du).trans ds);have q0:q.cell? (am o.p 0)=some o.vr:=ay bd;have q1:q.cell? (am o.p 1)=some (.slice aR (o.wt s2).length aT):=ay bd;have d8:q.frozen? (am o.p 0)=false:=az bd;have d9:q.frozen? (am o.p 1)=false:=(by simp[World.frozen?,bd]))
      |(go_at_call 119;refine(xg o.todP D d.f d.b d.c nw v.o.en v.o.ht t b1 cD Q s2 _ dU.o d5 cJ dz).mono ?_;rintro e ca ⟨ag,ai,rfl,L,I⟩;have bb:=I.size;have cK:=(I.cell (p:=am bs 0) dv).trans cH;have cL:=(I.cell (p:=am bl 2) dw).trans cI))
   have ea:Below g.heap.size g ca:=(ao g).drew.trans (I.mono bW)
   have dB:Below g.heap.size g q:=ea.trans (R.mono bb)
   have cb:Below wr.heap.size wr q:=a3.trans (dB.mono a3.size)
   have eb:=o.below b5 dB;have ec:av (ca.ownsRow g.heap.size 83 2 (.slice ag t.length ai) t.length (ev (t.map fun e=>(nw s2 e.1,nw s2 e.2)))):=L;have ed:av (q.ownsRow g.heap.size 83 2 (.slice ab u.length ad) u.length (ev (u.map fun e=>(nw s2 e.1,nw s2 e.2)))):=d7 J (fun k e=>aP bb (ce J k e).1)
   have ee:av (Below ca.heap.size ca q):=R;have ef:av (∀k,some k=(Value.slice ag t.length ai).ownBlock->some k≠(Value.slice ab u.length ad).ownBlock):=fun k e eg=>by have bo:=(ce L k e).2;have bp:=(ce J k eg).1;omega
   clear L J I R dz dA cJ dx dy dr dq cK cL b8 b9 cH cI q0 q1 d8 d9;go_wp2_with fail;go_ret;have eh:eP o is kp nw s r=t.map fun e=>(nw s2 e.1,nw s2 e.2):=by unfold eP;rw[<-bY.o,<-bt.o,<-b3.o]
   have ei:eQ o is kp nw s r=u.map fun e=>(nw s2 e.1,nw s2 e.2):=by unfold eQ;rw[<-bY.o,<-b4.o]
   have be:∀k,k≠o.p->((q.setCell ⟨o.p,0,none⟩ (.slice ag t.length ai)).setCell ⟨o.p,1,none⟩ (.slice ab u.length ad)).heap[k]?=q.heap[k]?:=fun k hk=>(aN _ _ _ _ hk).trans (aN _ _ _ _ hk)
   have L:=ec.o;have J:=ed.o;have dC:=dk.o.size;have dD:=a3.size;have ej:kW ((q.setCell ⟨o.p,0,none⟩ (.slice ag t.length ai)).setCell ⟨o.p,1,none⟩ (.slice ab u.length ad)) o.p bl b bs l fk d:=
    ⟨(be bl b7.symm).trans ((cb.block bl m1).trans cC.o.l),(be b d3.symm).trans ((cb.block b cy).trans cC.o.g),(be bs b6.symm).trans ((cb.block bs cz).trans cC.o.s)⟩
   have dE:Fr (fun k=>k=o.p) q ((q.setCell ⟨o.p,0,none⟩ (.slice ag t.length ai)).setCell ⟨o.p,1,none⟩ (.slice ab u.length ad)):=((Fr.refl (fun k=>k=o.p) q).set o.p 0 _ rfl).set o.p 1 _ rfl;rw[eh,ei,aQ,aQ,<-bY.o];refine⟨ag,ai,ab,ad,Q,q,rfl,eb,dE,qc bd,?_,?_,?_,dt.o,fun k e h=>?_,fun k e h=>?_,ef.o⟩
   ·refine d7 (cv L (fun k e=>?_)) (fun k e=>aP (aP dC dD) (ce L k e).1)
    have:=ce L k e;exact(be k V).trans (ee.o.block k this.2)
   ·refine d7 (cv J (fun k e=>?_)) (fun k e=>aP (aP dC dD) (ce J k e).1)
    have:=ce J k e;exact be k V
   ·exact((dk.o.trans (Fr.of (X:=fun _=>False) cb) (fun _ c=>c.elim)).trans dE (fun i c=>by rw[c];exact(dt.o o.p d4.o).imp aJ id)).unbox dM.o ej
   ·have:=o.lt b5 k h;have:=(ce L k e).1;omega
   ·have:=o.lt b5 k h;have:=(ce J k e).1;omega
  ·have ek:wr.cell? (am G 0)=some (mE b bl bs):=by
    have hk:=P.block G dL (by simp[dJ,dK])
    simp[World.cell?,hk,dO.o]
   have dF:∀j,j<f.length->∀x,(o.wt (kp (pts (cm o is kp) s2 (f.take j)).2.2 x).2).length<=90000:=fun j eT x=>by
    have bo:=sA o is kp v.o.hl s2 (f.take j)
    have bp:=om (cm o is kp) s2 (f.take j)
    rw[v.o.hl,bo];simp at bp;omega
   have cf:=vH (boxed o bl b bs l fk d) (fun e=>D e.1/\D e.2) (fun s=>∀x,(o.wt (kp s x).2).length<=90000) 114 #[] #[aj b,aj bl,aj bs] (cm o is kp) Dw (Dv o bl b bs D l fk d is kp v.o.ea v.o.eT v.o.ha v.o.hk) f aB cd S s2 wr c9.o dF V ct ((gh hd).apart (fun _ z e=>cu.o z.block (by rw[e];rfl)))
   obtain⟨Y,N,al,bg⟩:∃Y N al,av (pts (cm o is kp) s2 f=(Y,N,al)):=⟨_,_,_,rfl⟩
   have cM:=om (cm o is kp) s2 f;have cN:=sA o is kp v.o.hl s2 f;have cg:=sy (cm o is kp) s2 f;rw[bg.o] at cf cM cg cN;dsimp only at cf cM cg cN;have el:(o.wt al).length+N.length<=90000:=V;clear cN dF;obtain⟨n,rfl⟩:∃m,n=m+1:=⟨n-1,by have:=(U.o W).2;omega⟩
   have em:av (Y.length=0->al=fi o is kp s r):=fun h=>by
    have e:=lN (cm o is kp) n s2 f (by rw[bg.o];exact h)
    rw[<-(U.o W).1,e,bg.o]
   have eo:av (¬Y.length=0->(eD (cm o is kp) n al N).1=fi o is kp s r/\N.length<n):=fun h=>by
    have e:=lO (cm o is kp) n s2 f (by rw[bg.o];exact h)
    refine⟨?_,?_⟩
    ·rw[<-(U.o W).1,e,bg.o]
    ·have:=(U.o W).2;omega
   have ep:av (∀e∈N,D e.1/\D e.2):=fun e he=>c9.o e (cg e (aI he))
   clear cg;go_wp2_with fail;refine cf.mono ?_;clear cf;rintro e eU ⟨b1,cD,b2,cE,ch,rfl,eq,hN,er,cO,cP,es,dG⟩
   have dh:=P.size;have et:av (∀k,ch k->(F k\/k=bl\/k=b\/k=bs)\/w.heap.size<=k):=fun k h=>(cP k h).elim (bx.o k) (fun h=>aI V)
   have eu:av (∀k,some k=(Value.slice a1 A.length ax).ownBlock->¬ch k):=fun k e h=>(cP k h).elim (O.o k e) (fun h=>by have:=(ce aF k e).2;omega)
   have ew:av (∀k,some k=(Value.slice b2 N.length cE).ownBlock->¬ch k):=dG;have ex:=gH aF cO O.o;have ey:=P.trans cO bx.o;have ez:=d7 hN (base':=w.heap.size) (fun k e=>aP dh (ce hN k e).1)
   clear cP es dG eq hN aF P cO ct bx O cu hd cs U ek;go_wp2_with fail;go_roundw
   case rel=>exact⟨N,Y,b2,b1,cE,cD,n,ch,al,rfl,rfl,em,eo,ep,V,V,el,ez,ex,er,ey,et,eu,ew⟩
   case measure=>
    exact Dy W cM
theorem qd (w:au)(f:Option Addr)(c:Nat)(L:List Bool)(v:Int×Int)(h:kq w f L)(g:v.1=3->0<=v.2/\v.2<L.length)(hm:L.length<=100000):
 Calls prog 93 #[.slice f L.length c,.agg #[ah v.1,ah v.2]] w fun e w'=>e=.returned (.bool (dq L v))/\Below w.heap.size w w':=by
 obtain⟨k,n⟩:=v;have d:=an w (.cells #[.int .i64 k,.int .i64 n] 77)
 by_cases hk:k=3
 ·subst hk;obtain⟨n0,n1⟩:=g rfl;obtain⟨n,rfl⟩:=Int.eq_ofNat_of_zero_le n0;obtain⟨b,rfl,i,hc⟩:=h V;have e:dq L (3,(n:Int))=L.getD n false:=by unfold dq;simp
  rw[e];have j:=(d.cell (p:=am b n) i).trans (hc n V)
  clear hc g e n0;generalize L.getD n false=r at*;go_enter func93,ntmps93;go_wp2;go_ret;exact⟨rfl,d⟩
 ·have e:dq L (k,n)=true:=by unfold dq;simp[hk]
  rw[e];go_enter func93,ntmps93;go_wp2;go_ret;exact⟨rfl,d⟩
theorem qe (w:au)(f:Nat)(g:Option Addr)(c base:Nat)(L:List Bool)(v:Int×Int)(h:fS w f g c base L)(p:v.1=3->0<=v.2/\v.2<L.length)(hm:L.length<=100000):
 Calls prog 159 #[.agg #[ah v.1,ah v.2],aj f] w fun e w'=>e=.returned (.bool (!dq L v))/\fS w' f g c base (el L v)/\Fr (fun k=>some k=(Value.slice g L.length c).ownBlock) w w':=by
 have q:=an w (.cells #[.int .i64 v.1,.int .i64 v.2] 77)
 have m:=h.below q;have j:=qd (w.alloc (.cells #[.int .i64 v.1,.int .i64 v.2] 77)) g c L v (oI m.row) p hm;have c0:(w.alloc (.cells #[.int .i64 v.1,.int .i64 v.2] 77)).cell? (am f 0)=some (.slice g L.length c):=ay m.blk
 have lo:=lt_of_some h.blk;have d:=ir q m (aL w (.cells #[.int .i64 v.1,.int .i64 v.2] 77))
 cases hs:dq L v
 ·obtain⟨s,g2⟩:=oG hs;obtain⟨n0,n1⟩:=p s;have o:el L v=L.set v.2.toNat true:=by unfold el;rw[aE (by rw[hs];simp)]
  rw[hs] at j;rw[o];obtain⟨k,n⟩:=v;subst s;obtain⟨n,rfl⟩:=Int.eq_ofNat_of_zero_le n0;rw[Int.toNat_natCast];obtain⟨b,A,u⟩:=dW h.row V;cases u;go_enter func159,ntmps159;go_wp2_with fail;generalize w.alloc (.cells #[.int .i64 3,.int .i64 (n:Int)] 77)=w0 at*;generalize x:w.heap.size=t at*;refine j.mono ?_;clear j;rintro e w1 ⟨rfl,i⟩
  have B1:=d.o.2.1.below i;have q1:w1.cell? (am t 1)=some (ah (n:Int)):=by simp[World.cell?,((i.block t (lt_of_some d.o.2.2)).trans d.o.2.2)]
  have c1:w1.cell? (am f 0)=some (.slice (ak b) L.length c):=ay B1.blk
  have hg:(L.map Value.bool)[n]?=some (.bool (L.getD n false)):=by rw[bq,aG (by omega:n<L.length),aC,aG (by omega:n<L.length)];rfl
  obtain⟨y1,B⟩:=e8 B1.row hg;have l:av (fS (w1.setCell ⟨b,n,none⟩ (.bool true)) f (ak b) c base (L.set n true)/\Fr (fun k=>some k=(Value.slice (ak b) L.length c).ownBlock) w (w1.setCell ⟨b,n,none⟩ (.bool true))):=by
   refine⟨⟨?_,?_⟩,(Fr.of (by rw[x];exact d.o.1.trans (i.mono (by have:=lt_of_some d.o.2.2;omega)))).set b n _ rfl⟩
   ·rw[aX];exact(aN _ _ _ _ (fun e=>(B1.ne b rfl) (Eq.symm e))).trans B1.blk
   ·rw[aX,List.map_set];exact jq B1.row n (.bool true)
  clear i B1 hg;go_wp2;go_ret;exact⟨rfl,l.o.1,l.o.2⟩
 ·have o:el L v=L:=by unfold el;rw[aH hs]
  rw[hs] at j;rw[o];obtain⟨k,n⟩:=v;go_enter func159,ntmps159;go_wp2_with fail;refine j.mono ?_;rintro e w1 ⟨rfl,i⟩
  have l:av (fS w1 f g c base L/\Fr (fun k=>some k=(Value.slice g L.length c).ownBlock) w w1):=⟨d.o.2.1.below i,Fr.of (d.o.1.trans (i.mono d.o.1.size))⟩
  go_wp2;go_ret;exact⟨rfl,l.o.1,l.o.2⟩
structure Wg (w:au)(p:Nat)(T:List cG)(wt:List bZ):Prop where
 th:∃xl cT,w.cell? (am p 0)=some (.slice xl T.length cT)/\∀(i:Nat)(x:cG),T[i]?=some x->∃b ad cp,xl=ak b/\w.cell? (am b (i*4))=some (ah x.1)/\w.cell? (am b (i*4+1))=some (.slice ad x.2.1.length cp)/\w.cell? (am b (i*4+2))=some (.bool x.2.2.1)/\w.cell? (am b (i*4+3))=some (.bool x.2.2.2)/\cY w ad x.2.1
 wa:∃a3 c3,w.cell? (am p 3)=some (.slice a3 wt.length c3)/\cY w a3 wt
theorem Wg.below {w w':au}{p:Nat}{T:List cG}{wt:List bZ}(h:Wg w p T wt)(c:Below w.heap.size w w'):Wg w' p T wt:=by
 have k:∀{a:Addr}{v:Value},w.cell? a=some v->_=_:=fun {a v} e=>(c.cell (aK w _ e)).trans e;refine⟨?_,?_⟩
 ·obtain⟨g,cT,d,f⟩:=h.th;refine⟨g,cT,k d,fun i x j=>?_⟩
  obtain⟨b,l,cp,e,m,n,o,q,hl⟩:=f i x j;exact⟨b,l,cp,e,k m,k n,k o,k q,hl.below c⟩
 ·obtain⟨s,c3,d,f⟩:=h.wa;exact⟨s,c3,k d,f.below c⟩
theorem DA (w:au):(w.alloc (.cells #[] 4)).ownsRow w.heap.size 4 1 (.slice (ak w.heap.size) 0 0) 0 []:=
 ⟨Z,aI ⟨w.heap.size,0,#[],rfl,aA _,aL _ _,Z,Z,Z,rfl⟩⟩
theorem DB (L:List Bool):∀v∈L.map Value.bool,v.oneCell'=true:=by intro v c;obtain⟨b,_,rfl⟩:=List.mem_map.1 c;rfl
theorem kq.cells {w:au}{d:Option Addr}{L:List Bool}(h:kq w d L):∀a,d=some a->∀j u,(L.map Value.bool)[j]?=some u->w.cell? (a.add j)=some u:=fun a e j u hj=>by
 have c:j<L.length:=by exact oL
 obtain⟨b,f,_,hc⟩:=h V;rw[e] at f;cases f;have g:=hc j c;rw[bq,aG c] at hj;rw[aC,aG c] at g;rw[<-hj];have ea:(⟨b,0,none⟩:Addr).add j=⟨b,j,none⟩:=by simp[Addr.add];intro h;exact h.symm
 rw[ea];exact g
section
variable {w:au}{p:Nat}{T:List cG}{wt:List bZ}{is:List Bool}
theorem xm (h:Wg w p T wt)(cA:gy T wt)(aF:Option Addr)(ci:Nat)(hi:kq w aF is)(ab:aF=none->is.length=0/\ci=0)(hl:is.length=T.length)(hm:T.length<=10000)(dn:wt.length<=10000)(cB:∀k,cu is k->cH T k):
 Calls prog 91 #[aj p,.slice aF is.length ci] w fun e w'=>∃C c a2,e=.returned (.slice C a2.length c)/\w'.ownsRow w.heap.size 4 1 (.slice C a2.length c) a2.length (a2.map Value.bool)/\jz T wt is a2/\Below w.heap.size w w':=by
 obtain⟨cZ,c1,c2,c4,c5⟩:=info_parts sv;have b7:av (Wg w p T wt):=h;have s:av (gy T wt/\(∀k,cu is k->cH T k)/\is.length=T.length):=⟨cA,cB,hl⟩
 have b8:=an w (.cells #[] 4)
 have b9:av (kq (w.alloc (.cells #[] 4)) aF is/\(aF=none->is.length=0/\ci=0)):=⟨hi.below b8,ab⟩
 have cC:=DA w;have dp:is.length<=10000:=V;have dr:av (is.length=T.length):=hl;clear h cA hi ab cB hl;go_enter func91,ntmps91;go_wp2_with (at_builtin;refine je _ rfl _ _ 145 rfl w.heap.size 4 cZ (.bool false) 1 1 underlying145 c1 c2 c4 c5 rfl aa (.slice (ak w.heap.size) 0 0) 0 [] rfl cC aF is.length ci (is.map Value.bool) rfl Z b9.o.2 b9.o.1.cells (DB is) (by unfold maxLen;omega) V Z ?_;intro C c w1 bp cD _;rw[bF,List.nil_append] at bp)
 have ca:=an w1 (.cells #[.slice C is.length c] 145)
 have br:Below w.heap.size w w1:=b8.trans ((aD w.heap.size (w.alloc (.cells #[] 4))).grown cD Z (fun k e=>by simp[Value.ownBlock] at e;omega))
 have bs:av (fS (w1.alloc (.cells #[.slice C is.length c] 145)) w1.heap.size C c w.heap.size is/\Below w.heap.size w (w1.alloc (.cells #[.slice C is.length c] 145))/\w.heap.size<=w1.heap.size):=⟨⟨aL _ _,cv bp (fun k e=>ca.block k (ce bp k e).2)⟩,br.trans (ca.mono br.size),br.size⟩
 clear b8 cC bp cD ca br b9;generalize w1.alloc (.cells #[.slice C is.length c] 145)=ds at*;generalize w1.heap.size=o at*;obtain⟨cE,cT,cb,cF⟩:=b7.o.th;obtain⟨cI,c3,cc,cJ⟩:=b7.o.wa;have cd:av (∀w',Below w.heap.size w w'->w'.cell? (am p 0)=some (.slice cE T.length cT)/\w'.cell? (am p 3)=some (.slice cI wt.length c3)/\cY w' cI wt):=fun w' M=>⟨(M.cell (p:=am p 0) (aK w _ cb)).trans cb,(M.cell (p:=am p 3) (aK w _ cc)).trans cc,cJ.below M⟩
 have c6:av (∀(i:Nat)(x:cG),T[i]?=some x->∃b C cp,cE=ak b/\∀w',Below w.heap.size w w'->(w'.cell? (am b (i*4))=some (ah x.1)/\w'.cell? (am b (i*4+1))=some (.slice C x.2.1.length cp)/\w'.cell? (am b (i*4+2))=some (.bool x.2.2.1)/\w'.cell? (am b (i*4+3))=some (.bool x.2.2.2))/\cY w' C x.2.1):=fun i x a3=>by obtain⟨b,C,cp,e,H,y1,cf,cg,c7⟩:=cF i x a3;have k:∀{w':au}(M:Below w.heap.size w w'){a:Addr}{v:Value},w.cell? a=some v->w'.cell? a=some v:=fun {w'} M {a v} e=>(M.cell (p:=a) (aK w _ e)).trans e;exact⟨b,C,cp,e,fun w' M=>⟨⟨k M H,k M y1,k M cf,k M cg⟩,c7.below M⟩⟩
 clear cb cF cc cJ b7;have cK:av ((∀k,cu is k->cu is k)/\∀X,fG T wt X->(∀k,cu is k->X k)->∀k,cu is k->X k):=⟨fun _ h=>h,fun _ _ h=>h⟩
 go_loopg [7] (cnt is+1) (fun m mv wr=>∃(L:List Bool)(more:Bool),mv=.bool more/\av (fS wr o C c w.heap.size L/\Below w.heap.size w wr)/\av (L.length=is.length/\(∀k,cu is k->cu L k)/\∀X,fG T wt X->(∀k,cu is k->X k)->∀k,cu L k->X k)/\av ((more=true->cnt L+1<=m)/\(more=false->cnt L<=m/\jz T wt is L)))
 case atStart=>exact⟨is,true,rfl,⟨bs.o.1,bs.o.2.1⟩,⟨rfl,cK.o⟩,⟨fun _=>aA _,fun h=>by cases h⟩⟩
 case round=>
  have dt:av (w.heap.size<=o):=bs.o.2.2;clear bs cK;obtain⟨B,more,rfl,Q,ch,cj⟩:=hrel;cases more
  ·obtain⟨_,ck⟩:=cj.o.2 rfl;have a3:=Q.o;have c0:wr.cell? (am o 0)=some (.slice C B.length c):=ay a3.1.blk
   go_wp2_with fail;go_ret;exact⟨C,c,B,rfl,a3.1.row,ck,a3.2⟩
  ·have du:=cj.o.1 rfl;have q:av (fg T wt is B B false 0):=fg.start ch.o.1 ch.o.2.1 ch.o.2.2;clear cj;go_wp2_with fail
   go_loopw [7,8] (fun mv iv wr=>∃(i:Nat)(L:List Bool)(more:Bool),i<=T.length/\mv=.bool more/\iv=ah i/\av (fS wr o C c w.heap.size L/\Below w.heap.size w wr)/\av (fg T wt is B L more i)) (fun _ iv _=>T.length-(intOf iv).toNat)
   case atStart=>exact⟨0,B,false,aS _,rfl,rfl,Q,q⟩
   case round=>
    clear Q q;obtain⟨i,L,more,hi,rfl,rfl,Q,q⟩:=hrel;obtain⟨ax,bt,dv⟩:=cd.o wr Q.o.2;by_cases bb:i<T.length
    ·obtain⟨t,ht⟩:∃t,T[i]?=some t:=⟨_,aG bb⟩
     obtain⟨b,U,fc,rfl,cl⟩:=c6.o i t ht;have cm:av (∀w',Below w.heap.size w w'->cY w' U t.2.1):=fun w' M=>(cl w' M).2;obtain⟨⟨H,y1,cf,cg⟩,_⟩:=cl wr Q.o.2;clear cl;have cL:T.getD i t0=t:=by rw[aC,ht];rfl
     have q0:(0:Int)<=(i:Int):=V;have q1:(i:Int)<(T.length:Int):=V;have aR:=Q.o.1;have cn:L.length=T.length:=q.o.len.trans s.o.2.2;have dw:L.length<=10000:=V;obtain⟨rb,c8,bx⟩:=dW aR.row V;obtain⟨rfl,rfl⟩:C=ak rb/\c=c8:=by simpa using bx
     have cM:(L.map Value.bool)[i]?=some (.bool (L.getD i false)):=by rw[bq,aG (by omega:i<L.length),aC,aG (by omega:i<L.length)];rfl
     have cN:=(e8 aR.row cM).1;have lo:=lt_of_some aR.blk;have co:=(ce aR.row rb rfl).2;have bY:=an wr (.cells #[.int .i64 t.1,.slice U t.2.1.length fc,.bool t.2.2.1,.bool t.2.2.2] 99)
     have B1:=aR.below bY;have k0:(wr.alloc (.cells #[.int .i64 t.1,.slice U t.2.1.length fc,.bool t.2.2.1,.bool t.2.2.2] 99)).cell? (am o 0)=some (.slice (ak rb) L.length c):=ay B1.blk
     have k1:=(bY.cell (p:=am rb i) co).trans cN;have dx:(i:Int)<(L.length:Int):=V;have K:av (T.getD i t0=t):=cL;have HB1:av (fS (wr.alloc (.cells #[.int .i64 t.1,.slice U t.2.1.length fc,.bool t.2.2.1,.bool t.2.2.2] 99)) o (ak rb) c w.heap.size L/\Below w.heap.size w (wr.alloc (.cells #[.int .i64 t.1,.slice U t.2.1.length fc,.bool t.2.2.1,.bool t.2.2.2] 99))/\(wr.alloc (.cells #[.int .i64 t.1,.slice U t.2.1.length fc,.bool t.2.2.1,.bool t.2.2.2] 99)).heap[wr.heap.size]?=some (.cells #[ah t.1,.slice U t.2.1.length fc,.bool t.2.2.1,.bool t.2.2.2] 99 (0,0))/\rb<wr.heap.size):=⟨B1,Q.o.2.trans (bY.mono Q.o.2.size),aL _ _,co⟩
     clear cL aR bx cM cN B1 bY;cases ab:L.getD i false
     ·rw[ab] at k1;have HN:av (fg T wt is B L more (i+1)):=q.o.next (fun _ _ cq=>by unfold cu at cq;rw[ab] at cq;cases cq)
      clear ab q;exact xi
     ·rw[ab] at k1;have ad:av (cu L i):=ab;clear ab
      go_upto_region 11 with fail
      generalize wr.alloc (.cells #[.int .i64 t.1,.slice U t.2.1.length fc,.bool t.2.2.1,.bool t.2.2.2] 99)=w3 at*;generalize wr.heap.size=tb at*;obtain⟨kd,d,cO,cP⟩:=t;dsimp only at*;have z0:w3.cell? ⟨tb,0,none⟩=some (.int .i64 kd):=by simp[World.cell?,HB1.o.2.2.1]
      have ag:w3.cell? (am tb 1)=some (.slice U d.length fc):=ay HB1.o.2.2.1
      have cr:=q.o.xa s.o.1 s.o.2.1 ad.o;have bd:=s.o.1.tl i;rw[K.o] at bd;dsimp only at bd;have cQ:=lt_of_some HB1.o.2.2.1;clear H y1 cf cg k0 k1 ax lo co;by_cases aT:kd=1\/kd=2
      ·have b0:av (∀(X:Nat->Prop)(v:Int×Int),v∈d->f3 T wt X i v):=fun X v n=>aJ (by rw[K.o];exact⟨aT,n⟩)
       have W:av (∀(X:Nat->Prop)(v:Int×Int),f3 T wt X i v->v∈d):=fun X v n=>by
        unfold f3 at n;rw[K.o] at n;dsimp only at n;rcases n with⟨_,h⟩|⟨h,_⟩|⟨h,_⟩|⟨h,_⟩
        ·exact h
        ·omega
        ·omega
        ·omega
       have c9:((kd==1)=true)\/((kd==1)=false/\(kd==2)=true):=by
        rcases aT with e|e
        ·exact aJ (by simpa using e)
        ·exact aI ⟨by rw[e];decide,by simpa using e⟩
       clear aT;rcases c9 with b1|⟨b1,b2⟩
       all_goals
        go_wp2_with fail
        go_loopw [7,10] (fun mv kv wr=>∃(f:Nat)(j:List Bool)(N:Bool),f<=d.length/\mv=.bool N/\kv=ah f/\av (fS wr o (ak rb) c w.heap.size j/\Below w.heap.size w wr/\wr.heap[tb]?=some (.cells #[ah kd,.slice U d.length fc,.bool cO,.bool cP] 99 (0,0)))/\av (fg T wt is B j N i/\cu j i/\∀g,g<f->(d.getD g (0,0)).1=3->cu j (d.getD g (0,0)).2.toNat)) (fun _ kv _=>d.length-(intOf kv).toNat)
        case atStart=>exact⟨0,L,more,aS _,rfl,rfl,⟨HB1.o.1,HB1.o.2.1,HB1.o.2.2.1⟩,⟨q.o,ad.o,fun g h=>absurd h V⟩⟩
        case round=>
         have da:av (rb<tb):=HB1.o.2.2.2;clear HB1 q ad z0 ag Q;obtain⟨f,j,N,db,rfl,rfl,D,A⟩:=hrel;have ag:wr.cell? (am tb 1)=some (.slice U d.length fc):=ay D.o.2.2
         by_cases be:f<d.length
         ·obtain⟨fb,dh,rfl,b6,O⟩:=cm.o wr D.o.2.1 V;obtain⟨H,y1⟩:=O f be;have aB:d.getD f (0,0)∈d:=getD_in be;have Y:av (∀g,g<f+1->(d.getD g (0,0)).1=3->cu (el j (d.getD f (0,0))) (d.getD g (0,0)).2.toNat):=fun g h l=>by
           by_cases c:g<f
           ·exact oH _ _ _ (A.o.2.2 g c l)
           ·obtain rfl:g=f:=V;exact p7 (fun l=>by have:=A.o.1.bd s.o.1 s.o.2.1 s.o.2.2 A.o.2.1 (b0.o (cu j) _ aB) l;omega) l
          generalize d.getD f (0,0)=v at*;have E:=b0.o (cu j) v aB;have F:=A.o.1.bd s.o.1 s.o.2.1 s.o.2.2 A.o.2.1 E;have I:=qe wr o (some ⟨rb,0,none⟩) c w.heap.size j v D.o.1 F (by have:=A.o.1.len;have:=s.o.2.2;omega)
          have R:av (fg T wt is B (el j v) (!dq j v||N) i/\cu (el j v) i):=⟨A.o.1.add bb A.o.2.1 E (fun l=>by have:=F l;omega),oH _ _ _ A.o.2.1⟩
          have q3:(0:Int)<=(f:Int):=V;have dc:(f:Int)<(d.length:Int):=V;clear O F E aB;cases hs:dq j v
          all_goals
           rw[hs] at I R;clear hs;go_wp2_with fail;refine I.mono ?_;clear I;rintro e J ⟨rfl,ap,ai⟩
           have S:av (fS J o (ak rb) c w.heap.size (el j v)/\Below w.heap.size w J/\J.heap[tb]?=some (.cells #[ah kd,.slice (some ⟨fb,dh,none⟩) d.length fc,.bool cO,.bool cP] 99 (0,0))):=⟨ap,D.o.2.1.trans (ai.below D.o.2.1.size (fun k e=>(ce D.o.1.row k e).1)),(ai.block tb (lt_of_some D.o.2.2) (fun e=>by have e:some tb=some rb:=e;have dy:=da.o;cases e;omega)).trans D.o.2.2⟩
           clear ap ai H y1 ag;go_wp2_with fail;go_roundw
           case rel=>exact⟨f+1,el j v,_,V,rfl,af,S,⟨R.o.1,R.o.2,Y.o⟩⟩
           case measure=>simp[intOf];omega
         ·obtain rfl:f=d.length:=V;have HN:av (fg T wt is B j N (i+1)):=A.o.1.next (fun _ _ _ v n l=>by
           obtain⟨g,bg,e⟩:=List.mem_iff_getElem.1 (W.o _ _ n)
           have bi:d.getD g (0,0)=v:=by rw[aC,aG bg,e];rfl
           have:=A.o.2.2 g bg (by rw[bi];exact l)
           rwa [bi] at this)
          go_wp2_with fail;go_roundw
          case rel=>exact⟨i+1,j,N,V,rfl,af,⟨D.o.1,D.o.2.1⟩,HN⟩
          case measure=>simp[intOf];omega
      ·by_cases ar:kd=3
       ·skip;have b1:(kd==1)=false:=by rw[ar];decide
        have b2:(kd==2)=false:=by rw[ar];decide
        have b3:(kd==3)=true:=by rw[ar];decide
        have bl:d.length=2:=by
         have:=s.o.1.fl i cr (by rw[K.o];exact aJ ar)
         rw[K.o] at this
         exact this
        have E:f3 T wt (cu L) i (d.getD 1 (0,0)):=aI (aJ (by rw[K.o];exact⟨ar,rfl⟩))
        have W:av (∀(X:Nat->Prop)(v:Int×Int),f3 T wt X i v->v=d.getD 1 (0,0)):=fun X v n=>by
         unfold f3 at n;rw[K.o] at n;dsimp only at n;rcases n with⟨h,_⟩|⟨_,h⟩|⟨h,_⟩|⟨h,_⟩
         ·omega
         ·exact h
         ·omega
         ·omega
        obtain⟨fb,dh,rfl,b6,O⟩:=cm.o w3 HB1.o.2.1 V;obtain⟨H,y1⟩:=O 1 V;have F:=q.o.bd s.o.1 s.o.2.1 s.o.2.2 ad.o E;have dd:(1:Int)<(d.length:Int):=V;have Y:av ((d.getD 1 (0,0)).1=3->cu (el L (d.getD 1 (0,0))) (d.getD 1 (0,0)).2.toNat):=p7 (fun l=>by have:=F l;omega)
        generalize d.getD 1 (0,0)=v at*;have I:=qe w3 o (some ⟨rb,0,none⟩) c w.heap.size L v HB1.o.1 F V;have R:av (fg T wt is B (el L v) (!dq L v||more) i):=q.o.add bb ad.o E (fun l=>by have:=F l;omega)
        have HN:av (fg T wt is B (el L v) (!dq L v||more) (i+1)):=R.o.next (fun _ _ _ u cs l=>by rw[W.o _ _ cs] at l⊢;exact Y.o l)
        rw[show dh+1*2=dh+2 by omega] at H y1;clear O F E R Y W;cases hs:dq L v
        all_goals
         rw[hs] at I HN;clear hs;go_wp2_with fail;refine I.mono ?_;clear I;rintro e J ⟨rfl,ap,ai⟩
         have S:av (fS J o (ak rb) c w.heap.size (el L v)/\Below w.heap.size w J):=⟨ap,HB1.o.2.1.trans (ai.below HB1.o.2.1.size (fun k e=>(ce HB1.o.1.row k e).1))⟩
         clear ap ai H y1 z0 ag;go_wp2_with fail;go_roundw
         case rel=>exact⟨i+1,el L v,_,V,rfl,af,S,HN⟩
         case measure=>simp[intOf];omega
       ·by_cases al:kd=4
        ·have b1:(kd==1)=false:=by rw[al];decide
         have b2:(kd==2)=false:=by rw[al];decide
         have b3:(kd==3)=false:=by rw[al];decide
         have b4:(kd==4)=true:=by rw[al];decide
         have bl:d.length=2:=by
          have:=s.o.1.fl i cr (by rw[K.o];exact aI al)
          rw[K.o] at this
          exact this
         have W:av (∀(X:Nat->Prop)(v:Int×Int),f3 T wt X i v->((d.getD 0 (0,0)).1=3->X (d.getD 0 (0,0)).2.toNat)/\v=d.getD 1 (0,0)):=fun X v n=>by
          unfold f3 at n;rw[K.o] at n;dsimp only at n;rcases n with⟨h,_⟩|⟨h,_⟩|⟨_,h⟩|⟨h,_⟩
          ·omega
          ·omega
          ·exact h
          ·omega
         have ct:(d.getD 0 (0,0)).1=3->0<=(d.getD 0 (0,0)).2/\(d.getD 0 (0,0)).2<L.length:=fun l=>by obtain⟨g1,g2⟩:=s.o.1.fv i cr (d.getD 0 (0,0)) (by rw[K.o];exact getD_in (by show 0<d.length;omega)) l;have:=g2.1;exact⟨g1,V⟩
         have E:dq L (d.getD 0 (0,0))=true->f3 T wt (cu L) i (d.getD 1 (0,0)):=fun h=>aI (aI (aJ (by rw[K.o];exact⟨al,mC h,rfl⟩)))
         obtain⟨fb,dh,rfl,b6,O⟩:=cm.o w3 HB1.o.2.1 V;obtain⟨H,y1⟩:=O 1 V;obtain⟨ax,bn⟩:=O 0 V;have dd:(1:Int)<(d.length:Int):=V;have dz:(0:Int)<(d.length:Int):=V;have dA:0<d.length:=V;have dB:¬d=[]:=fun e=>by rw[e] at bl;cases bl
         rw[show dh+1*2=dh+2 by omega] at H y1;rw[show dh+0*2=dh by omega] at ax bn;have k0:w3.cell? (am o 0)=some (.slice (ak rb) L.length c):=ay HB1.o.1.blk
         have aV:=qd w3.drew (ak rb) c L (d.getD 0 (0,0)) ((oI HB1.o.1.row).below (aD _ w3).drew) ct V;have a0:fb<w3.heap.size:=b6;have cR:=lt_of_some HB1.o.1.blk;cases nB:dq L (d.getD 0 (0,0))
         ·have HN:av (fg T wt is B L more (i+1)):=q.o.next (fun _ _ _ v n _=>by
           exfalso;obtain⟨g1,_⟩:=W.o _ _ n;obtain⟨n1,de⟩:=oG nB;have:=g1 n1;unfold cu at this
           rw[de] at this
           cases this)
          rw[nB] at aV;clear O E ct W nB H y1;generalize d.getD 0 (0,0)=v0 at*;clear cn bl al ar aT bd
          as_aux_lemma=>
          go_upto_region 21 with fail
          go_region_held3 (fun w'=>w'.cell? (am o 0)=some (.slice (ak rb) L.length c)/\w'.cell? (am tb 1)=some (.slice (some ⟨fb,dh,none⟩) d.length fc)/\w'.cell? (am fb dh)=some (ah v0.1)/\w'.cell? (am fb (dh+1))=some (ah v0.2)) (go_keep)
           (first
             |(go_at_call 93;refine aV.mono ?_;clear aV;rintro e J ⟨rfl,bo⟩;have G:=(aD _ w3).drew.trans (bo.mono bW);have S:av (fS J o (ak rb) c w.heap.size L/\Below w.heap.size w J):=⟨HB1.o.1.below G,HB1.o.2.1.trans (G.mono HB1.o.2.1.size)⟩;have u0:=(G.cell (p:=am o 0) cR).trans k0;have cw:=(G.cell (p:=am tb 1) cQ).trans ag;have cx:=(G.cell (p:=am fb dh) a0).trans ax;have cy:=(G.cell (p:=am fb (dh+1)) a0).trans bn;clear bo G))
          all_goals
           clear k0 z0 ag ax bn u0 cw cx cy;go_wp2_with fail;go_roundw
           case rel=>exact⟨i+1,L,more,V,rfl,af,S,HN⟩
           case measure=>simp[intOf];omega
         ·have E:=E nB;have F:=q.o.bd s.o.1 s.o.2.1 s.o.2.2 ad.o E;have Y:av ((d.getD 1 (0,0)).1=3->cu (el L (d.getD 1 (0,0))) (d.getD 1 (0,0)).2.toNat):=p7 (fun l=>by have:=F l;omega)
          generalize d.getD 1 (0,0)=v at*;have R:av (fg T wt is B (el L v) (!dq L v||more) i):=q.o.add bb ad.o E (fun l=>by have:=F l;omega)
          have HN:av (fg T wt is B (el L v) (!dq L v||more) (i+1)):=R.o.next (fun _ _ _ u cs l=>by rw[(W.o _ _ cs).2] at l⊢;exact Y.o l)
          have cS:av (∀w',fS w' o (ak rb) c w.heap.size L->Calls prog 159 #[.agg #[ah v.1,ah v.2],aj o] w' fun e cU=>e=.returned (.bool (!dq L v))/\fS cU o (ak rb) c w.heap.size (el L v)/\Fr (fun k=>some k=(Value.slice (ak rb) L.length c).ownBlock) w' cU):=fun w' hB=>qe w' o (ak rb) c w.heap.size L v hB F V;rw[nB] at aV;clear O E ct W nB F R Y;generalize d.getD 0 (0,0)=v0 at*;clear cn bl al ar aT bd
          as_aux_lemma=>
          go_upto_region 21 with fail
          go_region_held3 (fun w'=>w'.cell? (am o 0)=some (.slice (ak rb) L.length c)/\w'.cell? (am tb 1)=some (.slice (some ⟨fb,dh,none⟩) d.length fc)/\w'.cell? (am fb dh)=some (ah v0.1)/\w'.cell? (am fb (dh+1))=some (ah v0.2)) (go_keep)
           (first
             |(go_at_call 93;refine aV.mono ?_;clear aV;rintro e J ⟨rfl,bo⟩;have G:=(aD _ w3).drew.trans (bo.mono bW);have S:av (fS J o (ak rb) c w.heap.size L/\Below w.heap.size w J):=⟨HB1.o.1.below G,HB1.o.2.1.trans (G.mono HB1.o.2.1.size)⟩;have u0:=(G.cell (p:=am o 0) cR).trans k0;have cw:=(G.cell (p:=am tb 1) cQ).trans ag;have cx:=(G.cell (p:=am fb dh) a0).trans ax;have cy:=(G.cell (p:=am fb (dh+1)) a0).trans bn;have df:=(G.cell (p:=am fb (dh+2)) a0).trans H;have dg:=(G.cell (p:=am fb (dh+2+1)) a0).trans y1;clear bo G))
          all_goals
           have I:=cS.o J S.o.1;clear cS k0 z0 ag ax bn u0 cx cy H y1;cases hs:dq L v
           all_goals
            rw[hs] at I HN;clear hs;go_wp2_with fail;refine I.mono ?_;clear I;rintro e cV ⟨rfl,cW,cX⟩
            have di:av (fS cV o (ak rb) c w.heap.size (el L v)/\Below w.heap.size w cV):=⟨cW,S.o.2.trans (cX.below S.o.2.size (fun k e=>(ce S.o.1.row k e).1))⟩
            clear cW cX cw df dg;go_wp2_with fail;go_roundw
            case rel=>exact⟨i+1,el L v,_,V,rfl,af,di,HN⟩
            case measure=>simp[intOf];omega
        ·by_cases k5:kd=5
         ·have b1:(kd==1)=false:=by rw[k5];decide
          have b2:(kd==2)=false:=by rw[k5];decide
          have b3:(kd==3)=false:=by rw[k5];decide
          have b4:(kd==4)=false:=by rw[k5];decide
          have b5:(kd==5)=true:=by rw[k5];decide
          have b0:av (∀(X:Nat->Prop)(e:bZ),e∈wt->e.1=i->f3 T wt X i (3,e.2)):=fun X e he dj=>aI (aI (aI (by rw[K.o];exact⟨k5,e,he,dj,rfl⟩)))
          have W:av (∀(X:Nat->Prop)(v:Int×Int),f3 T wt X i v->∃e∈wt,e.1=i/\v=(3,e.2)):=fun X v n=>by
           unfold f3 at n;rw[K.o] at n;dsimp only at n;rcases n with⟨h,_⟩|⟨h,_⟩|⟨h,_⟩|⟨_,h⟩
           ·omega
           ·omega
           ·omega
           ·exact h
          obtain⟨_,bt,_⟩:=cd.o w3 HB1.o.2.1;clear cn k5 al ar aT bd;go_wp2_with fail
          go_loopw [7,11] (fun mv kv wr=>∃(f:Nat)(j:List Bool)(N:Bool),f<=wt.length/\mv=.bool N/\kv=ah f/\av (fS wr o (ak rb) c w.heap.size j/\Below w.heap.size w wr)/\av (fg T wt is B j N i/\cu j i/\∀g,g<f->(wt.getD g (0,0)).1=i->cu j (wt.getD g (0,0)).2.toNat)) (fun _ kv _=>wt.length-(intOf kv).toNat)
          case atStart=>exact⟨0,L,more,aS _,rfl,rfl,⟨HB1.o.1,HB1.o.2.1⟩,⟨q.o,ad.o,fun g h=>absurd h V⟩⟩
          case round=>
           clear HB1 q ad z0 ag Q bt;obtain⟨f,j,N,db,rfl,rfl,D,A⟩:=hrel;obtain⟨_,bt,cz⟩:=cd.o wr D.o.2;by_cases be:f<wt.length
           ·obtain⟨fb,dh,rfl,b6,O⟩:=cz V;obtain⟨H,y1⟩:=O f be;have aB:wt.getD f (0,0)∈wt:=getD_in be;have q3:(0:Int)<=(f:Int):=V;have dc:(f:Int)<(wt.length:Int):=V;by_cases a1:(wt.getD f (0,0)).1=i
            ·have E:=b0.o (cu j) _ aB a1;have F:=A.o.1.bd s.o.1 s.o.2.1 s.o.2.2 A.o.2.1 E;have Y:av (∀g,g<f+1->(wt.getD g (0,0)).1=i->cu (el j (3,(wt.getD f (0,0)).2)) (wt.getD g (0,0)).2.toNat):=fun g h l=>by
              by_cases c:g<f
              ·exact oH _ _ _ (A.o.2.2 g c l)
              ·obtain rfl:g=f:=V;exact p7 (v:=(3,(wt.getD g (0,0)).2)) (fun l=>by have:=F l;omega) rfl
             have I:=qe wr o (ak rb) c w.heap.size j (3,(wt.getD f (0,0)).2) D.o.1 F (by have:=A.o.1.len;have:=s.o.2.2;omega)
             have R:av (fg T wt is B (el j (3,(wt.getD f (0,0)).2)) (!dq j (3,(wt.getD f (0,0)).2)||N) i/\cu (el j (3,(wt.getD f (0,0)).2)) i):=⟨A.o.1.add bb A.o.2.1 E (fun l=>by have:=F l;omega),oH _ _ _ A.o.2.1⟩
             rw[a1] at H;generalize (wt.getD f (0,0)).2=u at*;clear O F E aB cz a1;dsimp only at I;cases hs:dq j (3,u)
             all_goals
              rw[hs] at I R;clear hs;go_wp2_with fail;refine I.mono ?_;clear I;rintro e J ⟨rfl,ap,ai⟩
              have S:av (fS J o (ak rb) c w.heap.size (el j (3,u))/\Below w.heap.size w J):=⟨ap,D.o.2.trans (ai.below D.o.2.size (fun k e=>(ce D.o.1.row k e).1))⟩
              clear ap ai H y1 bt;go_wp2_with fail;go_roundw
              case rel=>exact⟨f+1,el j (3,u),_,V,rfl,af,S,⟨R.o.1,R.o.2,Y.o⟩⟩
              case measure=>simp[intOf];omega
            ·have Y:av (∀g,g<f+1->(wt.getD g (0,0)).1=i->cu j (wt.getD g (0,0)).2.toNat):=fun g h l=>by
              by_cases c:g<f
              ·exact A.o.2.2 g c l
              ·obtain rfl:g=f:=V;exact absurd l a1
             have dC:((wt.getD f (0,0)).1==(i:Int))=false:=by simpa using a1
             generalize (wt.getD f (0,0)).1=u at*;clear O aB cz a1 y1;go_wp2_with fail;go_roundw
             case rel=>exact⟨f+1,j,N,V,rfl,af,D,⟨A.o.1,A.o.2.1,Y.o⟩⟩
             case measure=>simp[intOf];omega
           ·obtain rfl:f=wt.length:=V;have HN:av (fg T wt is B j N (i+1)):=A.o.1.next (fun _ _ _ v n _=>by
             obtain⟨dk,dl,bx,rfl⟩:=W.o _ _ n;obtain⟨g,bg,e⟩:=List.mem_iff_getElem.1 dl;have bi:wt.getD g (0,0)=dk:=by rw[aC,aG bg,e];rfl
             have:=A.o.2.2 g bg (by rw[bi];exact bx)
             rwa [bi] at this)
            go_wp2_with fail;go_roundw
            case rel=>exact⟨i+1,j,N,V,rfl,af,D,HN⟩
            case measure=>simp[intOf];omega
         ·have b1:(kd==1)=false:=by simp;omega
          have b2:(kd==2)=false:=by simp;omega
          have b3:(kd==3)=false:=by simp;omega
          have b4:(kd==4)=false:=by simp;omega
          have b5:(kd==5)=false:=by simp;omega
          have HN:av (fg T wt is B L more (i+1)):=q.o.next (fun _ _ _ v n _=>by unfold f3 at n;rw[K.o] at n;dsimp only at n;rcases n with⟨h,_⟩|⟨h,_⟩|⟨h,_⟩|⟨h,_⟩<;>omega)
          exact xi
    ·obtain rfl:i=T.length:=V;cases more
     ·have ck:=q.o.done;have dm:=(q.o.no rfl).1;go_wp2_with fail
      go_roundg (cnt B)
      case measure=>omega
      case rel=>exact⟨L,false,rfl,Q,⟨q.o.len,q.o.up,q.o.lt⟩,⟨fun h=>(by cases h),fun _=>⟨by rw[dm];exact aA _,ck⟩⟩⟩
     ·have hc:=q.o.yes rfl;go_wp2_with fail
      go_roundg (cnt L+1)
      case measure=>omega
      case rel=>exact⟨L,true,rfl,Q,⟨q.o.len,q.o.up,q.o.lt⟩,⟨fun _=>aA _,fun h=>by cases h⟩⟩
end
section
variable {rp rb:Nat}{b9 bY:Int}{F:Nat->Prop}{s:cj}{w:au}
def iG (b:Bool)(T:List cG)(i:Nat):List Bool:=(T.take i).map (ie b)++List.replicate (T.length-i) false
theorem DC (b:Bool)(T:List cG)(i:Nat)(hi:i<=T.length):(iG b T i).length=T.length:=by unfold iG;simp;omega
theorem DD (b:Bool)(T:List cG)(i:Nat)(hi:i<T.length):(iG b T i).set i (ie b (T.getD i t0))=iG b T (i+1):=by
 unfold iG;have hl:((T.take i).map (ie b)).length=i:=by simp;omega
 rw[List.set_append_right _ _ V,hl,Nat.sub_self,List.take_succ_eq_append_getElem hi,bA,show T.length-i=(T.length-(i+1))+1 by omega,List.replicate_succ,List.set_cons_zero,bj];rw[aC,aG hi];rfl
theorem DE (h:(cn rp rb b9 bY).J F s w)(c:Bool)(hl:s.T.length<=10000)(x:∀v∈s.rs,v.1=3->0<=v.2/\v.2<s.T.length):
 Calls prog 92 #[aj rp,.bool c] w fun e w'=>∃b,e=.returned (.slice (ak b) s.T.length s.T.length)/\w'.ownsRow w.heap.size 4 1 (.slice (ak b) s.T.length s.T.length) s.T.length ((jA s.T s.rs c).map Value.bool)/\Below w.heap.size w w':=by
 obtain⟨O,Q,R,S,U⟩:=info_parts sv;have A:av ((cn rp rb b9 bY).J F s w):=h;have W:av (∀v∈s.rs,v.1=3->0<=v.2/\v.2<s.T.length):=x;obtain⟨X,cT,c0,_⟩:=kj h;clear h x;go_enter func92,ntmps92;go_wp2_with (at_make;refine wpList_make_full _ rfl _ _ 145 rfl w.heap.size 4 O (.bool false) 1 underlying145 Q R S .i64 .i64 _ _ s.T.length rfl rfl V V (by rw[U];omega) (by unfold maxLen;omega) bW ?_;intro w1 B C)
 have D:Below w.heap.size w w1:=(aD _ w).grown C bW (fun _ h=>by cases h)
 have Y:av (w1.ownsRow w.heap.size 4 1 (.slice (ak w.heap.size) s.T.length s.T.length) s.T.length ((iG c s.T 0).map Value.bool)/\Below w.heap.size w w1):=⟨by
  have e:iG c s.T 0=List.replicate s.T.length false:=by unfold iG;simp
  rw[e];exact oJ B,D⟩
 have E:av (∀w',Below w.heap.size w w'->(cn rp rb b9 bY).J F s w'):=fun w' ab=>(cn rp rb b9 bY).below A.o ab;clear B C D c0 A
 go_loopw [6] (fun iv wr=>∃i:Nat,i<=s.T.length/\iv=ah i/\av (wr.ownsRow w.heap.size 4 1 (.slice (ak w.heap.size) s.T.length s.T.length) s.T.length ((iG c s.T i).map Value.bool)/\Below w.heap.size w wr)) (fun iv _=>s.T.length-(intOf iv).toNat)
 exact⟨0,aS _,rfl,Y⟩
 ·
   obtain⟨i,hi,rfl,H⟩:=hrel;have d:=E.o wr H.o.2;obtain⟨X,cT,c0,_,ad⟩:=kj d;by_cases G:i<s.T.length
   ·obtain⟨t,ht⟩:∃t,s.T[i]?=some t:=⟨_,aG G⟩
    obtain⟨b,aF,fc,rfl,aR,y1,aT,aV,_⟩:=ad i t ht;have ag:s.T.getD i t0=t:=by rw[aC,ht];rfl
    have g:av ((iG c s.T i).set i (ie c t)=iG c s.T (i+1)):=by show _=_;rw[<-ag];exact DD c s.T i G
    have a0:=DC c s.T i hi;have l:((iG c s.T i).map Value.bool)[i]?=some (.bool ((iG c s.T i).getD i false)):=by rw[bq,aG V,aC,aG V];rfl
    obtain⟨u0,ai⟩:=e8 H.o.1 l;have al:av (∀v:Bool,(wr.setCell ⟨w.heap.size,i,none⟩ (.bool v)).ownsRow w.heap.size 4 1 (.slice (ak w.heap.size) s.T.length s.T.length) s.T.length (((iG c s.T i).set i v).map Value.bool)/\Below w.heap.size w (wr.setCell ⟨w.heap.size,i,none⟩ (.bool v))):=fun v=>⟨by rw[List.map_set];exact jq H.o.1 i _,H.o.2.trans (((Fr.refl (fun k=>k=w.heap.size) wr).set w.heap.size i _ rfl).below H.o.2.size (fun k e=>Nat.le_of_eq (Eq.symm e)))⟩
    have q0:(0:Int)<=(i:Int):=V;have q1:(i:Int)<(s.T.length:Int):=V;obtain⟨kd,ap,I,J⟩:=t;have j:=al.o (ie c (kd,ap,I,J))
    rw[g.o] at j;have nz:=hide j;unfold ie at nz;cases I
    ·simp only [Bool.false_and] at nz;exact qa
    ·cases J
     ·cases c
      ·simp only [Bool.not_false,Bool.and_self] at nz;exact qa
      ·simp only [Bool.not_false,Bool.not_true,Bool.and_self,Bool.and_false] at nz;exact qa
     ·simp only [Bool.not_true,Bool.and_false,Bool.false_and] at nz;exact qa
   ·obtain rfl:i=s.T.length:=V;have K:av (wr.ownsRow w.heap.size 4 1 (.slice (ak w.heap.size) s.T.length s.T.length) s.T.length ((((s.rs.take 0).foldl gQ (s.T.map (ie c)))).map Value.bool)/\Below w.heap.size w wr):=⟨by
     have e:iG c s.T s.T.length=s.T.map (ie c):=by unfold iG;simp
     have:=H.o.1;rw[e] at this
     simpa using this,H.o.2⟩
    have L:=hide (e5 d).2.2.2.2.2.2.1;go_wp2_with fail
    go_loopw [7] (fun kv wr=>∃k:Nat,k<=12/\kv=ah k/\av (wr.ownsRow w.heap.size 4 1 (.slice (ak w.heap.size) s.T.length s.T.length) s.T.length ((((s.rs.take k).foldl gQ (s.T.map (ie c)))).map Value.bool)/\Below w.heap.size w wr)) (fun kv _=>12-(intOf kv).toNat)
    exact⟨0,V,rfl,K⟩
    ·
      clear K c0;obtain⟨k,hk,rfl,H⟩:=hrel;have d:=E.o wr H.o.2;obtain⟨c1,_,_,_,_,_,_,m⟩:=e5 d;by_cases M:k<12
      ·obtain⟨a1,a2,_⟩:=m k M;have o:k<s.rs.length:=by rw[L.o];exact M
       have p:=W.o (s.rs.getD k (0,0)) (getD_in o)
       have g:av (∀q:List Bool,(s.rs.take (k+1)).foldl gQ q=gQ ((s.rs.take k).foldl gQ q) (s.rs.getD k (0,0))):=fun q=>by rw[List.take_succ_eq_append_getElem o,List.foldl_append,aC,aG o];rfl
       have ar:av (((s.rs.take k).foldl gQ (s.T.map (ie c))).length=s.T.length):=by show _=_;have:=p8 s.T (s.rs.take k) c;exact this
       generalize s.rs.getD k (0,0)=v at*;obtain⟨u,a3⟩:=v;by_cases f:u=3
       ·obtain⟨n0,n1⟩:=p f;obtain⟨n,rfl⟩:=Int.eq_ofNat_of_zero_le n0;have b3:(u==3)=true:=by simpa using f
        have j:av ((wr.setCell ⟨w.heap.size,n,none⟩ (.bool true)).ownsRow w.heap.size 4 1 (.slice (ak w.heap.size) s.T.length s.T.length) s.T.length (((s.rs.take (k+1)).foldl gQ (s.T.map (ie c))).map Value.bool)/\Below w.heap.size w (wr.setCell ⟨w.heap.size,n,none⟩ (.bool true))):=⟨by rw[g.o];unfold gQ;rw[aH f,List.map_set];exact jq H.o.1 n _,H.o.2.trans (((Fr.refl (fun k=>k=w.heap.size) wr).set w.heap.size n _ rfl).below H.o.2.size (fun k e=>Nat.le_of_eq (Eq.symm e)))⟩
        have l:(((s.rs.take k).foldl gQ (s.T.map (ie c))).map Value.bool)[n]?=some (.bool (((s.rs.take k).foldl gQ (s.T.map (ie c))).getD n false)):=by
         have N:n<((s.rs.take k).foldl gQ (s.T.map (ie c))).length:=by rw[ar.o];omega
         rw[bq,aG N,aC,aG N];rfl
        obtain⟨u0,ai⟩:=e8 H.o.1 l;have bb:=n0;clear d m p g f H l n0;go_wp2_with fail;go_roundw;exact⟨k+1,V,af,j⟩
        case measure=>simp[intOf];omega
       ·have b3:(u==3)=false:=by simpa using f
        have j:av (wr.ownsRow w.heap.size 4 1 (.slice (ak w.heap.size) s.T.length s.T.length) s.T.length (((s.rs.take (k+1)).foldl gQ (s.T.map (ie c))).map Value.bool)/\Below w.heap.size w wr):=⟨by rw[g.o];unfold gQ;rw[aE f];exact H.o.1,H.o.2⟩
        clear d m p g f H;go_wp2_with fail;go_roundw
        case rel=>exact⟨k+1,V,af,j⟩
        simp[intOf];omega
      ·obtain rfl:k=12:=V;have ax:wr.ownsRow w.heap.size 4 1 (.slice (ak w.heap.size) s.T.length s.T.length) s.T.length ((jA s.T s.rs c).map Value.bool):=by
        have:=H.o.1;rw[List.take_of_length_le (by rw[L.o];decide)] at this
        exact this
       have aB:=H.o.2;clear d m H;go_wp2_with fail;go_ret;exact⟨w.heap.size,rfl,ax,aB⟩
end
structure gA (s:cj):Prop where
 iv:gy s.T s.wt
 rv:∀v∈s.rs,v.1=3->0<=v.2/\cH s.T v.2.toNat
 gv:∀e∈s.rg,(0<=e.1/\cH s.T e.1.toNat)/\0<=e.2/\cH s.T e.2.toNat
 wg:∀e∈s.wt,0<=e.1/\cH s.T e.1.toNat
 tl:s.T.length<=10000
 gl:s.rg.length<=1000
 wl:s.wt.length<=1000
theorem gA.t12 {s:cj}(h:gA s):∀t∈s.T,t.2.1.length<=12:=fun t ht=>by
 obtain⟨i,hi,e⟩:=List.mem_iff_getElem.1 ht;have:=h.iv.tl i;rw[aC,aG hi,e] at this
 exact this
theorem gA.first {s:cj}(h:gA s)(c:Bool):fR s.T (jA s.T s.rs c):=
 ⟨p8 _ _ _,fun k hk=>by
  obtain⟨d,b⟩:=(lL _ _ _ _).1 hk;rcases b with⟨_,b,_⟩|⟨v,f,g,e⟩
  ·exact⟨d,b⟩
  ·rw[<-e];exact(h.rv v f g).2⟩
theorem sC {rp rb:Nat}{b9 bY:Int}{F:Nat->Prop}{s:cj}{w:au}(h:(cn rp rb b9 bY).J F s w):Wg w rp s.T s.wt:=by obtain⟨c,cT,c0,_,d⟩:=kj h;obtain⟨v2,q,_,f,_,r3,_⟩:=pU h;obtain⟨g,c3,j⟩:=dQ r3;subst j;exact⟨⟨c,cT,c0,fun i x k=>by obtain⟨b,l,cp,e,m,y1,n,o,p,_⟩:=d i x k;exact⟨b,l,cp,e,m,y1,n,o,p⟩⟩,⟨g,c3,f,gh r3⟩⟩
theorem DF {b:Type}(f:b->Bool)(l:List b)(i:Nat)(hi:i<l.length)(c:b):(((l.take i).map f)++List.replicate (l.length-i) false).set i (f (l.getD i c))=((l.take (i+1)).map f)++List.replicate (l.length-(i+1)) false:=by
 have hl:((l.take i).map f).length=i:=by simp;omega
 rw[List.set_append_right _ _ V,hl,Nat.sub_self,List.take_succ_eq_append_getElem hi,bA,show l.length-i=(l.length-(i+1))+1 by omega,List.replicate_succ,List.set_cons_zero,bj];rw[aC,aG hi];rfl
theorem DG {b:Type}(f:b->Bool)(l:List b)(i:Nat)(hi:i<=l.length):(((l.take i).map f)++List.replicate (l.length-i) false).length=l.length:=by simp;omega
theorem jB {L:List Bool}{i:Nat}(h:i<L.length):(L.map Value.bool)[i]?=some (.bool (L.getD i false)):=by rw[bq,aG h,aC,aG h];rfl
structure fj (w:au)(s:cj)(db mb xb:Nat)(v0 v1 v2:Value)(b9 bY:Int)(D:List Bool)(wr:au)(iO:Option Addr)(ci:Nat)(L M:List Bool)(C:List bZ):Prop where
 ri:wr.ownsRow w.heap.size 4 1 (.slice iO s.T.length ci) s.T.length (L.map Value.bool)
 bl:Below w.heap.size w wr
 rd:wr.ownsRow w.heap.size 4 1 (.slice (ak db) s.rg.length s.rg.length) s.rg.length (D.map Value.bool)
 rm:wr.ownsRow w.heap.size 4 1 (.slice (ak mb) s.rg.length s.rg.length) s.rg.length (M.map Value.bool)
 kX:∃xn cx,wr.heap[xb]?=some (.cells #[v0,v1,v2,.slice xn (s.wt++C).length cx,ah b9,ah bY] 91 (0,0))/\wr.ownsRow w.heap.size 97 2 (.slice xn (s.wt++C).length cx) (s.wt++C).length (ev (s.wt++C))
 ne:∀k,some k=(Value.slice iO s.T.length ci).ownBlock->k≠db/\k≠mb
theorem fj.below {w:au}{s:cj}{d mb c:Nat}{v0 v1 v2:Value}{b9 bY:Int}{D:List Bool}{wr f:au}{g:Option Addr}{ci:Nat}{L M:List Bool}{C:List bZ}(h:fj w s d mb c v0 v1 v2 b9 bY D wr g ci L M C)(b:Below wr.heap.size wr f):fj w s d mb c v0 v1 v2 b9 bY D f g ci L M C:=by obtain⟨l,m,i,j⟩:=h.kX;exact⟨cv h.ri (fun k e=>b.block k (ce h.ri k e).2),h.bl.trans (b.mono h.bl.size),cv h.rd (fun k e=>b.block k (ce h.rd k e).2),cv h.rm (fun k e=>b.block k (ce h.rm k e).2),⟨l,m,(b.block c (lt_of_some i)).trans i,cv j (fun k e=>b.block k (ce j k e).2)⟩,h.ne⟩
section
variable {w:au}{s:cj}{db mb xb:Nat}{v0 v1 v2:Value}{b9 bY:Int}{D:List Bool}{wr:au}{iO:Option Addr}{ci:Nat}{L M:List Bool}{C:List bZ}
theorem sD {b g n i m j:Nat}{e d:TypeId}{v f:Value}{l o:List Value}(h:wr.ownsRow b e m v n l)(p:wr.ownsRow g d j f i o)(q:e≠d):∀k,some k=v.ownBlock->¬some k=f.ownBlock:=by intro k s t;obtain⟨c1,u⟩:=dZ h k s;obtain⟨c2,c⟩:=dZ p k t;rw[u] at c;simp at c;exact q c.2
theorem fj.world (h:fj w s db mb xb v0 v1 v2 b9 bY D wr iO ci L M C):∀{b n m:Nat}{e:TypeId}{v:Value}{l:List Value},wr.ownsRow b e m v n l->e≠91->∀k,some k=v.ownBlock->k≠xb:=fun d f k g i=>by obtain⟨o,p,j,_⟩:=h.kX;obtain⟨c1,c⟩:=dZ d k g;rw[i,j] at c;simp at c;exact f c.2.symm
theorem fj.push (h:fj w s db mb xb v0 v1 v2 b9 bY D wr iO ci L M C)(A:w.heap.size<=xb){g:Option Addr}{i:Nat}(o:wr.heap[xb]?=some (.cells #[v0,v1,v2,.slice g (s.wt++C).length i,ah b9,ah bY] 91 (0,0)))(j:wr.ownsRow w.heap.size 97 2 (.slice g (s.wt++C).length i) (s.wt++C).length (ev (s.wt++C))){f:au}{e:bZ}{ku:Option Addr}{ky:Nat}(hg:Fr (fun k=>some k=(Value.slice g (s.wt++C).length i).ownBlock) wr f)(p:f.ownsRow w.heap.size 97 2 (.slice ku (s.wt++(C++[e])).length ky) (s.wt++(C++[e])).length (ev (s.wt++(C++[e])))):fj w s db mb xb v0 v1 v2 b9 bY D (f.setCell ⟨xb,3,none⟩ (.slice ku (s.wt++(C++[e])).length ky)) iO ci L M (C++[e]):=by
 have q:∀k,k≠xb->(f.setCell ⟨xb,3,none⟩ (.slice ku (s.wt++(C++[e])).length ky)).heap[k]?=f.heap[k]?:=fun k hk=>aN _ _ _ _ hk;have t:=(hg.block xb (lt_of_some o) (fun c=>h.world j aa xb c rfl)).trans o;have hk:∀{b n m:Nat}{v:Value}{l:List Value},wr.ownsRow b 4 m v n l->_:=fun d=>cv d (fun k c=>(q k (h.world d aa k c)).trans (hg.block k (ce d k c).2 (sD d j aa k c)))
 refine⟨hk h.ri,?_,hk h.rd,hk h.rm,⟨ku,ky,?_,cv p (fun k c=>q k (fun x=>?_))⟩,h.ne⟩
 ·have d:=h.bl.trans (hg.below h.bl.size (fun k c=>(ce j k c).1))
  exact d.trans (((Fr.refl (fun k=>k=xb) f).set xb 3 _ rfl).below d.size (fun k c=>by omega))
 ·simp only [World.setCell,Array.getElem?_modify,if_true,t,Option.map_some];simp
 ·obtain⟨c1,u⟩:=dZ p k c;rw[x,t] at u;simp at u
theorem fj.mark {b:Nat}(h:fj w s db mb xb v0 v1 v2 b9 bY D wr (ak b) ci L M C)(n:Nat):fj w s db mb xb v0 v1 v2 b9 bY D (wr.setCell ⟨b,n,none⟩ (.bool true)) (ak b) ci (L.set n true) M C:=by
 have d:∀k,k≠b->(wr.setCell ⟨b,n,none⟩ (.bool true)).heap[k]?=wr.heap[k]?:=fun k hk=>aN _ _ _ _ hk;obtain⟨g,i,j,f⟩:=h.kX;obtain⟨n1,l⟩:=h.ne b rfl;refine⟨?_,?_,cv h.rd (fun k e=>d k (fun c=>by have e:=e;cases e;exact n1 c.symm)),cv h.rm (fun k e=>d k (fun c=>by have e:=e;cases e;exact l c.symm)),⟨g,i,(d xb (fun e=>h.world h.ri aa b rfl e.symm)).trans j,cv f (fun k e=>d k (fun c=>sD f h.ri aa k e (by rw[c];rfl)))⟩,h.ne⟩
 ·rw[List.map_set];exact jq h.ri n _
 ·exact h.bl.trans (((Fr.refl (fun k=>k=b) wr).set b n _ rfl).below h.bl.size (fun k e=>by have:=(ce h.ri b rfl).1;omega))
theorem fj.mv (h:fj w s db mb xb v0 v1 v2 b9 bY D wr iO ci L M C)(f:db≠mb)(n:Nat):fj w s db mb xb v0 v1 v2 b9 bY D (wr.setCell ⟨mb,n,none⟩ (.bool true)) iO ci L (M.set n true) C:=by
 have b:∀k,k≠mb->(wr.setCell ⟨mb,n,none⟩ (.bool true)).heap[k]?=wr.heap[k]?:=fun k hk=>aN _ _ _ _ hk;obtain⟨g,i,j,d⟩:=h.kX;refine⟨cv h.ri (fun k e=>b k (h.ne k e).2),?_,cv h.rd (fun k e=>b k (fun c=>by have e:=e;cases e;exact f c)),?_,⟨g,i,(b xb (fun e=>h.world h.rm aa mb rfl e.symm)).trans j,cv d (fun k e=>b k (fun c=>sD d h.rm aa k e (by rw[c];rfl)))⟩,h.ne⟩
 ·exact h.bl.trans (((Fr.refl (fun k=>k=mb) wr).set mb n _ rfl).below h.bl.size (fun k e=>by have:=(ce h.rm mb rfl).1;omega))
 ·rw[List.map_set];exact jq h.rm n _
theorem fj.is (h:fj w s db mb xb v0 v1 v2 b9 bY D wr iO ci L M C){c:au}(j:Below wr.heap.size wr c){f:Option Addr}{g:Nat}{i:List Bool}(d:c.ownsRow wr.heap.size 4 1 (.slice f s.T.length g) s.T.length (i.map Value.bool)):fj w s db mb xb v0 v1 v2 b9 bY D c f g i M C:=by
 have b:=h.below j;refine⟨d7 d (fun k e=>aP h.bl.size (ce d k e).1),b.bl,b.rd,b.rm,b.kX,fun k e=>?_⟩
 have l:=(ce d k e).1;have m:=(ce h.rd db rfl).2;have n:=(ce h.rm mb rfl).2;exact⟨V,V⟩
end
theorem xo:(prog.info? 97).map (fun i=>(i.zero,i.size,i.bytes))=some (some (.agg #[ah 0,ah 0]),2,16):=ae
theorem DH (w:au):(w.alloc (.cells #[] 97)).ownsRow w.heap.size 97 2 (.slice (ak w.heap.size) 0 0) 0 []:=
 ⟨Z,aI ⟨w.heap.size,0,#[],rfl,aA _,aL _ _,Z,Z,Z,rfl⟩⟩
section
variable {rp rb:Nat}{b9 bY:Int}{F:Nat->Prop}{s:cj}{w:au}
theorem DI (h:(cn rp rb b9 bY).J F s w)(c:gA s)(h0:0<=bY)(i:bY<=100000)(j:bY-(dy s.T).2<(dy s.T).1):
 Calls prog 34 #[aj rp,.bool false] w fun e w'=>e=.returned (ah 3)/\Below w.heap.size w w':=by
 have d:=pW h c.t12 c.tl;obtain⟨_,_,c5,_⟩:=e5 h;have bd:=pV s.T c.t12;have ht:=c.tl;have f:av (∀w',Below w.heap.size w w'->_=_):=fun w' g=>(g.cell (p:=am rp 5) (aK w _ c5)).trans c5;generalize (dy s.T).1=a at*;generalize (dy s.T).2=b at*;obtain⟨a0,_,k,_⟩:=bd;clear h c c5;go_enter func34,ntmps34;go_wp2_with fail;refine d.mono ?_;clear d;rintro e w1 ⟨rfl,hb1⟩
 have c5:=f.o w1 hb1;exact lB
end
end Go.Proofs.YtjpjpjemibgjpaaGreat
