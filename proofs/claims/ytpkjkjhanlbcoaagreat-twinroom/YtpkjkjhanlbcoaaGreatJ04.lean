import Derived.Test.YtpkjkjhanlbcoaaGreatJ03
import Derived.Tactics
import Derived.Tactics2
import Derived.Recover
import Derived.Laws.EntriesVeiled
namespace Go.Proofs.YtpkjkjhanlbcoaaGreat
set_option maxRecDepth 100000
set_option maxHeartbeats 2000000
open Tryz
open Go.RowKit W Kp cf
theorem sH {P:Prop}(h:P:=by simp only [World.setCell,Array.getElem?_modify,if_true,h,Option.map_some];simp):P:=h
theorem xa {P:Prop}(h:P:=by rw[hw1,aS _ _ _ Z];simpa using aO (W4.alloc (.cells #[.pointer (some ⟨o.p,0,none⟩)] 52)) (.cells #[.bool false] 4)):P:=h
theorem xc {P:Prop}(h:P:=by simpa using aO (w.alloc (.cells #[.pointer (some ⟨o.p,0,none⟩)] 52)) (.cells #[fa.v,fk.v,fn.v] 145)):P:=h
theorem xd:dN 146:=gb func146 ae rfl
theorem Do:dN 147:=gb func147 ae rfl
theorem Dp:dN 151:=gb func151 ae rfl
def xe:Value->Nat
 |.slice _ n _=>n
 |_=>0
def p_ (n m:Nat):Nat:=if n=0 then 0 else m+1
theorem Dq {c b y n:Nat}(hc:¬c=0)(h:y+n=b):p_ y n<p_ c b:=by unfold p_;rw[aG hc];split<;>omega
theorem nW {w:ax}{a:Addr}{p i:Nat}{v:Value}(h:a.block≠p):(w.setCell ⟨p,i,none⟩ v).cell? a=w.cell? a:=aP (aU _ _ _ _ h)
theorem gz {w:ax}{p:Nat}{x y v1 v2:Value}{T:TypeId}(h:w.heap[p]?=some (.cells #[x,y] T (0,0))):((w.setCell ⟨p,0,none⟩ v1).setCell ⟨p,1,none⟩ v2).heap[p]?=some (.cells #[v1,v2] T (0,0)):=by exact sH
theorem Fr.unbox {F:Nat->Prop}{w w':ax}{p bl b bs:Nat}{d fk e:fQ}(h:Fr (fun k=>F k\/k=bl\/k=b\/k=bs) w w')(hB:ll w p bl b bs d fk e)(c:ll w' p bl b bs d fk e):Fr F w w':=
 ⟨h.os,h.tape,h.output,h.size,fun k hk j=>by
  by_cases f:k=bl
  ·rw[f,hB.l,c.l]
  by_cases g:k=b
  ·rw[g,hB.g,c.g]
  by_cases i:k=bs
  ·rw[i,hB.s,c.s]
  exact h.block k hk (by simp[j,f,g,i])⟩
theorem bq {α:Type _}(p:α -> Bool)(l:List α):(List.filter p l).length <= l.length:=List.length_filter_le ..
theorem av(w:World):Below w.heap.size w w:=Below.refl _ w
theorem Dr {M:Type}(o:fK M)(D:Int->Prop)(l fk d:fQ)(is:M->Int->Bool)(kp:M->Int->Int×M)(nw:M->Int->Int)(bn:lV o D l fk d is kp nw)(r:List b7)(bo:Option Addr)(ci:Nat)(cS:o.vr=.slice bo r.length ci)(hr:r.length<=90000)(an:∀e∈r,D e.1/\D e.2)
 (F:Nat->Prop)(s:M)(w:ax)(dI:∀e∈o.wt (ft o is kp s r),D e.1/\D e.2)(eA:(o.wt s).length+r.length<=90000)(bl b bs G:Nat)(ao:o.J F s w)(hB:ll w o.p bl b bs l fk d)(cj:w.heap[G]?=some (.cells #[mX b bl bs] 101 (0,0)))(bp:¬F bl)(br:¬F b)(dJ:¬F bs)(dK:¬F G)(dL:G≠bl/\G≠b/\G≠bs)(cT:dw w bo r):
 Calls prog 149 #[aj bs,aj bl,aj G,aj b] w fun e w'=>∃a1 c1 a2 c2 bt cU,e=.returned (.bool true)/\o.J bt (ft o is kp s r) cU/\Fr (fun k=>k=o.p) cU w'/\
  w'.heap[o.p]?=some (.cells #[.slice a1 (eO o is kp nw s r).length c1,.slice a2 (eP o is kp nw s r).length c2] 153 (0,0))/\w'.ownsRow w.heap.size 103 2 (.slice a1 (eO o is kp nw s r).length c1) (eO o is kp nw s r).length (ev (eO o is kp nw s r))/\
  w'.ownsRow w.heap.size 103 2 (.slice a2 (eP o is kp nw s r).length c2) (eP o is kp nw s r).length (ev (eP o is kp nw s r))/\Fr F w w'/\(∀k,bt k->F k\/w.heap.size<=k)/\(∀k,some k=(Value.slice a1 (eO o is kp nw s r).length c1).ownBlock->¬bt k)/\(∀k,some k=(Value.slice a2 (eP o is kp nw s r).length c2).ownBlock->¬bt k)/\(∀k,some k=(Value.slice a1 (eO o is kp nw s r).length c1).ownBlock->some k≠(Value.slice a2 (eP o is kp nw s r).length c2).ownBlock):=by
 obtain⟨eC,eD,hp,_,eE,_⟩:=o.side ao;rw[cS] at hp;have c3:w.cell? (aq bs 0)=some (aj o.p):=aA hB.s
 have c4:w.cell? (aq o.p 0)=some (.slice bo r.length ci):=aA hp
 have l1:bl<w.heap.size:=lt_of_some hB.l;have l2:b<w.heap.size:=lt_of_some hB.g;have eF:bs<w.heap.size:=lt_of_some hB.s;have dM:G<w.heap.size:=lt_of_some cj;have v:ay (lV o D l fk d is kp nw):=bn;have dN:ay (ll w o.p bl b bs l fk d):=hB;have eG:ay (∀e∈r,D e.1/\D e.2):=an;have dO:ay (∀e∈o.wt (ft o is kp s r),D e.1/\D e.2):=dI;have dP:ay (w.heap[G]?=some (.cells #[mX b bl bs] 101 (0,0))):=cj;have c0:w.cell? (aq bl 0)=some l.v:=aA hB.l
 have ck:=sk (fun e=>D e.1/\D e.2) 151 #[] #[aj bl] (fun e=>is s e.2) Dp w (fun w' e hd hs hk=>Dj o.todr D l is bn.ea bn.ha F s w' bl e hd.2 (o.keep ao hs (fun k h=>hk k (o.lt ao k h))) ((aP (a:=⟨bl,0,none⟩) (hk bl l1)).trans c0)) r bo ci an V cT;obtain⟨A,bx⟩:∃A,ay (A=r.filter (fun e=>is s e.2)):=⟨_,rfl⟩
 obtain⟨B,ap⟩:∃B,ay (B=r.filter (fun e=>!is s e.2)):=⟨_,rfl⟩
 rw[<-bx.o,<-ap.o] at ck;have dQ:A.length<=90000:=by rw[bx.o];exact aT (bq _ _) hr
 have cV:B.length<=90000:=by rw[ap.o];exact aT (bq _ _) hr
 have dR:(o.wt s).length+B.length<=90000:=by have:=bq (fun e=>!is s e.2) r;rw[ap.o];omega
 have cW:ay ((eB (cm o is kp) (B.length+1) s B).1=ft o is kp s r):=by show _=_;rw[ap.o];rfl
 have cX:ay (∀e∈A,D e.1/\D e.2):=fun e he=>an e (by rw[bx.o] at he;exact(List.mem_filter.1 he).1)
 have dS:ay (∀e∈B,D e.1/\D e.2):=fun e he=>an e (by rw[ap.o] at he;exact(List.mem_filter.1 he).1)
 have cY:ay ((boxed o bl b bs l fk d).J (fun k=>F k\/k=bl\/k=b\/k=bs) s w):=⟨F,ao,hB,bp,br,dJ,fun k=>Iff.rfl⟩
 clear bn ao hp cS cT cj an hB c0;go_enter func149,ntmps149;go_wp2_with fail;refine ck.mono ?_;clear ck;rintro e w1 ⟨a1,ar,a2,cl,rfl,co,cp,cq⟩
 have cZ:Fr (fun k=>F k\/k=bl\/k=b\/k=bs) w w1:=Fr.of cq;have c5:=(boxed o bl b bs l fk d).below cY.o cq;have c6:ay (∀k,(F k\/k=bl\/k=b\/k=bs)->(F k\/k=bl\/k=b\/k=bs)\/w.heap.size<=k):=fun k h=>aK h;have cr:=(boxed o bl b bs l fk d).lt cY.o;have O:ay (∀k,some k=(Value.slice a1 A.length ar).ownBlock->¬(F k\/k=bl\/k=b\/k=bs)):=fun k e h=>by have:=(cn co k e).1;have:=cr k h;omega
 have c7:ay (∀k,some k=(Value.slice a2 B.length cl).ownBlock->¬(F k\/k=bl\/k=b\/k=bs)):=fun k e h=>by have:=(cn cp k e).1;have:=cr k h;omega
 clear cr cq;go_wp2_with fail
 go_loopw [6,7] (fun cs vc wr=>∃(f C:List b7)(ad c8:Option Addr)(cd cc n:Nat)(S:Nat->Prop)(s2:M),cs=.slice ad f.length cd/\vc=.slice c8 C.length cc/\ay (C.length=0->s2=ft o is kp s r)/\ay (¬C.length=0->(eB (cm o is kp) n s2 f).1=ft o is kp s r/\f.length<n)/\ay (∀e∈f,D e.1/\D e.2)/\f.length<=90000/\C.length<=90000/\(o.wt s2).length+f.length<=90000/\
  wr.ownsRow w.heap.size 103 2 (.slice ad f.length cd) f.length (ev f)/\wr.ownsRow w.heap.size 103 2 (.slice a1 A.length ar) A.length (ev A)/\(boxed o bl b bs l fk d).J S s2 wr/\Fr (fun k=>F k\/k=bl\/k=b\/k=bs) w wr/\ay (∀k,S k->(F k\/k=bl\/k=b\/k=bs)\/w.heap.size<=k)/\
  ay (∀k,some k=(Value.slice a1 A.length ar).ownBlock->¬S k)/\ay (∀k,some k=(Value.slice ad f.length cd).ownBlock->¬S k)) (fun cs vc _=>p_ (xe vc) (xe cs))
 case atStart=>
  refine⟨B,B,a2,a2,cl,cl,B.length+1,(fun k=>F k\/k=bl\/k=b\/k=bs),s,rfl,rfl,fun h=>?_,fun _=>⟨cW.o,Nat.lt_succ_self _⟩,dS,cV,cV,dR,cp,co,c5,cZ,c6,O,c7⟩
  rw[<-cW.o,List.eq_nil_of_length_eq_zero h];rfl
 case round=>
  clear co cp c5 cZ c6 O c7;obtain⟨f,C,ad,c8,cd,cc,n,S,s2,rfl,rfl,ct,U,c9,eH,eI,eJ,hd,aB,cu,P,bY,O,cv⟩:=hrel;by_cases W:C.length=0
  ·have bZ:ay (s2=ft o is kp s r):=ct.o W;obtain⟨Q,j0,H,n1,cw,cx,da⟩:=cu;have db:wr.cell? (aq b 0)=some (.func (.func 146) #[] #[aj bl]):=aA H.g
   have dc:wr.cell? (aq bl 0)=some l.v:=aA H.l
   have dd:wr.cell? (aq bl 2)=some (.func (.func d.f) d.b d.c):=aA H.l
   have de:wr.cell? (aq bs 0)=some (aj o.p):=aA H.s
   obtain⟨aF,aR,b0,df,aV,dT⟩:=o.side j0;have dg:wr.cell? (aq o.p 1)=some (.slice aF (o.wt s2).length aR):=aA b0
   have m1:=lt_of_some H.l;have cy:=lt_of_some H.g;have cz:=lt_of_some H.s;have cA:=lt_of_some b0;have dh:=P.size;have di:ay (∀(w':ax)(e:b7),D e.1/\D e.2->wr.heap.size<=w'.heap.size->(∀k,k<wr.heap.size->w'.heap[k]?=wr.heap[k]?)->Calls prog 146 ((#[]:Array Value).push (en e)++#[aj bl]) w' fun r dU=>r=.returned (.bool (is s2 e.1))/\Below w'.heap.size w' dU):=
    fun w' e hd hs hk=>w_ o.todr D l is v.o.ea v.o.ha Q s2 w' bl e hd.1 (o.keep j0 hs (fun k h=>hk k (o.lt j0 k h))) ((aP (a:=⟨bl,0,none⟩) (hk bl m1)).trans dc)
   have cB:=sk (fun e=>D e.1/\D e.2) 146 #[] #[aj bl] (fun e=>is s2 e.1) xd wr di.o A a1 ar cX.o V (g8 aB)
   obtain⟨t,b3⟩:∃t,ay (t=A.filter (fun e=>is s2 e.1)):=⟨_,rfl⟩
   rw[<-b3.o] at cB;have eK:t.length<=90000:=by rw[b3.o];exact aT (bq _ _) dQ
   have dV:ay (∀e∈t,D e.1/\D e.2):=fun e he=>cX.o e (by rw[b3.o] at he;exact(List.mem_filter.1 he).1)
   have dW:(o.wt s2).length<=90000:=V;have dj:ay (∀e∈o.wt s2,D e.1/\D e.2):=by rw[bZ.o];exact dO
   obtain⟨u,b4⟩:∃u,ay (u=(o.wt s2).filter (fun e=>is s2 e.1)):=⟨_,rfl⟩
   have eL:u.length<=90000:=by rw[b4.o];exact aT (bq _ _) dW
   have dX:ay (∀e∈u,D e.1/\D e.2):=fun e he=>dj.o e (by rw[b4.o] at he;exact(List.mem_filter.1 he).1)
   have cC:ay (ll wr o.p bl b bs l fk d):=H;have dY:ay (o.J Q s2 wr):=j0;have dZ:ay (iu wr aF (o.wt s2) aR):=df;have dk:ay (Fr (fun k=>F k\/k=bl\/k=b\/k=bs) w wr):=P;clear hd aB H j0 df P ct U O cv dT;go_wp2_with fail;refine cB.mono ?_;clear cB;rintro e cD ⟨b1,cE,b2,cF,rfl,cG,_,E⟩
   have cI:=sk (fun e=>D e.1/\D e.2) 146 #[] #[aj bl] (fun e=>is s2 e.1) xd cD.drew (fun w' e hd hs hk=>di.o w' e hd (aT E.size hs) (fun k h=>(hk k (aM h E.size)).trans (E.block k h))) (o.wt s2) aF aR dj.o V (dZ.o.lp.below E.drew)
   rw[<-b4.o] at cI;have dl:=(E.cell (p:=aq b 0) cy).trans db;have dm:=(E.cell (p:=aq bs 0) cz).trans de;have dn:=(E.cell (p:=aq o.p 1) cA).trans dg;have dp:=(E.cell (p:=aq bl 2) m1).trans dd;go_wp2_with fail;have a0:=E.size
   go_region_held3 (fun w'=>w'.cell? (aq bs 0)=some (aj o.p)/\w'.cell? (aq o.p 1)=some (.slice aF (o.wt s2).length aR)/\w'.cell? (aq b 0)=some (.func (.func 146) #[] #[aj bl])) (go_keep)
    (first|(go_at_call 150;refine cI.mono ?_;rintro e g ⟨d0,d1,eM,eN,rfl,dq,_,K⟩;have d2:=(K.cell (p:=aq b 0) (aM cy a0)).trans dl;have cJ:=(K.cell (p:=aq bs 0) (aM cz a0)).trans dm;have d3:=(K.cell (p:=aq o.p 1) (aM cA a0)).trans dn;have cK:=(K.cell (p:=aq bl 2) (aM m1 a0)).trans dp))
   have bb:Below wr.heap.size wr g:=E.drew.trans (K.mono a0)
   have eQ:cD.heap.size<=g.heap.size:=K.size;have dr:=cH (w:=cD) cG (fun k e=>K.block k (cn cG k e).2)
   have b5:=o.below dY.o bb;have ds:=(bb.block o.p cA).trans b0;have b6:o.p≠bs:=fun e=>cx (by rw[<-e];exact aV)
   have b8:o.p≠bl:=fun e=>n1 (by rw[<-e];exact aV)
   have d4:o.p≠b:=fun e=>cw (by rw[<-e];exact aV)
   have dt:ay (∀k,Q k->F k\/w.heap.size<=k):=fun k h=>by
    rcases bY.o k ((da k).2 (aK h)) with(c|c|c|c)|c
    ·exact aK c
    ·exact absurd (by rw[<-c];exact h) n1
    ·exact absurd (by rw[<-c];exact h) cw
    ·exact absurd (by rw[<-c];exact h) cx
    ·exact aJ c
   have d5:ay (Q o.p):=aV;have du:o.p<g.heap.size:=lt_of_some ds;have dv:bs<g.heap.size:=V;have dx:bl<g.heap.size:=V;have d6:t.length<=100000:=V;have d7:u.length<=100000:=V;have dy:=g8 dr;have dz:=g8 dq;have cL:=o.below b5 (av g).drew;have dA:=dy.below (av g).drew;have dB:=dz.below (av g).drew;clear cG K E dl dm dn dp dc db de dg dd cI d2 d3 b0 aV n1 cw cx da;go_wp2_with fail
   go_region_held3 (fun w'=>w'.cell? (aq bs 0)=some (aj o.p)/\w'.cell? (aq bl 2)=some (.func (.func d.f) d.b d.c)) (first|exact⟨cJ,cK⟩|exact⟨cM,cN⟩|exact⟨b9,ca⟩|exact⟨(nW b6.symm).trans b9,(nW b8.symm).trans ca⟩|exact⟨(nW b6.symm).trans ((nW b6.symm).trans b9),(nW b8.symm).trans ((nW b8.symm).trans ca)⟩)
    (first
      |(have eR:=I;go_at_call 152;refine(wL o.todr D d.f d.b d.c nw v.o.en v.o.ht u d0 d1 Q s2 _ dX.o d7 (o.below cL I) (dB.below I)).mono ?_;rintro e q ⟨ab,ag,rfl,J,R⟩;have eS:=R.size;have b9:=(R.cell (p:=aq bs 0) (aM dv bd)).trans cM;have ca:=(R.cell (p:=aq bl 2) (aM dx bd)).trans cN;have be:=(R.block o.p (aM du bd)).trans ((I.block o.p du).trans ds);have q0:q.cell? (aq o.p 0)=some o.vr:=aA be;have q1:q.cell? (aq o.p 1)=some (.slice aF (o.wt s2).length aR):=aA be;have d8:q.frozen? (aq o.p 0)=false:=aC be;have d9:q.frozen? (aq o.p 1)=false:=(by simp[World.frozen?,be]))
      |(go_at_call 152;refine(wL o.todr D d.f d.b d.c nw v.o.en v.o.ht t b1 cE Q s2 _ dV.o d6 cL dA).mono ?_;rintro e cb ⟨ai,al,rfl,L,I⟩;have bd:=I.size;have cM:=(I.cell (p:=aq bs 0) dv).trans cJ;have cN:=(I.cell (p:=aq bl 2) dx).trans cK))
   have ea:Below g.heap.size g cb:=(av g).drew.trans (I.mono bW)
   have dC:Below g.heap.size g q:=ea.trans (R.mono bd)
   have ce:Below wr.heap.size wr q:=bb.trans (dC.mono bb.size)
   have eb:=o.below b5 dC;have ec:ay (cb.ownsRow g.heap.size 103 2 (.slice ai t.length al) t.length (ev (t.map fun e=>(nw s2 e.1,nw s2 e.2)))):=L;have ed:ay (q.ownsRow g.heap.size 103 2 (.slice ab u.length ag) u.length (ev (u.map fun e=>(nw s2 e.1,nw s2 e.2)))):=eV J (fun k e=>aT bd (cn J k e).1)
   have ee:ay (Below cb.heap.size cb q):=R;have ef:ay (∀k,some k=(Value.slice ai t.length al).ownBlock->some k≠(Value.slice ab u.length ag).ownBlock):=fun k e eg=>by have bp:=(cn L k e).2;have br:=(cn J k eg).1;omega
   clear L J I R dA dB cL dy dz dr dq cM cN b9 ca cJ cK q0 q1 d8 d9;go_wp2_with fail;go_ret;have eh:eO o is kp nw s r=t.map fun e=>(nw s2 e.1,nw s2 e.2):=by unfold eO;rw[<-bZ.o,<-bx.o,<-b3.o]
   have ei:eP o is kp nw s r=u.map fun e=>(nw s2 e.1,nw s2 e.2):=by unfold eP;rw[<-bZ.o,<-b4.o]
   have bg:∀k,k≠o.p->((q.setCell ⟨o.p,0,none⟩ (.slice ai t.length al)).setCell ⟨o.p,1,none⟩ (.slice ab u.length ag)).heap[k]?=q.heap[k]?:=fun k hk=>(aU _ _ _ _ hk).trans (aU _ _ _ _ hk)
   have L:=ec.o;have J:=ed.o;have dD:=dk.o.size;have dE:=bb.size;have ej:ll ((q.setCell ⟨o.p,0,none⟩ (.slice ai t.length al)).setCell ⟨o.p,1,none⟩ (.slice ab u.length ag)) o.p bl b bs l fk d:=
    ⟨(bg bl b8.symm).trans ((ce.block bl m1).trans cC.o.l),(bg b d4.symm).trans ((ce.block b cy).trans cC.o.g),(bg bs b6.symm).trans ((ce.block bs cz).trans cC.o.s)⟩
   have dF:Fr (fun k=>k=o.p) q ((q.setCell ⟨o.p,0,none⟩ (.slice ai t.length al)).setCell ⟨o.p,1,none⟩ (.slice ab u.length ag)):=((Fr.refl (fun k=>k=o.p) q).set o.p 0 _ rfl).set o.p 1 _ rfl;rw[eh,ei,aW,aW,<-bZ.o];refine⟨ai,al,ab,ag,Q,q,rfl,eb,dF,gz be,?_,?_,?_,dt.o,fun k e h=>?_,fun k e h=>?_,ef.o⟩
   ·refine eV (cH L (fun k e=>?_)) (fun k e=>aT (aT dD dE) (cn L k e).1)
    have:=cn L k e;exact(bg k V).trans (ee.o.block k this.2)
   ·refine eV (cH J (fun k e=>?_)) (fun k e=>aT (aT dD dE) (cn J k e).1)
    have:=cn J k e;exact bg k V
   ·exact((dk.o.trans (Fr.of (X:=fun _=>False) ce) (fun _ c=>c.elim)).trans dF (fun i c=>by rw[c];exact(dt.o o.p d5.o).imp aK id)).unbox dN.o ej
   ·have:=o.lt b5 k h;have:=(cn L k e).1;omega
   ·have:=o.lt b5 k h;have:=(cn J k e).1;omega
  ·have ek:wr.cell? (aq G 0)=some (mX b bl bs):=by
    have hk:=P.block G dM (by simp[dK,dL])
    simp[World.cell?,hk,dP.o]
   have dG:∀j,j<f.length->∀x,(o.wt (kp (pts (cm o is kp) s2 (f.take j)).2.2 x).2).length<=90000:=fun j eT x=>by
    have bp:=sG o is kp v.o.hl s2 (f.take j)
    have br:=oN (cm o is kp) s2 (f.take j)
    rw[v.o.hl,bp];simp at br;omega
   have cf:=v8 (boxed o bl b bs l fk d) (fun e=>D e.1/\D e.2) (fun s=>∀x,(o.wt (kp s x).2).length<=90000) 147 #[] #[aj b,aj bl,aj bs] (cm o is kp) Do (Dl o bl b bs D l fk d is kp v.o.ea v.o.e7 v.o.ha v.o.hk) f ad cd S s2 wr c9.o dG V cu ((g8 hd).apart (fun _ z e=>cv.o z.block (by rw[e];rfl)))
   obtain⟨Y,N,am,bi⟩:∃Y N am,ay (pts (cm o is kp) s2 f=(Y,N,am)):=⟨_,_,_,rfl⟩
   have cO:=oN (cm o is kp) s2 f;have cP:=sG o is kp v.o.hl s2 f;have cg:=sF (cm o is kp) s2 f;rw[bi.o] at cf cO cg cP;dsimp only at cf cO cg cP;have el:(o.wt am).length+N.length<=90000:=V;clear cP dG;obtain⟨n,rfl⟩:∃m,n=m+1:=⟨n-1,by have:=(U.o W).2;omega⟩
   have em:ay (Y.length=0->am=ft o is kp s r):=fun h=>by
    have e:=lS (cm o is kp) n s2 f (by rw[bi.o];exact h)
    rw[<-(U.o W).1,e,bi.o]
   have eo:ay (¬Y.length=0->(eB (cm o is kp) n am N).1=ft o is kp s r/\N.length<n):=fun h=>by
    have e:=lU (cm o is kp) n s2 f (by rw[bi.o];exact h)
    refine⟨?_,?_⟩
    ·rw[<-(U.o W).1,e,bi.o]
    ·have:=(U.o W).2;omega
   have ep:ay (∀e∈N,D e.1/\D e.2):=fun e he=>c9.o e (cg e (aJ he))
   clear cg;go_wp2_with fail;refine cf.mono ?_;clear cf;rintro e eU ⟨b1,cE,b2,cF,ch,rfl,eq,hN,er,cQ,cR,es,dH⟩
   have dh:=P.size;have et:ay (∀k,ch k->(F k\/k=bl\/k=b\/k=bs)\/w.heap.size<=k):=fun k h=>(cR k h).elim (bY.o k) (fun h=>aJ V)
   have eu:ay (∀k,some k=(Value.slice a1 A.length ar).ownBlock->¬ch k):=fun k e h=>(cR k h).elim (O.o k e) (fun h=>by have:=(cn aB k e).2;omega)
   have ew:ay (∀k,some k=(Value.slice b2 N.length cF).ownBlock->¬ch k):=dH;have ex:=hY aB cQ O.o;have ey:=P.trans cQ bY.o;have ez:=eV hN (base':=w.heap.size) (fun k e=>aT dh (cn hN k e).1)
   clear cR es dH eq hN aB P cQ cu bY O cv hd ct U ek;go_wp2_with fail;go_roundw
   case rel=>exact⟨N,Y,b2,b1,cF,cE,n,ch,am,rfl,rfl,em,eo,ep,V,V,el,ez,ex,er,ey,et,eu,ew⟩
   case measure=>
    exact Dq W cO
theorem Ds (a b c:Addr)(w:ax):
 CallsD prog 218 #[.pointer (some a),.pointer (some b),.pointer (some c)] .returning w fun e d w'=>e=.returned (.tuple #[])/\d=.returning/\w'=w:=by
 refine callsD_of_wpS func218 rfl fun f i g=>?_;apply wpS_seq;apply wpS_region;simp[wpOpsS,go_sem,recoverD,g,ntmps218,Exit.thenS];refine wpS_cond (t:=false) (by simp[Act.eval,Array.replicate]) ?_;refine wpS_of_wp (wp_skip ?_)
 cases f
 simp_all [bodyPostS,results,results218]
theorem xf (f:Nat)(b c:Array Value)(i:dN f)(w:ax)(p:Nat)(a0 a1:Option Addr)(n0 k0 n1 k1:Nat)(c0:w.cell? (aq p 0)=some (.slice a0 n0 k0))(c1:w.cell? (aq p 1)=some (.slice a1 n1 k1))(R:Bool->ax->Prop)
 (h:∀w1,w1=((w.alloc (.cells #[.pointer (some ⟨p,0,none⟩)] 52)).alloc (.cells #[.bool false] 4)).alloc (.cells #[.slice a0 n0 k0,.slice a1 n1 k1] 153)->Calls prog f (b++c) w1 fun r d=>∃g,r=.returned (.bool g)/\R g d/\d.heap[w.heap.size+1]?=some (.cells #[.bool false] 4 (0,0))):
 Calls prog 148 #[aj p,.func (.func f) b c] w fun e w'=>∃g d,e=.returned (.bool g)/\R g d/\d.heap[w.heap.size+1]?=some (.cells #[.bool false] 4 (0,0))/\w'=d.setCell ⟨w.heap.size+1,0,none⟩ (.bool g):=by
 have l:=aQ w _ c0;have H:=hide h;clear h;have m:∀(args:Array Value)(w:ax),(callFunc f args).run prog w=.ok (.enter f args) w:=i;clear i
 go_enter_defers func148,ntmps148
 go_wp2_with fail;refine(H.o _ rfl).mono ?_;rintro e d ⟨g,rfl,j,hk⟩
 have k:d.cell? (aq (w.heap.size+1) 0)=some (.bool false):=aA hk
 have n:d.frozen? (aq (w.heap.size+1) 0)=false:=aC hk
 go_wp2_with fail;refine leaves_cons (f:=218) (args:=#[aj (w.heap.size+1+1),aj w.heap.size,aj (w.heap.size+1)]) Z (by simp[go_sem]) ?_;refine(Ds _ _ _ _).mono ?_;rintro e o q ⟨rfl,rfl,rfl⟩
 simp[Leaves,settle,results,results148,go_sem,(bf _ _ _ k)];cases g
 ·exact aK ⟨rfl,d,j,hk,rfl⟩
 ·exact aJ ⟨rfl,d,j,hk,rfl⟩
theorem Dt:dN 149:=gb func149 ae rfl
theorem qa {j:Type}(o:fK j)(D:Int->Prop)(fa fk fn:fQ)(is:j->Int->Bool)(kp:j->Int->Int×j)(nw:j->Int->Int)(O:lV o D fa fk fn is kp nw)(r:List b7)(t:Option Addr)(v:Nat)(J:o.vr=.slice t r.length v)(hr:r.length<=90000)(Q:∀e∈r,D e.1/\D e.2)
 (F:Nat->Prop)(s:j)(w:ax)(R:∀e∈o.wt (ft o is kp s r),D e.1/\D e.2)(S:(o.wt s).length+r.length<=90000)(x:o.J F s w)(U:dw w t r):
 Calls prog 78 #[aj o.p,.agg #[fa.v,fk.v,fn.v]] w fun e w'=>∃a1 c1 a2 c2 b d,e=.returned (.tuple #[])/\o.J b (ft o is kp s r) d/\(∀k,b k->k≠o.p->w'.heap[k]?=d.heap[k]?)/\d.heap.size<=w'.heap.size/\
  w'.heap[o.p]?=some (.cells #[.slice a1 (eO o is kp nw s r).length c1,.slice a2 (eP o is kp nw s r).length c2] 153 (0,0))/\w'.ownsRow w.heap.size 103 2 (.slice a1 (eO o is kp nw s r).length c1) (eO o is kp nw s r).length (ev (eO o is kp nw s r))/\
  w'.ownsRow w.heap.size 103 2 (.slice a2 (eP o is kp nw s r).length c2) (eP o is kp nw s r).length (ev (eP o is kp nw s r))/\Fr F w w'/\(∀k,b k->F k\/w.heap.size<=k)/\(∀k,some k=(Value.slice a1 (eO o is kp nw s r).length c1).ownBlock->¬b k)/\(∀k,some k=(Value.slice a2 (eP o is kp nw s r).length c2).ownBlock->¬b k)/\(∀k,some k=(Value.slice a1 (eO o is kp nw s r).length c1).ownBlock->some k≠(Value.slice a2 (eP o is kp nw s r).length c2).ownBlock):=by
 obtain⟨K,L,hp,_,al,_⟩:=o.side x;rw[J] at hp;have c0:w.cell? (aq o.p 0)=some (.slice t r.length v):=aA hp
 have c1:w.cell? (aq o.p 1)=some (.slice K (o.wt s).length L):=aA hp
 have lp:=lt_of_some hp;have W:ay (∀w1,Below w.heap.size w w1->ll w1 o.p (w.heap.size+1) (w.heap.size+2) w.heap.size fa fk fn->w1.heap[w.heap.size+3]?=some (.cells #[mX (w.heap.size+2) (w.heap.size+1) w.heap.size] 101 (0,0))->Calls prog 149 #[aj w.heap.size,aj (w.heap.size+1),aj (w.heap.size+3),aj (w.heap.size+2)] w1 fun e w'=>∃a1 c1 a2 c2 b d,e=.returned (.bool true)/\o.J b (ft o is kp s r) d/\Fr (fun k=>k=o.p) d w'/\
  w'.heap[o.p]?=some (.cells #[.slice a1 (eO o is kp nw s r).length c1,.slice a2 (eP o is kp nw s r).length c2] 153 (0,0))/\w'.ownsRow w1.heap.size 103 2 (.slice a1 (eO o is kp nw s r).length c1) (eO o is kp nw s r).length (ev (eO o is kp nw s r))/\
  w'.ownsRow w1.heap.size 103 2 (.slice a2 (eP o is kp nw s r).length c2) (eP o is kp nw s r).length (ev (eP o is kp nw s r))/\Fr F w1 w'/\(∀k,b k->F k\/w1.heap.size<=k)/\(∀k,some k=(Value.slice a1 (eO o is kp nw s r).length c1).ownBlock->¬b k)/\(∀k,some k=(Value.slice a2 (eP o is kp nw s r).length c2).ownBlock->¬b k)/\(∀k,some k=(Value.slice a1 (eO o is kp nw s r).length c1).ownBlock->some k≠(Value.slice a2 (eP o is kp nw s r).length c2).ownBlock)):=by
  intro w1 hb hB hc;have q:∀k,w.heap.size<=k->¬F k:=fun k hk h=>by have:=o.lt x k h;omega
  exact Dr o D fa fk fn is kp nw O r t v J hr Q F s w1 R S _ _ _ _ (o.below x hb) hB hc (q _ V) (q _ V) (q _ V) (q _ V) ⟨V,V,V⟩ (U.below hb)
 have M:=hide x;go_enter func78,ntmps78;go_wp2_with fail;have f:∃W4,W4=(((w.alloc (.cells #[.pointer (some ⟨o.p,0,none⟩)] 52)).alloc (.cells #[fa.v,fk.v,fn.v] 145)).alloc (.cells #[.func (.func 146) #[] #[.pointer (some ⟨w.heap.size+1,0,none⟩)]] 101)).alloc (.cells #[mX (w.heap.size+1+1) (w.heap.size+1) w.heap.size] 101):=⟨_,rfl⟩
 obtain⟨W4,f⟩:=f;have sz:W4.heap.size=w.heap.size+4:=by rw[f];simp
 have A:Below w.heap.size w W4:=by rw[f];exact((((aH _ w).alloc bW _).alloc Z _).alloc (by simp;omega) _).alloc (by simp;omega) _
 have g0:W4.heap[w.heap.size]?=some (.cells #[aj o.p] 52 (0,0)):=by rw[f,aS _ _ _ (by simp;omega),aS _ _ _ (by simp;omega),aS _ _ _ Z];exact aO _ _
 have g1:W4.heap[w.heap.size+1]?=some (.cells #[fa.v,fk.v,fn.v] 145 (0,0)):=by rw[f,aS _ _ _ Z,aS _ _ _ Z];exact xc
 have g2:W4.heap[w.heap.size+2]?=some (.cells #[.func (.func 146) #[] #[aj (w.heap.size+1)]] 101 (0,0)):=by rw[f,aS _ _ _ Z];simpa using aO ((w.alloc (.cells #[.pointer (some ⟨o.p,0,none⟩)] 52)).alloc (.cells #[fa.v,fk.v,fn.v] 145)) (.cells #[.func (.func 146) #[] #[.pointer (some ⟨w.heap.size+1,0,none⟩)]] 101)
 have g3:W4.heap[w.heap.size+3]?=some (.cells #[mX (w.heap.size+1+1) (w.heap.size+1) w.heap.size] 101 (0,0)):=by rw[f];simpa using aO (((w.alloc (.cells #[.pointer (some ⟨o.p,0,none⟩)] 52)).alloc (.cells #[fa.v,fk.v,fn.v] 145)).alloc (.cells #[.func (.func 146) #[] #[.pointer (some ⟨w.heap.size+1,0,none⟩)]] 101)) (.cells #[mX (w.heap.size+1+1) (w.heap.size+1) w.heap.size] 101)
 rw[<-f];have P:=xf 149 #[] #[aj w.heap.size,aj (w.heap.size+1),aj (w.heap.size+1+1+1),aj (w.heap.size+1+1)] Dt W4 o.p t K r.length v (o.wt s).length L ((A.cell (p:=aq o.p 0) lp).trans c0) ((A.cell (p:=aq o.p 1) lp).trans c1)
  (fun _ g=>∃a1 c1 a2 c2 b d,o.J b (ft o is kp s r) d/\Fr (fun k=>k=o.p) d g/\
    g.heap[o.p]?=some (.cells #[.slice a1 (eO o is kp nw s r).length c1,.slice a2 (eP o is kp nw s r).length c2] 153 (0,0))/\g.ownsRow (w.heap.size+7) 103 2 (.slice a1 (eO o is kp nw s r).length c1) (eO o is kp nw s r).length (ev (eO o is kp nw s r))/\
    g.ownsRow (w.heap.size+7) 103 2 (.slice a2 (eP o is kp nw s r).length c2) (eP o is kp nw s r).length (ev (eP o is kp nw s r))/\Fr F w g/\(∀k,b k->F k\/w.heap.size+7<=k)/\(∀k,some k=(Value.slice a1 (eO o is kp nw s r).length c1).ownBlock->¬b k)/\(∀k,some k=(Value.slice a2 (eP o is kp nw s r).length c2).ownBlock->¬b k)/\(∀k,some k=(Value.slice a1 (eO o is kp nw s r).length c1).ownBlock->some k≠(Value.slice a2 (eP o is kp nw s r).length c2).ownBlock))
  (by
    intro w1 hw1;have s1:w1.heap.size=w.heap.size+7:=by rw[hw1];simp;omega
    have b1:Below W4.heap.size W4 w1:=by rw[hw1];exact(((aH _ W4).alloc bW _).alloc Z _).alloc (by simp;omega) _
    have hk:w1.heap[W4.heap.size+1]?=some (.cells #[.bool false] 4 (0,0)):=by exact xa
    have b2:=A.trans (b1.mono V)
    refine(W.o w1 b2 ⟨(b1.block _ V).trans g1,(b1.block _ V).trans g2,(b1.block _ V).trans g0⟩ ((b1.block _ V).trans g3)).mono ?_;rintro e g ⟨a1,c1,a2,c2,b,d,rfl,q1,B,q3,l,n,C,u,G,H,I⟩
    rw[s1] at l n u;refine⟨true,rfl,⟨a1,c1,a2,c2,b,d,q1,B,q3,l,n,(Fr.of (X:=F) b2).trans C (fun _ c=>aK c),u,G,H,I⟩,(C.block _ V (fun h=>?_)).trans hk⟩
    have:=o.lt M.o _ h;omega)
 refine P.mono ?_;rintro e am ⟨Y,g,rfl,⟨a1,ab,a2,ad,b,d,q1,B,q3,l,n,C,u,G,H,I⟩,hk,rfl⟩
 obtain⟨m,hm⟩:∃m,m=W4.heap.size+1:=⟨_,rfl⟩
 rw[<-hm];have ag:ay (m=w.heap.size+5):=by show m=_;omega
 clear hm hk A g0 g1 g2 g3 sz f;go_wp2_with fail;go_end0;have hm:=ag.o;have E:∀k,k≠m->(g.setCell ⟨m,0,none⟩ (.bool Y)).heap[k]?=g.heap[k]?:=fun k hk=>aU _ _ _ _ hk;refine⟨a1,ab,a2,ad,b,d,rfl,q1,fun k N ai=>?_,?_,(E _ V).trans q3,?_,?_,C.trans ((Fr.refl (fun k=>k=m) g).set _ 0 _ rfl) (fun i c=>aJ V),fun k h=>(u k h).imp id (fun h=>by omega),G,H,I⟩
 ·refine(E k ?_).trans (B.block k (o.lt q1 k N) ai)
  rcases u k N with h|h
  ·have:=o.lt M.o k h;omega
  ·omega
 ·have:=B.size;simpa[World.setCell] using this
 ·exact eV (cH l (fun k e=>E k (by have:=(cn l k e).1;omega))) (fun k e=>by have:=(cn l k e).1;omega)
 ·exact eV (cH n (fun k e=>E k (by have:=(cn n k e).1;omega))) (fun k e=>by have:=(cn n k e).1;omega)
def c7 {u:Type}(o:dr u)(p:Nat)(vr:Value):fK (u×List b7) where
 J F s w:=∃b ad cap,o.J b s.1 w/\w.heap[p]?=some (.cells #[vr,.slice ad s.2.length cap] 153 (0,0))/\w.ownsRow 0 103 2 (.slice ad s.2.length cap) s.2.length (ev s.2)/\(∀k,b k->F k)/\F p/\¬b p/\(∀k,some k=(Value.slice ad s.2.length cap).ownBlock->F k/\¬b k)/\(∀k,F k->k<w.heap.size)
 lt:=by rintro F t w ⟨b,ad,cap,n,c,d,f,i,l,m,j⟩ k hk;exact j k hk
 keep:=by rintro F t w w' ⟨b,ad,cap,n,c,d,f,i,l,m,j⟩ hs hk;exact⟨b,ad,cap,o.keep n hs (fun k h=>hk k (f k h)),(hk p i).trans c,cH d (fun k e=>hk k (m k e).1),f,i,l,m,fun k h=>aM (j k h) hs⟩
 p:=p
 vr:=vr
 wt s:=s.2
 put s q:=(s.1,q)
 side:=by
  rintro F s w ⟨b,ad,cap,n,c,d,f,i,l,m,j⟩
  refine⟨ad,cap,c,⟨g8 d,?_,?_⟩,i,fun hp z e=>(m z.block (by rw[e];rfl)).1⟩
  ·rcases d.2 with⟨hv,h0⟩|⟨g,A,B,hv,_,_,hc,_⟩
   ·omega
   ·simp at hv;omega
  ·intro C;rcases d.2 with⟨hv,h0⟩|⟨g,A,B,hv,_⟩
   ·simp at hv;exact⟨h0,hv.2.2⟩
   ·rw[C] at hv;simp at hv
 set:=by
  rintro F s w ⟨b,ad,cap,n,c,d,f,i,l,m,j⟩ w1 q b1 ge hb v;have lp:=lt_of_some c;have E:=cn v b1 rfl;have x:∀k,k≠p->(w1.setCell ⟨p,1,none⟩ (.slice (some ⟨b1,0,none⟩) q.length ge)).heap[k]?=w1.heap[k]?:=fun k hk=>aU _ _ _ _ hk;have hs:(w1.setCell ⟨p,1,none⟩ (.slice (some ⟨b1,0,none⟩) q.length ge)).heap.size=w1.heap.size:=by simp[World.setCell]
  have G:=hb.size;refine⟨b,ak b1,ge,o.keep (o.below n hb) (by rw[hs];exact aD _) (fun k h=>x k (fun e=>l (by rw[<-e];exact h))),?_,eV (cH v (fun k e=>x k (by simp[Value.ownBlock] at e;omega))) (fun _ _=>aX _),fun k h=>aK (f k h),aK i,l,fun k e=>?_,fun k h=>?_⟩
  ·have D:=(hb.block p lp).trans c;simp only [World.setCell,Array.getElem?_modify,if_true,D,Option.map_some];simp
  ·simp[Value.ownBlock] at e;exact⟨aJ e,fun h=>by have:=j k (f k h);omega⟩
  ·rw[hs];rcases h with h|h
   ·have:=j k h;omega
   ·omega
 p9:=fun _ _=>rfl
theorem qb {b:Type}(o:dr b)(p:Nat)(vr:Value)(D:Int->Prop)(c fk d:fQ)(is:b->Int->Bool)(kp:b->Int->Int×b)(nw:b->Int->Int)(ea:dN c.f)(e7:dN fk.f)(en:dN d.f)(ha:j_ o D c.f c.b c.c is)(hk:nT o D fk.f fk.b fk.c kp)(ht:k9 o D d.f d.b d.c nw):
 lV (c7 o p vr) D c fk d (fun s x=>is s.1 x) (fun s x=>((kp s.1 x).1,((kp s.1 x).2,s.2))) (fun s x=>nw s.1 x) where
 ea:=ea
 e7:=e7
 en:=en
 ha:=by
  rintro F s w x f ⟨g,ad,cap,i,_⟩
  exact ha g s.1 w x f i
 hk:=by
  rintro F s w x f _ ⟨g,ad,cap,i,q,l,t,B,u,m,C⟩
  refine(hk g s.1 w x f i).mono ?_;rintro r w' ⟨v,rfl,A,j,n⟩
  have lp:=lt_of_some q;refine⟨fun k=>F k\/v k,rfl,⟨v,ad,cap,A,(j.block p lp u).trans q,cH l (fun k e=>j.block k (cn l k e).2 (m k e).2),fun k h=>aJ h,aK B,fun h=>(n p h).elim u (fun h=>by omega),fun k e=>⟨aK (m k e).1,fun h=>(n k h).elim (m k e).2 (fun h=>by have:=(cn l k e).2;omega)⟩,fun k h=>?_⟩,j.mono t,fun k h=>?_⟩
  ·rcases h with h|h
   ·exact aM (C k h) j.size
   ·exact o.lt A k h
  ·rcases h with h|h
   ·exact aK h
   ·exact(n k h).imp (t k) id
 ht:=by
  rintro F s w x f ⟨g,ad,cap,i,_⟩
  exact ht g s.1 w x f i
 hl:=fun _ _=>rfl
structure qc {σ:Type}(o:fK σ):Prop where
 xg:∀{F s w},o.J F s w->∀{w1:ax}{q:List b7}{a1:Option Addr}{c1:Nat},Below w.heap.size w w1->w1.ownsRow w.heap.size 103 2 (.slice a1 q.length c1) q.length (ev q)->
  o.J (fun k=>F k\/some k=(Value.slice a1 q.length c1).ownBlock) (o.put s q) (w1.setCell ⟨o.p,1,none⟩ (.slice a1 q.length c1))
 xh:∀{F s w},o.J F s w->∀{ad:Option Addr}{cap:Nat},w.heap[o.p]?=some (.cells #[o.vr,.slice ad (o.wt s).length cap] 153 (0,0))->∀i,i<(o.wt s).length->∀g z:Int,∃b f,ad=some ⟨b,f,none⟩/\F b/\b≠o.p/\w.frozen? (aq b (f+i*2))=false/\w.frozen? (aq b (f+i*2+1))=false/\
  o.J F (o.put s ((o.wt s).set i (g,z))) ((w.setCell ⟨b,f+i*2,none⟩ (.int .i64 g)).setCell ⟨b,f+i*2+1,none⟩ (.int .i64 z))
def lq {b:Type}(o:fK b)(is:b->Int->Bool)(kp:b->Int->Int×b)(t:b×Bool)(i:Nat):b×Bool:=
 if is t.1 ((o.wt t.1).getD i (0,0)).2||!is t.1 ((o.wt t.1).getD i (0,0)).1 then t
 else(o.put (kp t.1 ((o.wt t.1).getD i (0,0)).2).2 ((o.wt (kp t.1 ((o.wt t.1).getD i (0,0)).2).2).set i (((o.wt t.1).getD i (0,0)).1,(kp t.1 ((o.wt t.1).getD i (0,0)).2).1)),true)
def fE {b:Type}(o:fK b)(is:b->Int->Bool)(kp:b->Int->Int×b)(s:b)(n:Nat):b×Bool:=(List.range n).foldl (lq o is kp) (o.put s (o.wt s),false)
theorem Du {b:Type}(o:fK b)(is:b->Int->Bool)(kp:b->Int->Int×b)(s:b):fE o is kp s 0=(o.put s (o.wt s),false):=rfl
theorem xi {b:Type}(o:fK b)(is:b->Int->Bool)(kp:b->Int->Int×b)(s:b)(n:Nat):fE o is kp s (n+1)=lq o is kp (fE o is kp s n) n:=by simp[fE,List.range_succ]
theorem Dv {b:Type}(o:fK b)(is:b->Int->Bool)(kp:b->Int->Int×b)(hl:∀s x,(o.wt (kp s x).2).length=(o.wt s).length)(t:b×Bool)(i:Nat):(o.wt (lq o is kp t i).1).length=(o.wt t.1).length:=by
 unfold lq;split
 ·rfl
 ·simp[o.p9,hl]
theorem xj {b:Type}(o:fK b)(is:b->Int->Bool)(kp:b->Int->Int×b)(hl:∀s x,(o.wt (kp s x).2).length=(o.wt s).length)(s:b):∀n,(o.wt (fE o is kp s n).1).length=(o.wt s).length
 |0=>by rw[Du];simp[o.p9]
 |n+1=>by rw[xi,Dv o is kp hl,xj o is kp hl s n]
theorem xk {b:Type}{o:fK b}{is:b->Int->Bool}{kp:b->Int->Int×b}{t:b×Bool}{i:Nat}{g z:Int}(hg:((o.wt t.1).getD i (0,0)).1=g)(hz:((o.wt t.1).getD i (0,0)).2=z)(h:is t.1 z=true\/is t.1 g=false):lq o is kp t i=t:=by unfold lq;rw[hg,hz];rcases h with h|h<;>simp[h]
theorem Dw {b:Type}{o:fK b}{is:b->Int->Bool}{kp:b->Int->Int×b}{t:b×Bool}{i:Nat}{g z:Int}(hg:((o.wt t.1).getD i (0,0)).1=g)(hz:((o.wt t.1).getD i (0,0)).2=z)(c:is t.1 z=false)(d:is t.1 g=true):lq o is kp t i=(o.put (kp t.1 z).2 ((o.wt (kp t.1 z).2).set i (g,(kp t.1 z).1)),true):=by unfold lq;rw[hg,hz];simp[c,d]
def lW (n:Nat):Code->Option Code
 |.region m o d=>match m==n with
  |true=>some (.region m o d)
  |false=>none
 |.seq a b=>match lW n a with
  |some c=>some c
  |none=>lW n b
 |.cond _ a b=>match lW n a with
  |some c=>some c
  |none=>lW n b
 |.block _ c=>lW n c
 |.loop c=>lW n c
 |.scope c=>lW n c
 |_=>none
theorem Dy {s1 s2 c s4 s5 s6 bb bd be bg bi bl bn d f g i j k m n o q s t u v x A B C D E F G H I J K L M N O P R S U W X Y ab ag ai al am an:Value}{Q:Exit->Act->ax->Prop}{bs p cap:Nat}{ad:Option Addr}{l:List b7}{w:ax}(hl:l.length<=100000)(h:iu w ad l cap)(c0:w.cell? (aq bs 0)=some (aj p))(c1:w.cell? (aq p 1)=some (.slice ad l.length cap))(bo:w.frozen? (aq p 1)=false)
 (a2:∀(ao ap ar aB aF aR aV a0:Value)(a1:Option Addr)(k1:Nat)(w1:ax),w1.ownsRow w.heap.size 103 2 (.slice a1 l.length k1) l.length (ev l)->Below w.heap.size w w1->Q .normal ⟨#[aj bs,s1,s2,c,s4,s5,ao,ap,ar,aB,aF,aR,aV,a0,d,f,g,i,j,k,m,n,o,q,s,t,u,v,x,A,B,C,D,E,F,G,H,I,J,K,L,M,N,O,P,R,S,U,W,X,Y,ab,ag,ai,al,am,an],[]⟩ (w1.setCell ⟨p,1,none⟩ (.slice a1 l.length k1))):
 Code.wp prog ((Tryz.f217.body.bind (lW 1)).getD .skip) Q ⟨#[aj bs,s1,s2,c,s4,s5,s6,bb,bd,be,bg,bi,bl,bn,d,f,g,i,j,k,m,n,o,q,s,t,u,v,x,A,B,C,D,E,F,G,H,I,J,K,L,M,N,O,P,R,S,U,W,X,Y,ab,ag,ai,al,am,an],[]⟩ w:=by
 conv=>arg 2;whnf
 refine wp_region_noPanic ?_;have bp:ay (∀(ao ap ar aB aF aR aV a0:Value)(a1:Option Addr)(k1:Nat)(w1:ax),w1.ownsRow w.heap.size 103 2 (.slice a1 l.length k1) l.length (ev l)->Below w.heap.size w w1->Q .normal ⟨#[aj bs,s1,s2,c,s4,s5,ao,ap,ar,aB,aF,aR,aV,a0,d,f,g,i,j,k,m,n,o,q,s,t,u,v,x,A,B,C,D,E,F,G,H,I,J,K,L,M,N,O,P,R,S,U,W,X,Y,ab,ag,ai,al,am,an],[]⟩ (w1.setCell ⟨p,1,none⟩ (.slice a1 l.length k1))):=a2;have br:ay (iu w ad l cap):=h;have l2:=aQ w _ c0;have lp:=aQ w _ c1;dsimp only at l2 lp;clear a2 h
 go_region_with (go_at_call 212;refine(sq _ ad l cap (br.o.below (bX.drew)) hl).mono ?_;rintro e w1 ⟨a1,k1,rfl,bt,b⟩;have bx:=(b.cell (p:=aq bs 0) l2).trans c0;have bY:=(b.cell (p:=aq p 1) lp).trans c1;have bZ:=(b.frozen (p:=aq p 1) lp).trans bo)
 all_goals exact NoPanic.normal (bp.o _ _ _ _ _ _ _ _ a1 k1 w1 bt ((aH _ w).drew.trans b))
theorem Dz {n:Type}(o:fK n)(bo:qc o)(D:Int->Prop)(f fk Y:fQ)(is:n->Int->Bool)(kp:n->Int->Int×n)(nw:n->Int->Int)(u:lV o D f fk Y is kp nw)(F:Nat->Prop)(s:n)(w:ax)(hn:(o.wt s).length<=90000)
 (bp:∀j,j<(o.wt s).length->D ((o.wt (fE o is kp s j).1).getD j (0,0)).1/\D ((o.wt (fE o is kp s j).1).getD j (0,0)).2)(bl bs:Nat)(m:o.J F s w)(ab:w.heap[bl]?=some (.cells #[f.v,fk.v,Y.v] 145 (0,0)))(O:w.heap[bs]?=some (.cells #[aj o.p] 52 (0,0)))(br:¬F bl)(bt:¬F bs):
 Calls prog 217 #[aj bs,aj bl] w fun r w'=>∃bx,r=.returned (.bool (fE o is kp s (o.wt s).length).2)/\o.J bx (fE o is kp s (o.wt s).length).1 w'/\Fr F w w'/\∀k,bx k->F k\/w.heap.size<=k:=by
 have bY:ay (qc o):=bo;have bZ:ay (j_ o.todr D f.f f.b f.c is):=u.ha;have cw:ay (mU o D fk.f fk.b fk.c kp):=u.hk;have b0:ay (∀s x,(o.wt (kp s x).2).length=(o.wt s).length):=u.hl;have cx:ay (∀j,j<(o.wt s).length->D ((o.wt (fE o is kp s j).1).getD j (0,0)).1/\D ((o.wt (fE o is kp s j).1).getD j (0,0)).2):=bp;have cy:ay (o.J F s w):=m;have cz:ay (w.heap[bl]?=some (.cells #[f.v,fk.v,Y.v] 145 (0,0))):=ab;have cA:ay (w.heap[bs]?=some (.cells #[aj o.p] 52 (0,0))):=O;have cX:∀(args:Array Value)(w:ax),(callFunc f.f args).run prog w=.ok (.enter f.f args) w:=u.ea;have cY:∀(args:Array Value)(w:ax),(callFunc fk.f args).run prog w=.ok (.enter fk.f args) w:=u.e7;have c0:w.cell? (aq bs 0)=some (aj o.p):=aA O
 have l1:bl<w.heap.size:=lt_of_some ab;have l2:bs<w.heap.size:=lt_of_some O;obtain⟨ad,cap,hp,K,ag,ai⟩:=o.side m;have c1:w.cell? (aq o.p 1)=some (.slice ad (o.wt s).length cap):=aA hp
 have cB:w.frozen? (aq o.p 1)=false:=aC hp
 have lp:o.p<w.heap.size:=lt_of_some hp;have cC:ay (iu w ad (o.wt s) cap):=K;clear u bo bp m ab O hp K ai;go_enter func217,ntmps217
 go_upto_region 1 with fail
 refine Dy V cC.o c0 c1 cB ?_;intro cZ c2 c3 c4 c5 c6 c7 c8 a1 k1 w1 al P;have cD:=P.size;have b2:=bY.o.xg cy.o P al;have b3:Fr F w (w1.setCell ⟨o.p,1,none⟩ (.slice a1 (o.wt s).length k1)):=(Fr.of (X:=F) P).trans ((Fr.refl (fun k=>k=o.p) w1).set o.p 1 _ rfl) (fun i c=>aK (by rw[c];exact ag))
 have b4:∀k,F k\/some k=(Value.slice a1 (o.wt s).length k1).ownBlock->F k\/w.heap.size<=k:=fun k h=>h.imp id (fun e=>(cn al k e).1)
 clear al;go_wp2_with fail
 go_loopw [3,4] (fun cE iv wr=>∃(j:Nat)(b:n)(b1:Bool)(l:Nat->Prop),j<=(o.wt s).length/\iv=ah j/\cE=.bool b1/\ay (fE o is kp s j=(b,b1))/\o.J l b wr/\Fr F w wr/\ay (∀k,l k->F k\/w.heap.size<=k)) (fun _ iv _=>(o.wt s).length-(intOf iv).toNat)
 case atStart=>exact⟨0,_,false,_,aX _,rfl,rfl,rfl,b2,b3,b4⟩
 case round=>
  clear b2 b3 b4 cD P;obtain⟨j,b,b1,l,c9,rfl,rfl,L,m,v,q⟩:=hrel;have b7:(o.wt b).length=(o.wt s).length:=by have b8:=xj o is kp b0.o s j;rw[L.o] at b8;exact b8
  obtain⟨ad,cap,hp,K,ag,ai⟩:=o.side m;have da:=v.size;have n1:¬l bl:=fun h=>(q.o bl h).elim br (fun h=>by omega)
  have b9:¬l bs:=fun h=>(q.o bs h).elim bt (fun h=>by omega)
  have am:=(v.block bl l1 br).trans cz.o;have an:=(v.block bs l2 bt).trans cA.o;have cF:wr.cell? (aq bs 0)=some (aj o.p):=aA an
  have cG:wr.cell? (aq o.p 1)=some (.slice ad (o.wt s).length cap):=by simp[World.cell?,hp,b7]
  by_cases ao:j<(o.wt s).length
  ·obtain⟨db,dc,cH,dd,hc⟩:=K.lp V;obtain⟨ca,cb⟩:=hc j V;obtain⟨Q,M⟩:=cx.o j ao;rw[L.o] at Q M;have ap:ay (fE o is kp s (j+1)=lq o is kp (b,b1) j):=by show _=_;rw[xi,L.o]
   obtain⟨g,hg⟩:∃g,((o.wt b).getD j (0,0)).1=g:=⟨_,rfl⟩
   obtain⟨z,hz⟩:∃z,((o.wt b).getD j (0,0)).2=z:=⟨_,rfl⟩
   rw[hg] at ca;rw[hz] at cb;have Q:D g:=by rw[<-hg];exact Q
   have M:D z:=by rw[<-hz];exact M
   have ar:ay (((o.wt b).getD j (0,0)).1=g):=hg;have aB:ay (((o.wt b).getD j (0,0)).2=z):=hz;subst cH;have A:ay (o.J l b wr):=m;have aF:ay (Fr F w wr):=v;have cI:ay (wr.heap[bs]?=some (.cells #[aj o.p] 52 (0,0))):=an;have cc:wr.cell? (aq bl 0)=some (.func (.func f.f) f.b f.c):=aA am
   have m1:wr.cell? (aq bl 1)=some (.func (.func fk.f) fk.b fk.c):=aA am
   have aR:=au wr (.cells #[.int .i64 g,.int .i64 z] 103)
   have cd:bl<wr.heap.size:=V;have cJ:bs<wr.heap.size:=V;have de:o.p<wr.heap.size:=lt_of_some hp;have j0:(0:Int)<=(j:Int):=V;have df:(j:Int)<((o.wt s).length:Int):=V;clear hc hg hz m v am an hp K ag ai L;go_wp2_with fail;refine(bZ.o l b _ z M (o.below A.o aR)).mono ?_;rintro r B ⟨rfl,C⟩
   have R:wr.heap.size<B.heap.size:=by have:=C.size;simp at this;omega
   have E:Below wr.heap.size wr B:=aR.trans (C.mono Z)
   have ce:B.cell? (aq wr.heap.size 0)=some (ah g):=(C.cell Z).trans Z;have y1:B.cell? (aq wr.heap.size 1)=some (ah z):=(C.cell Z).trans Z;have cf:B.frozen? (aq wr.heap.size 1)=false:=(C.frozen Z).trans Z;have cK:B.cell? (aq bl 0)=some (.func (.func f.f) f.b f.c):=(E.cell cd).trans cc;cases hz1:is b z
   ·go_wp2_with fail;refine(bZ.o l b _ g Q (o.below A.o E)).mono ?_;rintro r aV ⟨rfl,G⟩
    have cg:wr.heap.size<aV.heap.size:=by have:=G.size;omega
    have t:Below wr.heap.size wr aV:=E.trans (G.mono V)
    have z0:=(G.cell (p:=aq wr.heap.size 0) R).trans ce;have ch:=(G.cell (p:=aq wr.heap.size 1) R).trans y1;have ci:=(G.frozen (p:=aq wr.heap.size 1) R).trans cf;have cL:aV.cell? (aq bl 1)=some (.func (.func fk.f) fk.b fk.c):=(t.cell cd).trans m1;clear ce y1 cf cK G C E ca cb cF cG;cases hg1:is b g
    ·have a0:ay (fE o is kp s (j+1)=(b,b1)):=ap.o.trans (xk ar.o aB.o (aJ hg1))
     go_wp2_with fail;go_roundw
     case rel=>exact⟨j+1,b,b1,l,V,af,rfl,a0,o.below A.o t,aF.o.trans (Fr.of (X:=F) t) (fun _ c=>aK c),q⟩
     case measure=>simp[intOf];omega
    ·have a2:ay (fE o is kp s (j+1)=(o.put (kp b z).2 ((o.wt (kp b z).2).set j (g,(kp b z).1)),true)):=ap.o.trans (Dw ar.o aB.o hz1 hg1)
     have H:ay ((o.wt (kp b z).2).length=(o.wt s).length):=(b0.o b z).trans b7;go_wp2_with fail;refine(cw.o l b _ z M (by rw[H.o];exact hn) (o.below A.o t)).mono ?_;rintro r d ⟨I,rfl,bb,N,S⟩
     generalize (kp b z).1=y at a2⊢;generalize (kp b z).2=s2 at a2 H bb;have bd:¬l wr.heap.size:=fun h=>by have:=o.lt A.o _ h;omega
     have be:¬I wr.heap.size:=fun h=>(S _ h).elim bd (fun h=>by omega)
     have cj:¬I bs:=fun h=>(S _ h).elim b9 (fun h=>by omega)
     have cM:=N.size;have U:=N.block _ cg bd;have ck:=((N.block bs V b9).trans (t.block bs cJ)).trans cI.o;have v0:d.cell? (aq wr.heap.size 0)=some (ah g):=(aP (a:=⟨wr.heap.size,0,none⟩) U).trans z0;have v1:d.cell? (aq wr.heap.size 1)=some (ah z):=(aP (a:=⟨wr.heap.size,1,none⟩) U).trans ch;have cN:d.frozen? (aq wr.heap.size 1)=false:=(World.frozen?_of_block (a:=⟨wr.heap.size,1,none⟩) U).trans ci;have bg:∀k:Nat,k≠wr.heap.size->(d.setCell ⟨wr.heap.size,1,none⟩ (.int .i64 y)).heap[k]?=d.heap[k]?:=fun k hk=>aU _ _ _ _ hk;have cl:(d.setCell ⟨wr.heap.size,1,none⟩ (.int .i64 y)).heap.size=d.heap.size:=by simp[World.setCell]
     have bi:o.J I s2 (d.setCell ⟨wr.heap.size,1,none⟩ (.int .i64 y)):=o.keep bb (by rw[cl];exact aD _) (fun k hk=>bg k (fun e=>be (by rw[<-e];exact hk)))
     have t0:(d.setCell ⟨wr.heap.size,1,none⟩ (.int .i64 y)).cell? (aq wr.heap.size 0)=some (ah g):=(a5 d ⟨wr.heap.size,1,none⟩ ⟨wr.heap.size,0,none⟩ (ah y) Z).trans v0;have dg:(d.setCell ⟨wr.heap.size,1,none⟩ (.int .i64 y)).cell? (aq wr.heap.size 1)=some (ah y):=bf _ _ _ v1;have t3:(d.setCell ⟨wr.heap.size,1,none⟩ (.int .i64 y)).cell? (aq bs 0)=some (aj o.p):=(aP (a:=⟨bs,0,none⟩) (bg bs V)).trans (by simp[World.cell?,ck])
     have cm:Fr F w (d.setCell ⟨wr.heap.size,1,none⟩ (.int .i64 y)):=((aF.o.trans (Fr.of (X:=F) t) (fun _ c=>aK c)).trans N (fun i c=>q.o i c)).trans ((Fr.refl (fun k=>k=wr.heap.size) d).set _ 1 _ rfl) (fun i c=>aJ V)
     have co:ay (∀k,I k->F k\/w.heap.size<=k):=fun k h=>(S k h).elim (q.o k) (fun h=>aJ V)
     obtain⟨dh,cp,bn,cq,cO,cP⟩:=o.side bi;obtain⟨b5,J,cr,W,di,dj,dk,cs⟩:=bY.o.xh bi bn j (by rw[H.o];exact ao) g y;obtain⟨b6,dl,ct,cQ,cu⟩:=cq.lp (by rw[H.o];omega)
     obtain⟨cR,cS⟩:=cu j (by rw[H.o];exact ao)
     rw[cr] at ct;cases ct;subst cr;have dm:(d.setCell ⟨wr.heap.size,1,none⟩ (.int .i64 y)).cell? (aq o.p 1)=some (.slice (some ⟨b5,J,none⟩) (o.wt s).length cp):=by simp[World.cell?,bn,H.o]
     have dn:b5≠wr.heap.size:=fun e=>be (by rw[<-e];exact W)
     have dp:b5≠bs:=fun e=>cj (by rw[<-e];exact W)
     have cT:ay (I b5):=W;generalize ((o.wt s2).getD j (0,0)).1=dq at cR;generalize ((o.wt s2).getD j (0,0)).2=dr at cS;clear z0 ch ci cL S bb N U ck bg bi bn cq cO cP cu t aR R cg cM be cj cl cQ bd W cc m1;go_wp2_with fail;generalize d.setCell ⟨wr.heap.size,1,none⟩ (.int .i64 y)=cv at*;clear v0 v1 cN
     go_region_held3 (fun w'=>w'.cell? (aq bs 0)=some (aj o.p)/\w'.cell? (aq o.p 1)=some (.slice (some ⟨b5,J,none⟩) (o.wt s).length cp)/\w'.cell? (aq wr.heap.size 0)=some (ah g)/\w'.cell? (aq wr.heap.size 1)=some (ah y)) (go_keep) (fail)
     have cU:=(cm.trans (((Fr.refl (fun k=>k=b5) cv).set b5 (J+j*2) (ah g) rfl).set b5 (J+j*2+1) (ah y) rfl) (fun i c=>by rw[c];exact co.o _ cT.o)).drew;have cV:=o.keep (w':=((cv.setCell ⟨b5,J+j*2,none⟩ (.int .i64 g)).setCell ⟨b5,J+j*2+1,none⟩ (.int .i64 y)).drew) cs bW (fun _ _=>rfl)
     clear cm cs;go_wp2_with fail;go_roundw
     case rel=>exact⟨j+1,o.put s2 ((o.wt s2).set j (g,y)),true,I,V,af,rfl,a2,cV,cU,co⟩
     case measure=>simp[intOf];omega
   ·have a0:ay (fE o is kp s (j+1)=(b,b1)):=ap.o.trans (xk ar.o aB.o (aK hz1))
    go_wp2_with fail;go_roundw
    case rel=>exact⟨j+1,b,b1,l,V,af,rfl,a0,o.below A.o E,aF.o.trans (Fr.of (X:=F) E) (fun _ c=>aK c),q⟩
    case measure=>simp[intOf];omega
  ·obtain rfl:j=(o.wt s).length:=V;have cW:=L.o;go_wp2_with fail;go_ret;rw[cW];exact⟨l,rfl,m,v,q.o⟩
theorem DA:dN 217:=gb func217 ae rfl
theorem xl {g:Type}(o:fK g)(B:qc o)(D:Int->Prop)(fa fk fn:fQ)(is:g->Int->Bool)(kp:g->Int->Int×g)(nw:g->Int->Int)(C:lV o D fa fk fn is kp nw)(u:Option Addr)(v x:Nat)(E:o.vr=.slice u v x)(F:Nat->Prop)(s:g)(w:ax)(hn:(o.wt s).length<=90000)
 (G:∀j,j<(o.wt s).length->D ((o.wt (fE o is kp s j).1).getD j (0,0)).1/\D ((o.wt (fE o is kp s j).1).getD j (0,0)).2)(l:o.J F s w):
 Calls prog 145 #[aj o.p,.agg #[fa.v,fk.v,fn.v]] w fun e w'=>∃b,e=.returned (.bool (fE o is kp s (o.wt s).length).2)/\o.J b (fE o is kp s (o.wt s).length).1 w'/\Fr F w w'/\∀k,b k->F k\/w.heap.size<=k:=by
 obtain⟨H,I,hp,_,O,_⟩:=o.side l;rw[E] at hp;have c0:w.cell? (aq o.p 0)=some (.slice u v x):=aA hp
 have c1:w.cell? (aq o.p 1)=some (.slice H (o.wt s).length I):=aA hp
 have lp:o.p<w.heap.size:=lt_of_some hp;have J:ay (o.J F s w):=l;have Q:ay (∀w1,Below w.heap.size w w1->w1.heap[w.heap.size+1]?=some (.cells #[fa.v,fk.v,fn.v] 145 (0,0))->w1.heap[w.heap.size]?=some (.cells #[aj o.p] 52 (0,0))->Calls prog 217 #[aj w.heap.size,aj (w.heap.size+1)] w1 fun r w'=>∃b,r=.returned (.bool (fE o is kp s (o.wt s).length).2)/\o.J b (fE o is kp s (o.wt s).length).1 w'/\Fr F w1 w'/\∀k,b k->F k\/w1.heap.size<=k):=by
  intro w1 hb R S;have q:∀k,w.heap.size<=k->¬F k:=fun k hk h=>by have:=o.lt l k h;omega
  exact Dz o B D fa fk fn is kp nw C F s w1 hn G _ _ (o.below l hb) R S (q _ V) (q _ V)
 clear C l hp E O B G;go_enter func145,ntmps145;go_wp2_with fail;have f:∃W4,W4=(w.alloc (.cells #[.pointer (some ⟨o.p,0,none⟩)] 52)).alloc (.cells #[fa.v,fk.v,fn.v] 145):=⟨_,rfl⟩
 obtain⟨W4,f⟩:=f;have sz:W4.heap.size=w.heap.size+2:=by rw[f];simp
 have t:Below w.heap.size w W4:=by rw[f];exact((aH _ w).alloc bW _).alloc Z _
 have g0:W4.heap[w.heap.size]?=some (.cells #[aj o.p] 52 (0,0)):=by rw[f,aS _ _ _ Z];exact aO _ _
 have g1:W4.heap[w.heap.size+1]?=some (.cells #[fa.v,fk.v,fn.v] 145 (0,0)):=by rw[f];exact xc
 rw[<-f];have P:=xf 217 #[] #[aj w.heap.size,aj (w.heap.size+1)] DA W4 o.p u H v x (o.wt s).length I ((t.cell (p:=aq o.p 0) lp).trans c0) ((t.cell (p:=aq o.p 1) lp).trans c1)
  (fun K d=>∃b,K=(fE o is kp s (o.wt s).length).2/\o.J b (fE o is kp s (o.wt s).length).1 d/\Fr F w d/\∀k,b k->F k\/w.heap.size+5<=k)
  (by
    intro w1 hw1;have s1:w1.heap.size=w.heap.size+5:=by rw[hw1];simp;omega
    have b1:Below W4.heap.size W4 w1:=by rw[hw1];exact(((aH _ W4).alloc bW _).alloc Z _).alloc (by simp;omega) _
    have hk:w1.heap[W4.heap.size+1]?=some (.cells #[.bool false] 4 (0,0)):=by exact xa
    have b2:Below w.heap.size w w1:=t.trans (b1.mono V)
    refine(Q.o w1 b2 ((b1.block _ V).trans g1) ((b1.block _ V).trans g0)).mono ?_;rintro e d ⟨A,rfl,q1,n,q3⟩
    rw[s1] at q3;refine⟨_,rfl,⟨A,rfl,q1,(Fr.of (X:=F) b2).trans n (fun _ c=>aK c),q3⟩,(n.block _ V (fun h=>?_)).trans hk⟩
    have:=o.lt J.o _ h;omega)
 refine P.mono ?_;clear P;rintro e ag ⟨K,d,rfl,⟨A,rfl,q1,n,q3⟩,hk,rfl⟩
 obtain⟨m,hm⟩:∃m,m=W4.heap.size+1:=⟨_,rfl⟩
 rw[<-hm];have U:ay (m=w.heap.size+3):=by show m=_;omega
 clear hm hk t g0 g1 sz f;have hm:=U.o;have L:∀k,k≠m->(d.setCell ⟨m,0,none⟩ (.bool (fE o is kp s (o.wt s).length).2)).heap[k]?=d.heap[k]?:=fun k hk=>aU _ _ _ _ hk;have M:=o.keep (w':=d.setCell ⟨m,0,none⟩ (.bool (fE o is kp s (o.wt s).length).2)) q1 (by simp[World.setCell]) (fun k hk=>L k (fun e=>by
  rcases q3 k hk with h|h
  ·have:=o.lt J.o k h;omega
  ·omega))
 have N:=n.trans ((Fr.refl (fun k=>k=m) d).set m 0 (.bool (fE o is kp s (o.wt s).length).2) rfl) (fun i c=>aJ V)
 have W:ay (∃b,o.J b (fE o is kp s (o.wt s).length).1 (d.setCell ⟨m,0,none⟩ (.bool (fE o is kp s (o.wt s).length).2))/\Fr F w (d.setCell ⟨m,0,none⟩ (.bool (fE o is kp s (o.wt s).length).2))/\∀k,b k->F k\/w.heap.size<=k):=⟨A,M,N,fun k h=>(q3 k h).imp id (fun h=>by omega)⟩
 clear M N L q1 n q3 hm;go_wp2_with fail;go_ret;obtain⟨b,Y,ab,ad⟩:=W.o;exact⟨b,rfl,Y,ab,ad⟩
structure ce where
 N:Nat
 O:Nat
 y:Nat
 T:List Int
structure cj where
 g:Nat
 ws:List Int
 f:Int->Int
 nx:Int
 wk:List Int
 ep:List Int
 rs:List Int
def ce.ld (k:ce)(s:cj)(a:Int):Int:=Proofs.YtpkjkjhanlbcoaaGreat.ld k.N k.y s.g s.ws a
def ce.cK (k:ce)(x:Int):Bool:=cY x&&k.T.contains (cg x)
def ce.ls (k:ce)(s:cj)(x:Int):Bool:=k.cK x&&(s.f (cg x)==-1)
def ce.nw (k:ce)(s:cj)(x:Int):Int:=if(k.cK x&&!(s.f (cg x)==-1))=true then ew 3 (s.f (cg x)) else x
def gA (f:Int->Int)(a v:Int):Int->Int:=fun b=>if b=a then v else f b
def ce.cp (k:ce)(s:cj)(a:Int):cj:={s with g:=jK k.N k.O k.y s.g s.ws a,ws:=jL k.N k.O k.y s.g s.ws a,f:=gA s.f a (mQ k.N k.O k.y s.g s.ws a)}
def ce.br (k:ce)(s:cj)(x:Int):Int×cj:=if k.ls s x=true then(k.nw (k.cp s (cg x)) x,k.cp s (cg x)) else(k.nw s x,s)
def ce.st (k:ce)(s:cj)(a x:Int):cj:={s with ws:=if dd k.N k.y s.g a=true then s.ws.set a.toNat x else s.ws}
def ce.kf (k:ce)(s:cj)(a:Int):cj:=k.st (k.br s (k.ld s a)).2 a (k.br s (k.ld s a)).1
def ce.fV (k:ce)(s:cj)(a:Int):Nat->cj
 |0=>s
 |n+1=>k.kf (k.fV s a n) (a+1+n)
def ce.lk (k:ce)(s:cj)(a:Int):cj:=
 if pk (k.ld s a)=1\/pk (k.ld s a)=2 then k.fV s a (pf (k.ld s a)).toNat
 else if pk (k.ld s a)=3 then k.kf {s with wk:=s.wk++[a]} (a+2)
 else if pk (k.ld s a)=4 then {s with ep:=s.ep++[a]} else s
def ce.lb (k:ce):Nat->cj->cj
 |0,s=>s
 |n+1,s=>if hB k.N s.g s.nx=true then k.lb n {k.lk s s.nx with nx:=s.nx+(1+pf (k.ld s s.nx))} else s
def ce.cP (k:ce)(t:List Int×cj)(a:Int):List Int×cj:=if k.ls t.2 (k.ld t.2 (a+1))=true then(t.1++[a],t.2) else(t.1,k.kf (k.kf t.2 (a+1)) (a+2))
def ce.dv (k:ce)(s:cj)(l:List Int):List Int×cj:=l.foldl k.cP ([],s)
def ce.kv (k:ce)(s:cj):Bool×cj:=(decide ((k.dv s s.ep).1.length<s.ep.length),{(k.dv s s.ep).2 with ep:=(k.dv s s.ep).1})
def dC {b:Type}(is:b->Int->Bool)(kp:b->Int->Int×b)(t:(b×List b7)×Bool)(i:Nat):(b×List b7)×Bool:=
 if is t.1.1 (t.1.2.getD i (0,0)).2||!is t.1.1 (t.1.2.getD i (0,0)).1 then t
 else(((kp t.1.1 (t.1.2.getD i (0,0)).2).2,t.1.2.set i ((t.1.2.getD i (0,0)).1,(kp t.1.1 (t.1.2.getD i (0,0)).2).1)),true)
def gJ {b:Type}(is:b->Int->Bool)(kp:b->Int->Int×b)(s:b×List b7)(n:Nat):(b×List b7)×Bool:=(List.range n).foldl (dC is kp) (s,false)
def ce.al (k:ce)(s:cj)(x:Int):Bool:=!k.ls s x
def ce.wa (k:ce)(s:cj×List b7):(cj×List b7)×Bool:=gJ k.al k.br s s.2.length
def ce.mu (k:ce)(s:cj):Nat:=(k.N+k.O+13-s.nx).toNat+s.ep.length+(k.O-s.g)
def ce.cW (k:ce):Nat->cj×List b7->cj×List b7
 |0,s=>s
 |n+1,s=>
  if(k.kv (k.lb (k.O+1) s.1)).1=true then k.cW n ((k.kv (k.lb (k.O+1) s.1)).2,s.2)
  else if(k.wa ((k.kv (k.lb (k.O+1) s.1)).2,s.2)).2=true then k.cW n (k.wa ((k.kv (k.lb (k.O+1) s.1)).2,s.2)).1
  else(k.wa ((k.kv (k.lb (k.O+1) s.1)).2,s.2)).1
def ce.sp (k:ce)(s:cj×List b7):cj×List b7:=k.cW (k.mu s.1+1) s
def ce.ke (k:ce)(s:cj×List b7)(x:Int):Int×(cj×List b7):=((k.br s.1 x).1,k.sp ((k.br s.1 x).2,s.2))
def ce.cJ (k:ce)(s:cj):Nat->cj
 |0=>s
 |n+1=>{(k.br (k.cJ s n) ((k.cJ s n).rs.getD n 0)).2 with rs:=(k.br (k.cJ s n) ((k.cJ s n).rs.getD n 0)).2.rs.set n (k.br (k.cJ s n) ((k.cJ s n).rs.getD n 0)).1}
def ce.gm (k:ce)(e c:Int)(M:List Int)(s:cj)(a:Int):cj:=if a+pf (k.ld s a)<e then(if(f3 k.N c a&&M.contains (cN k.N a))=true then k.lk s a else s) else s
def ce.lm (k:ce)(c:Int)(M:List Int)(s:cj)(l:List Int):cj:=l.foldl (k.gm s.nx c M) s
def ce.eF (k:ce)(s:cj)(a:Int):cj:=if k.ls s (k.ld s (a+1))=true then k.st s (a+1) 3 else k.st s (a+1) (k.nw s (k.ld s (a+1)))
def ce.mw (k:ce)(s:cj)(l:List Int):cj:=l.foldl k.eF s
def ce.gB (k:ce)(s:cj)(a:Int):cj:=k.st (k.st s (a+1) 3) (a+2) 3
def ce.be (k:ce)(s:cj)(l:List Int):cj:=l.foldl k.gB s
def ce.sz (k:ce)(s:cj):Nat:=((k.T.filter (fun a=>s.f a==-1)).map (fun a=>1+(pf (k.ld s a)).toNat)).sum
structure CI (k:ce)(s:cj):Prop where
 hN:16<=k.N
 hN':k.N<=256
 hO:k.O<=1024
 hy:k.y<=k.N
 hg:s.g<=k.O
 len:s.ws.length=k.N+k.O
 th:∀a∈k.T,0<=a/\pc (k.ld s a)=0/\a+1+pf (k.ld s a)<=k.y
 nd:k.T.Nodup
 room:k.sz s<=k.O-s.g
 g9:(k.N:Int)<=s.nx
 jv:s.nx<=(k.N:Int)+k.O+13
 iA:∀a∈s.wk,(k.N:Int)<=a/\a<=2000
 ia:∀a∈s.ep,(k.N:Int)<=a/\a<=2000
 tl:k.T.length<=2000
structure ef (k:ce)(s:cj):Prop where
 wk:s.wk.length+(k.N+k.O+13-s.nx).toNat<=4000
 ep:s.ep.length+(k.N+k.O+13-s.nx).toNat<=4000
end Go.Proofs.YtpkjkjhanlbcoaaGreat
