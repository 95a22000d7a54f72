import Derived.Test.YtpkjkjhanlbcoaaGreatJ03
import Derived.Tactics
import Derived.Tactics2
import Derived.Recover
import Derived.Laws.EntriesVeiled
namespace Go.Proofs.YtpkjkjhanlbcoaaGreat
set_option maxRecDepth 100000
set_option maxHeartbeats 2000000
open Tryz
open Go.RowKit W Kp ck
theorem sO {P:Prop}(h:P:=by simp only [World.setCell,Array.getElem?_modify,if_true,h,Option.map_some];simp):P:=h
theorem xp {P:Prop}(h:P:=by rw[hw1,aS _ _ _ ac];simpa using aP (W4.alloc (.cells #[.pointer (some ⟨o.p,0,none⟩)] 52)) (.cells #[.bool false] 4)):P:=h
theorem xq {P:Prop}(h:P:=by simpa using aP (w.alloc (.cells #[.pointer (some ⟨o.p,0,none⟩)] 52)) (.cells #[fa.v,fk.v,fn.v] 145)):P:=h
theorem xr:dS 146:=gw func146 ah rfl
theorem Dw:dS 147:=gw func147 ah rfl
theorem Dy:dS 151:=gw func151 ah rfl
def xs:Value->Nat
 |.slice _ n _=>n
 |_=>0
def qk (n m:Nat):Nat:=if n=0 then 0 else m+1
theorem Dz {c b y n:Nat}(hc:¬c=0)(h:y+n=b):qk y n<qk c b:=by unfold qk;rw[aI hc];split<;>omega
theorem n9 {w:az}{a:Addr}{p i:Nat}{v:Value}(h:a.block≠p):(w.setCell ⟨p,i,none⟩ v).cell? a=w.cell? a:=aQ (aW _ _ _ _ h)
theorem gN {w:az}{p:Nat}{x y v1 v2:Value}{T:TypeId}(h:w.heap[p]?=some (.cells #[x,y] T (0,0))):((w.setCell ⟨p,0,none⟩ v1).setCell ⟨p,1,none⟩ v2).heap[p]?=some (.cells #[v1,v2] T (0,0)):=by exact sO
theorem Fr.unbox {F:Nat->Prop}{w w':az}{p bl b bs:Nat}{d fk e:f5}(h:Fr (fun k=>F k\/k=bl\/k=b\/k=bs) w w')(hB:lC w p bl b bs d fk e)(c:lC w' p bl b bs d fk e):Fr F w w':=
 ⟨h.os,h.tape,h.output,h.size,fun k hk j=>by
  by_cases f:k=bl
  ·rw[f,hB.l,c.l]
  by_cases g:k=b
  ·rw[g,hB.g,c.g]
  by_cases i:k=bs
  ·rw[i,hB.s,c.s]
  exact h.block k hk (by simp[j,f,g,i])⟩
theorem bA {α:Type _}(p:α -> Bool)(l:List α):(List.filter p l).length <= l.length:=List.length_filter_le ..
theorem DA {an:Type}(o:fT an)(D:Int->Prop)(l fk d:f5)(is:an->Int->Bool)(kp:an->Int->Int×an)(nw:an->Int->Int)(b9:l6 o D l fk d is kp nw)(r:List ce)(ca:Option Addr)(cz:Nat)(dc:o.vr=.slice ca r.length cz)(hr:r.length<=90000)(be:∀e∈r,D e.1/\D e.2)
 (F:Nat->Prop)(s:an)(w:az)(dX:∀e∈o.wt (fE o is kp s r),D e.1/\D e.2)(eQ:(o.wt s).length+r.length<=90000)(bl b bs W:Nat)(bg:o.J F s w)(hB:lC w o.p bl b bs l fk d)(cA:w.heap[W]?=some (.cells #[m6 b bl bs] 101 (0,0)))(cb:¬F bl)(cf:¬F b)(dY:¬F bs)(dZ:¬F W)(d0:W≠bl/\W≠b/\W≠bs)(dd:dz w ca r):
 Calls prog 149 #[aq bs,aq bl,aq W,aq b] w fun e w'=>∃a1 c1 a2 c2 cg de,e=.returned (.bool true)/\o.J cg (fE o is kp s r) de/\Fr (fun k=>k=o.p) de w'/\
  w'.heap[o.p]?=some (.cells #[.slice a1 (eV o is kp nw s r).length c1,.slice a2 (eW o is kp nw s r).length c2] 153 (0,0))/\w'.ownsRow w.heap.size 103 2 (.slice a1 (eV o is kp nw s r).length c1) (eV o is kp nw s r).length (ev (eV o is kp nw s r))/\
  w'.ownsRow w.heap.size 103 2 (.slice a2 (eW o is kp nw s r).length c2) (eW o is kp nw s r).length (ev (eW o is kp nw s r))/\Fr F w w'/\(∀k,cg k->F k\/w.heap.size<=k)/\(∀k,some k=(Value.slice a1 (eV o is kp nw s r).length c1).ownBlock->¬cg k)/\(∀k,some k=(Value.slice a2 (eW o is kp nw s r).length c2).ownBlock->¬cg k)/\(∀k,some k=(Value.slice a1 (eV o is kp nw s r).length c1).ownBlock->some k≠(Value.slice a2 (eW o is kp nw s r).length c2).ownBlock):=by
 obtain⟨eR,eS,hp,_,eT,_⟩:=o.side bg;rw[dc] at hp;have c3:w.cell? (av bs 0)=some (aq o.p):=aD hB.s
 have c4:w.cell? (av o.p 0)=some (.slice ca r.length cz):=aD hp
 have l1:bl<w.heap.size:=lt_of_some hB.l;have l2:b<w.heap.size:=lt_of_some hB.g;have eU:bs<w.heap.size:=lt_of_some hB.s;have d1:W<w.heap.size:=lt_of_some cA;have v:aA (l6 o D l fk d is kp nw):=b9;have d2:aA (lC w o.p bl b bs l fk d):=hB;have eX:aA (∀e∈r,D e.1/\D e.2):=be;have d3:aA (∀e∈o.wt (fE o is kp s r),D e.1/\D e.2):=dX;have d4:aA (w.heap[W]?=some (.cells #[m6 b bl bs] 101 (0,0))):=cA;have c0:w.cell? (av bl 0)=some l.v:=aD hB.l
 have cB:=sv (fun e=>D e.1/\D e.2) 151 #[] #[aq bl] (fun e=>is s e.2) Dy w (fun w' e hd hs hk=>Dt o.todx D l is b9.ea b9.ha F s w' bl e hd.2 (o.keep bg hs (fun k h=>hk k (o.lt bg k h))) ((aQ (a:=⟨bl,0,none⟩) (hk bl l1)).trans c0)) r ca cz be aa dd;obtain⟨A,ch⟩:∃A,aA (A=r.filter (fun e=>is s e.2)):=⟨_,rfl⟩
 obtain⟨B,bi⟩:∃B,aA (B=r.filter (fun e=>!is s e.2)):=⟨_,rfl⟩
 rw[<-ch.o,<-bi.o] at cB;have d5:A.length<=90000:=by rw[ch.o];exact aU (bA _ _) hr
 have df:B.length<=90000:=by rw[bi.o];exact aU (bA _ _) hr
 have d6:(o.wt s).length+B.length<=90000:=by have:=bA (fun e=>!is s e.2) r;rw[bi.o];omega
 have dg:aA ((eK (cm o is kp) (B.length+1) s B).1=fE o is kp s r):=by show _=_;rw[bi.o];rfl
 have dh:aA (∀e∈A,D e.1/\D e.2):=fun e he=>be e (by rw[ch.o] at he;exact(List.mem_filter.1 he).1)
 have d7:aA (∀e∈B,D e.1/\D e.2):=fun e he=>be e (by rw[bi.o] at he;exact(List.mem_filter.1 he).1)
 have di:aA ((boxed o bl b bs l fk d).J (fun k=>F k\/k=bl\/k=b\/k=bs) s w):=⟨F,bg,hB,cb,cf,dY,fun k=>Iff.rfl⟩
 clear b9 bg hp dc dd cA be hB c0;go_enter func149,ntmps149;go_wp2_with fail;refine cB.mono ?_;clear cB;rintro e w1 ⟨a1,bn,a2,cC,rfl,cD,cE,cF⟩
 have dj:Fr (fun k=>F k\/k=bl\/k=b\/k=bs) w w1:=Fr.of cF;have dk:=(boxed o bl b bs l fk d).below di.o cF;have dl:aA (∀k,(F k\/k=bl\/k=b\/k=bs)->(F k\/k=bl\/k=b\/k=bs)\/w.heap.size<=k):=fun k h=>aM h;have cG:=(boxed o bl b bs l fk d).lt di.o;have ao:aA (∀k,some k=(Value.slice a1 A.length bn).ownBlock->¬(F k\/k=bl\/k=b\/k=bs)):=fun k e h=>by have:=(cu cD k e).1;have:=cG k h;omega
 have dm:aA (∀k,some k=(Value.slice a2 B.length cC).ownBlock->¬(F k\/k=bl\/k=b\/k=bs)):=fun k e h=>by have:=(cu cE k e).1;have:=cG k h;omega
 clear cG cF;go_wp2_with fail
 go_loopw [6,7] (fun cH vc wr=>∃(f C:List ce)(ad dn:Option Addr)(cd cc n:Nat)(aF:Nat->Prop)(s2:an),cH=.slice ad f.length cd/\vc=.slice dn C.length cc/\aA (C.length=0->s2=fE o is kp s r)/\aA (¬C.length=0->(eK (cm o is kp) n s2 f).1=fE o is kp s r/\f.length<n)/\aA (∀e∈f,D e.1/\D e.2)/\f.length<=90000/\C.length<=90000/\(o.wt s2).length+f.length<=90000/\
  wr.ownsRow w.heap.size 103 2 (.slice ad f.length cd) f.length (ev f)/\wr.ownsRow w.heap.size 103 2 (.slice a1 A.length bn) A.length (ev A)/\(boxed o bl b bs l fk d).J aF s2 wr/\Fr (fun k=>F k\/k=bl\/k=b\/k=bs) w wr/\aA (∀k,aF k->(F k\/k=bl\/k=b\/k=bs)\/w.heap.size<=k)/\
  aA (∀k,some k=(Value.slice a1 A.length bn).ownBlock->¬aF k)/\aA (∀k,some k=(Value.slice ad f.length cd).ownBlock->¬aF k)) (fun cH vc _=>qk (xs vc) (xs cH))
 case atStart=>
  refine⟨B,B,a2,a2,cC,cC,B.length+1,(fun k=>F k\/k=bl\/k=b\/k=bs),s,rfl,rfl,fun h=>?_,fun _=>⟨dg.o,Nat.lt_succ_self _⟩,d7,df,df,d6,cE,cD,dk,dj,dl,ao,dm⟩
  rw[<-dg.o,List.eq_nil_of_length_eq_zero h];rfl
 case round=>
  clear cD cE dk dj dl ao dm;obtain⟨f,C,ad,dn,cd,cc,n,aF,s2,rfl,rfl,cI,aR,dp,eY,eZ,e0,hd,bo,cJ,ap,ci,ao,cK⟩:=hrel;by_cases aV:C.length=0
  ·have cj:aA (s2=fE o is kp s r):=cI.o aV;obtain⟨ar,j0,ab,n1,cM,cN,dq⟩:=cJ;have dr:wr.cell? (av b 0)=some (.func (.func 146) #[] #[aq bl]):=aD ab.g
   have ds:wr.cell? (av bl 0)=some l.v:=aD ab.l
   have dt:wr.cell? (av bl 2)=some (.func (.func d.f) d.b d.c):=aD ab.l
   have du:wr.cell? (av bs 0)=some (aq o.p):=aD ab.s
   obtain⟨bp,br,ck,dv,bt,d8⟩:=o.side j0;have dw:wr.cell? (av o.p 1)=some (.slice bp (o.wt s2).length br):=aD ck
   have m1:=lt_of_some ab.l;have cO:=lt_of_some ab.g;have cP:=lt_of_some ab.s;have cQ:=lt_of_some ck;have dx:=ap.size;have dy:aA (∀(w':az)(e:ce),D e.1/\D e.2->wr.heap.size<=w'.heap.size->(∀k,k<wr.heap.size->w'.heap[k]?=wr.heap[k]?)->Calls prog 146 ((#[]:Array Value).push (en e)++#[aq bl]) w' fun r d9=>r=.returned (.bool (is s2 e.1))/\Below w'.heap.size w' d9):=
    fun w' e hd hs hk=>xo o.todx D l is v.o.ea v.o.ha ar s2 w' bl e hd.1 (o.keep j0 hs (fun k h=>hk k (o.lt j0 k h))) ((aQ (a:=⟨bl,0,none⟩) (hk bl m1)).trans ds)
   have cR:=sv (fun e=>D e.1/\D e.2) 146 #[] #[aq bl] (fun e=>is s2 e.1) xr wr dy.o A a1 bn dh.o aa (hZ bo)
   obtain⟨t,cl⟩:∃t,aA (t=A.filter (fun e=>is s2 e.1)):=⟨_,rfl⟩
   rw[<-cl.o] at cR;have e1:t.length<=90000:=by rw[cl.o];exact aU (bA _ _) d5
   have ea:aA (∀e∈t,D e.1/\D e.2):=fun e he=>dh.o e (by rw[cl.o] at he;exact(List.mem_filter.1 he).1)
   have eb:(o.wt s2).length<=90000:=aa;have dA:aA (∀e∈o.wt s2,D e.1/\D e.2):=by rw[cj.o];exact d3
   obtain⟨u,cn⟩:∃u,aA (u=(o.wt s2).filter (fun e=>is s2 e.1)):=⟨_,rfl⟩
   have e2:u.length<=90000:=by rw[cn.o];exact aU (bA _ _) eb
   have ec:aA (∀e∈u,D e.1/\D e.2):=fun e he=>dA.o e (by rw[cn.o] at he;exact(List.mem_filter.1 he).1)
   have cS:aA (lC wr o.p bl b bs l fk d):=ab;have ed:aA (o.J ar s2 wr):=j0;have ee:aA (iD wr bp (o.wt s2) br):=dv;have dB:aA (Fr (fun k=>F k\/k=bl\/k=b\/k=bs) w wr):=ap;clear hd bo ab j0 dv ap cI aR ao cK d8;go_wp2_with fail;refine cR.mono ?_;clear cR;rintro e cT ⟨b1,cU,b2,cV,rfl,cW,_,S⟩
   have cX:=sv (fun e=>D e.1/\D e.2) 146 #[] #[aq bl] (fun e=>is s2 e.1) xr cT.drew (fun w' e hd hs hk=>dy.o w' e hd (aU S.size hs) (fun k h=>(hk k (aO h S.size)).trans (S.block k h))) (o.wt s2) bp br dA.o aa (ee.o.lp.below S.drew)
   rw[<-cn.o] at cX;have dC:=(S.cell (p:=av b 0) cO).trans dr;have dD:=(S.cell (p:=av bs 0) cP).trans du;have dE:=(S.cell (p:=av o.p 1) cQ).trans dw;have dF:=(S.cell (p:=av bl 2) m1).trans dt;go_wp2_with fail;have bx:=S.size
   go_region_held3 (fun w'=>w'.cell? (av bs 0)=some (aq o.p)/\w'.cell? (av o.p 1)=some (.slice bp (o.wt s2).length br)/\w'.cell? (av b 0)=some (.func (.func 146) #[] #[aq bl])) (go_keep)
    (first|(go_at_call 150;refine cX.mono ?_;rintro e g ⟨ef,eg,e3,e4,rfl,dG,_,al⟩;have eh:=(al.cell (p:=av b 0) (aO cO bx)).trans dC;have cY:=(al.cell (p:=av bs 0) (aO cP bx)).trans dD;have ei:=(al.cell (p:=av o.p 1) (aO cQ bx)).trans dE;have cZ:=(al.cell (p:=av bl 2) (aO m1 bx)).trans dF))
   have b0:Below wr.heap.size wr g:=S.drew.trans (al.mono bx)
   have e5:cT.heap.size<=g.heap.size:=al.size;have dH:=cL (w:=cT) cW (fun k e=>al.block k (cu cW k e).2)
   have co:=o.below ed.o b0;have dI:=(b0.block o.p cQ).trans ck;have cp:o.p≠bs:=fun e=>cN (by rw[<-e];exact bt)
   have cq:o.p≠bl:=fun e=>n1 (by rw[<-e];exact bt)
   have ej:o.p≠b:=fun e=>cM (by rw[<-e];exact bt)
   have dJ:aA (∀k,ar k->F k\/w.heap.size<=k):=fun k h=>by
    rcases ci.o k ((dq k).2 (aM h)) with(c|c|c|c)|c
    ·exact aM c
    ·exact absurd (by rw[<-c];exact h) n1
    ·exact absurd (by rw[<-c];exact h) cM
    ·exact absurd (by rw[<-c];exact h) cN
    ·exact aL c
   have ek:aA (ar o.p):=bt;have dK:o.p<g.heap.size:=lt_of_some dI;have dL:bs<g.heap.size:=aa;have dM:bl<g.heap.size:=aa;have el:t.length<=100000:=aa;have em:u.length<=100000:=aa;have dN:=hZ dH;have dO:=hZ dG;have c5:=o.below co (ax g).drew;have dP:=dN.below (ax g).drew;have dQ:=dO.below (ax g).drew;clear cW al S dC dD dE dF ds dr du dw dt cX eh ei ck bt n1 cM cN dq;go_wp2_with fail
   go_region_held3 (fun w'=>w'.cell? (av bs 0)=some (aq o.p)/\w'.cell? (av bl 2)=some (.func (.func d.f) d.b d.c)) (first|exact⟨cY,cZ⟩|exact⟨c6,c7⟩|exact⟨cr,cs⟩|exact⟨(n9 cp.symm).trans cr,(n9 cq.symm).trans cs⟩|exact⟨(n9 cp.symm).trans ((n9 cp.symm).trans cr),(n9 cq.symm).trans ((n9 cq.symm).trans cs)⟩)
    (first
      |(have e6:=ag;go_at_call 152;refine(wX o.todx D d.f d.b d.c nw v.o.en v.o.ht u ef eg ar s2 _ ec.o em (o.below c5 ag) (dQ.below ag)).mono ?_;rintro e q ⟨a0,a3,rfl,ai,aB⟩;have e7:=aB.size;have cr:=(aB.cell (p:=av bs 0) (aO dL b3)).trans c6;have cs:=(aB.cell (p:=av bl 2) (aO dM b3)).trans c7;have b4:=(aB.block o.p (aO dK b3)).trans ((ag.block o.p dK).trans dI);have q0:q.cell? (av o.p 0)=some o.vr:=aD b4;have q1:q.cell? (av o.p 1)=some (.slice bp (o.wt s2).length br):=aD b4;have eo:q.frozen? (av o.p 0)=false:=aE b4;have ep:q.frozen? (av o.p 1)=false:=(by simp[World.frozen?,b4]))
      |(go_at_call 152;refine(wX o.todx D d.f d.b d.c nw v.o.en v.o.ht t b1 cU ar s2 _ ea.o el c5 dP).mono ?_;rintro e ct ⟨ba,bb,rfl,am,ag⟩;have b3:=ag.size;have c6:=(ag.cell (p:=av bs 0) dL).trans cY;have c7:=(ag.cell (p:=av bl 2) dM).trans cZ))
   have eq:Below g.heap.size g ct:=(ax g).drew.trans (ag.mono b7)
   have dR:Below g.heap.size g q:=eq.trans (aB.mono b3)
   have cv:Below wr.heap.size wr q:=b0.trans (dR.mono b0.size)
   have er:=o.below co dR;have es:aA (ct.ownsRow g.heap.size 103 2 (.slice ba t.length bb) t.length (ev (t.map fun e=>(nw s2 e.1,nw s2 e.2)))):=am;have et:aA (q.ownsRow g.heap.size 103 2 (.slice a0 u.length a3) u.length (ev (u.map fun e=>(nw s2 e.1,nw s2 e.2)))):=e8 ai (fun k e=>aU b3 (cu ai k e).1)
   have eu:aA (Below ct.heap.size ct q):=aB;have ew:aA (∀k,some k=(Value.slice ba t.length bb).ownBlock->some k≠(Value.slice a0 u.length a3).ownBlock):=fun k e ex=>by have cb:=(cu am k e).2;have cf:=(cu ai k ex).1;omega
   clear am ai ag aB dP dQ c5 dN dO dH dG c6 c7 cr cs cY cZ q0 q1 eo ep;go_wp2_with fail;go_ret;have ey:eV o is kp nw s r=t.map fun e=>(nw s2 e.1,nw s2 e.2):=by unfold eV;rw[<-cj.o,<-ch.o,<-cl.o]
   have ez:eW o is kp nw s r=u.map fun e=>(nw s2 e.1,nw s2 e.2):=by unfold eW;rw[<-cj.o,<-cn.o]
   have b5:∀k,k≠o.p->((q.setCell ⟨o.p,0,none⟩ (.slice ba t.length bb)).setCell ⟨o.p,1,none⟩ (.slice a0 u.length a3)).heap[k]?=q.heap[k]?:=fun k hk=>(aW _ _ _ _ hk).trans (aW _ _ _ _ hk)
   have am:=es.o;have ai:=et.o;have dS:=dB.o.size;have dT:=b0.size;have eA:lC ((q.setCell ⟨o.p,0,none⟩ (.slice ba t.length bb)).setCell ⟨o.p,1,none⟩ (.slice a0 u.length a3)) o.p bl b bs l fk d:=
    ⟨(b5 bl cq.symm).trans ((cv.block bl m1).trans cS.o.l),(b5 b ej.symm).trans ((cv.block b cO).trans cS.o.g),(b5 bs cp.symm).trans ((cv.block bs cP).trans cS.o.s)⟩
   have dU:Fr (fun k=>k=o.p) q ((q.setCell ⟨o.p,0,none⟩ (.slice ba t.length bb)).setCell ⟨o.p,1,none⟩ (.slice a0 u.length a3)):=((Fr.refl (fun k=>k=o.p) q).set o.p 0 _ rfl).set o.p 1 _ rfl;rw[ey,ez,aZ,aZ,<-cj.o];refine⟨ba,bb,a0,a3,ar,q,rfl,er,dU,gN b4,?_,?_,?_,dJ.o,fun k e h=>?_,fun k e h=>?_,ew.o⟩
   ·refine e8 (cL am (fun k e=>?_)) (fun k e=>aU (aU dS dT) (cu am k e).1)
    have:=cu am k e;exact(b5 k aa).trans (eu.o.block k this.2)
   ·refine e8 (cL ai (fun k e=>?_)) (fun k e=>aU (aU dS dT) (cu ai k e).1)
    have:=cu ai k e;exact b5 k aa
   ·exact((dB.o.trans (Fr.of (X:=fun _=>False) cv) (fun _ c=>c.elim)).trans dU (fun i c=>by rw[c];exact(dJ.o o.p ek.o).imp aM id)).unbox d2.o eA
   ·have:=o.lt co k h;have:=(cu am k e).1;omega
   ·have:=o.lt co k h;have:=(cu ai k e).1;omega
  ·have eB:wr.cell? (av W 0)=some (m6 b bl bs):=by
    have hk:=ap.block W d1 (by simp[dZ,d0])
    simp[World.cell?,hk,d4.o]
   have dV:∀j,j<f.length->∀x,(o.wt (kp (pts (cm o is kp) s2 (f.take j)).2.2 x).2).length<=90000:=fun j e9 x=>by
    have cb:=sN o is kp v.o.hl s2 (f.take j)
    have cf:=oV (cm o is kp) s2 (f.take j)
    rw[v.o.hl,cb];simp at cf;omega
   have cw:=wx (boxed o bl b bs l fk d) (fun e=>D e.1/\D e.2) (fun s=>∀x,(o.wt (kp s x).2).length<=90000) 147 #[] #[aq b,aq bl,aq bs] (cm o is kp) Dw (Dv o bl b bs D l fk d is kp v.o.ea v.o.fU v.o.ha v.o.hk) f ad cd aF s2 wr dp.o dV aa cJ ((hZ hd).apart (fun _ z e=>cK.o z.block (by rw[e];rfl)))
   obtain⟨Y,N,bd,b6⟩:∃Y N bd,aA (pts (cm o is kp) s2 f=(Y,N,bd)):=⟨_,_,_,rfl⟩
   have c8:=oV (cm o is kp) s2 f;have c9:=sN o is kp v.o.hl s2 f;have cx:=sM (cm o is kp) s2 f;rw[b6.o] at cw c8 cx c9;dsimp only at cw c8 cx c9;have eC:(o.wt bd).length+N.length<=90000:=aa;clear c9 dV;obtain⟨n,rfl⟩:∃m,n=m+1:=⟨n-1,by have:=(aR.o aV).2;omega⟩
   have eD:aA (Y.length=0->bd=fE o is kp s r):=fun h=>by
    have e:=l4 (cm o is kp) n s2 f (by rw[b6.o];exact h)
    rw[<-(aR.o aV).1,e,b6.o]
   have eE:aA (¬Y.length=0->(eK (cm o is kp) n bd N).1=fE o is kp s r/\N.length<n):=fun h=>by
    have e:=l5 (cm o is kp) n s2 f (by rw[b6.o];exact h)
    refine⟨?_,?_⟩
    ·rw[<-(aR.o aV).1,e,b6.o]
    ·have:=(aR.o aV).2;omega
   have eF:aA (∀e∈N,D e.1/\D e.2):=fun e he=>dp.o e (cx e (aL he))
   clear cx;go_wp2_with fail;refine cw.mono ?_;clear cw;rintro e fa ⟨b1,cU,b2,cV,cy,rfl,eG,hN,eH,da,db,eI,dW⟩
   have dx:=ap.size;have eJ:aA (∀k,cy k->(F k\/k=bl\/k=b\/k=bs)\/w.heap.size<=k):=fun k h=>(db k h).elim (ci.o k) (fun h=>aL aa)
   have eL:aA (∀k,some k=(Value.slice a1 A.length bn).ownBlock->¬cy k):=fun k e h=>(db k h).elim (ao.o k e) (fun h=>by have:=(cu bo k e).2;omega)
   have eM:aA (∀k,some k=(Value.slice b2 N.length cV).ownBlock->¬cy k):=dW;have eN:=ii bo da ao.o;have eO:=ap.trans da ci.o;have eP:=e8 hN (base':=w.heap.size) (fun k e=>aU dx (cu hN k e).1)
   clear db eI dW eG hN bo ap da cJ ci ao cK hd cI aR eB;go_wp2_with fail;go_roundw
   case rel=>exact⟨N,Y,b2,b1,cV,cU,n,cy,bd,rfl,rfl,eD,eE,eF,aa,aa,eC,eP,eN,eH,eO,eJ,eL,eM⟩
   case measure=>
    exact Dz aV c8
theorem DB (a b c:Addr)(w:az):
 CallsD prog 218 #[.pointer (some a),.pointer (some b),.pointer (some c)] .returning w fun e d w'=>e=.returned (.tuple #[])/\d=.returning/\w'=w:=by
 refine callsD_of_wpS func218 rfl fun f i g=>?_;apply wpS_seq;apply wpS_region;simp[wpOpsS,go_sem,recoverD,g,ntmps218,Exit.thenS];refine wpS_cond (t:=false) (by simp[Act.eval,Array.replicate]) ?_;refine wpS_of_wp (wp_skip ?_)
 cases f
 simp_all [bodyPostS,results,results218]
theorem xt (f:Nat)(b c:Array Value)(i:dS f)(w:az)(p:Nat)(a0 a1:Option Addr)(n0 k0 n1 k1:Nat)(c0:w.cell? (av p 0)=some (.slice a0 n0 k0))(c1:w.cell? (av p 1)=some (.slice a1 n1 k1))(R:Bool->az->Prop)
 (h:∀w1,w1=((w.alloc (.cells #[.pointer (some ⟨p,0,none⟩)] 52)).alloc (.cells #[.bool false] 4)).alloc (.cells #[.slice a0 n0 k0,.slice a1 n1 k1] 153)->Calls prog f (b++c) w1 fun r d=>∃g,r=.returned (.bool g)/\R g d/\d.heap[w.heap.size+1]?=some (.cells #[.bool false] 4 (0,0))):
 Calls prog 148 #[aq p,.func (.func f) b c] w fun e w'=>∃g d,e=.returned (.bool g)/\R g d/\d.heap[w.heap.size+1]?=some (.cells #[.bool false] 4 (0,0))/\w'=d.setCell ⟨w.heap.size+1,0,none⟩ (.bool g):=by
 have l:=aT w _ c0;have H:=hide h;clear h;have m:∀(args:Array Value)(w:az),(callFunc f args).run prog w=.ok (.enter f args) w:=i;clear i
 go_enter_defers func148,ntmps148
 go_wp2_with fail;refine(H.o _ rfl).mono ?_;rintro e d ⟨g,rfl,j,hk⟩
 have k:d.cell? (av (w.heap.size+1) 0)=some (.bool false):=aD hk
 have n:d.frozen? (av (w.heap.size+1) 0)=false:=aE hk
 go_wp2_with fail;refine leaves_cons (f:=218) (args:=#[aq (w.heap.size+1+1),aq w.heap.size,aq (w.heap.size+1)]) ac (by simp[go_sem]) ?_;refine(DB _ _ _ _).mono ?_;rintro e o q ⟨rfl,rfl,rfl⟩
 simp[Leaves,settle,results,results148,go_sem,(a_ _ _ _ k)];cases g
 ·exact aM ⟨rfl,d,j,hk,rfl⟩
 ·exact aL ⟨rfl,d,j,hk,rfl⟩
theorem DC:dS 149:=gw func149 ah rfl
theorem ql {j:Type}(o:fT j)(D:Int->Prop)(fa fk fn:f5)(is:j->Int->Bool)(kp:j->Int->Int×j)(nw:j->Int->Int)(ap:l6 o D fa fk fn is kp nw)(r:List ce)(t:Option Addr)(v:Nat)(ai:o.vr=.slice t r.length v)(hr:r.length<=90000)(ar:∀e∈r,D e.1/\D e.2)
 (F:Nat->Prop)(s:j)(w:az)(aB:∀e∈o.wt (fE o is kp s r),D e.1/\D e.2)(aF:(o.wt s).length+r.length<=90000)(x:o.J F s w)(aR:dz w t r):
 Calls prog 78 #[aq o.p,.agg #[fa.v,fk.v,fn.v]] w fun e w'=>∃a1 c1 a2 c2 b d,e=.returned (.tuple #[])/\o.J b (fE o is kp s r) d/\(∀k,b k->k≠o.p->w'.heap[k]?=d.heap[k]?)/\d.heap.size<=w'.heap.size/\
  w'.heap[o.p]?=some (.cells #[.slice a1 (eV o is kp nw s r).length c1,.slice a2 (eW o is kp nw s r).length c2] 153 (0,0))/\w'.ownsRow w.heap.size 103 2 (.slice a1 (eV o is kp nw s r).length c1) (eV o is kp nw s r).length (ev (eV o is kp nw s r))/\
  w'.ownsRow w.heap.size 103 2 (.slice a2 (eW o is kp nw s r).length c2) (eW o is kp nw s r).length (ev (eW o is kp nw s r))/\Fr F w w'/\(∀k,b k->F k\/w.heap.size<=k)/\(∀k,some k=(Value.slice a1 (eV o is kp nw s r).length c1).ownBlock->¬b k)/\(∀k,some k=(Value.slice a2 (eW o is kp nw s r).length c2).ownBlock->¬b k)/\(∀k,some k=(Value.slice a1 (eV o is kp nw s r).length c1).ownBlock->some k≠(Value.slice a2 (eW o is kp nw s r).length c2).ownBlock):=by
 obtain⟨al,am,hp,_,be,_⟩:=o.side x;rw[ai] at hp;have c0:w.cell? (av o.p 0)=some (.slice t r.length v):=aD hp
 have c1:w.cell? (av o.p 1)=some (.slice al (o.wt s).length am):=aD hp
 have lp:=lt_of_some hp;have aV:aA (∀w1,Below w.heap.size w w1->lC w1 o.p (w.heap.size+1) (w.heap.size+2) w.heap.size fa fk fn->w1.heap[w.heap.size+3]?=some (.cells #[m6 (w.heap.size+2) (w.heap.size+1) w.heap.size] 101 (0,0))->Calls prog 149 #[aq w.heap.size,aq (w.heap.size+1),aq (w.heap.size+3),aq (w.heap.size+2)] w1 fun e w'=>∃a1 c1 a2 c2 b d,e=.returned (.bool true)/\o.J b (fE o is kp s r) d/\Fr (fun k=>k=o.p) d w'/\
  w'.heap[o.p]?=some (.cells #[.slice a1 (eV o is kp nw s r).length c1,.slice a2 (eW o is kp nw s r).length c2] 153 (0,0))/\w'.ownsRow w1.heap.size 103 2 (.slice a1 (eV o is kp nw s r).length c1) (eV o is kp nw s r).length (ev (eV o is kp nw s r))/\
  w'.ownsRow w1.heap.size 103 2 (.slice a2 (eW o is kp nw s r).length c2) (eW o is kp nw s r).length (ev (eW o is kp nw s r))/\Fr F w1 w'/\(∀k,b k->F k\/w1.heap.size<=k)/\(∀k,some k=(Value.slice a1 (eV o is kp nw s r).length c1).ownBlock->¬b k)/\(∀k,some k=(Value.slice a2 (eW o is kp nw s r).length c2).ownBlock->¬b k)/\(∀k,some k=(Value.slice a1 (eV o is kp nw s r).length c1).ownBlock->some k≠(Value.slice a2 (eW o is kp nw s r).length c2).ownBlock)):=by
  intro w1 hb hB hc;have q:∀k,w.heap.size<=k->¬F k:=fun k hk h=>by have:=o.lt x k h;omega
  exact DA o D fa fk fn is kp nw ap r t v ai hr ar F s w1 aB aF _ _ _ _ (o.below x hb) hB hc (q _ aa) (q _ aa) (q _ aa) (q _ aa) ⟨aa,aa,aa⟩ (aR.below hb)
 have an:=hide x;go_enter func78,ntmps78;go_wp2_with fail;have f:∃W4,W4=(((w.alloc (.cells #[.pointer (some ⟨o.p,0,none⟩)] 52)).alloc (.cells #[fa.v,fk.v,fn.v] 145)).alloc (.cells #[.func (.func 146) #[] #[.pointer (some ⟨w.heap.size+1,0,none⟩)]] 101)).alloc (.cells #[m6 (w.heap.size+1+1) (w.heap.size+1) w.heap.size] 101):=⟨_,rfl⟩
 obtain⟨W4,f⟩:=f;have sz:W4.heap.size=w.heap.size+4:=by rw[f];simp
 have B:Below w.heap.size w W4:=by rw[f];exact((((aH _ w).alloc b7 _).alloc ac _).alloc (by simp;omega) _).alloc (by simp;omega) _
 have g0:W4.heap[w.heap.size]?=some (.cells #[aq o.p] 52 (0,0)):=by rw[f,aS _ _ _ (by simp;omega),aS _ _ _ (by simp;omega),aS _ _ _ ac];exact aP _ _
 have g1:W4.heap[w.heap.size+1]?=some (.cells #[fa.v,fk.v,fn.v] 145 (0,0)):=by rw[f,aS _ _ _ ac,aS _ _ _ ac];exact xq
 have g2:W4.heap[w.heap.size+2]?=some (.cells #[.func (.func 146) #[] #[aq (w.heap.size+1)]] 101 (0,0)):=by rw[f,aS _ _ _ ac];simpa using aP ((w.alloc (.cells #[.pointer (some ⟨o.p,0,none⟩)] 52)).alloc (.cells #[fa.v,fk.v,fn.v] 145)) (.cells #[.func (.func 146) #[] #[.pointer (some ⟨w.heap.size+1,0,none⟩)]] 101)
 have g3:W4.heap[w.heap.size+3]?=some (.cells #[m6 (w.heap.size+1+1) (w.heap.size+1) w.heap.size] 101 (0,0)):=by rw[f];simpa using aP (((w.alloc (.cells #[.pointer (some ⟨o.p,0,none⟩)] 52)).alloc (.cells #[fa.v,fk.v,fn.v] 145)).alloc (.cells #[.func (.func 146) #[] #[.pointer (some ⟨w.heap.size+1,0,none⟩)]] 101)) (.cells #[m6 (w.heap.size+1+1) (w.heap.size+1) w.heap.size] 101)
 rw[<-f];have P:=xt 149 #[] #[aq w.heap.size,aq (w.heap.size+1),aq (w.heap.size+1+1+1),aq (w.heap.size+1+1)] DC W4 o.p t al r.length v (o.wt s).length am ((B.cell (p:=av o.p 0) lp).trans c0) ((B.cell (p:=av o.p 1) lp).trans c1)
  (fun _ g=>∃a1 c1 a2 c2 b d,o.J b (fE o is kp s r) d/\Fr (fun k=>k=o.p) d g/\
    g.heap[o.p]?=some (.cells #[.slice a1 (eV o is kp nw s r).length c1,.slice a2 (eW o is kp nw s r).length c2] 153 (0,0))/\g.ownsRow (w.heap.size+7) 103 2 (.slice a1 (eV o is kp nw s r).length c1) (eV o is kp nw s r).length (ev (eV o is kp nw s r))/\
    g.ownsRow (w.heap.size+7) 103 2 (.slice a2 (eW o is kp nw s r).length c2) (eW o is kp nw s r).length (ev (eW o is kp nw s r))/\Fr F w g/\(∀k,b k->F k\/w.heap.size+7<=k)/\(∀k,some k=(Value.slice a1 (eV o is kp nw s r).length c1).ownBlock->¬b k)/\(∀k,some k=(Value.slice a2 (eW o is kp nw s r).length c2).ownBlock->¬b k)/\(∀k,some k=(Value.slice a1 (eV o is kp nw s r).length c1).ownBlock->some k≠(Value.slice a2 (eW o is kp nw s r).length c2).ownBlock))
  (by
    intro w1 hw1;have s1:w1.heap.size=w.heap.size+7:=by rw[hw1];simp;omega
    have b1:Below W4.heap.size W4 w1:=by rw[hw1];exact(((aH _ W4).alloc b7 _).alloc ac _).alloc (by simp;omega) _
    have hk:w1.heap[W4.heap.size+1]?=some (.cells #[.bool false] 4 (0,0)):=by exact xp
    have b2:=B.trans (b1.mono aa)
    refine(aV.o w1 b2 ⟨(b1.block _ aa).trans g1,(b1.block _ aa).trans g2,(b1.block _ aa).trans g0⟩ ((b1.block _ aa).trans g3)).mono ?_;rintro e g ⟨a1,c1,a2,c2,b,d,rfl,q1,N,q3,l,n,S,u,ab,ad,ag⟩
    rw[s1] at l n u;refine⟨true,rfl,⟨a1,c1,a2,c2,b,d,q1,N,q3,l,n,(Fr.of (X:=F) b2).trans S (fun _ c=>aM c),u,ab,ad,ag⟩,(S.block _ aa (fun h=>?_)).trans hk⟩
    have:=o.lt an.o _ h;omega)
 refine P.mono ?_;rintro e bg ⟨a0,g,rfl,⟨a1,a3,a2,ba,b,d,q1,N,q3,l,n,S,u,ab,ad,ag⟩,hk,rfl⟩
 obtain⟨m,hm⟩:∃m,m=W4.heap.size+1:=⟨_,rfl⟩
 rw[<-hm];have bb:aA (m=w.heap.size+5):=by show m=_;omega
 clear hm hk B g0 g1 g2 g3 sz f;go_wp2_with fail;go_end0;have hm:=bb.o;have W:∀k,k≠m->(g.setCell ⟨m,0,none⟩ (.bool a0)).heap[k]?=g.heap[k]?:=fun k hk=>aW _ _ _ _ hk;refine⟨a1,a3,a2,ba,b,d,rfl,q1,fun k ao bd=>?_,?_,(W _ aa).trans q3,?_,?_,S.trans ((Fr.refl (fun k=>k=m) g).set _ 0 _ rfl) (fun i c=>aL aa),fun k h=>(u k h).imp id (fun h=>by omega),ab,ad,ag⟩
 ·refine(W k ?_).trans (N.block k (o.lt q1 k ao) bd)
  rcases u k ao with h|h
  ·have:=o.lt an.o k h;omega
  ·omega
 ·have:=N.size;simpa[World.setCell] using this
 ·exact e8 (cL l (fun k e=>W k (by have:=(cu l k e).1;omega))) (fun k e=>by have:=(cu l k e).1;omega)
 ·exact e8 (cL n (fun k e=>W k (by have:=(cu n k e).1;omega))) (fun k e=>by have:=(cu n k e).1;omega)
def df {u:Type}(o:dx u)(p:Nat)(vr:Value):fT (u×List ce) where
 J F s w:=∃b ad cap,o.J b s.1 w/\w.heap[p]?=some (.cells #[vr,.slice ad s.2.length cap] 153 (0,0))/\w.ownsRow 0 103 2 (.slice ad s.2.length cap) s.2.length (ev s.2)/\(∀k,b k->F k)/\F p/\¬b p/\(∀k,some k=(Value.slice ad s.2.length cap).ownBlock->F k/\¬b k)/\(∀k,F k->k<w.heap.size)
 lt:=by rintro F t w ⟨b,ad,cap,n,c,d,f,i,l,m,j⟩ k hk;exact j k hk
 keep:=by rintro F t w w' ⟨b,ad,cap,n,c,d,f,i,l,m,j⟩ hs hk;exact⟨b,ad,cap,o.keep n hs (fun k h=>hk k (f k h)),(hk p i).trans c,cL d (fun k e=>hk k (m k e).1),f,i,l,m,fun k h=>aO (j k h) hs⟩
 p:=p
 vr:=vr
 wt s:=s.2
 put s q:=(s.1,q)
 side:=by
  rintro F s w ⟨b,ad,cap,n,c,d,f,i,l,m,j⟩
  refine⟨ad,cap,c,⟨hZ d,?_,?_⟩,i,fun hp z e=>(m z.block (by rw[e];rfl)).1⟩
  ·rcases d.2 with⟨hv,h0⟩|⟨g,B,N,hv,_,_,hc,_⟩
   ·omega
   ·simp at hv;omega
  ·intro S;rcases d.2 with⟨hv,h0⟩|⟨g,B,N,hv,_⟩
   ·simp at hv;exact⟨h0,hv.2.2⟩
   ·rw[S] at hv;simp at hv
 set:=by
  rintro F s w ⟨b,ad,cap,n,c,d,f,i,l,m,j⟩ w1 q b1 gx hb v;have lp:=lt_of_some c;have ab:=cu v b1 rfl;have x:∀k,k≠p->(w1.setCell ⟨p,1,none⟩ (.slice (some ⟨b1,0,none⟩) q.length gx)).heap[k]?=w1.heap[k]?:=fun k hk=>aW _ _ _ _ hk;have hs:(w1.setCell ⟨p,1,none⟩ (.slice (some ⟨b1,0,none⟩) q.length gx)).heap.size=w1.heap.size:=by simp[World.setCell]
  have ag:=hb.size;refine⟨b,au b1,gx,o.keep (o.below n hb) (by rw[hs];exact aG _) (fun k h=>x k (fun e=>l (by rw[<-e];exact h))),?_,e8 (cL v (fun k e=>x k (by simp[Value.ownBlock] at e;omega))) (fun _ _=>a4 _),fun k h=>aM (f k h),aM i,l,fun k e=>?_,fun k h=>?_⟩
  ·have W:=(hb.block p lp).trans c;simp only [World.setCell,Array.getElem?_modify,if_true,W,Option.map_some];simp
  ·simp[Value.ownBlock] at e;exact⟨aL e,fun h=>by have:=j k (f k h);omega⟩
  ·rw[hs];rcases h with h|h
   ·have:=j k h;omega
   ·omega
 qj:=fun _ _=>rfl
theorem qm {b:Type}(o:dx b)(p:Nat)(vr:Value)(D:Int->Prop)(c fk d:f5)(is:b->Int->Bool)(kp:b->Int->Int×b)(nw:b->Int->Int)(ea:dS c.f)(fU:dS fk.f)(en:dS d.f)(ha:kq o D c.f c.b c.c is)(hk:n7 o D fk.f fk.b fk.c kp)(ht:lz o D d.f d.b d.c nw):
 l6 (df o p vr) D c fk d (fun s x=>is s.1 x) (fun s x=>((kp s.1 x).1,((kp s.1 x).2,s.2))) (fun s x=>nw s.1 x) where
 ea:=ea
 fU:=fU
 en:=en
 ha:=by
  rintro F s w x f ⟨g,ad,cap,i,_⟩
  exact ha g s.1 w x f i
 hk:=by
  rintro F s w x f _ ⟨g,ad,cap,i,q,l,t,N,u,m,S⟩
  refine(hk g s.1 w x f i).mono ?_;rintro r w' ⟨v,rfl,B,j,n⟩
  have lp:=lt_of_some q;refine⟨fun k=>F k\/v k,rfl,⟨v,ad,cap,B,(j.block p lp u).trans q,cL l (fun k e=>j.block k (cu l k e).2 (m k e).2),fun k h=>aL h,aM N,fun h=>(n p h).elim u (fun h=>by omega),fun k e=>⟨aM (m k e).1,fun h=>(n k h).elim (m k e).2 (fun h=>by have:=(cu l k e).2;omega)⟩,fun k h=>?_⟩,j.mono t,fun k h=>?_⟩
  ·rcases h with h|h
   ·exact aO (S k h) j.size
   ·exact o.lt B k h
  ·rcases h with h|h
   ·exact aM h
   ·exact(n k h).imp (t k) id
 ht:=by
  rintro F s w x f ⟨g,ad,cap,i,_⟩
  exact ht g s.1 w x f i
 hl:=fun _ _=>rfl
structure qn {σ:Type}(o:fT σ):Prop where
 xu:∀{F s w},o.J F s w->∀{w1:az}{q:List ce}{a1:Option Addr}{c1:Nat},Below w.heap.size w w1->w1.ownsRow w.heap.size 103 2 (.slice a1 q.length c1) q.length (ev q)->
  o.J (fun k=>F k\/some k=(Value.slice a1 q.length c1).ownBlock) (o.put s q) (w1.setCell ⟨o.p,1,none⟩ (.slice a1 q.length c1))
 xv:∀{F s w},o.J F s w->∀{ad:Option Addr}{cap:Nat},w.heap[o.p]?=some (.cells #[o.vr,.slice ad (o.wt s).length cap] 153 (0,0))->∀i,i<(o.wt s).length->∀g z:Int,∃b f,ad=some ⟨b,f,none⟩/\F b/\b≠o.p/\w.frozen? (av b (f+i*2))=false/\w.frozen? (av b (f+i*2+1))=false/\
  o.J F (o.put s ((o.wt s).set i (g,z))) ((w.setCell ⟨b,f+i*2,none⟩ (.int .i64 g)).setCell ⟨b,f+i*2+1,none⟩ (.int .i64 z))
def lD {b:Type}(o:fT b)(is:b->Int->Bool)(kp:b->Int->Int×b)(t:b×Bool)(i:Nat):b×Bool:=
 if is t.1 ((o.wt t.1).getD i (0,0)).2||!is t.1 ((o.wt t.1).getD i (0,0)).1 then t
 else(o.put (kp t.1 ((o.wt t.1).getD i (0,0)).2).2 ((o.wt (kp t.1 ((o.wt t.1).getD i (0,0)).2).2).set i (((o.wt t.1).getD i (0,0)).1,(kp t.1 ((o.wt t.1).getD i (0,0)).2).1)),true)
def fL {b:Type}(o:fT b)(is:b->Int->Bool)(kp:b->Int->Int×b)(s:b)(n:Nat):b×Bool:=(List.range n).foldl (lD o is kp) (o.put s (o.wt s),false)
theorem DD {b:Type}(o:fT b)(is:b->Int->Bool)(kp:b->Int->Int×b)(s:b):fL o is kp s 0=(o.put s (o.wt s),false):=rfl
theorem xw {b:Type}(o:fT b)(is:b->Int->Bool)(kp:b->Int->Int×b)(s:b)(n:Nat):fL o is kp s (n+1)=lD o is kp (fL o is kp s n) n:=by simp[fL,List.range_succ]
theorem DE {b:Type}(o:fT b)(is:b->Int->Bool)(kp:b->Int->Int×b)(hl:∀s x,(o.wt (kp s x).2).length=(o.wt s).length)(t:b×Bool)(i:Nat):(o.wt (lD o is kp t i).1).length=(o.wt t.1).length:=by
 unfold lD;split
 ·rfl
 ·simp[o.qj,hl]
theorem xx {b:Type}(o:fT b)(is:b->Int->Bool)(kp:b->Int->Int×b)(hl:∀s x,(o.wt (kp s x).2).length=(o.wt s).length)(s:b):∀n,(o.wt (fL o is kp s n).1).length=(o.wt s).length
 |0=>by rw[DD];simp[o.qj]
 |n+1=>by rw[xw,DE o is kp hl,xx o is kp hl s n]
theorem xy {b:Type}{o:fT b}{is:b->Int->Bool}{kp:b->Int->Int×b}{t:b×Bool}{i:Nat}{g z:Int}(hg:((o.wt t.1).getD i (0,0)).1=g)(hz:((o.wt t.1).getD i (0,0)).2=z)(h:is t.1 z=true\/is t.1 g=false):lD o is kp t i=t:=by unfold lD;rw[hg,hz];rcases h with h|h<;>simp[h]
theorem DF {b:Type}{o:fT b}{is:b->Int->Bool}{kp:b->Int->Int×b}{t:b×Bool}{i:Nat}{g z:Int}(hg:((o.wt t.1).getD i (0,0)).1=g)(hz:((o.wt t.1).getD i (0,0)).2=z)(c:is t.1 z=false)(d:is t.1 g=true):lD o is kp t i=(o.put (kp t.1 z).2 ((o.wt (kp t.1 z).2).set i (g,(kp t.1 z).1)),true):=by unfold lD;rw[hg,hz];simp[c,d]
def l7 (n:Nat):Code->Option Code
 |.region m o d=>match m==n with
  |true=>some (.region m o d)
  |false=>none
 |.seq a b=>match l7 n a with
  |some c=>some c
  |none=>l7 n b
 |.cond _ a b=>match l7 n a with
  |some c=>some c
  |none=>l7 n b
 |.block _ c=>l7 n c
 |.loop c=>l7 n c
 |.scope c=>l7 n c
 |_=>none
theorem DG {s1 s2 c s4 s5 s6 b3 b4 b5 b6 b9 ca cb d f g i j k m n o q s t u v x B F N S W ab ag ai al am an ao ap ar aB aF aR aV a0 a2 a3 ba bb bd be bg bi bl:Value}{Q:Exit->Act->az->Prop}{bs p cap:Nat}{ad:Option Addr}{l:List ce}{w:az}(hl:l.length<=100000)(h:iD w ad l cap)(c0:w.cell? (av bs 0)=some (aq p))(c1:w.cell? (av p 1)=some (.slice ad l.length cap))(cc:w.frozen? (av p 1)=false)
 (b2:∀(bn bo bp br bt bx b0 b1:Value)(a1:Option Addr)(k1:Nat)(w1:az),w1.ownsRow w.heap.size 103 2 (.slice a1 l.length k1) l.length (ev l)->Below w.heap.size w w1->Q .normal ⟨#[aq bs,s1,s2,c,s4,s5,bn,bo,bp,br,bt,bx,b0,b1,d,f,g,i,j,k,m,n,o,q,s,t,u,v,x,B,F,N,S,W,ab,ag,ai,al,am,an,ao,ap,ar,aB,aF,aR,aV,a0,a2,a3,ba,bb,bd,be,bg,bi,bl],[]⟩ (w1.setCell ⟨p,1,none⟩ (.slice a1 l.length k1))):
 Code.wp prog ((Tryz.f217.body.bind (l7 1)).getD .skip) Q ⟨#[aq bs,s1,s2,c,s4,s5,s6,b3,b4,b5,b6,b9,ca,cb,d,f,g,i,j,k,m,n,o,q,s,t,u,v,x,B,F,N,S,W,ab,ag,ai,al,am,an,ao,ap,ar,aB,aF,aR,aV,a0,a2,a3,ba,bb,bd,be,bg,bi,bl],[]⟩ w:=by
 conv=>arg 2;whnf
 refine wp_region_noPanic ?_;have cd:aA (∀(bn bo bp br bt bx b0 b1:Value)(a1:Option Addr)(k1:Nat)(w1:az),w1.ownsRow w.heap.size 103 2 (.slice a1 l.length k1) l.length (ev l)->Below w.heap.size w w1->Q .normal ⟨#[aq bs,s1,s2,c,s4,s5,bn,bo,bp,br,bt,bx,b0,b1,d,f,g,i,j,k,m,n,o,q,s,t,u,v,x,B,F,N,S,W,ab,ag,ai,al,am,an,ao,ap,ar,aB,aF,aR,aV,a0,a2,a3,ba,bb,bd,be,bg,bi,bl],[]⟩ (w1.setCell ⟨p,1,none⟩ (.slice a1 l.length k1))):=b2;have cf:aA (iD w ad l cap):=h;have l2:=aT w _ c0;have lp:=aT w _ c1;dsimp only at l2 lp;clear b2 h
 go_region_with (go_at_call 212;refine(sw _ ad l cap (cf.o.below (b8.drew)) hl).mono ?_;rintro e w1 ⟨a1,k1,rfl,cg,b⟩;have ch:=(b.cell (p:=av bs 0) l2).trans c0;have ci:=(b.cell (p:=av p 1) lp).trans c1;have cj:=(b.frozen (p:=av p 1) lp).trans cc)
 all_goals exact NoPanic.normal (cd.o _ _ _ _ _ _ _ _ a1 k1 w1 cg ((aH _ w).drew.trans b))
theorem DH {n:Type}(o:fT n)(ce:qn o)(D:Int->Prop)(f fk a3:f5)(is:n->Int->Bool)(kp:n->Int->Int×n)(nw:n->Int->Int)(u:l6 o D f fk a3 is kp nw)(F:Nat->Prop)(s:n)(w:az)(hn:(o.wt s).length<=90000)
 (cf:∀j,j<(o.wt s).length->D ((o.wt (fL o is kp s j).1).getD j (0,0)).1/\D ((o.wt (fL o is kp s j).1).getD j (0,0)).2)(bl bs:Nat)(m:o.J F s w)(ba:w.heap[bl]?=some (.cells #[f.v,fk.v,a3.v] 145 (0,0)))(ar:w.heap[bs]?=some (.cells #[aq o.p] 52 (0,0)))(cg:¬F bl)(ch:¬F bs):
 Calls prog 217 #[aq bs,aq bl] w fun r w'=>∃ci,r=.returned (.bool (fL o is kp s (o.wt s).length).2)/\o.J ci (fL o is kp s (o.wt s).length).1 w'/\Fr F w w'/\∀k,ci k->F k\/w.heap.size<=k:=by
 have cj:aA (qn o):=ce;have ck:aA (kq o.todx D f.f f.b f.c is):=u.ha;have cN:aA (m3 o D fk.f fk.b fk.c kp):=u.hk;have cl:aA (∀s x,(o.wt (kp s x).2).length=(o.wt s).length):=u.hl;have cO:aA (∀j,j<(o.wt s).length->D ((o.wt (fL o is kp s j).1).getD j (0,0)).1/\D ((o.wt (fL o is kp s j).1).getD j (0,0)).2):=cf;have cP:aA (o.J F s w):=m;have cQ:aA (w.heap[bl]?=some (.cells #[f.v,fk.v,a3.v] 145 (0,0))):=ba;have cR:aA (w.heap[bs]?=some (.cells #[aq o.p] 52 (0,0))):=ar;have dg:∀(args:Array Value)(w:az),(callFunc f.f args).run prog w=.ok (.enter f.f args) w:=u.ea;have dh:∀(args:Array Value)(w:az),(callFunc fk.f args).run prog w=.ok (.enter fk.f args) w:=u.fU;have c0:w.cell? (av bs 0)=some (aq o.p):=aD ar
 have l1:bl<w.heap.size:=lt_of_some ba;have l2:bs<w.heap.size:=lt_of_some ar;obtain⟨ad,cap,hp,am,bb,bd⟩:=o.side m;have c1:w.cell? (av o.p 1)=some (.slice ad (o.wt s).length cap):=aD hp
 have cS:w.frozen? (av o.p 1)=false:=aE hp
 have lp:o.p<w.heap.size:=lt_of_some hp;have cT:aA (iD w ad (o.wt s) cap):=am;clear u ce cf m ba ar hp am bd;go_enter func217,ntmps217
 go_upto_region 1 with fail
 refine DG aa cT.o c0 c1 cS ?_;intro di dj dk dl dm dn dp dq a1 k1 w1 be aB;have cU:=aB.size;have cm:=cj.o.xu cP.o aB be;have cn:Fr F w (w1.setCell ⟨o.p,1,none⟩ (.slice a1 (o.wt s).length k1)):=(Fr.of (X:=F) aB).trans ((Fr.refl (fun k=>k=o.p) w1).set o.p 1 _ rfl) (fun i c=>aM (by rw[c];exact bb))
 have co:∀k,F k\/some k=(Value.slice a1 (o.wt s).length k1).ownBlock->F k\/w.heap.size<=k:=fun k h=>h.imp id (fun e=>(cu be k e).1)
 clear be;go_wp2_with fail
 go_loopw [3,4] (fun cV iv wr=>∃(j:Nat)(b:n)(b1:Bool)(l:Nat->Prop),j<=(o.wt s).length/\iv=ak j/\cV=.bool b1/\aA (fL o is kp s j=(b,b1))/\o.J l b wr/\Fr F w wr/\aA (∀k,l k->F k\/w.heap.size<=k)) (fun _ iv _=>(o.wt s).length-(intOf iv).toNat)
 case atStart=>exact⟨0,_,false,_,a4 _,rfl,rfl,rfl,cm,cn,co⟩
 case round=>
  clear cm cn co cU aB;obtain⟨j,b,b1,l,dr,rfl,rfl,an,m,v,q⟩:=hrel;have cp:(o.wt b).length=(o.wt s).length:=by have cq:=xx o is kp cl.o s j;rw[an.o] at cq;exact cq
  obtain⟨ad,cap,hp,am,bb,bd⟩:=o.side m;have ds:=v.size;have n1:¬l bl:=fun h=>(q.o bl h).elim cg (fun h=>by omega)
  have cr:¬l bs:=fun h=>(q.o bs h).elim ch (fun h=>by omega)
  have bg:=(v.block bl l1 cg).trans cQ.o;have bi:=(v.block bs l2 ch).trans cR.o;have cW:wr.cell? (av bs 0)=some (aq o.p):=aD bi
  have cX:wr.cell? (av o.p 1)=some (.slice ad (o.wt s).length cap):=by simp[World.cell?,hp,cp]
  by_cases bn:j<(o.wt s).length
  ·obtain⟨dt,du,cY,dv,hc⟩:=am.lp aa;obtain⟨cs,ct⟩:=hc j aa;obtain⟨aF,ao⟩:=cO.o j bn;rw[an.o] at aF ao;have bo:aA (fL o is kp s (j+1)=lD o is kp (b,b1) j):=by show _=_;rw[xw,an.o]
   obtain⟨g,hg⟩:∃g,((o.wt b).getD j (0,0)).1=g:=⟨_,rfl⟩
   obtain⟨z,hz⟩:∃z,((o.wt b).getD j (0,0)).2=z:=⟨_,rfl⟩
   rw[hg] at cs;rw[hz] at ct;have aF:D g:=by rw[<-hg];exact aF
   have ao:D z:=by rw[<-hz];exact ao
   have bp:aA (((o.wt b).getD j (0,0)).1=g):=hg;have br:aA (((o.wt b).getD j (0,0)).2=z):=hz;subst cY;have B:aA (o.J l b wr):=m;have bt:aA (Fr F w wr):=v;have cZ:aA (wr.heap[bs]?=some (.cells #[aq o.p] 52 (0,0))):=bi;have cv:wr.cell? (av bl 0)=some (.func (.func f.f) f.b f.c):=aD bg
   have m1:wr.cell? (av bl 1)=some (.func (.func fk.f) fk.b fk.c):=aD bg
   have bx:=aw wr (.cells #[.int .i64 g,.int .i64 z] 103)
   have cw:bl<wr.heap.size:=aa;have c2:bs<wr.heap.size:=aa;have dw:o.p<wr.heap.size:=lt_of_some hp;have j0:(0:Int)<=(j:Int):=aa;have dx:(j:Int)<((o.wt s).length:Int):=aa;clear hc hg hz m v bg bi hp am bb bd an;go_wp2_with fail;refine(ck.o l b _ z ao (o.below B.o bx)).mono ?_;rintro r N ⟨rfl,S⟩
   have aR:wr.heap.size<N.heap.size:=by have:=S.size;simp at this;omega
   have W:Below wr.heap.size wr N:=bx.trans (S.mono ac)
   have cx:N.cell? (av wr.heap.size 0)=some (ak g):=(S.cell ac).trans ac;have y1:N.cell? (av wr.heap.size 1)=some (ak z):=(S.cell ac).trans ac;have cy:N.frozen? (av wr.heap.size 1)=false:=(S.frozen ac).trans ac;have c3:N.cell? (av bl 0)=some (.func (.func f.f) f.b f.c):=(W.cell cw).trans cv;cases hz1:is b z
   ·go_wp2_with fail;refine(ck.o l b _ g aF (o.below B.o W)).mono ?_;rintro r b0 ⟨rfl,ab⟩
    have cz:wr.heap.size<b0.heap.size:=by have:=ab.size;omega
    have t:Below wr.heap.size wr b0:=W.trans (ab.mono aa)
    have z0:=(ab.cell (p:=av wr.heap.size 0) aR).trans cx;have cA:=(ab.cell (p:=av wr.heap.size 1) aR).trans y1;have cB:=(ab.frozen (p:=av wr.heap.size 1) aR).trans cy;have c4:b0.cell? (av bl 1)=some (.func (.func fk.f) fk.b fk.c):=(t.cell cw).trans m1;clear cx y1 cy c3 ab S W cs ct cW cX;cases hg1:is b g
    ·have b2:aA (fL o is kp s (j+1)=(b,b1)):=bo.o.trans (xy bp.o br.o (aL hg1))
     go_wp2_with fail;go_roundw
     case rel=>exact⟨j+1,b,b1,l,aa,aj,rfl,b2,o.below B.o t,bt.o.trans (Fr.of (X:=F) t) (fun _ c=>aM c),q⟩
     case measure=>simp[intOf];omega
    ·have b3:aA (fL o is kp s (j+1)=(o.put (kp b z).2 ((o.wt (kp b z).2).set j (g,(kp b z).1)),true)):=bo.o.trans (DF bp.o br.o hz1 hg1)
     have ag:aA ((o.wt (kp b z).2).length=(o.wt s).length):=(cl.o b z).trans cp;go_wp2_with fail;refine(cN.o l b _ z ao (by rw[ag.o];exact hn) (o.below B.o t)).mono ?_;rintro r d ⟨ai,rfl,b4,ap,aV⟩
     generalize (kp b z).1=y at b3⊢;generalize (kp b z).2=s2 at b3 ag b4;have b9:¬l wr.heap.size:=fun h=>by have:=o.lt B.o _ h;omega
     have ca:¬ai wr.heap.size:=fun h=>(aV _ h).elim b9 (fun h=>by omega)
     have cC:¬ai bs:=fun h=>(aV _ h).elim cr (fun h=>by omega)
     have c5:=ap.size;have a0:=ap.block _ cz b9;have cD:=((ap.block bs aa cr).trans (t.block bs c2)).trans cZ.o;have v0:d.cell? (av wr.heap.size 0)=some (ak g):=(aQ (a:=⟨wr.heap.size,0,none⟩) a0).trans z0;have v1:d.cell? (av wr.heap.size 1)=some (ak z):=(aQ (a:=⟨wr.heap.size,1,none⟩) a0).trans cA;have c6:d.frozen? (av wr.heap.size 1)=false:=(World.frozen?_of_block (a:=⟨wr.heap.size,1,none⟩) a0).trans cB;have cb:∀k:Nat,k≠wr.heap.size->(d.setCell ⟨wr.heap.size,1,none⟩ (.int .i64 y)).heap[k]?=d.heap[k]?:=fun k hk=>aW _ _ _ _ hk;have cE:(d.setCell ⟨wr.heap.size,1,none⟩ (.int .i64 y)).heap.size=d.heap.size:=by simp[World.setCell]
     have cc:o.J ai s2 (d.setCell ⟨wr.heap.size,1,none⟩ (.int .i64 y)):=o.keep b4 (by rw[cE];exact aG _) (fun k hk=>cb k (fun e=>ca (by rw[<-e];exact hk)))
     have t0:(d.setCell ⟨wr.heap.size,1,none⟩ (.int .i64 y)).cell? (av wr.heap.size 0)=some (ak g):=(aY d ⟨wr.heap.size,1,none⟩ ⟨wr.heap.size,0,none⟩ (ak y) ac).trans v0;have dy:(d.setCell ⟨wr.heap.size,1,none⟩ (.int .i64 y)).cell? (av wr.heap.size 1)=some (ak y):=a_ _ _ _ v1;have t3:(d.setCell ⟨wr.heap.size,1,none⟩ (.int .i64 y)).cell? (av bs 0)=some (aq o.p):=(aQ (a:=⟨bs,0,none⟩) (cb bs aa)).trans (by simp[World.cell?,cD])
     have cF:Fr F w (d.setCell ⟨wr.heap.size,1,none⟩ (.int .i64 y)):=((bt.o.trans (Fr.of (X:=F) t) (fun _ c=>aM c)).trans ap (fun i c=>q.o i c)).trans ((Fr.refl (fun k=>k=wr.heap.size) d).set _ 1 _ rfl) (fun i c=>aL aa)
     have cG:aA (∀k,ai k->F k\/w.heap.size<=k):=fun k h=>(aV k h).elim (q.o k) (fun h=>aL aa)
     obtain⟨dz,cH,cd,cI,c7,c8⟩:=o.side cc;obtain⟨b5,al,cJ,a2,dA,dB,dC,cK⟩:=cj.o.xv cc cd j (by rw[ag.o];exact bn) g y;obtain⟨b6,dD,e6,c9,cL⟩:=cI.lp (by rw[ag.o];omega)
     obtain⟨da,db⟩:=cL j (by rw[ag.o];exact bn)
     rw[cJ] at e6;cases e6;subst cJ;have dE:(d.setCell ⟨wr.heap.size,1,none⟩ (.int .i64 y)).cell? (av o.p 1)=some (.slice (some ⟨b5,al,none⟩) (o.wt s).length cH):=by simp[World.cell?,cd,ag.o]
     have dF:b5≠wr.heap.size:=fun e=>ca (by rw[<-e];exact a2)
     have dG:b5≠bs:=fun e=>cC (by rw[<-e];exact a2)
     have dc:aA (ai b5):=a2;generalize ((o.wt s2).getD j (0,0)).1=dH at da;generalize ((o.wt s2).getD j (0,0)).2=dI at db;clear z0 cA cB c4 aV b4 ap a0 cD cb cc cd cI c7 c8 cL t bx aR cz c5 ca cC cE c9 b9 a2 cv m1;go_wp2_with fail;generalize d.setCell ⟨wr.heap.size,1,none⟩ (.int .i64 y)=cM at*;clear v0 v1 c6
     go_region_held3 (fun w'=>w'.cell? (av bs 0)=some (aq o.p)/\w'.cell? (av o.p 1)=some (.slice (some ⟨b5,al,none⟩) (o.wt s).length cH)/\w'.cell? (av wr.heap.size 0)=some (ak g)/\w'.cell? (av wr.heap.size 1)=some (ak y)) (go_keep) (fail)
     have dd:=(cF.trans (((Fr.refl (fun k=>k=b5) cM).set b5 (al+j*2) (ak g) rfl).set b5 (al+j*2+1) (ak y) rfl) (fun i c=>by rw[c];exact cG.o _ dc.o)).drew;have de:=o.keep (w':=((cM.setCell ⟨b5,al+j*2,none⟩ (.int .i64 g)).setCell ⟨b5,al+j*2+1,none⟩ (.int .i64 y)).drew) cK b7 (fun _ _=>rfl)
     clear cF cK;go_wp2_with fail;go_roundw
     case rel=>exact⟨j+1,o.put s2 ((o.wt s2).set j (g,y)),true,ai,aa,aj,rfl,b3,de,dd,cG⟩
     case measure=>simp[intOf];omega
   ·have b2:aA (fL o is kp s (j+1)=(b,b1)):=bo.o.trans (xy bp.o br.o (aM hz1))
    go_wp2_with fail;go_roundw
    case rel=>exact⟨j+1,b,b1,l,aa,aj,rfl,b2,o.below B.o W,bt.o.trans (Fr.of (X:=F) W) (fun _ c=>aM c),q⟩
    case measure=>simp[intOf];omega
  ·obtain rfl:j=(o.wt s).length:=aa;have df:=an.o;go_wp2_with fail;go_ret;rw[df];exact⟨l,rfl,m,v,q.o⟩
theorem DI:dS 217:=gw func217 ah rfl
theorem xz {g:Type}(o:fT g)(N:qn o)(D:Int->Prop)(fa fk fn:f5)(is:g->Int->Bool)(kp:g->Int->Int×g)(nw:g->Int->Int)(S:l6 o D fa fk fn is kp nw)(u:Option Addr)(v x:Nat)(W:o.vr=.slice u v x)(F:Nat->Prop)(s:g)(w:az)(hn:(o.wt s).length<=90000)
 (ab:∀j,j<(o.wt s).length->D ((o.wt (fL o is kp s j).1).getD j (0,0)).1/\D ((o.wt (fL o is kp s j).1).getD j (0,0)).2)(l:o.J F s w):
 Calls prog 145 #[aq o.p,.agg #[fa.v,fk.v,fn.v]] w fun e w'=>∃b,e=.returned (.bool (fL o is kp s (o.wt s).length).2)/\o.J b (fL o is kp s (o.wt s).length).1 w'/\Fr F w w'/\∀k,b k->F k\/w.heap.size<=k:=by
 obtain⟨ad,ag,hp,_,ap,_⟩:=o.side l;rw[W] at hp;have c0:w.cell? (av o.p 0)=some (.slice u v x):=aD hp
 have c1:w.cell? (av o.p 1)=some (.slice ad (o.wt s).length ag):=aD hp
 have lp:o.p<w.heap.size:=lt_of_some hp;have ai:aA (o.J F s w):=l;have ar:aA (∀w1,Below w.heap.size w w1->w1.heap[w.heap.size+1]?=some (.cells #[fa.v,fk.v,fn.v] 145 (0,0))->w1.heap[w.heap.size]?=some (.cells #[aq o.p] 52 (0,0))->Calls prog 217 #[aq w.heap.size,aq (w.heap.size+1)] w1 fun r w'=>∃b,r=.returned (.bool (fL o is kp s (o.wt s).length).2)/\o.J b (fL o is kp s (o.wt s).length).1 w'/\Fr F w1 w'/\∀k,b k->F k\/w1.heap.size<=k):=by
  intro w1 hb aB aF;have q:∀k,w.heap.size<=k->¬F k:=fun k hk h=>by have:=o.lt l k h;omega
  exact DH o N D fa fk fn is kp nw S F s w1 hn ab _ _ (o.below l hb) aB aF (q _ aa) (q _ aa)
 clear S l hp W ap N ab;go_enter func145,ntmps145;go_wp2_with fail;have f:∃W4,W4=(w.alloc (.cells #[.pointer (some ⟨o.p,0,none⟩)] 52)).alloc (.cells #[fa.v,fk.v,fn.v] 145):=⟨_,rfl⟩
 obtain⟨W4,f⟩:=f;have sz:W4.heap.size=w.heap.size+2:=by rw[f];simp
 have t:Below w.heap.size w W4:=by rw[f];exact((aH _ w).alloc b7 _).alloc ac _
 have g0:W4.heap[w.heap.size]?=some (.cells #[aq o.p] 52 (0,0)):=by rw[f,aS _ _ _ ac];exact aP _ _
 have g1:W4.heap[w.heap.size+1]?=some (.cells #[fa.v,fk.v,fn.v] 145 (0,0)):=by rw[f];exact xq
 rw[<-f];have P:=xt 217 #[] #[aq w.heap.size,aq (w.heap.size+1)] DI W4 o.p u ad v x (o.wt s).length ag ((t.cell (p:=av o.p 0) lp).trans c0) ((t.cell (p:=av o.p 1) lp).trans c1)
  (fun al d=>∃b,al=(fL o is kp s (o.wt s).length).2/\o.J b (fL o is kp s (o.wt s).length).1 d/\Fr F w d/\∀k,b k->F k\/w.heap.size+5<=k)
  (by
    intro w1 hw1;have s1:w1.heap.size=w.heap.size+5:=by rw[hw1];simp;omega
    have b1:Below W4.heap.size W4 w1:=by rw[hw1];exact(((aH _ W4).alloc b7 _).alloc ac _).alloc (by simp;omega) _
    have hk:w1.heap[W4.heap.size+1]?=some (.cells #[.bool false] 4 (0,0)):=by exact xp
    have b2:Below w.heap.size w w1:=t.trans (b1.mono aa)
    refine(ar.o w1 b2 ((b1.block _ aa).trans g1) ((b1.block _ aa).trans g0)).mono ?_;rintro e d ⟨B,rfl,q1,n,q3⟩
    rw[s1] at q3;refine⟨_,rfl,⟨B,rfl,q1,(Fr.of (X:=F) b2).trans n (fun _ c=>aM c),q3⟩,(n.block _ aa (fun h=>?_)).trans hk⟩
    have:=o.lt ai.o _ h;omega)
 refine P.mono ?_;clear P;rintro e a3 ⟨al,d,rfl,⟨B,rfl,q1,n,q3⟩,hk,rfl⟩
 obtain⟨m,hm⟩:∃m,m=W4.heap.size+1:=⟨_,rfl⟩
 rw[<-hm];have aR:aA (m=w.heap.size+3):=by show m=_;omega
 clear hm hk t g0 g1 sz f;have hm:=aR.o;have am:∀k,k≠m->(d.setCell ⟨m,0,none⟩ (.bool (fL o is kp s (o.wt s).length).2)).heap[k]?=d.heap[k]?:=fun k hk=>aW _ _ _ _ hk;have an:=o.keep (w':=d.setCell ⟨m,0,none⟩ (.bool (fL o is kp s (o.wt s).length).2)) q1 (by simp[World.setCell]) (fun k hk=>am k (fun e=>by
  rcases q3 k hk with h|h
  ·have:=o.lt ai.o k h;omega
  ·omega))
 have ao:=n.trans ((Fr.refl (fun k=>k=m) d).set m 0 (.bool (fL o is kp s (o.wt s).length).2) rfl) (fun i c=>aL aa)
 have aV:aA (∃b,o.J b (fL o is kp s (o.wt s).length).1 (d.setCell ⟨m,0,none⟩ (.bool (fL o is kp s (o.wt s).length).2))/\Fr F w (d.setCell ⟨m,0,none⟩ (.bool (fL o is kp s (o.wt s).length).2))/\∀k,b k->F k\/w.heap.size<=k):=⟨B,an,ao,fun k h=>(q3 k h).imp id (fun h=>by omega)⟩
 clear an ao am q1 n q3 hm;go_wp2_with fail;go_ret;obtain⟨b,a0,a1,a2⟩:=aV.o;exact⟨b,rfl,a0,a1,a2⟩
structure cj where
 N:Nat
 O:Nat
 y:Nat
 T:List Int
structure cr where
 g:Nat
 ws:List Int
 f:Int->Int
 nx:Int
 wk:List Int
 ep:List Int
 rs:List Int
def cj.ld (k:cj)(s:cr)(a:Int):Int:=Proofs.YtpkjkjhanlbcoaaGreat.ld k.N k.y s.g s.ws a
def cj.cP (k:cj)(x:Int):Bool:=dd x&&k.T.contains (cq x)
def cj.ls (k:cj)(s:cr)(x:Int):Bool:=k.cP x&&(s.f (cq x)==-1)
def cj.nw (k:cj)(s:cr)(x:Int):Int:=if(k.cP x&&!(s.f (cq x)==-1))=true then ew 3 (s.f (cq x)) else x
def gO (f:Int->Int)(a v:Int):Int->Int:=fun b=>if b=a then v else f b
def cj.cp (k:cj)(s:cr)(a:Int):cr:={s with g:=jU k.N k.O k.y s.g s.ws a,ws:=jV k.N k.O k.y s.g s.ws a,f:=gO s.f a (mY k.N k.O k.y s.g s.ws a)}
def cj.br (k:cj)(s:cr)(x:Int):Int×cr:=if k.ls s x=true then(k.nw (k.cp s (cq x)) x,k.cp s (cq x)) else(k.nw s x,s)
def cj.st (k:cj)(s:cr)(a x:Int):cr:={s with ws:=if dt k.N k.y s.g a=true then s.ws.set a.toNat x else s.ws}
def cj.kf (k:cj)(s:cr)(a:Int):cr:=k.st (k.br s (k.ld s a)).2 a (k.br s (k.ld s a)).1
def cj.gA (k:cj)(s:cr)(a:Int):Nat->cr
 |0=>s
 |n+1=>k.kf (k.gA s a n) (a+1+n)
def cj.lk (k:cj)(s:cr)(a:Int):cr:=
 if pk (k.ld s a)=1\/pk (k.ld s a)=2 then k.gA s a (pf (k.ld s a)).toNat
 else if pk (k.ld s a)=3 then k.kf {s with wk:=s.wk++[a]} (a+2)
 else if pk (k.ld s a)=4 then {s with ep:=s.ep++[a]} else s
def cj.lb (k:cj):Nat->cr->cr
 |0,s=>s
 |n+1,s=>if hB k.N s.g s.nx=true then k.lb n {k.lk s s.nx with nx:=s.nx+(1+pf (k.ld s s.nx))} else s
def cj.cU (k:cj)(t:List Int×cr)(a:Int):List Int×cr:=if k.ls t.2 (k.ld t.2 (a+1))=true then(t.1++[a],t.2) else(t.1,k.kf (k.kf t.2 (a+1)) (a+2))
def cj.dZ (k:cj)(s:cr)(l:List Int):List Int×cr:=l.foldl k.cU ([],s)
def cj.kv (k:cj)(s:cr):Bool×cr:=(decide ((k.dZ s s.ep).1.length<s.ep.length),{(k.dZ s s.ep).2 with ep:=(k.dZ s s.ep).1})
def dE {b:Type}(is:b->Int->Bool)(kp:b->Int->Int×b)(t:(b×List ce)×Bool)(i:Nat):(b×List ce)×Bool:=
 if is t.1.1 (t.1.2.getD i (0,0)).2||!is t.1.1 (t.1.2.getD i (0,0)).1 then t
 else(((kp t.1.1 (t.1.2.getD i (0,0)).2).2,t.1.2.set i ((t.1.2.getD i (0,0)).1,(kp t.1.1 (t.1.2.getD i (0,0)).2).1)),true)
def gY {b:Type}(is:b->Int->Bool)(kp:b->Int->Int×b)(s:b×List ce)(n:Nat):(b×List ce)×Bool:=(List.range n).foldl (dE is kp) (s,false)
def cj.al (k:cj)(s:cr)(x:Int):Bool:=!k.ls s x
def cj.wa (k:cj)(s:cr×List ce):(cr×List ce)×Bool:=gY k.al k.br s s.2.length
def cj.mu (k:cj)(s:cr):Nat:=(k.N+k.O+13-s.nx).toNat+s.ep.length+(k.O-s.g)
def cj.c9 (k:cj):Nat->cr×List ce->cr×List ce
 |0,s=>s
 |n+1,s=>
  if(k.kv (k.lb (k.O+1) s.1)).1=true then k.c9 n ((k.kv (k.lb (k.O+1) s.1)).2,s.2)
  else if(k.wa ((k.kv (k.lb (k.O+1) s.1)).2,s.2)).2=true then k.c9 n (k.wa ((k.kv (k.lb (k.O+1) s.1)).2,s.2)).1
  else(k.wa ((k.kv (k.lb (k.O+1) s.1)).2,s.2)).1
def cj.sp (k:cj)(s:cr×List ce):cr×List ce:=k.c9 (k.mu s.1+1) s
def cj.ke (k:cj)(s:cr×List ce)(x:Int):Int×(cr×List ce):=((k.br s.1 x).1,k.sp ((k.br s.1 x).2,s.2))
def cj.cO (k:cj)(s:cr):Nat->cr
 |0=>s
 |n+1=>{(k.br (k.cO s n) ((k.cO s n).rs.getD n 0)).2 with rs:=(k.br (k.cO s n) ((k.cO s n).rs.getD n 0)).2.rs.set n (k.br (k.cO s n) ((k.cO s n).rs.getD n 0)).1}
def cj.gB (k:cj)(e c:Int)(M:List Int)(s:cr)(a:Int):cr:=if a+pf (k.ld s a)<e then(if(gf k.N c a&&M.contains (cN k.N a))=true then k.lk s a else s) else s
def cj.lm (k:cj)(c:Int)(M:List Int)(s:cr)(l:List Int):cr:=l.foldl (k.gB s.nx c M) s
def cj.eO (k:cj)(s:cr)(a:Int):cr:=if k.ls s (k.ld s (a+1))=true then k.st s (a+1) 3 else k.st s (a+1) (k.nw s (k.ld s (a+1)))
def cj.mw (k:cj)(s:cr)(l:List Int):cr:=l.foldl k.eO s
def cj.gP (k:cj)(s:cr)(a:Int):cr:=k.st (k.st s (a+1) 3) (a+2) 3
def cj.be (k:cj)(s:cr)(l:List Int):cr:=l.foldl k.gP s
def cj.sz (k:cj)(s:cr):Nat:=((k.T.filter (fun a=>s.f a==-1)).map (fun a=>1+(pf (k.ld s a)).toNat)).sum
structure CI (k:cj)(s:cr):Prop where
 hN:16<=k.N
 hN':k.N<=256
 hO:k.O<=1024
 hy:k.y<=k.N
 hg:s.g<=k.O
 len:s.ws.length=k.N+k.O
 th:∀a∈k.T,0<=a/\pc (k.ld s a)=0/\a+1+pf (k.ld s a)<=k.y
 nd:k.T.Nodup
 room:k.sz s<=k.O-s.g
 h7:(k.N:Int)<=s.nx
 jE:s.nx<=(k.N:Int)+k.O+13
 iI:∀a∈s.wk,(k.N:Int)<=a/\a<=2000
 il:∀a∈s.ep,(k.N:Int)<=a/\a<=2000
 tl:k.T.length<=2000
structure eg (k:cj)(s:cr):Prop where
 wk:s.wk.length+(k.N+k.O+13-s.nx).toNat<=4000
 ep:s.ep.length+(k.N+k.O+13-s.nx).toNat<=4000
open Go.RowKit W Kp ck o6
section
variable {k:cj}{s:cr}
theorem CI.sP (h:CI k s){a:Int}(ha:a∈k.T):0<=a/\a<k.y/\dt k.N k.y s.g a=true:=by
 obtain⟨b,c,d⟩:=h.th a ha;have e:=dr (k.ld s a)
 grind [iW]
theorem cj.n_ (hl:s.ws.length=k.N+k.O)(hy:k.y<=k.N)(hg:s.g<=k.O)(a x b:Int):k.ld (k.st s a x) b=if b=a/\dt k.N k.y s.g a=true then x else k.ld s b:=by
 unfold cj.ld cj.st;by_cases ha:dt k.N k.y s.g a=true
 ·have hb:=jD ha hy hg;rw[aK ha];by_cases e:b=a
  ·grind [ef]
  ·rw[aI aa];unfold Proofs.YtpkjkjhanlbcoaaGreat.ld;by_cases hi:dt k.N k.y s.g b=true
   ·have c:=jD hi hy hg
    grind
   grind
 grind
theorem cj.oa {a:Int}(hc:iE k.N k.O k.y s.g s.ws a=true):k.cp s a={s with g:=s.g+(1+(pf (k.ld s a)).toNat),ws:=splice s.ws (k.N+s.g) ((s.ws.drop a.toNat).take (1+(pf (k.ld s a)).toNat)),f:=gO s.f a ((k.N+s.g:Nat):Int)}:=by
 unfold cj.cp jU jV mY cj.ld
 grind
theorem sT {b:Type}(l m:List b)(t:Nat)(h:t+m.length<=l.length):(splice l t m).length=l.length:=by
 unfold splice
 grind
theorem ob (N y g:Nat)(a:Int):dt N y g a=true↔(0<=a/\a<y)\/((N:Int)<=a/\a<(N:Int)+g):=by simp[dt,hB]
theorem cj.sU (hl:s.ws.length=k.N+k.O)(hy:k.y<=k.N)(hg:s.g<=k.O){a:Int}(a0:0<=a)(a1:a+1+pf (k.ld s a)<=k.y)(hc:iE k.N k.O k.y s.g s.ws a=true)(b:Int):
 k.ld (k.cp s a) b=if(k.N:Int)+s.g<=b/\b<(k.N:Int)+s.g+(1+pf (k.ld s a)) then k.ld s (a+(b-(k.N+s.g))) else k.ld s b:=by
 obtain⟨f,g,c⟩:=o5 hc;have hp:=dr (k.ld s a)
 have c:1+pf (k.ld s a)<=(k.O:Int)-s.g:=c;rw[cj.oa hc];obtain⟨n,hn⟩:∃n,n=(pf (k.ld s a)).toNat:=(by grind)
 rw[<-hn];have d:∀i:Nat,_=_:=fun i=>qi s.ws (k.N+s.g) a.toNat (1+n) i aa aa;by_cases hb:(k.N:Int)+s.g<=b/\b<(k.N:Int)+s.g+(1+pf (k.ld s a))
 ·rw[aK hb];have e:dt k.N k.y (s.g+(1+n)) b=true:=(by grind [ob])
  show Proofs.YtpkjkjhanlbcoaaGreat.ld k.N k.y _ _ b=Proofs.YtpkjkjhanlbcoaaGreat.ld k.N k.y s.g s.ws _;rw[ef e,ef (by grind [ob]),d,aK aa]
  congr 1
  omega
 ·rw[aI hb];show Proofs.YtpkjkjhanlbcoaaGreat.ld k.N k.y _ _ b=Proofs.YtpkjkjhanlbcoaaGreat.ld k.N k.y s.g s.ws b
  grind [ob,YtpkjkjhanlbcoaaGreat.ld]
theorem xA (T:List Int)(f:Int->Int)(a v:Int)(hv:v≠-1):T.filter (fun b=>gO f a v b==-1)=(T.filter (fun b=>f b==-1)).filter (fun b=>!(b==a)):=by
 rw[List.filter_filter]
 congr 1
 funext b
 unfold gO;by_cases e:b=a
 ·simp[e,hv]
 ·simp[e]
theorem o7 (g:Int->Nat):∀(l:List Int)(a:Int),l.Nodup->a∈l->((l.filter (fun b=>!(b==a))).map g).sum+g a=(l.map g).sum
 |[],a,_,h=>by grind
 |b::l,a,hn,h=>by
  rw[List.nodup_cons] at hn;by_cases e:b=a
  ·grind [List.filter_eq_self]
  ·have hm:a∈l:=by grind
   have c:=o7 g l a hn.2 hm
   grind
theorem xB:∀l:List Int,(l.map (fun _=>1)).sum=l.length
 |[]=>rfl
 |_::l=>by simp[xB l];omega
theorem DJ (l:List Int)(a:Int)(hn:l.Nodup)(h:a∈l):(l.filter (fun b=>!(b==a))).length+1=l.length:=by
 have:=o7 (fun _=>1) l a hn h
 grind [xB]
theorem CI.iE (h:CI k s){a:Int}(ha:a∈k.T)(c:s.f a=-1):iE k.N k.O k.y s.g s.ws a=true:=by
 obtain⟨d,b,f⟩:=h.th a ha;have g:=dr (k.ld s a)
 have hm:a∈k.T.filter (fun a=>s.f a==-1):=(by grind)
 have hs:=o7 (fun a=>1+(pf (k.ld s a)).toNat) _ a (h.nd.filter _) hm;have hr:=h.room;have hg:=h.hg;unfold cj.sz at hr;have e:hB 0 (k.y:Int) a=true:=by simp[hB];omega
 unfold Proofs.YtpkjkjhanlbcoaaGreat.iE gE;rw[aK e];refine bm ⟨b,?_,?_⟩
 ·show 1+pf (k.ld s a)<=(k.y:Int)-a;omega
 ·show 1+pf (k.ld s a)<=(k.O:Int)-s.g;omega
theorem CI.st (h:CI k s){a:Int}(ha:(k.N:Int)<=a)(x:Int):CI k (k.st s a x):=by
 have hl:∀b∈k.T,k.ld (k.st s a x) b=k.ld s b:=fun b hb=>by
  have:=h.sP hb
  grind [hy,cj.n_,len,hg]
 refine⟨h.hN,h.hN',h.hO,h.hy,h.hg,?_,fun b hb=>(hl b hb▸h.th b hb),h.nd,?_,h.h7,h.jE,h.iI,h.il,h.tl⟩
 ·grind [len,cj.st]
 ·have e:k.sz (k.st s a x)=k.sz s:=by
   unfold cj.sz
   congr 1
   refine List.map_congr_left (fun b hb=>?_)
   grind
  rw[e];exact h.room
theorem CI.cp (h:CI k s){a:Int}(ha:a∈k.T)(c:s.f a=-1):CI k (k.cp s a)/\s.g<(k.cp s a).g:=by
 have hc:=h.iE ha c;obtain⟨d,e,f⟩:=h.th a ha;have hm:a∈k.T.filter (fun a=>s.f a==-1):=(by grind)
 have hs:=o7 (fun a=>1+(pf (k.ld s a)).toNat) _ a (h.nd.filter _) hm;have hr:=h.room;have hg:=h.hg;have hl:∀b∈k.T,k.ld (k.cp s a) b=k.ld s b:=fun b hb=>by
  have:=h.sP hb
  grind [hy,cj.sU,len]
 have g:k.T.filter (fun b=>(k.cp s a).f b==-1)=(k.T.filter (fun b=>s.f b==-1)).filter (fun b=>!(b==a)):=(cj.oa hc▸xA _ _ _ _ aa)
 have i:(k.cp s a).g=s.g+(1+(pf (k.ld s a)).toNat):=by rw[cj.oa hc]
 have j:k.sz (k.cp s a)+(1+(pf (k.ld s a)).toNat)=k.sz s:=by grind [List.map_congr_left,cj.sz]
 refine⟨⟨h.hN,h.hN',h.hO,h.hy,aa,?_,fun b hb=>(hl b hb▸h.th b hb),h.nd,aa,h.h7,h.jE,h.iI,h.il,h.tl⟩,?_⟩
 all_goals grind [cj.oa,len,sT]
structure d7 (k:cj)(s t:cr):Prop where
 nx:t.nx=s.nx
 wk:t.wk=s.wk
 ep:t.ep=s.ep
 rs:t.rs=s.rs
 g:s.g<=t.g
theorem d7.refl (k:cj)(s:cr):d7 k s s:=⟨rfl,rfl,rfl,rfl,aG _⟩
theorem d7.trans {a b c:cr}(h:d7 k a b)(j:d7 k b c):d7 k a c:=⟨j.nx.trans h.nx,j.wk.trans h.wk,j.ep.trans h.ep,j.rs.trans h.rs,aU h.g j.g⟩
theorem cj.m7 {x:Int}(h:k.ls s x=true):dd x=true/\cq x∈k.T/\s.f (cq x)=-1:=by grind [ls,cP]
theorem CI.br (h:CI k s)(x:Int):CI k (k.br s x).2/\d7 k s (k.br s x).2/\(k.ls s x=true->s.g<(k.br s x).2.g):=by
 unfold cj.br;by_cases c:k.ls s x=true
 ·obtain⟨c1,c2,c3⟩:=cj.m7 c;obtain⟨b,d⟩:=h.cp c2 c3;rw[aK c];exact⟨b,⟨rfl,rfl,rfl,rfl,by grind⟩,fun _=>d⟩
 grind [d7.refl]
theorem CI.kf (h:CI k s){a:Int}(ha:(k.N:Int)<=a):CI k (k.kf s a)/\d7 k s (k.kf s a):=by obtain⟨c,b,_⟩:=h.br _;exact⟨c.st ha _,⟨b.nx,b.wk,b.ep,b.rs,b.g⟩⟩
theorem CI.gA (h:CI k s){a:Int}(ha:(k.N:Int)<=a):∀n,CI k (k.gA s a n)/\d7 k s (k.gA s a n)
 |0=>⟨h,d7.refl _ _⟩
 |n+1=>by obtain⟨b,c⟩:=CI.gA h ha n;obtain⟨d,e⟩:=b.kf (a:=a+1+n) aa;exact⟨d,c.trans e⟩
theorem CI.xC (h:CI k s){a:Int}(ha:(k.N:Int)<=a)(c:a<=2000):CI k {s with wk:=s.wk++[a]}:=
 ⟨h.hN,h.hN',h.hO,h.hy,h.hg,h.len,h.th,h.nd,h.room,h.h7,h.jE,fun b hb=>by
  rcases List.mem_append.1 hb with hb|hb
  ·exact h.iI b hb
  grind,h.il,h.tl⟩
theorem CI.DK (h:CI k s){a:Int}(ha:(k.N:Int)<=a)(c:a<=2000):CI k {s with ep:=s.ep++[a]}:=
 ⟨h.hN,h.hN',h.hO,h.hy,h.hg,h.len,h.th,h.nd,h.room,h.h7,h.jE,h.iI,fun b hb=>by
  rcases List.mem_append.1 hb with hb|hb
  ·exact h.il b hb
  grind,h.tl⟩
structure Cl (k:cj)(s t:cr):Prop where
 nx:t.nx=s.nx
 wk:t.wk.length<=s.wk.length+1
 ep:t.ep.length<=s.ep.length+1
 rs:t.rs=s.rs
 g:s.g<=t.g
theorem Cl.of {t:cr}(h:d7 k s t):Cl k s t:=⟨h.nx,by grind [d7.wk],by grind [d7.ep],h.rs,h.g⟩
theorem CI.lk (h:CI k s){a:Int}(ha:(k.N:Int)<=a)(c:a<=2000):CI k (k.lk s a)/\Cl k s (k.lk s a):=by
 unfold cj.lk;split
 ·grind [gA,Cl.of]
 ·split
  ·obtain⟨d,b⟩:=(h.xC ha c).kf (a:=a+2) aa;exact⟨d,⟨b.nx,by rw[b.wk];simp,by rw[b.ep];simp,b.rs,b.g⟩⟩
  ·split
   ·exact⟨h.DK ha c,⟨rfl,ac,ac,rfl,aG _⟩⟩
   grind [Cl.of,d7.refl]
theorem CI.kT (h:CI k s)(d:hB k.N s.g s.nx=true):CI k {k.lk s s.nx with nx:=s.nx+(1+pf (k.ld s s.nx))}/\k.mu {k.lk s s.nx with nx:=s.nx+(1+pf (k.ld s s.nx))}<=k.mu s/\s.nx<(k.N:Int)+k.O:=by
 have hb:=jC d;have hg:=h.hg;have e:=dr (k.ld s s.nx)
 have n1:=h.hO;have f:=h.hN';obtain⟨b,c⟩:=h.lk h.h7 aa;refine⟨⟨b.hN,(by assumption),(by assumption),b.hy,b.hg,b.len,b.th,b.nd,b.room,?_,?_,b.iI,b.il,b.tl⟩,?_,aa⟩
 ·grind
 ·grind
 ·have g:=c.g;have i:=c.ep
  grind [cj.mu]
theorem eg.kT (h:CI k s)(c:hB k.N s.g s.nx=true)(hb:eg k s):eg k {k.lk s s.nx with nx:=s.nx+(1+pf (k.ld s s.nx))}:=by
 have d:=jC c;have hg:=h.hg;have e:=dr (k.ld s s.nx)
 have n1:=h.hO;have f:=h.hN';obtain⟨g,b⟩:=h.lk h.h7 aa;have i:=hb.wk;have j:=hb.ep;have l:=b.wk;have m:=b.ep;constructor
 all_goals grind
theorem CI.lb (h:CI k s)(hb:eg k s):∀n,CI k (k.lb n s)/\eg k (k.lb n s)/\k.mu (k.lb n s)<=k.mu s:=by
 intro n
 induction n generalizing s with
 |zero=>exact⟨h,hb,aG _⟩
 |succ n b=>
  grind [kT,eg.kT,cj.lb]
theorem CI.cU {t:List Int×cr}(h:CI k t.2){a:Int}(ha:(k.N:Int)<=a):CI k (k.cU t a).2/\d7 k t.2 (k.cU t a).2/\(k.cU t a).1.length<=t.1.length+1/\∀b∈(k.cU t a).1,b∈t.1\/b=a:=by
 unfold cj.cU;split
 ·simp_all [d7.refl]
 grind [kf,d7.trans]
theorem CI.dZ (h:CI k s):∀l:List Int,(∀a∈l,(k.N:Int)<=a)->CI k (k.dZ s l).2/\d7 k s (k.dZ s l).2/\(k.dZ s l).1.length<=l.length/\∀b∈(k.dZ s l).1,b∈l:=by
 have key:∀(l:List Int)(t:List Int×cr),CI k t.2->(∀a∈l,(k.N:Int)<=a)->CI k (l.foldl k.cU t).2/\d7 k t.2 (l.foldl k.cU t).2/\(l.foldl k.cU t).1.length<=t.1.length+l.length/\∀b∈(l.foldl k.cU t).1,b∈t.1\/b∈l:=by
  intro l
  induction l with
  |nil=>grind [d7.refl]
  |cons a l f=>
   grind [cU,d7.trans]
 intro l hl;obtain⟨c,d,g,e⟩:=key l ([],s) h hl;exact⟨c,d,by show(l.foldl k.cU ([],s)).1.length<=l.length;grind,fun b hb=>by simpa using e b hb⟩
theorem CI.kv (h:CI k s)(hb:eg k s):CI k (k.kv s).2/\eg k (k.kv s).2/\k.mu (k.kv s).2<=k.mu s/\((k.kv s).1=true->k.mu (k.kv s).2<k.mu s):=by
 obtain⟨b,c,f,d⟩:=h.dZ s.ep (fun a ha=>(h.il a ha).1)
 have e:=c.nx;have g:=c.g;have b2:=hb.ep;refine⟨⟨b.hN,b.hN',b.hO,b.hy,b.hg,b.len,b.th,b.nd,b.room,b.h7,b.jE,b.iI,fun a ha=>h.il a (d a ha),b.tl⟩,⟨?_,?_⟩,?_,fun hk=>?_⟩
 ·show(k.dZ s s.ep).2.wk.length+(k.N+k.O+13-(k.dZ s s.ep).2.nx).toNat<=4000;rw[e,c.wk];exact hb.wk
 all_goals grind [cj.mu,cj.kv]
theorem d7.mu {t:cr}(h:d7 k s t):k.mu t<=k.mu s:=by unfold cj.mu;rw[h.nx,h.ep];have:=h.g;omega
theorem d7.cb {t:cr}(h:d7 k s t)(hb:eg k s):eg k t:=⟨by rw[h.wk,h.nx];exact hb.wk,by rw[h.ep,h.nx];exact hb.ep⟩
theorem CI.gY {s:cr×List ce}(h:CI k s.1):∀n,CI k (gY k.al k.br s n).1.1/\d7 k s.1 (gY k.al k.br s n).1.1/\(gY k.al k.br s n).1.2.length=s.2.length/\((gY k.al k.br s n).2=true->s.1.g<(gY k.al k.br s n).1.1.g)
 |0=>(by grind [d7.refl,YtpkjkjhanlbcoaaGreat.gY])
 |n+1=>by
  obtain⟨d,b,f,g⟩:=CI.gY h n;have e:Proofs.YtpkjkjhanlbcoaaGreat.gY k.al k.br s (n+1)=dE k.al k.br (Proofs.YtpkjkjhanlbcoaaGreat.gY k.al k.br s n) n:=by simp[Proofs.YtpkjkjhanlbcoaaGreat.gY,List.range_succ]
  rw[e];generalize Proofs.YtpkjkjhanlbcoaaGreat.gY k.al k.br s n=t at d b f g⊢;unfold dE;split
  ·grind
  ·rename_i c;obtain⟨i,j,l⟩:=d.br (t.1.2.getD n (0,0)).2;have hl:k.ls t.1.1 (t.1.2.getD n (0,0)).2=true:=by grind [cj.al]
   refine⟨i,b.trans j,by grind,fun _=>?_⟩
   exact Nat.lt_of_le_of_lt b.g (by grind)
theorem CI.wa {s:cr×List ce}(h:CI k s.1)(hb:eg k s.1):CI k (k.wa s).1.1/\eg k (k.wa s).1.1/\(k.wa s).1.2.length=s.2.length/\k.mu (k.wa s).1.1<=k.mu s.1/\((k.wa s).2=true->k.mu (k.wa s).1.1<k.mu s.1):=by
 obtain⟨b,c,d,f⟩:=h.gY _;refine⟨b,c.cb hb,d,c.mu,fun e=>?_⟩
 have g:=f e;have i:=b.hg;show k.mu (Proofs.YtpkjkjhanlbcoaaGreat.gY k.al k.br s s.2.length).1.1<_
 grind [d7.nx,d7.ep,cj.mu]
theorem CI.cO (h:CI k s):∀n,CI k (k.cO s n)/\(k.cO s n).nx=s.nx/\(k.cO s n).wk=s.wk/\(k.cO s n).ep=s.ep/\s.g<=(k.cO s n).g/\(k.cO s n).rs.length=s.rs.length
 |0=>⟨h,rfl,rfl,rfl,aG _,rfl⟩
 |n+1=>by
  obtain⟨d,e,f,g,i,j⟩:=CI.cO h n;obtain⟨b,c,_⟩:=d.br _;refine⟨⟨b.hN,b.hN',b.hO,b.hy,b.hg,b.len,b.th,b.nd,b.room,b.h7,b.jE,b.iI,b.il,b.tl⟩,c.nx.trans e,c.wk.trans f,c.ep.trans g,aU i c.g,?_⟩
  show((k.br _ _).2.rs.set n _).length=_
  grind [d7.rs]
theorem CI.eO (h:CI k s){a:Int}(ha:(k.N:Int)<=a):CI k (k.eO s a)/\d7 k s (k.eO s a):=by
 unfold cj.eO;split
 ·exact⟨h.st aa _,⟨rfl,rfl,rfl,rfl,aG _⟩⟩
 ·exact⟨h.st aa _,⟨rfl,rfl,rfl,rfl,aG _⟩⟩
theorem CI.gP (h:CI k s){a:Int}(ha:(k.N:Int)<=a):CI k (k.gP s a)/\d7 k s (k.gP s a):=
 ⟨(h.st aa _).st aa _,⟨rfl,rfl,rfl,rfl,aG _⟩⟩
theorem CI.fold (f:cr->Int->cr)(b:∀s a,CI k s->(k.N:Int)<=a->CI k (f s a)/\d7 k s (f s a)):∀(l:List Int)(s:cr),CI k s->(∀a∈l,(k.N:Int)<=a)->CI k (l.foldl f s)/\d7 k s (l.foldl f s)
 |[],s,h,_=>⟨h,d7.refl _ _⟩
 |a::l,s,h,hl=>by
  obtain⟨c,d⟩:=b s a h (hl a ac)
  obtain⟨e,g⟩:=CI.fold f b l (f s a) c (by grind)
  grind [d7.trans]
theorem CI.mw (h:CI k s){l:List Int}(hl:∀a∈l,(k.N:Int)<=a):CI k (k.mw s l)/\d7 k s (k.mw s l):=CI.fold k.eO (by grind [eO]) l s h hl
theorem CI.be (h:CI k s){l:List Int}(hl:∀a∈l,(k.N:Int)<=a):CI k (k.be s l)/\d7 k s (k.be s l):=CI.fold k.gP (by grind [gP]) l s h hl
end
end Go.Proofs.YtpkjkjhanlbcoaaGreat
