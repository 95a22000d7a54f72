import Derived.Test.YtjpjpjemibgjpaaGreatJ29
import Derived.Deep.DeepCutAuto
import Derived.Test.YtjpjpjemibgjpaaGreatJ08
import Derived.Test.YtjpjpjemibgjpaaGreatJ10
import Derived.Test.YtjpjpjemibgjpaaGreatJ25
import Derived.Test.YtjpjpjemibgjpaaGreatJ05
import Derived.Test.YtjpjpjemibgjpaaGreatJ27
import Derived.Test.YtjpjpjemibgjpaaGreatJ01
import Derived.Test.YtjpjpjemibgjpaaGreatJ00
import Derived.Test.YtjpjpjemibgjpaaGreatJ02
import Derived.Test.YtjpjpjemibgjpaaGreatJ07
import Derived.Test.YtjpjpjemibgjpaaGreatJ04
import Derived.Test.YtjpjpjemibgjpaaGreatJ03
namespace Go.Proofs.YtjpjpjemibgjpaaGreat
set_option maxRecDepth 100000
set_option maxHeartbeats 2000000
open Tryz
open Go.RowKit W Kp bY
section
variable {rp rb:Nat}{bS bT:Int}{F:Nat->Prop}{s:b_}{w:World}
def b_.sT (s:b_)(a B:Nat)(b:Int):List cE:=s.T.set (s.th a).toNat ((s.T.getD (s.th a).toNat (0,[],false,false)).1,(s.T.getD (s.th a).toNat (0,[],false,false)).2.1.set b.toNat (s.rs.getD B (0,0)),(s.T.getD (s.th a).toNat (0,[],false,false)).2.2)
theorem z_ (h:(cf rp rb bS bT).J F s w)(d B:Nat)(b2:d<12)(hB:B<12)(g:Int)(a1:0<=s.th d->s.th d<s.T.length)(a2:∀t∈s.T,t.2.1.length<=12)(hl:s.T.length<=10000):
 Calls prog 14 #[af rp,jB 12 0 d B g 0] w fun e w'=>∃C,e=.returned (ae (s.gc d g))/\(cf rp rb bS bT).J C (if s.gc d g=0 then {s with T:=s.sT d B g} else s) w'/\bM F w C w':=by
 have a3:=(Below.refl w.heap.size w).alloc bJ (f7 12 0 d B g 0)
 have P:=mQ 12 0 d B g 0 (an (an (an (an rfl)))) ⟨I,I⟩ ⟨I,I⟩ ⟨I,I⟩ (w.alloc (f7 12 0 d B g 0))
 have O:im 12 0=0:=rfl;rw[O] at P;have L:Hid ((cf rp rb bS bT).J F s w/\Below w.heap.size w (w.alloc (f7 12 0 d B g 0))):=⟨h,a3⟩
 have n:Hid (s.gc d g=if s.th d<0\/(s.T.getD (s.th d).toNat (0,[],false,false)).1=5 then 2 else if g<0\/((s.T.getD (s.th d).toNat (0,[],false,false)).2.1.length:Int)<=g then 1 else 0):=rfl;have H:Hid (s.sT d B g=s.T.set (s.th d).toNat ((s.T.getD (s.th d).toNat (0,[],false,false)).1,(s.T.getD (s.th d).toNat (0,[],false,false)).2.1.set g.toNat (s.rs.getD B (0,0)),(s.T.getD (s.th d).toNat (0,[],false,false)).2.2)):=rfl;clear h a3 O;generalize s.gc d g=z at n⊢;generalize s.sT d B g=fv at H⊢;have bb:=fun w' (b3:(cf rp rb bS bT).J F s w')=>nD b3 d b2;generalize s.th d=a at*;go_enter func14,ntmps14;go_wp2_with fail;refine P.mono ?_;clear P;rintro e w1 ⟨rfl,U⟩
 have W:=L.out.2.trans (U.mono V)
 have J:=(cf rp rb bS bT).below L.out.1 W;have q:w1.heap[w.heap.size]?=some (f7 12 0 d B g 0):=(U.block _ V).trans (aw _ _)
 have q0:w1.cell? (ah w.heap.size 0)=some (ae 12):=by simp[World.cell?,q]
 have q3:w1.cell? (ah w.heap.size 3)=some (ae B):=by simp[World.cell?,q]
 have cF:w1.cell? (ah w.heap.size 2)=some (ae d):=by simp[World.cell?,q]
 have b4:w1.cell? (ah w.heap.size 4)=some (ae g):=by simp[World.cell?,q]
 obtain⟨c1,_,_,X,bd,b5,cG,be⟩:=fT J;obtain⟨bg,bi,cH,y1⟩:=be B hB;obtain⟨cI,b6,b7⟩:=n2 J;have lb:=(cf rp rb bS bT).lt L.out.1 rb b6;have lp:=(cf rp rb bS bT).lt L.out.1 rp b7;have gC:rb≠w.heap.size:=I;have cJ:rp≠w.heap.size:=I;obtain⟨cK,cT,t0,bl,Y⟩:=jq J;have i:Hid ((cf rp rb bS bT).J F s w1/\bM F w F w1):=⟨J,bM.of W⟩
 have Q:=bb w1 J;have r0:(0:Int)<=(B:Int):=I;have r1:(B:Int)<12:=I;clear J W U q be b5 L bb;go_wp2_with fail;refine Q.mono ?_;clear Q;rintro e m ⟨rfl,ad⟩
 have ad:=ad.symm;subst ad;by_cases ha:a<0
 ·have hz:z=2:=by rw[n.out,aq (ap ha)]
  clear Y;go_wp2_with fail;go_ret;exact⟨rfl,F,i.out.1,i.out.2⟩
 ·obtain⟨j,rfl⟩:∃j:Nat,a=j:=⟨a.toNat,I⟩
  have b8:j<s.T.length:=by have:=a1 I;omega
  obtain⟨t,ht⟩:∃t,s.T[j]?=some t:=⟨_,am b8⟩
  obtain⟨b,cL,cp,rfl,u0,ai,_,_,K,M⟩:=Y j t ht;have b9:=a2 t (List.mem_of_getElem? ht)
  have bn:s.T.getD (j:Int).toNat (0,[],false,false)=t:=by rw[Int.toNat_natCast,aj,ht];rfl
  rw[bn] at n H;have cM:decide ((j:Int)<0)=false:=V;have j0:(0:Int)<=(j:Int):=I;have cN:(j:Int)<(s.T.length:Int):=I;clear Y bn a1 a2;obtain⟨kd,f,al,ar⟩:=t;dsimp only at u0 ai K b9 n H M;by_cases hk:kd=5
  ·subst hk;have hz:z=2:=by rw[n.out,aq (an rfl)]
   clear K M ht;go_wp2_with fail;go_ret;exact⟨rfl,F,i.out.1,i.out.2⟩
  ·have cO:(kd==5)=false:=by simpa using hk
   by_cases ax:g<0\/(f.length:Int)<=g
   ·have hz:z=1:=by rw[n.out,ao I,aq ax]
    by_cases cP:g<0
    ·clear K M ht;go_wp2_with fail;go_ret;exact⟨rfl,F,i.out.1,i.out.2⟩
    ·have cQ:(f.length:Int)<=g:=I;clear K M ht;go_wp2_with fail;go_ret;exact⟨rfl,F,i.out.1,i.out.2⟩
   ·have hz:z=0:=by rw[n.out,ao I,ao ax]
    obtain⟨l,rfl⟩:∃l:Nat,g=l:=⟨g.toNat,I⟩
    rw[Int.toNat_natCast] at H;have aB:0<f.length:=I;obtain⟨fb,cV,cb,cR,hc⟩:=K aB;subst cb;have cc:∀k u,(ev f)[k]?=some u->w1.cell? ((⟨fb,cV,none⟩:Addr).add k)=some u:=fun k u hk=>by
     have cd:k<(ev f).length:=(List.getElem?_eq_some_iff.1 hk).1;rw[kq] at cd;obtain⟨O,ce⟩:=l5 f (k/2) I;obtain⟨cg,ch⟩:=hc (k/2) I;rw[Addr.add_lit];rcases Nat.mod_two_eq_zero_or_one k with hm|hm
     ·have eR:k=k/2*2:=I;rw[eR,O] at hk;have aF:cV+k=cV+k/2*2:=I;rw[aF,cg];exact hk
     ·have eR:k=k/2*2+1:=I;rw[eR,ce] at hk;have aF:cV+k=cV+k/2*2+1:=I;rw[aF,ch];exact hk
    have ci:∀u∈ev f,u.oneCell'=true:=fun u bo=>by simp[ev] at bo;obtain⟨a,b,_,h|h⟩:=bo<;>(rw[h];rfl)
    obtain⟨cj,ck,cl,cm,cn⟩:=info_parts kA;have co:Hid (z=0):=hz;generalize bp:(s.rs.getD B (0,0)).1=g1 at bg;generalize br:(s.rs.getD B (0,0)).2=g2 at bi;have cq:Hid (fv=s.T.set j (kd,f.set l (g1,g2),al,ar)):=by show _=_;rw[H.out,<-bp,<-br,Int.toNat_natCast]
    have l0:(0:Int)<=(l:Int):=I;have l1:(l:Int)<(f.length:Int):=I;have cS:¬(l:Int)<0:=I;have cU:¬(f.length:Int)<=(l:Int):=I;obtain⟨cW,cr,cX,cY⟩:=bl I;cases cr;have cs:Hid (s.T[j]?=some (kd,f,al,ar)):=ht;have ct:=au w1 _ ai;clear hc bl hz n H ax M bp br K ht;have bs:w.heap.size<w1.heap.size:=au w1 _ q0
    go_upto_region 63 with(at_builtin;refine hS _ rfl _ _ 57 rfl w1.heap.size 77 cj (.agg #[ae 0,ae 0]) 2 16 Tryz.underlying57 ck cl cm cn rfl Z (.slice none 0 0) 0 [] rfl (aO _ _ _ _) (some ⟨fb,cV,none⟩) f.length cp (ev f) rfl (kq f) (fun e=>by simp at e) (fun a e k u hk=>by cases e;exact cc k u hk) ci (by unfold maxLen;omega) I bJ ?_;intro cZ R m D bx bL;rw[Nat.zero_add,List.nil_append] at D;obtain⟨nb,c0,cu⟩:=dP D aB;cases cu;have S:Hid (nb=w1.heap.size):=(by show nb=w1.heap.size;rcases bL with e|e<;>simp[Value.ownBlock] at e;exact e);have A:Below w1.heap.size w1 m:=bK.grown bx bJ (fun _ h=>by cases h);have c2:=(A.cell (p:=ah w.heap.size 3) bs).trans q3;have c3:=(A.cell (p:=ah w.heap.size 4) bs).trans b4;have c4:=(A.cell (p:=ah rp 1) X).trans c1;have c5:=(A.cell (p:=ah rb (B*2)) bd).trans bg;have c6:=(A.cell (p:=ah rb (B*2+1)) bd).trans bi;have bN:=(A.cell (p:=ah rp 0) X).trans t0;have c7:=(bR D nb rfl).2)
    have aR:=fun o=>show m.frozen? (ah nb o)=false from(by obtain⟨cv,aT⟩:=dO D nb rfl;simp[World.frozen?,aT])
    have c8:=aR (l*2)
    have c9:=aR (l*2+1)
    have da:nb≠w.heap.size:=by have:=S.out;omega
    have db:nb≠rp:=by have:=S.out;omega
    have dc:nb≠rb:=by have:=S.out;omega
    obtain⟨bO,bP,cw,_,bQ⟩:=fR D aB;cases cw;obtain⟨bU,m1⟩:=bQ l I;rw[Nat.zero_add] at bU m1;generalize (f.getD l (0,0)).1=dd at bU;generalize (f.getD l (0,0)).2=de at m1;have aV:Hid (m.ownsRow w1.heap.size 77 2 (.slice (ag nb) f.length R) f.length (ev f)/\Below w1.heap.size w1 m):=⟨D,A⟩
    clear aR D bx bL A bQ
    go_region_held3 (fun w'=>w'.cell? (ah w.heap.size 3)=some (ae B)/\w'.cell? (ah w.heap.size 4)=some (ae l)/\w'.cell? (ah rp 1)=some (.slice (ag rb) 12 12)/\w'.cell? (ah rb (B*2))=some (ae g1)/\w'.cell? (ah rb (B*2+1))=some (ae g2)) (go_keep) (fail)
    have cx:=S.out;have cy:∀u v,((m.setCell ⟨nb,l*2,none⟩ u).setCell ⟨nb,l*2+1,none⟩ v).heap.size=m.heap.size:=fun u v=>by simp[World.setCell]
    have cz:∀u v k,k≠nb->((m.setCell ⟨nb,l*2,none⟩ u).setCell ⟨nb,l*2+1,none⟩ v).heap[k]?=m.heap[k]?:=fun u v k hk=>(Below.heap_setCell _ _ _ _ hk).trans (Below.heap_setCell _ _ _ _ hk)
    have N:=h7 (h7 aV.out.1 (l*2) (ae g1)) (l*2+1) (ae g2)
    rw[<-o9 f l (g1,g2)] at N;have E:Below w1.heap.size w1 ((m.setCell ⟨nb,l*2,none⟩ (.int .i64 g1)).setCell ⟨nb,l*2+1,none⟩ (.int .i64 g2)):=(aV.out.2.setCell (by show w1.heap.size<=nb;omega) _).setCell (by show w1.heap.size<=nb;omega) _;have N:=ca (w':=((m.setCell ⟨nb,l*2,none⟩ (.int .i64 g1)).setCell ⟨nb,l*2+1,none⟩ (.int .i64 g2)).drew) N (fun _ _=>rfl)
    have E:=E.drew;have bN:=(E.cell (p:=ah rp 0) X).trans t0;have df:=(E.cell (p:=ah b (j*4+1)) ct).trans ai;have bV:=(cf rp rb bS bT).below i.out.1 E;have bW:=i.out.2.below E;have dg:=E.size;have dh:=i.out.2.fr.size;have cA:=(cf rp rb bS bT).lt i.out.1;generalize ((m.setCell ⟨nb,l*2,none⟩ (.int .i64 g1)).setCell ⟨nb,l*2+1,none⟩ (.int .i64 g2)).drew=w3 at*;obtain⟨cB,cC,bX,bY,bZ,_,_,_,b0⟩:=nm bV;obtain rfl:cC=.slice (ag b) s.T.length cT:=by have:=bY.symm.trans bN;simpa using this
    obtain⟨x,q,b1⟩:∃x,cB[j]?=some x/\x.1=(kd,f,al,ar):=by have a0:=cs.out;rw[<-bX] at a0;simp at a0;obtain⟨a,b,c⟩:=a0;exact⟨_,c,rfl⟩
    obtain⟨s1,s2⟩:=b0 j x (ag nb) R (f.set l (g1,g2)) b q rfl (fR (by simpa using N)) (fun bO bP _ e=>by cases e;intro G;have:=cA _ G;omega)
    rw[b1,aM] at s1;rw[aM] at s2;have di:w3.frozen? (ah b (j*4+1))=false:=by obtain⟨cv,aT⟩:=dO bZ b rfl;simp[World.frozen?,aT]
    have cD:Hid (∃C,(cf rp rb bS bT).J C {s with T:=fv} (w3.setCell ⟨b,j*4+1,none⟩ (.slice (some ⟨nb,0,none⟩) f.length R))/\bM F w C (w3.setCell ⟨b,j*4+1,none⟩ (.slice (some ⟨nb,0,none⟩) f.length R))):=by
     rw[cq.out];refine⟨_,s1,⟨bW.fr.trans s2 (fun _ G=>ap G),fun bO G=>?_⟩⟩
     rcases G with G|⟨_,bP,e⟩
     ·exact ap G
     ·cases e;exact an I
    clear N bV bW b0 bZ s1 s2 bX q b1 aV cz cy bY cx;go_wp2_with fail;go_ret;obtain⟨C,k1,cE⟩:=cD.out
    try rw[co.out]
    exact⟨rfl,C,k1,cE⟩
end
section
variable {rp rb:Nat}{bS bT:Int}{F:Nat->Prop}{s:b_}{w:World}
theorem Aa (h:(cf rp rb bS bT).J F s w)(R c:Nat)(X:R<12)(Y:c<12)(d:Int)(D:0<=s.th c->s.th c<s.T.length)(E:∀t∈s.T,t.2.1.length<=12)(hl:s.T.length<=10000):
 Calls prog 14 #[af rp,jB 11 R c 0 d 0] w fun e w'=>e=.returned (ae (s.gc c d))/\(cf rp rb bS bT).J F (if s.gc c d=0 then {s with rs:=s.rs.set R (s.gf c d)} else s) w'/\bM F w F w':=by
 have G:=(Below.refl w.heap.size w).alloc bJ (f7 11 R c 0 d 0)
 have P:=mQ 11 R c 0 d 0 (an (an (an (ap rfl)))) ⟨I,I⟩ ⟨I,I⟩ ⟨I,I⟩ (w.alloc (f7 11 R c 0 d 0))
 have H:im 11 0=0:=rfl;rw[H] at P;have o:Hid ((cf rp rb bS bT).J F s w/\Below w.heap.size w (w.alloc (f7 11 R c 0 d 0))):=⟨h,G⟩
 have i:Hid (s.gc c d=if s.th c<0\/(s.T.getD (s.th c).toNat (0,[],false,false)).1=5 then 2 else if d<0\/((s.T.getD (s.th c).toNat (0,[],false,false)).2.1.length:Int)<=d then 1 else 0):=rfl;have k:Hid (s.gf c d=(s.T.getD (s.th c).toNat (0,[],false,false)).2.1.getD d.toNat (0,0)):=rfl;clear h G H;generalize s.gc c d=z at i⊢;generalize s.gf c d=fv at k⊢;have J:=fun w' (ad:(cf rp rb bS bT).J F s w')=>nD ad c Y;generalize s.th c=a at*;go_enter func14,ntmps14;go_wp2_with fail;refine P.mono ?_;clear P;rintro e w1 ⟨rfl,u⟩
 have v:=o.out.2.trans (u.mono V)
 have m:=(cf rp rb bS bT).below o.out.1 v;have p:w1.heap[w.heap.size]?=some (f7 11 R c 0 d 0):=(u.block _ V).trans (aw _ _)
 have q0:w1.cell? (ah w.heap.size 0)=some (ae 11):=by simp[World.cell?,p]
 have q1:w1.cell? (ah w.heap.size 1)=some (ae R):=by simp[World.cell?,p]
 have a0:w1.cell? (ah w.heap.size 2)=some (ae c):=by simp[World.cell?,p]
 have a1:w1.cell? (ah w.heap.size 4)=some (ae d):=by simp[World.cell?,p]
 obtain⟨c1,_,_,a2,a3,ai,bb,K⟩:=fT m;obtain⟨bd,be,bg,y1⟩:=K R X;obtain⟨bi,al,ar⟩:=n2 m;have lb:=(cf rp rb bS bT).lt o.out.1 rb al;have lp:=(cf rp rb bS bT).lt o.out.1 rp ar;have gC:rb≠w.heap.size:=I;have bl:rp≠w.heap.size:=I;obtain⟨bn,cT,t0,L,x⟩:=jq m;have f:Hid ((cf rp rb bS bT).J F s w1/\bM F w F w1):=⟨m,bM.of v⟩
 have Q:=J w1 m;have r0:(0:Int)<=(R:Int):=I;have r1:(R:Int)<12:=I;clear m v u p K ai o J;go_wp2_with fail;refine Q.mono ?_;clear Q;rintro e bo ⟨rfl,A⟩
 have A:=A.symm;subst A;by_cases ha:a<0
 ·have hz:z=2:=by rw[i.out,aq (ap ha)]
  clear x;go_wp2_with fail;go_ret;exact⟨rfl,f.out.1,f.out.2⟩
 ·obtain⟨j,rfl⟩:∃j:Nat,a=j:=⟨a.toNat,I⟩
  have ax:j<s.T.length:=by have:=D I;omega
  obtain⟨t,ht⟩:∃t,s.T[j]?=some t:=⟨_,am ax⟩
  obtain⟨b,bp,cp,rfl,u0,aB,_,_,q,n⟩:=x j t ht;have aF:=E t (List.mem_of_getElem? ht)
  have M:s.T.getD (j:Int).toNat (0,[],false,false)=t:=by rw[Int.toNat_natCast,aj,ht];rfl
  rw[M] at i k;have br:decide ((j:Int)<0)=false:=V;have j0:(0:Int)<=(j:Int):=I;have bs:(j:Int)<(s.T.length:Int):=I;clear x ht M D E;obtain⟨kd,g,bx,bL⟩:=t;dsimp only at u0 aB q aF i k n;by_cases hk:kd=5
  ·subst hk;have hz:z=2:=by rw[i.out,aq (an rfl)]
   clear q n;go_wp2_with fail;go_ret;exact⟨rfl,f.out.1,f.out.2⟩
  ·have bN:(kd==5)=false:=by simpa using hk
   by_cases B:d<0\/(g.length:Int)<=d
   ·have hz:z=1:=by rw[i.out,ao I,aq B]
    by_cases bO:d<0
    ·clear q n;go_wp2_with fail;go_ret;exact⟨rfl,f.out.1,f.out.2⟩
    ·have bP:(g.length:Int)<=d:=I;clear q n;go_wp2_with fail;go_ret;exact⟨rfl,f.out.1,f.out.2⟩
   ·have hz:z=0:=by rw[i.out,ao I,ao B]
    obtain⟨l,rfl⟩:∃l:Nat,d=l:=⟨d.toNat,I⟩
    rw[Int.toNat_natCast] at k;obtain⟨fb,cV,aR,bQ,hc⟩:=q I;obtain⟨v0,v1⟩:=hc l I;subst aR;have aT:Hid (z=0):=hz;have C:Hid (fv=((g.getD l (0,0)).1,(g.getD l (0,0)).2)):=k.out;generalize (g.getD l (0,0)).1=g1 at v0 C;generalize (g.getD l (0,0)).2=g2 at v1 C;have l0:(0:Int)<=(l:Int):=I;have l1:(l:Int)<(g.length:Int):=I;have bR:¬(l:Int)<0:=I;have bU:¬(g.length:Int)<=(l:Int):=I;obtain⟨bV,aV,bW,N⟩:=L I;cases aV;obtain⟨O,bX,_⟩:=n fb cV I rfl;have O:=Ne.symm O;have N:=Ne.symm N;clear hc L hz i k B n;go_wp2_with fail
    go_region_held3 (fun w'=>w'.cell? (ah rp 1)=some (.slice (ag rb) 12 12)/\w'.cell? (ah w.heap.size 1)=some (ae R)/\w'.cell? (ah rp 0)=some (.slice (ag b) s.T.length cT)/\w'.cell? (ah b (j*4+1))=some (.slice (some ⟨fb,cV,none⟩) g.length cp)/\w'.cell? (ah w.heap.size 4)=some (ae l)/\w'.cell? (ah fb (cV+l*2))=some (ae g1)/\w'.cell? (ah fb (cV+l*2+1))=some (ae g2)) (go_keep) (fail)
    obtain⟨S,U⟩:=nl f.out.1 R (g1,g2)
    have W:Hid (_/\_):=⟨(cf rp rb bS bT).below S bK.drew,(f.out.2.trans U).below bK.drew⟩
    clear S U;go_wp2_with fail;go_ret
    try rw[aT.out]
    rw[C.out];exact⟨rfl,W.out.1,W.out.2⟩
end
def b_.h3 (s:b_)(bS k f:Int):Bool:=decide (hc k f=0/\1+f<=bS-(d8 s.T).1)
def b_.fr (s:b_)(bS:Int)(i:Nat)(k f:Int):b_:=if s.h3 bS k f=true then {s with T:=s.T++[(k,List.replicate f.toNat (0,0),false,false)],rs:=s.rs.set i (3,(s.T.length:Int))} else s
theorem Ab:(prog.info? 99).map (fun i=>(i.zero,i.size,i.bytes))=some (some (.agg #[ae 0,.slice none 0 0,.bool false,.bool false]),4,40):=ab
section
variable {rp rb:Nat}{bS bT:Int}{F:Nat->Prop}{s:b_}{w:World}
theorem Ac (h:(cf rp rb bS bT).J F s w)(g:∀t∈s.T,t.2.1.length<=12)(hl:s.T.length<=10000)(p:0<=bS)(hm:bS<=100000)(i:Nat)(k f:Int)(m:s.h3 bS k f=false):
 Calls prog 26 #[af rp,ae i,ae k,ae f] w fun e w'=>e=.returned (.bool false)/\Below w.heap.size w w':=by
 have P:=mh h g hl;have n:Hid ((cf rp rb bS bT).J F s w):=h;have bd:=mf s.T g;have b:=of_decide_eq_false m;have j:=gK k f;generalize (d8 s.T).1=x at P bd b;generalize (d8 s.T).2=y at P bd;obtain⟨q,u,v,A⟩:=bd;have l:=si k f;clear h m g;by_cases h0:hc k f=0
 ·have B:=j h0;have C:bS-x<1+f:=by
   by_cases c:1+f<=bS-x
   ·exact absurd ⟨h0,c⟩ b
   ·omega
  rw[h0] at l;clear h0 b j;go_enter func26,ntmps26;go_wp2_with fail;refine P.mono ?_;clear P;rintro e w1 ⟨rfl,d⟩
  obtain⟨_,D,_⟩:=fT ((cf rp rb bS bT).below n.out d)
  go_wp2_with fail;refine(l w1).mono ?_;rintro e o ⟨rfl,a⟩
  have a:=a.symm;subst a;go_wp2_with fail;go_ret;exact⟨rfl,d⟩
 ·have E:(hc k f !=0)=true:=by simpa using h0
  generalize hc k f=z at*;clear b j;go_enter func26,ntmps26;go_wp2_with fail;refine P.mono ?_;clear P;rintro e w1 ⟨rfl,d⟩
  go_wp2_with fail;refine(l w1).mono ?_;rintro e o ⟨rfl,a⟩
  have a:=a.symm;subst a;go_wp2_with fail;go_ret;exact⟨rfl,d⟩
theorem Ad (h:(cf rp rb bS bT).J F s w)(aB:∀t∈s.T,t.2.1.length<=12)(hl:s.T.length<=10000)(cG:0<=bS)(hm:bS<=100000)(i:Nat)(hi:i<12)(k f:Int)(q:s.h3 bS k f=true):
 Calls prog 26 #[af rp,ae i,ae k,ae f] w fun e w'=>∃L,e=.returned (.bool true)/\(cf rp rb bS bT).J L (s.fr bS i k f) w'/\bM F w L w':=by
 have P:=mh h aB hl;have aF:Hid ((cf rp rb bS bT).J F s w):=h;have bd:=mf s.T aB;obtain⟨h0,H⟩:=of_decide_eq_true q;have b1:=gK k f h0;have aR:Hid (s.fr bS i k f={s with T:=s.T++[(k,List.replicate f.toNat (0,0),false,false)],rs:=s.rs.set i (3,(s.T.length:Int))}):=by show _=_;unfold b_.fr;rw[aq q]
 generalize s.fr bS i k f=b2 at aR⊢;generalize (d8 s.T).1=x at P bd H;generalize (d8 s.T).2=y at P bd;obtain⟨cH,cI,cJ,cK⟩:=bd;obtain⟨_,_,cL,cM⟩:=b1;have br:=si k f;rw[h0] at br;obtain⟨m,rfl⟩:∃m:Nat,f=m:=⟨f.toNat,I⟩
 rw[Int.toNat_natCast] at aR;obtain⟨b3,b5,b6,b7,b8⟩:=info_parts kA;obtain⟨j0,b9,cb,cc,cd⟩:=info_parts Ab;have cN:m<=12:=I;clear h q aB h0;go_enter func26,ntmps26;go_wp2_with fail;refine P.mono ?_;clear P;rintro e w1 ⟨rfl,Q⟩
 obtain⟨_,cO,_⟩:=fT ((cf rp rb bS bT).below aF.out Q)
 go_wp2_with fail;refine(br w1).mono ?_;rintro e cP ⟨rfl,aT⟩
 have aT:=aT.symm;subst aT;have aV:=(cf rp rb bS bT).below aF.out Q;have a0:Hid ((cf rp rb bS bT).J F s w1/\bM F w F w1):=⟨aV,bM.of Q⟩
 have ce:=Q.size;have R:Hid (∀b,F b->b<w1.heap.size):=(cf rp rb bS bT).lt aV;clear aV Q aF;go_wp2_with fail
 go_loopw [12] (fun iv wr=>∃(j:Nat)(g:Option Addr)(cp:Nat),j<=m/\iv=ae j/\wr.heap[w1.heap.size]?=some (.cells #[ae k,.slice g j cp,.bool false,.bool false] 99 (0,0))/\wr.ownsRow (w1.heap.size+1) 77 2 (.slice g j cp) j (ev (List.replicate j (0,0)))/\Below w1.heap.size w1 wr) (fun iv _=>m-(intOf iv).toNat)
 case atStart=>exact⟨0,none,0,aA _,rfl,aw _ _,aO _ _ _ _,(Below.refl _ w1).alloc bJ _⟩
 case round=>
  obtain⟨j,g,cp,c,rfl,ht,S,q⟩:=hrel;have bs:=lt_of_some ht;by_cases cQ:j<m
  ·have cg:wr.cell? (ah w1.heap.size 1)=some (.slice g j cp):=by simp[World.cell?,ht]
   have A:Hid (wr.heap[w1.heap.size]?=some (.cells #[ae k,.slice g j cp,.bool false,.bool false] 99 (0,0))/\Below w1.heap.size w1 wr):=⟨ht,q⟩
   have ch:some w1.heap.size≠(Value.slice g j cp).ownBlock:=fun e=>by have:=(bR S _ e).1;omega
   clear ht q;go_wp2_with (at_builtin;refine wpList_append_own_at _ rfl _ _ 57 rfl (w1.heap.size+1) 77 b3 (.agg #[ae 0,ae 0]) 2 16 Tryz.underlying57 b5 b6 b7 b8 rfl Z (.slice g j cp) j (ev (List.replicate j (0,0))) rfl (fC S _) ⟨wr.heap.size,0,none⟩ 1 1 [ae 0,ae 0] rfl rfl ?_ ?_ ?_ ?_ ?_ ?_;(intro j u c;match j,c with|0,c=>(simp at c;subst c;simp[Addr.add])|1,c=>(simp at c;subst c;simp[Addr.add]));(intro u D;simp at D;subst D;rfl);(unfold maxLen;omega);omega;(simp;omega);intro cR E N J _ cU;obtain⟨b4,U,ci⟩:=dP N (Nat.succ_pos _);subst ci;have a1:=(J.block w1.heap.size (by simp;omega) ch).trans (Below.heap_alloc _ _ _ bs);have g1:=(aD (a:=⟨w1.heap.size,1,none⟩) a1).trans cg;have cV:E.frozen? (ah w1.heap.size 1)=false:=(World.frozen?_of_block (a:=⟨w1.heap.size,1,none⟩) a1).trans (by simp[World.frozen?,A.out.1]))
   have cj:Below w1.heap.size w1 E:=(A.out.2.alloc A.out.2.size _).grown J (by simp;have:=A.out.2.size;omega) (fun b e=>by have:=(bR S b e.symm).1;omega)
   go_roundw
   case rel=>
    refine⟨j+1,ag b4,U,I,ac,?_,?_,cj.setCell bJ _⟩
    ·have hq:=a1.trans A.out.1;simp only [World.setCell,Array.getElem?_modify,if_true,hq,Option.map_some];simp
    ·refine ca (w:=E) ?_ (fun b e=>Below.heap_setCell _ _ _ _ (fun B=>?_))
     ·rw[List.replicate_succ',kn];simpa[ev] using N
     ·have B:b=w1.heap.size:=B;have:=(bR N b (by simpa[Value.ownBlock] using e)).1;omega
   case measure=>simp[intOf];omega
  ·obtain rfl:j=m:=I;have W:=(cf rp rb bS bT).below a0.out.1 q;obtain⟨c1,_,_,ck,cW,cl,cX,bx⟩:=fT W;obtain⟨cm,cn,co,y1⟩:=bx i hi;obtain⟨G,bL,X,cT,M,⟨a2,cq⟩,ax,_,_⟩:=nm W;have Y:G.length=s.T.length:=by rw[<-X];simp
   obtain⟨l,n,cr⟩:=dG M;subst cr;rw[Y] at cT;have cs:rb≠rp:=fun e=>by obtain⟨own,bN,bO,bP,bQ,hM,_⟩:=W;have H:=hM.r1;rw[e,hM.b1] at H;omega
   have ad:Hid ((cf rp rb bS bT).J F s wr/\bM F w F wr):=⟨W,a0.out.2.below q⟩
   have A:Hid (wr.heap[w1.heap.size]?=some (.cells #[ae k,.slice g j cp,.bool false,.bool false] 99 (0,0))/\wr.ownsRow (w1.heap.size+1) 77 2 (.slice g j cp) j (ev (List.replicate j (0,0)))/\w1.heap.size<=wr.heap.size):=⟨ht,S,q.size⟩
   have cY:(0:Int)<=(i:Int):=I;have cZ:(i:Int)<12:=I;clear W bx cl ax M ht S q a0 X;go_wp2_with fail
   go_region_held3 (fun w'=>w'.cell? (ah rp 1)=some (.slice (ag rb) 12 12)/\w'.cell? (ah rp 0)=some (.slice l s.T.length n)) (go_keep) (fail)
   obtain⟨bU,bV⟩:=nl ad.out.1 i (3,(s.T.length:Int))
   have ct:rb≠w1.heap.size:=fun e=>by
    have H:=R.out rb (by obtain⟨own,bN,bO,bP,bQ,hM,a3⟩:=ad.out.1;exact(a3 rb).2 (by rw[hM.r1];decide))
    omega
   have ai:Fr (fun b=>b=rb) wr ((wr.setCell ⟨rb,i*2,none⟩ (.int .i64 3)).setCell ⟨rb,i*2+1,none⟩ (.int .i64 s.T.length)).drew:=(((Fr.refl (fun b=>b=rb) wr).set rb _ _ rfl).set rb _ _ rfl).drew;have al:=(cf rp rb bS bT).below bU bK.drew;have bb:=(ad.out.2.trans bV).below bK.drew;dsimp only at al bb;have O:=(ai.block w1.heap.size bs (fun e=>ct e.symm)).trans A.out.1;have cu:F rb:=by obtain⟨own,bN,bO,bP,bQ,hM,a3⟩:=ad.out.1;exact(a3 rb).2 (by rw[hM.r1];decide)
   have bW:=fQ A.out.2.1 ai (fun b e B=>by
    have H:=(bR A.out.2.1 b e).1;have be:=R.out b (by rw[B];exact cu)
    omega)
   have c0:=ai.size;have cv:=(aD (a:=⟨rp,0,none⟩) (ai.block rp ck (fun e=>cs e.symm))).trans cT;generalize ((wr.setCell ⟨rb,i*2,none⟩ (.int .i64 3)).setCell ⟨rb,i*2+1,none⟩ (.int .i64 s.T.length)).drew=d at*;clear bU bV cm cn co y1 cT c1;obtain⟨G,bL,X,cT,M,⟨a2,cq⟩,ax,bg,_⟩:=nm al;have Y:G.length=s.T.length:=by rw[<-aE (f:=fun x=>x.1),X]
   obtain rfl:bL=.slice l s.T.length n:=by have:=cT.symm.trans cv;simpa using this
   rw[Y] at M;have cw:Hid (G.length=s.T.length):=Y;clear Y;obtain⟨_,_,_,bi,_,bX,_⟩:=fT al;have z0:=bX 0;have t0:d.cell? (ah w1.heap.size 0)=some (ae k):=by simp[World.cell?,O]
   have c2:d.cell? (ah w1.heap.size 1)=some (.slice g j cp):=by simp[World.cell?,O]
   have c3:d.cell? (ah w1.heap.size 2)=some (.bool false):=by simp[World.cell?,O]
   have t3:d.cell? (ah w1.heap.size 3)=some (.bool false):=by simp[World.cell?,O]
   have c4:=lt_of_some O;have bl:=((Below.refl d.heap.size d).alloc bJ (.cells #[ae k,.slice g j cp,.bool false,.bool false] 99)).drew;have cx:Hid ((d.alloc (.cells #[.int .i64 k,.slice g j cp,.bool false,.bool false] 99)).drew.ownsRow 0 99 4 (.slice l s.T.length n) s.T.length (tv G)):=ca (fC M _) (fun _ _=>rfl)
   have bn:Hid ((cf rp rb bS bT).J F {s with rs:=s.rs.set i (3,(s.T.length:Int))} d/\bM F w F d):=⟨al,bb⟩
   have bo:=bg;have C:Hid (d.ownsRow (w1.heap.size+1) 77 2 (.slice g j cp) j (ev (List.replicate j (0,0)))/\d.ownsRow 0 99 4 (.slice l s.T.length n) s.T.length (tv G)/\∀b,some b=(Value.slice l s.T.length n).ownBlock->F b):=⟨bW,M,ax⟩
   have bo:Hid (∀(x:gL)(v1:Value)(w1:World),Fr (fun b=>some b=(Value.slice l s.T.length n).ownBlock) d w1->w1.ownsRow 0 99 4 v1 (G++[x]).length (tv (G++[x]))->(∀b,some b=v1.ownBlock->some b=(Value.slice l s.T.length n).ownBlock\/d.heap.size<=b)->cS w1 x.2.1 x.1.2.1->(∀b o,0<x.1.2.1.length->x.2.1=some ⟨b,o,none⟩->¬F b/\some b≠v1.ownBlock)->
    (cf rp rb bS bT).J (fun b=>F b\/some b=v1.ownBlock\/(0<x.1.2.1.length/\∃o,x.2.1=some ⟨b,o,none⟩)) {s with rs:=s.rs.set i (3,(s.T.length:Int)),T:=s.T++[x.1]} (w1.setCell ⟨rp,0,none⟩ v1)/\Fr F d (w1.setCell ⟨rp,0,none⟩ v1)):=bg
   clear bg M ax al bb O bW bX X A ai ad;go_wp2_with fail
   go_region_law (refine step_append_lies _ rfl (.tmp 62) (.tmp 64) 88 rfl 0 99 j0 (.agg #[ae 0,.slice none 0 0,.bool false,.bool false]) 4 40 Tryz.underlying88 b9 cb cc cd rfl Z (.slice l s.T.length n) s.T.length (tv G) (by simp[Act.eval]) cx.out ⟨d.heap.size,0,none⟩ 1 1 [ae k,.slice g j cp,.bool false,.bool false] (by simp[Act.eval]) rfl ?_ ?_ Z (by unfold maxLen;omega) I V _ rfl ?_;(intro j u c;match j,c with|0,c=>(simp at c;subst c;simp[Addr.add])|1,c=>(simp at c;subst c;simp[Addr.add])|2,c=>(simp at c;subst c;simp[Addr.add])|3,c=>(simp at c;subst c;simp[Addr.add]));(intro u D;simp at D;rcases D with D|D|D<;>(subst D;rfl));intro b4 U E N J bY c5;have c6:=J.cell (a:=⟨rp,0,none⟩) (v:=.slice l s.T.length n) ((bl.cell (p:=ah rp 0) bi).trans cT) a2;have c7:E.frozen? (ah rp 0)=false:=(World.frozen?_of_block (a:=⟨rp,0,none⟩) (J.block _ (av bi bl.size) a2)).trans ((bl.frozen (p:=ah rp 0) bi).trans z0))
   all_goals
    have cy:Hid (∃L,(cf rp rb bS bT).J L b2 (E.setCell ⟨rp,0,none⟩ (.slice (some ⟨b4,0,none⟩) (s.T.length+1) U))/\bM F w L (E.setCell ⟨rp,0,none⟩ (.slice (some ⟨b4,0,none⟩) (s.T.length+1) U))):=by
     have cz:=J.size;simp at cz;have bp:some b4=(Value.slice l s.T.length n).ownBlock\/b4=d.heap.size+1:=bY.imp Eq.symm (fun e=>by simpa using e)
     have bZ:Fr (fun b=>some b=(Value.slice l s.T.length n).ownBlock) d E:=(((Fr.refl _ d).alloc _).drew).grown J (fun b e=>ap e.symm)
     have cA:=fQ C.out.1 bZ (fun b e B=>by
      have H:=(bR C.out.1 b e).1;have be:=R.out b (C.out.2.2 b B)
      omega)
     obtain⟨H,be⟩:=bo.out ((k,List.replicate j (0,0),false,false),g,cp) (.slice (ag b4) (s.T.length+1) U) E bZ (by
      rw[xj,aJ,cw.out];simpa[tv] using N) (fun b e=>by
      simp[Value.ownBlock] at e;subst e;exact bp.imp id (fun e=>by omega)) (fR (by simpa using cA)) (fun b o hp e=>by
      dsimp only at hp e;rw[List.length_replicate] at hp;have cB:some b=(Value.slice g j cp).ownBlock:=by obtain⟨cC,cD,B⟩:=dP C.out.1 hp;cases B;cases e;rfl
      have cE:=bR C.out.1 b cB;refine⟨fun K=>by have:=R.out b K;omega,fun b0=>?_⟩
      simp[Value.ownBlock] at b0;subst b0;rcases bp with ar|ar
      ·have:=R.out _ (C.out.2.2 _ ar)
       omega
      ·omega)
     rw[aR.out];refine⟨_,H,⟨bn.out.2.fr.trans be bn.out.2.sub,fun b K=>?_⟩⟩
     rcases K with K|K|⟨hp,o,e⟩
     ·exact ap K
     ·simp[Value.ownBlock] at K;subst K;rcases bp with ar|ar
      ·exact ap (C.out.2.2 _ ar)
      ·exact an (by have:=bn.out.2.fr.size;omega)
     ·dsimp only at hp e;rw[List.length_replicate] at hp;obtain⟨cC,cD,B⟩:=dP C.out.1 hp;cases B;cases e;have cE:=(bR C.out.1 b rfl).1;have c8:=ce;exact an I
    clear N J bY bo C;go_wp2_with fail;go_ret;obtain⟨L,cF,j2⟩:=cy.out;exact⟨L,rfl,cF,j2⟩
end
section
variable {a:Wc}{F:Nat->Prop}{S:bZ}{w:World}
theorem i9 (h:(eT a).J F S w):∃i,(dD a).J i S.s w/\∀f s1 w',(dD a).J f s1 w'->bM i w f w'->∃d,(eT a).J d ⟨s1,S.r,S.q⟩ w'/\bM F w d w':=by
 obtain⟨i,ar,l,n,j,m,k⟩:=h;obtain⟨o,g1,g2⟩:=hr n;refine⟨o,g1,fun f s1 w' p q=>?_⟩
 obtain⟨d,k1,g⟩:=g2 (dD a) f s1 w' p q;refine⟨fun b=>d b\/some b=(Value.slice ar S.r.length l).ownBlock,⟨d,ar,l,k1,ca j (fun b e=>g.fr.block b (bR j b e).2 (m b e)),fun b e c=>?_,fun b=>Iff.rfl⟩,⟨g.fr.mono (fun b c=>(k b).2 (ap c)),fun b c=>?_⟩⟩
 ·rcases g.sub b c with c|c
  ·exact m b e c
  ·have:=(bR j b e).2;omega
 ·rcases c with c|c
  ·exact(g.sub b c).imp (fun c=>(k b).2 (ap c)) id
  ·exact ap ((k b).2 (an c))
theorem Ae {s:dT}(h:(dD a).J F s w)(x i z:Int)(hM:s.M.length<=100000):
 Calls prog 27 #[af a.pw,ae x,ae i,ae z] w fun e w'=>e=.returned (ae (dH a.N s.y s.g s.ws x i))/\(dD a).J F {s with ws:=fi a.N s.y s.g s.ws x i z,M:=stM a.N s.y s.g s.ws x i z (dx a.O) s.M} w'/\bM F w F w':=by
 obtain⟨own,ct,h,g⟩:=h;refine(wX x i z ⟨h.wd,h.ar,h.cd⟩ hM).mono ?_;rintro e w' ⟨rfl,f,fr⟩
 refine⟨rfl,⟨own,ct,?_,g⟩,⟨fr.mono (fun b c=>?_),fun _ c=>ap c⟩⟩
 ·have d:∀b,b<w.heap.size->own b≠1->own b≠2->w'.heap[b]?=w.heap[b]?:=fun b d j k=>fr.block b d (fun c=>by
   rcases c with c|c|c|c
   ·exact j (by rw[c];exact h.a1)
   ·exact j (by rw[c];exact h.a2)
   ·exact k (by rw[c];exact h.c1)
   ·exact k (by rw[c];exact h.c2))
  exact {
   ar:=f.ar,cd:=f.cd,wd:=f.blk,a1:=h.a1,a2:=h.a2,c1:=h.c1,c2:=h.c2,w1:=h.w1,rl:=h.rl,r1:=h.r1,le:=h.le,lt:=fun b d=>av (h.lt b d) fr.size
   rt:=(d _ (lt_of_some h.rt) (by rw[h.r1];decide) (by rw[h.r1];decide)).trans h.rt}
 ·refine(g b).2 ?_;rcases c with c|c|c|c
  ·rw[c,h.a1];decide
  ·rw[c,h.a2];decide
  ·rw[c,h.c1];decide
  ·rw[c,h.c2];decide
theorem Af (h:(eT a).J F S w)(g z:Int)(t:S.r.length<=90000)(hq:S.q.length<=90000):
 Calls prog 32 #[af a.sd,.agg #[ae g,ae z]] w fun e w'=>∃f,e=.returned (.bool (!g5 (S.r.length+S.q.length)))/\(eT a).J f (if 24<=S.r.length+S.q.length then S else⟨S.s,S.r++[(g,z)],S.q⟩) w'/\bM F w f w':=by
 have u:=h;obtain⟨i,ar,v,⟨x,j,k,l,m,A,B,n,o,C,p⟩,r0,r1,q⟩:=h;refine(zW w a.sd ar j v k S.r S.q g z ⟨m,r0,A⟩ t hq).mono ?_;rintro e w' ⟨rfl,⟨d,s⟩|⟨d,b1,c1,hs,D,fr⟩⟩
 ·exact⟨F,rfl,by rw[aq d];exact(eT a).below u s,bM.of s⟩
 ·have lp:=lt_of_some m;refine⟨fun b=>i b\/some b=(Value.slice (ag b1) (S.r++[(g,z)]).length c1).ownBlock,rfl,?_,⟨fr.mono (fun b c=>(q b).2 (ap (by rw[c];exact n))),fun b c=>?_⟩⟩
  ·rw[ao d];refine⟨i,ag b1,c1,⟨x,j,k,(dD a).keep l fr.size (fun b c=>fr.block b ((dD a).lt l b c) (fun e=>o (by rw[<-e];exact c))),hs.blk,hs.q0,B,n,o,C,fun b c=>av (p b c) fr.size⟩,hs.r0,fun b e c=>?_,fun b=>Iff.rfl⟩
   simp[Value.ownBlock] at e;subst e;have:=p b c;omega
  ·rcases c with c|c
   ·exact ap ((q b).2 (ap c))
   ·simp[Value.ownBlock] at c;subst c;exact an D
end
structure ej where
 a:Wc
 rp:Nat
 rb:Nat
 bS:Int
 bT:Int
 pb:Nat
def ce (c:ej):dB (bZ×b_) where
 J F S w:=∃d e,(eT c.a).J d S.1 w/\(cf c.rp c.rb c.bS c.bT).J e S.2 w/\w.heap[c.pb]?=some (.cells #[af c.a.pw,af c.rp] 65 (0,0))/\(∀b,d b->¬e b)/\¬d c.pb/\¬e c.pb/\∀b,F b↔(d b\/e b\/b=c.pb)
 lt:=by
  rintro F S w ⟨d,e,g,i,j,k,l,m,f⟩ b n;rcases(f b).1 n with a|a|a
  ·exact(eT c.a).lt g b a
  ·exact(cf c.rp c.rb c.bS c.bT).lt i b a
  ·rw[a];exact lt_of_some j
 keep:=by rintro F S w w' ⟨d,e,g,i,j,k,l,m,f⟩ hs hk;exact⟨d,e,(eT c.a).keep g hs (fun b a=>hk b ((f b).2 (ap a))),(cf c.rp c.rb c.bS c.bT).keep i hs (fun b a=>hk b ((f b).2 (an (ap a)))),(hk _ ((f _).2 (an (an rfl)))).trans j,k,l,m,f⟩
section
variable {c:ej}{F:Nat->Prop}{S:bZ×b_}{w:World}
theorem n3 (h:(ce c).J F S w):w.cell? (ah c.pb 0)=some (af c.a.pw)/\w.cell? (ah c.pb 1)=some (af c.rp)/\c.pb<w.heap.size:=by obtain⟨b,d,e,f,a,g,i,j,k⟩:=h;exact⟨by simp[World.cell?,a],by simp[World.cell?,a],lt_of_some a⟩
theorem ip (h:(ce c).J F S w):∃f,(eT c.a).J f S.1 w/\(∀b,f b->F b)/\∀g s1 w',(eT c.a).J g s1 w'->bM f w g w'->∃j,(ce c).J j (s1,S.2) w'/\bM F w j w':=by
 obtain⟨f,k,p,l,m,n,o,q,i⟩:=h;refine⟨f,p,fun b a=>(i b).2 (ap a),fun g s1 w' s d=>?_⟩
 have lr:=(cf c.rp c.rb c.bS c.bT).lt l;have lp:=lt_of_some m;refine⟨fun b=>g b\/k b\/b=c.pb,⟨g,k,s,(cf c.rp c.rb c.bS c.bT).keep l d.fr.size (fun b a=>d.fr.block b (lr b a) (fun e=>n b e a)),(d.fr.block _ lp o).trans m,fun b a e=>?_,fun a=>?_,q,fun b=>Iff.rfl⟩,⟨d.fr.mono (fun b a=>(i b).2 (ap a)),fun b a=>?_⟩⟩
 ·rcases d.sub b a with a|a
  ·exact n b a e
  ·have:=lr b e;omega
 ·rcases d.sub _ a with a|a
  ·exact o a
  ·omega
 ·rcases a with a|a
  ·exact(d.sub b a).imp (fun a=>(i b).2 (ap a)) id
  ·exact ap ((i b).2 (an a))
theorem hx (h:(ce c).J F S w):∃f,(cf c.rp c.rb c.bS c.bT).J f S.2 w/\(∀b,f b->F b)/\∀g s1 w',(cf c.rp c.rb c.bS c.bT).J g s1 w'->bM f w g w'->∃j,(ce c).J j (S.1,s1) w'/\bM F w j w':=by
 obtain⟨k,f,l,p,m,n,q,o,i⟩:=h;refine⟨f,p,fun b a=>(i b).2 (an (ap a)),fun g s1 w' s d=>?_⟩
 have lr:=(eT c.a).lt l;have lp:=lt_of_some m;refine⟨fun b=>k b\/g b\/b=c.pb,⟨k,g,(eT c.a).keep l d.fr.size (fun b a=>d.fr.block b (lr b a) (fun e=>n b a e)),s,(d.fr.block _ lp o).trans m,fun b a e=>?_,q,fun a=>?_,fun b=>Iff.rfl⟩,⟨d.fr.mono (fun b a=>(i b).2 (an (ap a))),fun b a=>?_⟩⟩
 ·rcases d.sub b e with e|e
  ·exact n b a e
  ·have:=lr b a;omega
 ·rcases d.sub _ a with a|a
  ·exact o a
  ·omega
 ·rcases a with a|a|a
  ·exact ap ((i b).2 (ap a))
  ·exact(d.sub b a).imp (fun a=>(i b).2 (an (ap a))) id
  ·exact ap ((i b).2 (an (an a)))
end
def bV (k:Int):Nat:=((k%18446744073709551616)%12).toNat
theorem dY (k:Int):bV k<12:=by unfold bV;omega
theorem hL (k:Int)(w:World):Calls prog 23 #[ae k] w fun e w'=>e=.returned (ae (bV k))/\w'=w:=by
 have a:((bV k:Nat):Int)=(k%18446744073709551616)%12:=by unfold bV;omega
 rw[a];go_enter func23,ntmps23;go_wp2_with fail;go_ret;refine⟨?_,rfl⟩
 have b:0<=k%18446744073709551616%12:=I;have c:k%18446744073709551616%12<12:=I;have d:IntKind.u64.wrap k=k%18446744073709551616:=by
  first
   |rfl
   |simp[IntKind.wrap]
   |(simp[IntKind.wrap,IntKind.bits,IntKind.signed];done)
 have f:(IntKind.u64.wrap k).tmod 12=k%18446744073709551616%12:=by rw[d,Int.tmod_eq_emod_of_nonneg I]
 show Ending.returned (ae (wrap64 ((IntKind.u64.wrap k).tmod 12)))=_;rw[f];generalize k%18446744073709551616%12=z at b c;have g:wrap64 z=z:=by unfold wrap64;omega
 rw[g]
end Go.Proofs.YtjpjpjemibgjpaaGreat
