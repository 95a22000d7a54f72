import Derived.Test.YtjpjpjemibgjpaaGreatJ09
import Derived.Lib.AppendZeros
import Derived.Laws.EntriesVeiled
namespace Go.Proofs.YtjpjpjemibgjpaaGreat
set_option maxRecDepth 100000
set_option maxHeartbeats 8000000
open Tryz
open Go.RowKit W Kp cg
theorem xH {P:Prop}(h:P:=by
 go_wp2_with fail
 go_quiet (fail)
 have hbq:_:=below_drewN (ao w1) nq;have hJ3:=(cn rp rb b9 bY).below f9.o.1 hbq;have oQ:av (_/\_):=⟨hJ3,f9.o.2.below hbq⟩
 obtain⟨k1,_⟩:=e5 hJ3;have k2:=(hbq.cell (p:=am w.heap.size 1) qh).trans q1;have sU:_:=aM qh hbq.size;generalize w1.drewN nq=w3 at*;have oR:=sV 0 w3.drew;clear hbq hJ3 u0 u1 v0 v1 c1 q1 q2 q3 q0 q4 q5;go_wp2_with fail
 go_region_held3 (fun w'=>w'.cell? (am rp 1)=some (.slice (ak rb) 12 12)/\w'.cell? (am w.heap.size 1)=some (ah R)) (go_keep) (first|(go_at_call 42;refine oR.mono ?_;clear oR;rintro e w4 ⟨rfl,hb4⟩;have jR:_:=((ao w3).drew).trans hb4;have mL:=(cn rp rb b9 bY).below oQ.o.1 jR;have oS:av (_/\_):=⟨mL,oQ.o.2.below jR⟩;obtain⟨D8,_,_,_,_,_,_,gr⟩:=e5 mL;obtain⟨D9,g3,g4,g5⟩:=gr R hR;have g6:=(jR.cell (p:=am w.heap.size 1) sU).trans k2;clear hb4 jR mL gr k1 k2))
 all_goals
  obtain⟨hJ2,oT⟩:=kR oS.o.1 R (1,0)
  have HJ2:av (_/\_):=⟨hJ2,oS.o.2.trans oT⟩
  clear hJ2 oT;go_wp2_with fail;go_ret;rw[<-E.o];exact⟨rfl,HJ2.o.1,HJ2.o.2⟩):P:=h
theorem qi {P:Prop}(h:P:=by go_wp2_with fail;go_ret;exact⟨rfl,f9.o.1,f9.o.2⟩):P:=h
theorem xI {P:Prop}(h:P:=by
 go_wp2_with (at_builtin;refine Lib.wpList_append_run _ rfl _ _ _ _ rfl _ _ rfl rfl _ _ hr ?_)
 go_wp2;go_ret;exact⟨_,_,rfl,hown,hb⟩):P:=h
def cj.qj (s:cj)(A B:Nat)(I:Int):List cG:=s.T.set (s.th A).toNat ((s.T.getD (s.th A).toNat (0,[],false,false)).1,(s.T.getD (s.th A).toNat (0,[],false,false)).2.1.set I.toNat (s.rs.getD B (0,0)),(s.T.getD (s.th A).toNat (0,[],false,false)).2.2)
section
variable {rp rb:Nat}{b9 bY:Int}{F:Nat->Prop}{s:cj}{w:au}
theorem D_ (h:(cn rp rb b9 bY).J F s w)(R A:Nat)(X:R<12)(Y:A<12)(I:Int)(D:0<=s.th A->s.th A<s.T.length)(E:∀t∈s.T,t.2.1.length<=12)(hl:s.T.length<=10000)(B n:Int)(G:iJ 11 R A B I n):
 Calls prog 14 #[aj rp,gm 11 R A B I n] w fun e w'=>e=.returned (ah (s.gc A I))/\(cn rp rb b9 bY).J F (if s.gc A I=0 then {s with rs:=s.rs.set R (s.gf A I)} else s) w'/\b_ F w F w':=by
 have H:=an w (dj 11 R A B I n)
 have P:=G (w.alloc (dj 11 R A B I n))
 have k:av ((cn rp rb b9 bY).J F s w/\Below w.heap.size w (w.alloc (dj 11 R A B I n))):=⟨h,H⟩
 have d:av (s.gc A I=if s.th A<0\/(s.T.getD (s.th A).toNat (0,[],false,false)).1=5 then 2 else if I<0\/((s.T.getD (s.th A).toNat (0,[],false,false)).2.1.length:Int)<=I then 1 else 0):=rfl;have f:av (s.gf A I=(s.T.getD (s.th A).toNat (0,[],false,false)).2.1.getD I.toNat (0,0)):=rfl;clear h H G;generalize s.gc A I=z at d⊢;generalize s.gf A I=fv at f⊢;have J:=fun w' (ab:(cn rp rb b9 bY).J F s w')=>oC ab A Y;generalize s.th A=a at*;go_enter func14,ntmps14;go_wp2_with fail;refine P.mono ?_;clear P;rintro e w1 ⟨rfl,p⟩
 have q:=k.o.2.trans (p.mono Z)
 have g:=(cn rp rb b9 bY).below k.o.1 q;have m:w1.heap[w.heap.size]?=some (dj 11 R A B I n):=(p.block _ Z).trans (aL _ _)
 have q0:w1.cell? (am w.heap.size 0)=some (ah 11):=ay m
 have q1:w1.cell? (am w.heap.size 1)=some (ah R):=ay m
 have aR:w1.cell? (am w.heap.size 2)=some (ah A):=ay m
 have aT:w1.cell? (am w.heap.size 4)=some (ah I):=ay m
 obtain⟨c1,_,_,aV,a0,ad,a1,K⟩:=e5 g;obtain⟨a2,a3,bb,y1⟩:=K R X;obtain⟨bd,ag,ai⟩:=lJ g;have lb:=(cn rp rb b9 bY).lt k.o.1 rb ag;have lp:=(cn rp rb b9 bY).lt k.o.1 rp ai;have gB:rb≠w.heap.size:=V;have be:rp≠w.heap.size:=V;obtain⟨bg,cT,t0,L,u⟩:=kj g;have f9:av ((cn rp rb b9 bY).J F s w1/\b_ F w F w1):=⟨g,b_.of q⟩
 have Q:=J w1 g;have r0:(0:Int)<=(R:Int):=V;have r1:(R:Int)<12:=V;clear g q p m K ad k J;go_wp2_with fail;refine Q.mono ?_;clear Q;rintro e bi ⟨rfl,v⟩
 have v:=v.symm;subst v;by_cases ha:a<0
 ·have hz:z=2:=by rw[d.o,aH (aJ ha)]
  clear u;exact qi
 ·obtain⟨j,rfl⟩:∃j:Nat,a=j:=⟨a.toNat,V⟩
  have al:j<s.T.length:=by have:=D V;omega
  obtain⟨t,ht⟩:∃t,s.T[j]?=some t:=⟨_,aG al⟩
  obtain⟨b,bl,cp,rfl,u0,ap,_,_,o,i⟩:=u j t ht;have ar:=E t (List.mem_of_getElem? ht)
  have M:s.T.getD (j:Int).toNat (0,[],false,false)=t:=by rw[Int.toNat_natCast,aC,ht];rfl
  rw[M] at d f;have bn:decide ((j:Int)<0)=false:=Z;have j0:(0:Int)<=(j:Int):=V;have bo:(j:Int)<(s.T.length:Int):=V;clear u ht M D E;obtain⟨kd,c,bp,br⟩:=t;dsimp only at u0 ap o ar d f i;by_cases hk:kd=5
  ·subst hk;have hz:z=2:=by rw[d.o,aH (aI rfl)]
   clear o i;exact qi
  ·have bs:(kd==5)=false:=by simpa using hk
   by_cases x:I<0\/(c.length:Int)<=I
   ·have hz:z=1:=by rw[d.o,aE V,aH x]
    by_cases bt:I<0
    ·clear o i;exact qi
    ·have bx:(c.length:Int)<=I:=V;clear o i;exact qi
   ·have hz:z=0:=by rw[d.o,aE V,aE x]
    obtain⟨l,rfl⟩:∃l:Nat,I=l:=⟨I.toNat,V⟩
    rw[Int.toNat_natCast] at f;obtain⟨fb,dh,ax,bZ,hc⟩:=o V;obtain⟨v0,v1⟩:=hc l V;subst ax;have aB:av (z=0):=hz;have C:av (fv=((c.getD l (0,0)).1,(c.getD l (0,0)).2)):=f.o;generalize (c.getD l (0,0)).1=g1 at v0 C;generalize (c.getD l (0,0)).2=g2 at v1 C;have l0:(0:Int)<=(l:Int):=V;have l1:(l:Int)<(c.length:Int):=V;have b0:¬(l:Int)<0:=V;have b1:¬(c.length:Int)<=(l:Int):=V;obtain⟨b2,aF,b3,N⟩:=L V;cases aF;obtain⟨O,b4,_⟩:=i fb dh V rfl;have O:=Ne.symm O;have N:=Ne.symm N;clear hc L hz d f x i;go_wp2_with fail
    go_region_held3 (fun w'=>w'.cell? (am rp 1)=some (.slice (ak rb) 12 12)/\w'.cell? (am w.heap.size 1)=some (ah R)/\w'.cell? (am rp 0)=some (.slice (ak b) s.T.length cT)/\w'.cell? (am b (j*4+1))=some (.slice (some ⟨fb,dh,none⟩) c.length cp)/\w'.cell? (am w.heap.size 4)=some (ah l)/\w'.cell? (am fb (dh+l*2))=some (ah g1)/\w'.cell? (am fb (dh+l*2+1))=some (ah g2)) (go_keep) (fail)
    obtain⟨S,U⟩:=kR f9.o.1 R (g1,g2)
    have W:av (_/\_):=⟨(cn rp rb b9 bY).below S bX.drew,(f9.o.2.trans U).below bX.drew⟩
    clear S U;go_wp2_with fail;go_ret
    try rw[aB.o]
    rw[C.o];exact⟨rfl,W.o.1,W.o.2⟩
theorem Ea (h:(cn rp rb b9 bY).J F s w)(A B:Nat)(b8:A<12)(hB:B<12)(I:Int)(aR:0<=s.th A->s.th A<s.T.length)(aT:∀t∈s.T,t.2.1.length<=12)(hl:s.T.length<=10000)(R n:Int)(aV:iJ 12 R A B I n):
 Calls prog 14 #[aj rp,gm 12 R A B I n] w fun e w'=>∃q,e=.returned (ah (s.gc A I))/\(cn rp rb b9 bY).J q (if s.gc A I=0 then {s with T:=s.qj A B I} else s) w'/\b_ F w q w':=by
 have a0:=an w (dj 12 R A B I n)
 have P:=aV (w.alloc (dj 12 R A B I n))
 have K:av ((cn rp rb b9 bY).J F s w/\Below w.heap.size w (w.alloc (dj 12 R A B I n))):=⟨h,a0⟩
 have g:av (s.gc A I=if s.th A<0\/(s.T.getD (s.th A).toNat (0,[],false,false)).1=5 then 2 else if I<0\/((s.T.getD (s.th A).toNat (0,[],false,false)).2.1.length:Int)<=I then 1 else 0):=rfl;have G:av (s.qj A B I=s.T.set (s.th A).toNat ((s.T.getD (s.th A).toNat (0,[],false,false)).1,(s.T.getD (s.th A).toNat (0,[],false,false)).2.1.set I.toNat (s.rs.getD B (0,0)),(s.T.getD (s.th A).toNat (0,[],false,false)).2.2)):=rfl;clear h a0 aV;generalize s.gc A I=z at g⊢;generalize s.qj A B I=fv at G⊢;have a1:=fun w' (ca:(cn rp rb b9 bY).J F s w')=>oC ca A b8;generalize s.th A=a at*;go_enter func14,ntmps14;go_wp2_with fail;refine P.mono ?_;clear P;rintro e w1 ⟨rfl,S⟩
 have U:=K.o.2.trans (S.mono Z)
 have H:=(cn rp rb b9 bY).below K.o.1 U;have i:w1.heap[w.heap.size]?=some (dj 12 R A B I n):=(S.block _ Z).trans (aL _ _)
 have q0:w1.cell? (am w.heap.size 0)=some (ah 12):=ay i
 have q3:w1.cell? (am w.heap.size 3)=some (ah B):=ay i
 have cO:w1.cell? (am w.heap.size 2)=some (ah A):=ay i
 have cb:w1.cell? (am w.heap.size 4)=some (ah I):=ay i
 obtain⟨c1,_,_,W,a2,cc,cP,a3⟩:=e5 H;obtain⟨bb,bd,cQ,y1⟩:=a3 B hB;obtain⟨cR,cd,cf⟩:=lJ H;have lb:=(cn rp rb b9 bY).lt K.o.1 rb cd;have lp:=(cn rp rb b9 bY).lt K.o.1 rp cf;have gB:rb≠w.heap.size:=V;have cS:rp≠w.heap.size:=V;obtain⟨cU,cT,t0,be,X⟩:=kj H;have f9:av ((cn rp rb b9 bY).J F s w1/\b_ F w F w1):=⟨H,b_.of U⟩
 have Q:=a1 w1 H;have r0:(0:Int)<=(B:Int):=V;have r1:(B:Int)<12:=V;clear H U S i a3 cc K a1;go_wp2_with fail;refine Q.mono ?_;clear Q;rintro e f ⟨rfl,Y⟩
 have Y:=Y.symm;subst Y;by_cases ha:a<0
 ·have hz:z=2:=by rw[g.o,aH (aJ ha)]
  clear X;exact nF
 ·obtain⟨j,rfl⟩:∃j:Nat,a=j:=⟨a.toNat,V⟩
  have cg:j<s.T.length:=by have:=aR V;omega
  obtain⟨t,ht⟩:∃t,s.T[j]?=some t:=⟨_,aG cg⟩
  obtain⟨b,cV,cp,rfl,u0,ab,_,_,J,L⟩:=X j t ht;have ch:=aT t (List.mem_of_getElem? ht)
  have bg:s.T.getD (j:Int).toNat (0,[],false,false)=t:=by rw[Int.toNat_natCast,aC,ht];rfl
  rw[bg] at g G;have cW:decide ((j:Int)<0)=false:=Z;have j0:(0:Int)<=(j:Int):=V;have cX:(j:Int)<(s.T.length:Int):=V;clear X bg aR aT;obtain⟨kd,d,ad,ag⟩:=t;dsimp only at u0 ab J ch g G L;by_cases hk:kd=5
  ·subst hk;have hz:z=2:=by rw[g.o,aH (aI rfl)]
   clear J L ht;exact nF
  ·have cY:(kd==5)=false:=by simpa using hk
   by_cases ai:I<0\/(d.length:Int)<=I
   ·have hz:z=1:=by rw[g.o,aE V,aH ai]
    by_cases cZ:I<0
    ·clear J L ht;exact nF
    ·have c0:(d.length:Int)<=I:=V;clear J L ht;exact nF
   ·have hz:z=0:=by rw[g.o,aE V,aE ai]
    obtain⟨l,rfl⟩:∃l:Nat,I=l:=⟨I.toNat,V⟩
    rw[Int.toNat_natCast] at G;have al:0<d.length:=V;obtain⟨fb,dh,ci,c2,hc⟩:=J al;subst ci;have cj:∀k u,(ev d)[k]?=some u->w1.cell? ((⟨fb,dh,none⟩:Addr).add k)=some u:=fun k u hk=>by
     have ck:k<(ev d).length:=(List.getElem?_eq_some_iff.1 hk).1;rw[jP] at ck;obtain⟨cl,cm⟩:=ol d (k/2) V;obtain⟨co,cq⟩:=hc (k/2) V;rw[Addr.add_lit];rcases Nat.mod_two_eq_zero_or_one k with hm|hm
     ·have eT:k=k/2*2:=V;rw[eT,cl] at hk;have ap:dh+k=dh+k/2*2:=V;rw[ap,co];exact hk
     ·have eT:k=k/2*2+1:=V;rw[eT,cm] at hk;have ap:dh+k=dh+k/2*2+1:=V;rw[ap,cq];exact hk
    have cr:∀u∈ev d,u.oneCell'=true:=fun u bi=>by simp[ev] at bi;obtain⟨a,b,_,h|h⟩:=bi<;>(rw[h];rfl)
    obtain⟨cs,ct,cu,cw,cx⟩:=info_parts mA;have cy:av (z=0):=hz;generalize bl:(s.rs.getD B (0,0)).1=g1 at bb;generalize bn:(s.rs.getD B (0,0)).2=g2 at bd;have cz:av (fv=s.T.set j (kd,d.set l (g1,g2),ad,ag)):=by show _=_;rw[G.o,<-bl,<-bn,Int.toNat_natCast]
    have l0:(0:Int)<=(l:Int):=V;have l1:(l:Int)<(d.length:Int):=V;have c3:¬(l:Int)<0:=V;have c4:¬(d.length:Int)<=(l:Int):=V;obtain⟨c5,cA,c6,c7⟩:=be V;cases cA;have cB:av (s.T[j]?=some (kd,d,ad,ag)):=ht;have cC:=aK w1 _ ab;clear hc be hz g G ai L bl bn J ht;have bo:w.heap.size<w1.heap.size:=aK w1 _ q0
    go_upto_region 63 with(at_builtin;refine je _ rfl _ _ 57 rfl w1.heap.size 77 cs (.agg #[ah 0,ah 0]) 2 16 underlying57 ct cu cw cx rfl aa (.slice none 0 0) 0 [] rfl (a7 _ _ _ _) (some ⟨fb,dh,none⟩) d.length cp (ev d) rfl (jP d) (fun e=>by simp at e) (fun a e k u hk=>by cases e;exact cj k u hk) cr (by unfold maxLen;omega) V bW ?_;intro c8 N f C bp br;rw[bF,List.nil_append] at C;obtain⟨nb,c9,cD⟩:=dW C al;cases cD;have O:av (nb=w1.heap.size):=(by show nb=w1.heap.size;rcases br with e|e<;>simp[Value.ownBlock] at e;exact e);have m:Below w1.heap.size w1 f:=bX.grown bp bW (fun _ h=>by cases h);have da:=(m.cell (p:=am w.heap.size 3) bo).trans q3;have db:=(m.cell (p:=am w.heap.size 4) bo).trans cb;have dc:=(m.cell (p:=am rp 1) W).trans c1;have dd:=(m.cell (p:=am rb (B*2)) a2).trans bb;have de:=(m.cell (p:=am rb (B*2+1)) a2).trans bd;have bs:=(m.cell (p:=am rp 0) W).trans t0;have df:=(ce C nb rfl).2)
    have ar:=fun o=>show f.frozen? (am nb o)=false from(by obtain⟨cE,ax⟩:=dZ C nb rfl;simp[World.frozen?,ax])
    have dg:=ar (l*2)
    have di:=ar (l*2+1)
    have dk:nb≠w.heap.size:=by have:=O.o;omega
    have dl:nb≠rp:=by have:=O.o;omega
    have dm:nb≠rb:=by have:=O.o;omega
    obtain⟨bt,bx,cF,_,bZ⟩:=gh C al;cases cF;obtain⟨b0,m1⟩:=bZ l V;rw[bF] at b0 m1;generalize (d.getD l (0,0)).1=dn at b0;generalize (d.getD l (0,0)).2=dp at m1;have aB:av (f.ownsRow w1.heap.size 77 2 (.slice (ak nb) d.length N) d.length (ev d)/\Below w1.heap.size w1 f):=⟨C,m⟩
    clear ar C bp br m bZ
    go_region_held3 (fun w'=>w'.cell? (am w.heap.size 3)=some (ah B)/\w'.cell? (am w.heap.size 4)=some (ah l)/\w'.cell? (am rp 1)=some (.slice (ak rb) 12 12)/\w'.cell? (am rb (B*2))=some (ah g1)/\w'.cell? (am rb (B*2+1))=some (ah g2)) (go_keep) (fail)
    have cG:=O.o;have cH:∀u v,((f.setCell ⟨nb,l*2,none⟩ u).setCell ⟨nb,l*2+1,none⟩ v).heap.size=f.heap.size:=fun u v=>by simp[World.setCell]
    have cI:∀u v k,k≠nb->((f.setCell ⟨nb,l*2,none⟩ u).setCell ⟨nb,l*2+1,none⟩ v).heap[k]?=f.heap[k]?:=fun u v k hk=>(aN _ _ _ _ hk).trans (aN _ _ _ _ hk)
    have M:=jq (jq aB.o.1 (l*2) (ah g1)) (l*2+1) (ah g2)
    rw[<-r4 d l (g1,g2)] at M;have D:Below w1.heap.size w1 ((f.setCell ⟨nb,l*2,none⟩ (.int .i64 g1)).setCell ⟨nb,l*2+1,none⟩ (.int .i64 g2)):=(aB.o.2.setCell (by show w1.heap.size<=nb;omega) _).setCell (by show w1.heap.size<=nb;omega) _;have M:=cv (w':=((f.setCell ⟨nb,l*2,none⟩ (.int .i64 g1)).setCell ⟨nb,l*2+1,none⟩ (.int .i64 g2)).drew) M (fun _ _=>rfl)
    have D:=D.drew;have bs:=(D.cell (p:=am rp 0) W).trans t0;have dq:=(D.cell (p:=am b (j*4+1)) cC).trans ab;have b1:=(cn rp rb b9 bY).below f9.o.1 D;have b2:=f9.o.2.below D;have dr:=D.size;have ds:=f9.o.2.fr.size;have cJ:=(cn rp rb b9 bY).lt f9.o.1;generalize ((f.setCell ⟨nb,l*2,none⟩ (.int .i64 g1)).setCell ⟨nb,l*2+1,none⟩ (.int .i64 g2)).drew=w3 at*;obtain⟨cK,cL,b3,b4,b5,_,_,_,b6⟩:=pT b1;obtain rfl:cL=.slice (ak b) s.T.length cT:=by have:=b4.symm.trans bs;simpa using this
    obtain⟨x,i,b7⟩:∃x,cK[j]?=some x/\x.1=(kd,d,ad,ag):=by have aF:=cB.o;rw[<-b3] at aF;simp at aF;obtain⟨a,b,c⟩:=aF;exact⟨_,c,rfl⟩
    obtain⟨s1,s2⟩:=b6 j x (ak nb) N (d.set l (g1,g2)) b i rfl (gh (by simpa using M)) (fun bt bx _ e=>by cases e;intro E;have:=cJ _ E;omega)
    rw[b7,aX] at s1;rw[aX] at s2;have dt:w3.frozen? (am b (j*4+1))=false:=by obtain⟨cE,ax⟩:=dZ b5 b rfl;simp[World.frozen?,ax]
    have cM:av (∃q,(cn rp rb b9 bY).J q {s with T:=fv} (w3.setCell ⟨b,j*4+1,none⟩ (.slice (some ⟨nb,0,none⟩) d.length N))/\b_ F w q (w3.setCell ⟨b,j*4+1,none⟩ (.slice (some ⟨nb,0,none⟩) d.length N))):=by
     rw[cz.o];refine⟨_,s1,⟨b2.fr.trans s2 (fun _ E=>aJ E),fun bt E=>?_⟩⟩
     rcases E with E|⟨_,bx,e⟩
     ·exact aJ E
     ·cases e;exact aI V
    clear M b1 b2 b6 b5 s1 s2 b3 i b7 aB cI cH b4 cG;go_wp2_with fail;go_ret;obtain⟨q,k1,cN⟩:=cM.o
    try rw[cy.o]
    exact⟨rfl,q,k1,cN⟩
end
theorem xJ {q:List bZ}{g:Int}{i:Nat}(hi:i<q.length)(e:(q.getD i (0,0)).1=g)(b:∀e∈q.take i,¬e.1=g):dR g q=i:=by
 unfold dR;rw[List.findIdx_eq hi];refine⟨?_,fun j c=>?_⟩
 ·rw[aC,aG hi] at e;simpa using e
 ·have:=b (q[j]'V) (by rw[List.mem_take_iff_getElem];exact⟨j,V,rfl⟩)
  simpa using this
theorem xK (z:Value)(n:Nat)(hz:z.cells.size=2):(Builtin.zeroCells z.cells n).size=n*2:=by rw[size_zeroCells,hz]
theorem Eb (w:au)(n:Nat)(k:n<=100000):
 Calls prog 188 #[.slice none 0 0,ah n] w fun e w'=>∃a1 c1,e=.returned (.slice a1 0 c1)/\w'.ownsRow w.heap.size 83 2 (.slice a1 0 c1) 0 []/\Below w.heap.size w w':=by
 obtain⟨c,hi,d,f,i⟩:=info_parts nf;rcases Nat.eq_zero_or_pos n with h0|h0
 ·subst h0;go_enter func188,ntmps188;go_wp2;go_ret;exact⟨none,0,rfl,a7 _ _ _ _,aD _ _⟩
 ·have hr:=Lib.run_append_nil_zeros (P:=prog) w 126 3 126 83 c _ .i64 .i64 underlying126 underlying3 hi d n h0 (by rw[f];decide) V (by rw[i];omega)
  have j:=grownCap_ge w n 0 83;have b:=grownCap_le_maxLen w n 0 83 (by unfold maxLen;omega)
  generalize grownCap w n 0 83=g at hr j b;have hown:(w.drew.alloc (.cells (Builtin.zeroCells (Value.agg #[.int .i64 0,.int .i64 0]).cells n++Builtin.zeroCells (Value.agg #[.int .i64 0,.int .i64 0]).cells (g-n)) 83)).ownsRow w.heap.size 83 2 (.slice (some ⟨w.heap.size,0,none⟩) 0 g) 0 []:=
   World.ownsRow_made w.drew _ g bW b (by rw[Array.size_append,xK _ _ rfl,xK _ _ rfl];omega)
  have hb:Below w.heap.size w (w.drew.alloc (.cells (Builtin.zeroCells (Value.agg #[.int .i64 0,.int .i64 0]).cells n++Builtin.zeroCells (Value.agg #[.int .i64 0,.int .i64 0]).cells (g-n)) 83)):=(aD _ w).drew.alloc bW _;go_enter func188,ntmps188;exact xI
theorem Ec (D:bZ->Prop)(f:Nat)(b c:Array Value)(p:bZ->Bool)(q:d3 f)(w:au)
 (hl:∀(w':au)(e:bZ),D e->w.heap.size<=w'.heap.size->(∀k,k<w.heap.size->w'.heap[k]?=w.heap[k]?)->Calls prog f (b.push (en e)++c) w' fun r v=>r=.returned (.bool (p e))/\Below w'.heap.size w' v)
 (l:List bZ)(s:Option Addr)(x:Nat)(hD:∀e∈l,D e)(hm:l.length<=100000)(hp:cY w s l):
 Calls prog 182 #[.slice s l.length x,.func (.func f) b c] w fun r w'=>Below w.heap.size w w'/\((r=.returned (ah (-1))/\∀e∈l,p e=false)\/∃i:Nat,r=.returned (ah i)/\i<l.length/\p (l.getD i (0,0))=true/\∀e∈l.take i,p e=false):=by
 have A:=hide hl;have B:=hide hp;have C:=hide hD;have J:∀(args:Array Value)(w:au),(callFunc f args).run prog w=.ok (.enter f args) w:=q;clear hl hp q hD;go_enter func182,ntmps182;go_wp2_with fail
 go_loopw [8] (fun iv wr=>∃j:Nat,j<=l.length/\iv=ah j/\av (∀e∈l.take j,p e=false)/\Below w.heap.size w wr) (fun iv _=>l.length-(intOf iv).toNat)
 case atStart=>exact⟨0,aS _,rfl,by simp[av,Hid],aD _ _⟩
 case round=>
  obtain⟨j,K,rfl,n,d⟩:=hrel;by_cases m:j<l.length
  ·obtain⟨L,M,E,N,hc⟩:=B.o.below d V;obtain⟨F,G⟩:=hc j m;have o:av (l.getD j (0,0)=((l.getD j (0,0)).1,(l.getD j (0,0)).2)):=rfl;have hd:D (l.getD j (0,0)):=C.o _ (by rw[aC,aG m];exact a6 m)
   have hd:D ((l.getD j (0,0)).1,(l.getD j (0,0)).2):=hd;obtain⟨g,hg⟩:∃g,g=(l.getD j (0,0)).1:=⟨_,rfl⟩
   obtain⟨z,hz⟩:∃z,z=(l.getD j (0,0)).2:=⟨_,rfl⟩
   rw[<-hg] at F hd o;rw[<-hz] at G hd o;clear hc hg hz;subst E;go_wp2_with fail;refine(A.o wr (g,z) hd d.size d.block).mono ?_;rintro r w1 ⟨rfl,t⟩
   have u:=d.trans (t.mono d.size)
   clear d t;cases hp:p (g,z)
   ·have H:av (∀e∈l.take (j+1),p e=false):=fun e he=>by
     rw[fz l j m (0,0),List.mem_append,bD] at he;rcases he with he|he
     ·exact n.o e he
     ·rw[he,o.o];exact hp
    clear hp;go_wp2_with fail;go_roundw;exact⟨j+1,V,af,H,u⟩
    simp[intOf];omega
   ·have I:av (p (l.getD j (0,0))=true):=by show _=_;rw[o.o];exact hp
    clear hp;go_wp2_with fail;go_ret;exact⟨u,aI ⟨j,rfl,m,I.o,n.o⟩⟩
  ·obtain rfl:j=l.length:=V;rw[a_] at n;go_wp2_with fail;go_ret;exact⟨d,aJ ⟨rfl,n.o⟩⟩
theorem Ed (w:au)(B:Nat)(l1 l2:List bZ)(g i:Addr)(c1 c2:Nat)(s:w.cell? (am B 0)=some (.slice (some g) l1.length c1))(C:w.cell? (am B 1)=some (.slice (some i) l2.length c2))(D:cY w (some g) l1)(E:cY w (some i) l2)(hm:l1.length+l2.length<=100000):
 Calls prog 184 #[.slice (ak B) 2 2] w fun e w'=>∃a c,e=.returned (.slice a (l1.length+l2.length) c)/\w'.ownsRow w.heap.size 83 2 (.slice a (l1.length+l2.length) c) (l1.length+l2.length) (ev (l1++l2))/\Below w.heap.size w w':=by
 obtain⟨t,hi,u,x,A⟩:=info_parts nf;have F:=hide D;have G:=hide E;have hB:=aK w _ s;go_enter func184,ntmps184;go_wp2
 go_loopw [3,11] (fun j iv wr=>wr=w/\((iv=ah 0/\j=ah 0)\/(iv=ah 1/\j=ah l1.length)\/(iv=ah 2/\j=ah (l1.length+l2.length:Nat)))) (fun _ iv _=>2-(intOf iv).toNat)
 exact⟨rfl,aJ ⟨rfl,rfl⟩⟩
 ·
   obtain⟨hw,⟨rfl,rfl⟩|⟨rfl,rfl⟩|⟨rfl,rfl⟩⟩:=hrel
   all_goals
    have hw:=hw.symm;subst hw
   ·go_wp2;go_roundw;exact⟨trivial,aI (aJ ⟨af,af⟩)⟩
    simp[intOf]
   ·go_wp2;go_roundw;exact⟨trivial,aI (aI ⟨af,af⟩)⟩
    simp[intOf]
   ·go_wp2_with fail;refine(Eb w (l1.length+l2.length) hm).mono ?_;rintro e w1 ⟨a1,H,rfl,d,b⟩
    go_wp2
    go_loopw [6,27] (fun l iv wk=>Below w.heap.size w wk/\((∃a c,iv=ah 0/\l=.slice a 0 c/\wk.ownsRow w.heap.size 83 2 (.slice a 0 c) 0 [])\/(∃a c,iv=ah 1/\l=.slice a l1.length c/\wk.ownsRow w.heap.size 83 2 (.slice a l1.length c) l1.length (ev l1))\/(∃a c,iv=ah 2/\l=.slice a (l1.length+l2.length) c/\wk.ownsRow w.heap.size 83 2 (.slice a (l1.length+l2.length) c) (l1.length+l2.length) (ev (l1++l2))))) (fun _ iv _=>2-(intOf iv).toNat)
    exact⟨b,aJ ⟨a1,H,rfl,rfl,d⟩⟩
    ·
      obtain⟨b,⟨a,c,rfl,rfl,d⟩|⟨a,c,rfl,rfl,d⟩|⟨a,c,rfl,rfl,d⟩⟩:=hrel
      ·have I:=(b.cell (p:=am B 0) hB).trans s;have hs:=b.size;go_wp2_with (at_builtin;refine wpList_append_own _ rfl _ _ 126 rfl w.heap.size 83 t (.agg #[ah 0,ah 0]) 2 16 underlying126 hi u x A rfl aa (.slice a 0 c) 0 [] rfl d g l1.length c1 (ev l1) rfl (jP l1) ((F.o.below b).cells g rfl) (iX l1) ?_ ?_ hs ?_;(unfold maxLen;omega);omega;intro v J f m _;rw[bF,List.nil_append] at f;obtain⟨a2,n,o⟩:=dQ f;subst o)
       have q:=b.grown m hs (fun k e=>(ce d k e.symm).1)
       go_wp2;go_roundw;exact⟨q,aI (aJ ⟨a2,n,af,rfl,f⟩)⟩
       simp[intOf]
      ·have I:=(b.cell (p:=am B 1) hB).trans C;have hs:=b.size;go_wp2_with (at_builtin;refine wpList_append_own _ rfl _ _ 126 rfl w.heap.size 83 t (.agg #[ah 0,ah 0]) 2 16 underlying126 hi u x A rfl aa (.slice a l1.length c) l1.length (ev l1) rfl d i l2.length c2 (ev l2) rfl (jP l2) ((G.o.below b).cells i rfl) (iX l2) ?_ ?_ hs ?_;(unfold maxLen;omega);omega;intro v J f m _;rw[<-kQ] at f;obtain⟨a2,n,o⟩:=dQ f;subst o)
       have q:=b.grown m hs (fun k e=>(ce d k e.symm).1)
       go_wp2;go_roundw;exact⟨q,aI (aI ⟨a2,n,af,rfl,f⟩)⟩
       simp[intOf]
      ·go_wp2;go_ret;exact⟨a,c,rfl,d,b⟩
structure gn (w:au)(p:Nat)(a0:Option Addr)(k0:Nat)(a1:Option Addr)(k1:Nat)(r q:List bZ):Prop where
 blk:w.heap[p]?=some (.cells #[.slice a0 r.length k0,.slice a1 q.length k1] 128 (0,0))
 r0:w.ownsRow 0 83 2 (.slice a0 r.length k0) r.length (ev r)
 q0:w.ownsRow 0 83 2 (.slice a1 q.length k1) q.length (ev q)
theorem nI {w:au}{base:Nat}{e:TypeId}{c:Option Addr}{d:Nat}{l:List bZ}(h:w.ownsRow base e 2 (.slice c l.length d) l.length (ev l)):it w c l d:=by
 refine⟨gh h,?_,?_⟩
 ·rcases h.2 with⟨b,h0⟩|⟨g,f,i,b,_,_,hc,_⟩
  ·omega
  ·simp at b;omega
 ·intro j;rcases h.2 with⟨b,h0⟩|⟨g,f,i,b,_⟩
  ·simp at b;exact⟨h0,b.2.2⟩
  ·rw[j] at b;simp at b
theorem gn.keep {w w':au}{p:Nat}{a0 a1:Option Addr}{k0 k1:Nat}{r q:List bZ}(h:gn w p a0 k0 a1 k1 r q)(b:w'.heap[p]?=w.heap[p]?)(c:∀k,some k=(Value.slice a0 r.length k0).ownBlock->w'.heap[k]?=w.heap[k]?)(d:∀k,some k=(Value.slice a1 q.length k1).ownBlock->w'.heap[k]?=w.heap[k]?):gn w' p a0 k0 a1 k1 r q:=
 ⟨b.trans h.blk,cv h.r0 c,cv h.q0 d⟩
theorem gn.below {w w':au}{p:Nat}{a0 a1:Option Addr}{k0 k1:Nat}{r q:List bZ}(h:gn w p a0 k0 a1 k1 r q)(b:Below w.heap.size w w'):gn w' p a0 k0 a1 k1 r q:=
 h.keep (b.block p (lt_of_some h.blk)) (fun k e=>b.block k (ce h.r0 k e).2) (fun k e=>b.block k (ce h.q0 k e).2)
theorem gn.np {w:au}{p:Nat}{a0 a1:Option Addr}{k0 k1:Nat}{r q:List bZ}(h:gn w p a0 k0 a1 k1 r q){b n:Nat}{v:Value}{l:List Value}(c:w.ownsRow b 83 2 v n l):∀k,some k=v.ownBlock->k≠p:=by intro k e d;obtain⟨f,hc⟩:=dZ c k e;rw[d,h.blk] at hc;simp at hc
def kB (n:Nat):Bool:=decide (24<=n)
theorem sW {n:Nat}(h:24<=n):kB n=true:=by simp[kB,h]
theorem sX {n:Nat}(h:¬24<=n):kB n=false:=by simp[kB,h]
theorem Ee {n0 n1:Nat}(h0:n0<=100000)(b:n1<=100000):av (decide ((24:Int)<=IntKind.i64.wrap ((n0:Int)+(n1:Int)))=kB (n0+n1)):=by
 show _=_;rw[show IntKind.i64.wrap ((n0:Int)+(n1:Int))=(n0:Int)+n1 by rw[bu];omega];unfold kB;by_cases h:24<=n0+n1
 ·rw[bm h,bm V]
 ·rw[bz h,bz V]
theorem xL (w:au)(p:Nat)(a0 a1:Option Addr)(n0 k0 n1 k1:Nat)(h:w.heap[p]?=some (.cells #[.slice a0 n0 k0,.slice a1 n1 k1] 128 (0,0)))(h0:n0<=100000)(b:n1<=100000):
 Calls prog 78 #[aj p] w fun e w'=>e=.returned (.bool (kB (n0+n1)))/\Below w.heap.size w w':=by
 have c0:w.cell? (am p 0)=some (.slice a0 n0 k0):=ay h
 have c1:w.cell? (am p 1)=some (.slice a1 n1 k1):=ay h
 clear h;have c:=Ee h0 b;go_enter func78,ntmps78;go_wp2_with fail
 go_region_held3 (fun w'=>w'.cell? (am p 0)=some (.slice a0 n0 k0)/\w'.cell? (am p 1)=some (.slice a1 n1 k1)) (go_keep) (fail)
 go_wp2_with fail;go_ret;exact⟨by rw[<-c.o];rfl,bX.drew⟩
theorem gn.cells {w:au}{p:Nat}{a0 a1:Option Addr}{k0 k1:Nat}{r q:List bZ}(h:gn w p a0 k0 a1 k1 r q):w.cell? (am p 0)=some (.slice a0 r.length k0)/\w.cell? (am p 1)=some (.slice a1 q.length k1)/\w.frozen? (am p 0)=false/\w.frozen? (am p 1)=false/\p<w.heap.size:=
 ⟨by simp[World.cell?,h.blk],by simp[World.cell?,h.blk],by simp[World.frozen?,h.blk],by simp[World.frozen?,h.blk],lt_of_some h.blk⟩
theorem Ef {w:au}{p:Nat}{x y v:Value}{T:TypeId}(h:w.heap[p]?=some (.cells #[x,y] T (0,0))):(w.setCell ⟨p,0,none⟩ v).heap[p]?=some (.cells #[v,y] T (0,0)):=by exact sB
theorem Eg {w:au}{p:Nat}{x y v:Value}{T:TypeId}(h:w.heap[p]?=some (.cells #[x,y] T (0,0))):(w.setCell ⟨p,1,none⟩ v).heap[p]?=some (.cells #[x,v] T (0,0)):=by exact sB
theorem Eh (w:au)(p:Nat)(a0 a1:Option Addr)(k0 k1:Nat)(r q:List bZ)(g z:Int)(h:gn w p a0 k0 a1 k1 r q)(h0:r.length<=90000)(C:q.length<=90000):
 Calls prog 32 #[aj p,.agg #[ah g,ah z]] w fun e w'=>e=.returned (.bool (!kB (r.length+q.length)))/\
  ((24<=r.length+q.length/\Below w.heap.size w w')\/(¬24<=r.length+q.length/\∃b1 c1,gn w' p (ak b1) c1 a1 k1 (r++[(g,z)]) q/\w.heap.size<=b1/\Fr (fun k=>k=p) w w')):=by
 obtain⟨c0,c1,t,D,lp⟩:=h.cells;have H:av (gn w p a0 k0 a1 k1 r q):=h;have f:=an w (.cells #[.int .i64 g,.int .i64 z] 83)
 have u:av (it w a0 r k0):=nI h.r0;by_cases c:24<=r.length+q.length
 ·rw[sW c];clear h;go_enter func32,ntmps32;go_wp2_with fail;refine(xL _ p a0 a1 r.length k0 q.length k1 ((f.block p lp).trans H.o.blk) V V).mono ?_;rintro e w1 ⟨rfl,b⟩
  rw[sW c];have d:=f.trans (b.mono Z)
  go_wp2_with fail;go_ret;exact⟨rfl,aJ ⟨c,d⟩⟩
 ·rw[sX c];clear h;go_enter func32,ntmps32;go_wp2_with fail;refine(xL _ p a0 a1 r.length k0 q.length k1 ((f.block p lp).trans H.o.blk) V V).mono ?_;rintro e w1 ⟨rfl,b⟩
  rw[sX c];have d:=f.trans (b.mono Z)
  have E:w.heap.size<w1.heap.size:=by have:=b.size;simp at this;omega
  have F:w1.cell? (am w.heap.size 0)=some (ah g):=(b.cell Z).trans Z;have y1:w1.cell? (am w.heap.size 1)=some (ah z):=(b.cell Z).trans Z;have v:=(d.cell (p:=am p 0) lp).trans c0;have x:=(d.frozen (p:=am p 0) lp).trans t;have n:p<w1.heap.size:=V;have A:=u.o.below d;clear b f;go_wp2_with fail
  go_region_with (go_at_call 79;refine(vJ _ a0 r k0 g z (A.below (bX.drew)) V).mono ?_;rintro e i ⟨b1,gj,rfl,l,m⟩;have G:=(m.cell (p:=am p 0) n).trans v;have I:=(m.frozen (p:=am p 0) n).trans x)
  all_goals
   go_wp2_with fail;go_ret;refine⟨rfl,aI ⟨c,b1,gj,?_⟩⟩
   have o:Below w.heap.size w i:=d.drew.trans (m.mono (by simp;omega))
   have lb:w1.heap.size<=b1:=(ce l b1 rfl).1;have j:=H.o.below o;have B:Fr (fun k=>k=p) w (i.setCell ⟨p,0,none⟩ (.slice (some ⟨b1,0,none⟩) (r.length+1) gj)):=(Fr.of o).set p 0 _ rfl;have s:∀k,k≠p->(i.setCell ⟨p,0,none⟩ (.slice (some ⟨b1,0,none⟩) (r.length+1) gj)).heap[k]?=i.heap[k]?:=fun k hk=>aN _ _ _ _ hk;refine⟨⟨by simpa using Ef j.blk,?_,cv j.q0 (fun k e=>s k (j.np j.q0 k e))⟩,V,B⟩
   have:=d7 (base':=0) (cv (w':=i.setCell ⟨p,0,none⟩ (.slice (some ⟨b1,0,none⟩) (r.length+1) gj)) l (fun k e=>s k (j.np l k e))) (fun _ _=>aS _)
   simpa using this
theorem xM (w:au)(B n1 b:Nat)(l1 l2:List bZ)(d f:Addr)(c1 c2:Nat)(g:l1.length=n1)(i:l2.length=b)(j:w.cell? (am B 0)=some (.slice (some d) n1 c1))(k:w.cell? (am B 1)=some (.slice (some f) b c2))(l:cY w (some d) l1)(n:cY w (some f) l2)(hm:n1+b<=100000):
 Calls prog 184 #[.slice (ak B) 2 2] w fun e w'=>∃a c m,e=.returned (.slice a m c)/\av (m=n1+b)/\av (w'.ownsRow w.heap.size 83 2 (.slice a m c) m (ev (l1++l2)))/\Below w.heap.size w w':=by
 subst g;subst i;refine(Ed w B l1 l2 d f c1 c2 j k l n hm).mono ?_;rintro e w' ⟨a,c,rfl,o,p⟩
 exact⟨a,c,_,rfl,rfl,o,p⟩
theorem cY.take {w:au}{c:Option Addr}{q:List bZ}(h:cY w c q)(i:Nat):cY w c (q.take i):=by
 intro hp;simp only [List.length_take] at hp;obtain⟨b,o,e,d,hc⟩:=h V;refine⟨b,o,e,d,fun j f=>?_⟩
 simp only [List.length_take] at f;have g:(q.take i).getD j (0,0)=q.getD j (0,0):=by rw[aC,aC,List.getElem?_take_of_lt V]
 rw[g];exact hc j V
theorem cY.drop {w:au}{b o:Nat}{q:List bZ}(h:cY w (some ⟨b,o,none⟩) q)(i:Nat):cY w (some ⟨b,o+i*2,none⟩) (q.drop i):=by
 intro hp;simp only [List.length_drop] at hp;obtain⟨g,k,e,c,hc⟩:=h V;cases e;refine⟨b,o+i*2,rfl,c,fun j d=>?_⟩
 simp only [List.length_drop] at d;have f:(q.drop i).getD j (0,0)=q.getD (i+j) (0,0):=by simp[List.getElem?_drop]
 rw[f,show o+i*2+j*2=o+(i+j)*2 by omega];exact hc (i+j) V
theorem Ei:d3 183:=gP func183 ae rfl
theorem Ej (w:au)(B:Nat)(g:Int)(e:bZ)(h:w.cell? (am B 0)=some (ah g)):
 Calls prog 183 #[en e,aj B] w fun r w'=>r=.returned (.bool (e.1==g))/\Below w.heap.size w w':=by
 obtain⟨x,y⟩:=e;have c:=aK w _ h;have b:=an w (.cells #[.int .i64 x,.int .i64 y] 83)
 ·go_wp2;go_ret;exact⟨Z,b⟩
theorem xN {w w1 b:au}{p m:Nat}{a0 c:Option Addr}{k0 k1 c5 i n:Nat}{r q:List bZ}(h:gn w p a0 k0 (ak m) k1 r q)(f:Below w.heap.size w w1)(o:Below w1.heap.size w1 b)(g:b.ownsRow w1.heap.size 83 2 (.slice c n c5) n (ev (q.take i++q.drop (i+1))))(hi:i<q.length)(s:n+1=q.length):
 gn (b.setCell ⟨p,1,none⟩ (.slice c n c5)) p a0 k0 c c5 r (q.take i++q.drop (i+1))/\(∀z,c=some z->w.heap.size<=z.block)/\Fr (fun k=>k=p) w (b.setCell ⟨p,1,none⟩ (.slice c n c5)):=by
 have j:=f.trans (o.mono f.size)
 have d:=h.below j;have hl:(q.take i++q.drop (i+1)).length=n:=by rw[aW,bf,List.length_drop];omega
 have l:∀k,k≠p->(b.setCell ⟨p,1,none⟩ (.slice c n c5)).heap[k]?=b.heap[k]?:=fun k hk=>aN _ _ _ _ hk;refine⟨⟨by rw[hl];exact Eg d.blk,cv d.r0 (fun k e=>l k (d.np d.r0 k e)),?_⟩,fun z e=>?_,(Fr.of j).set p 1 _ rfl⟩
 ·rw[hl];exact d7 (cv g (fun k e=>l k (d.np g k e))) (fun _ _=>aS _)
 ·have:=(ce g z.block (by rw[e];rfl)).1;have:=f.size;omega
theorem Ek (w:au)(p:Nat)(a0 a1:Option Addr)(k0 k1:Nat)(r q:List bZ)(g:Int)(h:gn w p a0 k0 a1 k1 r q)(ab:q.length<=90000):
 Calls prog 161 #[aj p,ah g] w fun e w'=>
  (e=.returned (.tuple #[ah 0,.bool false])/\(∀e∈q,¬e.1=g)/\Below w.heap.size w w')\/
  (∃(i:Nat)(b1:Option Addr)(c1:Nat),e=.returned (.tuple #[ah (q.getD i (0,0)).2,.bool true])/\i<q.length/\(q.getD i (0,0)).1=g/\(∀e∈q.take i,¬e.1=g)/\gn w' p a0 k0 b1 c1 r (q.take i++q.drop (i+1))/\(∀z,b1=some z->w.heap.size<=z.block)/\Fr (fun k=>k=p) w w'):=by
 obtain⟨c0,c1,M,ad,lp⟩:=h.cells;have H:av (gn w p a0 k0 a1 k1 r q):=h;have l:=an w (.cells #[.int .i64 g] 2)
 have y1:=(l.cell (p:=am p 1) lp).trans c1;have P:=Ec (fun _=>True) 183 #[] #[aj w.heap.size] (fun e=>e.1==g) Ei (w.alloc (.cells #[.int .i64 g] 2)) (fun w' e _ hs hk=>Ej w' w.heap.size g e ((aU (a:=⟨w.heap.size,0,none⟩) (hk _ Z)).trans Z)) q a1 k1 (fun _ _=>trivial) V ((gh h.q0).below l)
 clear h c0 M;go_enter func161,ntmps161;go_wp2_with fail;refine P.mono ?_;clear P;rintro e w1 ⟨o,⟨rfl,m⟩|⟨i,rfl,hi,ht,m⟩⟩
 ·have s:av (∀e∈q,¬e.1=g):=fun e he=>by simpa using m e he
  have f:=l.trans (o.mono Z)
  clear o m;go_wp2_with fail;go_ret2;exact aJ ⟨rfl,s.o,f⟩
 ·have s:av (∀e∈q.take i,¬e.1=g):=fun e he=>by simpa using m e he
  have G:av ((q.getD i (0,0)).1=g):=by show _=_;simpa using ht
  obtain⟨z,u⟩:∃z,av (z=(q.getD i (0,0)).2):=⟨_,rfl⟩
  have f:=l.trans (o.mono Z)
  have ag:=f.size;have j:=H.o.below f;obtain⟨ai,I,al,J,t⟩:=j.cells;have v:=nI j.q0;obtain⟨b,ap,K⟩:=dW j.q0 V;simp at K;obtain⟨rfl,rfl⟩:=K;have ar:=v.le;have N:k1<=maxLen:=by
   rcases j.q0.2 with⟨_,h0⟩|⟨g,ax,aB,O,_,_,_,hc,_⟩
   ·omega
   ·simp at O;omega
  unfold maxLen at N;obtain⟨aF,aR,Q,aT,hc⟩:=v.lp V;cases Q;have R:=(hc i hi).2;rw[bF,<-u.o] at R;have aV:(0:Int)<=(i:Int):=V;have a2:(i:Int)<(q.length:Int):=V;have a3:av (gn w1 p a0 k0 (ak b) k1 r q):=j;clear o m l hc j ht;have x:av (cY w1 (ak b) q):=v.lp;have L:av ((q.take i).length=i):=by show _=_;rw[bf];omega
  have bb:(i:Int)<=(k1:Int):=V;have bd:IntKind.i64.wrap ((i:Int)+1)=(i:Int)+1:=by rw[bu];omega
  have be:(0:Int)<=(i:Int)+1:=V;have bg:(i:Int)+1<=(q.length:Int):=V;have bi:((i:Int)+1).toNat=i+1:=V;have bl:(i:Int).toNat=i:=V;by_cases hk:i+1=k1
  ·subst hk;have hz:q.length-(i+1)=0:=V;have c:=(an w1 (.cells #[.slice (some ⟨b,0,none⟩) i (i+1),.slice (some ⟨b,0,none⟩) 0 0] 126)).drew;have A:av ((q.drop (i+1)).length=0):=by show _=_;rw[List.length_drop];omega
   have S:cY (w1.alloc (.cells #[.slice (some ⟨b,0,none⟩) i (i+1),.slice (some ⟨b,0,none⟩) 0 0] 126)).drew (ak b) (q.drop (i+1)):=fun h=>by rw[List.length_drop] at h;omega
   go_wp2_with fail
   go_region_with (go_at_call 184;refine(xM _ w1.heap.size i (0) (q.take i) (q.drop (i+1)) ⟨b,0,none⟩ ⟨b,0,none⟩ (i+1) (0) L.o A.o Z Z ((x.o.take i).below c) (S) V).mono ?_;rintro e B ⟨C,c5,U,rfl,D,n,d⟩;have W:=(d.cell (p:=am p 1) (by simp;omega)).trans ((c.cell (p:=am p 1) t).trans I);have X:=(d.frozen (p:=am p 1) (by simp;omega)).trans ((c.frozen (p:=am p 1) t).trans J))
   all_goals
    go_wp2_with fail;go_ret2;refine aI ⟨i,C,c5,by rw[<-u.o];rfl,hi,G.o,s.o,?_⟩
    have E:Below w1.heap.size w1 B:=c.trans (d.mono Z)
    exact xN H.o f E (d7 n.o (fun k e=>by have:=(ce n.o k e).1;simp at this;omega)) hi (by have:=D.o;omega)
  ·have bn:¬k1=i+1:=fun e=>hk e.symm;have c:=(an w1 (.cells #[.slice (some ⟨b,0,none⟩) i k1,.slice (some ⟨b,(i+1)*2,none⟩) (q.length-(i+1)) (k1-(i+1))] 126)).drew;have A:av ((q.drop (i+1)).length=q.length-(i+1)):=List.length_drop;have F:=(x.o.drop (i+1)).below c;rw[bF] at F;have Y:av (cY (w1.alloc (.cells #[.slice (some ⟨b,0,none⟩) i k1,.slice (some ⟨b,(i+1)*2,none⟩) (q.length-(i+1)) (k1-(i+1))] 126)).drew (some ⟨b,(i+1)*2,none⟩) (q.drop (i+1))):=F;clear F;go_wp2_with fail
   go_region_with (go_at_call 184;refine(xM _ w1.heap.size i (q.length-(i+1)) (q.take i) (q.drop (i+1)) ⟨b,0,none⟩ ⟨b,(i+1)*2,none⟩ k1 (k1-(i+1)) L.o A.o Z Z ((x.o.take i).below c) (Y.o) V).mono ?_;rintro e B ⟨C,c5,U,rfl,D,n,d⟩;have W:=(d.cell (p:=am p 1) (by simp;omega)).trans ((c.cell (p:=am p 1) t).trans I);have X:=(d.frozen (p:=am p 1) (by simp;omega)).trans ((c.frozen (p:=am p 1) t).trans J))
   all_goals
    go_wp2_with fail;go_ret2;refine aI ⟨i,C,c5,by rw[<-u.o];rfl,hi,G.o,s.o,?_⟩
    have E:Below w1.heap.size w1 B:=c.trans (d.mono Z)
    exact xN H.o f E (d7 n.o (fun k e=>by have:=(ce n.o k e).1;simp at this;omega)) hi (by have:=D.o;omega)
section
variable {rp rb:Nat}{b9 bY:Int}{F:Nat->Prop}{s:cj}{w:au}
theorem sY (h:(cn rp rb b9 bY).J F s w):∃f,w.cell? (am rp 3)=some f/\w.ownsRow 0 97 2 f s.wt.length (ev s.wt)/\(∀b,some b=f.ownBlock->b≠rp/\b≠rb)/\
 ∀(l:List bZ)(v1:Value)(w1:au),Below w.heap.size w w1->w1.ownsRow w.heap.size 97 2 v1 l.length (ev l)->
  (cn rp rb b9 bY).J (fun b=>F b\/some b=v1.ownBlock) {s with wt:=l} (w1.setCell ⟨rp,3,none⟩ v1)/\b_ F w (fun b=>F b\/some b=v1.ownBlock) (w1.setCell ⟨rp,3,none⟩ v1):=by
 obtain⟨own,m,A,v2,f,h,t⟩:=h;have q:=h.blk;refine⟨f,by simp[World.cell?,q],h.g3,fun b e=>⟨fun c=>?_,fun c=>?_⟩,fun l v1 w1 g k=>?_⟩
 ·have:=h.fX b e;rw[c,h.b1] at this
  omega
 ·have:=h.fX b e;rw[c,h.r1] at this
  omega
 have u:∀b,some b=v1.ownBlock->_=_:=fun b e=>Classical.byContradiction (fun c=>by have q1:=h.lt b c;have D:=(ce k b e).1;omega)
 have i:∀b j,own b=j->j≠0->(if some b=v1.ownBlock then 6 else own b)=j:=fun b j e h0=>by rw[aE (fun c=>by have:=u b c;omega)];exact e
 have sz:(w1.setCell ⟨rp,3,none⟩ v1).heap.size=w1.heap.size:=by simp[World.setCell]
 have hk:∀b,b<w.heap.size->own b≠1->(w1.setCell ⟨rp,3,none⟩ v1).heap[b]?=w.heap[b]?:=fun b n B=>(aN _ _ _ _ (fun e=>B (by have e:=e;rw[e];exact h.b1))).trans (g.block b n)
 have C:¬some rp=v1.ownBlock:=fun e=>by have:=u rp e;rw[h.b1] at this;omega
 refine⟨⟨fun b=>if some b=v1.ownBlock then 6 else own b,m,A,v2,v1,?_,fun b=>?_⟩,⟨?_,fun b e=>e.imp_right (fun e=>(ce k b e).1)⟩⟩
 ·exact {
   blk:=by simp only [World.setCell,Array.getElem?_modify,if_true,((g.block rp (lt_of_some q)).trans q),Option.map_some];simp
   b1:=i _ _ h.b1 aa
   row:=cv h.row (fun b e=>hk b (ce h.row b e).2 (by rw[h.ro b e];decide))
   ro:=fun b e=>i _ _ (h.ro b e) aa
   nd:=h.nd
   fl:=fun y hy=>by
    refine⟨(h.fl y hy).1.at (by rw[sz];exact g.size) (fun b o hp e=>?_),fun hp=>?_⟩
    ·obtain⟨v,x,d,p⟩:=(h.fl y hy).2 hp;rw[e] at d;cases d;exact hk _ (h.lt _ (by rw[p];decide)) (by rw[p];decide)
    ·obtain⟨v,x,d,p⟩:=(h.fl y hy).2 hp;exact⟨v,x,d,i _ _ p aa⟩
   rt:=(hk _ (lt_of_some h.rt) (by rw[h.r1];decide)).trans h.rt
   rl:=h.rl
   r1:=i _ _ h.r1 aa
   g2:=cv h.g2 (fun b e=>hk b (ce h.g2 b e).2 (by rw[h.fN b e];decide)),fN:=fun b e=>i _ _ (h.fN b e) aa
   g3:=d7 (cv k (fun b e=>aN _ _ _ _ (fun d=>C (by have d:b=rp:=d;rw[<-d];exact e)))) (fun _ _=>aS _)
   fX:=fun b e=>by rw[aH e]
   lt:=fun b n=>by
    rw[sz];by_cases c1:some b=v1.ownBlock
    ·exact(ce k b c1).2
    ·rw[aE c1] at n;exact aM (h.lt b n) g.size}
 ·by_cases c1:some b=v1.ownBlock
  ·simp[c1]
  ·simp[c1,t b]
 ·exact(Fr.of g).set rp 3 _ ((t rp).2 (by rw[h.b1];decide))
theorem El (h:(cn rp rb b9 bY).J F s w)(R A:Nat)(cb:R<12)(cc:A<12)(B I n:Int)(bg:iJ 10 R A B I n)(bi:0<=s.th A->s.th A<s.T.length)(cE:s.wt.length<=10000):
 Calls prog 14 #[aj rp,gm 10 R A B I n] w fun e w'=>∃bl,e=.returned (ah (if s.gd A<0 then 2 else if(dR (s.gd A) s.wt)<s.wt.length then 0 else 4))/\(cn rp rb b9 bY).J bl (if s.gd A<0 then s else if(dR (s.gd A) s.wt)<s.wt.length then {s with rs:=s.rs.set R (3,(s.wt.getD (dR (s.gd A) s.wt) (0,0)).2),wt:=s.wt.take (dR (s.gd A) s.wt)++s.wt.drop ((dR (s.gd A) s.wt)+1)} else s) w'/\b_ F w bl w':=by
 have bn:av (∀w',(cn rp rb b9 bY).J F s w'->Calls prog 45 #[aj rp,ah A] w' fun e cd=>e=.returned (ah (s.gd A))/\cd=w'):=fun w' cf=>wW cf A cc bi;obtain⟨z,v⟩:∃z:Int,av ((if s.gd A<0 then 2 else if(dR (s.gd A) s.wt)<s.wt.length then 0 else 4)=z):=⟨_,rfl⟩
 obtain⟨sz,C⟩:∃sz:cj,av ((if s.gd A<0 then s else if(dR (s.gd A) s.wt)<s.wt.length then {s with rs:=s.rs.set R (3,(s.wt.getD (dR (s.gd A) s.wt) (0,0)).2),wt:=s.wt.take (dR (s.gd A) s.wt)++s.wt.drop ((dR (s.gd A) s.wt)+1)} else s)=sz):=⟨_,rfl⟩
 rw[v.o,C.o];clear bi;generalize s.gd A=g at*;obtain⟨ab,ad,ag,ai,al⟩:=info_parts xG;have bo:=an w (dj 10 R A B I n)
 have P:=bg (w.alloc (dj 10 R A B I n))
 have M:av ((cn rp rb b9 bY).J F s w/\Below w.heap.size w (w.alloc (dj 10 R A B I n))):=⟨h,bo⟩
 clear h bo bg;go_enter func14,ntmps14;go_wp2_with fail;refine P.mono ?_;clear P;rintro e w1 ⟨rfl,aF⟩
 have aR:=M.o.2.trans (aF.mono Z)
 have D:=(cn rp rb b9 bY).below M.o.1 aR;have o:w1.heap[w.heap.size]?=some (dj 10 R A B I n):=(aF.block _ Z).trans (aL _ _)
 obtain⟨q0,q1,cg,q3,ch,ci⟩:=fT o;obtain⟨c1,_,_,cF,cG,ck,cH,bp⟩:=e5 D;obtain⟨cl,cm,N,y1⟩:=bp R cb;obtain⟨cI,co,cp⟩:=lJ D;have lb:=(cn rp rb b9 bY).lt M.o.1 rb co;have lp:=(cn rp rb b9 bY).lt M.o.1 rp cp;have gB:rb≠w.heap.size:=V;have cJ:rp≠w.heap.size:=V;have m:av ((cn rp rb b9 bY).J F s w1/\b_ F w F w1):=⟨D,b_.of aR⟩
 have r0:(0:Int)<=(R:Int):=V;have r1:(R:Int)<12:=V;have cK:w.heap.size<w1.heap.size:=lt_of_some o;obtain⟨cq,d,q,br,_⟩:=sY D;obtain⟨bs,c,ap⟩:=dQ q;subst ap;have bt:=bn.o w1 D;have ar:av (it w1 bs s.wt c/\∀b,some b=(Value.slice bs s.wt.length c).ownBlock->b≠rp/\b≠rb):=⟨nI q,br⟩
 clear D aR aF o bp ck M bn q br;go_wp2_with fail;refine bt.mono ?_;clear bt;rintro e cL ⟨rfl,aT⟩
 have aT:=aT.symm;subst aT;by_cases ha:g<0
 ·have E:av (2=z):=by have:=v.o;rwa [aH ha] at this
  have G:av (s=sz):=by have:=C.o;rwa [aH ha] at this
  go_wp2_with fail;go_ret;rw[<-E.o,<-G.o];exact⟨F,rfl,m.o.1,m.o.2⟩
 rw[aE ha] at v C;have cM:s.wt.length<=c:=ar.o.1.le;go_wp2_with fail
 go_loopw [10] (fun iv wr=>∃j:Nat,j<=s.wt.length/\iv=ah j/\w1=wr/\av (∀e∈s.wt.take j,¬e.1=g)) (fun iv _=>s.wt.length-(intOf iv).toNat)
 case atStart=>exact⟨0,aS _,rfl,rfl,fun e he=>by simp at he⟩
 case round=>
  obtain⟨j,cN,rfl,hw,O⟩:=hrel;subst hw;by_cases H:j<s.wt.length
  ·obtain⟨b3,cr,ap,cO,bx⟩:=ar.o.1.lp V;obtain rfl:cr=0:=by obtain⟨cP,b0,cs,_⟩:=sY m.o.1;rw[d] at b0;cases b0;obtain⟨cQ,cR,aV⟩:=dW cs V;rw[ap] at aV;simp at aV;exact aV.1.2
   subst ap;have ct:rb≠b3:=(ar.o.2 b3 rfl).2.symm;obtain⟨N,y1⟩:=bx j H;rw[bF] at N y1;have k0:(0:Int)<=(j:Int):=V;have k1:(j:Int)<(s.wt.length:Int):=V;have cu:av (s.wt.getD j (0,0)=s.wt.getD j (0,0)):=rfl;obtain⟨Q,f,hp⟩:∃Q f,s.wt.getD j (0,0)=(Q,f):=⟨_,_,rfl⟩
   have S:av (s.wt.getD j (0,0)=(Q,f)):=hp;rw[hp] at N y1;dsimp only at N y1;clear bx hp cu;by_cases he:Q=g
   ·subst he;have E:av (0=z):=by have hq:=xJ H (by rw[S.o]) O.o;have:=v.o;rwa [hq,aH H] at this
    have G:av ({s with rs:=s.rs.set R (3,f),wt:=s.wt.take j++s.wt.drop (j+1)}=sz):=by have hq:=xJ H (by rw[S.o]) O.o;have:=C.o;rwa [hq,aH H,S.o] at this
    clear O S ar v C;go_wp2_with fail
    go_region_held3 (fun w'=>w'.cell? (am rp 1)=some (.slice (ak rb) 12 12)/\w'.cell? (am w.heap.size 1)=some (ah R)/\w'.cell? (am rp 3)=some (.slice (ak b3) s.wt.length c)/\w'.cell? (am b3 (j*2+1))=some (ah f)) (go_keep) (fail)
    obtain⟨a0,a1⟩:=kR m.o.1 R (3,f)
    dsimp only at a0 a1;have ax:=(cn rp rb b9 bY).below a0 bX.drew;have b1:av (b_ F w F _):=(m.o.2.trans a1).below bX.drew;clear a0 a1 m d;generalize ((w1.setCell ⟨rb,R*2,none⟩ (.int .i64 3)).setCell ⟨rb,R*2+1,none⟩ (.int .i64 f)).drew=w3 at*;have J:=(e5 ax).2.2.2.1;have b2:=(e5 ax).2.2.2.2.2.1 3;have b6:w3.cell? (am rp 1)=some (.slice (ak rb) 12 12)/\w3.cell? (am w.heap.size 1)=some (ah R)/\w3.cell? (am rp 3)=some (.slice (ak b3) s.wt.length c)/\w3.cell? (am b3 (j*2+1))=some (ah f):=by assumption
    have hd:=b6.2.2.1;clear b6;obtain⟨cq,d,q,_,b7⟩:=sY ax;rw[hd] at d;cases d;have a2:=nI q;have cS:s.wt.length<=c:=a2.le;have cv:c<=maxLen:=by
     rcases q.2 with⟨_,h0⟩|⟨g,cT,cU,cw,_,_,_,hc,_⟩
     ·have h0:s.wt.length=0:=h0;omega
     ·simp at cw;omega
    unfold maxLen at cv;have b8:av (∀(l:List bZ)(v1:Value)(K:au),Below w3.heap.size w3 K->K.ownsRow w3.heap.size 97 2 v1 l.length (ev l)->(cn rp rb b9 bY).J (fun b=>F b\/some b=v1.ownBlock) {s with rs:=s.rs.set R (3,f),wt:=l} (K.setCell ⟨rp,3,none⟩ v1)/\b_ F w3 (fun b=>F b\/some b=v1.ownBlock) (K.setCell ⟨rp,3,none⟩ v1)):=b7;have a3:av (cY w3 (ak b3) s.wt):=a2.lp;have ca:av ((ev (s.wt.take j)).length=j*2):=by show _=_;rw[jP,bf,Nat.min_eq_left V]
    have bb:av ((ev (s.wt.drop (j+1))).length=(s.wt.length-(j+1))*2):=by show _=_;rw[jP,List.length_drop]
    have d:=hd;clear hd ct N y1 c1 q0 q1 cg q3 ch ci cl cm;have cV:j<=c:=V;have cW:j+1<=s.wt.length:=V;have cX:(j:Int)<=(c:Int):=V;have cZ:IntKind.i64.wrap ((j:Int)+1)=(j:Int)+1:=by rw[bu];omega
    have c0:(0:Int)<=(j:Int)+1:=V;have c2:(j:Int)+1<=(s.wt.length:Int):=V;have c3:((j:Int)+1).toNat=j+1:=V;have c6:(j:Int).toNat=j:=V;clear b7 q ax a2;by_cases hk:j+1=c
    ·subst hk;have hz:s.wt.length-(j+1)=0:=V;have c7:(j:Int)<=(j:Int)+1:=V;rw[hz] at bb;have cx:∀K,cY K (ak b3) (s.wt.drop (j+1)):=fun _ h=>by rw[List.length_drop] at h;omega
     go_wp2_with fail
     go_region_law (first
      |(have o:=t;refine p4 _ rfl (.tmp 214) (.tmp 221) 89 rfl w3.heap.size 97 ab (.agg #[ah 0,ah 0]) 2 16 underlying89 ad ag ai al rfl aa (.slice bd j c4) j (ev (s.wt.take j)) (by first|(simp[Act.eval];done)|(simp[Act.eval,Act.put];done)|(simp[Act.eval,u];done)) i (ak b3) 0 0 (ev (s.wt.drop (j+1))) (by first|(simp[Act.eval];done)|(simp[Act.eval,Act.put];done)|(simp[Act.eval,u];done)) bb.o (fun e=>by cases e) (cx aB).cells (iX _) (by unfold maxLen;omega) V b4.size ?_;intro be c5 U W X _;have b5:Below w3.heap.size w3 U:=b4.grown X b4.size (fun k e=>(ce i k e.symm).1);have cy:=(b5.cell (p:=am rp 3) J).trans d;have cz:=(b5.frozen (p:=am rp 3) J).trans b2)
      |(refine p4 _ rfl (.tmp 207) (.tmp 213) 89 rfl w3.heap.size 97 ab (.agg #[ah 0,ah 0]) 2 16 underlying89 ad ag ai al rfl aa (.slice none 0 0) 0 [] (by first|(simp[Act.eval];done)|(simp[Act.eval,Act.put];done)|(simp[Act.eval,u];done)) (a7 _ _ _ _) (ak b3) j (j+1) (ev (s.wt.take j)) (by first|(simp[Act.eval];done)|(simp[Act.eval,Act.put];done)|(simp[Act.eval,u];done)) ca.o (fun e=>by cases e) ((a3.o.take j).below (ao w3).drew).cells (iX _) (by unfold maxLen;omega) V bW ?_;intro bd c4 aB i t _;rw[bF,List.nil_append] at i;have b4:Below w3.heap.size w3 aB:=((ao w3).drew).grown t bW (fun k e=>by simp[Value.ownBlock] at e);have cA:=(b4.cell (p:=am rp 3) J).trans d))
     all_goals
      have hl:(s.wt.take j++s.wt.drop (j+1)).length=j+0:=by rw[aW,bf,List.length_drop];omega
      have Y:av (_/\_):=b8.o (s.wt.take j++s.wt.drop (j+1)) (.slice be (j+0) c5) U b5 (by rw[hl,kQ];exact W)
      clear i W t X b4 b5 hl;go_wp2_with fail;go_ret;rw[<-E.o,<-G.o];exact⟨_,rfl,Y.o.1,b1.o.trans Y.o.2⟩
    ·have c8:¬c=j+1:=fun e=>hk e.symm;have cB:av (cY w3 (some ⟨b3,(j+1)*2,none⟩) (s.wt.drop (j+1))):=by
      have:=a3.o.drop (j+1)
      rwa [bF] at this
     go_wp2_with fail
     go_region_law (first
      |(have o:=t;refine p4 _ rfl (.tmp 214) (.tmp 221) 89 rfl w3.heap.size 97 ab (.agg #[ah 0,ah 0]) 2 16 underlying89 ad ag ai al rfl aa (.slice bd j c4) j (ev (s.wt.take j)) (by first|(simp[Act.eval];done)|(simp[Act.eval,Act.put];done)|(simp[Act.eval,u];done)) i (some ⟨b3,(j+1)*2,none⟩) (s.wt.length-(j+1)) (c-(j+1)) (ev (s.wt.drop (j+1))) (by first|(simp[Act.eval];done)|(simp[Act.eval,Act.put];done)|(simp[Act.eval,u];done)) bb.o (fun e=>by cases e) (cB.o.below b4).cells (iX _) (by unfold maxLen;omega) V b4.size ?_;intro be c5 U W X _;have b5:Below w3.heap.size w3 U:=b4.grown X b4.size (fun k e=>(ce i k e.symm).1);have cy:=(b5.cell (p:=am rp 3) J).trans d;have cz:=(b5.frozen (p:=am rp 3) J).trans b2)
      |(refine p4 _ rfl (.tmp 207) (.tmp 213) 89 rfl w3.heap.size 97 ab (.agg #[ah 0,ah 0]) 2 16 underlying89 ad ag ai al rfl aa (.slice none 0 0) 0 [] (by first|(simp[Act.eval];done)|(simp[Act.eval,Act.put];done)|(simp[Act.eval,u];done)) (a7 _ _ _ _) (ak b3) j c (ev (s.wt.take j)) (by first|(simp[Act.eval];done)|(simp[Act.eval,Act.put];done)|(simp[Act.eval,u];done)) ca.o (fun e=>by cases e) ((a3.o.take j).below (ao w3).drew).cells (iX _) (by unfold maxLen;omega) V bW ?_;intro bd c4 aB i t _;rw[bF,List.nil_append] at i;have b4:Below w3.heap.size w3 aB:=((ao w3).drew).grown t bW (fun k e=>by simp[Value.ownBlock] at e);have cA:=(b4.cell (p:=am rp 3) J).trans d))
     all_goals
      have hl:(s.wt.take j++s.wt.drop (j+1)).length=j+(s.wt.length-(j+1)):=by rw[aW,bf,List.length_drop];omega
      have Y:av (_/\_):=b8.o (s.wt.take j++s.wt.drop (j+1)) (.slice be (j+(s.wt.length-(j+1))) c5) U b5 (by rw[hl,kQ];exact W)
      clear i W t X b4 b5 hl;go_wp2_with fail;go_ret;rw[<-E.o,<-G.o];exact⟨_,rfl,Y.o.1,b1.o.trans Y.o.2⟩
   ·have c9:(Q==g)=false:=by simpa using he
    have cC:av (∀e∈s.wt.take (j+1),¬e.1=g):=fun e L=>by
     rw[fz s.wt j H (0,0),List.mem_append,bD] at L;rcases L with L|L
     ·exact O.o e L
     ·rw[L,S.o];exact he
    clear he;go_wp2_with fail;go_roundw
    case rel=>exact⟨j+1,V,af,trivial,cC⟩
    case measure=>simp[intOf];omega
  ·obtain rfl:j=s.wt.length:=V;have hp:¬dR g s.wt<s.wt.length:=by
    unfold dR;rw[List.findIdx_lt_length];rintro⟨x,o,cD⟩
    have:=O.o;rw[a_] at this
    exact this x o (by simpa using cD)
   have E:av (4=z):=by have:=v.o;rwa [aE hp] at this
   have G:av (s=sz):=by have:=C.o;rwa [aE hp] at this
   clear hp;go_wp2_with fail;go_ret;rw[<-E.o,<-G.o];exact⟨F,rfl,m.o.1,m.o.2⟩
end
theorem sV (n:Int)(w:au):Calls prog 42 #[ah n] w fun e w'=>e=.returned (.agg #[ah 1,ah n])/\Below w.heap.size w w':=by
 have hg:=aL w (.cells #[.int .i64 1,.int .i64 n] 77)
 go_enter func42,ntmps42;go_wp2_with fail;have g0:(w.alloc (.cells #[.int .i64 1,.int .i64 n] 77)).cell? (am w.heap.size 0)=some (ah 1):=by unfold World.cell?;rw[hg];rfl
 have g1:(w.alloc (.cells #[.int .i64 1,.int .i64 n] 77)).cell? (am w.heap.size 1)=some (ah n):=by unfold World.cell?;rw[hg];rfl
 exact bv (v:=.agg #[ah 1,ah n]) (by simp[results,results42,go_sem,g0,g1]) rfl ⟨rfl,(an w (.cells #[.int .i64 1,.int .i64 n] 77))⟩
section
variable {rp rb:Nat}{b9 bY:Int}{F:Nat->Prop}{s:cj}{w:au}
theorem Em (h:(cn rp rb b9 bY).J F s w)(R A:Nat)(E:R<12)(ab:A<12)(B I n:Int)(G:iJ 13 R A B I n)(H:0<=s.th A->s.th A<s.T.length)(J:∀t∈s.T,t.2.1.length<=12):
 Calls prog 14 #[aj rp,gm 13 R A B I n] w fun e w'=>e=.returned (ah (if s.th A<0\/(s.T.getD (s.th A).toNat (0,[],false,false)).1=5 then 2 else 0))/\(cn rp rb b9 bY).J F (if s.th A<0\/(s.T.getD (s.th A).toNat (0,[],false,false)).1=5 then s else {s with rs:=s.rs.set R (1,((s.T.getD (s.th A).toNat (0,[],false,false)).2.1.length:Int))}) w'/\b_ F w F w':=by
 have K:av (∀w',(cn rp rb b9 bY).J F s w'->_):=fun w' ad=>oC ad A ab;obtain⟨z,c⟩:∃z:Int,av ((if s.th A<0\/(s.T.getD (s.th A).toNat (0,[],false,false)).1=5 then 2 else 0)=z):=⟨_,rfl⟩
 obtain⟨sz,d⟩:∃sz:cj,av ((if s.th A<0\/(s.T.getD (s.th A).toNat (0,[],false,false)).1=5 then s else {s with rs:=s.rs.set R (1,((s.T.getD (s.th A).toNat (0,[],false,false)).2.1.length:Int))})=sz):=⟨_,rfl⟩
 rw[c.o,d.o];generalize s.th A=a at*;have L:=an w (dj 13 R A B I n)
 have P:=G (w.alloc (dj 13 R A B I n))
 have i:av (_/\_):=⟨h,L⟩
 clear h L G;go_enter func14,ntmps14;go_wp2_with fail;refine P.mono ?_;clear P;rintro e w1 ⟨rfl,o⟩
 have q:=i.o.2.trans (o.mono Z)
 have f:=(cn rp rb b9 bY).below i.o.1 q;have u:w1.heap[w.heap.size]?=some (dj 13 R A B I n):=(o.block _ Z).trans (aL _ _)
 obtain⟨q0,q1,a2,q3,a3,bb⟩:=fT u;obtain⟨c1,_,_,bd,be,ag,bg,M⟩:=e5 f;obtain⟨ai,al,ap,y1⟩:=M R E;obtain⟨bi,ar,ax⟩:=lJ f;have lb:=(cn rp rb b9 bY).lt i.o.1 rb ar;have lp:=(cn rp rb b9 bY).lt i.o.1 rp ax;have gB:rb≠w.heap.size:=V;have bl:rp≠w.heap.size:=V;have g:av ((cn rp rb b9 bY).J F s w1/\b_ F w F w1):=⟨f,b_.of q⟩
 have r0:(0:Int)<=(R:Int):=V;have r1:(R:Int)<12:=V;obtain⟨bn,cT,t0,aB,v⟩:=kj f;have Q:=K.o w1 f;have aF:_:=lt_of_some u;clear f q o u M ag i K;go_wp2_with fail;refine Q.mono ?_;clear Q;rintro e bo ⟨rfl,x⟩
 have x:=x.symm;subst x;by_cases ha:a<0
 ·have k:av (2=z):=by have:=c.o;rwa [aH (aJ ha)] at this
  have l:av (s=sz):=by have:=d.o;rwa [aH (aJ ha)] at this
  clear v;go_wp2_with fail;go_ret;rw[<-k.o,<-l.o];exact⟨rfl,g.o.1,g.o.2⟩
 ·obtain⟨j,rfl⟩:∃j:Nat,a=j:=⟨a.toNat,V⟩
  have aR:j<s.T.length:=by have:=H V;omega
  obtain⟨t,ht⟩:∃t,s.T[j]?=some t:=⟨_,aG aR⟩
  obtain⟨b,bp,cp,rfl,u0,aT,_,_,aV,a0⟩:=v j t ht;have a1:=J t (List.mem_of_getElem? ht)
  have N:s.T.getD (j:Int).toNat (0,[],false,false)=t:=by rw[Int.toNat_natCast,aC,ht];rfl
  rw[N] at c d;have br:decide ((j:Int)<0)=false:=Z;have bs:¬(j:Int)<0:=V;have j0:(0:Int)<=(j:Int):=V;have bt:(j:Int)<(s.T.length:Int):=V;clear v ht N H J aV a0;obtain⟨kd,C,bx,bZ⟩:=t;dsimp only at u0 aT a1 c d;by_cases hk:kd=5
  ·subst hk;have k:av (2=z):=by have:=c.o;rwa [aH (aI rfl)] at this
   have l:av (s=sz):=by have:=d.o;rwa [aH (aI rfl)] at this
   go_wp2_with fail;go_ret;rw[<-k.o,<-l.o];exact⟨rfl,g.o.1,g.o.2⟩
  ·have b0:(kd==5)=false:=by simpa using hk
   have k:av (0=z):=by have:=c.o;rwa [aE V] at this
   have l:av ({s with rs:=s.rs.set R (1,(C.length:Int))}=sz):=by have:=d.o;rwa [aE V] at this
   have O:=sV (C.length:Int) w1.drew;clear aB;go_wp2_with fail
   go_region_held3 (fun w'=>w'.cell? (am rp 1)=some (.slice (ak rb) 12 12)/\w'.cell? (am w.heap.size 1)=some (ah R)) (go_keep) (first|(go_at_call 42;refine O.mono ?_;clear O;rintro e b1 ⟨rfl,S⟩;have m:_:=((ao w1).drew).trans S;have D:=(cn rp rb b9 bY).below g.o.1 m;have U:av (_/\_):=⟨D,g.o.2.below m⟩;obtain⟨g1,_,_,_,_,_,_,gr⟩:=e5 D;obtain⟨g2,g3,b2,g5⟩:=gr R E;have b3:=(m.cell (p:=am w.heap.size 1) aF).trans q1;clear S m D gr c1 q1 ai al ap y1))
   all_goals
    obtain⟨W,X⟩:=kR U.o.1 R (1,(C.length:Int))
    have Y:av (_/\_):=⟨W,U.o.2.trans X⟩
    clear W X;go_wp2_with fail;go_ret;rw[<-k.o,<-l.o];exact⟨rfl,Y.o.1,Y.o.2⟩
theorem Ep (h:(cn rp rb b9 bY).J F s w)(R A B:Nat)(hR:R<12)(t:A<12)(hB:B<12)(I n:Int)(o:iJ 14 R A B I n):
 Calls prog 14 #[aj rp,gm 14 R A B I n] w fun e w'=>e=.returned (ah 0)/\(cn rp rb b9 bY).J F {s with rs:=s.rs.set R (1,if s.rs.getD A (0,0)=s.rs.getD B (0,0) then 1 else 0)} w'/\b_ F w F w':=by
 obtain⟨g1,g2,hg⟩:∃g1 g2,s.rs.getD A (0,0)=(g1,g2):=⟨_,_,rfl⟩
 obtain⟨d,f,hp⟩:∃d f,s.rs.getD B (0,0)=(d,f):=⟨_,_,rfl⟩
 obtain⟨z,g⟩:∃z:Int,av ((if s.rs.getD A (0,0)=s.rs.getD B (0,0) then(1:Int) else 0)=z):=⟨_,rfl⟩
 rw[g.o];have q:=an w (dj 14 R A B I n)
 have P:=o (w.alloc (dj 14 R A B I n))
 have b:av (_/\_):=⟨h,q⟩
 clear h q o;go_enter func14,ntmps14;go_wp2_with fail;refine P.mono ?_;clear P;rintro e w1 ⟨rfl,k⟩
 have l:=b.o.2.trans (k.mono Z)
 have i:=(cn rp rb b9 bY).below b.o.1 l;have m:w1.heap[w.heap.size]?=some (dj 14 R A B I n):=(k.block _ Z).trans (aL _ _)
 obtain⟨q0,q1,q2,q3,q4,q5⟩:=fT m;obtain⟨c1,_,_,J,K,u,L,j⟩:=e5 i;obtain⟨v,x,C,y1⟩:=j R hR;obtain⟨M,D,G⟩:=lJ i;have lb:=(cn rp rb b9 bY).lt b.o.1 rb D;have lp:=(cn rp rb b9 bY).lt b.o.1 rp G;have gB:rb≠w.heap.size:=V;have N:rp≠w.heap.size:=V;have f9:av ((cn rp rb b9 bY).J F s w1/\b_ F w F w1):=⟨i,b_.of l⟩
 have r0:(0:Int)<=(R:Int):=V;have r1:(R:Int)<12:=V;obtain⟨u0,u1,_,_⟩:=j A t;obtain⟨v0,v1,_,_⟩:=j B hB;rw[hg] at u0 u1;rw[hp] at v0 v1;rw[hg,hp] at g;dsimp only at u0 u1 v0 v1;have a0:(0:Int)<=(A:Int):=V;have a1:(A:Int)<12:=V;have O:(0:Int)<=(B:Int):=V;have b1:(B:Int)<12:=V;have qh:_:=lt_of_some m;clear i l k m j u b hg hp v x C y1;by_cases he:g1=d/\g2=f
 ·obtain⟨rfl,rfl⟩:=he;have E:av (1=z):=by have:=g.o;rwa [aH rfl] at this
  go_wp2_with fail
  go_quiet (fail)
  have hbq:_:=below_drewN (ao w1) nq;have hJ3:=(cn rp rb b9 bY).below f9.o.1 hbq;have oQ:av (_/\_):=⟨hJ3,f9.o.2.below hbq⟩
  obtain⟨k1,_⟩:=e5 hJ3;have k2:=(hbq.cell (p:=am w.heap.size 1) qh).trans q1;have sU:_:=aM qh hbq.size;generalize w1.drewN nq=w3 at*;have oR:=sV 1 w3.drew;clear hbq hJ3 u0 u1 v0 v1 c1 q1 q2 q3 q0 q4 q5;go_wp2_with fail
  go_region_held3 (fun w'=>w'.cell? (am rp 1)=some (.slice (ak rb) 12 12)/\w'.cell? (am w.heap.size 1)=some (ah R)) (go_keep) (first|(go_at_call 42;refine oR.mono ?_;clear oR;rintro e w4 ⟨rfl,hb4⟩;have jR:_:=((ao w3).drew).trans hb4;have mL:=(cn rp rb b9 bY).below oQ.o.1 jR;have oS:av (_/\_):=⟨mL,oQ.o.2.below jR⟩;obtain⟨D8,_,_,_,_,_,_,gr⟩:=e5 mL;obtain⟨D9,g3,g4,g5⟩:=gr R hR;have g6:=(jR.cell (p:=am w.heap.size 1) sU).trans k2;clear hb4 jR mL gr k1 k2))
  all_goals
   obtain⟨hJ2,oT⟩:=kR oS.o.1 R (1,1)
   have HJ2:av (_/\_):=⟨hJ2,oS.o.2.trans oT⟩
   clear hJ2 oT;go_wp2_with fail;go_ret;rw[<-E.o];exact⟨rfl,HJ2.o.1,HJ2.o.2⟩
 ·have E:av (0=z):=by have:=g.o;rwa [aE (by simpa using he)] at this
  by_cases H:g1=d
  ·subst H;have Q:¬g2=f:=fun c=>he ⟨rfl,c⟩
   clear he;exact xH
  ·clear he;exact xH
end
structure nJ {σ:Type}(lk:σ->bZ->Bool×σ)(g:List Bool->List Bool)(pe:bZ->bZ)(R:List bZ)(ρ:σ->List Bool->List bZ->Prop):Prop where
 no:∀t L C e,ρ t L C->e∈R->cD L e.1=false->lk t (pe e)=(false,t)
 yes:∀t L C e,ρ t L C->e∈R->cD L e.1=true->(lk t (pe e)).1=true/\ρ (lk t (pe e)).2 (d4 g L e.2) (C++[e])
section
variable {σ:Type}{lk:σ->bZ->Bool×σ}{g:List Bool->List Bool}{pe:bZ->bZ}{R:List bZ}{ρ:σ->List Bool->List bZ->Prop}
theorem nJ.pass (h:nJ lk g pe R ρ):∀(l:List bZ)(t:σ)(L:List Bool)(C D A:List bZ),(∀e∈l,e∈R)->ρ t L C->
 ρ ((l.map pe).foldl (ej lk) (A,D.map pe,t)).2.2 (cg.pass cD (d4 g) l L C D).1 (cg.pass cD (d4 g) l L C D).2.1/\((l.map pe).foldl (ej lk) (A,D.map pe,t)).2.1=(cg.pass cD (d4 g) l L C D).2.2.map pe/\
 ((l.map pe).foldl (ej lk) (A,D.map pe,t)).1.length+C.length=A.length+(cg.pass cD (d4 g) l L C D).2.1.length
 |[],t,L,C,D,A,_,b=>⟨b,rfl,rfl⟩
 |e::l,t,L,C,D,A,hl,b=>by
  have he:=hl e Z;rw[List.map_cons,a8];cases c:cD L e.1
  ·have d:ej lk (A,D.map pe,t) (pe e)=(A,(D++[e]).map pe,t):=by unfold ej;rw[h.no t L C e b he c,bA];rfl
   rw[d,cg.pass,c,aE Z];exact h.pass l t L C (D++[e]) A (fun x f=>hl x (aO _ f)) b
  ·obtain⟨y1,i⟩:=h.yes t L C e b he c;have d:ej lk (A,D.map pe,t) (pe e)=(A++[pe e],D.map pe,(lk t (pe e)).2):=by unfold ej;rw[aH y1]
   rw[d,cg.pass,c,aH rfl];obtain⟨j,k,m⟩:=h.pass l _ _ _ D _ (fun x f=>hl x (aO _ f)) i;refine⟨j,k,?_⟩
   simp only [List.length_append,List.length_cons,List.length_nil] at m;omega
theorem sZ {σ:Type}(is:σ->Int->Bool)(kp:σ->Int->σ)(e:bZ):∀(l:List bZ)(s:σ)(C D:List bZ),e∈(cg.pass is kp l s C D).2.2->e∈D\/e∈l
 |[],_,_,_,h=>aJ h
 |x::l,s,C,D,h=>by
  rw[cg.pass] at h;split at h
  ·exact(sZ is kp e l _ _ _ h).imp id (aO _)
  ·rcases sZ is kp e l _ _ _ h with b|b
   ·rcases List.mem_append.1 b with b|b
    ·exact aJ b
    ·exact aI (by rw[List.mem_singleton.1 b];simp)
   ·exact aI (aO _ b)
theorem xO {σ:Type}(is:σ->Int->Bool)(kp:σ->Int->σ)(l:List bZ)(s:σ)(C:List bZ)(e:bZ)(h:e∈(cg.pass is kp l s C []).2.2):e∈l:=
 (sZ is kp e l s C [] h).resolve_left Z
theorem nJ.turns (h:nJ lk g pe R ρ):∀(n:Nat)(D:List bZ)(t:σ)(L:List Bool)(C:List bZ),(∀e∈D,e∈R)->ρ t L C->
 ρ (eD lk n t (D.map pe)).1 (cg.turns cD (d4 g) n D L C).1 (cg.turns cD (d4 g) n D L C).2.1/\(eD lk n t (D.map pe)).2=(cg.turns cD (d4 g) n D L C).2.2.map pe
 |0,D,t,L,C,_,f=>⟨f,rfl⟩
 |n+1,D,t,L,C,hD,f=>by
  obtain⟨b,d,i⟩:=h.pass D t L C [] [] hD f;have b:=b;have d:(pts lk t (D.map pe)).2.1=(cg.pass cD (d4 g) D L C []).2.2.map pe:=d;have i:(pts lk t (D.map pe)).1.length+C.length=0+(cg.pass cD (d4 g) D L C []).2.1.length:=i;by_cases c:(pts lk t (D.map pe)).1.length=0
  ·rw[lN _ _ _ _ c,uZ V];exact⟨b,d⟩
  ·rw[lO _ _ _ _ c,uY V,d];exact h.turns n _ _ _ _ (fun e he=>hD e (xO _ _ D L C e he)) b
end
theorem s3 {d:Type}(lk:d->bZ->Bool×d):∀(n k:Nat)(t:d)(b:List bZ),b.length<n->b.length<k->eD lk n t b=eD lk k t b
 |0,_,_,_,h,_=>absurd h V
 |_+1,0,_,_,_,h=>absurd h V
 |n+1,k+1,t,b,e,f=>by
  have hl:=om lk t b;by_cases c:(pts lk t b).1.length=0
  ·rw[lN _ _ _ _ c,lN _ _ _ _ c]
  ·rw[lO _ _ _ _ c,lO _ _ _ _ c];exact s3 lk n k _ _ V V
theorem kY {b d:Type}(f:b->d)(p:d->Bool)(q:b->Bool):∀l:List b,(∀x∈l,p (f x)=q x)->(l.map f).filter p=(l.filter q).map f
 |[],_=>rfl
 |x::l,h=>by
  have e:=kY f p q l (fun y hy=>h y (aO _ hy))
  have g:=h x Z;rw[List.map_cons];cases c:q x
  ·rw[List.filter_cons_of_neg (by rw[g,c];simp),List.filter_cons_of_neg (by rw[c];simp),e]
  ·rw[List.filter_cons_of_pos (by rw[g,c]),List.filter_cons_of_pos c,List.map_cons,e]
def dI (v:Int×Int):Int:=ew v.1 v.2
def eV (T:List cG)(v:Int×Int):Prop:=vc v.1 v.2=0/\(v.1=3->0<=v.2/\cH T v.2.toNat)
theorem eV.lt {T:List cG}{v:Int×Int}(h:eV T v)(b:v.1=3):0<=v.2/\v.2<T.length:=by obtain⟨h0,c⟩:=h.2 b;have:=c.1;exact⟨h0,V⟩
def tI (n:Nat):List Int:=(List.range n).map (fun i:Nat=>(i:Int))
theorem oU {n:Nat}{a:Int}:a∈tI n↔0<=a/\a<n:=by
 unfold tI;simp only [List.mem_map,List.mem_range];constructor
 ·rintro⟨i,hi,e⟩
  omega
 ·rintro⟨h0,b⟩
  exact⟨a.toNat,V,V⟩
theorem jU (n:Nat):(tI n).length=n:=by simp[tI]
def fI (T:List cG)(a:Int):Int:=(T.getD a.toNat t0).1
def fJ (T:List cG)(wt:List bZ)(a:Int):List Int:=((T.getD a.toNat t0).2.1.map dI)++(if(T.getD a.toNat t0).1=5 then(wt.filter (fun e=>e.1==a)).map (fun e=>ew 3 e.2) else[])
structure nK (T:List cG)(wt:List bZ):Prop where
 fv:∀i,cH T i->∀v∈(T.getD i t0).2.1,eV T v
 wv:∀e∈wt,0<=e.1/\0<=e.2/\cH T e.2.toNat
 tl:∀i,(T.getD i t0).2.1.length<=12
 l1:T.length<=10000
 l2:wt.length<=10000
section
variable {T:List cG}{M:cL->Int->cL}{s:cL}{v:Int×Int}
theorem mM (h:eV T v):dk (dI v)=v.1/\dv (dI v)=v.2:=(pJ _ _ h.1).2
theorem xP (h:eV T v)(b:v.1≠3):dr M (tI T.length) s (dI v)=(v,s):=by unfold dr;rw[(mM h).1,(mM h).2,aE b]
theorem xQ (h:eV T v)(b:v.1=3)(hs:s.1.contains v.2=true):dr M (tI T.length) s (dI v)=((3,(s.1.idxOf v.2:Int)),s):=by unfold dr;rw[(mM h).1,(mM h).2,aH b,aH (List.contains_iff_mem.2 (oU.2 (h.lt b))),aH hs]
theorem Er (h:eV T v)(b:v.1=3)(hs:s.1.contains v.2=false):dr M (tI T.length) s (dI v)=((3,(s.1.length:Int)),M s v.2):=by unfold dr;rw[(mM h).1,(mM h).2,aH b,aH (List.contains_iff_mem.2 (oU.2 (h.lt b))),aE (by rw[hs];simp)]
end
def eR.e_ (T:List cG)(wt:List bZ)(l:List (Int×Int)):List (Int×Int)×cL:=c_ (met (tI T.length) (fI T) (fJ T wt) T.length) (tI T.length) ([],[]) (l.map dI)
end Go.Proofs.YtjpjpjemibgjpaaGreat
