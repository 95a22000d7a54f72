import Derived.Test.YtpkjkjhanlbcoaaGreatJ20
namespace Go.Proofs.YtpkjkjhanlbcoaaGreat
set_option maxRecDepth 100000
set_option maxHeartbeats 4000000
open Tryz
open Go.RowKit W Kp ck
theorem JP {R A B n:Int}(h:d4 5 R A B n=0):0<=n/\n<=12:=by
 have b:h9 5 n=0:=by
  unfold d4 at h;rw[aI ae] at h;split at h
  ·omega
  ·exact h
 unfold h9 at b;rw[aI ae,aK rfl] at b;unfold hc at b
 ·split at b<;>omega
section
variable {b9 rb:Nat}{ch b_:Int}{F:Nat->Prop}{s:cn}{w:az}{g:eM}
theorem JQ (h:(cE b9 ch b_ rb).J F s w)(hv:fQ s)(c:dL s.T s.wt (g s.T s.wt))(g0:-1000000<=b_)(g1:b_<=1000000)(d:-1000000<=ch)(m1:ch<=1000000)(k R A B I n:Int)(hk:d4 k R A B n=0)(l:k≠9)(o:k≠12)(p:k≠15)(e16:k≠16):
 Calls prog 136 #[aq b9,d5 k R A B I n] w fun e w'=>∃f,e=.returned (.tuple #[.agg #[ak (s.rt g ch b_ k A.toNat B.toNat I n).1.1,ak (s.rt g ch b_ k A.toNat B.toNat I n).1.2],ak (s.rt g ch b_ k A.toNat B.toNat I n).2.1])/\(cE b9 ch b_ rb).J f (s.rt g ch b_ k A.toNat B.toNat I n).2.2 w'/\cg F w f w':=by
 have two:∀k,di k=7->d4 k R A B n=0->∃a b:Nat,A=a/\B=b/\a<12/\b<12:=fun k i hc=>by
  have q:=lI hc (aL (aL i))
  have v:=me hc (aL i)
  exact⟨A.toNat,B.toNat,aa,aa,aa,aa⟩
 have one:∀k,di k=3->d4 k R A B n=0->∃a:Nat,A=a/\a<12:=fun k i hc=>by
  have q:=lI hc (aM i)
  exact⟨A.toNat,aa,aa⟩
 have low:∀(t:(Int×Int)×Int×cn),t.2.2=s->∀(e:Ending)(w':az),(e=.returned (.tuple #[.agg #[ak t.1.1,ak t.1.2],ak t.2.1])/\Below w.heap.size w w')->∃f,e=.returned (.tuple #[.agg #[ak t.1.1,ak t.1.2],ak t.2.1])/\(cE b9 ch b_ rb).J f t.2.2 w'/\cg F w f w':=by
  rintro t u e w' ⟨rfl,hb⟩
  rw[u];exact⟨F,rfl,(cE b9 ch b_ rb).below h hb,cg.of hb⟩
 have no:(k<1\/16<k)->False:=fun j=>by unfold d4 at hk;rw[aK (qK j)] at hk;omega
 rcases qJ k with rfl|rfl|rfl|rfl|rfl|rfl|rfl|rfl|rfl|rfl|rfl|rfl|rfl|rfl|rfl|rfl|j
 ·have e:s.rt g ch b_ 1 A.toNat B.toNat I n=((1,n),0,s):=by simp[cn.rt]
  rw[e];exact(JJ h R A B I n).mono (low ((1,n),0,s) rfl)
 ·have e:s.rt g ch b_ 2 A.toNat B.toNat I n=((0,0),0,s):=by simp[cn.rt]
  rw[e];exact(JK h R A B I n).mono (low ((0,0),0,s) rfl)
 ·obtain⟨a,rfl,ha⟩:=one 3 ae hk;have e:s.rt g ch b_ 3 (a:Int).toNat B.toNat I n=(s.rs.getD a (0,0),0,s):=by simp[cn.rt]
  rw[e];exact(JM h R B I n a ha).mono (low (s.rs.getD a (0,0),0,s) rfl)
 ·obtain⟨a,b,rfl,rfl,ha,hb⟩:=two 4 ae hk;have e:s.rt g ch b_ 4 (a:Int).toNat (b:Int).toNat I n=s.b_ g ch b_ 1 [s.rs.getD a (0,0),s.rs.getD b (0,0)]:=by simp[cn.rt]
  rw[e];exact uU h hv c g0 g1 d m1 R I n (aM ⟨rfl,rfl⟩) a b ha hb
 ·obtain⟨a,rfl,ha⟩:=one 5 ae hk;have hn:=JP hk;obtain⟨m,rfl⟩:=Int.eq_ofNat_of_zero_le hn.1;have e:s.rt g ch b_ 5 (a:Int).toNat B.toNat I m=s.b_ g ch b_ 2 (List.replicate m (s.rs.getD a (0,0))):=by simp[cn.rt]
  rw[e];exact JO h hv c g0 g1 d m1 R B I a m ha aa
 ·obtain⟨a,b,rfl,rfl,ha,hb⟩:=two 6 ae hk;have e:s.rt g ch b_ 6 (a:Int).toNat (b:Int).toNat I n=s.b_ g ch b_ 3 [s.rs.getD a (0,0),s.rs.getD b (0,0)]:=by simp[cn.rt]
  rw[e];exact uU h hv c g0 g1 d m1 R I n (aL (aM ⟨rfl,rfl⟩)) a b ha hb
 ·obtain⟨a,b,rfl,rfl,ha,hb⟩:=two 7 ae hk;have e:s.rt g ch b_ 7 (a:Int).toNat (b:Int).toNat I n=s.b_ g ch b_ 4 [s.rs.getD a (0,0),s.rs.getD b (0,0)]:=by simp[cn.rt]
  rw[e];exact uU h hv c g0 g1 d m1 R I n (aL (aL ⟨rfl,rfl⟩)) a b ha hb
 ·have e:s.rt g ch b_ 8 A.toNat B.toNat I n=s.b_ g ch b_ 5 []:=by simp[cn.rt]
  rw[e];exact JL h hv c g0 g1 d m1 R A B I n
 ·exact absurd rfl l
 ·obtain⟨a,rfl,ha⟩:=one 10 ae hk;have e:s.rt g ch b_ 10 (a:Int).toNat B.toNat I n=s.pop (s.rs.getD a (0,0)):=by simp[cn.rt]
  rw[e];exact JF h hv R B I n a ha
 ·obtain⟨a,rfl,ha⟩:=one 11 ae hk;have e:s.rt g ch b_ 11 (a:Int).toNat B.toNat I n=s.gt (s.rs.getD a (0,0)) I:=by simp[cn.rt,cn.gt]
  rw[e];exact JG h hv R B I n a ha
 ·exact absurd rfl o
 ·obtain⟨a,rfl,ha⟩:=one 13 ae hk;have e:s.rt g ch b_ 13 (a:Int).toNat B.toNat I n=s.ln (s.rs.getD a (0,0)):=by simp[cn.rt,cn.ln]
  rw[e];exact JH h hv R B I n a ha
 ·obtain⟨a,b,rfl,rfl,ha,hb⟩:=two 14 ae hk;have e:s.rt g ch b_ 14 (a:Int).toNat (b:Int).toNat I n=((1,if s.rs.getD a (0,0)=s.rs.getD b (0,0) then 1 else 0),0,s):=by simp[cn.rt]
  rw[e];exact(JN h R I n a b ha hb).mono (low ((1,if s.rs.getD a (0,0)=s.rs.getD b (0,0) then 1 else 0),0,s) rfl)
 ·exact absurd rfl p
 ·exact absurd rfl e16
 ·exact(no j).elim
end
section
variable {b9 rb:Nat}{ch b_:Int}{F:Nat->Prop}{w:az}
theorem JR (k R A B I n:Int)(hc:d4 k R A B n≠0):
 Calls prog 68 #[aq b9,d5 k R A B I n] w fun e w'=>e=.returned (ak (d4 k R A B n))/\Below w.heap.size w w':=by
 have c:=jF k R A B I n (w.alloc (cG k R A B I n))
 have b:=hide (aw w (cG k R A B I n))
 go_enter func68,ntmps68;go_wp2_with fail;refine c.mono ?_;rintro e w1 ⟨rfl,d⟩
 have f:=b.o.trans (d.mono b.o.size)
 go_wp2_with fail;go_ret;exact⟨rfl,f⟩
theorem A2 (k R A B I n:Int)(hk:k=15\/k=16)(hc:d4 k R A B n=0)(cd:Int)(d:cn)
 (v:k=15->∀w',Below w.heap.size w w'->Calls prog 134 #[aq b9] w' fun e b=>∃F2,e=.returned (ak cd)/\(cE b9 ch b_ rb).J F2 d b/\cg F w' F2 b)(x:k=16->∀w',Below w.heap.size w w'->Calls prog 135 #[aq b9] w' fun e b=>∃F2,e=.returned (ak cd)/\(cE b9 ch b_ rb).J F2 d b/\cg F w' F2 b):
 Calls prog 68 #[aq b9,d5 k R A B I n] w fun e w'=>∃p,e=.returned (ak cd)/\(cE b9 ch b_ rb).J p d w'/\cg F w p w':=by
 have q:=aw w (cG k R A B I n)
 have s:=aP w (.cells #[.int .i64 k,.int .i64 R,.int .i64 A,.int .i64 B,.int .i64 I,.int .i64 n] 44)
 have f:=jF k R A B I n (w.alloc (cG k R A B I n))
 rw[hc] at f;have t:aA (∀w1,Below (w.alloc (cG k R A B I n)).heap.size (w.alloc (cG k R A B I n)) w1->_/\w1.heap[w.heap.size]?=some (cG k R A B I n)):=fun w1 hb=>⟨q.trans (hb.mono q.size),(hb.block _ (lt_of_some s)).trans s⟩
 rcases hk with rfl|rfl
 ·have g:aA (_):=v rfl;go_enter func68,ntmps68;go_wp2_with fail;refine f.mono ?_;rintro e w1 ⟨rfl,i⟩
  obtain⟨c,j⟩:=t.o w1 i;obtain⟨q0,q1,N,q3,S,W⟩:=el j;have P:=g.o w1 c;have l:aA (cg F w F w1):=cg.of c;go_wp2_with fail;refine P.mono ?_;rintro e u ⟨F2,rfl,m,o⟩
  have HF:aA (_/\cg F w F2 u):=⟨m,l.o.trans o⟩
  exact nu
 ·have g:aA (_):=x rfl;go_enter func68,ntmps68;go_wp2_with fail;refine f.mono ?_;rintro e w1 ⟨rfl,i⟩
  obtain⟨c,j⟩:=t.o w1 i;obtain⟨q0,q1,N,q3,S,W⟩:=el j;have P:=g.o w1 c;have l:aA (cg F w F w1):=cg.of c;go_wp2_with fail;refine P.mono ?_;rintro e u ⟨F2,rfl,m,o⟩
  have HF:=c7 m (l.o.trans o)
  exact nu
end
section
variable {b9 rb:Nat}{ch b_:Int}{F:Nat->Prop}{s:cn}{w:az}
theorem JS (h:(cE b9 ch b_ rb).J F s w)(R I n:Int)(A B:Nat)(i:A<12)(hB:B<12)(hc:d4 9 R A B n=0)(cd:Int)(j:cn)(q:j.rs=s.rs)
 (t:∀w',Below w.heap.size w w'->Calls prog 132 #[aq b9,.agg #[ak (s.rs.getD A (0,0)).1,ak (s.rs.getD A (0,0)).2],.agg #[ak (s.rs.getD B (0,0)).1,ak (s.rs.getD B (0,0)).2]] w' fun e u=>∃d,e=.returned (ak cd)/\(cE b9 ch b_ rb).J d j u/\cg F w' d u):
 Calls prog 68 #[aq b9,d5 9 R A B I n] w fun e w'=>∃v,e=.returned (ak cd)/\(cE b9 ch b_ rb).J v j w'/\cg F w v w':=by
 have l:=aw w (cG 9 R A B I n)
 have m:=aP w (.cells #[.int .i64 9,.int .i64 R,.int .i64 (A:Int),.int .i64 (B:Int),.int .i64 I,.int .i64 n] 44)
 have o:=jF 9 R A B I n (w.alloc (cG 9 R A B I n))
 rw[hc] at o;have fZ:∀b,F b->b<w.heap.size:=fun b hb=>(cE b9 ch b_ rb).lt h b hb;have x:aA (∀w1,Below (w.alloc (cG 9 R A B I n)).heap.size (w.alloc (cG 9 R A B I n)) w1->(w1.cell? (av b9 6)=some (.slice (au rb) 12 12)/\w1.cell? (av rb (A*2))=some (ak (s.rs.getD A (0,0)).1)/\w1.cell? (av rb (A*2+1))=some (ak (s.rs.getD A (0,0)).2)/\w1.cell? (av rb (B*2))=some (ak (s.rs.getD B (0,0)).1)/\w1.cell? (av rb (B*2+1))=some (ak (s.rs.getD B (0,0)).2)/\w1.heap[w.heap.size]?=some (cG 9 R A B I n))/\
  Calls prog 132 #[aq b9,.agg #[ak (s.rs.getD A (0,0)).1,ak (s.rs.getD A (0,0)).2],.agg #[ak (s.rs.getD B (0,0)).1,ak (s.rs.getD B (0,0)).2]] w1.drew fun e c=>∃d,e=.returned (ak cd)/\(c.cell? (av b9 6)=some (.slice (au rb) 12 12)/\c.cell? (av rb (A*2))=some (ak (s.rs.getD A (0,0)).1)/\c.cell? (av rb (A*2+1))=some (ak (s.rs.getD A (0,0)).2)/\c.cell? (av rb (B*2))=some (ak (s.rs.getD B (0,0)).1)/\c.cell? (av rb (B*2+1))=some (ak (s.rs.getD B (0,0)).2)/\c.cell? (av w.heap.size 2)=some (ak A)/\c.cell? (av w.heap.size 3)=some (ak B))/\aA ((cE b9 ch b_ rb).J d j c/\cg F w d c)):=fun w1 hb=>by
  have p:Below w.heap.size w w1:=l.trans (hb.mono l.size)
  have f:=(hb.block _ (lt_of_some m)).trans m;obtain⟨ao,rt,_,_⟩:=ki ((cE b9 ch b_ rb).below h p)
  refine⟨⟨ao,(rt A i).1,(rt A i).2,(rt B hB).1,(rt B hB).2,f⟩,(t w1.drew p.drew).mono ?_⟩
  rintro e c ⟨d,rfl,N,tn⟩
  obtain⟨k,g,_,_⟩:=ki N;rw[q] at g;have ap:=(tn.fr.block w.heap.size (lt_of_some f) (fun ar=>by have:=fZ _ ar;omega)).trans f;obtain⟨_,_,aB,aF,bg,_⟩:=el ap;exact⟨d,rfl,⟨k,(g A i).1,(g A i).2,(g B hB).1,(g B hB).2,aB,aF⟩,N,(cg.of p.drew).trans tn⟩
 generalize (s.rs.getD A (0,0)).1=a0 at*;generalize (s.rs.getD A (0,0)).2=a1 at*;generalize (s.rs.getD B (0,0)).1=aR at*;generalize (s.rs.getD B (0,0)).2=aV at*;have bi:(0:Int)<=(A:Int):=aa;have bl:(A:Int)<12:=aa;have bn:(0:Int)<=(B:Int):=aa;have bo:(B:Int)<12:=aa;clear h l m hc fZ t q;go_enter func68,ntmps68;go_wp2_with fail;refine o.mono ?_;clear o;rintro e w1 ⟨rfl,S⟩
 obtain⟨⟨k1,a2,a3,ba,k5,f⟩,W⟩:=x.o w1 S;obtain⟨q0,q1,bb,q3,bd,be⟩:=el f;clear S f x q1 be bd;go_wp2_with fail
 go_region_held3 (fun w'=>w'.cell? (av b9 6)=some (.slice (au rb) 12 12)/\w'.cell? (av rb (A*2))=some (ak a0)/\w'.cell? (av rb (A*2+1))=some (ak a1)/\w'.cell? (av rb (B*2))=some (ak aR)/\w'.cell? (av rb (B*2+1))=some (ak aV)/\w'.cell? (av w.heap.size 2)=some (ak A)/\w'.cell? (av w.heap.size 3)=some (ak B)) (first|exact⟨ab,ad,ag,ai,al,k,am⟩|(go_keep;done))
  (first|(go_at_call 132;refine W.mono ?_;clear W;rintro e c ⟨d,rfl,⟨ab,ad,ag,ai,al,k,am⟩,an⟩;clear k1 a2 a3 ba k5 bb q3))
 all_goals
  clear ab ad ag ai al k am ‹_/\_›;go_wp2_with fail;go_ret;exact⟨d,rfl,an.o.1,an.o.2⟩
theorem JT (h:(cE b9 ch b_ rb).J F s w)(R I n:Int)(A B:Nat)(i:A<12)(hB:B<12)(hc:d4 12 R A B n=0)(cd:Int)(j:cn)(q:j.rs=s.rs)
 (t:∀w',Below w.heap.size w w'->Calls prog 133 #[aq b9,.agg #[ak (s.rs.getD A (0,0)).1,ak (s.rs.getD A (0,0)).2],ak I,.agg #[ak (s.rs.getD B (0,0)).1,ak (s.rs.getD B (0,0)).2]] w' fun e u=>∃d,e=.returned (ak cd)/\(cE b9 ch b_ rb).J d j u/\cg F w' d u):
 Calls prog 68 #[aq b9,d5 12 R A B I n] w fun e w'=>∃v,e=.returned (ak cd)/\(cE b9 ch b_ rb).J v j w'/\cg F w v w':=by
 have l:=aw w (cG 12 R A B I n)
 have m:=aP w (.cells #[.int .i64 12,.int .i64 R,.int .i64 (A:Int),.int .i64 (B:Int),.int .i64 I,.int .i64 n] 44)
 have o:=jF 12 R A B I n (w.alloc (cG 12 R A B I n))
 rw[hc] at o;have fZ:∀b,F b->b<w.heap.size:=fun b hb=>(cE b9 ch b_ rb).lt h b hb;have x:aA (∀w1,Below (w.alloc (cG 12 R A B I n)).heap.size (w.alloc (cG 12 R A B I n)) w1->(w1.cell? (av b9 6)=some (.slice (au rb) 12 12)/\w1.cell? (av rb (A*2))=some (ak (s.rs.getD A (0,0)).1)/\w1.cell? (av rb (A*2+1))=some (ak (s.rs.getD A (0,0)).2)/\w1.cell? (av rb (B*2))=some (ak (s.rs.getD B (0,0)).1)/\w1.cell? (av rb (B*2+1))=some (ak (s.rs.getD B (0,0)).2)/\w1.heap[w.heap.size]?=some (cG 12 R A B I n))/\
  Calls prog 133 #[aq b9,.agg #[ak (s.rs.getD A (0,0)).1,ak (s.rs.getD A (0,0)).2],ak I,.agg #[ak (s.rs.getD B (0,0)).1,ak (s.rs.getD B (0,0)).2]] w1.drew fun e c=>∃d,e=.returned (ak cd)/\(c.cell? (av b9 6)=some (.slice (au rb) 12 12)/\c.cell? (av rb (A*2))=some (ak (s.rs.getD A (0,0)).1)/\c.cell? (av rb (A*2+1))=some (ak (s.rs.getD A (0,0)).2)/\c.cell? (av rb (B*2))=some (ak (s.rs.getD B (0,0)).1)/\c.cell? (av rb (B*2+1))=some (ak (s.rs.getD B (0,0)).2)/\c.cell? (av w.heap.size 2)=some (ak A)/\c.cell? (av w.heap.size 3)=some (ak B)/\c.cell? (av w.heap.size 4)=some (ak I))/\aA ((cE b9 ch b_ rb).J d j c/\cg F w d c)):=fun w1 hb=>by
  have p:Below w.heap.size w w1:=l.trans (hb.mono l.size)
  have f:=(hb.block _ (lt_of_some m)).trans m;obtain⟨ap,rt,_,_⟩:=ki ((cE b9 ch b_ rb).below h p)
  refine⟨⟨ap,(rt A i).1,(rt A i).2,(rt B hB).1,(rt B hB).2,f⟩,(t w1.drew p.drew).mono ?_⟩
  rintro e c ⟨d,rfl,N,tn⟩
  obtain⟨k,g,_,_⟩:=ki N;rw[q] at g;have ar:=(tn.fr.block w.heap.size (lt_of_some f) (fun aB=>by have:=fZ _ aB;omega)).trans f;obtain⟨_,_,aF,aR,aV,_⟩:=el ar;exact⟨d,rfl,⟨k,(g A i).1,(g A i).2,(g B hB).1,(g B hB).2,aF,aR,aV⟩,N,(cg.of p.drew).trans tn⟩
 generalize (s.rs.getD A (0,0)).1=a0 at*;generalize (s.rs.getD A (0,0)).2=a1 at*;generalize (s.rs.getD B (0,0)).1=a2 at*;generalize (s.rs.getD B (0,0)).2=a3 at*;have bl:(0:Int)<=(A:Int):=aa;have bn:(A:Int)<12:=aa;have bo:(0:Int)<=(B:Int):=aa;have bp:(B:Int)<12:=aa;clear h l m hc fZ t q;go_enter func68,ntmps68;go_wp2_with fail;refine o.mono ?_;clear o;rintro e w1 ⟨rfl,S⟩
 obtain⟨⟨k1,ba,bb,bd,k5,f⟩,W⟩:=x.o w1 S;obtain⟨q0,q1,be,q3,bg,bi⟩:=el f;clear S f x q1 bi;go_wp2_with fail
 go_region_held3 (fun w'=>w'.cell? (av b9 6)=some (.slice (au rb) 12 12)/\w'.cell? (av rb (A*2))=some (ak a0)/\w'.cell? (av rb (A*2+1))=some (ak a1)/\w'.cell? (av rb (B*2))=some (ak a2)/\w'.cell? (av rb (B*2+1))=some (ak a3)/\w'.cell? (av w.heap.size 2)=some (ak A)/\w'.cell? (av w.heap.size 3)=some (ak B)/\w'.cell? (av w.heap.size 4)=some (ak I)) (first|exact⟨ab,ad,ag,ai,al,k,am,an⟩|(go_keep;done))
  (first|(go_at_call 133;refine W.mono ?_;clear W;rintro e c ⟨d,rfl,⟨ab,ad,ag,ai,al,k,am,an⟩,ao⟩;clear k1 ba bb bd k5 be q3 bg))
 all_goals
  clear ab ad ag ai al k am an ‹_/\_›;go_wp2_with fail;go_ret;exact⟨d,rfl,ao.o.1,ao.o.2⟩
end
section
variable {b9 rb:Nat}{ch b_:Int}{F:Nat->Prop}{w:az}
theorem JU (k R A B I n:Int)(hc:d4 k R A B n=0)(k1:k≠9)(N:k≠12)(S:k≠15)(W:k≠16)(v:Int×Int)(cd:Int)(ab:cd≠0)(d:cn)
 (q:∀w',Below w.heap.size w w'->Calls prog 136 #[aq b9,d5 k R A B I n] w' fun e f=>∃b,e=.returned (.tuple #[.agg #[ak v.1,ak v.2],ak cd])/\(cE b9 ch b_ rb).J b d f/\cg F w' b f):
 Calls prog 68 #[aq b9,d5 k R A B I n] w fun e w'=>∃g,e=.returned (ak cd)/\(cE b9 ch b_ rb).J g d w'/\cg F w g w':=by
 obtain⟨v0,v1⟩:=v;have i:=aw w (cG k R A B I n)
 have j:=aP w (.cells #[.int .i64 k,.int .i64 R,.int .i64 A,.int .i64 B,.int .i64 I,.int .i64 n] 44)
 have l:=jF k R A B I n (w.alloc (cG k R A B I n))
 rw[hc] at l;have s:aA (∀w1,Below (w.alloc (cG k R A B I n)).heap.size (w.alloc (cG k R A B I n)) w1->w1.heap[w.heap.size]?=some (cG k R A B I n)/\Calls prog 136 #[aq b9,d5 k R A B I n] w1 fun e c=>∃b,e=.returned (.tuple #[.agg #[ak v0,ak v1],ak cd])/\aA ((cE b9 ch b_ rb).J b d c/\cg F w b c)):=fun w1 hb=>by
  have m:Below w.heap.size w w1:=i.trans (hb.mono i.size)
  refine⟨(hb.block _ (lt_of_some j)).trans j,(q w1 m).mono ?_⟩
  rintro e c ⟨b,rfl,t,tn⟩
  exact⟨b,rfl,t,(cg.of m).trans tn⟩
 go_enter func68,ntmps68;go_wp2_with fail;refine l.mono ?_;rintro e w1 ⟨rfl,u⟩
 obtain⟨x,P⟩:=s.o w1 u;obtain⟨q0,q1,ad,q3,ag,ai⟩:=el x;go_wp2_with fail;refine P.mono ?_;rintro e c ⟨b,rfl,o⟩
 have p:aA ((cE b9 ch b_ rb).J b d (c.alloc (.cells #[.int .i64 v0,.int .i64 v1] 97))/\cg F w b (c.alloc (.cells #[.int .i64 v0,.int .i64 v1] 97))):=⟨(cE b9 ch b_ rb).below o.o.1 (b8.alloc b7 _),o.o.2.below (b8.alloc b7 _)⟩
 go_wp2_with fail;go_ret;exact⟨b,rfl,p.o.1,p.o.2⟩
end
section
variable {b9 rb:Nat}{ch b_:Int}{F:Nat->Prop}{s:cn}{w:az}
theorem JV (h:(cE b9 ch b_ rb).J F s w){R:Nat}(v:Int×Int):
 (cE b9 ch b_ rb).J F {s with rs:=s.rs.set R v} ((w.setCell ⟨rb,R*2,none⟩ (.int .i64 v.1)).setCell ⟨rb,R*2+1,none⟩ (.int .i64 v.2))/\cg F w F ((w.setCell ⟨rb,R*2,none⟩ (.int .i64 v.1)).setCell ⟨rb,R*2+1,none⟩ (.int .i64 v.2)):=by
 obtain⟨l,h,rfl,c⟩:=h;have fr:Fr (fun k=>k=l.rb) w ((w.setCell ⟨l.rb,R*2,none⟩ (.int .i64 v.1)).setCell ⟨l.rb,R*2+1,none⟩ (.int .i64 v.2)):=((Fr.refl (fun k=>k=l.rb) w).set l.rb _ _ rfl).set l.rb _ _ rfl;have hk:∀b,l.own b≠0->l.own b≠4->_=_:=fun b h0 d=>fr.block b (h.lt b h0) (fun e=>d (by rw[e];exact h.g4.ro))
 refine⟨⟨l,?_,rfl,c⟩,fr.mono (fun b e=>by rw[e];exact(c _).2 (by rw[h.g4.ro];decide)),fun b hb=>aM hb⟩
 refine {blk:=(hk b9 (by rw[h.bo];decide) (by rw[h.bo];decide)).trans h.blk,bo:=h.bo,g2:=h.g2.keep (fun b hb=>hk b aa aa),g3:=h.g3.keep (fun b hb=>hk b aa aa),g4:=⟨?_,?_,h.g4.ro⟩,lt:=fun b hb=>aO (h.lt b hb) fr.size}
 ·show _=some _;rw[s8];simp only [World.setCell,Array.getElem?_modify,if_true,h.g4.rt,Option.map_some];simp
 ·rw[bf];exact h.g4.rl
theorem rN {w:az}{b c o p q:Nat}{x v0 v1:Value}(hn:b≠c)(h:w.cell? (av b o)=some x):((w.setCell ⟨c,p,none⟩ v0).setCell ⟨c,q,none⟩ v1).cell? (av b o)=some x:=by exact AU
theorem JW (h:(cE b9 ch b_ rb).J F s w)(k:Int)(R:Nat)(ad:R<12)(A B I n:Int)(hc:d4 k R A B n=0)(k1:k≠9)(a0:k≠12)(a1:k≠15)(a2:k≠16)(v:Int×Int)(g:cn)
 (i:∀w',Below w.heap.size w w'->Calls prog 136 #[aq b9,d5 k R A B I n] w' fun e ag=>∃d,e=.returned (.tuple #[.agg #[ak v.1,ak v.2],ak 0])/\(cE b9 ch b_ rb).J d g ag/\cg F w' d ag):
 Calls prog 68 #[aq b9,d5 k R A B I n] w fun e w'=>∃ai,e=.returned (ak 0)/\(cE b9 ch b_ rb).J ai {g with rs:=g.rs.set R v} w'/\cg F w ai w':=by
 obtain⟨v0,v1⟩:=v;dsimp only at i;have j:=aw w (cG k R A B I n)
 have m:=aP w (.cells #[.int .i64 k,.int .i64 (R:Int),.int .i64 A,.int .i64 B,.int .i64 I,.int .i64 n] 44)
 have p:=jF k R A B I n (w.alloc (cG k R A B I n))
 rw[hc] at p;have fZ:∀b,F b->b<w.heap.size:=fun b hb=>(cE b9 ch b_ rb).lt h b hb;obtain⟨_,_,al,am⟩:=ki h;have bt:=fZ _ am;have bx:=fZ _ al;have an:aA (∀w1,Below (w.alloc (cG k R A B I n)).heap.size (w.alloc (cG k R A B I n)) w1->w1.heap[w.heap.size]?=some (cG k R A B I n)/\Calls prog 136 #[aq b9,d5 k R A B I n] w1 fun e c=>∃d,e=.returned (.tuple #[.agg #[ak v0,ak v1],ak 0])/\
  ((c.alloc (.cells #[.int .i64 v0,.int .i64 v1] 97)).cell? (av b9 6)=some (.slice (au rb) 12 12)/\(c.alloc (.cells #[.int .i64 v0,.int .i64 v1] 97)).cell? (av w.heap.size 1)=some (ak R)/\(c.alloc (.cells #[.int .i64 v0,.int .i64 v1] 97)).cell? (av c.heap.size 0)=some (ak v0)/\(c.alloc (.cells #[.int .i64 v0,.int .i64 v1] 97)).cell? (av c.heap.size 1)=some (ak v1))/\
  (∃ao y1,(c.alloc (.cells #[.int .i64 v0,.int .i64 v1] 97)).cell? (av rb (R*2))=some (ak ao)/\(c.alloc (.cells #[.int .i64 v0,.int .i64 v1] 97)).cell? (av rb (R*2+1))=some (ak y1))/\(∀o,(c.alloc (.cells #[.int .i64 v0,.int .i64 v1] 97)).frozen? (av rb o)=false)/\w.heap.size<c.heap.size/\
  aA ((cE b9 ch b_ rb).J d g (c.alloc (.cells #[.int .i64 v0,.int .i64 v1] 97)).drew/\cg F w d (c.alloc (.cells #[.int .i64 v0,.int .i64 v1] 97)).drew)):=fun w1 hb=>by
  have ap:Below w.heap.size w w1:=j.trans (hb.mono j.size)
  have f:=(hb.block _ (lt_of_some m)).trans m;refine⟨f,(i w1 ap).mono ?_⟩
  rintro e c ⟨d,rfl,a3,tn⟩
  have q:Below c.heap.size c (c.alloc (.cells #[.int .i64 v0,.int .i64 v1] 97)):=b8.alloc b7 _;have t:=(cE b9 ch b_ rb).below a3 q;obtain⟨ba,rt,_,_⟩:=ki t;have u:=(tn.fr.block w.heap.size (lt_of_some f) (fun bb=>by have:=fZ _ bb;omega)).trans f;obtain⟨_,bd,_⟩:=el ((q.block _ (lt_of_some u)).trans u)
  obtain⟨z0,be,_,_⟩:=dq (aP c (.cells #[.int .i64 v0,.int .i64 v1] 97))
  have x:∀o,(c.alloc (.cells #[.int .i64 v0,.int .i64 v1] 97)).frozen? (av rb o)=false:=by obtain⟨l,hl,rfl,_⟩:=t;intro o;simp[World.frozen?,hl.g4.rt]
  exact⟨d,rfl,⟨ba,bd,z0,be⟩,⟨_,_,(rt R ad).1,(rt R ad).2⟩,x,lt_of_some u,(cE b9 ch b_ rb).below t b8.drew,((cg.of ap).trans tn).below q.drew⟩
 have b0:(k==9)=false:=by simpa using k1
 have b1:(k==12)=false:=by simpa using a0
 have b2:(k==15)=false:=by simpa using a1
 have b3:(k==16)=false:=by simpa using a2
 have b4:(0:Int)<=(R:Int):=aa;have b5:(R:Int)<12:=aa;have bg:w.heap.size≠rb:=aa;have ar:aA (b9≠rb):=by obtain⟨l,hl,rfl,_⟩:=h;intro e;have bi:=hl.bo;rw[e,hl.g4.ro] at bi;omega
 have bl:=ar.o;clear h j m hc i fZ al am ar;go_enter func68,ntmps68;go_wp2_with fail;refine p.mono ?_;clear p;rintro e w1 ⟨rfl,aB⟩
 obtain⟨f,P⟩:=an.o w1 aB;obtain⟨q0,q1,bn,q3,bo,bp⟩:=el f;clear aB f an;go_wp2_with fail;refine P.mono ?_;clear P;rintro e c ⟨d,rfl,⟨N,S,W,ab⟩,⟨ao,y1,br,bs⟩,x,lw,aF⟩
 clear q0 q1 bn q3 bo bp;have aR:c.heap.size≠rb:=aa;go_wp2_with fail
 go_region_held3 (fun w'=>w'.cell? (av b9 6)=some (.slice (au rb) 12 12)/\w'.cell? (av w.heap.size 1)=some (ak R)/\w'.cell? (av c.heap.size 0)=some (ak v0)/\w'.cell? (av c.heap.size 1)=some (ak v1)) (first|exact⟨N,S,W,ab⟩|exact⟨rN bl N,rN bg S,rN aR W,rN aR ab⟩|(go_keep;done)) (fail)
 all_goals
  have aV:aA (_/\_):=JV aF.o.1 (R:=R) (v0,v1)
  clear N S W ab br bs x;go_wp2_with fail;go_ret;exact⟨rfl,d,aV.o.1,aF.o.2.trans aV.o.2⟩
end
theorem JX {k R A B n:Int}(hc:d4 k R A B n=0)(b:k≠9)(c:k≠12)(e:k≠15)(f:k≠16):di k=1\/di k=3\/di k=7:=by exact Ae
theorem JY (s:cn)(t b:Int×Int):(s.reg t b).2.rs=s.rs:=by
 unfold cn.reg;split
 ·split<;>rfl
 ·rfl
theorem JZ (s:cn)(v:Int×Int)(I:Int)(y:Int×Int):(s.set v I y).2.rs=s.rs:=by unfold cn.set;dsimp only;split<;>rfl
theorem fQ.root {s:cn}(hv:fQ s)(i:Nat):(s.rs.getD i (0,0)).1=3->0<=(s.rs.getD i (0,0)).2/\cz s.T (s.rs.getD i (0,0)).2.toNat:=fun b=>by
 by_cases c:i<s.rs.length
 ·exact hv.rv _ (getD_in c) b
 ·rw[aJ,List.getElem?_eq_none aa] at b;cases b
section
variable {b9 rb:Nat}{ch b_:Int}{F:Nat->Prop}{s:cn}{w:az}{g:eM}
theorem J0 (h:(cE b9 ch b_ rb).J F s w)(hv:fQ s)(i:dL s.T s.wt (g s.T s.wt))(g0:-1000000<=b_)(g1:b_<=1000000)(q:-1000000<=ch)(m1:ch<=1000000)(k R A B I n:Int):
 Calls prog 68 #[aq b9,d5 k R A B I n] w fun e w'=>∃m,e=.returned (ak (s.gm g ch b_ k R A B I n).1)/\(cE b9 ch b_ rb).J m (s.gm g ch b_ k R A B I n).2 w'/\cg F w m w':=by
 have tl:=hv.tl;have gl:=hv.gl;have wl:=hv.wl;unfold cn.gm;by_cases hc:d4 k R A B n=0
 ·rw[aK hc];by_cases b:k=9
  ·rw[aK b];subst b;have j:=lI hc ae;have l:=me hc ae;obtain⟨A,rfl⟩:=Int.eq_ofNat_of_zero_le j.1;obtain⟨B,rfl⟩:=Int.eq_ofNat_of_zero_le l.1;rw[Int.toNat_natCast,Int.toNat_natCast];exact JS h R I n A B aa aa hc _ _ (JY _ _ _) (fun w' hb=>IJ ((cE b9 ch b_ rb).below h hb) _ _ (hv.root A) (hv.root B) tl aa aa)
  rw[aI b];by_cases d:k=12
  ·rw[aK d];subst d;have j:=lI hc ae;have l:=me hc ae;obtain⟨A,rfl⟩:=Int.eq_ofNat_of_zero_le j.1;obtain⟨B,rfl⟩:=Int.eq_ofNat_of_zero_le l.1;rw[Int.toNat_natCast,Int.toNat_natCast];exact JT h R I n A B aa aa hc _ _ (JZ _ _ _ _) (fun w' hb=>IL ((cE b9 ch b_ rb).below h hb) _ _ I (hv.root A) tl hv.iv.tl)
  rw[aI d];by_cases f:k=15
  ·rw[aK f];exact A2 k R A B I n (aM f) hc _ _ (fun _ w' hb=>AT ((cE b9 ch b_ rb).below h hb) hv i g0 g1) (fun e=>by omega)
  rw[aI f];by_cases e16:k=16
  ·rw[aK e16];exact A2 k R A B I n (aL e16) hc _ _ (fun e=>by omega) (fun _ w' hb=>AS ((cE b9 ch b_ rb).below h hb) hv i)
  rw[aI e16];have u:=yA hc (JX hc b d f e16)
  obtain⟨R,rfl⟩:=Int.eq_ofNat_of_zero_le u.1;rw[Int.toNat_natCast];have o:∀w',Below w.heap.size w w'->_:=fun w' hb=>JQ ((cE b9 ch b_ rb).below h hb) hv i g0 g1 q m1 k R A B I n hc b d f e16;generalize s.rt g ch b_ k A.toNat B.toNat I n=t at*;obtain⟨v,cd,p⟩:=t;by_cases c:cd=0
  ·rw[aK c];subst c;exact JW h k R aa A B I n hc b d f e16 v p o
  ·rw[aI c];exact JU k R A B I n hc b d f e16 v cd c p o
 ·rw[aI hc];refine(JR k R A B I n hc).mono ?_;rintro e w' ⟨rfl,hb⟩
  exact⟨F,rfl,(cE b9 ch b_ rb).below h hb,cg.of hb⟩
end
def nM:cn:=⟨[],List.replicate 12 (0,0),[],[]⟩
theorem J3 {w:az}{b:Nat}(h:w.heap[b]?=some (.map #[] 0)):eF w b 0 (fun _=>none):=by obtain⟨D,⟨d,e,hb,r⟩,c⟩:=eF.made w;rw[aP] at hb;cases hb;exact⟨D,⟨#[],0,h,r⟩,c⟩
theorem J4 (fm:Fm):ib [] fm=fun _=>none:=by
 funext x
 refine lR (fun h=>?_)
 have:=h.2.1;simp at this
theorem J5 {w:az}{b9 mb bp rb:Nat}{n o:Int}(hg:w.heap[b9]?=some (.cells #[ak n,ak o,.map (some mb),ak 0,ak 0,aq bp,.slice (au rb) 12 12] 187 (0,0)))
 (hm:w.heap[mb]?=some (.map #[] 0))(hb:w.heap[bp]?=some (.cells #[.slice none 0 0,.slice none 0 0] 153 (0,0)))(hr:w.heap[rb]?=some (.cells (ev (List.replicate 12 (0,0))).toArray 97 (0,0))):
 (cE b9 n o rb).J (fun b=>b=b9\/b=mb\/b=bp\/b=rb) nM w:=by
 have n1:b9≠mb:=fun e=>by rw[e,hm] at hg;cases hg
 have c:b9≠bp:=fun e=>by rw[e,hb] at hg;simp at hg
 have d:b9≠rb:=fun e=>by rw[e,hr] at hg;simp at hg
 have n4:mb≠bp:=fun e=>by rw[e,hb] at hm;cases hm
 have f:mb≠rb:=fun e=>by rw[e,hr] at hm;cases hm
 have g:bp≠rb:=fun e=>by rw[e,hr] at hb;simp at hb
 have o1:∀b,(if b=b9 then 1 else if b=mb then 2 else if b=bp then 3 else if b=rb then 4 else 0)≠(0:Nat)↔b=b9\/b=mb\/b=bp\/b=rb:=fun b=>by
  by_cases j:b=b9
  ·simp[j]
  ·by_cases l:b=mb
   ·simp[l,n1.symm]
   ·by_cases m:b=bp
    ·simp[m,c.symm,n4.symm]
    ·by_cases p:b=rb
     ·simp[p,d.symm,f.symm,g.symm]
     ·simp[j,l,m,p]
 refine⟨⟨fun b=>if b=b9 then 1 else if b=mb then 2 else if b=bp then 3 else if b=rb then 4 else 0,mb,bp,rb,fun _=>(none,0),0,0,none,0,none,0⟩,?_,rfl,fun b=>(o1 b).symm⟩
 refine {blk:=hg,bo:=by dsimp only;rw[aK rfl],g2:=?_,g3:=?_,g4:=?_,lt:=fun b h=>?_}
 ·refine {mp:=?_,mn:=aG _,dw:=?_,fl:=fun i hi=>?_,e3:=fun i hi=>?_,fw:=fun i hi=>?_,al:=aG _}
  ·show eF w mb 0 (ib [] _)
   rw[J4];exact J3 hm
  ·dsimp only;rw[aI n1.symm,aK rfl]
  ·exact absurd hi.1 (by simp[nM])
  ·exact absurd hi.1 (by simp[nM])
  ·exact absurd hi.1 (by simp[nM])
 ·refine {sd:=⟨hb,bc _ _ _ _,bc _ _ _ _⟩,so:=?_,ro:=fun k e=>?_,mB:=fun k e=>?_}
  ·dsimp only;rw[aI c.symm,aI n4.symm,aK rfl]
  ·cases e
  ·cases e
 ·refine {rt:=hr,rl:=by simp[nM],ro:=?_};dsimp only;rw[aI d.symm,aI f.symm,aI g.symm,aK rfl]
 ·rcases(o1 b).1 h with e|e|e|e
  ·rw[e];exact lt_of_some hg
  ·rw[e];exact lt_of_some hm
  ·rw[e];exact lt_of_some hb
  ·rw[e];exact lt_of_some hr
theorem J6 (n o:Nat)(w:az)(h0:16<=n)(B:n<=256)(N:o<=1024):
 Calls prog 67 #[ak n,ak o] w fun e w'=>∃b9 rb F,e=.returned (.tuple #[aq b9,.agg #[ak 0,ak 0]])/\(cE b9 n o rb).J F nM w'/\(∀b,F b->w.heap.size<=b)/\Below w.heap.size w w':=by
 have a1:=@run_makeMap prog;have S:=aw w (.cells #[.int .i64 0,.int .i64 0] 28)
 have P:=HX n o (w.alloc (.cells #[.int .i64 0,.int .i64 0] 28)) h0 B N;have W:=aP w (.cells #[.int .i64 0,.int .i64 0] 28)
 have an:w.heap.size<(w.alloc (.cells #[.int .i64 0,.int .i64 0] 28)).heap.size:=ac;have ab:=hide S;clear S h0 B N;go_enter func67,ntmps67;go_wp2_with fail;generalize w.alloc (.cells #[.int .i64 0,.int .i64 0] 28)=w0 at*;generalize ao:w.heap.size=fb at*;refine P.mono ?_;clear P;rintro e w1 ⟨hp,rfl,t⟩
 have u:=(t.block fb an).trans W;have ap:=hide (ab.o.trans (t.mono aa))
 have ar:=lt_of_some u;clear t W ab;have B1:=(((aw w1 (.cells #[.int .i64 0,.int .i64 0] 28)).alloc ac (.map #[] 0)).alloc (by simp;omega) (.cells #[.slice none 0 0,.slice none 0 0] 153)).alloc (by simp;omega) (.cells #[.int .i64 0,.int .i64 0] 97)
 have m1:((((w1.alloc (.cells #[.int .i64 0,.int .i64 0] 28)).alloc (.map #[] 0)).alloc (.cells #[.slice none 0 0,.slice none 0 0] 153)).alloc (.cells #[.int .i64 0,.int .i64 0] 97)).heap[w1.heap.size+1]?=some (.map #[] 0):=by rw[aS _ _ _ ac,aS _ _ _ ac];exact gb w1 _ _
 have f:((((w1.alloc (.cells #[.int .i64 0,.int .i64 0] 28)).alloc (.map #[] 0)).alloc (.cells #[.slice none 0 0,.slice none 0 0] 153)).alloc (.cells #[.int .i64 0,.int .i64 0] 97)).heap[w1.heap.size+1+1]?=some (.cells #[.slice none 0 0,.slice none 0 0] 153 (0,0)):=by
  rw[aS _ _ _ ac];have:=gb (w1.alloc (.cells #[.int .i64 0,.int .i64 0] 28)) (.map #[] 0) (.cells #[.slice none 0 0,.slice none 0 0] 153)
  simpa using this
 have ad:((((w1.alloc (.cells #[.int .i64 0,.int .i64 0] 28)).alloc (.map #[] 0)).alloc (.cells #[.slice none 0 0,.slice none 0 0] 153)).alloc (.cells #[.int .i64 0,.int .i64 0] 97)).heap[w1.heap.size+1+1+1]?=some (.cells #[ak 0,ak 0] 97 (0,0)):=by
  have:=aP ((((w1.alloc (.cells #[.int .i64 0,.int .i64 0] 28)).alloc (.map #[] 0)).alloc (.cells #[.slice none 0 0,.slice none 0 0] 153))) (.cells #[.int .i64 0,.int .i64 0] 97)
  simpa using this
 have q:((((w1.alloc (.cells #[.int .i64 0,.int .i64 0] 28)).alloc (.map #[] 0)).alloc (.cells #[.slice none 0 0,.slice none 0 0] 153)).alloc (.cells #[.int .i64 0,.int .i64 0] 97)).heap.size=w1.heap.size+1+1+1+1:=ac;obtain⟨v0,v1,_,_⟩:=dq ad;have ag:=A0 _ (w1.heap.size+1+1+1) 12 (0,0) ae v0 v1;have l:=(B1.block fb ar).trans u;have ai:=wc B1 m1 f l q;clear B1 m1 f ad v0 v1 u l q;go_wp2_with fail;generalize (((w1.alloc (.cells #[.int .i64 0,.int .i64 0] 28)).alloc (.map #[] 0)).alloc (.cells #[.slice none 0 0,.slice none 0 0] 153)).alloc (.cells #[.int .i64 0,.int .i64 0] 97)=a2 at*;refine ag.mono ?_;clear ag;rintro e c ⟨nb,rfl,aB,al,g⟩
 obtain⟨B1,m1,f,l,q⟩:=ai.o;have i:=(g.block fb aa).trans l;have aF:aA (_/\_/\_/\w1.heap.size+1+1<nb/\_/\_):=
  ⟨(g.block _ aa).trans m1,(g.block _ aa).trans f,al,aa,(ap.o.trans (B1.mono aa)).trans (g.mono aa),lt_of_some ((g.block _ aa).trans f)⟩
 have y0:c.cell? (av fb 0)=some (ak 0):=aD i
 have y1:c.cell? (av fb 1)=some (ak 0):=aD i
 have z0:c.frozen? (av fb 0)=false:=aE i
 have a3:c.frozen? (av fb 1)=false:=aE i
 have aR:=lt_of_some i;clear i g al aB B1 m1 f l q ai;go_wp2_with fail;obtain⟨d,hW1⟩:∃d,d=(c.setCell ⟨fb,0,none⟩ (.int .i64 0)).setCell ⟨fb,1,none⟩ (.int .i64 0):=⟨_,rfl⟩
 rw[<-hW1];have v0:d.cell? (av fb 0)=some (ak 0):=by exact tx
 have v1:d.cell? (av fb 1)=some (ak 0):=by rw[hW1];exact a_ _ _ _ ((aY c ⟨fb,0,none⟩ ⟨fb,1,none⟩ _ ac).trans y1)
 have s:Fr (fun k=>k=fb) c d:=by rw[hW1];exact((Fr.refl (fun k=>k=fb) c).set fb 0 _ rfl).set fb 1 _ rfl
 have am:d.heap.size=c.heap.size:=by rw[hW1];simp
 clear hW1;obtain⟨k1,aV,x,ba,k5,k6⟩:=aF.o;have j:=aw d (.cells #[.int .i64 n,.int .i64 o,.map (some (w1.heap.size+1)),.int .i64 0,.int .i64 0,.pointer (some ⟨w1.heap.size+1+1,0,none⟩),.slice (some ⟨nb,0,none⟩) 12 12] 187)
 have hg:=aP d (.cells #[.int .i64 n,.int .i64 o,.map (some (w1.heap.size+1)),.int .i64 0,.int .i64 0,.pointer (some ⟨w1.heap.size+1+1,0,none⟩),.slice (some ⟨nb,0,none⟩) 12 12] 187)
 rw[am] at hg;have g0:=(j.cell (p:=av fb 0) (by show fb<_;omega)).trans v0;have g1:=(j.cell (p:=av fb 1) (by show fb<_;omega)).trans v1;have J:=J5 hg ((j.block _ aa).trans ((s.block _ aa (fun e=>by have e:=e;omega)).trans k1)) ((j.block _ aa).trans ((s.block _ aa (fun e=>by have e:=e;omega)).trans aV)) ((j.block _ (by rw[am];exact lt_of_some x)).trans ((s.block _ (lt_of_some x) (fun e=>by have e:=e;omega)).trans x))
 have a0:=k5.trans (s.below (Nat.le_of_lt aR) (fun k e=>Nat.le_of_eq (Eq.symm e)))
 refine a5 (v:=.tuple #[aq c.heap.size,.agg #[ak 0,ak 0]]) (by simp only [results,results67];simp[go_sem,g0,g1]) rfl ⟨c.heap.size,nb,_,rfl,J,fun b m=>?_,by rw[ao];exact a0.trans (j.mono aa)⟩
 rcases m with m|m|m|m<;>omega
structure fJ (B:Nat)(w w':az):Prop where
 os:w'.os=w.os
 tape:w'.tape=w.tape
 output:w'.output=w.output
 size:w.heap.size<=w'.heap.size
 low:∀k:Nat,k<w.heap.size->k<B->w'.heap[k]?=w.heap[k]?
 im:∀(k:Nat) cs e m,w.heap[k]?=some (Obj.cells cs e m)->e≠231->e≠107->w'.heap[k]?=w.heap[k]?
section
variable {B:Nat}{w w' w'':az}
theorem fJ.refl (B:Nat)(w:az):fJ B w w:=⟨rfl,rfl,rfl,aG _,fun _ _ _=>rfl,fun _ _ _ _ _ _ _=>rfl⟩
theorem fJ.trans (h:fJ B w w')(k:fJ B w' w''):fJ B w w'':=
 ⟨k.os.trans h.os,k.tape.trans h.tape,k.output.trans h.output,aU h.size k.size,fun i hi hb=>(k.low i (aO hi h.size) hb).trans (h.low i hi hb),fun i b e m hi c d=>(k.im i b e m (by grind [im]) c d).trans (by grind [im])⟩
theorem fJ.of (h:Below w.heap.size w w'):fJ B w w':=⟨h.os,h.tape,h.output,h.size,fun k hk _=>h.block k hk,fun k _ _ _ hi _ _=>h.block k (by grind)⟩
theorem fJ.below (h:fJ B w w')(hB:B<=w.heap.size):Below B w w':=⟨h.os,h.tape,h.output,h.size,fun k hk=>h.low k aa hk⟩
theorem fJ.set {pk o:Nat}{b:Array Value}{m:Nat×Nat}{e:TypeId}{v:Value}(hp:w.heap[pk]?=some (.cells b e m))(he:e=231\/e=107)(hB:B<=pk):fJ B w (w.setCell ⟨pk,o,none⟩ v):=
 ⟨rfl,rfl,rfl,by simp_all,fun k _ hk=>(by grind [aW]),fun k c d f hk g i=>(by grind [aW])⟩
theorem fJ.grown {row:Option Nat}(g:w.grownBy w' row)(hr:∀k,row=some k->B<=k/\∀b e m,w.heap[k]?=some (.cells b e m)->e=231\/e=107):fJ B w w':=
 ⟨g.os,g.tape,g.output,g.size,fun k hk hb=>(by grind [World.grownBy.block]),fun k b e m hk c d=>(by grind [World.grownBy.block])⟩
theorem fC.mI {ad:Option Addr}{l:List _}(h:fC w ad l)(k:fJ B w w'):fC w' ad l:=by
 have hk:0<l.length->∀b,ad=some b->w'.heap[b.block]?=w.heap[b.block]?:=fun hp b e=>by
  obtain⟨c,d,f,g,hb⟩:=h.2 hp
  grind [fJ.im]
 refine⟨h.1.keep k.size hk,fun hp=>?_⟩
 obtain⟨c,d,f,g,hb⟩:=h.2 hp
 grind
end
def fR (w0 w:az)(m:List dY)(w':az)(b:List dY):Prop:=fJ w0.heap.size w w'/\∀k,fD b k->fD m k\/w.heap.size<=k
theorem fR.refl (w0 w:az)(m:List dY):fR w0 w m w m:=⟨fJ.refl _ _,fun _ h=>aM h⟩
theorem fR.trans {w0 w w' b:az}{m d e:List dY}(h:fR w0 w m w' d)(k:fR w0 w' d b e):fR w0 w m b e:=
 ⟨h.1.trans k.1,fun i hi=>(k.2 i hi).elim (h.2 i) (fun c=>aL (aU h.1.size c))⟩
theorem fR.of {w0 w w':az}{m:List dY}(h:Below w.heap.size w w'):fR w0 w m w' m:=⟨fJ.of h,fun _ h=>aM h⟩
theorem fR.new {w0 w w' b:az}{m c:List dY}{X:Nat->Prop}(h:fR w0 w m w' c)(f:Fr X w' b)(j:∀k,X k->w.heap.size<=k):fR w0 w m b c:=
 ⟨⟨f.os.trans h.1.os,f.tape.trans h.1.tape,f.output.trans h.1.output,aU h.1.size f.size,fun k hk hb=>(f.block k (aO hk h.1.size) (by grind)).trans (h.1.low k hk hb),
  fun k d e mm hk g i=>(f.block k (aO (by grind) h.1.size) (by grind)).trans (h.1.im k d e mm hk g i)⟩,h.2⟩
def kN (ms:List Int)(x:Int):Option Value:=if ms.contains x=true then some (ak (ms.idxOf x:Int)) else none
theorem J7 {ms:List Int}{a:Int}(hn:a∉ms):jM (kN ms) a (ak ms.length)=kN (ms++[a]):=by
 funext b
 unfold jM kN
 grind
theorem A3 {ms:List Int}{a:Int}(h:a∉ms):kN ms a=none:=by grind [kN]
theorem J8 {ms:List Int}{a:Int}(h:a∈ms):kN ms a=some (ak (ms.idxOf a:Int)):=by grind [kN]
structure fA (w0 w:az)(kb ct b9:Nat)(s:cW)(vn:Value)(m:List dY):Prop where
 blk:w.heap[kb]?=some (.cells #[aq b9,.map (some ct),vn] 231 (0,0))
 lo:w0.heap.size<=kb/\w0.heap.size<=ct
 mp:eF w ct s.1.length (kN s.1)
 row:w.ownsRow w0.heap.size 107 2 vn m.length (nv m)
 nd:ij m=s.2
 fl:∀x∈m,fC w x.2.1 x.2.2.2
 eP:Below w0.heap.size w0 w
section
variable {w0 w w':az}{kb ct b9:Nat}{s:cW}{vn:Value}{m:List dY}
theorem fA.below (h:fA w0 w kb ct b9 s vn m)(hb:Below w.heap.size w w'):fA w0 w' kb ct b9 s vn m:=
 ⟨(by grind [blk,Below.block]),h.lo,h.mp.same (hb.block ct h.mp.lt),cL h.row (fun k hk=>hb.block k (cu h.row k hk).2),h.nd,fun x b=>(h.fl x b).mI (fJ.of (B:=0) hb),h.eP.trans (hb.mono h.eP.size)⟩
theorem fA.cells (h:fA w0 w kb ct b9 s vn m):w.cell? (av kb 0)=some (aq b9)/\w.cell? (av kb 1)=some (.map (some ct))/\w.cell? (av kb 2)=some vn/\kb<w.heap.size:=
 ⟨by simp[World.cell?,h.blk],by simp[World.cell?,h.blk],by simp[World.cell?,h.blk],lt_of_some h.blk⟩
theorem fA.len (h:fA w0 w kb ct b9 s vn m):m.length=s.2.length:=by rw[<-h.nd];simp[ij]
theorem fA.fb (h:fA w0 w kb ct b9 s vn m)(k:Nat)(hk:fD m k):k<w.heap.size:=by
 obtain⟨x,c,hl,o,e⟩:=hk;obtain⟨b,d,f,g,hb⟩:=(h.fl x c).2 hl
 grind
theorem fA.but {X:Nat->Prop}(h:fA w0 w kb ct b9 s vn m)(f:Fr X w w')(g:∀k,k<w.heap.size->X k->(∃d,w.heap[k]?=some (.cells d 97 (0,0)))/\¬fD m k/\w0.heap.size<=k):fA w0 w' kb ct b9 s vn m:=by
 obtain⟨p,q,t⟩:=h.mp.blk;have n1:¬X kb:=fun c=>by
  obtain⟨⟨d,hc⟩,_⟩:=g kb (lt_of_some h.blk) c;rw[h.blk] at hc
  grind
 have u:¬X ct:=fun c=>by grind
 refine⟨(by grind [Fr.block,blk]),h.lo,h.mp.same (by grind [Fr.block]),cL h.row (fun k hk=>f.block k (cu h.row k hk).2 (fun c=>?_)),h.nd,fun x j=>?_,h.eP.trans ⟨f.os,f.tape,f.output,f.size,fun k hk=>f.block k (aO hk h.eP.size) (fun c=>by have:=(g k (aO hk h.eP.size) c).2.2;omega)⟩⟩
 ·obtain⟨⟨d,hc⟩,_⟩:=g k (cu h.row k hk).2 c;obtain⟨v,B⟩:=fp h.row k hk
  grind
 ·have hl:=h.fl x j;have hk:0<x.2.2.2.length->∀b,x.2.1=some b->w'.heap[b.block]?=w.heap[b.block]?:=fun hp b e=>by obtain⟨o,l,d,i,hb⟩:=hl.2 hp;have n:=e;rw[i] at n;cases n;exact f.block _ (by grind) (fun c=>(g _ (by grind) c).2.1 ⟨x,j,hp,l,i⟩)
  refine⟨hl.1.keep f.size hk,fun hp=>?_⟩
  obtain⟨o,l,d,i,hb⟩:=hl.2 hp
  grind
end
def gW (T:List cI)(wt:List ce)(a:Int):List (Int×Int):=if(T.getD a.toNat t0).1=5 then(eu wt a).map (fun x=>((3:Int),x)) else(T.getD a.toNat t0).2.1
theorem J9 {T:List cI}{wt:List ce}{a:Int}(b:(T.getD a.toNat t0).1=5->(T.getD a.toNat t0).2.1=[]):(gW T wt a).map gI=hC T wt a:=by
 unfold gW hC;by_cases c:(T.getD a.toNat t0).1=5
 ·rw[aK c,aK c,b c];simp[eu,gI]
 ·rw[aI c,aI c,List.append_nil]
section
variable {b9:Nat}{ch b_:Int}{l:gU}{s:cn}{w:az}
theorem J_ (h:dN b9 ch b_ l s w)(ag:Nat)(hk:w.cell? (av ag 0)=some (aq b9))(a:Int)(ha:0<=a/\cz s.T a.toNat)(bx:s.T.length<=10000)(hw:s.wt.length<=10000):
 Calls prog 254 #[aq ag,ak a] w fun e w'=>∃ad cap,e=.returned (.slice ad (gW s.T s.wt a).length cap)/\fC w' ad (gW s.T s.wt a)/\Below w.heap.size w w':=by
 obtain⟨aF,hi,aR,aV,a0⟩:=info_parts rM;have al:a<10000:=by have:=ha.2.1;omega
 have L:=h.g2.mp.look (t:=184) (e:=220) underlying184 (mC w) (x:=a) ha.1 aa;rw[jk ha] at L;dsimp only [Option.getD_some,ga,eL] at L;obtain⟨_,_,c2,_,_,c5,_,_,b0⟩:=h.cells;have lk:=aT w _ hk;have ai:=fC.of (h.g2.fl a.toNat ha.2)
 have b1:=aw w (.cells #[.int .i64 (s.T.getD a.toNat t0).1,.slice (l.fm a.toNat).1 (s.T.getD a.toNat t0).2.1.length (l.fm a.toNat).2] 220)
 have am:=ai.mI (fJ.of (B:=0) b1)
 have g1:=h.below b1;have F:=sV _ l.bp _ l.a1 l.k1 s.wt a g1.g3.sd.blk (hZ g1.g3.sd.q0) aa;have a1:=aU (o8 s.wt a) hw;by_cases g:(s.T.getD a.toNat t0).1=5
 ·have v:gW s.T s.wt a=(eu s.wt a).map (fun x=>((3:Int),x)):=by unfold gW;rw[aK g]
  rw[v];rw[g] at L b1 F;have i:=hide b1;generalize (l.fm a.toNat).1=ad at*;generalize (l.fm a.toNat).2=cp at*;generalize (s.T.getD a.toNat t0).2.1.length=n at*;generalize eu s.wt a=A at*;rw[aZ];go_enter func254,ntmps254;go_wp2_with fail;refine F.mono ?_;rintro e w1 ⟨b2,gx,rfl,a2,a3⟩
  have an:=hide (i.o.trans (a3.mono i.o.size))
  have ba:=hide (gX a2)
  have s1:=an.o.size;go_wp2_with fail
  go_loopw [6,33] (fun tv iv wr=>∃(j:Nat)(c:Option Addr)(d:Nat),j<=A.length/\iv=ak j/\tv=.slice c j d/\wr.ownsRow w1.heap.size 97 2 (.slice c j d) j (ev ((A.take j).map (fun x=>((3:Int),x))))/\Below w1.heap.size w1 wr) (fun _ iv _=>A.length-(intOf iv).toNat)
  exact⟨0,none,0,a4 _,rfl,rfl,bc _ _ _ _,aH _ _⟩
  ·
    obtain⟨j,c,d,b,rfl,rfl,m,hb⟩:=hrel;by_cases ao:j<A.length
    ·obtain⟨bb,o,bd,lb,be⟩:=ba.o aa;have hc:=(hb.cell (p:=av bb (o+j)) lb).trans (be j ao)
     have ap:aA (ev ((A.take (j+1)).map (fun x=>((3:Int),x)))=ev ((A.take j).map (fun x=>((3:Int),x)))++[ak 3,ak (A.getD j 0)]):=by show _=_;rw[gL A j ao 0,List.map_append,i4];rfl
     subst bd;have bg:=hb.size;generalize A.getD j 0=y at*;generalize ev ((A.take j).map (fun x=>((3:Int),x)))=L at*;go_wp2_with fail;refine(oG y wr).mono ?_;rintro e bi ⟨rfl,N⟩
     have S:=cL m (fun k e=>N.block k (cu m k e).2)
     have W:=hb.trans (N.mono bg)
     have bl:=W.size;clear m hb N hc;go_wp2_with (at_builtin;refine wpList_append_own_at _ rfl _ _ 57 rfl w1.heap.size 97 aF (.agg #[ak 0,ak 0]) 2 16 underlying57 hi aR aV a0 rfl ae (.slice c j d) j L rfl (f9 S _) ⟨bi.heap.size,0,none⟩ 1 1 [ak 3,ak y] rfl rfl ?_ ?_ ?_ ?_ ?_ ?_;(intro j u b;match j,b with|0,b=>(simp at b;subst b;simp[Addr.add])|1,b=>(simp at b;subst b;simp[Addr.add]));(intro u q;simp at q;rcases q with q|q<;>(subst q;rfl));(unfold maxLen;omega);omega;(simp;omega);intro b3 bn ab ar _ bo;obtain⟨b4,aB,bp⟩:=eT ab (Nat.succ_pos _);subst bp)
     have br:bn.ownsRow w1.heap.size 97 2 (.slice (au b4) (j+1) aB) (j+1) (ev ((A.take (j+1)).map (fun x=>((3:Int),x)))):=by rw[ap.o];exact ab
     have bs:=(W.alloc bl _).grown ar (by simp;omega) (fun k e=>(cu S k e.symm).1)
     clear ab ar bo S W ap;go_wp2_with fail;go_roundw;exact⟨j+1,au b4,aB,aa,aj,rfl,br,bs⟩
     simp[intOf];omega
    ·obtain rfl:j=A.length:=aa;rw[bz] at m;go_wp2_with fail;go_ret;refine⟨c,d,rfl,?_,an.o.trans (hb.mono s1)⟩
     have bt:wr.ownsRow w1.heap.size 97 2 (.slice c (A.map (fun x=>((3:Int),x))).length d) (A.map (fun x=>((3:Int),x))).length (ev (A.map (fun x=>((3:Int),x)))):=by rw[aZ];exact m
     exact fC.of bt
 ·have v:gW s.T s.wt a=(s.T.getD a.toNat t0).2.1:=by unfold gW;rw[aI g]
  rw[v];have k5:((s.T.getD a.toNat t0).1!=5)=true:=by simpa using g
  have i:=c7 am b1;clear v g ai am g1 b1 h ha F a1;generalize (s.T.getD a.toNat t0).2.1=f at*;generalize (l.fm a.toNat).1=ad at*;generalize (l.fm a.toNat).2=cp at*;generalize (s.T.getD a.toNat t0).1=kd at*;go_enter func254,ntmps254;go_wp2_with fail;go_ret;exact⟨ad,⟨cp,rfl⟩,i.o.1,i.o.2⟩
end
def pU (w0:az)(b ct b9:Nat)(T:List cI)(M:cW->Int->cW)(n:Nat):Prop:=
 ∀(w:az)(s:cW)(d:Value)(m:List dY)(a:Int),fA w0 w b ct b9 s d m->fi (tI T.length) s->0<=a/\cz T a.toNat->a∉s.1->T.length<=s.1.length+n->
  Calls prog 251 #[aq b,ak a] w fun e w'=>∃f c,e=.returned (ak s.1.length)/\fA w0 w' b ct b9 (M s a) f c/\fR w0 w m w' c
def mJ (s:cW)(a:Int):Int:=if s.1.contains a=true then(s.1.idxOf a:Int) else s.1.length
def mK (M:cW->Int->cW)(s:cW)(a:Int):cW:=if s.1.contains a=true then s else M s a
theorem Ka {T:List cI}{M:cW->Int->cW}{s:cW}{v:Int×Int}(h:fg T v)(b:v.1=3):eA M (tI T.length) s (gI v)=((3,mJ s v.2),mK M s v.2):=by
 unfold mJ mK;cases hs:s.1.contains v.2
 ·rw[H9 h b hs,aI ac,aI ac]
 ·rw[H8 h b hs,aK rfl,aK rfl]
theorem Kb (w:az):(zeroValue 2).run prog w=.ok (ak 0) w:=ah
section
variable {w0 w:az}{kb ct b9 n:Nat}{T:List cI}{kd:Int->Int}{sh:Int->List Int}{M:cW->Int->cW}{s:cW}{vn:Value}{m:List dY}
theorem Kc (hM:pU w0 kb ct b9 T M n)(h:fA w0 w kb ct b9 s vn m)(ho:fi (tI T.length) s)(hn:T.length<=s.1.length+n)(a:Int)(ha:0<=a/\cz T a.toNat)(o:T.length<=10000):
 Calls prog 240 #[aq kb,ak a] w fun e w'=>∃d c,e=.returned (ak (mJ s a))/\fA w0 w' kb ct b9 (mK M s a) d c/\fR w0 w m w' c:=by
 have H:=hide h;have k:=hide hM;obtain⟨c0,c1,c2,lk⟩:=h.cells;have al:a<10000:=by have:=ha.2.1;omega
 have L:=h.mp.look_ok (t:=229) (e:=2) underlying229 (Kb w) (x:=a) ha.1 aa;by_cases b:a∈s.1
 ·rw[J8 b] at L;have f:mJ s a=(s.1.idxOf a:Int):=by unfold mJ;rw[aK (by simpa using b)]
  have g:mK M s a=s:=by unfold mK;rw[aK (by simpa using b)]
  rw[f,g];generalize s.1.idxOf a=j at L⊢;go_enter func240,ntmps240;go_wp2;go_ret;exact⟨vn,m,rfl,H.o,fR.refl _ _ _⟩
 ·rw[A3 b] at L;have f:mJ s a=s.1.length:=by unfold mJ;rw[aI (by simpa using b)]
  have g:mK M s a=M s a:=by unfold mK;rw[aI (by simpa using b)]
  rw[f,g];have P:=k.o w s vn m a H.o ho ha b hn;generalize M s a=p at P⊢;generalize s.1.length=j at P⊢;go_enter func240,ntmps240;go_wp2_with fail;refine P.mono ?_;rintro e w1 ⟨d,c,rfl,l,k1⟩
  have i:=c7 l k1;go_wp2;go_ret;exact⟨d,c,rfl,i.o.1,i.o.2⟩
theorem A4 (hM:pU w0 kb ct b9 T M n)(b3:lv (tI T.length) kd sh n M)(h:fA w0 w kb ct b9 s vn m)(ho:fi (tI T.length) s)(hn:T.length<=s.1.length+n)(b5:T.length<=10000)(l:List (Int×Int))(hq:∀v∈l,fg T v)(ad:Option Addr)(cap:Nat)(hl:fC w ad l)(hm:l.length<=100000):
 Calls prog 211 #[aq kb,.slice ad l.length cap] w fun e w'=>∃ci a0 a2 c2,e=.returned (.slice a2 l.length c2)/\w'.ownsRow w.heap.size 97 2 (.slice a2 l.length c2) l.length (ev (dC M (tI T.length) s (l.map gI)).1)/\fA w0 w' kb ct b9 (dC M (tI T.length) s (l.map gI)).2 ci a0/\fR w0 w m w' a0/\(∀k,fD a0 k->some k≠(Value.slice a2 l.length c2).ownBlock):=by
 obtain⟨a1,hi,a3,ba,bb⟩:=info_parts rM;have cj:=hide hM;have ck:=hide b3;have cl:=hide hl;have ap:=hide h;have cm:=c7 ho hn;have cn:=hide hq;have co:=hide b5;clear hM b3 hl h ho hq hn b5;go_enter func211,ntmps211;go_wp2_with (at_make;refine wpList_make_own _ rfl _ _ 57 rfl w.heap.size 97 a1 (.agg #[ak 0,ak 0]) 2 underlying57 hi a3 ba .i64 .i64 _ l.length rfl rfl rfl (by rw[bb];omega) (by unfold maxLen;omega) b7 ?_;intro w1 b6 ca)
 have bd:=(ax w).grown ca b7 (fun k e=>by cases e)
 go_loopw [5,13] (fun tv iv wr=>∃(j:Nat)(i:List (Int×Int))(s1:cW)(ar:Value)(m1:List dY)(a2:Option Addr)(c2:Nat),j<=l.length/\iv=ak j/\aA (dC M (tI T.length) s ((l.take j).map gI)=(i,s1))/\tv=.slice a2 j c2/\wr.ownsRow w.heap.size 97 2 (.slice a2 j c2) j (ev i)/\aA (fA w0 wr kb ct b9 s1 ar m1)/\aA (fR w0 w m wr m1)/\aA (∀k,fD m1 k->some k≠(Value.slice a2 j c2).ownBlock)/\aA (fi (tI T.length) s1/\T.length<=s1.1.length+n)) (fun _ iv _=>l.length-(intOf iv).toNat)
 ·exact⟨0,[],s,vn,m,_,_,a4 _,rfl,rfl,rfl,b6,ap.o.below bd,fR.of bd,fun k hk e=>by have:=ap.o.fb k hk;simp[Value.ownBlock] at e;omega,cm.o⟩
 ·
   obtain⟨j,i,s1,ar,m1,a2,c2,b,rfl,be,rfl,q,B,F,aB,N⟩:=hrel;clear b6 ca bd;by_cases bg:j<l.length
   ·obtain⟨cE,cF,cp,cG,hc⟩:=(cl.o.mI F.o.1).1 aa;obtain⟨cq,cr⟩:=hc j bg;subst cp;clear hc;have aF:=cn.o _ (getD_in (x:=(0,0)) bg)
    have o:=r9 M (tI T.length) s ((l.take j).map gI) (gI (l.getD j (0,0)))
    rw[be.o] at o;have cb:(l.take (j+1)).map gI=(l.take j).map gI++[gI (l.getD j (0,0))]:=by rw[gL l j bg (0,0),List.map_append];rfl
    rw[<-cb] at o;have G:=oR ck.o N.o.1 (by rw[nF];exact N.o.2) (gI (l.getD j (0,0)))
    have S:aA (_/\T.length<=(eA M (tI T.length) s1 (gI (l.getD j (0,0)))).2.1.length+n):=⟨G.ok,by have:=G.le;have:=N.o.2;omega⟩
    have o:=hide o;clear G cb;generalize l.getD j (0,0)=v at*;obtain⟨v0,v1⟩:=v;dsimp only at cq cr;have cH:IntKind.i64.wrap ((j:Int)+1)=(j:Int)+1:=by rw[bu];omega
    have d:=aw wr (.cells #[.int .i64 v0,.int .i64 v1] 97)
    have bi:=aP wr (.cells #[.int .i64 v0,.int .i64 v1] 97)
    have cI:=F.o.1.size;by_cases cc:v0=3
    ·subst cc;have aR:=Ka (M:=M) (s:=s1) aF rfl;rw[aR] at o S;dsimp only at o S;have P:=Kc cj.o (B.o.below d) N.o.1 N.o.2 v1 (aF.2 rfl) co.o;clear aR aF;generalize mJ s1 v1=z at*;generalize mK M s1 v1=s2 at*;go_wp2_with fail;refine P.mono ?_;rintro e f ⟨cs,W,rfl,cv,ab⟩
     have cd:=(ab.1.im _ _ _ _ bi ae ae).trans bi;obtain⟨cw,y1,cx,cy⟩:=dq cd;have ce:=cL q (fun k hk=>by obtain⟨aV,ag⟩:=fp q k hk;have cf:=d.block k (cu q k hk).2;exact(ab.1.im k _ _ _ (cf.trans ag) ae ae).trans cf)
     have cg:aA (∀k,fD W k->_):=fun k hk e=>(ab.2 k hk).elim (fun c=>aB.o k c e) (fun c=>by have:=(cu q k e).2;simp at c;omega)
     have ch:fR w0 wr m1 f W:=(fR.of d).trans ab;have cz:¬fD W wr.heap.size:=fun c=>(ab.2 _ c).elim (fun c=>by have:=B.o.fb _ c;omega) (fun c=>by simp at c;omega)
     have bl:Fr (fun k=>k=wr.heap.size) f (f.setCell ⟨wr.heap.size,1,none⟩ (.int .i64 z)):=(Fr.refl (fun k=>k=wr.heap.size) f).set wr.heap.size 1 _ rfl;have ai:=hide (cv.but bl (fun k _ e=>by have e:=e;rw[e];exact⟨⟨_,cd⟩,cz,by have:=B.o.eP.size;omega⟩))
     have bn:=hide (F.o.trans (ch.new bl (fun k e=>by have e:k=wr.heap.size:=e;omega)))
     have al:(f.setCell ⟨wr.heap.size,1,none⟩ (.int .i64 z)).ownsRow w.heap.size 97 2 (.slice a2 j c2) j (ev i):=cL ce (fun k hk=>bl.block k (cu ce k hk).2 (fun c=>by have c:k=wr.heap.size:=c;have:=(cu q k hk).2;omega))
     have q0:(f.setCell ⟨wr.heap.size,1,none⟩ (.int .i64 z)).cell? (av wr.heap.size 0)=some (ak 3):=(aY f ⟨wr.heap.size,1,none⟩ ⟨wr.heap.size,0,none⟩ _ ac).trans cw;have q1:(f.setCell ⟨wr.heap.size,1,none⟩ (.int .i64 z)).cell? (av wr.heap.size 1)=some (ak z):=a_ _ _ _ y1;have cA:(f.setCell ⟨wr.heap.size,1,none⟩ (.int .i64 z)).heap.size=f.heap.size:=by simp[World.setCell]
     have cB:=cx 1;have cC:=ch.1.size
     go_upto_region 7 with fail
     generalize f.setCell ⟨wr.heap.size,1,none⟩ (.int .i64 z)=t at*;have p:=hide al;have cJ:w.heap.size<=t.heap.size:=aa;clear y1 cB cy cA cC;go_wp2_with (at_builtin;refine wpList_append_own_at _ rfl _ _ 57 rfl w.heap.size 97 a1 (.agg #[.int .i64 0,.int .i64 0]) 2 16 underlying57 hi a3 ba bb rfl ae (.slice a2 j c2) j (ev i) rfl (f9 al _) ⟨t.heap.size,0,none⟩ 1 1 [.int .i64 3,.int .i64 z] rfl rfl ?_ ?_ ?_ ?_ ?_ ?_;(intro j u b;match j,b with|0,b=>(simp at b;subst b;simp[Addr.add])|1,b=>(simp at b;subst b;simp[Addr.add]));(intro u g;simp at g;rcases g with g|g<;>(subst g;rfl));(unfold maxLen;omega);omega;(simp;omega);intro cD bo am bp _ br;obtain⟨b4,an,bs⟩:=eT am (Nat.succ_pos _);subst bs)
     have bt:bo.ownsRow w.heap.size 97 2 (.slice (au b4) (j+1) an) (j+1) (ev (i++[(3,z)])):=by rw[i4];simpa[ev] using am
     have d:=aw t (.cells #[.int .i64 3,.int .i64 z] 97)
     have ao:=(Fr.refl _ _).grown bp (fun k e=>aM e.symm)
     have bx:=hide ((ai.o.below d).but ao (fun k _ e=>by obtain⟨aV,ag⟩:=fp p.o k e;exact⟨⟨aV,(d.block k (cu p.o k e).2).trans ag⟩,fun c=>cg.o k c e,aU ap.o.eP.size (cu p.o k e).1⟩))
     have b0:=hide ((bn.o.trans (fR.of d)).new ao (fun k e=>(cu p.o k e).1))
     have b1:=br.imp id (fun e=>by simpa[Value.ownBlock] using e)
     have b2:aA (∀k,fD W k->some k≠some b4):=fun k hk e=>b1.elim (fun c=>cg.o k hk (e.trans c)) (fun c=>by have:=ai.o.fb k hk;simp at e;omega)
     go_wp2_with fail;go_roundw;exact⟨j+1,i++[(3,z)],s2,cs,W,au b4,an,aa,aj,o,rfl,bt,bx,b0,b2,S⟩
     simp[intOf];omega
    ·have aR:=H7 (M:=M) (s:=s1) aF cc;rw[aR] at o S;have ai:=hide (B.o.below d)
     have bn:=hide (F.o.trans (fR.of d))
     have al:=cL q (fun k hk=>d.block k (cu q k hk).2)
     obtain⟨q0,q1,_,_⟩:=dq bi
     go_upto_region 7 with fail
     generalize wr.alloc (.cells #[.int .i64 v0,.int .i64 v1] 97)=t at*;have p:=hide al;go_wp2_with (at_builtin;refine wpList_append_own_at _ rfl _ _ 57 rfl w.heap.size 97 a1 (.agg #[.int .i64 0,.int .i64 0]) 2 16 underlying57 hi a3 ba bb rfl ae (.slice a2 j c2) j (ev i) rfl (f9 al _) ⟨t.heap.size,0,none⟩ 1 1 [.int .i64 v0,.int .i64 v1] rfl rfl ?_ ?_ ?_ ?_ ?_ ?_;(intro j u b;match j,b with|0,b=>(simp at b;subst b;simp[Addr.add])|1,b=>(simp at b;subst b;simp[Addr.add]));(intro u g;simp at g;rcases g with g|g<;>(subst g;rfl));(unfold maxLen;omega);omega;(simp;omega);intro cD bo am bp _ br;obtain⟨b4,an,bs⟩:=eT am (Nat.succ_pos _);subst bs)
     have bt:bo.ownsRow w.heap.size 97 2 (.slice (au b4) (j+1) an) (j+1) (ev (i++[(v0,v1)])):=by rw[i4];simpa[ev] using am
     have d:=aw t (.cells #[.int .i64 v0,.int .i64 v1] 97)
     have ao:=(Fr.refl _ _).grown bp (fun k e=>aM e.symm)
     have bx:=hide ((ai.o.below d).but ao (fun k _ e=>by obtain⟨aV,ag⟩:=fp p.o k e;exact⟨⟨aV,(d.block k (cu p.o k e).2).trans ag⟩,fun c=>aB.o k c e,aU ap.o.eP.size (cu p.o k e).1⟩))
     have b0:=hide ((bn.o.trans (fR.of d)).new ao (fun k e=>(cu p.o k e).1))
     have b1:=br.imp id (fun e=>by simpa[Value.ownBlock] using e)
     have b2:aA (∀k,fD m1 k->some k≠some b4):=fun k hk e=>b1.elim (fun c=>aB.o k hk (e.trans c)) (fun c=>by have:=ai.o.fb k hk;simp at e;omega)
     go_wp2_with fail;go_roundw;exact⟨j+1,i++[(v0,v1)],s1,ar,m1,au b4,an,aa,aj,o,rfl,bt,bx,b0,b2,S⟩
     simp[intOf];omega
   ·obtain rfl:j=l.length:=aa;rw[bz] at be;go_wp2_with fail;go_ret;rw[be.o];exact⟨ar,m1,a2,c2,rfl,q,B.o,F.o,aB.o⟩
end
theorem Kd:(prog.info? 107).map (fun i=>(i.zero,i.size,i.bytes))=some (some (.agg #[ak 0,.slice none 0 0]),2,32):=ah
section
variable {w0 w w':az}{kb ct b9:Nat}{s:cW}{vn:Value}{m:List dY}
theorem fA.turned (h:fA w0 w kb ct b9 s vn m)(f:Fr (fun k=>k=ct) w w'):fJ w0.heap.size w w'/\w'.heap[kb]?=some (.cells #[aq b9,.map (some ct),vn] 231 (0,0))/\w'.ownsRow w0.heap.size 107 2 vn m.length (nv m)/\(∀x∈m,fC w' x.2.1 x.2.2.2)/\Below w0.heap.size w0 w':=by
 obtain⟨g,i,hb⟩:=h.mp.blk;have hk:fJ w0.heap.size w w':=⟨f.os,f.tape,f.output,f.size,fun k hk hl=>f.block k hk (fun e=>by have e:=e;have:=h.lo.2;omega),fun k j e mm hk _ _=>f.block k (lt_of_some hk) (fun c=>by have c:=c;rw[c,hb] at hk;simp at hk)⟩
 refine⟨hk,(f.block kb (lt_of_some h.blk) (fun c=>?_)).trans h.blk,cL h.row (fun k e=>f.block k (cu h.row k e).2 (fun c=>?_)),fun x d=>(h.fl x d).mI hk,h.eP.trans (hk.below h.eP.size)⟩
 ·have c:=c;have:=h.blk;rw[c,hb] at this
  simp at this
 ·obtain⟨l,b⟩:=fp h.row k e;rw[c,hb] at b;simp at b
end
theorem fA.grown {w0 w p f:az}{d ct b9:Nat}{ms:List Int}{q:List _}{l i:Value}{m:List dY}{kd:Int}
 (hk:w.heap[d]?=some (.cells #[aq b9,.map (some ct),l] 231 (0,0)))(lo:w0.heap.size<=d/\w0.heap.size<=ct)(hm:eF w ct ms.length (kN ms))(hr:w.ownsRow w0.heap.size 107 2 l m.length (nv m))(s:ij m=q)(t:∀x∈m,fC w x.2.1 x.2.2.2)(hb:Below w0.heap.size w0 w)
 (g:Below w.heap.size w p)(h4:f.ownsRow w0.heap.size 107 2 i (m.length+1) (nv m++[ak kd,.slice none 0 0]))(g4:p.grownBy f l.ownBlock):
 fA w0 (f.setCell ⟨d,2,none⟩ i) d ct b9 (ms,q++[(kd,[])]) i (m++[(kd,none,0,[])])/\fR w0 w m (f.setCell ⟨d,2,none⟩ i) (m++[(kd,none,0,[])])/\f.heap[d]?=some (.cells #[aq b9,.map (some ct),l] 231 (0,0)):=by
 obtain⟨F,N,j⟩:=hm.blk;have u:=(fJ.of g).trans (fJ.grown g4 (fun k e=>⟨(cu hr k e.symm).1,fun S ty mm hc=>by obtain⟨cur,h8⟩:=fp hr k e.symm;have:=(g.block k (lt_of_some h8)).trans h8;rw[this] at hc;simp at hc;exact aL hc.2.1.symm⟩))
 have hk4:=(g4.block d (aO (lt_of_some hk) g.size) (fun e=>by obtain⟨cur,h8⟩:=fp hr d e;rw[hk] at h8;simp at h8)).trans ((g.block d (lt_of_some hk)).trans hk)
 have n:fJ w0.heap.size w (f.setCell ⟨d,2,none⟩ i):=u.trans (fJ.set hk4 (aM rfl) lo.1)
 have v:ct≠d:=fun e=>by rw[e,hk] at j;simp at j
 have B:(nv (m++[(kd,none,0,[])]:List dY))=nv m++[ak kd,.slice none 0 0]:=by rw[wA];rfl
 refine⟨⟨?_,lo,?_,?_,?_,fun x b=>?_,hb.trans (n.below hb.size)⟩,⟨n,fun k hk=>?_⟩,hk4⟩
 ·simp only [World.setCell,Array.getElem?_modify,if_true,hk4,Option.map_some];rfl
 ·refine hm.same ((aW _ _ _ _ v).trans ((g4.block ct (aO (lt_of_some j) g.size) (fun e=>?_)).trans (g.block ct (lt_of_some j))))
  obtain⟨cur,h8⟩:=fp hr ct e;rw[j] at h8;simp at h8
 ·rw[B,a7];exact yq
 ·simp[ij] at s⊢;exact s
 ·rcases List.mem_append.1 b with b|b
  ·exact(t x b).mI n
  ·simp at b;subst b;exact fC.nil
 ·obtain⟨x,b,hl,o,e⟩:=hk;rcases List.mem_append.1 b with b|b
  ·exact aM ⟨x,b,hl,o,e⟩
  ·simp at b;subst b;simp at hl
theorem fA.filled {w0 w:az}{j ct b9 g cap len:Nat}{s:cW}{m:List dY}(h:fA w0 w j ct b9 s (.slice (au g) len cap) m){i:Nat}{k0:Int}{v0:List _}(hi:s.2[i]?=some (k0,v0)){base c2:Nat}{a2:Option Addr}{b:List _}
 (hr:w.ownsRow base 97 2 (.slice a2 b.length c2) b.length (ev b)):
 fA w0 (w.setCell ⟨g,i*2+1,none⟩ (.slice a2 b.length c2)) j ct b9 (s.1,s.2.set i (k0,b)) (.slice (au g) len cap) (m.set i (k0,a2,c2,b))/\fJ w0.heap.size w (w.setCell ⟨g,i*2+1,none⟩ (.slice a2 b.length c2))/\(∀k,fD (m.set i (k0,a2,c2,b)) k->fD m k\/base<=k):=by
 obtain⟨q,f⟩:=fp h.row g rfl;have d:fJ w0.heap.size w (w.setCell ⟨g,i*2+1,none⟩ (.slice a2 b.length c2)):=fJ.set f (aL rfl) (cu h.row g rfl).1;obtain⟨x,hx,l⟩:∃x:dY,m[i]?=some x/\(x.1,x.2.2.2)=(k0,v0):=by exact yt
 have n:x.1=k0:=congrArg Prod.fst l;have p:len=m.length:=by
  rcases h.row.2 with⟨hv,_⟩|⟨t,u,v,hv,_⟩
  ·simp at hv
  ·simp at hv;exact hv.2.1
 refine⟨⟨(aW _ _ _ _ (fun c=>?_)).trans h.blk,h.lo,h.mp.same (aW _ _ _ _ (fun c=>?_)),?_,?_,fun y hy=>?_,h.eP.trans (d.below h.eP.size)⟩,d,fun k hk=>?_⟩
 ·have c:=c;have:=h.blk;rw[c,f] at this
  simp at this
 ·obtain⟨B,F,hb⟩:=h.mp.blk;rw[c,f] at hb;simp at hb
 ·rw[bf,<-n,sy m i x a2 c2 b hx];have:=h.row;rw[<-p] at this⊢
  exact mU this _ _
 ·rw[ij,List.map_set];show((ij m).set i (k0,b))=_;rw[h.nd]
 ·rcases List.mem_or_eq_of_mem_set hy with hy|hy
  ·exact(h.fl y hy).mI d
  ·subst hy;exact(fC.of hr).mI d
 ·obtain⟨y,hy,hl,o,e⟩:=hk;exact yp
theorem Ke {T:List cI}{x:Int}(h:0<=x/\cz T x.toNat)(b:T.length<=10000):fg T (3,x):=by
 refine⟨?_,fun _=>h⟩
 have c:=h.2.1;rw[sj];unfold rc;rw[aI aa,aI aa]
theorem Kh {T:List cI}{wt:List ce}(hv:nG T wt){a:Int}(ha:0<=a/\cz T a.toNat):∀v∈gW T wt a,fg T v:=fun v h=>by
 unfold gW at h;split at h
 ·obtain⟨x,b,rfl⟩:=List.mem_map.1 h;unfold eu at b;obtain⟨e,he,rfl⟩:=List.mem_map.1 b;exact Ke (hv.wv e (List.mem_filter.1 he).1).2 hv.l1
 ·exact hv.fv _ ha.2 v h
theorem Ki {T:List cI}{wt:List ce}(hv:nG T wt)(a:Int):(gW T wt a).length<=20000:=by
 unfold gW;split
 ·rw[aZ];have b:=o8 wt a;have c:=hv.l2;omega
 ·have:=hv.tl a.toNat;omega
section
variable {w0:az}{kb ct b9:Nat}{ch b_:Int}{l:gU}{S:cn}
theorem Kj (hg:dN b9 ch b_ l S w0)(hv:nG S.T S.wt)(ab:∀i,cz S.T i->(S.T.getD i t0).1=5->(S.T.getD i t0).2.1=[])(n:Nat)(M:cW->Int->cW)(hM:pU w0 kb ct b9 S.T M n)(aB:lv (tI S.T.length) (g_ S.T) (hC S.T S.wt) n M):
 pU w0 kb ct b9 S.T (fun s a=>((dC M (tI S.T.length) (s.1++[a],s.2++[(g_ S.T a,[])]) (hC S.T S.wt a)).2.1,(dC M (tI S.T.length) (s.1++[a],s.2++[(g_ S.T a,[])]) (hC S.T S.wt a)).2.2.set s.1.length (g_ S.T a,(dC M (tI S.T.length) (s.1++[a],s.2++[(g_ S.T a,[])]) (hC S.T S.wt a)).1))) (n+1):=by
 intro w s cS m a h ho ha hn hl;obtain⟨cl,hi,cm,cn,co⟩:=info_parts Kd;have aF:a∈tI S.T.length:=pP.2 ⟨ha.1,by have:=ha.2.1;have:=ha.1;omega⟩
 have bn:=hv.l1;have cp:=ho.lt aF hn;rw[nF] at cp;have al:a<10000:=by have:=ha.2.1;omega
 have cq:m.length=s.1.length:=by rw[h.len,ho.len]
 have aR:=ho.more aF hn (g_ S.T a,[])
 have ag:=nU M (tI S.T.length) (s.1++[a],s.2++[(g_ S.T a,[])]) (hC S.T S.wt a)
 have G:=p9 aB aR (by rw[nF];simp;omega) (hC S.T S.wt a)
 have bo:(dC M (tI S.T.length) (s.1++[a],s.2++[(g_ S.T a,[])]) (hC S.T S.wt a)).2.2[s.1.length]?=some (g_ S.T a,[]):=by rw[G.old s.1.length ac,List.getElem?_append_right (by rw[ho.len];exact aG _),ho.len];simp
 have cT:s.1.length<(dC M (tI S.T.length) (s.1++[a],s.2++[(g_ S.T a,[])]) (hC S.T S.wt a)).2.1.length:=by
  have:=G.le;simp at this
  omega
 have cr:(dC M (tI S.T.length) (s.1++[a],s.2++[(g_ S.T a,[])]) (hC S.T S.wt a)).2.2.length=(dC M (tI S.T.length) (s.1++[a],s.2++[(g_ S.T a,[])]) (hC S.T S.wt a)).2.1.length:=G.ok.len;have aV:=J9 (wt:=S.wt) (ab _ ha.2)
 have bp:(gW S.T S.wt a).length=(hC S.T S.wt a).length:=by rw[<-aV,aZ]
 have br:aA (∀(b:az)(bs:Value)(a0:List dY)(ad:Option Addr)(cap:Nat),fA w0 b kb ct b9 (s.1++[a],s.2++[(g_ S.T a,[])]) bs a0->fC b ad (gW S.T S.wt a)->
  Calls prog 211 #[aq kb,.slice ad (gW S.T S.wt a).length cap] b fun e w'=>∃cs a1 a2 c2,e=.returned (.slice a2 (gW S.T S.wt a).length c2)/\w'.ownsRow b.heap.size 97 2 (.slice a2 (gW S.T S.wt a).length c2) (gW S.T S.wt a).length (ev (dC M (tI S.T.length) (s.1++[a],s.2++[(g_ S.T a,[])]) (hC S.T S.wt a)).1)/\fA w0 w' kb ct b9 (dC M (tI S.T.length) (s.1++[a],s.2++[(g_ S.T a,[])]) (hC S.T S.wt a)).2 cs a1/\fR w0 b a0 w' a1/\(∀k,fD a1 k->some k≠(Value.slice a2 (gW S.T S.wt a).length c2).ownBlock)):=
  fun b bs a0 ad cap ab cu=>by
   have P:=A4 hM aB ab aR (by simp;omega) bn (gW S.T S.wt a) (Kh hv ha) ad cap cu (by have:=Ki hv a;omega)
   rw[aV] at P;exact P
 have bt:aA (∀w1,Below w0.heap.size w0 w1->w1.cell? (av kb 0)=some (aq b9)->Calls prog 254 #[aq kb,ak a] w1 fun e w'=>∃ad cap,e=.returned (.slice ad (gW S.T S.wt a).length cap)/\fC w' ad (gW S.T S.wt a)/\Below w1.heap.size w1 w'):=
  fun w1 hb hc=>J_ (hg.below hb) kb hc a ha bn hv.l2
 have a3:aA (∀w1,Below w0.heap.size w0 w1->w1.cell? (av b9 2)=some (.map (some l.mb))/\(Instr.lookup 184 (.map (some l.mb)) (ak a) false).run prog w1=.ok (.agg #[ak (g_ S.T a),.slice (l.fm a.toNat).1 (S.T.getD a.toNat t0).2.1.length (l.fm a.toNat).2]) w1/\b9<w1.heap.size):=fun w1 hb=>by have g1:=hg.below hb;obtain⟨_,_,c2,_,_,_,_,_,cv⟩:=g1.cells;have L:=g1.g2.mp.look (t:=184) (e:=220) underlying184 (mC w1) (x:=a) ha.1 aa;rw[jk ha] at L;exact⟨c2,L,cv⟩
 have cU:aA (b9<w0.heap.size):=hg.cells.2.2.2.2.2.2.2.2;obtain⟨w1,cw,ba,bx⟩:=h.mp.put (t:=229) (e:=2) underlying229 aa (x:=a) ha.1 aa (.int .i64 s.1.length)
 rw[J7 hn] at ba;have b0:Fr (fun k=>k=ct) w w1:=(Fr.refl _ _).grown bx (fun k e=>aM (by cases e;rfl))
 have cx:=h.turned b0;have b1:aA (eF w1 ct (s.1++[a]).length (kN (s.1++[a]))):=by rw[a7,List.length_singleton];exact ba
 have hlo:=h.lo;obtain⟨B,dJ,cy⟩:=eN h.row;subst cy;obtain⟨c0,c1,c2,lk⟩:=h.cells;have b2:aA (ij m=s.2):=h.nd;clear hM aB G aR hv hg ba bx b0 aV ab ha h ho aF hn hl;dsimp only;generalize dC M (tI S.T.length) (s.1++[a],s.2++[(g_ S.T a,[])]) (hC S.T S.wt a)=R at*;rw[<-bp] at ag;clear bp;generalize gW S.T S.wt a=cV at*;obtain⟨cX,cA⟩:=R;dsimp only at*;generalize g_ S.T a=kd at*;generalize (S.T.getD a.toNat t0).2.1.length=cB at*;generalize (l.fm a.toNat).1=cC at*;generalize (l.fm a.toNat).2=fc at*;generalize s.1.length=L at*;subst cq;obtain⟨bb,d,bd,b3,F⟩:=cx;obtain⟨cD,G2,G3⟩:=a3.o w1 F;obtain⟨_,G4,_⟩:=a3.o w1.drew F.drew;have cE:(Instr.field 220 (.agg #[ak kd,.slice cC cB fc]) 0).run prog w1.drew=.ok (ak kd) w1.drew:=by first|rfl|kernel_rfl|simp[cY]
 have cF:w1.cell? (av kb 0)=some (aq b9):=aD d
 have b5:w1.cell? (av kb 2)=some (.slice B m.length dJ):=aD d
 have b6:w1.frozen? (av kb 2)=false:=aE d
 have be:kb<w1.heap.size:=lt_of_some d;have o:aA (_/\_/\_/\_/\_):=⟨bb,d,bd,b3,F⟩
 have ca:aA (fR w0 w m w1 m):=⟨bb,fun k h=>aM h⟩
 have cb:some kb≠(Value.slice B m.length dJ).ownBlock:=fun e=>by obtain⟨cZ,cc⟩:=fp bd kb e;rw[d] at cc;simp at cc
 have c3:w0.heap.size<=w1.heap.size:=F.size;clear bb d bd b3 F a3 G2;have N:=(aw w1 (.cells #[.int .i64 kd,.slice none 0 0] 107)).drew;have cd:aA ((w1.alloc (.cells #[.int .i64 kd,.slice none 0 0] 107)).drew.ownsRow w0.heap.size 107 2 (.slice B m.length dJ) m.length (nv m)):=cL (f9 o.o.2.2.1 _) (fun _ _=>rfl)
 go_enter func251,ntmps251;go_wp2_with fail;clear cw c0 c1 c2 lk
 go_region_law (refine step_append_lies _ rfl (.tmp 22) (.tmp 34) 58 rfl w0.heap.size 107 cl (.agg #[ak 0,.slice none 0 0]) 2 32 underlying58 hi cm cn co rfl ae (.slice B m.length dJ) m.length (nv m) (by simp[Act.eval]) cd.o ⟨w1.heap.size,0,none⟩ 1 1 [ak kd,.slice none 0 0] (by simp[Act.eval]) rfl ?_ ?_ ae (by unfold maxLen;omega) aa (by simp;omega) _ rfl ?_;(intro j u f;match j,f with|0,f=>(simp at f;subst f;simp[Addr.add])|1,f=>(simp at f;subst f;simp[Addr.add]));(intro u W;simp at W;rcases W with W|W<;>(subst W;rfl));intro b4 ai am ce an cG cH;have cI:=an.cell (a:=⟨kb,2,none⟩) (v:=.slice B m.length dJ) ((N.cell (p:=av kb 2) be).trans b5) cb;have cJ:am.frozen? (av kb 2)=false:=(World.frozen?_of_block (a:=⟨kb,2,none⟩) (an.block _ (aO be N.size) cb)).trans ((N.frozen (p:=av kb 2) be).trans b6))
 all_goals
  have cK:=fA.grown o.o.2.1 hlo b1.o o.o.2.2.1 b2.o o.o.2.2.2.1 o.o.2.2.2.2 N ce an;obtain⟨cf,cg,_⟩:=cK;have bg:aA (fR w0 w m (am.setCell ⟨kb,2,none⟩ (.slice (some ⟨b4,0,none⟩) (m.length+1) ai)) (m++[(kd,none,0,[])])):=ca.o.trans cg;have ao:aA (fA w0 (am.setCell ⟨kb,2,none⟩ (.slice (some ⟨b4,0,none⟩) (m.length+1) ai)) kb ct b9 (s.1++[a],s.2++[(kd,[])]) (.slice (au b4) (m.length+1) ai) (m++[(kd,none,0,[])])):=cf;clear cf cg ca cd N o b1 b2 ce an cG cH cI cJ cF b5 b6 cD G3 G4 cE;go_wp2_with fail;generalize am.setCell ⟨kb,2,none⟩ (.slice (some ⟨b4,0,none⟩) (m.length+1) ai)=b at*;refine(bt.o b ao.o.eP ao.o.cells.1).mono ?_;clear bt;rintro e cM ⟨ad,cap,rfl,ci,ap⟩
  go_wp2_with fail;refine(br.o cM _ _ ad cap (ao.o.below ap) ci).mono ?_;clear br;rintro e cN ⟨c4,g,a2,c5,rfl,bi,q,cj,cO⟩
  have c6:g.length=cA.1.length:=q.len.trans cr;obtain⟨c7,c8,cP⟩:=eT q.row aa;subst cP;have c9:=q.cells.2.2.1;have cQ:m.length<g.length:=aa;obtain⟨bl,da⟩:=jR q.row ((oW g m.length _ (aN cQ)).2)
  rw[<-ag] at bi;have ar:aA (_/\_/\_):=q.filled bo bi;have ck:aA (fR w0 w m cN g):=(bg.o.trans (fR.of ap)).trans cj;have cR:=((bg.o.trans (fR.of ap)).1).size;generalize (g[m.length]).2.1=q1 at bl;generalize (g[m.length]).2.2.2.length=db at bl;generalize (g[m.length]).2.2.1=q3 at bl;rw[ag] at ar;clear ci ap bi q cj cO bg ao bo ag;go_wp2_with fail;go_ret;exact⟨_,_,rfl,ar.o.1,ck.o.1.trans ar.o.2.1,fun k hk=>(ar.o.2.2 k hk).elim (ck.o.2 k) (fun c=>aL (aU cR c))⟩
theorem A6 (hg:dN b9 ch b_ l S w0)(hv:nG S.T S.wt)(b:∀i,cz S.T i->(S.T.getD i t0).1=5->(S.T.getD i t0).2.1=[]):∀n,pU w0 kb ct b9 S.T (met (tI S.T.length) (g_ S.T) (hC S.T S.wt) n) n
 |0=>fun w s d m a _ ho ha hn hl=>by have c:=ho.lt (pP.2 ⟨ha.1,by have:=ha.2.1;omega⟩) hn;rw[nF] at c;omega
 |n+1=>Kj hg hv b n _ (A6 hg hv b n) (jQ n)
end
end Go.Proofs.YtpkjkjhanlbcoaaGreat
