import Derived.Test.YtjpjpjemibgjpaaGreatJ12
import Derived.Maps.RangeWalk
import Derived.Tactics
import Derived.Tactics2
import Derived.Recover
namespace Go.Proofs.YtjpjpjemibgjpaaGreat
set_option maxRecDepth 100000
set_option maxHeartbeats 2000000
open Tryz
open Go.RowKit W
theorem tm {P:Prop}(h:P:=by go_wp2_with fail;refine fin _ ?_;intro w1 hb;obtain⟨c0,c1,hz⟩:=vz hb;obtain⟨_,hf⟩:=m9 hb;have f0:=hf w.heap.size 0 Z;have f1:=hf w.heap.size 1 Z;simp[go_sem] at f0 f1;go_wp2;exact bv (v:=.agg #[ah 1,ah (-1)]) (by simp[results,results7,go_sem,c0,c1]) rfl ⟨rfl,(((bX.alloc bW _).trans (hb.mono Z)).setCell bW _).setCell bW _⟩):P:=h
theorem ya {P:Prop}(h:P:=by
 have hl:((ws.drop f).take n).length=n:=by simp;omega
 unfold splice;rw[hl];simp only [List.getD_eq_getElem?_getD];by_cases c:i<t
 ·rw[List.getElem?_append_left (by simp;omega),aE V,List.getElem?_take_of_lt c]
 ·have e1:(ws.take t).length=t:=by simp;omega
  rw[List.getElem?_append_right V,e1];by_cases c2:i<t+n
  ·rw[aH V,List.getElem?_append_left V,List.getElem?_take_of_lt V,List.getElem?_drop,show f+(i-t)=f+i-t by omega]
  ·rw[aE V,List.getElem?_append_right V,hl,List.getElem?_drop,show t+n+(i-t-n)=i by omega]):P:=h
theorem qr {P:Prop}(h:P:=by rw[dX (g9 hi.1 hi.2),dX (g9 hi.1 hi.2),kS _ _ _ _ _ hlt,aE V,aE V]):P:=h
theorem tp {P:Prop}(h:P:=by rw[dX (ih hi.1 V),dX (ih hi.1 hi.2),kS _ _ _ _ _ hlt,aE V,aE V]):P:=h
theorem yb {P:Prop}(h:P:=by rw[hw1,a4 _ _ _ Z];simpa using aL (W4.alloc (.cells #[.pointer (some ⟨o.p,0,none⟩)] 52)) (.cells #[.bool false] 4)):P:=h
theorem yc {P:Prop}(h:P:=by simpa using aL (w.alloc (.cells #[.pointer (some ⟨o.p,0,none⟩)] 52)) (.cells #[fa.v,fk.v,fn.v] 120)):P:=h
theorem EU (n o:Int)(w:au)(h0:16<=n)(b:n<=256)(c:0<=o)(d:o<=1024):
 Calls prog 7 #[ah n,ah o] w fun e w'=>e=.returned (.agg #[ah 0,ah 0])/\Below w.heap.size w w':=by
 go_enter func7,ntmps7;go_wp2_with fail;exact bv (v:=.agg #[ah 0,ah 0]) (by simp[results,results7,go_sem]) rfl ⟨rfl,bX.alloc bW _⟩
theorem EV (n o:Int)(w:au)(h:n<16\/256<n\/o<0\/1024<o):
 Calls prog 7 #[ah n,ah o] w fun e w'=>e=.returned (.agg #[ah 1,ah (-1)])/\Below w.heap.size w w':=by
 have fin:∀(R:Ending->au->Prop),(∀w1,Below (w.alloc (.cells #[.int .i64 0,.int .i64 0] 28)).heap.size (w.alloc (.cells #[.int .i64 0,.int .i64 0] 28)) w1->R (.returned (.agg #[ah 1,ah (-1)])) w1)->Calls prog 22 #[ah 1,ah (-1)] (w.alloc (.cells #[.int .i64 0,.int .i64 0] 28)) R:=by
  intro R b;refine(ET 1 (-1) _).mono ?_;rintro e w1 ⟨rfl,hb⟩
  exact b w1 hb
 by_cases c:n<16
 ·go_enter func7,ntmps7;exact tm
 by_cases d:256<n
 ·go_enter func7,ntmps7;exact tm
 by_cases f:o<0
 ·go_enter func7,ntmps7;exact tm
 have g:1024<o:=V;go_enter func7,ntmps7;go_wp2_with fail;refine fin _ ?_;intro w1 hb;obtain⟨c0,c1,hz⟩:=vz hb;obtain⟨_,hf⟩:=m9 hb;have f0:=hf w.heap.size 0 Z;have f1:=hf w.heap.size 1 Z;simp[go_sem] at f0 f1;go_wp2;exact bv (v:=.agg #[ah 1,ah (-1)]) (by simp[results,results7,go_sem,c0,c1]) rfl ⟨rfl,(((bX.alloc bW _).trans (hb.mono Z)).setCell bW _).setCell bW _⟩
open Go.RowKit W Kp cg
def hld (v:Value):Option (DataW Value×List MemPlace):=some (.held v,[])
section
variable {w w':au}{b r n c:Nat}{f:Int->Option Value}{t e:TypeId}{left:Int->Bool}
end
abbrev Fm:=Nat->Option Addr×Nat
structure iQ where
 own:Nat->Nat
 mb:Nat
 bp:Nat
 rb:Nat
 fm:Fm
 JJ:Nat
 n:Nat
 a0:Option Addr
 k0:Nat
 a1:Option Addr
 k1:Nat
section
variable {iC:Nat}{b9 bY:Int}{l:iQ}{s:cj}{w w':au}{T:List cG}{r q:List bZ}{rs:List (Int×Int)}
end
section
variable {iC:Nat}{b9 bY:Int}{l:iQ}{F:Nat->Prop}{s:cj}{w w':au}
end
section
variable {iC:Nat}{b9 bY:Int}{l:iQ}{s:cj}{w:au}
end
section
variable {B:Nat}{w w' w'':au}
end
section
variable {w0 w w':au}{kb co iC:Nat}{s:cL}{vn:Value}{m:List dm}
end
structure f_ where
 A:List Bool
 td:List Int
 hd:Int->List (Int×Int)
 m:Nat
def tq (s:f_)(v:Int×Int):f_:=if dq s.A v=true then s else {s with A:=s.A.set v.2.toNat true,td:=s.td++[v.2]}
def yd (s:f_)(l:List (Int×Int)):f_:=l.foldl tq s
def EW (s:f_)(k v:Int×Int):f_:=if dq s.A k=true then tq s v else {s with hd:=fun x=>if x=k.2 then s.hd x++[v] else s.hd x,m:=s.m+1}
def p6 (T:List cG)(wt:List bZ)(s:f_)(i:Int):f_:=
 if(T.getD i.toNat t0).1=1\/(T.getD i.toNat t0).1=2 then yd s (T.getD i.toNat t0).2.1
 else if(T.getD i.toNat t0).1=3 then tq s ((T.getD i.toNat t0).2.1.getD 1 (0,0))
 else if(T.getD i.toNat t0).1=4 then EW s ((T.getD i.toNat t0).2.1.getD 0 (0,0)) ((T.getD i.toNat t0).2.1.getD 1 (0,0))
 else if(T.getD i.toNat t0).1=5 then yd s ((g7 wt i).map fun x=>(3,x)) else s
section
variable {T:List cG}{wt:List bZ}{is:List Bool}{s:f_}{E:List Int}
end
section
variable {T:List cG}{wt:List bZ}{is:List Bool}{s:f_}{E:List Int}
end
section
variable {iC:Nat}{b9 bY:Int}{l:iQ}{F:Nat->Prop}{s:cj}{w w':au}{T T':List cG}
end
section
variable {c:Cp}{own:Nat->Nat}{vt:Value}{n1 n2:Nat}{hm:Int->Option Addr×Nat}{st:f_}{w w':au}
end
section
variable {c:Cp}{own own' qs:Nat->Nat}{vt:Value}{n1 n2:Nat}{hm:Int->Option Addr×Nat}{st:f_}{w w' w'':au}
end
section
variable {iC:Nat}{b9 bY:Int}{l:iQ}{F:Nat->Prop}{s:cj}{w:au}
end
section
variable {c:Cp}{own:Nat->Nat}{vt:Value}{n1 n2:Nat}{hm:Int->Option Addr×Nat}{st:f_}{w:au}
end
section
variable {T:List cG}{fm:Fm}{A:List Bool}{lab:Nat->Nat}{cp ab n1:Nat}{fs:Nat->List (Int×Int)}{w w':au}
end
section
variable {c:Cp}{own own':Nat->Nat}{vt kZ:Value}{n1 n2 n1' k3:Nat}{hm hm':Int->Option Addr×Nat}{st st':f_}{F:Nat->Prop}{w w':au}
end
section
variable {c:Cp}{own own' qs:Nat->Nat}{vt kZ:Value}{n1 n2 n1' k3:Nat}{hm hm':Int->Option Addr×Nat}{st st':f_}{F:Nat->Prop}{w w' w'':au}
end
section
variable {c:Cp}{own own' qs:Nat->Nat}{vt kZ:Value}{n1 n2 n1' k3:Nat}{hm hm':Int->Option Addr×Nat}{st st':f_}{F:Nat->Prop}{w w' w'':au}
end
section
variable {c:Cp}{own own' qs:Nat->Nat}{vt kZ:Value}{n1 n2 n1' k3:Nat}{hm hm':Int->Option Addr×Nat}{st st':f_}{F:Nat->Prop}{w w' w'':au}
end
section
variable {c:Cp}{own own' qs:Nat->Nat}{vt kZ:Value}{n1 n2 n1' k3:Nat}{hm hm':Int->Option Addr×Nat}{st st':f_}{F:Nat->Prop}{w w' w'':au}
end
section
variable {T:List cG}{wt:List bZ}{is:List Bool}{s:f_}
end
section
variable {c:Cp}{own own':Nat->Nat}{vt kZ:Value}{n1 n2 n1' k3:Nat}{hm hm':Int->Option Addr×Nat}{st:f_}{w w':au}{is:List Bool}
end
section
variable {iC rb:Nat}{b9 bY:Int}{l:iQ}{F:Nat->Prop}{s:cj}{w w':au}
end
section
variable {iC rb:Nat}{b9 bY:Int}{l:iQ}{F:Nat->Prop}{s:cj}{w w':au}
end
section
variable {iC:Nat}{b9 bY:Int}{l:iQ}{s:cj}{w:au}
end
section
variable {c:Cp}{own own':Nat->Nat}{vt kZ:Value}{n1 n2 n1' k3:Nat}{hm hm':Int->Option Addr×Nat}{st:f_}{w w':au}{is:List Bool}
end
section
variable {c:Cp}{own own':Nat->Nat}{vt kZ:Value}{n1 n2 n1' k3:Nat}{hm hm':Int->Option Addr×Nat}{st:f_}{w w':au}{is:List Bool}{sb:Int->Bool}
end
theorem EX (a b c:Addr)(w:au):
 CallsD prog 172 #[.pointer (some a),.pointer (some b),.pointer (some c)] .returning w fun e d w'=>e=.returned (.tuple #[])/\d=.returning/\w'=w:=by
 refine callsD_of_wpS func172 rfl fun f i g=>?_;apply wpS_seq;apply wpS_region;simp[wpOpsS,go_sem,recoverD,g,ntmps172,Exit.thenS];refine wpS_cond (t:=false) (by simp[Act.eval,Array.replicate]) ?_;refine wpS_of_wp (wp_skip ?_)
 cases f
 simp_all [bodyPostS,results,results172]
theorem ye (f:Nat)(b c:Array Value)(i:d3 f)(w:au)(p:Nat)(a0 a1:Option Addr)(n0 k0 n1 k1:Nat)(c0:w.cell? (am p 0)=some (.slice a0 n0 k0))(c1:w.cell? (am p 1)=some (.slice a1 n1 k1))(R:Bool->au->Prop)
 (h:∀w1,w1=((w.alloc (.cells #[.pointer (some ⟨p,0,none⟩)] 52)).alloc (.cells #[.bool false] 4)).alloc (.cells #[.slice a0 n0 k0,.slice a1 n1 k1] 128)->Calls prog f (b++c) w1 fun r d=>∃g,r=.returned (.bool g)/\R g d/\d.heap[w.heap.size+1]?=some (.cells #[.bool false] 4 (0,0))):
 Calls prog 115 #[aj p,.func (.func f) b c] w fun e w'=>∃g d,e=.returned (.bool g)/\R g d/\d.heap[w.heap.size+1]?=some (.cells #[.bool false] 4 (0,0))/\w'=d.setCell ⟨w.heap.size+1,0,none⟩ (.bool g):=by
 have l:=aK w _ c0;have H:=hide h;clear h;have m:∀(args:Array Value)(w:au),(callFunc f args).run prog w=.ok (.enter f args) w:=i;clear i
 go_enter_defers func115,ntmps115
 go_wp2_with fail;refine(H.o _ rfl).mono ?_;rintro e d ⟨g,rfl,j,hk⟩
 have k:d.cell? (am (w.heap.size+1) 0)=some (.bool false):=ay hk
 have n:d.frozen? (am (w.heap.size+1) 0)=false:=az hk
 go_wp2_with fail;refine leaves_cons (f:=172) (args:=#[aj (w.heap.size+1+1),aj w.heap.size,aj (w.heap.size+1)]) Z (by simp[go_sem]) ?_;refine(EX _ _ _ _).mono ?_;rintro e o q ⟨rfl,rfl,rfl⟩
 simp[Leaves,settle,results,results115,go_sem,(a9 _ _ _ k)];cases g
 ·exact aJ ⟨rfl,d,j,hk,rfl⟩
 ·exact aI ⟨rfl,d,j,hk,rfl⟩
theorem EY:d3 116:=gP func116 ae rfl
theorem ts {j:Type}(o:fB j)(D:Int->Prop)(fa fk fn:fH)(is:j->Int->Bool)(kp:j->Int->Int×j)(nw:j->Int->Int)(Q:lP o D fa fk fn is kp nw)(r:List bZ)(t:Option Addr)(v:Nat)(J:o.vr=.slice t r.length v)(R:r.length<=90000)(hD:∀e∈r,D e.1/\D e.2)
 (F:Nat->Prop)(s:j)(w:au)(S:∀e∈o.wt (fi o is kp s r),D e.1/\D e.2)(U:(o.wt s).length+r.length<=90000)(x:o.J F s w)(W:cY w t r):
 Calls prog 53 #[aj o.p,.agg #[fa.v,fk.v,fn.v]] w fun e w'=>∃a1 c1 a2 c2 b d,e=.returned (.tuple #[])/\o.J b (fi o is kp s r) d/\(∀k,b k->k≠o.p->w'.heap[k]?=d.heap[k]?)/\d.heap.size<=w'.heap.size/\
  w'.heap[o.p]?=some (.cells #[.slice a1 (eP o is kp nw s r).length c1,.slice a2 (eQ o is kp nw s r).length c2] 128 (0,0))/\w'.ownsRow w.heap.size 83 2 (.slice a1 (eP o is kp nw s r).length c1) (eP o is kp nw s r).length (ev (eP o is kp nw s r))/\
  w'.ownsRow w.heap.size 83 2 (.slice a2 (eQ o is kp nw s r).length c2) (eQ o is kp nw s r).length (ev (eQ o is kp nw s r))/\Fr F w w'/\(∀k,b k->F k\/w.heap.size<=k)/\(∀k,some k=(Value.slice a1 (eP o is kp nw s r).length c1).ownBlock->¬b k)/\(∀k,some k=(Value.slice a2 (eQ o is kp nw s r).length c2).ownBlock->¬b k)/\(∀k,some k=(Value.slice a1 (eP o is kp nw s r).length c1).ownBlock->some k≠(Value.slice a2 (eQ o is kp nw s r).length c2).ownBlock):=by
 obtain⟨K,L,hp,_,ap,_⟩:=o.side x;rw[J] at hp;have c0:w.cell? (am o.p 0)=some (.slice t r.length v):=ay hp
 have c1:w.cell? (am o.p 1)=some (.slice K (o.wt s).length L):=ay hp
 have lp:=lt_of_some hp;have Y:av (∀w1,Below w.heap.size w w1->kW w1 o.p (w.heap.size+1) (w.heap.size+2) w.heap.size fa fk fn->w1.heap[w.heap.size+3]?=some (.cells #[mE (w.heap.size+2) (w.heap.size+1) w.heap.size] 81 (0,0))->Calls prog 116 #[aj w.heap.size,aj (w.heap.size+1),aj (w.heap.size+3),aj (w.heap.size+2)] w1 fun e w'=>∃a1 c1 a2 c2 b d,e=.returned (.bool true)/\o.J b (fi o is kp s r) d/\Fr (fun k=>k=o.p) d w'/\
  w'.heap[o.p]?=some (.cells #[.slice a1 (eP o is kp nw s r).length c1,.slice a2 (eQ o is kp nw s r).length c2] 128 (0,0))/\w'.ownsRow w1.heap.size 83 2 (.slice a1 (eP o is kp nw s r).length c1) (eP o is kp nw s r).length (ev (eP o is kp nw s r))/\
  w'.ownsRow w1.heap.size 83 2 (.slice a2 (eQ o is kp nw s r).length c2) (eQ o is kp nw s r).length (ev (eQ o is kp nw s r))/\Fr F w1 w'/\(∀k,b k->F k\/w1.heap.size<=k)/\(∀k,some k=(Value.slice a1 (eP o is kp nw s r).length c1).ownBlock->¬b k)/\(∀k,some k=(Value.slice a2 (eQ o is kp nw s r).length c2).ownBlock->¬b k)/\(∀k,some k=(Value.slice a1 (eP o is kp nw s r).length c1).ownBlock->some k≠(Value.slice a2 (eQ o is kp nw s r).length c2).ownBlock)):=by
  intro w1 M hB hc;have q:∀k,w.heap.size<=k->¬F k:=fun k hk h=>by have:=o.lt x k h;omega
  exact Dz o D fa fk fn is kp nw Q r t v J R hD F s w1 S U _ _ _ _ (o.below x M) hB hc (q _ V) (q _ V) (q _ V) (q _ V) ⟨V,V,V⟩ (W.below M)
 have N:=hide x;go_enter func53,ntmps53;go_wp2_with fail;have f:∃W4,W4=(((w.alloc (.cells #[.pointer (some ⟨o.p,0,none⟩)] 52)).alloc (.cells #[fa.v,fk.v,fn.v] 120)).alloc (.cells #[.func (.func 113) #[] #[.pointer (some ⟨w.heap.size+1,0,none⟩)]] 81)).alloc (.cells #[mE (w.heap.size+1+1) (w.heap.size+1) w.heap.size] 81):=⟨_,rfl⟩
 obtain⟨W4,f⟩:=f;have sz:W4.heap.size=w.heap.size+4:=by rw[f];simp
 have A:Below w.heap.size w W4:=by rw[f];exact((((aD _ w).alloc bW _).alloc Z _).alloc (by simp;omega) _).alloc (by simp;omega) _
 have g0:W4.heap[w.heap.size]?=some (.cells #[aj o.p] 52 (0,0)):=by rw[f,a4 _ _ _ (by simp;omega),a4 _ _ _ (by simp;omega),a4 _ _ _ Z];exact aL _ _
 have g1:W4.heap[w.heap.size+1]?=some (.cells #[fa.v,fk.v,fn.v] 120 (0,0)):=by rw[f,a4 _ _ _ Z,a4 _ _ _ Z];exact yc
 have g2:W4.heap[w.heap.size+2]?=some (.cells #[.func (.func 113) #[] #[aj (w.heap.size+1)]] 81 (0,0)):=by rw[f,a4 _ _ _ Z];simpa using aL ((w.alloc (.cells #[.pointer (some ⟨o.p,0,none⟩)] 52)).alloc (.cells #[fa.v,fk.v,fn.v] 120)) (.cells #[.func (.func 113) #[] #[.pointer (some ⟨w.heap.size+1,0,none⟩)]] 81)
 have g3:W4.heap[w.heap.size+3]?=some (.cells #[mE (w.heap.size+1+1) (w.heap.size+1) w.heap.size] 81 (0,0)):=by rw[f];simpa using aL (((w.alloc (.cells #[.pointer (some ⟨o.p,0,none⟩)] 52)).alloc (.cells #[fa.v,fk.v,fn.v] 120)).alloc (.cells #[.func (.func 113) #[] #[.pointer (some ⟨w.heap.size+1,0,none⟩)]] 81)) (.cells #[mE (w.heap.size+1+1) (w.heap.size+1) w.heap.size] 81)
 rw[<-f];have P:=ye 116 #[] #[aj w.heap.size,aj (w.heap.size+1),aj (w.heap.size+1+1+1),aj (w.heap.size+1+1)] EY W4 o.p t K r.length v (o.wt s).length L ((A.cell (p:=am o.p 0) lp).trans c0) ((A.cell (p:=am o.p 1) lp).trans c1)
  (fun _ g=>∃a1 c1 a2 c2 b d,o.J b (fi o is kp s r) d/\Fr (fun k=>k=o.p) d g/\
    g.heap[o.p]?=some (.cells #[.slice a1 (eP o is kp nw s r).length c1,.slice a2 (eQ o is kp nw s r).length c2] 128 (0,0))/\g.ownsRow (w.heap.size+7) 83 2 (.slice a1 (eP o is kp nw s r).length c1) (eP o is kp nw s r).length (ev (eP o is kp nw s r))/\
    g.ownsRow (w.heap.size+7) 83 2 (.slice a2 (eQ o is kp nw s r).length c2) (eQ o is kp nw s r).length (ev (eQ o is kp nw s r))/\Fr F w g/\(∀k,b k->F k\/w.heap.size+7<=k)/\(∀k,some k=(Value.slice a1 (eP o is kp nw s r).length c1).ownBlock->¬b k)/\(∀k,some k=(Value.slice a2 (eQ o is kp nw s r).length c2).ownBlock->¬b k)/\(∀k,some k=(Value.slice a1 (eP o is kp nw s r).length c1).ownBlock->some k≠(Value.slice a2 (eQ o is kp nw s r).length c2).ownBlock))
  (by
    intro w1 hw1;have s1:w1.heap.size=w.heap.size+7:=by rw[hw1];simp;omega
    have b1:Below W4.heap.size W4 w1:=by rw[hw1];exact(((aD _ W4).alloc bW _).alloc Z _).alloc (by simp;omega) _
    have hk:w1.heap[W4.heap.size+1]?=some (.cells #[.bool false] 4 (0,0)):=by exact yb
    have b2:=A.trans (b1.mono V)
    refine(Y.o w1 b2 ⟨(b1.block _ V).trans g1,(b1.block _ V).trans g2,(b1.block _ V).trans g0⟩ ((b1.block _ V).trans g3)).mono ?_;rintro e g ⟨a1,c1,a2,c2,b,d,rfl,q1,B,q3,l,n,C,u,G,H,I⟩
    rw[s1] at l n u;refine⟨true,rfl,⟨a1,c1,a2,c2,b,d,q1,B,q3,l,n,(Fr.of (X:=F) b2).trans C (fun _ c=>aJ c),u,G,H,I⟩,(C.block _ V (fun h=>?_)).trans hk⟩
    have:=o.lt N.o _ h;omega)
 refine P.mono ?_;rintro e w3 ⟨ab,g,rfl,⟨a1,ad,a2,ag,b,d,q1,B,q3,l,n,C,u,G,H,I⟩,hk,rfl⟩
 obtain⟨m,hm⟩:∃m,m=W4.heap.size+1:=⟨_,rfl⟩
 rw[<-hm];have ai:av (m=w.heap.size+5):=by show m=_;omega
 clear hm hk A g0 g1 g2 g3 sz f;go_wp2_with fail;go_end0;have hm:=ai.o;have E:∀k,k≠m->(g.setCell ⟨m,0,none⟩ (.bool ab)).heap[k]?=g.heap[k]?:=fun k hk=>aN _ _ _ _ hk;refine⟨a1,ad,a2,ag,b,d,rfl,q1,fun k O al=>?_,?_,(E _ V).trans q3,?_,?_,C.trans ((Fr.refl (fun k=>k=m) g).set _ 0 _ rfl) (fun i c=>aI V),fun k h=>(u k h).imp id (fun h=>by omega),G,H,I⟩
 ·refine(E k ?_).trans (B.block k (o.lt q1 k O) al)
  rcases u k O with h|h
  ·have:=o.lt N.o k h;omega
  ·omega
 ·have:=B.size;simpa[World.setCell] using this
 ·exact d7 (cv l (fun k e=>E k (by have:=(ce l k e).1;omega))) (fun k e=>by have:=(ce l k e).1;omega)
 ·exact d7 (cv n (fun k e=>E k (by have:=(ce n k e).1;omega))) (fun k e=>by have:=(ce n k e).1;omega)
def c9 {B:Type}(o:dP B)(p:Nat)(vr:Value):fB (B×List bZ) where
 J F s w:=∃b c d,o.J b s.1 w/\w.heap[p]?=some (.cells #[vr,.slice c s.2.length d] 128 (0,0))/\w.ownsRow 0 83 2 (.slice c s.2.length d) s.2.length (ev s.2)/\(∀k,b k->F k)/\F p/\¬b p/\(∀k,some k=(Value.slice c s.2.length d).ownBlock->F k/\¬b k)/\(∀k,F k->k<w.heap.size)
 lt:=by rintro F t w ⟨b,c,d,x,i,j,l,m,u,v,n⟩ k hk;exact n k hk
 keep:=by rintro F t w w' ⟨b,c,d,x,i,j,l,m,u,v,n⟩ hs hk;exact⟨b,c,d,o.keep x hs (fun k h=>hk k (l k h)),(hk p m).trans i,cv j (fun k e=>hk k (v k e).1),l,m,u,v,fun k h=>aM (n k h) hs⟩
 p:=p
 vr:=vr
 wt s:=s.2
 put s q:=(s.1,q)
 side:=by
  rintro F s w ⟨b,c,d,x,i,j,l,m,u,v,n⟩
  refine⟨c,d,i,⟨gh j,?_,?_⟩,m,fun hp z e=>(v z.block (by rw[e];rfl)).1⟩
  ·rcases j.2 with⟨f,h0⟩|⟨g,E,G,f,_,_,hc,_⟩
   ·omega
   ·simp at f;omega
  ·intro H;rcases j.2 with⟨f,h0⟩|⟨g,E,G,f,_⟩
   ·simp at f;exact⟨h0,f.2.2⟩
   ·rw[H] at f;simp at f
 set:=by
  rintro F s w ⟨b,c,d,x,i,j,l,m,u,v,n⟩ w1 q b1 gj A C;have lp:=lt_of_some i;have K:=ce C b1 rfl;have D:∀k,k≠p->(w1.setCell ⟨p,1,none⟩ (.slice (some ⟨b1,0,none⟩) q.length gj)).heap[k]?=w1.heap[k]?:=fun k hk=>aN _ _ _ _ hk;have hs:(w1.setCell ⟨p,1,none⟩ (.slice (some ⟨b1,0,none⟩) q.length gj)).heap.size=w1.heap.size:=by simp[World.setCell]
  have L:=A.size;refine⟨b,ak b1,gj,o.keep (o.below x A) (by rw[hs];exact aA _) (fun k h=>D k (fun e=>u (by rw[<-e];exact h))),?_,d7 (cv C (fun k e=>D k (by simp[Value.ownBlock] at e;omega))) (fun _ _=>aS _),fun k h=>aJ (l k h),aJ m,u,fun k e=>?_,fun k h=>?_⟩
  ·have I:=(A.block p lp).trans i;simp only [World.setCell,Array.getElem?_modify,if_true,I,Option.map_some];simp
  ·simp[Value.ownBlock] at e;exact⟨aI e,fun h=>by have:=n k (l k h);omega⟩
  ·rw[hs];rcases h with h|h
   ·have:=n k h;omega
   ·omega
 p_:=fun _ _=>rfl
theorem tt {b:Type}(o:dP b)(p:Nat)(vr:Value)(D:Int->Prop)(c fk d:fH)(is:b->Int->Bool)(kp:b->Int->Int×b)(nw:b->Int->Int)(ea:d3 c.f)(eT:d3 fk.f)(en:d3 d.f)(ha:ks o D c.f c.b c.c is)(hk:oK o D fk.f fk.b fk.c kp)(ht:lM o D d.f d.b d.c nw):
 lP (c9 o p vr) D c fk d (fun s x=>is s.1 x) (fun s x=>((kp s.1 x).1,((kp s.1 x).2,s.2))) (fun s x=>nw s.1 x) where
 ea:=ea
 eT:=eT
 en:=en
 ha:=by
  rintro F s w x hD ⟨f,j,l,g,_⟩
  exact ha f s.1 w x hD g
 hk:=by
  rintro F s w x hD _ ⟨f,j,l,g,t,m,u,C,v,n,E⟩
  refine(hk f s.1 w x hD g).mono ?_;rintro r w' ⟨A,rfl,B,i,q⟩
  have lp:=lt_of_some t;refine⟨fun k=>F k\/A k,rfl,⟨A,j,l,B,(i.block p lp v).trans t,cv m (fun k e=>i.block k (ce m k e).2 (n k e).2),fun k h=>aI h,aJ C,fun h=>(q p h).elim v (fun h=>by omega),fun k e=>⟨aJ (n k e).1,fun h=>(q k h).elim (n k e).2 (fun h=>by have:=(ce m k e).2;omega)⟩,fun k h=>?_⟩,i.mono u,fun k h=>?_⟩
  ·rcases h with h|h
   ·exact aM (E k h) i.size
   ·exact o.lt B k h
  ·rcases h with h|h
   ·exact aJ h
   ·exact(q k h).imp (u k) id
 ht:=by
  rintro F s w x hD ⟨f,j,l,g,_⟩
  exact ht f s.1 w x hD g
 hl:=fun _ _=>rfl
section
variable {c:Cp}{own own':Nat->Nat}{vt kZ:Value}{n1 n2 n1' k3:Nat}{hm hm':Int->Option Addr×Nat}{st:f_}{w w':au}{is:List Bool}{bx:Nat}{g:List Bool->List Bool}
end
theorem EZ (w:au)(p:Nat)(a0 a1:Option Addr)(k0 k1:Nat)(r q:List bZ)(h:gn w p a0 k0 a1 k1 r q)(h0:r.length<=90000)(E:q.length<=90000):
 Calls prog 106 #[aj p] w fun e w'=>∃g i c0 b1 c1,e=.returned (aj g)/\w.heap.size<=g/\gn w' g i c0 b1 c1 r q/\(∀z,i=some z->w.heap.size<=z.block)/\(∀z,b1=some z->w.heap.size<=z.block)/\(∀k,some k=(Value.slice i r.length c0).ownBlock->some k≠(Value.slice b1 q.length c1).ownBlock)/\Below w.heap.size w w':=by
 obtain⟨c0,c1,n,o,lp⟩:=h.cells;have s:=hide (nI h.r0)
 have t:=hide (nI h.q0)
 clear h n o;go_enter func106,ntmps106;go_wp2_with fail;have hd:=(ao w).drew
 go_region_held3 (fun w'=>w'.cell? (am p 0)=some (.slice a0 r.length k0)/\w'.cell? (am p 1)=some (.slice a1 q.length k1)) (first|exact⟨c0,c1⟩|exact⟨u0,l⟩|exact⟨v0,v1⟩|go_keep)
  (first
    |(have F:=b;go_at_call 166;refine(rY _ a1 q k1 (t.o.below b) V).mono ?_;rintro e u ⟨v,x,rfl,j,d⟩;have m:=d.size;have v0:=(d.cell (p:=am p 0) (aM lp c)).trans u0;have v1:=(d.cell (p:=am p 1) (aM lp c)).trans l)
    |(go_at_call 166;refine(rY _ a0 r k0 (s.o.below hd) V).mono ?_;rintro e w3 ⟨A,B,rfl,f,C⟩;have b:=hd.trans C;have c:=b.size;have u0:=(b.cell (p:=am p 0) lp).trans c0;have l:=(b.cell (p:=am p 1) lp).trans c1))
 go_wp2_with fail;go_ret;refine⟨u.heap.size,A,B,v,x,rfl,aP c m,⟨aL _ _,d7 (f6 (cv f (fun k e=>d.block k (ce f k e).2)) _) (fun _ _=>aS _),d7 (f6 j _) (fun _ _=>aS _)⟩,fun z e=>(ce f z.block (by rw[e];rfl)).1,fun z e=>aP c (ce j z.block (by rw[e];rfl)).1,fun k e D=>?_,(b.trans (d.mono c)).alloc (aP c m) _⟩
 have q1:=(ce f k e).2;have G:=(ce j k D).1;omega
section
variable {c:Cp}{bx p:Nat}{vr:Value}{g:List Bool->List Bool}{A:List Bool}{q r:List bZ}
end
section
variable {c:Cp}{own own':Nat->Nat}{vt kZ:Value}{n1 n2 n1' k3:Nat}{hm hm':Int->Option Addr×Nat}{st:f_}{w w':au}{is:List Bool}{g:List Bool->List Bool}
end
section
variable {T:List cG}{A:List Bool}{fm:Fm}
end
section
variable {iC:Nat}{b9 bY:Int}{l:iQ}{s:cj}{w w':au}{A:List Bool}{ab p n1:Nat}{a1 a2:Option Addr}{k1 k2:Nat}{r q:List bZ}
end
section
variable {iC:Nat}{b9 bY:Int}{l:iQ}{F:Nat->Prop}{s:cj}{w:au}{g:List Bool->List Bool}
end
section
variable {iC rb:Nat}{b9 bY:Int}{l:iQ}{F:Nat->Prop}{s:cj}{w:au}{g:List Bool->List Bool}
end
section
variable {iC:Nat}{b9 bY:Int}{l:iQ}{F:Nat->Prop}{s:cj}{w w':au}
end
section
variable {iC:Nat}{b9 bY:Int}{l:iQ}{s:cj}{w:au}
end
section
variable {w0 w:au}{kb co iC n:Nat}{T:List cG}{kd:Int->Int}{sh:Int->List Int}{M:cL->Int->cL}{s:cL}{vn:Value}{m:List dm}
end
section
variable {w0 w w' w'':au}{kb co iC n:Nat}{s:cL}{vn:Value}{m:List dm}
end
section
variable {w0:au}{kb co iC:Nat}{b9 bY:Int}{l:iQ}{S:cj}
end
section
variable {iC:Nat}{b9 bY:Int}{l:iQ}{S:cj}{w:au}
end
theorem E0 (T:List cG)(wt:List bZ)(l:List _):gX (tI T.length) (fI T) (fJ T wt) ([],[]) (eR.e_ T wt l).2 (eR.e_ T wt l).1:=
 m8 (jb _) (eX.start _) (by rw[jU];simp) _
theorem E5 {T:List cG}{wt:List bZ}(hw:nK T wt)(l:List _):(eR.e_ T wt l).1.length=l.length/\(eR.e_ T wt l).2.2.length<=10000/\∀nd∈(eR.e_ T wt l).2.2,nd.2.length<=20000:=by
 have b:=E0 T wt l;refine⟨?_,?_,fun nd c=>?_⟩
 ·unfold eR.e_;rw[kh,aQ]
 ·rw[b.ok.len];refine aP b.ok.le ?_;rw[jU];exact hw.l1
 ·obtain⟨i,hi,e⟩:=List.mem_iff_getElem.1 c;obtain⟨d,q1,_,q3,_⟩:=b.nw i (aS _) (by rw[<-b.ok.len];exact hi)
  rw[aG hi,e] at q1;have q1:nd=d:=by simpa using q1
  rw[q1,q3];unfold fJ;have f:=hw.tl ((eR.e_ T wt l).2.1.getD i 0).toNat;have g:=hw.l2;rw[aW,aQ];split
  ·rw[aQ];have:=bk (fun e:bZ=>e.1==(eR.e_ T wt l).2.1.getD i 0) wt;omega
  ·rw[List.length_nil];omega
section
variable {rp rb j:Nat}{b9 bY:Int}{F:Nat->Prop}{s:cj}{w:au}
theorem E6 (h:(cn rp rb b9 bY).J F s w)(hi:dD s j)(g:j<=10000):
 Calls prog 19 #[aj rp] w fun e w'=>∃b k c d nc,e=.returned (.agg #[.slice b 12 k,.slice c d nc])/\nh w' w.heap.size b (eR.e_ s.T s.wt s.rs).1/\lz w' w.heap.size c (eR.e_ s.T s.wt s.rs).2.2/\d=(eR.e_ s.T s.wt s.rs).2.2.length/\Below w.heap.size w w':=by
 obtain⟨c1,_,_,_,l,_,f,m⟩:=e5 h;have hl:cY w (ak rb) s.rs:=fun _=>⟨rb,0,rfl,l,fun i hi=>by obtain⟨n,o,_⟩:=m i V;rw[bF];exact⟨n,o⟩⟩
 have P:=eR.ER (sC h) (by rw[f];exact c1) hl V (hi.xU g) hi.rv;rw[f] at P;exact P
end
def d5 (L:Int->Int)(hi:Int):Int->List Int->Prop
 |a,[]=>a=hi
 |a,x::l=>x=a/\pc (L a)=0/\a+(1+pf (L a))<=hi/\d5 L hi (a+(1+pf (L a))) l
section
variable {L L':Int->Int}{hi:Int}
theorem d5.done:d5 L hi hi []:=rfl
theorem d5.step {a:Int}{l:List Int}(h0:pc (L a)=0)(b:a+(1+pf (L a))<=hi)(ht:d5 L hi (a+(1+pf (L a))) l):d5 L hi a (a::l):=⟨rfl,h0,b,ht⟩
theorem d5.mem {a:Int}{l:List Int}(h:d5 L hi a l):∀x∈l,a<=x/\x+(1+pf (L x))<=hi/\pc (L x)=0:=by
 induction l generalizing a with
 |nil=>intro x b;simp at b
 |cons z l c=>
  obtain⟨rfl,h0,d,ht⟩:=h;intro x b;rcases List.mem_cons.1 b with rfl|b
  ·exact⟨Int.le_refl _,d,h0⟩
  ·have:=di (L z)
   have e:=c ht x b;exact⟨V,e.2⟩
theorem d5.apart {a:Int}{l:List Int}(h:d5 L hi a l):∀x∈l,∀z∈l,x<z->x+(1+pf (L x))<=z:=by
 induction l generalizing a with
 |nil=>intro x b;simp at b
 |cons y l e=>
  obtain⟨rfl,h0,i,ht⟩:=h;intro x b z hz f;rcases List.mem_cons.1 b with ex|d
  ·rcases List.mem_cons.1 hz with g|c
   ·omega
   ·rw[ex];exact(ht.mem z c).1
  ·rcases List.mem_cons.1 hz with g|c
   ·have j:=(ht.mem x d).1;have k:=di (L y)
    omega
   ·exact e ht x d z c f
theorem d5.heads {a:Int}{l:List Int}(h:d5 L hi a l)(he:∀x∈l,L' x=L x):d5 L' hi a l:=by
 induction l generalizing a with
 |nil=>exact h
 |cons z l b=>
  obtain⟨rfl,h0,c,ht⟩:=h;have e:=he z Z;refine .step (by rw[e];exact h0) (by rw[e];exact c) ?_;rw[e];exact b ht (fun x d=>he x (by simp[d]))
theorem d5.snoc {a:Int}{l:List Int}(h:d5 L hi a l)(he:∀x∈l,L' x=L x){b:Int}(h0:pc (L' hi)=0)(c:b=hi+(1+pf (L' hi))):d5 L' b a (l++[hi]):=by
 have hp:=di (L' hi)
 induction l generalizing a with
 |nil=>
  have e:=h;subst e;refine .step h0 V ?_;rw[<-c];exact .done
 |cons z l d=>
  obtain⟨rfl,f,i,ht⟩:=h;have e:=he z Z;refine .step (by rw[e];exact f) (by rw[e];omega) ?_;rw[e];exact d ht (fun x g=>he x (by simp[g]))
theorem d5.field {a:Int}{l:List Int}(h:d5 L hi a l){v i:Int}(b:v∈l)(c:0<=i)(d:i<pf (L v)):v+1+i∉l:=by intro hm;have:=h.apart v b _ hm V;omega
theorem d5.eA {N y g:Nat}{ws:List Int}{hi a:Int}{l:List Int}(h:d5 (ld N y g ws) hi a l):∀k:Nat,hi-a<=k->eA N y g ws hi k a=l:=by
 induction l generalizing a with
 |nil=>
  have e:a=hi:=h;subst e;intro k _;exact vN k (Int.le_refl _)
 |cons z l b=>
  obtain⟨rfl,h0,c,ht⟩:=h;intro k hk;have hp:=di (ld N y g ws z)
  match k,hk with
  |0,hk=>omega
  |k+1,hk=>
   unfold Proofs.YtjpjpjemibgjpaaGreat.eA;rw[aH V,aH h0,b ht k V]
end
structure d6 (N y g:Nat)(ws:List Int)(Y G:List Int):Prop where
 ty:d5 (ld N y g ws) y 0 Y
 ee:d5 (ld N y g ws) ((N:Int)+g) N G
theorem d6.lists {N O y g:Nat}{ws:List Int}{Y G:List Int}(h:d6 N y g ws Y G)(hN:N<=256)(hy:y<=N)(hO:O<=1024)(hg:g<=O):dS N y g ws=Y/\dw N y g ws=G:=
 ⟨h.ty.eA 2000 V,h.ee.eA 2000 V⟩
theorem d6.start {N:Nat}{ws:List Int}:d6 N 0 0 ws [] []:=⟨.done,by simpa using d5.done (L:=ld N 0 0 ws) (hi:=(N:Int))⟩
theorem d6.stands {N y g:Nat}{ws:List Int}{Y G:List Int}(h:d6 N y g ws Y G)(hy:y<=N){v:Int}(b:v∈Y\/v∈G):ic N y g v (pf (ld N y g ws v))=pf (ld N y g ws v):=by
 have hp:=di (ld N y g ws v)
 refine Int.min_eq_left ?_;rcases b with b|b
 ·have c:=h.ty.mem v b;have e:hB N g v=false:=by rw[Bool.eq_false_iff];intro d;have:=jc d;omega
  rw[e,aE Z];omega
 ·have c:=h.ee.mem v b;have e:hB N g v=true:=by exact bm ⟨c.1,V⟩
  rw[e,aH rfl];omega
open Go.ChangeShapes Go.WideShapes Go.ChangeAt Go.RowKit Go.Joins Go.Deep W
namespace oX
theorem qt (ws:List Int)(t f n i:Nat)(b:t+n<=ws.length)(d:f+n<=ws.length):
 (splice ws t ((ws.drop f).take n)).getD i 0=if t<=i/\i<t+n then ws.getD (f+i-t) 0 else ws.getD i 0:=by
 exact ya
theorem copied {N O y g:Nat}{ws:List Int}{a:Nat}(hl:ws.length=N+O)(hy:y<=N)(hi:da N y g a=true)(n:Nat)(d:1+(n:Int)<=f8 N y g a-a)(f:1+(n:Int)<=(O:Int)-g)(j:Nat)(i:j<=n):
 ld N y (g+(1+n)) (splice ws (N+g) ((ws.drop a).take (1+n))) ((N:Int)+g+j)=ws.getD (a+j) 0/\ld N y (g+(1+n)) (splice ws (N+g) ((ws.drop a).take (1+n))) ((a:Int)+j)=ws.getD (a+j) 0:=by
 have he:f8 N y g a<=(N:Int)+g:=by unfold f8;split<;>omega
 constructor
 ·have b:hB N ((g+(1+n):Nat):Int) ((N:Int)+g+j)=true:=by simp[hB];omega
  have hi:da N y (g+(1+n)) ((N:Int)+g+j)=true:=by unfold da;rw[b];simp
  unfold ld;rw[aH hi,show((N:Int)+g+j).toNat=N+g+j by omega,qt _ _ _ _ _ V V,aH V,show a+(N+g+j)-(N+g)=a+j by omega]
 ·have e:da N y (g+(1+n)) ((a:Int)+j)=true:=by
   unfold f8 at d;split at d
   ·rename_i c;have c:=jc c;have b:hB 0 y ((a:Int)+j)=true:=by simp[hB];omega
    unfold da;rw[b];rfl
   ·rename_i c;have c1:hB N g a=true:=by unfold da at hi;simp only [Bool.not_eq_true] at c;rw[c] at hi;simpa using hi
    have c2:=jc c1;have b:hB N ((g+(1+n):Nat):Int) ((a:Int)+j)=true:=by simp[hB];omega
    unfold da;rw[b];simp
  unfold ld;rw[aH e,show((a:Int)+j).toNat=a+j by omega,qt _ _ _ _ _ V V,aE V]
end oX
open Go.RowKit W oX
theorem dX {N y g:Nat}{ws:List Int}{a:Int}(h:da N y g a=true):ld N y g ws a=ws.getD a.toNat 0:=by unfold ld;rw[aH h]
theorem ih {N y g:Nat}{a:Int}(h0:0<=a)(b:a<y):da N y g a=true:=by unfold da hB;rw[bm (⟨h0,V⟩:(0:Int)<=a/\a<0+(y:Int))];rfl
theorem g9 {N y g:Nat}{a:Int}(h0:(N:Int)<=a)(b:a<(N:Int)+g):da N y g a=true:=by unfold da hB;rw[bm (⟨h0,b⟩:(N:Int)<=a/\a<(N:Int)+g),Bool.or_true]
section
variable {N O y g:Nat}{ws:List Int}{Y G:List Int}
theorem d6.ii (h:d6 N y g ws Y G):∀x∈Y,0<=x/\x<y:=fun x b=>by
 have c:=h.ty.mem x b;have d:=di (ld N y g ws x)
 omega
theorem d6.io (h:d6 N y g ws Y G):∀x∈G,(N:Int)<=x/\x<(N:Int)+g:=fun x b=>by
 have c:=h.ee.mem x b;have d:=di (ld N y g ws x)
 omega
theorem d6.make (h:d6 N y g ws Y G)(hl:ws.length=N+O){k f:Int}(hm:gY N y k f=true):d6 N (ix N y k f) g (eM N y k f ws) (Y++[(y:Int)]) G:=by
 obtain⟨c,j⟩:=ow hm;have l:=iE k f c;have e:ix N y k f=y+1+f.toNat:=by unfold ix;rw[aH hm]
 have i:eM N y k f ws=ff ws y (hw k f) f.toNat:=by unfold eM;rw[aH hm]
 rw[e,i];have hlt:y+f.toNat<ws.length:=V;have d:ld N (y+1+f.toNat) g (ff ws y (hw k f) f.toNat) y=hw k f:=ww _ _ hlt;have hp:=pK k f c;refine⟨h.ty.snoc (fun x b=>?_) (by rw[d];exact hp.2.2) (by rw[d,hp.2.1];omega),h.ee.heads (fun x b=>?_)⟩
 ·have hi:=h.ii x b;exact tp
 ·have hi:=h.io x b;exact qr
theorem d6.copy (h:d6 N y g ws Y G)(hl:ws.length=N+O)(hy:y<=N)(hg:g<=O){a:Int}(hm:ib N O y g ws a=true)(ha:a∈Y\/a∈G):d6 N y (ju N O y g ws a) (jv N O y g ws a) Y (G++[((N+g:Nat):Int)])/\ld N y (ju N O y g ws a) (jv N O y g ws a) ((N+g:Nat):Int)=ld N y g ws a:=by
 obtain⟨f,p,q⟩:=nn hm;have hp:=di (ld N y g ws a)
 have j:ju N O y g ws a=g+(1+(pf (ld N y g ws a)).toNat):=by unfold ju;rw[aH hm]
 have k:jv N O y g ws a=splice ws (N+g) ((ws.drop a.toNat).take (1+(pf (ld N y g ws a)).toNat)):=by unfold jv;rw[aH hm]
 have l:0<=a/\a+(1+pf (ld N y g ws a))<=(N:Int)+g/\da N y g a=true:=by
  rcases ha with ha|ha
  ·have m:=h.ty.mem a ha;have b:=h.ii a ha;exact⟨b.1,V,ih b.1 b.2⟩
  ·have m:=h.ee.mem a ha;have b:=h.io a ha;exact⟨V,V,g9 b.1 b.2⟩
 rw[j,k];obtain⟨n,o⟩:∃n,n=(pf (ld N y g ws a)).toNat:=⟨_,rfl⟩
 rw[<-o];have c:∀i:Nat,_=_:=fun i=>qt ws (N+g) a.toNat (1+n) i V V;have d:ld N y (g+(1+n)) (splice ws (N+g) ((ws.drop a.toNat).take (1+n))) ((N+g:Nat):Int)=ld N y g ws a:=by rw[dX (g9 V V),Int.toNat_natCast,c,aH V,Nat.add_sub_cancel,dX l.2.2]
 refine⟨⟨h.ty.heads (fun x e=>?_),?_⟩,d⟩
 ·have hi:=h.ii x e;rw[dX (ih hi.1 hi.2),dX (ih hi.1 hi.2),c,aE V]
 ·have ht:=h.ee;rw[show(N:Int)+g=((N+g:Nat):Int) by omega] at ht;refine ht.snoc (fun x e=>?_) (by rw[d];exact f) (by rw[d];omega)
  have hi:=h.io x e;rw[dX (g9 hi.1 V),dX (g9 hi.1 hi.2),c,aE V]
theorem d6.set (h:d6 N y g ws Y G)(hl:ws.length=N+O)(hy:y<=N)(hg:g<=O){v i z:Int}(c:v∈Y\/v∈G)(j:0<=i)(k:i<pf (ld N y g ws v)):d6 N y g (ws.set (v+1+i).toNat z) Y G/\∀x,(x∈Y\/x∈G)->ld N y g (ws.set (v+1+i).toNat z) x=ld N y g ws x:=by
 have l:0<=v/\v+1+i<(N:Int)+g:=by
  rcases c with c|c
  ·have f:=h.ty.mem v c;have d:=h.ii v c;omega
  ·have f:=h.ee.mem v c;have d:=h.io v c;omega
 have key:∀x,(x∈Y\/x∈G)->ld N y g (ws.set (v+1+i).toNat z) x=ld N y g ws x:=fun x b=>by
  have m:x≠v+1+i:=by
   intro e;rcases c with c|c<;>rcases b with b|b
   ·exact h.ty.field c j k (by rw[<-e];exact b)
   ·have f:=h.ty.mem v c;have d:=h.io x b;omega
   ·have f:=h.io v c;have d:=h.ii x b;omega
   ·exact h.ee.field c j k (by rw[<-e];exact b)
  have hi:da N y g x=true/\0<=x:=by
   rcases b with b|b
   ·have d:=h.ii x b;exact⟨ih d.1 d.2,d.1⟩
   ·have d:=h.io x b;exact⟨g9 d.1 d.2,V⟩
  rw[dX hi.1,dX hi.1,jS _ _ _ _ V,aE V]
 exact⟨⟨h.ty.heads (fun x b=>key x (aJ b)),h.ee.heads (fun x b=>key x (aI b))⟩,key⟩
end
structure qu {σ:Type}(o:fB σ):Prop where
 yf:∀{F s w},o.J F s w->∀{w1:au}{q:List bZ}{a1:Option Addr}{c1:Nat},Below w.heap.size w w1->w1.ownsRow w.heap.size 83 2 (.slice a1 q.length c1) q.length (ev q)->
  o.J (fun k=>F k\/some k=(Value.slice a1 q.length c1).ownBlock) (o.put s q) (w1.setCell ⟨o.p,1,none⟩ (.slice a1 q.length c1))
 yh:∀{F s w},o.J F s w->∀{ad:Option Addr}{cap:Nat},w.heap[o.p]?=some (.cells #[o.vr,.slice ad (o.wt s).length cap] 128 (0,0))->∀i,i<(o.wt s).length->∀g z:Int,∃b f,ad=some ⟨b,f,none⟩/\F b/\b≠o.p/\w.frozen? (am b (f+i*2))=false/\w.frozen? (am b (f+i*2+1))=false/\
  o.J F (o.put s ((o.wt s).set i (g,z))) ((w.setCell ⟨b,f+i*2,none⟩ (.int .i64 g)).setCell ⟨b,f+i*2+1,none⟩ (.int .i64 z))
def k4 {b:Type}(o:fB b)(is:b->Int->Bool)(kp:b->Int->Int×b)(t:b×Bool)(i:Nat):b×Bool:=
 if is t.1 ((o.wt t.1).getD i (0,0)).2||!is t.1 ((o.wt t.1).getD i (0,0)).1 then t
 else(o.put (kp t.1 ((o.wt t.1).getD i (0,0)).2).2 ((o.wt (kp t.1 ((o.wt t.1).getD i (0,0)).2).2).set i (((o.wt t.1).getD i (0,0)).1,(kp t.1 ((o.wt t.1).getD i (0,0)).2).1)),true)
def fp {b:Type}(o:fB b)(is:b->Int->Bool)(kp:b->Int->Int×b)(s:b)(n:Nat):b×Bool:=(List.range n).foldl (k4 o is kp) (o.put s (o.wt s),false)
theorem E7 {b:Type}(o:fB b)(is:b->Int->Bool)(kp:b->Int->Int×b)(s:b):fp o is kp s 0=(o.put s (o.wt s),false):=rfl
theorem yi {b:Type}(o:fB b)(is:b->Int->Bool)(kp:b->Int->Int×b)(s:b)(n:Nat):fp o is kp s (n+1)=k4 o is kp (fp o is kp s n) n:=by simp[fp,List.range_succ]
theorem E8 {b:Type}(o:fB b)(is:b->Int->Bool)(kp:b->Int->Int×b)(hl:∀s x,(o.wt (kp s x).2).length=(o.wt s).length)(t:b×Bool)(i:Nat):(o.wt (k4 o is kp t i).1).length=(o.wt t.1).length:=by
 unfold k4;split
 ·rfl
 ·simp[o.p_,hl]
theorem yj {b:Type}(o:fB b)(is:b->Int->Bool)(kp:b->Int->Int×b)(hl:∀s x,(o.wt (kp s x).2).length=(o.wt s).length)(s:b):∀n,(o.wt (fp o is kp s n).1).length=(o.wt s).length
 |0=>by rw[E7];simp[o.p_]
 |n+1=>by rw[yi,E8 o is kp hl,yj o is kp hl s n]
theorem yk {b:Type}{o:fB b}{is:b->Int->Bool}{kp:b->Int->Int×b}{t:b×Bool}{i:Nat}{g z:Int}(hg:((o.wt t.1).getD i (0,0)).1=g)(hz:((o.wt t.1).getD i (0,0)).2=z)(h:is t.1 z=true\/is t.1 g=false):k4 o is kp t i=t:=by unfold k4;rw[hg,hz];rcases h with h|h<;>simp[h]
theorem E9 {b:Type}{o:fB b}{is:b->Int->Bool}{kp:b->Int->Int×b}{t:b×Bool}{i:Nat}{g z:Int}(hg:((o.wt t.1).getD i (0,0)).1=g)(hz:((o.wt t.1).getD i (0,0)).2=z)(c:is t.1 z=false)(d:is t.1 g=true):k4 o is kp t i=(o.put (kp t.1 z).2 ((o.wt (kp t.1 z).2).set i (g,(kp t.1 z).1)),true):=by unfold k4;rw[hg,hz];simp[c,d]
def lR (n:Nat):Code->Option Code
 |.region m o d=>match m==n with
  |true=>some (.region m o d)
  |false=>none
 |.seq a b=>match lR n a with
  |some c=>some c
  |none=>lR n b
 |.cond _ a b=>match lR n a with
  |some c=>some c
  |none=>lR n b
 |.block _ c=>lR n c
 |.loop c=>lR n c
 |.scope c=>lR n c
 |_=>none
theorem E_ {s1 s2 f s4 s5 s6 bd be bg bi bl bn bo g i j k m n o q s t u v x A B C D E F G H I J K L M N O P R S U W X Y ab ad ag ai al ap ar ax:Value}{Q:Exit->Act->au->Prop}{bs p b:Nat}{c:Option Addr}{l:List bZ}{w:au}(hl:l.length<=100000)(h:it w c l b)(c0:w.cell? (am bs 0)=some (aj p))(c1:w.cell? (am p 1)=some (.slice c l.length b))(bp:w.frozen? (am p 1)=false)
 (bb:∀(aB aF aR aT aV a0 a2 a3:Value)(a1:Option Addr)(k1:Nat)(w1:au),w1.ownsRow w.heap.size 83 2 (.slice a1 l.length k1) l.length (ev l)->Below w.heap.size w w1->Q .normal ⟨#[aj bs,s1,s2,f,s4,s5,aB,aF,aR,aT,aV,a0,a2,a3,g,i,j,k,m,n,o,q,s,t,u,v,x,A,B,C,D,E,F,G,H,I,J,K,L,M,N,O,P,R,S,U,W,X,Y,ab,ad,ag,ai,al,ap,ar,ax],[]⟩ (w1.setCell ⟨p,1,none⟩ (.slice a1 l.length k1))):
 Code.wp prog ((Tryz.f171.body.bind (lR 1)).getD .skip) Q ⟨#[aj bs,s1,s2,f,s4,s5,s6,bd,be,bg,bi,bl,bn,bo,g,i,j,k,m,n,o,q,s,t,u,v,x,A,B,C,D,E,F,G,H,I,J,K,L,M,N,O,P,R,S,U,W,X,Y,ab,ad,ag,ai,al,ap,ar,ax],[]⟩ w:=by
 conv=>arg 2;whnf
 refine wp_region_noPanic ?_;have br:av (∀(aB aF aR aT aV a0 a2 a3:Value)(a1:Option Addr)(k1:Nat)(w1:au),w1.ownsRow w.heap.size 83 2 (.slice a1 l.length k1) l.length (ev l)->Below w.heap.size w w1->Q .normal ⟨#[aj bs,s1,s2,f,s4,s5,aB,aF,aR,aT,aV,a0,a2,a3,g,i,j,k,m,n,o,q,s,t,u,v,x,A,B,C,D,E,F,G,H,I,J,K,L,M,N,O,P,R,S,U,W,X,Y,ab,ad,ag,ai,al,ap,ar,ax],[]⟩ (w1.setCell ⟨p,1,none⟩ (.slice a1 l.length k1))):=bb;have bt:av (it w c l b):=h;have l2:=aK w _ c0;have lp:=aK w _ c1;dsimp only at l2 lp;clear bb h
 go_region_with (go_at_call 166;refine(rY _ c l b (bt.o.below (bX.drew)) hl).mono ?_;rintro e w1 ⟨a1,k1,rfl,bx,d⟩;have bY:=(d.cell (p:=am bs 0) l2).trans c0;have b0:=(d.cell (p:=am p 1) lp).trans c1;have b1:=(d.frozen (p:=am p 1) lp).trans bp)
 all_goals exact NoPanic.normal (br.o _ _ _ _ _ _ _ _ a1 k1 w1 bx ((aD _ w).drew.trans d))
theorem Fa {n:Type}(o:fB n)(bo:qu o)(D:Int->Prop)(f fk ad:fH)(is:n->Int->Bool)(kp:n->Int->Int×n)(nw:n->Int->Int)(u:lP o D f fk ad is kp nw)(F:Nat->Prop)(s:n)(w:au)(cv:(o.wt s).length<=90000)
 (hD:∀j,j<(o.wt s).length->D ((o.wt (fp o is kp s j).1).getD j (0,0)).1/\D ((o.wt (fp o is kp s j).1).getD j (0,0)).2)(bl bs:Nat)(m:o.J F s w)(ag:w.heap[bl]?=some (.cells #[f.v,fk.v,ad.v] 120 (0,0)))(O:w.heap[bs]?=some (.cells #[aj o.p] 52 (0,0)))(bp:¬F bl)(br:¬F bs):
 Calls prog 171 #[aj bs,aj bl] w fun r w'=>∃bt,r=.returned (.bool (fp o is kp s (o.wt s).length).2)/\o.J bt (fp o is kp s (o.wt s).length).1 w'/\Fr F w w'/\∀k,bt k->F k\/w.heap.size<=k:=by
 have bx:av (qu o):=bo;have bY:av (ks o.todP D f.f f.b f.c is):=u.ha;have cw:av (mD o D fk.f fk.b fk.c kp):=u.hk;have bZ:av (∀s x,(o.wt (kp s x).2).length=(o.wt s).length):=u.hl;have cx:av (∀j,j<(o.wt s).length->D ((o.wt (fp o is kp s j).1).getD j (0,0)).1/\D ((o.wt (fp o is kp s j).1).getD j (0,0)).2):=hD;have cy:av (o.J F s w):=m;have cz:av (w.heap[bl]?=some (.cells #[f.v,fk.v,ad.v] 120 (0,0))):=ag;have cA:av (w.heap[bs]?=some (.cells #[aj o.p] 52 (0,0))):=O;have cX:∀(args:Array Value)(w:au),(callFunc f.f args).run prog w=.ok (.enter f.f args) w:=u.ea;have cY:∀(args:Array Value)(w:au),(callFunc fk.f args).run prog w=.ok (.enter fk.f args) w:=u.eT;have c0:w.cell? (am bs 0)=some (aj o.p):=ay O
 have l1:bl<w.heap.size:=lt_of_some ag;have l2:bs<w.heap.size:=lt_of_some O;obtain⟨P,Q,hp,K,ai,al⟩:=o.side m;have c1:w.cell? (am o.p 1)=some (.slice P (o.wt s).length Q):=ay hp
 have cB:w.frozen? (am o.p 1)=false:=az hp
 have lp:o.p<w.heap.size:=lt_of_some hp;have cC:av (it w P (o.wt s) Q):=K;clear u bo hD m ag O hp K al;go_enter func171,ntmps171
 go_upto_region 1 with fail
 refine E_ V cC.o c0 c1 cB ?_;intro cZ c2 c3 c4 c5 c6 c7 c8 a1 k1 w1 ap R;have cD:=R.size;have b0:=bx.o.yf cy.o R ap;have b2:Fr F w (w1.setCell ⟨o.p,1,none⟩ (.slice a1 (o.wt s).length k1)):=(Fr.of (X:=F) R).trans ((Fr.refl (fun k=>k=o.p) w1).set o.p 1 _ rfl) (fun i c=>aJ (by rw[c];exact ai))
 have b3:∀k,F k\/some k=(Value.slice a1 (o.wt s).length k1).ownBlock->F k\/w.heap.size<=k:=fun k h=>h.imp id (fun e=>(ce ap k e).1)
 clear ap;go_wp2_with fail
 go_loopw [3,4] (fun cE iv wr=>∃(j:Nat)(b:n)(b1:Bool)(l:Nat->Prop),j<=(o.wt s).length/\iv=ah j/\cE=.bool b1/\av (fp o is kp s j=(b,b1))/\o.J l b wr/\Fr F w wr/\av (∀k,l k->F k\/w.heap.size<=k)) (fun _ iv _=>(o.wt s).length-(intOf iv).toNat)
 case atStart=>exact⟨0,_,false,_,aS _,rfl,rfl,rfl,b0,b2,b3⟩
 case round=>
  clear b0 b2 b3 cD R;obtain⟨j,b,b1,l,c9,rfl,rfl,L,m,v,q⟩:=hrel;have b4:(o.wt b).length=(o.wt s).length:=by have b7:=yj o is kp bZ.o s j;rw[L.o] at b7;exact b7
  obtain⟨P,Q,hp,K,ai,al⟩:=o.side m;have da:=v.size;have n1:¬l bl:=fun h=>(q.o bl h).elim bp (fun h=>by omega)
  have b8:¬l bs:=fun h=>(q.o bs h).elim br (fun h=>by omega)
  have ar:=(v.block bl l1 bp).trans cz.o;have ax:=(v.block bs l2 br).trans cA.o;have cF:wr.cell? (am bs 0)=some (aj o.p):=ay ax
  have cG:wr.cell? (am o.p 1)=some (.slice P (o.wt s).length Q):=by simp[World.cell?,hp,b4]
  by_cases aB:j<(o.wt s).length
  ·obtain⟨db,dc,cH,dd,hc⟩:=K.lp V;obtain⟨b9,ca⟩:=hc j V;obtain⟨S,M⟩:=cx.o j aB;rw[L.o] at S M;have aF:av (fp o is kp s (j+1)=k4 o is kp (b,b1) j):=by show _=_;rw[yi,L.o]
   obtain⟨g,hg⟩:∃g,((o.wt b).getD j (0,0)).1=g:=⟨_,rfl⟩
   obtain⟨z,hz⟩:∃z,((o.wt b).getD j (0,0)).2=z:=⟨_,rfl⟩
   rw[hg] at b9;rw[hz] at ca;have S:D g:=by rw[<-hg];exact S
   have M:D z:=by rw[<-hz];exact M
   have aR:av (((o.wt b).getD j (0,0)).1=g):=hg;have aT:av (((o.wt b).getD j (0,0)).2=z):=hz;subst cH;have A:av (o.J l b wr):=m;have aV:av (Fr F w wr):=v;have cI:av (wr.heap[bs]?=some (.cells #[aj o.p] 52 (0,0))):=ax;have cb:wr.cell? (am bl 0)=some (.func (.func f.f) f.b f.c):=ay ar
   have m1:wr.cell? (am bl 1)=some (.func (.func fk.f) fk.b fk.c):=ay ar
   have a0:=an wr (.cells #[.int .i64 g,.int .i64 z] 83)
   have cc:bl<wr.heap.size:=V;have cJ:bs<wr.heap.size:=V;have de:o.p<wr.heap.size:=lt_of_some hp;have j0:(0:Int)<=(j:Int):=V;have df:(j:Int)<((o.wt s).length:Int):=V;clear hc hg hz m v ar ax hp K ai al L;go_wp2_with fail;refine(bY.o l b _ z M (o.below A.o a0)).mono ?_;rintro r B ⟨rfl,C⟩
   have U:wr.heap.size<B.heap.size:=by have:=C.size;simp at this;omega
   have E:Below wr.heap.size wr B:=a0.trans (C.mono Z)
   have cd:B.cell? (am wr.heap.size 0)=some (ah g):=(C.cell Z).trans Z;have y1:B.cell? (am wr.heap.size 1)=some (ah z):=(C.cell Z).trans Z;have cf:B.frozen? (am wr.heap.size 1)=false:=(C.frozen Z).trans Z;have cK:B.cell? (am bl 0)=some (.func (.func f.f) f.b f.c):=(E.cell cc).trans cb;cases hz1:is b z
   ·go_wp2_with fail;refine(bY.o l b _ g S (o.below A.o E)).mono ?_;rintro r w3 ⟨rfl,G⟩
    have cg:wr.heap.size<w3.heap.size:=by have:=G.size;omega
    have t:Below wr.heap.size wr w3:=E.trans (G.mono V)
    have z0:=(G.cell (p:=am wr.heap.size 0) U).trans cd;have ch:=(G.cell (p:=am wr.heap.size 1) U).trans y1;have ci:=(G.frozen (p:=am wr.heap.size 1) U).trans cf;have cL:w3.cell? (am bl 1)=some (.func (.func fk.f) fk.b fk.c):=(t.cell cc).trans m1;clear cd y1 cf cK G C E b9 ca cF cG;cases hg1:is b g
    ·have a2:av (fp o is kp s (j+1)=(b,b1)):=aF.o.trans (yk aR.o aT.o (aI hg1))
     go_wp2_with fail;go_roundw
     case rel=>exact⟨j+1,b,b1,l,V,af,rfl,a2,o.below A.o t,aV.o.trans (Fr.of (X:=F) t) (fun _ c=>aJ c),q⟩
     case measure=>simp[intOf];omega
    ·have a3:av (fp o is kp s (j+1)=(o.put (kp b z).2 ((o.wt (kp b z).2).set j (g,(kp b z).1)),true)):=aF.o.trans (E9 aR.o aT.o hz1 hg1)
     have H:av ((o.wt (kp b z).2).length=(o.wt s).length):=(bZ.o b z).trans b4;go_wp2_with fail;refine(cw.o l b _ z M (by rw[H.o];exact cv) (o.below A.o t)).mono ?_;rintro r d ⟨I,rfl,bb,N,W⟩
     generalize (kp b z).1=y at a3⊢;generalize (kp b z).2=s2 at a3 H bb;have bd:¬l wr.heap.size:=fun h=>by have:=o.lt A.o _ h;omega
     have be:¬I wr.heap.size:=fun h=>(W _ h).elim bd (fun h=>by omega)
     have cj:¬I bs:=fun h=>(W _ h).elim b8 (fun h=>by omega)
     have cM:=N.size;have Y:=N.block _ cg bd;have ck:=((N.block bs V b8).trans (t.block bs cJ)).trans cI.o;have v0:d.cell? (am wr.heap.size 0)=some (ah g):=(aU (a:=⟨wr.heap.size,0,none⟩) Y).trans z0;have v1:d.cell? (am wr.heap.size 1)=some (ah z):=(aU (a:=⟨wr.heap.size,1,none⟩) Y).trans ch;have cN:d.frozen? (am wr.heap.size 1)=false:=(World.frozen?_of_block (a:=⟨wr.heap.size,1,none⟩) Y).trans ci;have bg:∀k:Nat,k≠wr.heap.size->(d.setCell ⟨wr.heap.size,1,none⟩ (.int .i64 y)).heap[k]?=d.heap[k]?:=fun k hk=>aN _ _ _ _ hk;have cl:(d.setCell ⟨wr.heap.size,1,none⟩ (.int .i64 y)).heap.size=d.heap.size:=by simp[World.setCell]
     have bi:o.J I s2 (d.setCell ⟨wr.heap.size,1,none⟩ (.int .i64 y)):=o.keep bb (by rw[cl];exact aA _) (fun k hk=>bg k (fun e=>be (by rw[<-e];exact hk)))
     have t0:(d.setCell ⟨wr.heap.size,1,none⟩ (.int .i64 y)).cell? (am wr.heap.size 0)=some (ah g):=(a5 d ⟨wr.heap.size,1,none⟩ ⟨wr.heap.size,0,none⟩ (ah y) Z).trans v0;have dg:(d.setCell ⟨wr.heap.size,1,none⟩ (.int .i64 y)).cell? (am wr.heap.size 1)=some (ah y):=a9 _ _ _ v1;have t3:(d.setCell ⟨wr.heap.size,1,none⟩ (.int .i64 y)).cell? (am bs 0)=some (aj o.p):=(aU (a:=⟨bs,0,none⟩) (bg bs V)).trans (by simp[World.cell?,ck])
     have cm:Fr F w (d.setCell ⟨wr.heap.size,1,none⟩ (.int .i64 y)):=((aV.o.trans (Fr.of (X:=F) t) (fun _ c=>aJ c)).trans N (fun i c=>q.o i c)).trans ((Fr.refl (fun k=>k=wr.heap.size) d).set _ 1 _ rfl) (fun i c=>aI V)
     have cn:av (∀k,I k->F k\/w.heap.size<=k):=fun k h=>(W k h).elim (q.o k) (fun h=>aI V)
     obtain⟨dh,co,bn,cp,cO,cP⟩:=o.side bi;obtain⟨b5,J,cq,ab,di,dj,dk,cr⟩:=bx.o.yh bi bn j (by rw[H.o];exact aB) g y;obtain⟨b6,dl,cs,cQ,ct⟩:=cp.lp (by rw[H.o];omega)
     obtain⟨cR,cS⟩:=ct j (by rw[H.o];exact aB)
     rw[cq] at cs;cases cs;subst cq;have dm:(d.setCell ⟨wr.heap.size,1,none⟩ (.int .i64 y)).cell? (am o.p 1)=some (.slice (some ⟨b5,J,none⟩) (o.wt s).length co):=by simp[World.cell?,bn,H.o]
     have dn:b5≠wr.heap.size:=fun e=>be (by rw[<-e];exact ab)
     have dp:b5≠bs:=fun e=>cj (by rw[<-e];exact ab)
     have cT:av (I b5):=ab;generalize ((o.wt s2).getD j (0,0)).1=dq at cR;generalize ((o.wt s2).getD j (0,0)).2=dr at cS;clear z0 ch ci cL W bb N Y ck bg bi bn cp cO cP ct t a0 U cg cM be cj cl cQ bd ab cb m1;go_wp2_with fail;generalize d.setCell ⟨wr.heap.size,1,none⟩ (.int .i64 y)=cu at*;clear v0 v1 cN
     go_region_held3 (fun w'=>w'.cell? (am bs 0)=some (aj o.p)/\w'.cell? (am o.p 1)=some (.slice (some ⟨b5,J,none⟩) (o.wt s).length co)/\w'.cell? (am wr.heap.size 0)=some (ah g)/\w'.cell? (am wr.heap.size 1)=some (ah y)) (go_keep) (fail)
     have cU:=(cm.trans (((Fr.refl (fun k=>k=b5) cu).set b5 (J+j*2) (ah g) rfl).set b5 (J+j*2+1) (ah y) rfl) (fun i c=>by rw[c];exact cn.o _ cT.o)).drew;have cV:=o.keep (w':=((cu.setCell ⟨b5,J+j*2,none⟩ (.int .i64 g)).setCell ⟨b5,J+j*2+1,none⟩ (.int .i64 y)).drew) cr bW (fun _ _=>rfl)
     clear cm cr;go_wp2_with fail;go_roundw
     case rel=>exact⟨j+1,o.put s2 ((o.wt s2).set j (g,y)),true,I,V,af,rfl,a3,cV,cU,cn⟩
     case measure=>simp[intOf];omega
   ·have a2:av (fp o is kp s (j+1)=(b,b1)):=aF.o.trans (yk aR.o aT.o (aJ hz1))
    go_wp2_with fail;go_roundw
    case rel=>exact⟨j+1,b,b1,l,V,af,rfl,a2,o.below A.o E,aV.o.trans (Fr.of (X:=F) E) (fun _ c=>aJ c),q⟩
    case measure=>simp[intOf];omega
  ·obtain rfl:j=(o.wt s).length:=V;have cW:=L.o;go_wp2_with fail;go_ret;rw[cW];exact⟨l,rfl,m,v,q.o⟩
theorem Fc:d3 171:=gP func171 ae rfl
theorem yl {g:Type}(o:fB g)(A:qu o)(D:Int->Prop)(fa fk fn:fH)(is:g->Int->Bool)(kp:g->Int->Int×g)(nw:g->Int->Int)(B:lP o D fa fk fn is kp nw)(u:Option Addr)(nr v:Nat)(C:o.vr=.slice u nr v)(F:Nat->Prop)(s:g)(w:au)(M:(o.wt s).length<=90000)
 (hD:∀j,j<(o.wt s).length->D ((o.wt (fp o is kp s j).1).getD j (0,0)).1/\D ((o.wt (fp o is kp s j).1).getD j (0,0)).2)(l:o.J F s w):
 Calls prog 112 #[aj o.p,.agg #[fa.v,fk.v,fn.v]] w fun e w'=>∃b,e=.returned (.bool (fp o is kp s (o.wt s).length).2)/\o.J b (fp o is kp s (o.wt s).length).1 w'/\Fr F w w'/\∀k,b k->F k\/w.heap.size<=k:=by
 obtain⟨E,G,hp,_,N,_⟩:=o.side l;rw[C] at hp;have c0:w.cell? (am o.p 0)=some (.slice u nr v):=ay hp
 have c1:w.cell? (am o.p 1)=some (.slice E (o.wt s).length G):=ay hp
 have lp:o.p<w.heap.size:=lt_of_some hp;have H:av (o.J F s w):=l;have O:av (∀w1,Below w.heap.size w w1->w1.heap[w.heap.size+1]?=some (.cells #[fa.v,fk.v,fn.v] 120 (0,0))->w1.heap[w.heap.size]?=some (.cells #[aj o.p] 52 (0,0))->Calls prog 171 #[aj w.heap.size,aj (w.heap.size+1)] w1 fun r w'=>∃b,r=.returned (.bool (fp o is kp s (o.wt s).length).2)/\o.J b (fp o is kp s (o.wt s).length).1 w'/\Fr F w1 w'/\∀k,b k->F k\/w1.heap.size<=k):=by
  intro w1 Q R S;have q:∀k,w.heap.size<=k->¬F k:=fun k hk h=>by have:=o.lt l k h;omega
  exact Fa o A D fa fk fn is kp nw B F s w1 M hD _ _ (o.below l Q) R S (q _ V) (q _ V)
 clear B l hp C N A hD;go_enter func112,ntmps112;go_wp2_with fail;have f:∃W4,W4=(w.alloc (.cells #[.pointer (some ⟨o.p,0,none⟩)] 52)).alloc (.cells #[fa.v,fk.v,fn.v] 120):=⟨_,rfl⟩
 obtain⟨W4,f⟩:=f;have sz:W4.heap.size=w.heap.size+2:=by rw[f];simp
 have t:Below w.heap.size w W4:=by rw[f];exact((aD _ w).alloc bW _).alloc Z _
 have g0:W4.heap[w.heap.size]?=some (.cells #[aj o.p] 52 (0,0)):=by rw[f,a4 _ _ _ Z];exact aL _ _
 have g1:W4.heap[w.heap.size+1]?=some (.cells #[fa.v,fk.v,fn.v] 120 (0,0)):=by rw[f];exact yc
 rw[<-f];have P:=ye 171 #[] #[aj w.heap.size,aj (w.heap.size+1)] Fc W4 o.p u E nr v (o.wt s).length G ((t.cell (p:=am o.p 0) lp).trans c0) ((t.cell (p:=am o.p 1) lp).trans c1)
  (fun I d=>∃b,I=(fp o is kp s (o.wt s).length).2/\o.J b (fp o is kp s (o.wt s).length).1 d/\Fr F w d/\∀k,b k->F k\/w.heap.size+5<=k)
  (by
    intro w1 hw1;have s1:w1.heap.size=w.heap.size+5:=by rw[hw1];simp;omega
    have b1:Below W4.heap.size W4 w1:=by rw[hw1];exact(((aD _ W4).alloc bW _).alloc Z _).alloc (by simp;omega) _
    have hk:w1.heap[W4.heap.size+1]?=some (.cells #[.bool false] 4 (0,0)):=by exact yb
    have b2:Below w.heap.size w w1:=t.trans (b1.mono V)
    refine(O.o w1 b2 ((b1.block _ V).trans g1) ((b1.block _ V).trans g0)).mono ?_;rintro e d ⟨x,rfl,q1,n,q3⟩
    rw[s1] at q3;refine⟨_,rfl,⟨x,rfl,q1,(Fr.of (X:=F) b2).trans n (fun _ c=>aJ c),q3⟩,(n.block _ V (fun h=>?_)).trans hk⟩
    have:=o.lt H.o _ h;omega)
 refine P.mono ?_;clear P;rintro e w3 ⟨I,d,rfl,⟨x,rfl,q1,n,q3⟩,hk,rfl⟩
 obtain⟨m,hm⟩:∃m,m=W4.heap.size+1:=⟨_,rfl⟩
 rw[<-hm];have U:av (m=w.heap.size+3):=by show m=_;omega
 clear hm hk t g0 g1 sz f;have hm:=U.o;have J:∀k,k≠m->(d.setCell ⟨m,0,none⟩ (.bool (fp o is kp s (o.wt s).length).2)).heap[k]?=d.heap[k]?:=fun k hk=>aN _ _ _ _ hk;have K:=o.keep (w':=d.setCell ⟨m,0,none⟩ (.bool (fp o is kp s (o.wt s).length).2)) q1 (by simp[World.setCell]) (fun k hk=>J k (fun e=>by
  rcases q3 k hk with h|h
  ·have:=o.lt H.o k h;omega
  ·omega))
 have L:=n.trans ((Fr.refl (fun k=>k=m) d).set m 0 (.bool (fp o is kp s (o.wt s).length).2) rfl) (fun i c=>aI V)
 have W:av (∃b,o.J b (fp o is kp s (o.wt s).length).1 (d.setCell ⟨m,0,none⟩ (.bool (fp o is kp s (o.wt s).length).2))/\Fr F w (d.setCell ⟨m,0,none⟩ (.bool (fp o is kp s (o.wt s).length).2))/\∀k,b k->F k\/w.heap.size<=k):=⟨x,K,L,fun k h=>(q3 k h).imp id (fun h=>by omega)⟩
 clear K L J q1 n q3 hm;go_wp2_with fail;go_ret;obtain⟨b,Y,ab,ad⟩:=W.o;exact⟨b,rfl,Y,ab,ad⟩
structure ca where
 N:Nat
 O:Nat
 y:Nat
 T:List Int
structure ch where
 g:Nat
 ws:List Int
 f:Int->Int
 nx:Int
 wk:List Int
 ep:List Int
 rs:List Int
def ca.ld (k:ca)(s:ch)(a:Int):Int:=Proofs.YtjpjpjemibgjpaaGreat.ld k.N k.y s.g s.ws a
def ca.cK (k:ca)(x:Int):Bool:=cX x&&k.T.contains (cf x)
def ca.ls (k:ca)(s:ch)(x:Int):Bool:=k.cK x&&(s.f (cf x)==-1)
def ca.nw (k:ca)(s:ch)(x:Int):Int:=if(k.cK x&&!(s.f (cf x)==-1))=true then ew 3 (s.f (cf x)) else x
def gq (f:Int->Int)(a v:Int):Int->Int:=fun b=>if b=a then v else f b
def ca.cp (k:ca)(s:ch)(a:Int):ch:={s with g:=ju k.N k.O k.y s.g s.ws a,ws:=jv k.N k.O k.y s.g s.ws a,f:=gq s.f a (mn k.N k.O k.y s.g s.ws a)}
def ca.br (k:ca)(s:ch)(x:Int):Int×ch:=if k.ls s x=true then(k.nw (k.cp s (cf x)) x,k.cp s (cf x)) else(k.nw s x,s)
def ca.st (k:ca)(s:ch)(a x:Int):ch:={s with ws:=if da k.N k.y s.g a=true then s.ws.set a.toNat x else s.ws}
def ca.kf (k:ca)(s:ch)(a:Int):ch:=k.st (k.br s (k.ld s a)).2 a (k.br s (k.ld s a)).1
def ca.fP (k:ca)(s:ch)(a:Int):Nat->ch
 |0=>s
 |n+1=>k.kf (k.fP s a n) (a+1+n)
def ca.lk (k:ca)(s:ch)(a:Int):ch:=
 if pk (k.ld s a)=1\/pk (k.ld s a)=2 then k.fP s a (pf (k.ld s a)).toNat
 else if pk (k.ld s a)=3 then k.kf {s with wk:=s.wk++[a]} (a+2)
 else if pk (k.ld s a)=4 then {s with ep:=s.ep++[a]} else s
def ca.lb (k:ca):Nat->ch->ch
 |0,s=>s
 |n+1,s=>if hB k.N s.g s.nx=true then k.lb n {k.lk s s.nx with nx:=s.nx+(1+pf (k.ld s s.nx))} else s
def ca.cO (k:ca)(t:List Int×ch)(a:Int):List Int×ch:=if k.ls t.2 (k.ld t.2 (a+1))=true then(t.1++[a],t.2) else(t.1,k.kf (k.kf t.2 (a+1)) (a+2))
def ca.dx (k:ca)(s:ch)(l:List Int):List Int×ch:=l.foldl k.cO ([],s)
def ca.kv (k:ca)(s:ch):Bool×ch:=(decide ((k.dx s s.ep).1.length<s.ep.length),{(k.dx s s.ep).2 with ep:=(k.dx s s.ep).1})
def dB {b:Type}(is:b->Int->Bool)(kp:b->Int->Int×b)(t:(b×List bZ)×Bool)(i:Nat):(b×List bZ)×Bool:=
 if is t.1.1 (t.1.2.getD i (0,0)).2||!is t.1.1 (t.1.2.getD i (0,0)).1 then t
 else(((kp t.1.1 (t.1.2.getD i (0,0)).2).2,t.1.2.set i ((t.1.2.getD i (0,0)).1,(kp t.1.1 (t.1.2.getD i (0,0)).2).1)),true)
def gC {b:Type}(is:b->Int->Bool)(kp:b->Int->Int×b)(s:b×List bZ)(n:Nat):(b×List bZ)×Bool:=(List.range n).foldl (dB is kp) (s,false)
def ca.al (k:ca)(s:ch)(x:Int):Bool:=!k.ls s x
def ca.wa (k:ca)(s:ch×List bZ):(ch×List bZ)×Bool:=gC k.al k.br s s.2.length
def ca.mu (k:ca)(s:ch):Nat:=(k.N+k.O+13-s.nx).toNat+s.ep.length+(k.O-s.g)
def ca.cV (k:ca):Nat->ch×List bZ->ch×List bZ
 |0,s=>s
 |n+1,s=>
  if(k.kv (k.lb (k.O+1) s.1)).1=true then k.cV n ((k.kv (k.lb (k.O+1) s.1)).2,s.2)
  else if(k.wa ((k.kv (k.lb (k.O+1) s.1)).2,s.2)).2=true then k.cV n (k.wa ((k.kv (k.lb (k.O+1) s.1)).2,s.2)).1
  else(k.wa ((k.kv (k.lb (k.O+1) s.1)).2,s.2)).1
def ca.sp (k:ca)(s:ch×List bZ):ch×List bZ:=k.cV (k.mu s.1+1) s
def ca.ke (k:ca)(s:ch×List bZ)(x:Int):Int×(ch×List bZ):=((k.br s.1 x).1,k.sp ((k.br s.1 x).2,s.2))
def ca.cJ (k:ca)(s:ch):Nat->ch
 |0=>s
 |n+1=>{(k.br (k.cJ s n) ((k.cJ s n).rs.getD n 0)).2 with rs:=(k.br (k.cJ s n) ((k.cJ s n).rs.getD n 0)).2.rs.set n (k.br (k.cJ s n) ((k.cJ s n).rs.getD n 0)).1}
def ca.ga (k:ca)(e c:Int)(M:List Int)(s:ch)(a:Int):ch:=if a+pf (k.ld s a)<e then(if(fQ k.N c a&&M.contains (cN k.N a))=true then k.lk s a else s) else s
def ca.lm (k:ca)(c:Int)(M:List Int)(s:ch)(l:List Int):ch:=l.foldl (k.ga s.nx c M) s
def ca.eF (k:ca)(s:ch)(a:Int):ch:=if k.ls s (k.ld s (a+1))=true then k.st s (a+1) 3 else k.st s (a+1) (k.nw s (k.ld s (a+1)))
def ca.mw (k:ca)(s:ch)(l:List Int):ch:=l.foldl k.eF s
def ca.gt (k:ca)(s:ch)(a:Int):ch:=k.st (k.st s (a+1) 3) (a+2) 3
def ca.be (k:ca)(s:ch)(l:List Int):ch:=l.foldl k.gt s
def ca.sz (k:ca)(s:ch):Nat:=((k.T.filter (fun a=>s.f a==-1)).map (fun a=>1+(pf (k.ld s a)).toNat)).sum
structure CI (k:ca)(s:ch):Prop where
 hN:16<=k.N
 hN':k.N<=256
 hO:k.O<=1024
 hy:k.y<=k.N
 hg:s.g<=k.O
 len:s.ws.length=k.N+k.O
 th:∀a∈k.T,0<=a/\pc (k.ld s a)=0/\a+1+pf (k.ld s a)<=k.y
 nd:k.T.Nodup
 room:k.sz s<=k.O-s.g
 gT:(k.N:Int)<=s.nx
 gB:s.nx<=(k.N:Int)+k.O+13
 ij:∀a∈s.wk,(k.N:Int)<=a/\a<=2000
 g_:∀a∈s.ep,(k.N:Int)<=a/\a<=2000
 tl:k.T.length<=2000
structure ei (k:ca)(s:ch):Prop where
 wk:s.wk.length+(k.N+k.O+13-s.nx).toNat<=4000
 ep:s.ep.length+(k.N+k.O+13-s.nx).toNat<=4000
end Go.Proofs.YtjpjpjemibgjpaaGreat
