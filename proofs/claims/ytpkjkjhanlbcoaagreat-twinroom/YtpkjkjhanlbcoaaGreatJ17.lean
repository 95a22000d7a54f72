import Derived.Test.YtpkjkjhanlbcoaaGreatJ16
import Derived.Maps.RangeWalk
namespace Go.Proofs.YtpkjkjhanlbcoaaGreat
set_option maxRecDepth 100000
set_option maxHeartbeats 2000000
open Tryz
open Go.RowKit W Kp cf
theorem ul {P:Prop}(h:P:=by
 go_enter func232,ntmps232;go_wp2_with fail;refine P.mono ?_;clear P;rintro e w1 ⟨rfl,hb⟩
 have HB:ay (Below w.heap.size w w1):=((aH _ w).alloc bW _).trans (hb.mono Z)
 clear hb;go_wp2_with fail;go_ret2;exact⟨rfl,HB.o.alloc HB.o.size _⟩):P:=h
theorem z3 {P:Prop}(h:P:=by
 go_enter func200,ntmps200;go_wp2_with fail;refine P.mono ?_;clear P;rintro e w1 ⟨rfl,hb⟩
 have HB:ay (Below w.heap.size w w1):=((aH _ w).alloc bW _).trans (hb.mono Z)
 clear hb;go_wp2_with fail;go_ret;exact⟨rfl,HB.o.alloc HB.o.size _⟩):P:=h
theorem z4 {P:Prop}(h:P:=by
 rw[aE,aE,List.getElem?_set];split
 ·rename_i e;subst e;rfl
 ·rfl):P:=h
theorem HL (n o:Int)(w:ax)(h:n<16\/256<n\/o<0\/1024<o):
 Calls prog 18 #[ah n,ah o] w fun e w'=>e=.returned (.tuple #[.pointer none,.agg #[ah 1,ah (-1)]])/\Below w.heap.size w w':=by
 have g:=aO w (.cells #[.int .i64 0,.int .i64 0] 28)
 have P:=EM n o (w.alloc (.cells #[.int .i64 0,.int .i64 0] 28)) h;go_enter func18,ntmps18;go_wp2_with fail;refine P.mono ?_;rintro e w1 ⟨rfl,d⟩
 have c:=(d.block w.heap.size Z).trans g;have hB1:=(au w (.cells #[.int .i64 0,.int .i64 0] 28)).trans (d.mono Z)
 have i:=d.size;simp at i;have y0:w1.cell? (aq w.heap.size 0)=some (ah 0):=aA c
 have y1:w1.cell? (aq w.heap.size 1)=some (ah 0):=aA c
 have m:w1.frozen? (aq w.heap.size 0)=false:=aC c
 have q:w1.frozen? (aq w.heap.size 1)=false:=aC c
 have l1:w.heap.size<w1.heap.size:=V;clear d g c;go_wp2_with fail
 go_region_law (fail)
 all_goals
  obtain⟨b,hW0⟩:∃b,b=(w1.setCell ⟨w.heap.size,0,none⟩ (.int .i64 1)).setCell ⟨w.heap.size,1,none⟩ (.int .i64 (-1)):=⟨_,rfl⟩
  rw[<-hW0];have s:b.heap.size=w1.heap.size:=by rw[hW0];simp[World.setCell]
  have g0:b.cell? (aq w.heap.size 0)=some (ah 1):=by exact lu
  have g1:b.cell? (aq w.heap.size 1)=some (ah (-1)):=by exact qi
  have j:Below w.heap.size w b:=by exact te
  have f:=(au b (.cells #[.int .i64 1,.int .i64 (-1)] 28)).drew;have r0:=(f.cell (p:=aq w.heap.size 0) (by show w.heap.size<_;omega)).trans g0;have r1:=(f.cell (p:=aq w.heap.size 1) (by show w.heap.size<_;omega)).trans g1;have l:=j.trans (f.mono V)
  generalize (b.alloc (.cells #[.int .i64 1,.int .i64 (-1)] 28)).drew=t at*;go_wp2_with fail;refine a4 (v:=.tuple #[.pointer none,.agg #[.int .i64 1,.int .i64 (-1)]]) (by simp[results,results18,go_sem,r0,r1]) rfl ⟨rfl,l⟩
theorem HM (n o:Nat)(w:ax)(h0:16<=n)(l:n<=256)(m:o<=1024):
 Calls prog 18 #[ah n,ah o] w fun e w'=>∃hp,e=.returned (.tuple #[aj hp,.agg #[ah 0,ah 0]])/\Below w.heap.size w w':=by
 have g:=au w (.cells #[.int .i64 0,.int .i64 0] 28)
 have P:=yb n o (w.alloc (.cells #[.int .i64 0,.int .i64 0] 28)) h0 l m;have i:=aO w (.cells #[.int .i64 0,.int .i64 0] 28)
 have t:w.heap.size<(w.alloc (.cells #[.int .i64 0,.int .i64 0] 28)).heap.size:=Z;have j:=hide g;clear g;go_enter func18,ntmps18;go_wp2_with fail;generalize w.alloc (.cells #[.int .i64 0,.int .i64 0] 28)=w0 at*;generalize u:w.heap.size=fb at*;refine P.mono ?_;clear P;rintro e w1 ⟨pw,p,q,pc,cO,s,nb,rfl,x,hs,hr,hg,d⟩
 have c:=(d.block fb t).trans i;have y0:w1.cell? (aq fb 0)=some (ah 0):=aA c
 have y1:w1.cell? (aq fb 1)=some (ah 0):=aA c
 have z0:w1.frozen? (aq fb 0)=false:=aC c
 have E:w1.frozen? (aq fb 1)=false:=aC c
 have A:=lt_of_some c;have B:=hide (j.o.trans (d.mono V))
 clear x hs hr hg d i j c;go_wp2_with fail;obtain⟨b,hW1⟩:∃b,b=(w1.setCell ⟨fb,0,none⟩ (.int .i64 0)).setCell ⟨fb,1,none⟩ (.int .i64 0):=⟨_,rfl⟩
 rw[<-hW1];have v0:b.cell? (aq fb 0)=some (ah 0):=by exact tt
 have v1:b.cell? (aq fb 1)=some (ah 0):=by exact yd
 have C:Fr (fun k=>k=fb) w1 b:=by rw[hW1];exact((Fr.refl (fun k=>k=fb) w1).set fb 0 _ rfl).set fb 1 _ rfl
 have F:b.heap.size=w1.heap.size:=by rw[hW1];simp
 clear hW1;have f:=(au b (.cells #[.int .i64 0,.int .i64 0] 28)).alloc Z (.cells #[.pointer (some ⟨pw,0,none⟩)] 49)
 have g0:=(f.cell (p:=aq fb 0) (by show fb<_;omega)).trans v0;have g1:=(f.cell (p:=aq fb 1) (by show fb<_;omega)).trans v1;have D:=B.o.trans (C.below (Nat.le_of_lt A) (fun k e=>Nat.le_of_eq (Eq.symm e)))
 exact a4 (v:=.tuple #[aj (w1.heap.size+1),.agg #[ah 0,ah 0]]) (by simp only [results,results18];simp[go_sem,g0,g1]) rfl ⟨w1.heap.size+1,rfl,by rw[u];exact D.trans (f.mono V)⟩
section
variable {a:Wc}{hp:Nat}{F:Nat->Prop}{S:cq}{w:ax}
theorem z5 (h:(cw a hp).J F S w)(hq:S.q.length<=90000):
 Calls prog 25 #[aj a.pw] w fun e w'=>∃c b d f,e=.returned (.agg #[.slice c 12 b,.slice d (fw a.N S.s.y S.s.g S.s.ws S.q S.s.rs).2.2.length f])/\mM w' w.heap.size c (fw a.N S.s.y S.s.g S.s.ws S.q S.s.rs).1/\k4 w' w.heap.size d (fw a.N S.s.y S.s.g S.s.ws S.q S.s.rs).2.2/\Below w.heap.size w w':=by
 obtain⟨n,g,_⟩:=kk h;obtain⟨o,g1,_⟩:=m5 g;obtain⟨c0,_,c2,c3,_,rl,_,j⟩:=jN g1;obtain⟨p,ar,q,⟨s,ad,cap,⟨own,cO,hM,hO⟩,b,k,t,_⟩,r0,r1,u⟩:=g;have hl:Lq w (ak a.nb) S.s.rs:=by
  have hr:=hM.rt;refine⟨fun _=>⟨a.nb,0,rfl,lt_of_some hr,fun i hi=>?_⟩,fun _=>⟨a.nb,0,_,rfl,hr⟩⟩
  rw[Nat.zero_add];exact(j i (by rw[<-rl];exact hi)).1
 have P:=HI ⟨c0,c2,(kJ g1).1,b,g8 k,hq⟩ (by rw[rl];exact c3) hl (by rw[rl];decide)
 rw[rl] at P;refine P.mono ?_;rintro e w' ⟨c,b,d,v,f,rfl,q1,l,rfl,m⟩
 exact⟨c,b,d,f,rfl,q1,l,m⟩
theorem z6 (h:(cw a hp).J F S w):Calls prog 22 #[aj a.p] w fun e w'=>e=.returned (.tuple #[ah S.s.y,ah S.s.g])/\Below w.heap.size w w':=
 kE w (lz h).1
end
def dH (L:List Bool)(v:Int×Int):Bool:=!(v.1==3)||L.getD v.2.toNat false
def t0:cD:=(0,[],false,false)
def jC (T:List cD)(wt:List b7)(X:Nat->Prop)(i:Nat)(v:Int×Int):Prop:=
 (((T.getD i t0).1=1\/(T.getD i t0).1=2)/\v∈(T.getD i t0).2.1)\/((T.getD i t0).1=3/\v=(T.getD i t0).2.1.getD 1 (0,0))\/
 ((T.getD i t0).1=4/\(((T.getD i t0).2.1.getD 0 (0,0)).1=3->X ((T.getD i t0).2.1.getD 0 (0,0)).2.toNat)/\v=(T.getD i t0).2.1.getD 1 (0,0))\/
 ((T.getD i t0).1=5/\∃e∈wt,e.1=i/\v=(3,e.2))
theorem jC.mono {T:List cD}{wt:List b7}{X Y:Nat->Prop}(b:∀i,X i->Y i){i:Nat}{v:Int×Int}(h:jC T wt X i v):jC T wt Y i v:=by
 rcases h with h|h|⟨d,e,f⟩|h
 ·exact aK h
 ·exact aJ (aK h)
 ·exact aJ (aJ (aK ⟨d,fun c=>b _ (e c),f⟩))
 ·exact aJ (aJ (aJ h))
def gY (T:List cD)(wt:List b7)(X:Nat->Prop):Prop:=∀i,i<T.length->X i->∀v,jC T wt X i v->v.1=3->X v.2.toNat
def ct (L:List Bool):Nat->Prop:=fun i=>L.getD i false=true
structure ow (T:List cD)(wt:List b7)(is out:List Bool):Prop where
 len:out.length=is.length
 up:∀i,ct is i->ct out i
 cl:gY T wt (ct out)
 lt:∀X,gY T wt X->(∀i,ct is i->X i)->∀i,ct out i->X i
theorem mf {L:List Bool}{v:Int×Int}(h:dH L v=false):v.1=3/\L.getD v.2.toNat false=false:=by unfold dH at h;rw[Bool.or_eq_false_iff] at h;exact⟨by simpa using h.1,h.2⟩
theorem nk {L:List Bool}{v:Int×Int}(h:dH L v=true):v.1=3->ct L v.2.toNat:=fun b=>by unfold dH at h;rw[b] at h;unfold ct;simpa using h
theorem i8 (L:List Bool)(i j:Nat)(h:i<L.length):(L.set i true).getD j false=if i=j then true else L.getD j false:=by exact z4
theorem ct.lt {L:List Bool}{i:Nat}(h:ct L i):i<L.length:=by
 unfold ct at h;by_cases c:i<L.length
 ·exact c
 ·rw[aE,List.getElem?_eq_none V] at h;cases h
def cnt (L:List Bool):Nat:=(L.filter (fun b=>!b)).length
theorem um:∀(L:List Bool)(i:Nat),L.getD i true=false->cnt (L.set i true)+1=cnt L
 |[],i,h=>by simp at h
 |b::L,0,h=>by
  have h:b=false:=by simpa using h
  subst h;simp[cnt]
 |b::L,i+1,h=>by
  have h:L.getD i true=false:=by simpa using h
  have c:=um L i h;unfold cnt at c⊢;rw[List.set_cons_succ];cases b
  ·simp only [Bool.not_false,List.filter_cons_of_pos,List.length_cons];omega
  ·exact c
def cv (T:List cD)(i:Nat):Prop:=i<T.length/\(T.getD i t0).2.2.2=false
structure e4 (T:List cD)(wt:List b7):Prop where
 fl:∀i,cv T i->(T.getD i t0).1=3\/(T.getD i t0).1=4->(T.getD i t0).2.1.length=2
 fv:∀i,cv T i->∀v∈(T.getD i t0).2.1,v.1=3->0<=v.2/\cv T v.2.toNat
 wv:∀e∈wt,0<=e.2/\cv T e.2.toNat
 tl:∀i,(T.getD i t0).2.1.length<=12
theorem getD_in {b:Type}{l:List b}{i:Nat}{x:b}(h:i<l.length):l.getD i x∈l:=by rw[aE,aL h];exact a6 h
theorem e4.pE {T:List cD}{wt:List b7}(h:e4 T wt){X:Nat->Prop}{i:Nat}(hi:cv T i){v:Int×Int}(hv:jC T wt X i v)(b:v.1=3):0<=v.2/\cv T v.2.toNat:=by
 rcases hv with⟨_,hm⟩|⟨hk,e⟩|⟨hk,_,e⟩|⟨_,c,he,_,e⟩
 ·exact h.fv i hi v hm b
 ·exact h.fv i hi v (by rw[e];exact getD_in (by rw[h.fl i hi (aK hk)];decide)) b
 ·exact h.fv i hi v (by rw[e];exact getD_in (by rw[h.fl i hi (aJ hk)];decide)) b
 ·rw[e];exact h.wv c he
theorem e4.cls {T:List cD}{wt:List b7}(h:e4 T wt):gY T wt (cv T):=fun _ _ b _ hv c=>(h.pE b hv c).2
def un (mj:Bool)(t:cD):Bool:=t.2.2.1&&!t.2.2.2&&!mj
def nl (L:List Bool)(v:Int×Int):List Bool:=if v.1=3 then L.set v.2.toNat true else L
def jY (T:List cD)(rs:List (Int×Int))(mj:Bool):List Bool:=rs.foldl nl (T.map (un mj))
theorem z7 (L:List Bool)(v:Int×Int):(nl L v).length=L.length:=by
 unfold nl;split
 ·rw[a3]
 ·rfl
theorem z8 (T:List cD)(rs:List _)(mj:Bool):(jY T rs mj).length=T.length:=by
 have key:∀(rs:List (Int×Int))(L:List Bool),(rs.foldl nl L).length=L.length:=fun rs=>by
  induction rs with
  |nil=>intro L;rfl
  |cons v rs b=>intro L;rw[a8,b,z7]
 unfold jY;rw[key,aW]
theorem HO {L:List Bool}{v:Int×Int}{i:Nat}:ct (nl L v) i↔ct L i\/(v.1=3/\v.2.toNat=i/\i<L.length):=by
 unfold nl;by_cases b:v.1=3
 ·rw[aI b];unfold ct;by_cases hl:v.2.toNat<L.length
  ·rw[i8 _ _ _ hl];constructor
   ·intro h;split at h
    ·rename_i e;exact aJ ⟨b,e,V⟩
    ·exact aK h
   ·rintro(h|⟨_,e,_⟩)
    ·split
     ·rfl
     ·exact h
    ·rw[aI e]
  ·rw[List.set_eq_of_length_le V];exact⟨aK,fun h=>h.elim id (fun⟨_,e,c⟩=>absurd c V)⟩
 ·rw[aG b];exact⟨aK,fun h=>h.elim id (fun⟨e,_⟩=>absurd e b)⟩
theorem z9:∀(rs:List (Int×Int))(L:List Bool)(i:Nat),ct (rs.foldl nl L) i↔ct L i\/(i<L.length/\∃v∈rs,v.1=3/\v.2.toNat=i)
 |[],L,i=>by simp
 |v::rs,L,i=>by
  rw[a8,z9 rs,HO,z7];constructor
  ·rintro((h|⟨c,b,d⟩)|⟨c,f,g,b⟩)
   ·exact aK h
   ·exact aJ ⟨d,v,Z,c,b⟩
   ·exact aJ ⟨c,f,aN _ g,b⟩
  ·rintro(h|⟨c,f,g,b,d⟩)
   ·exact aK (aK h)
   ·rcases List.mem_cons.1 g with e|e
    ·rw[e] at b d;exact aK (aJ ⟨b,d,c⟩)
    ·exact aJ ⟨c,f,e,b,d⟩
theorem HQ (mj:Bool)(T:List cD)(i:Nat):ct (T.map (un mj)) i↔i<T.length/\(T.getD i t0).2.2.1=true/\(T.getD i t0).2.2.2=false/\mj=false:=by
 unfold ct;by_cases h:i<T.length
 ·rw[aE,List.getElem?_map,aL h,aE,aL h];simp[un,h,and_assoc]
 ·simp[h]
theorem kw (T:List cD)(rs:List _)(mj:Bool)(i:Nat):ct (jY T rs mj) i↔i<T.length/\(((T.getD i t0).2.2.1=true/\(T.getD i t0).2.2.2=false/\mj=false)\/∃v∈rs,v.1=3/\v.2.toNat=i):=by
 unfold jY;rw[z9,HQ,aW];constructor
 ·rintro(⟨c,b⟩|⟨c,b⟩)
  ·exact⟨c,aK b⟩
  ·exact⟨c,aJ b⟩
 ·rintro⟨c,b|b⟩
  ·exact aK ⟨c,b⟩
  ·exact aJ ⟨c,b⟩
section
variable {T:List cD}{wt:List b7}
theorem ow.uniq {is a b:List Bool}(h:ow T wt is a)(c:ow T wt is b):a=b:=by
 refine List.ext_getElem (h.len.trans c.len.symm) (fun i d e=>?_)
 have key:ct a i↔ct b i:=⟨fun q=>h.lt _ c.cl c.up i q,fun q=>c.lt _ h.cl h.up i q⟩
 unfold ct at key;cases ha:a[i]<;>cases hb:b[i]<;>simp_all
end
def cL (L:List Bool)(x:Int):Bool:=L.getD x.toNat false
def fz (g:List Bool->List Bool)(L:List Bool)(x:Int):List Bool:=g (L.set x.toNat true)
def iF (T:List cD)(L:List Bool):Nat->Int
 |0=>0
 |i+1=>if L.getD i false=true then iF T L i+(1+(T.getD i t0).2.1.length) else iF T L i
def fA (L:List Bool)(i:Nat)(t:cD):cD:=
 if L.getD i false=true then
  (t.1,(if t.1=4/\dH L (t.2.1.getD 0 (0,0))=false then[(2,0),(2,0)] else if t.1=3/\dH L (t.2.1.getD 0 (0,0))=false then[(2,0),t.2.1.getD 1 (0,0)] else t.2.1),true,t.2.2.2)
 else(t.1,[],t.2.2.1,true)
def f8 (L:List Bool)(T:List cD):Nat->List cD
 |0=>T
 |i+1=>(f8 L T i).set i (fA L i (T.getD i t0))
def ck.c0 (g:List Bool->List Bool)(s:ck)(mj:Bool):List Bool:=g (jY s.T s.rs mj)
def ck.cR (g:List Bool->List Bool)(s:ck)(mj:Bool):List Bool×List b7×List b7:=
 turns cL (fz g) (s.rg.length+1) (s.rg.filter (fun e=>!cL (s.c0 g mj) e.2)) (s.c0 g mj) []
def ck.cF (g:List Bool->List Bool)(s:ck)(bZ:Int)(mj:Bool):Bool:=
 (!mj&&decide (bZ-(ec s.T).2<(ec s.T).1))||decide (bZ<iF s.T (s.cR g mj).1 s.T.length)
def ck.cut (g:List Bool->List Bool)(s:ck)(bZ:Int)(mj:Bool):ck:=
 if s.cF g bZ mj=true then s else
  {T:=f8 (s.cR g mj).1 s.T s.T.length,rs:=s.rs,rg:=s.rg.filter (fun e=>cL (s.c0 g mj) e.2&&cL (s.cR g mj).1 e.1),wt:=(s.wt++(s.cR g mj).2.1).filter (fun e=>cL (s.cR g mj).1 e.1)}
def ck.gO (g:List Bool->List Bool)(s:ck)(bZ:Int)(mj:Bool):Int:=if s.cF g bZ mj=true then 3 else 0
def dR (T:List cD)(wt:List b7)(g:List Bool->List Bool):Prop:=∀is:List Bool,is.length=T.length->(∀k,ct is k->cv T k)->ow T wt is (g is)
theorem jD (L:List Bool)(T:List cD):∀i,(f8 L T i).length=T.length
 |0=>rfl
 |i+1=>by rw[f8,a3];exact jD L T i
theorem q7 (L:List Bool)(T:List cD):∀(i j:Nat),i<=T.length->j<T.length->(f8 L T i).getD j t0=if j<i then fA L j (T.getD j t0) else T.getD j t0
 |0,j,_,_=>by rfl
 |i+1,j,hi,b=>by
  rw[f8,aE,List.getElem?_set];by_cases e:i=j
  ·subst e;rw[aI rfl,aI (by rw[jD];exact b),aI V];rfl
  ·rw[aG e,<-aE,(q7 L T i j V b)];by_cases c:j<i
   ·rw[aI c,aI V]
   ·rw[aG c,aG V]
theorem z_ (T:List cD)(L:List Bool)(h:∀i,(T.getD i t0).2.1.length<=12):∀i,0<=iF T L i/\iF T L i<=13*i
 |0=>by simp[iF]
 |i+1=>by
  have b:=z_ T L h i;have:=h i;unfold iF;split
  ·omega
  ·omega
section
variable {T:List cD}{wt:List b7}{g:List Bool->List Bool}
structure gE (T:List cD)(L:List Bool):Prop where
 len:L.length=T.length
 al:∀k,ct L k->cv T k
theorem dR.ok (hg:dR T wt g)(c:e4 T wt){L:List Bool}(h:gE T L):gE T (g L)/\∀k,ct L k->ct (g L) k:=by have b:=hg L h.len h.al;exact⟨⟨b.len.trans h.len,fun k hk=>b.lt _ c.cls h.al k hk⟩,b.up⟩
theorem gE.put {L:List Bool}(h:gE T L){x:Nat}(b:cv T x):gE T (L.set x true)/\ct (L.set x true) x/\∀k,ct L k->ct (L.set x true) k:=by
 have hl:x<L.length:=by rw[h.len];exact b.1
 refine⟨⟨by rw[a3];exact h.len,fun k hk=>?_⟩,?_,fun k hk=>?_⟩
 ·unfold ct at hk;rw[i8 _ _ _ hl] at hk;split at hk
  ·rename_i e;rw[<-e];exact b
  ·exact h.al k hk
 ·unfold ct;rw[i8 _ _ _ hl,aI rfl]
 ·unfold ct at hk⊢;rw[i8 _ _ _ hl];split
  ·rfl
  ·exact hk
theorem gE.fz (hg:dR T wt g)(c:e4 T wt){L:List Bool}(h:gE T L){x:Int}(d:cv T x.toNat):gE T (fz g L x)/\ct (fz g L x) x.toNat/\∀k,ct L k->ct (fz g L x) k:=by obtain⟨e,f,i⟩:=h.put d;obtain⟨q1,b⟩:=hg.ok c e;exact⟨q1,b _ f,fun k hk=>b _ (i k hk)⟩
end
structure fI (s:ck):Prop where
 iv:e4 s.T s.wt
 rv:∀v∈s.rs,v.1=3->0<=v.2/\cv s.T v.2.toNat
 gv:∀e∈s.rg,(0<=e.1/\cv s.T e.1.toNat)/\0<=e.2/\cv s.T e.2.toNat
 wg:∀e∈s.wt,0<=e.1/\cv s.T e.1.toNat
 tl:s.T.length<=10000
 gl:s.rg.length<=1000
 wl:s.wt.length<=1000
theorem fI.t12 {s:ck}(h:fI s):∀t∈s.T,t.2.1.length<=12:=fun t ht=>by
 obtain⟨i,hi,e⟩:=List.mem_iff_getElem.1 ht;have:=h.iv.tl i;rw[aE,aL hi,e] at this
 exact this
theorem fI.first {s:ck}(h:fI s)(mj:Bool):gE s.T (jY s.T s.rs mj):=
 ⟨z8 _ _ _,fun k hk=>by
  obtain⟨c,b⟩:=(kw _ _ _ _).1 hk;rcases b with⟨_,b,_⟩|⟨v,hv,d,e⟩
  ·exact⟨c,b⟩
  ·rw[<-e];exact(h.rv v hv d).2⟩
abbrev gP:=List cD->List b7->List Bool->List Bool
def iG (T:List cD)(v:Int×Int):Bool:=v.1==3&&(T.getD v.2.toNat t0).1==5
def jE (T:List cD)(v:Int×Int):Bool:=v.1==3&&!((T.getD v.2.toNat t0).1==5)
theorem q8 {T:List cD}{v:Int×Int}:iG T v=true↔v.1=3/\(T.getD v.2.toNat t0).1=5:=by unfold iG;simp
theorem jF {T:List cD}{v:Int×Int}:jE T v=true↔v.1=3/\(T.getD v.2.toNat t0).1≠5:=by unfold jE;simp
abbrev i9 (T:List cD)(j i:Nat)(y:Int×Int):List cD:=T.set j ((T.getD j t0).1,(T.getD j t0).2.1.set i y,(T.getD j t0).2.2)
def ck.room (g:gP)(b_ bZ:Int)(s:ck)(m:Int):Int×ck:=
 if m<=b_-(ec s.T).1 then(0,s) else(s.gO (g s.T s.wt) bZ (decide (bZ-(ec s.T).2<(ec s.T).1)),s.cut (g s.T s.wt) bZ (decide (bZ-(ec s.T).2<(ec s.T).1)))
def ck.put (s:ck)(kd:Int)(l:List (Int×Int)):ck:={s with T:=s.T++[(kd,l,false,false)]}
def ck.bZ (g:gP)(b_ bZ:Int)(s:ck)(kd:Int)(l:List (Int×Int)):(Int×Int)×Int×ck:=
 if(s.room g b_ bZ (1+l.length)).1=0 then((3,((s.room g b_ bZ (1+l.length)).2.T.length:Int)),0,(s.room g b_ bZ (1+l.length)).2.put kd l)
 else((0,0),(s.room g b_ bZ (1+l.length)).1,(s.room g b_ bZ (1+l.length)).2)
def ck.pop (s:ck)(v:Int×Int):(Int×Int)×Int×ck:=
 if iG s.T v=true then(if dO v.2 s.wt<s.wt.length then((3,(s.wt.getD (dO v.2 s.wt) (0,0)).2),0,{s with wt:=s.wt.take (dO v.2 s.wt)++s.wt.drop (dO v.2 s.wt+1)}) else((0,0),4,s)) else((0,0),2,s)
def ck.fc (s:ck)(v:Int×Int)(I:Int):Int:=if jE s.T v=true then(if I<0\/((s.T.getD v.2.toNat t0).2.1.length:Int)<=I then 1 else 0) else 2
def ck.rt (g:gP)(b_ bZ:Int)(s:ck)(k:Int)(A B:Nat)(I n:Int):(Int×Int)×Int×ck:=
 if k=1 then((1,n),0,s) else if k=3 then(s.rs.getD A (0,0),0,s) else if k=4 then s.bZ g b_ bZ 1 [s.rs.getD A (0,0),s.rs.getD B (0,0)] else if k=5 then s.bZ g b_ bZ 2 (List.replicate n.toNat (s.rs.getD A (0,0)))
 else if k=6 then s.bZ g b_ bZ 3 [s.rs.getD A (0,0),s.rs.getD B (0,0)] else if k=7 then s.bZ g b_ bZ 4 [s.rs.getD A (0,0),s.rs.getD B (0,0)] else if k=8 then s.bZ g b_ bZ 5 [] else if k=10 then s.pop (s.rs.getD A (0,0))
 else if k=11 then((if s.fc (s.rs.getD A (0,0)) I=0 then(s.T.getD (s.rs.getD A (0,0)).2.toNat t0).2.1.getD I.toNat (0,0) else(0,0)),s.fc (s.rs.getD A (0,0)) I,s)
 else if k=13 then(if jE s.T (s.rs.getD A (0,0))=true then((1,((s.T.getD (s.rs.getD A (0,0)).2.toNat t0).2.1.length:Int)),0,s) else((0,0),2,s))
 else if k=14 then((1,if s.rs.getD A (0,0)=s.rs.getD B (0,0) then 1 else 0),0,s) else((0,0),0,s)
def ck.reg (s:ck)(t b:Int×Int):Int×ck:=
 if t.1=3/\iG s.T b=true then(if 24<=s.rg.length+s.wt.length then(3,s) else(0,{s with rg:=s.rg++[(b.2,t.2)]})) else(2,s)
def ck.set (s:ck)(v:Int×Int)(I:Int)(y:Int×Int):Int×ck:=(s.fc v I,if s.fc v I=0 then {s with T:=i9 s.T v.2.toNat I.toNat y} else s)
def ck.ip (g:gP)(b_ bZ:Int)(s:ck)(k R A B I n:Int):Int×ck:=
 if dJ k R A B n=0 then(if k=9 then s.reg (s.rs.getD A.toNat (0,0)) (s.rs.getD B.toNat (0,0)) else if k=12 then s.set (s.rs.getD A.toNat (0,0)) I (s.rs.getD B.toNat (0,0))
  else if k=15 then(s.gO (g s.T s.wt) bZ false,s.cut (g s.T s.wt) bZ false) else if k=16 then(s.gO (g s.T s.wt) bZ true,s.cut (g s.T s.wt) bZ true)
  else if(s.rt g b_ bZ k A.toNat B.toNat I n).2.1=0 then(0,{(s.rt g b_ bZ k A.toNat B.toNat I n).2.2 with rs:=(s.rt g b_ bZ k A.toNat B.toNat I n).2.2.rs.set R.toNat (s.rt g b_ bZ k A.toNat B.toNat I n).1})
  else((s.rt g b_ bZ k A.toNat B.toNat I n).2.1,(s.rt g b_ bZ k A.toNat B.toNat I n).2.2))
 else(dJ k R A B n,s)
structure dx where
 A:List Bool
 td:List Int
 hd:Int->List (Int×Int)
 m:Nat
def d4 (s:dx)(v:Int×Int):dx:=if dH s.A v=true then s else {s with A:=s.A.set v.2.toNat true,td:=s.td++[v.2]}
def dm (s:dx)(l:List (Int×Int)):dx:=l.foldl d4 s
def kS (s:dx)(k v:Int×Int):dx:=if dH s.A k=true then d4 s v else {s with hd:=fun x=>if x=k.2 then s.hd x++[v] else s.hd x,m:=s.m+1}
def gq (T:List cD)(wt:List b7)(s:dx)(i:Int):dx:=
 if(T.getD i.toNat t0).1=1\/(T.getD i.toNat t0).1=2 then dm s (T.getD i.toNat t0).2.1
 else if(T.getD i.toNat t0).1=3 then d4 s ((T.getD i.toNat t0).2.1.getD 1 (0,0))
 else if(T.getD i.toNat t0).1=4 then kS s ((T.getD i.toNat t0).2.1.getD 0 (0,0)) ((T.getD i.toNat t0).2.1.getD 1 (0,0))
 else if(T.getD i.toNat t0).1=5 then dm s ((eg wt i).map fun x=>(3,x)) else s
def gF (T:List cD)(wt:List b7)(s:dx)(i:Int):dx:=dm (gq T wt s i) ((gq T wt s i).hd i)
theorem Aa (s:dx)(l:List (Int×Int))(v:Int×Int):dm s (l++[v])=d4 (dm s l) v:=by simp[dm,List.foldl_append]
def pF (T:List cD)(wt:List b7)(s:dx)(P:Int->Prop)(i:Nat):Prop:=
 ((T.getD i t0).1≠4->∀v,jC T wt (fun _=>True) i v->v.1=3->ct s.A v.2.toNat)/\
 ((
   T.getD i t0).1=4->(((T.getD i t0).2.1.getD 0 (0,0)).1=3/\(¬ct s.A ((T.getD i t0).2.1.getD 0 (0,0)).2.toNat\/P ((T.getD i t0).2.1.getD 0 (0,0)).2)/\(T.getD i t0).2.1.getD 1 (0,0)∈s.hd ((T.getD i t0).2.1.getD 0 (0,0)).2)\/
   (((T.getD i t0).2.1.getD 1 (0,0)).1=3->ct s.A ((T.getD i t0).2.1.getD 1 (0,0)).2.toNat))
structure eR (T:List cD)(wt:List b7)(is:List Bool)(s:dx)(E:List Int):Prop where
 len:s.A.length=T.length
 al:∀k,ct s.A k->cv T k
 lt:∀X,gY T wt X->(∀k,ct is k->X k)->∀k,ct s.A k->X k
 td:∀x,x∈E\/x∈s.td->0<=x/\ct s.A x.toNat
 hd:∀x v,v∈s.hd x->∃i,ct s.A i/\(T.getD i t0).1=4/\(T.getD i t0).2.1.getD 0 (0,0)=(3,x)/\v=(T.getD i t0).2.1.getD 1 (0,0)
 de:∀i:Nat,ct s.A i->¬((i:Int)∈E\/(i:Int)∈s.td)->pF T wt s (fun x=>x∈E\/x∈s.td) i
section
variable {T:List cD}{wt:List b7}{is:List Bool}{s:dx}{E:List Int}
theorem Ab {L:List Bool}{i k:Nat}(h:ct L k):ct (L.set i true) k:=by
 by_cases hi:i<L.length
 ·unfold ct;rw[i8 _ _ _ hi];split
  ·rfl
  ·exact h
 ·rw[List.set_eq_of_length_le V];exact h
theorem nm (s:dx)(v:Int×Int){k:Nat}(h:ct s.A k):ct (d4 s v).A k:=by
 unfold d4;split
 ·exact h
 ·exact Ab h
theorem uo (s:dx)(v:Int×Int)(b:v.1=3)(hl:v.2.toNat<s.A.length):ct (d4 s v).A v.2.toNat:=by
 unfold d4;split
 ·exact nk ‹_› b
 ·unfold ct;rw[i8 _ _ _ hl,aI rfl]
theorem q9 (s:dx)(v:Int×Int):(d4 s v).A.length=s.A.length:=by
 unfold d4;split
 ·rfl
 ·simp
theorem nn (s:dx)(v:Int×Int):(d4 s v).hd=s.hd/\(d4 s v).m=s.m:=by unfold d4;split<;>exact⟨rfl,rfl⟩
theorem HR (s:dx)(v:Int×Int){x:Int}(h:x∈s.td):x∈(d4 s v).td:=by
 unfold d4;split
 ·exact h
 ·exact aY _ h
theorem HS (s:dx)(v:Int×Int)(hv:v.1=3->0<=v.2){k:Nat}(h:ct (d4 s v).A k):ct s.A k\/(k:Int)∈(d4 s v).td:=by
 unfold d4 at h⊢;split at h
 ·exact aK h
 ·rename_i hn;have hn:dH s.A v=false:=by simpa using hn
  obtain⟨b,c⟩:=mf hn;rw[aG (by rw[hn];decide)];unfold ct at h;by_cases hl:v.2.toNat<s.A.length
  ·rw[i8 _ _ _ hl] at h;split at h
   ·rename_i e;refine aJ (a9 _ ?_)
    have:=hv b;simp;omega
   ·exact aK h
  ·rw[List.set_eq_of_length_le V] at h;exact aK h
theorem i_ (s:dx)(l:List _):(dm s l).hd=s.hd/\(dm s l).m=s.m/\(dm s l).A.length=s.A.length:=by
 induction l generalizing s with
 |nil=>exact⟨rfl,rfl,rfl⟩
 |cons v l b=>
  have h:=b (d4 s v)
  exact⟨h.1.trans (nn s v).1,h.2.1.trans (nn s v).2,h.2.2.trans (q9 s v)⟩
theorem ky (s:dx)(l:List _){k:Nat}(h:ct s.A k):ct (dm s l).A k:=by
 induction l generalizing s with
 |nil=>exact h
 |cons v l b=>exact b (d4 s v) (nm s v h)
theorem HU (s:dx)(l:List _){x:Int}(h:x∈s.td):x∈(dm s l).td:=by
 induction l generalizing s with
 |nil=>exact h
 |cons v l b=>exact b (d4 s v) (HR s v h)
theorem uq (s:dx)(l:List _)(hl:∀v∈l,v.1=3->v.2.toNat<s.A.length):∀v∈l,v.1=3->ct (dm s l).A v.2.toNat:=by
 induction l generalizing s with
 |nil=>intro v hv;cases hv
 |cons c l d=>
  intro v hv b;rcases List.mem_cons.1 hv with e|hv
  ·exact ky (d4 s c) l (by rw[e] at b⊢;exact uo s c b (hl c Z b))
  ·exact d (d4 s c) (fun v hv b=>by rw[q9];exact hl v (aN _ hv) b) v hv b
theorem HV (s:dx)(l:List _)(hl:∀v∈l,v.1=3->0<=v.2){k:Nat}(h:ct (dm s l).A k):ct s.A k\/(k:Int)∈(dm s l).td:=by
 induction l generalizing s with
 |nil=>exact aK h
 |cons v l b=>
  rcases b (d4 s v) (fun v hv d=>hl v (aN _ hv) d) h with c|c
  ·rcases HS s v (hl v Z) c with c|c
   ·exact aK c
   ·exact aJ (HU (d4 s v) l c)
  ·exact aJ c
theorem pF.mono {s d:dx}{P f:Int->Prop}{i:Nat}(h:pF T wt s P i)(g:∀k,ct s.A k->ct d.A k)(l:∀x:Int,0<=x->ct d.A x.toNat->¬ct s.A x.toNat->f x)(m:∀x,P x->f x)(n:∀x v,v∈s.hd x->v∈d.hd x)(h0:(T.getD i t0).1=4->((T.getD i t0).2.1.getD 0 (0,0)).1=3->0<=((T.getD i t0).2.1.getD 0 (0,0)).2):pF T wt d f i:=by
 refine⟨fun hk v hv o=>g _ (h.1 hk v hv o),fun hk=>?_⟩
 rcases h.2 hk with⟨a,b,c⟩|a
 ·refine aK ⟨a,?_,n _ _ c⟩
  by_cases j:ct d.A ((T.getD i t0).2.1.getD 0 (0,0)).2.toNat
  ·right;rcases b with b|b
   ·exact l _ (h0 hk a) j b
   ·exact m _ b
  ·exact aK j
 ·exact aJ (fun e=>g _ (a e))
theorem lI (b:e4 T wt){i:Nat}(hi:cv T i)(hk:(T.getD i t0).1=4)(j:Nat)(c:j<2):((T.getD i t0).2.1.getD j (0,0)).1=3->0<=((T.getD i t0).2.1.getD j (0,0)).2/\cv T ((T.getD i t0).2.1.getD j (0,0)).2.toNat:=fun d=>
 b.fv i hi _ (getD_in (by rw[b.fl i hi (aJ hk)];exact c)) d
theorem ur {s:dx}{v:Int×Int}(h:dH s.A v=true):d4 s v=s:=by unfold d4;rw[aI h]
theorem q_ {s:dx}{v:Int×Int}(h:dH s.A v=false):d4 s v={s with A:=s.A.set v.2.toNat true,td:=s.td++[v.2]}:=by unfold d4;rw[h];rfl
theorem eR.mark (h:eR T wt is s E)(q:e4 T wt)(v:Int×Int)(hv:v.1=3->0<=v.2/\cv T v.2.toNat)(t:v.1=3->∀X,gY T wt X->(∀k,ct is k->X k)->X v.2.toNat):eR T wt is (d4 s v) E:=by
 cases hi:dH s.A v
 ·obtain⟨j,w⟩:=mf hi;obtain⟨v0,m⟩:=hv j;have hl:v.2.toNat<s.A.length:=by rw[h.len];exact m.1
  have f:∀k,ct (d4 s v).A k↔v.2.toNat=k\/ct s.A k:=fun k=>by
   rw[q_ hi];unfold ct;rw[i8 _ _ _ hl];split
   ·rename_i e;exact⟨fun _=>aK e,fun _=>rfl⟩
   ·rename_i e;exact⟨aJ,fun c=>c.resolve_left e⟩
  have g:∀x,x∈(d4 s v).td↔x∈s.td\/x=v.2:=fun x=>by rw[q_ hi];simp
  refine⟨(q9 s v).trans h.len,fun k hk=>?_,fun X n hb k hk=>?_,fun x d=>?_,fun x o l=>?_,fun i u hn=>?_⟩
  ·rcases(f k).1 hk with e|hk
   ·rw[<-e];exact m
   ·exact h.al k hk
  ·rcases(f k).1 hk with e|hk
   ·rw[<-e];exact t j X n hb
   ·exact h.lt X n hb k hk
  ·rcases d with d|d
   ·exact⟨(h.td x (aK d)).1,nm s v (h.td x (aK d)).2⟩
   ·rcases(g x).1 d with d|d
    ·exact⟨(h.td x (aJ d)).1,nm s v (h.td x (aJ d)).2⟩
    ·rw[d];exact⟨v0,(f _).2 (aK rfl)⟩
  ·rw[(nn s v).1] at l;obtain⟨i,a,b⟩:=h.hd x o l;exact⟨i,nm s v a,b⟩
  ·have p:ct s.A i:=by
    rcases(f i).1 u with e|c
    ·exact absurd (aJ ((g _).2 (aJ V))) hn
    ·exact c
   refine(h.de i p (fun c=>hn (c.imp id (fun c=>(g _).2 (aK c))))).mono (fun k hk=>nm s v hk) (fun x A ha hb=>?_) (fun x d=>d.imp id (fun c=>(g _).2 (aK c))) (fun x o l=>by rw[(nn s v).1];exact l) (fun hk j=>(lI q (h.al i p) hk 0 aa j).1)
   rcases(f _).1 ha with e|c
   ·exact aJ ((g _).2 (aJ V))
   ·exact absurd c hb
 ·rw[ur hi];exact h
theorem eR.marks (h:eR T wt is s E)(e:e4 T wt)(l:List _)(hv:∀v∈l,v.1=3->0<=v.2/\cv T v.2.toNat)(d:∀v∈l,v.1=3->∀X,gY T wt X->(∀k,ct is k->X k)->X v.2.toNat):eR T wt is (dm s l) E:=by
 induction l generalizing s with
 |nil=>exact h
 |cons v l f=>exact f (h.mark e v (hv v Z) (d v Z)) (fun b c=>hv b (aN _ c)) (fun b c=>d b (aN _ c))
theorem Ac (s:dx)(v:Int×Int)(hv:v.1=3->v.2.toNat<s.A.length):(d4 s v).td.length+cnt (d4 s v).A=s.td.length+cnt s.A:=by
 cases hi:dH s.A v
 ·obtain⟨c,b⟩:=mf hi;have d:=um s.A v.2.toNat (by rw[aE,aL (hv c)] at b⊢;exact b)
  rw[q_ hi];simp only [List.length_append,List.length_singleton];omega
 ·rw[ur hi]
theorem pG (s:dx)(l:List _)(hl:∀v∈l,v.1=3->v.2.toNat<s.A.length):(dm s l).td.length+cnt (dm s l).A=s.td.length+cnt s.A:=by
 induction l generalizing s with
 |nil=>rfl
 |cons v l b=>exact(b (d4 s v) (fun c d e=>by rw[q9];exact hl c (aN _ d) e)).trans (Ac s v (hl v Z))
theorem eR.pop {t:List Int}{x:Int}(h:eR T wt is s [])(d:e4 T wt)(e:s.td=t++[x]):eR T wt is {s with td:=t} [x]:=by
 have hm:∀y,(y∈[x]\/y∈t)↔(y∈([]:List Int)\/y∈s.td):=fun y=>by rw[e];simp[or_comm]
 exact⟨h.len,h.al,h.lt,fun y hy=>h.td y ((hm y).1 hy),h.hd,fun i hi hn=>(h.de i hi (fun c=>hn ((hm _).2 c))).mono (fun _ c=>c) (fun _ _ a b=>absurd a b) (fun y hy=>(hm y).2 hy) (fun _ _ c=>c) (fun hk f=>(lI d (h.al i hi) hk 0 aa f).1)⟩
theorem eR.hold {i n:Nat}{x:Int}{d:Int×Int}(h:eR T wt is s E)(g:e4 T wt)(hi:ct s.A i)(hk:(T.getD i t0).1=4)(h0:(T.getD i t0).2.1.getD 0 (0,0)=(3,x))(k:(T.getD i t0).2.1.getD 1 (0,0)=d):
 eR T wt is {s with hd:=fun y=>if y=x then s.hd y++[d] else s.hd y,m:=n} E:=by
 refine⟨h.len,h.al,h.lt,h.td,fun y v hv=>?_,fun j f hn=>(h.de j f hn).mono (fun _ c=>c) (fun _ _ a b=>absurd a b) (fun _ c=>c) (fun y v hv=>?_) (fun hk l=>(lI g (h.al j f) hk 0 aa l).1)⟩
 ·dsimp only at hv;split at hv
  ·rename_i e;rcases List.mem_append.1 hv with hv|hv
   ·exact h.hd y v hv
   ·simp at hv;exact⟨i,hi,hk,by rw[h0,e],by rw[hv,k]⟩
  ·exact h.hd y v hv
 ·dsimp only;split
  ·exact aY _ hv
  ·exact hv
theorem eR.drop {i:Nat}(h:eR T wt is s [(i:Int)])(d:¬(i:Int)∈s.td->pF T wt s (fun x=>x∈s.td) i)(f:∀v∈s.hd i,v.1=3->ct s.A v.2.toNat):eR T wt is s []:=by
 refine⟨h.len,h.al,h.lt,fun x g=>h.td x (g.imp (fun c=>by simp at c) id),h.hd,fun j k hn=>?_⟩
 have hn:_:=fun c=>hn (aJ c)
 by_cases e:j=i
 ·subst e;have:=d hn;exact⟨this.1,fun hk=>(this.2 hk).imp (fun⟨a,b,c⟩=>⟨a,b.imp id aJ,c⟩) id⟩
 ·have:=h.de j k (fun c=>c.elim (fun c=>by simp at c;omega) hn)
  refine⟨this.1,fun hk=>?_⟩
  rcases this.2 hk with⟨a,b,c⟩|a
  ·rcases b with b|b|b
   ·exact aK ⟨a,aK b,c⟩
   ·refine aJ (f _ ?_)
    simp at b;rw[<-b];simpa using c
   ·exact aK ⟨a,aJ (aJ b),c⟩
  ·exact aJ a
theorem ut {i x:Int}:x∈eg wt i↔(∃e∈wt,e.1=i/\x=e.2):=by
 unfold eg;simp only [List.mem_map,List.mem_filter,beq_iff_eq];constructor
 ·rintro⟨e,⟨b,c⟩,rfl⟩
  exact⟨e,b,c,rfl⟩
 ·rintro⟨e,b,c,rfl⟩
  exact⟨e,⟨b,c⟩,rfl⟩
theorem eR.list {i:Nat}(h:eR T wt is s [(i:Int)])(c:e4 T wt)(hi:ct s.A i)(l:List _)(hl:∀v∈l,jC T wt (ct s.A) i v):eR T wt is (dm s l) [(i:Int)]/\∀v∈l,v.1=3->ct (dm s l).A v.2.toNat:=
 ⟨h.marks c l (fun v hv b=>c.pE (h.al i hi) (hl v hv) b) (fun v hv b X d hb=>d i (h.al i hi).1 (h.lt X d hb i hi) v ((hl v hv).mono (fun k hk=>h.lt X d hb k hk)) b),
  uq s l (fun v hv b=>by rw[h.len];exact(c.pE (h.al i hi) (hl v hv) b).2.1)⟩
theorem eR.free {i:Nat}(h:eR T wt is s [(i:Int)])(g:e4 T wt)(hi:ct s.A i):eR T wt is (dm s (s.hd i)) [(i:Int)]/\(∀v∈s.hd i,v.1=3->ct (dm s (s.hd i)).A v.2.toNat)/\(∀v∈s.hd i,v.1=3->0<=v.2/\v.2.toNat<s.A.length):=by
 have ho:∀v∈s.hd i,v.1=3->0<=v.2/\cv T v.2.toNat:=fun v hv d=>by obtain⟨j,a,b,c,e⟩:=h.hd _ _ hv;rw[e] at d⊢;exact lI g (h.al j a) b 1 aa d
 refine⟨h.marks g _ ho (fun v hv d X f hb=>?_),uq s _ (fun v hv d=>by rw[h.len];exact(ho v hv d).2.1),fun v hv d=>⟨(ho v hv d).1,by rw[h.len];exact(ho v hv d).2.1⟩⟩
 obtain⟨j,a,b,c,e⟩:=h.hd _ _ hv;refine f j (h.al j a).1 (h.lt X f hb j a) v (aJ (aJ (aK ⟨b,fun _=>?_,e⟩))) d;rw[c];exact h.lt X f hb _ (by simpa using hi)
end
section
variable {T:List cD}{wt:List b7}{is:List Bool}{s:dx}{E:List Int}
structure Ad (T:List cD)(wt:List b7)(is:List Bool)(s s':dx):Prop where
 mi:eR T wt is s' []
 mm:s'.m<=s.m+1
 td:s'.td.length+cnt s'.A=s.td.length+cnt s.A
 up:∀k,ct s.A k->ct s'.A k
theorem rd {i:Nat}(h:eR T wt is s [(i:Int)])(d:e4 T wt)(hi:ct s.A i)(hk:(T.getD i t0).1≠4)(l:List _)(e:∀v∈l,jC T wt (ct s.A) i v)(f:∀v,jC T wt (fun _=>True) i v->v∈l):
 Ad T wt is s (dm (dm s l) ((dm s l).hd i)):=by
 obtain⟨a1,a2⟩:=h.list d hi l e;obtain⟨b1,b2,b3⟩:=a1.free d (ky s l hi)
 refine⟨b1.drop (fun _=>⟨fun _ v hv b=>ky _ _ (a2 v (f v hv) b),fun c=>absurd c hk⟩) (fun v hv=>?_),?_,?_,fun k hk=>ky _ _ (ky _ _ hk)⟩
 ·rw[(i_ _ _).1] at hv;exact b2 v hv
 ·rw[(i_ _ _).2.1,(i_ _ _).2.1];omega
 ·rw[pG _ _ (fun v hv b=>(b3 v hv b).2),pG _ _ (fun v hv b=>by rw[h.len];exact(d.pE (h.al i hi) (e v hv) b).2.1)]
theorem eR.look {i:Nat}(h:eR T wt is s [(i:Int)])(b:e4 T wt)(hi:ct s.A i):Ad T wt is s (gF T wt s i):=by
 have o:=h.al i hi;unfold gF gq;rw[Int.toNat_natCast];by_cases k1:(T.getD i t0).1=1\/(T.getD i t0).1=2
 ·rw[aI k1];refine rd h b hi V _ (fun v hv=>aK ⟨k1,hv⟩) (fun v hv=>?_)
  rcases hv with c|c|c|c
  ·exact c.2
  ·exact absurd c.1 V
  ·exact absurd c.1 V
  ·exact absurd c.1 V
 rw[aG k1];by_cases g:(T.getD i t0).1=3
 ·rw[aI g];refine rd h b hi V [_] (fun v hv=>aJ (aK ⟨g,by simpa using hv⟩)) (fun v hv=>?_)
  rcases hv with c|c|c|c
  ·exact absurd c.1 V
  ·rw[c.2];simp
  ·exact absurd c.1 V
  ·exact absurd c.1 V
 rw[aG g];by_cases d:(T.getD i t0).1=4
 ·rw[aI d];unfold kS;cases hk:dH s.A _
  ·obtain⟨q3,q⟩:=mf hk;rw[aG aa];have t:(T.getD i t0).2.1.getD 0 (0,0)=(3,((T.getD i t0).2.1.getD 0 (0,0)).2):=by rw[<-q3]
   obtain⟨b1,b2,b3⟩:=(h.hold (n:=s.m+1) b hi d t rfl).free b hi;refine⟨b1.drop (fun _=>⟨fun c=>absurd d c,fun _=>aK ⟨q3,?_,?_⟩⟩) (fun v hv=>?_),?_,?_,fun k hk=>ky _ _ hk⟩
   ·by_cases c:ct (dm {s with hd:=fun y=>if y=((T.getD i t0).2.1.getD 0 (0,0)).2 then s.hd y++[(T.getD i t0).2.1.getD 1 (0,0)] else s.hd y,m:=s.m+1} ((fun y=>if y=((T.getD i t0).2.1.getD 0 (0,0)).2 then s.hd y++[(T.getD i t0).2.1.getD 1 (0,0)] else s.hd y) (i:Int))).A ((T.getD i t0).2.1.getD 0 (0,0)).2.toNat
    ·right;rcases HV _ _ (fun v hv f=>(b3 v hv f).1) c with c|c
     ·exact absurd c (by unfold ct;rw[q];decide)
     ·have:=(lI b o d 0 aa q3).1;rwa [Int.toNat_of_nonneg this] at c
    ·exact aK c
   ·rw[(i_ _ _).1];dsimp only;rw[aI rfl];exact a9 _ Z
   ·rw[(i_ _ _).1] at hv;exact b2 v hv
   ·rw[(i_ _ _).2.1];exact aD _
   ·rw[pG _ _ (fun v hv f=>(b3 v hv f).2)]
  ·rw[aI rfl];have p:∀v∈[(T.getD i t0).2.1.getD 1 (0,0)],jC T wt (ct s.A) i v:=fun v hv=>aJ (aJ (aK ⟨d,fun c=>nk hk c,by simpa using hv⟩))
   obtain⟨a1,a2⟩:=h.list b hi _ p;obtain⟨b1,b2,b3⟩:=a1.free b (ky s _ hi)
   refine⟨b1.drop (fun _=>⟨fun c=>absurd d c,fun _=>aJ (fun c=>ky _ _ (a2 _ Z c))⟩) (fun v hv=>?_),?_,?_,fun k hk=>ky _ _ (ky s [_] hk)⟩
   ·rw[(i_ _ _).1] at hv;exact b2 v hv
   ·show(dm (dm s [_]) _).m<=_;rw[(i_ _ _).2.1,(i_ _ _).2.1];omega
   ·rw[show d4 s ((T.getD i t0).2.1.getD 1 (0,0))=dm s [(T.getD i t0).2.1.getD 1 (0,0)] from rfl];rw[pG _ _ (fun v hv f=>(b3 v hv f).2),pG _ _ (fun v hv f=>by rw[h.len];exact(b.pE o (p v hv) f).2.1)]
 rw[aG d];by_cases k5:(T.getD i t0).1=5
 ·rw[aI k5];refine rd h b hi d _ (fun v hv=>?_) (fun v hv=>?_)
  ·obtain⟨x,u,rfl⟩:=List.mem_map.1 hv;obtain⟨e,j,l,rfl⟩:=ut.1 u;exact aJ (aJ (aJ ⟨k5,e,j,l,rfl⟩))
  ·rcases hv with c|c|c|c
   ·exact absurd c.1 V
   ·exact absurd c.1 V
   ·exact absurd c.1 V
   ·obtain⟨_,e,j,l,rfl⟩:=c;exact List.mem_map.2 ⟨e.2,ut.2 ⟨e,j,l,rfl⟩,rfl⟩
 ·rw[aG k5];refine rd h b hi d [] (fun v hv=>by cases hv) (fun v hv=>?_)
  rcases hv with c|c|c|c
  ·exact absurd c.1 k1
  ·exact absurd c.1 g
  ·exact absurd c.1 d
  ·exact absurd c.1 k5
theorem eR.done (h:eR T wt is s [])(e:s.td=[])(hl:is.length=T.length)(g:∀k,ct is k->ct s.A k):ow T wt is s.A:=by
 refine⟨h.len.trans hl.symm,g,fun i _ j v hv d=>?_,h.lt⟩
 have hd:=h.de i j (by rw[e];simp)
 by_cases f:(T.getD i t0).1=4
 ·rcases hv with c|c|c|c
  ·exact absurd c.1 V
  ·exact absurd c.1 V
  ·rcases hd.2 f with⟨a,b,_⟩|a
   ·rcases b with b|b
    ·exact absurd (c.2.1 a) b
    ·rw[e] at b;simp at b
   ·rw[c.2.2] at d⊢;exact a d
  ·exact absurd c.1 V
 ·exact hd.1 f v (hv.mono (fun _ _=>trivial)) d
theorem eR.base (h:eR T wt is s []){b:List Bool}(c:∀k,ct s.A k->ct b k):eR T wt b s []:=⟨h.len,h.al,fun _ _ hb k hk=>hb k (c k hk),h.td,h.hd,h.de⟩
theorem eR.start (T:List cD)(wt:List b7)(is:List Bool):eR T wt is ⟨List.replicate T.length false,[],fun _=>[],0⟩ []:=by
 have hn:∀k,¬ct (List.replicate T.length false) k:=fun k hk=>by unfold ct at hk;rw[aE,List.getElem?_replicate] at hk;split at hk<;>cases hk
 exact⟨Z,fun k hk=>absurd hk (hn k),fun _ _ _ k hk=>absurd hk (hn k),fun x b=>absurd b Z,fun x v hv=>absurd hv Z,fun i hi=>absurd hi (hn i)⟩
end
def hld (v:Value):Option (DataW Value×List MemPlace):=some (.held v,[])
theorem pH:Maps.Keyed prog 2:=Maps.int_keyed underlying2
theorem uu {a:Int}(h0:0<=a)(b:a<1152921504606846976):keyOf prog 2 (.int .i64 a)=some (.int .i64 a):=Maps.keyOf_int_mk underlying2 (WalkArith.wf_i64 ⟨V,V⟩)
def re (D:DataW Value)(f:Int->Option Value):Prop:=∀x:Int,Maps.has D (.int .i64 x)=(f x).isSome/\∀v,f x=some v->∀z,D.atKey (.int .i64 x) z=.held v
def es (w:ax)(b n:Nat)(f:Int->Option Value):Prop:=∃D,w.ownsMap prog 2 hld b n D/\re D f
def jG (f:Int->Option Value)(x:Int)(v:Value):Int->Option Value:=fun y=>if y=x then some v else f y
def gh (w:ax)(b r n:Nat)(f:Int->Option Value)(left:Int->Bool)(c:Nat):Prop:=∃D L,w.ranges prog 2 hld b r n D L c/\re D f/\∀x:Int,L (.int .i64 x)=left x
section
variable {w w':ax}{b r n c:Nat}{f:Int->Option Value}{t e:TypeId}{left:Int->Bool}
theorem es.made (w:ax):es (w.alloc (.map #[] 0)) w.heap.size 0 (fun _=>none):=⟨_,World.ownsMap_made w prog 2 hld,fun _=>⟨rfl,fun _ h=>by cases h⟩⟩
theorem es.lt (h:es w b n f):b<w.heap.size:=let⟨_,h,_⟩:=h;h.lt
theorem es.same (h:es w b n f)(e:w'.heap[b]?=w.heap[b]?):es w' b n f:=by obtain⟨D,⟨c,d,hb,r⟩,g⟩:=h;exact⟨D,⟨c,d,e.trans hb,r⟩,g⟩
theorem es.blk (h:es w b n f):∃c k,w.heap[b]?=some (.map c k):=let⟨_,⟨c,k,hb,_⟩,_⟩:=h;⟨c,k,hb⟩
theorem es.put (h:es w b n f)(ht:prog.underlying t=some (.map 2 e))(hn:n<100000){x:Int}(h0:0<=x)(j:x<1152921504606846976)(v:Value):
 ∃w',(Instr.mapUpdate t (.map (some b)) (ah x) v).run prog w=.ok () w'/\es w' b (n+1) (jG f x v)/\w.grownBy w' (some b):=by
 obtain⟨D,h,g⟩:=h;obtain⟨w',r1,l,r3⟩:=h.update pH ht (by unfold maxLen;omega) (uu h0 j) rfl;refine⟨w',r1,⟨_,l,fun y=>?_⟩,r3⟩
 unfold jG;by_cases c:y=x
 ·subst c;rw[aI rfl];exact⟨Maps.has_put_same (k:=.int .i64 y) h.isMap trivial _,fun i d z=>by cases d;exact Maps.atKey_put_same (k:=.int .i64 y) h.isMap trivial _ _⟩
 ·rw[aG c,Maps.has_put_other (by simpa using c)];exact⟨(g y).1,fun i d z=>by rw[Maps.atKey_put_other (by simpa using c)];exact(g y).2 i d z⟩
theorem re.val {D:DataW Value}(c:re D f){x:Int}{z v:Value}{ps:List MemPlace}(h:hld v=some (D.atKey (.int .i64 x) (.held z),ps)):v=(f x).getD z:=by
 have b:=(Prod.mk.inj (Option.some.inj h)).1;cases hf:f x with
 |none=>
  rw[Maps.atKey_of_not_has (by rw[(c x).1,hf];rfl)] at b;exact DataW.held.inj b
 |some d=>
  rw[(c x).2 d hf] at b;exact DataW.held.inj b
theorem es.look (h:es w b n f)(ht:prog.underlying t=some (.map 2 e)){z:Value}(hz:(zeroValue e).run prog w=.ok z w){x:Int}(h0:0<=x)(c:x<1152921504606846976):
 (Instr.lookup t (.map (some b)) (ah x) false).run prog w=.ok ((f x).getD z) w:=by
 obtain⟨D,h,d⟩:=h;obtain⟨v,ps,r1,g⟩:=h.lookup pH ht hz rfl (uu h0 c)
 rw[r1,d.val g]
theorem es.look_ok (h:es w b n f)(ht:prog.underlying t=some (.map 2 e)){z:Value}(hz:(zeroValue e).run prog w=.ok z w){x:Int}(h0:0<=x)(d:x<1152921504606846976):
 (Instr.lookup t (.map (some b)) (ah x) true).run prog w=.ok (.tuple #[(f x).getD z,.bool (f x).isSome]) w:=by
 obtain⟨D,h,c⟩:=h;obtain⟨v,ps,r1,g⟩:=h.look_ok pH ht hz rfl (uu h0 d)
 rw[r1,c.val g,(c x).1]
theorem gh.nr (h:gh w b r n f left c):es w b n f:=let⟨D,_,h,d,_⟩:=h;⟨D,h.owns,d⟩
theorem gh.left_eq (h:gh w b r n f left c):w.rangeLeft b r=c:=let⟨_,_,h,_⟩:=h;h.left_eq
theorem gh.lt (h:gh w b r n f left c):r<w.heap.size:=let⟨_,_,h,_⟩:=h;h.lt
theorem gh.same (h:gh w b r n f left c)(hb:w'.heap[b]?=w.heap[b]?)(hr:w'.heap[r]?=w.heap[r]?):gh w' b r n f left c:=by obtain⟨D,L,⟨d,e,g,seen,c0,i,j,k,l,m,o⟩,q⟩:=h;exact⟨D,L,⟨d,e,g,seen,c0,hb.trans i,j,k,l,hr.trans m,o⟩,q⟩
theorem es.range (h:es w b n f)(ht:prog.underlying t=some (.map 2 e)):
 ∃w' c,(Instr.range t (.map (some b))).run prog w=.ok (aj w.heap.size) w'/\gh w' b w.heap.size n f (fun x=>(f x).isSome) c/\w.grownBy w' none/\w'.heap.size=w.heap.size+1:=by
 obtain⟨D,h,d⟩:=h;obtain⟨w',r1,g,r3,i⟩:=h.range pH ht;exact⟨w',_,r1,⟨D,_,g,d,fun x=>(d x).1⟩,r3,i⟩
theorem gh.next (h:gh w b r n f left c)(ty:TypeId):(c=0/\(∀x,left x=false)/\(Instr.next (aj r) false ty).run prog w=.ok (.tuple #[.bool false]) w)\/
 ∃x v w' e,left x=true/\f x=some v/\(Instr.next (aj r) false ty).run prog w=.ok (.tuple #[.bool true,ah x,v]) w'/\
  gh w' b r n f (fun y=>left y&&!(y==x)) e/\e<c/\w.grownBy w' (some r)/\w'.heap.size=w.heap.size/\(Instr.entry (aj r)).run prog w'=.ok (.tuple #[ah x,v]) w':=by
 obtain⟨D,L,h,g,i⟩:=h;rcases h.next pH ty with⟨h0,hl,j⟩|⟨key,v,B,y,w',e,l,m,hv,k,j,o,p,q,s,t⟩
 ·exact aK ⟨h0,fun x=>(i x).symm.trans (hl _),j⟩
 ·obtain⟨x,rfl,rfl,C⟩:=Maps.keyOf_int_inv underlying2 l;have hy:y.1=.held v:=by cases hv;rfl
  have u:f x=some v:=by
   cases hf:f x with
   |none=>
    have d:=k (.lit (.int .i64 0))
    rw[Maps.atKey_of_not_has (by rw[(g x).1,hf];rfl),hy] at d;cases d
   |some A=>
    have d:=k (.lit (.int .i64 0))
    rw[(g x).2 A hf,hy] at d;rw[DataW.held.inj d]
  refine aJ ⟨x,v,w',e,(i x).symm.trans m,u,j,⟨D,_,o,g,fun z=>?_⟩,p,q,s,t⟩
  rw[i z,show(Lit.int .i64 z).sameKey (.int .i64 x)=(z==x) from(by show decide _=_;rw[Bool.eq_iff_iff];simp)]
end
def gu (v:Int×Int):Int:=ew v.1 v.2
def eZ (T:List cD)(v:Int×Int):Prop:=vc v.1 v.2=0/\(v.1=3->0<=v.2/\cv T v.2.toNat)
theorem eZ.lt {T:List cD}{v:Int×Int}(h:eZ T v)(b:v.1=3):0<=v.2/\v.2<T.length:=by obtain⟨h0,c⟩:=h.2 b;have:=c.1;exact⟨h0,V⟩
def tI (n:Nat):List Int:=(List.range n).map (fun i:Nat=>(i:Int))
theorem pI {n:Nat}{a:Int}:a∈tI n↔0<=a/\a<n:=by
 unfold tI;simp only [List.mem_map,List.mem_range];constructor
 ·rintro⟨i,hi,e⟩
  omega
 ·rintro⟨h0,b⟩
  exact⟨a.toNat,V,V⟩
theorem ns (n:Nat):(tI n).length=n:=by simp[tI]
def gQ (T:List cD)(a:Int):Int:=(T.getD a.toNat t0).1
def gR (T:List cD)(wt:List b7)(a:Int):List Int:=((T.getD a.toNat t0).2.1.map gu)++(if(T.getD a.toNat t0).1=5 then(wt.filter (fun e=>e.1==a)).map (fun e=>ew 3 e.2) else[])
structure nt (T:List cD)(wt:List b7):Prop where
 fv:∀i,cv T i->∀v∈(T.getD i t0).2.1,eZ T v
 wv:∀e∈wt,0<=e.1/\0<=e.2/\cv T e.2.toNat
 tl:∀i,(T.getD i t0).2.1.length<=12
 l1:T.length<=10000
 l2:wt.length<=10000
section
variable {T:List cD}{M:cQ->Int->cQ}{s:cQ}{v:Int×Int}
theorem nu (h:eZ T v):dk (gu v)=v.1/\de (gu v)=v.2:=(pU _ _ h.1).2
theorem HW (h:eZ T v)(b:v.1≠3):ei M (tI T.length) s (gu v)=(v,s):=by unfold ei;rw[(nu h).1,(nu h).2,aG b]
theorem HX (h:eZ T v)(b:v.1=3)(hs:s.1.contains v.2=true):ei M (tI T.length) s (gu v)=((3,(s.1.idxOf v.2:Int)),s):=by unfold ei;rw[(nu h).1,(nu h).2,aI b,aI (List.contains_iff_mem.2 (pI.2 (h.lt b))),aI hs]
theorem HY (h:eZ T v)(b:v.1=3)(hs:s.1.contains v.2=false):ei M (tI T.length) s (gu v)=((3,(s.1.length:Int)),M s v.2):=by unfold ei;rw[(nu h).1,(nu h).2,aI b,aI (List.contains_iff_mem.2 (pI.2 (h.lt b))),aG (by rw[hs];simp)]
end
def dV.ez (T:List cD)(wt:List b7)(l:List (Int×Int)):List (Int×Int)×cQ:=dA (met (tI T.length) (gQ T) (gR T wt) T.length) (tI T.length) ([],[]) (l.map gu)
def pJ (T:List cD)(x:Int):Bool:=decide (0<=x)&&(decide (x.toNat<T.length)&&!(T.getD x.toNat t0).2.2.2)
theorem Ae {T:List cD}{x:Int}:pJ T x=true↔0<=x/\cv T x.toNat:=by unfold pJ cv;simp
theorem H0 {T:List cD}{x:Int}(h:¬(0<=x/\cv T x.toNat)):pJ T x=false:=by
 cases e:pJ T x
 ·rfl
 ·exact absurd (Ae.1 e) h
abbrev Fm:=Nat->Option Addr×Nat
abbrev eD (T:List cD)(fm:Fm)(i:Nat):Value:=.slice (fm i).1 (T.getD i t0).2.1.length (fm i).2
abbrev fX (T:List cD)(fm:Fm)(i:Nat):Value:=.agg #[ah (T.getD i t0).1,eD T fm i]
def hJ (T:List cD)(fm:Fm)(x:Int):Option Value:=if pJ T x=true then some (fX T fm x.toNat) else none
theorem ja {T:List cD}{fm:Fm}{x:Int}(h:0<=x/\cv T x.toNat):hJ T fm x=some (fX T fm x.toNat):=by unfold hJ;rw[aI (Ae.2 h)]
theorem lJ {T:List cD}{fm:Fm}{x:Int}(h:¬(0<=x/\cv T x.toNat)):hJ T fm x=none:=by unfold hJ;rw[H0 h];rfl
structure gG where
 own:Nat->Nat
 mb:Nat
 bp:Nat
 rb:Nat
 fm:Fm
 fe:Nat
 n:Nat
 a0:Option Addr
 k0:Nat
 a1:Option Addr
 k1:Nat
structure G2 (l:gG)(T:List cD)(w:ax):Prop where
 mp:es w l.mb l.n (hJ T l.fm)
 mn:l.n<=T.length
 dp:l.own l.mb=2
 fl:∀i,cv T i->w.ownsRow 0 97 2 (eD T l.fm i) (T.getD i t0).2.1.length (ev (T.getD i t0).2.1)
 eS:∀i,cv T i->∀k,some k=(eD T l.fm i).ownBlock->l.own k=10+i
 fe:∀i,cv T i->(T.getD i t0).2.2.1=decide (i<l.fe)
 al:l.fe<=T.length
structure G3 (l:gG)(r q:List b7)(w:ax):Prop where
 sd:fu w l.bp l.a0 l.k0 l.a1 l.k1 r q
 so:l.own l.bp=3
 ro:∀k,some k=(Value.slice l.a0 r.length l.k0).ownBlock->l.own k=5
 mr:∀k,some k=(Value.slice l.a1 q.length l.k1).ownBlock->l.own k=6
structure G4 (l:gG)(rs:List (Int×Int))(w:ax):Prop where
 rt:w.heap[l.rb]?=some (.cells (ev rs).toArray 97 (0,0))
 rl:rs.length=12
 ro:l.own l.rb=4
structure dS (bY:Nat)(b_ bZ:Int)(l:gG)(s:ck)(w:ax):Prop where
 blk:w.heap[bY]?=some (.cells #[ah b_,ah bZ,.map (some l.mb),ah s.T.length,ah l.fe,aj l.bp,.slice (ak l.rb) 12 12] 187 (0,0))
 bo:l.own bY=1
 g2:G2 l s.T w
 g3:G3 l s.rg s.wt w
 g4:G4 l s.rs w
 lt:∀b,l.own b≠0->b<w.heap.size
section
variable {bY:Nat}{b_ bZ:Int}{l:gG}{s:ck}{w w':ax}{T:List cD}{r q:List b7}{rs:List (Int×Int)}
theorem G2.keep (h:G2 l T w)(hk:∀b,l.own b=2\/10<=l.own b->w'.heap[b]?=w.heap[b]?):G2 l T w':=
 {
  h with
  mp:=h.mp.same (hk _ (aK h.dp))
  fl:=fun i hi=>cH (h.fl i hi) (fun k e=>hk k (aJ (by rw[h.eS i hi k e];omega)))}
theorem G3.keep (h:G3 l r q w)(hk:∀b,l.own b=3\/l.own b=5\/l.own b=6->w'.heap[b]?=w.heap[b]?):G3 l r q w':=
 {h with sd:=h.sd.keep (hk _ (aK h.so)) (fun k e=>hk k (aJ (aK (h.ro k e)))) (fun k e=>hk k (aJ (aJ (h.mr k e))))}
theorem G4.keep (h:G4 l rs w)(hk:∀b,l.own b=4->w'.heap[b]?=w.heap[b]?):G4 l rs w':={h with rt:=(hk _ h.ro).trans h.rt}
theorem dS.keep (h:dS bY b_ bZ l s w)(hs:w.heap.size<=w'.heap.size)(hk:∀b,l.own b≠0->w'.heap[b]?=w.heap[b]?):dS bY b_ bZ l s w':=
 {
  blk:=(hk _ (by rw[h.bo];decide)).trans h.blk
  bo:=h.bo
  g2:=h.g2.keep (fun b hb=>hk b V)
  g3:=h.g3.keep (fun b hb=>hk b V)
  g4:=h.g4.keep (fun b hb=>hk b V)
  lt:=fun b hb=>aM (h.lt b hb) hs}
end
def cx (bY:Nat)(b_ bZ:Int)(rb:Nat):dr ck where
 J F s w:=∃l,dS bY b_ bZ l s w/\l.rb=rb/\∀b,F b↔l.own b≠0
 lt:=by rintro F s w ⟨l,h,_,c⟩ b hb;exact h.lt b ((c b).1 hb)
 keep:=by rintro F s w w' ⟨l,h,hr,c⟩ hs hk;exact⟨l,h.keep hs (fun b hb=>hk b ((c b).2 hb)),hr,c⟩
section
variable {bY:Nat}{b_ bZ:Int}{l:gG}{F:Nat->Prop}{s:ck}{w w':ax}
theorem dS.below (h:dS bY b_ bZ l s w)(hb:Below w.heap.size w w'):dS bY b_ bZ l s w':=h.keep hb.size (fun b ho=>hb.block b (h.lt b ho))
theorem dS.cells (h:dS bY b_ bZ l s w):w.cell? (aq bY 0)=some (ah b_)/\w.cell? (aq bY 1)=some (ah bZ)/\w.cell? (aq bY 2)=some (.map (some l.mb))/\w.cell? (aq bY 3)=some (ah s.T.length)/\w.cell? (aq bY 4)=some (ah l.fe)/\
 w.cell? (aq bY 5)=some (aj l.bp)/\w.cell? (aq bY 6)=some (.slice (ak l.rb) 12 12)/\(∀o,w.frozen? (aq bY o)=false)/\bY<w.heap.size:=by
 have b:=h.blk;refine⟨?_,?_,?_,?_,?_,?_,?_,fun o=>by simp[World.frozen?,b],lt_of_some b⟩<;>simp[World.cell?,b]
theorem dS.H2 {rb:Nat}(h:dS bY b_ bZ l s w)(e:w.cell? (aq bY 6)=some (.slice (ak rb) 12 12)):l.rb=rb:=by have c:=h.cells.2.2.2.2.2.2.1;rw[e] at c;cases c;rfl
theorem G4.cells {rs:List _}(h:G4 l rs w):l.rb<w.heap.size/\rs.length=12/\
 (∀i,i<12->w.cell? (aq l.rb (i*2))=some (ah (rs.getD i (0,0)).1)/\w.cell? (aq l.rb (i*2+1))=some (ah (rs.getD i (0,0)).2)/\w.frozen? (aq l.rb (i*2))=false/\w.frozen? (aq l.rb (i*2+1))=false):=by
 have b:=h.rt;have hl:=h.rl;refine⟨lt_of_some b,hl,fun i hi=>?_⟩
 obtain⟨c,d⟩:=nN rs i V;refine⟨?_,?_,by simp[World.frozen?,b],by simp[World.frozen?,b]⟩
 ·simp[World.cell?,b];simpa using c
 ·simp[World.cell?,b];simpa using d
end
theorem mv (w:ax):(zeroValue 220).run prog w=.ok (.agg #[ah 0,.slice none 0 0]) w:=by kernel_rfl
theorem iP (w:ax)(a o:Obj):((w.alloc a).alloc o).heap[w.heap.size+1]?=some o:=by have h:=aO (w.alloc a) o;rwa [show(w.alloc a).heap.size=w.heap.size+1 by simp] at h
theorem di {w:ax}{p:Nat}{a b:Value}{T:TypeId}(h:w.heap[p]?=some (.cells #[a,b] T (0,0))):w.cell? (aq p 0)=some a/\w.cell? (aq p 1)=some b/\(∀o,w.frozen? (aq p o)=false)/\p<w.heap.size:=
 ⟨by simp[World.cell?,h],by simp[World.cell?,h],fun o=>by simp[World.frozen?,h],lt_of_some h⟩
section
variable {bY:Nat}{b_ bZ:Int}{l:gG}{s:ck}{w:ax}
theorem uv (v:Int×Int)(hv:v.1≠3):
 Calls prog 199 #[aj bY,.agg #[ah v.1,ah v.2]] w fun e w'=>e=.returned (.tuple #[.agg #[ah 0,.slice none 0 0],.bool false])/\Below w.heap.size w w':=by
 obtain⟨k,x⟩:=v;dsimp only at hv⊢;go_enter func199,ntmps199;go_wp2_with fail;exact a4 (v:=.tuple #[.agg #[ah 0,.slice none 0 0],.bool false]) (by simp[results,results199,go_sem]) rfl ⟨rfl,(bX.alloc bW _).alloc Z _⟩
theorem rf (h:dS bY b_ bZ l s w)(x:Int)(b:0<=x/\cv s.T x.toNat)(d:s.T.length<=10000):
 Calls prog 199 #[aj bY,.agg #[ah 3,ah x]] w fun e w'=>e=.returned (.tuple #[fX s.T l.fm x.toNat,.bool true])/\Below w.heap.size w w':=by
 obtain⟨_,_,c2,_,_,_,_,_,f⟩:=h.cells;have hl:x<10000:=by have:=b.2.1;omega
 have L:∀W,Below w.heap.size w W->(Instr.lookup 184 (.map (some l.mb)) (ah x) true).run prog W=.ok (.tuple #[fX s.T l.fm x.toNat,.bool true]) W:=fun W hb=>by
  have:=(h.below hb).g2.mp.look_ok (t:=184) (e:=220) underlying184 (mv W) (x:=x) b.1 V;rw[ja b] at this
  exact this
 have b1:Below w.heap.size w ((w.alloc (.cells #[.int .i64 3,.int .i64 x] 97)).alloc (.cells #[.int .i64 0,.slice none 0 0] 220)):=(bX.alloc bW _).alloc Z _;have k:=(b1.cell (p:=aq bY 2) f).trans c2;have m:((w.alloc (.cells #[.int .i64 3,.int .i64 x] 97)).alloc (.cells #[.int .i64 0,.slice none 0 0] 220)).cell? (aq w.heap.size 1)=some (ah x):=by simp[go_sem]
 have hn:=iP w (.cells #[.int .i64 3,.int .i64 x] 97) (.cells #[.int .i64 0,.slice none 0 0] 220)
 clear h d;dsimp only [fX,eD] at L⊢;generalize (s.T.getD x.toNat t0).1=kd at*;generalize (s.T.getD x.toNat t0).2.1.length=n at*;generalize (l.fm x.toNat).1=ad at*;generalize (l.fm x.toNat).2=cp at*;clear b;go_enter func199,ntmps199;go_wp2_with fail;generalize (w.alloc (.cells #[.int .i64 3,.int .i64 x] 97)).alloc (.cells #[.int .i64 0,.slice none 0 0] 220)=W at*;obtain⟨o,q,u,lw⟩:=di hn;have g:ay (_=_):=hn;have c:ay (Below w.heap.size w W):=b1;have i:=L _ b1.drew;have j:=L _ (b1.alloc b1.size (.cells #[.int .i64 0,.slice none 0 0] 220)).drew;clear L b1 hn
 go_region_held3 (fun w'=>w'.cell? (aq bY 2)=some (.map (some l.mb))/\w'.cell? (aq w.heap.size 1)=some (ah x)) (go_keep) (fail)
 all_goals
  clear i j;go_wp2_with fail;have hs:=c.o.size;obtain⟨r0,r1,_,_⟩:=di ((aS _ (.cells #[.int .i64 kd,.slice ad n cp] 220) _ (by simpa using lw)).trans (gz (v1:=ah kd) (v2:=.slice ad n cp) g.o))
  exact a4 (v:=.tuple #[.agg #[ah kd,.slice ad n cp],.bool true]) (by simp[results,results199,go_sem,r0,r1]) rfl ⟨rfl,(((c.o.setCell Z _).setCell Z _).alloc (by simpa using hs) _).drew⟩
theorem Af (h:dS bY b_ bZ l s w)(v:Int×Int)(hv:v.1=3->0<=v.2/\cv s.T v.2.toNat)(b:s.T.length<=10000):
 Calls prog 200 #[aj bY,.agg #[ah v.1,ah v.2]] w fun e w'=>e=.returned (.bool (iG s.T v))/\Below w.heap.size w w':=by
 obtain⟨k,x⟩:=v;by_cases c:k=3
 ·subst c;have P:=rf (h.below ((aH _ w).alloc bW (.cells #[.int .i64 3,.int .i64 x] 97))) x (hv rfl) b;have e:iG s.T (3,x)=decide ((s.T.getD x.toNat t0).1=5):=by unfold iG;rw[Bool.eq_iff_iff];simp
  rw[e];clear h hv b e;dsimp only [fX,eD] at P⊢;generalize (s.T.getD x.toNat t0).1=kd at*;generalize (s.T.getD x.toNat t0).2.1.length=n at*;generalize (l.fm x.toNat).1=ad at*;generalize (l.fm x.toNat).2=cp at*;exact z3
 ·have P:=uv (bY:=bY) (w:=w.alloc (.cells #[.int .i64 k,.int .i64 x] 97)) (k,x) c;have e:iG s.T (k,x)=false:=by unfold iG;simp[c]
  rw[e];clear h hv b e;exact z3
theorem Ag (h:dS bY b_ bZ l s w)(v:Int×Int)(hv:v.1=3->0<=v.2/\cv s.T v.2.toNat)(b:s.T.length<=10000)(hk:v.1=3->(s.T.getD v.2.toNat t0).1=5):
 Calls prog 232 #[aj bY,.agg #[ah v.1,ah v.2]] w fun e w'=>e=.returned (.tuple #[.slice none 0 0,ah 2])/\Below w.heap.size w w':=by
 obtain⟨k,x⟩:=v;by_cases c:k=3
 ·subst c;have P:=rf (h.below ((aH _ w).alloc bW (.cells #[.int .i64 3,.int .i64 x] 97))) x (hv rfl) b;have hk:=hk rfl;clear h hv b;dsimp only [fX,eD] at P hk⊢;rw[hk] at P;clear hk;generalize (s.T.getD x.toNat t0).2.1.length=n at*;generalize (l.fm x.toNat).1=ad at*;generalize (l.fm x.toNat).2=cp at*;exact ul
 ·have P:=uv (bY:=bY) (w:=w.alloc (.cells #[.int .i64 k,.int .i64 x] 97)) (k,x) c;clear h hv b hk;exact ul
theorem uw (h:dS bY b_ bZ l s w)(x:Int)(hv:0<=x/\cv s.T x.toNat)(b:s.T.length<=10000)(hk:(s.T.getD x.toNat t0).1≠5):
 Calls prog 232 #[aj bY,.agg #[ah 3,ah x]] w fun e w'=>e=.returned (.tuple #[eD s.T l.fm x.toNat,ah 0])/\Below w.heap.size w w':=by
 have P:=rf (h.below ((aH _ w).alloc bW (.cells #[.int .i64 3,.int .i64 x] 97))) x hv b;clear h hv b;dsimp only [fX,eD] at P hk⊢;generalize (s.T.getD x.toNat t0).1=kd at*;generalize (s.T.getD x.toNat t0).2.1.length=n at*;generalize (l.fm x.toNat).1=ad at*;generalize (l.fm x.toNat).2=cp at*;exact ul
theorem Ah (h:dS bY b_ bZ l s w)(v:Int×Int)(i:Int)(hv:v.1=3->0<=v.2/\cv s.T v.2.toNat)(b:s.T.length<=10000)(hk:v.1=3->(s.T.getD v.2.toNat t0).1=5):
 Calls prog 201 #[aj bY,.agg #[ah v.1,ah v.2],ah i] w fun e w'=>e=.returned (.tuple #[.agg #[ah 0,ah 0],ah 2])/\Below w.heap.size w w':=by
 obtain⟨k,x⟩:=v;have b1:Below w.heap.size w ((w.alloc (.cells #[.int .i64 k,.int .i64 x] 97)).alloc (.cells #[.int .i64 0,.int .i64 0] 97)):=(bX.alloc bW _).alloc Z _;have P:=Ag (h.below b1) (k,x) hv b hk;clear h hv b hk;go_enter func201,ntmps201;go_wp2_with fail;refine P.mono ?_;clear P;rintro e w1 ⟨rfl,hb⟩
 have hq:=(hb.block (w.heap.size+1) Z).trans (iP w (.cells #[.int .i64 k,.int .i64 x] 97) (.cells #[.int .i64 0,.int .i64 0] 97))
 obtain⟨f,g,j,lw⟩:=di hq;have c:ay (_=_):=hq;have d:ay (Below w.heap.size w w1):=b1.trans (hb.mono (by simp;omega))
 clear hb b1 hq;go_wp2_with fail;obtain⟨r0,r1,_,_⟩:=di (gz (v1:=ah 0) (v2:=ah 0) c.o)
 exact a4 (v:=.tuple #[.agg #[ah 0,ah 0],ah 2]) (by simp[results,results201,go_sem,r0,r1]) rfl ⟨rfl,(d.o.setCell Z _).setCell Z _⟩
theorem Ai (h:dS bY b_ bZ l s w)(x i:Int)(hv:0<=x/\cv s.T x.toNat)(b:s.T.length<=10000)(hk:(s.T.getD x.toNat t0).1≠5)(hi:i<0\/((s.T.getD x.toNat t0).2.1.length:Int)<=i):
 Calls prog 201 #[aj bY,.agg #[ah 3,ah x],ah i] w fun e w'=>e=.returned (.tuple #[.agg #[ah 0,ah 0],ah 1])/\Below w.heap.size w w':=by
 have b1:Below w.heap.size w ((w.alloc (.cells #[.int .i64 3,.int .i64 x] 97)).alloc (.cells #[.int .i64 0,.int .i64 0] 97)):=(bX.alloc bW _).alloc Z _;have P:=uw (h.below b1) x hv b hk;clear h hv b hk;dsimp only [eD] at P;generalize (s.T.getD x.toNat t0).2.1.length=n at*;generalize (l.fm x.toNat).1=ad at*;generalize (l.fm x.toNat).2=cp at*;by_cases h0:i<0
 all_goals
  first
   |(have f:(n:Int)<=i:=by omega)
   |skip
  go_enter func201,ntmps201;go_wp2_with fail;refine P.mono ?_;clear P;rintro e w1 ⟨rfl,hb⟩
  have hq:=(hb.block (w.heap.size+1) Z).trans (iP w (.cells #[.int .i64 3,.int .i64 x] 97) (.cells #[.int .i64 0,.int .i64 0] 97))
  obtain⟨g,j,k,lw⟩:=di hq;have c:ay (_=_):=hq;have d:ay (Below w.heap.size w w1):=b1.trans (hb.mono (by simp;omega))
  clear hb b1 hq hi;go_wp2_with fail;obtain⟨r0,r1,_,_⟩:=di (gz (v1:=ah 0) (v2:=ah 0) c.o)
  exact a4 (v:=.tuple #[.agg #[ah 0,ah 0],ah 1]) (by simp[results,results201,go_sem,r0,r1]) rfl ⟨rfl,(d.o.setCell Z _).setCell Z _⟩
theorem Aj (h:dS bY b_ bZ l s w)(x:Int)(i:Nat)(hv:0<=x/\cv s.T x.toNat)(d:s.T.length<=10000)(hk:(s.T.getD x.toNat t0).1≠5)(hi:i<(s.T.getD x.toNat t0).2.1.length):
 Calls prog 201 #[aj bY,.agg #[ah 3,ah x],ah i] w fun e w'=>e=.returned (.tuple #[.agg #[ah ((s.T.getD x.toNat t0).2.1.getD i (0,0)).1,ah ((s.T.getD x.toNat t0).2.1.getD i (0,0)).2],ah 0])/\Below w.heap.size w w':=by
 have b1:Below w.heap.size w ((w.alloc (.cells #[.int .i64 3,.int .i64 x] 97)).alloc (.cells #[.int .i64 0,.int .i64 0] 97)):=(bX.alloc bW _).alloc Z _;have P:=uw (h.below b1) x hv d hk;have j:=g8 (h.g2.fl _ hv.2)
 obtain⟨b,o,f,lb,g⟩:=j V;have hc:=g i hi;clear h hv d hk g;dsimp only [eD] at P;rw[f] at P;generalize (s.T.getD x.toNat t0).2.1.getD i (0,0)=y at*;generalize (s.T.getD x.toNat t0).2.1.length=n at*;generalize (l.fm x.toNat).2=cp at*;clear f;go_enter func201,ntmps201;go_wp2_with fail;refine P.mono ?_;clear P;rintro e w1 ⟨rfl,hb⟩
 have hq:=(hb.block (w.heap.size+1) Z).trans (iP w (.cells #[.int .i64 3,.int .i64 x] 97) (.cells #[.int .i64 0,.int .i64 0] 97))
 obtain⟨m,q,t,lw⟩:=di hq;have k:ay (_=_):=hq;have c:ay (Below w.heap.size w w1):=b1.trans (hb.mono (by simp;omega))
 have g0:=(c.o.cell (p:=aq b (o+i*2)) lb).trans hc.1;have g1:=(c.o.cell (p:=aq b (o+i*2+1)) lb).trans hc.2;clear hb b1 hq hc;go_wp2_with fail;obtain⟨r0,r1,_,_⟩:=di (gz (v1:=ah y.1) (v2:=ah y.2) k.o)
 exact a4 (v:=.tuple #[.agg #[ah y.1,ah y.2],ah 0]) (by simp[results,results201,go_sem,r0,r1]) rfl ⟨rfl,(c.o.setCell Z _).setCell Z _⟩
theorem rh (x:Int)(w:ax):Calls prog 205 #[ah x] w fun e w'=>e=.returned (.agg #[ah 1,ah x])/\Below w.heap.size w w':=by go_enter func205,ntmps205;go_wp2_with fail;exact a4 (v:=.agg #[ah 1,ah x]) (by simp[results,results205,go_sem]) rfl ⟨rfl,bX.alloc bW _⟩
theorem ox (x:Int)(w:ax):Calls prog 239 #[ah x] w fun e w'=>e=.returned (.agg #[ah 3,ah x])/\Below w.heap.size w w':=by go_enter func239,ntmps239;go_wp2_with fail;exact a4 (v:=.agg #[ah 3,ah x]) (by simp[results,results239,go_sem]) rfl ⟨rfl,bX.alloc bW _⟩
end
section
variable {bY:Nat}{b_ bZ:Int}{l:gG}{F:Nat->Prop}{s:ck}{w w':ax}{T T':List cD}
theorem H3 {fm:Fm}(b:∀i,cv T' i↔cv T i)(d:∀i,(T'.getD i t0).1=(T.getD i t0).1/\(T'.getD i t0).2.1.length=(T.getD i t0).2.1.length):hJ T' fm=hJ T fm:=by
 funext x
 by_cases h:0<=x/\cv T x.toNat
 ·rw[ja h,ja ⟨h.1,(b _).2 h.2⟩];dsimp only [fX,eD];rw[(d _).1,(d _).2]
 ·rw[lJ h,lJ (fun c=>h ⟨c.1,(b _).1 c.2⟩)]
theorem ri (T:List cD)(j i:Nat)(y:Int×Int)(k:Nat):(i9 T j i y).getD k t0=if j=k/\j<T.length then((T.getD j t0).1,(T.getD j t0).2.1.set i y,(T.getD j t0).2.2) else T.getD k t0:=by
 by_cases b:j=k
 ·subst b;by_cases c:j<T.length
  ·simp[c]
  ·simp[c]
 ·simp[b]
theorem rj (T:List cD)(j i:Nat)(y:Int×Int)(k:Nat):cv (i9 T j i y) k↔cv T k:=by
 unfold cv;rw[a3,ri];split
 ·rename_i h;rw[<-h.1]
 ·exact Iff.rfl
theorem dS.field (h:dS bY b_ bZ l s w){j i:Nat}(n:cv s.T j)(hi:i<(s.T.getD j t0).2.1.length)(y:Int×Int):∃b cp,eD s.T l.fm j=.slice (ak b) (s.T.getD j t0).2.1.length cp/\
 w.cell? (aq b (i*2))=some (ah ((s.T.getD j t0).2.1.getD i (0,0)).1)/\w.cell? (aq b (i*2+1))=some (ah ((s.T.getD j t0).2.1.getD i (0,0)).2)/\(∀o,w.frozen? (aq b o)=false)/\b<w.heap.size/\l.own b=10+j/\
 ∀w' W:ax,(∀k,l.own k≠0->k≠b->w'.heap[k]?=w.heap[k]?)->w.heap.size<=w'.heap.size->W.heap[b]?=w.heap[b]?->w'.heap[b]?=((W.setCell ⟨b,i*2,none⟩ (.int .i64 y.1)).setCell ⟨b,i*2+1,none⟩ (.int .i64 y.2)).heap[b]?->dS bY b_ bZ l {s with T:=i9 s.T j i y} w':=by
 have hr:=h.g2.fl j n;obtain⟨b,cp,e⟩:=eU hr V;have ho:=h.g2.eS j n b (by rw[e];rfl)
 obtain⟨E,t⟩:=e6 hr b (by rw[e];rfl)
 obtain⟨F,o,u,lb,x⟩:=g8 hr V;have A:(l.fm j).1=ak b:=by injection e
 rw[A] at u;cases u;have hc:=x i hi;rw[Nat.zero_add] at hc;refine⟨b,cp,e,hc.1,hc.2,fun o=>by simp[World.frozen?,t],lt_of_some t,ho,fun w' W hk hs B hb=>?_⟩
 have v:((i9 s.T j i y).getD j t0)=((s.T.getD j t0).1,(s.T.getD j t0).2.1.set i y,(s.T.getD j t0).2.2):=by rw[ri,aI ⟨rfl,n.1⟩]
 have m:∀k,((i9 s.T j i y).getD k t0).1=(s.T.getD k t0).1/\((i9 s.T j i y).getD k t0).2.1.length=(s.T.getD k t0).2.1.length/\((i9 s.T j i y).getD k t0).2.2=(s.T.getD k t0).2.2:=fun k=>by
  rw[ri];split
  ·rename_i C;rw[<-C.1];exact⟨rfl,Z,rfl⟩
  ·exact⟨rfl,rfl,rfl⟩
 refine {blk:=?_,bo:=h.bo,g2:=?_,g3:=h.g3.keep (fun k d=>hk k V (fun c=>by rw[c] at d;omega)),g4:=h.g4.keep (fun k d=>hk k V (fun c=>by rw[c] at d;omega)),lt:=fun k d=>aM (h.lt k d) hs}
 ·rw[hk bY (by rw[h.bo];decide) (fun c=>by have:=h.bo;rw[c] at this;omega),h.blk];rw[a3]
 ·refine {mp:=?_,mn:=by rw[a3];exact h.g2.mn,dp:=h.g2.dp,fl:=fun k d=>?_,eS:=fun k d=>?_,fe:=fun k d=>?_,al:=by rw[a3];exact h.g2.al}
  ·rw[H3 (fun k=>rj _ _ _ _ k) (fun k=>⟨(m k).1,(m k).2.1⟩)];exact h.g2.mp.same (hk _ (by rw[h.g2.dp];decide) (fun c=>by have:=h.g2.dp;rw[c] at this;omega))
  ·have p:=(rj _ _ _ _ k).1 d;by_cases e7:k=j
   ·rw[e7,v];dsimp only [eD] at hr e⊢;rw[v];rw[a3,ta];have q:=nQ (nQ (cH (e▸hr) (fun g f=>by cases f;exact B)) (i*2) (ah y.1)) (i*2+1) (ah y.2)
    rw[e];exact cH q (fun g f=>by cases f;exact hb)
   ·have D:(i9 s.T j i y).getD k t0=s.T.getD k t0:=by rw[ri,aG (fun c=>e7 c.1.symm)]
    dsimp only [eD];rw[D];exact cH (h.g2.fl k p) (fun g f=>hk g (by rw[h.g2.eS k p g f];omega) (fun c=>by have q:=h.g2.eS k p g f;rw[c,ho] at q;omega))
  ·intro g f;refine h.g2.eS k ((rj _ _ _ _ k).1 d) g ?_;dsimp only [eD] at f⊢;rw[(m k).2.1] at f;exact f
  ·rw[(m k).2.2];exact h.g2.fe k ((rj _ _ _ _ k).1 d)
end
end Go.Proofs.YtpkjkjhanlbcoaaGreat
