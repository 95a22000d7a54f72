import Derived.Test.YtpkjkjhanlbcoaaGreatJ21
namespace Go.Proofs.YtpkjkjhanlbcoaaGreat
set_option maxRecDepth 100000
set_option maxHeartbeats 8000000
open Tryz
open Go.RowKit W Kp ck
section
variable {b9:Nat}{ch b_:Int}{l:gU}{S:cn}{w:az}
theorem Kk (hg:dN b9 ch b_ l S w)(hv:nG S.T S.wt)(ar:∀i,cz S.T i->(S.T.getD i t0).1=5->(S.T.getD i t0).2.1=[])(hr:∀v∈S.rs,fg S.T v):
 Calls prog 138 #[aq b9] w fun e w'=>∃aB bl f aF n,e=.returned (.agg #[.slice aB 12 bl,.slice f aF n])/\jo w' w.heap.size aB (dR.ez S.T S.wt S.rs).1/\i5 w' w.heap.size f (dR.ez S.T S.wt S.rs).2.2/\aF=(dR.ez S.T S.wt S.rs).2.2.length/\Below w.heap.size w w':=by
 have cb:=@run_makeMap prog;have ai:=aw w (.cells #[.slice none 0 0,.slice none 0 0] 60)
 have aR:=aP w (.cells #[.slice none 0 0,.slice none 0 0] 60)
 have u:=hg.below ai;have al:=hg.g4.rl;obtain⟨_,_,_,_,_,_,aV,_,bn⟩:=u.cells;have a0:fC (w.alloc (.cells #[.slice none 0 0,.slice none 0 0] 60)) (au l.rb) S.rs:=by
  have c:=u.g4.cells;refine⟨fun hp=>⟨l.rb,0,rfl,c.1,fun i hi=>?_⟩,fun hp=>⟨l.rb,0,_,rfl,u.g4.rt⟩⟩
  have:=c.2.2 i aa;rw[Nat.zero_add];exact⟨this.1,this.2.1⟩
 have a1:w.heap.size<(w.alloc (.cells #[.slice none 0 0,.slice none 0 0] 60)).heap.size:=ac;have N:=eF.made (w.alloc (.cells #[.slice none 0 0,.slice none 0 0] 60))
 have W:kN []=fun _=>none:=by
  funext x
  exact A3 ac
 rw[<-W] at N;have b2:=((aH _ (w.alloc (.cells #[.slice none 0 0,.slice none 0 0] 60))).alloc b7 (.map #[] 0)).alloc ac (.cells #[.pointer (some ⟨b9,0,none⟩),.map (some (w.heap.size+1)),.slice none 0 0] 231)
 have am:=gb (w.alloc (.cells #[.slice none 0 0,.slice none 0 0] 60)) (.map #[] 0) (.cells #[.pointer (some ⟨b9,0,none⟩),.map (some (w.heap.size+1)),.slice none 0 0] 231)
 have ab:(w.alloc (.cells #[.slice none 0 0,.slice none 0 0] 60)).heap.size=w.heap.size+1:=ac;rw[ab] at N am;have a3:=N.same (w':=((w.alloc (.cells #[.slice none 0 0,.slice none 0 0] 60)).alloc (.map #[] 0)).alloc (.cells #[.pointer (some ⟨b9,0,none⟩),.map (some (w.heap.size+1)),.slice none 0 0] 231)) (aS _ _ _ ac)
 have ba:aA (fA (w.alloc (.cells #[.slice none 0 0,.slice none 0 0] 60)) (((w.alloc (.cells #[.slice none 0 0,.slice none 0 0] 60)).alloc (.map #[] 0)).alloc (.cells #[.pointer (some ⟨b9,0,none⟩),.map (some (w.heap.size+1)),.slice none 0 0] 231)) (w.heap.size+1+1) (w.heap.size+1) b9 ([],[]) (.slice none 0 0) []):=
  ⟨am,⟨by rw[ab];omega,by rw[ab];exact aG _⟩,a3,bc _ _ _ _,rfl,fun x g=>by simp at g,b2⟩
 have bo:=(b2.cell (p:=av b9 6) bn).trans aV;have an:w.heap.size<=(((w.alloc (.cells #[.slice none 0 0,.slice none 0 0] 60)).alloc (.map #[] 0)).alloc (.cells #[.pointer (some ⟨b9,0,none⟩),.map (some (w.heap.size+1)),.slice none 0 0] 231)).heap.size:=by simp;omega
 have ag:=A4 (A6 u hv ar S.T.length) (jQ _) ba.o (fi.start _) ac hv.l1 S.rs hr (au l.rb) 12 (a0.mI (fJ.of (B:=0) b2)) aa;have bp:aA ((dR.ez S.T S.wt S.rs).1.length=12):=by show _=_;unfold dR.ez;rw[nU,aZ];exact al
 change Calls _ _ _ _ (fun e w'=>∃br ao a2 c2,e=.returned (.slice a2 S.rs.length c2)/\w'.ownsRow _ 97 2 (.slice a2 S.rs.length c2) S.rs.length (ev (dR.ez S.T S.wt S.rs).1)/\fA _ w' _ _ b9 (dR.ez S.T S.wt S.rs).2 br ao/\fR _ _ [] w' ao/\(∀k,fD ao k->some k≠(Value.slice a2 S.rs.length c2).ownBlock)) at ag;rw[al] at ag;clear hg u hv ar hr a0 N a3 am W aV ba al;generalize dR.ez S.T S.wt S.rs=R at*;obtain⟨cc,s⟩:=R;dsimp only at*;have ap:=hide ai;clear ai;go_enter func138,ntmps138;go_wp2_with fail;refine ag.mono ?_;clear ag;rintro e w2 ⟨cd,m,a2,c2,rfl,o,d,bb,_⟩
 obtain⟨f,n,bs⟩:=eN d.row;subst bs;have ce:=d.cells.2.2.1;have bd:=ap.o.trans (d.eP.mono ap.o.size)
 have j:=(d.eP.block _ a1).trans aR;have y0:w2.cell? (av w.heap.size 0)=some (.slice none 0 0):=aD j
 have y1:w2.cell? (av w.heap.size 1)=some (.slice none 0 0):=aD j
 have cf:w2.frozen? (av w.heap.size 0)=false:=aE j
 have cg:w2.frozen? (av w.heap.size 1)=false:=aE j
 have l2:=lt_of_some j;have bt:=c7 d o;have bx:=hide d.len;have b0:=hide bd;have be:=hide j;have b1:aA (∀k,fD m k->w.heap.size<=k):=fun k hk=>(bb.2 k hk).elim (fun⟨x,g,_⟩=>by cases g) (fun b3=>aU an b3)
 have b4:=hide an;clear d o bb bd j aR bo ap b2 an ab a1;go_wp2_with fail;obtain⟨q,hW0⟩:∃q,q=(w2.setCell ⟨w.heap.size,0,none⟩ (.slice a2 12 c2)).setCell ⟨w.heap.size,1,none⟩ (.slice f m.length n):=⟨_,rfl⟩
 rw[<-hW0];have g0:q.cell? (av w.heap.size 0)=some (.slice a2 12 c2):=by exact lE
 have g1:q.cell? (av w.heap.size 1)=some (.slice f m.length n):=by exact Af
 have t:Fr (fun k=>k=w.heap.size) w2 q:=by rw[hW0];exact((Fr.refl (fun k=>k=w.heap.size) w2).set w.heap.size 0 _ rfl).set w.heap.size 1 _ rfl
 clear hW0;obtain⟨d,o⟩:=bt.o;have bg:∀{ad:Option Addr}{L:List (Int×Int)},fC w2 ad L->dz q ad L:=fun {ad L} h=>h.1.keep t.size (fun hp b e=>by
  obtain⟨b5,ci,cj,W,hb⟩:=h.2 hp;rw[W] at e;cases e;refine t.block _ (lt_of_some hb) (fun c=>?_)
  have c:b5=w.heap.size:=c;rw[c,be.o] at hb;simp at hb)
 refine a5 (v:=.agg #[.slice a2 12 c2,.slice f m.length n]) (by simp[results,results138,go_sem,g0,g1]) rfl ⟨a2,c2,f,m.length,n,rfl,⟨bg (fC.of (by rw[bp.o];exact o)),fun hp=>?_⟩,⟨m,d.nd,fun x g=>bg (d.fl x g),b1.o,fun hp=>?_⟩,bx.o,b0.o.trans (t.below (Nat.le_of_lt l2) (fun k e=>Nat.le_of_eq (Eq.symm e)))⟩
 ·obtain⟨b,cap,e⟩:=eT o ae;cases e;exact⟨b,0,rfl,aU b4.o (cu o b rfl).1⟩
 obtain⟨b,cap,e⟩:=eT d.row hp;cases e;have b6:=(cu d.row b rfl).1;simp at b6;obtain⟨ck,F⟩:=fp d.row b rfl;have bi:b≠w.heap.size:=fun c=>by rw[c,be.o] at F;simp at F
 refine⟨b,0,rfl,aa,aO (lt_of_some F) t.size,fun i x g=>?_⟩
 obtain⟨n1,ca⟩:=oW m i x g;rw[Nat.zero_add];exact⟨(aQ (a:=⟨b,i*2,none⟩) (t.block b (lt_of_some F) bi)).trans (jR d.row n1).1,(aQ (a:=⟨b,i*2+1,none⟩) (t.block b (lt_of_some F) bi)).trans (jR d.row ca).1⟩
end
theorem Kl {T:List cI}{wt:List ce}(d:eX T wt):∃g,dL T wt g:=by
 classical
 refine⟨fun is=>(List.range is.length).map (fun i=>decide (∀X:Nat->Prop,hP T wt X->(∀k,cw is k->X k)->X i)),fun is hl e=>?_⟩
 have key:∀i,cw ((List.range is.length).map (fun i=>decide (∀X:Nat->Prop,hP T wt X->(∀k,cw is k->X k)->X i))) i↔i<is.length/\∀X:Nat->Prop,hP T wt X->(∀k,cw is k->X k)->X i:=by grind [cw]
 refine⟨ac,fun i hi=>(by grind [cw.lt]),fun i hi j v hv f=>?_,fun X b hs i hi=>(by grind)⟩
 have c:∀X:Nat->Prop,hP T wt X->(∀k,cw is k->X k)->_:=fun X b hs=>b i hi (by grind) v (by grind [jg.mono]) f;exact(key _).2 ⟨(hl▸(c (cz T) d.cls e).1),c⟩
theorem A7:∃g:eM,∀T wt,eX T wt->dL T wt (g T wt):=by
 classical
 refine⟨fun T wt=>if h:∃g,dL T wt g then h.choose else id,fun T wt b=>?_⟩
 grind [Kl]
section
variable {σ:Type}{is:σ->Int->Bool}{kp:σ->Int->σ}{I:σ->List ce->Prop}{R:List ce}
theorem uX (hk:∀s C e,I s C->e∈R->is s e.1=true->I (kp s e.2) (C++[e])):∀(l:List ce)(s:σ)(C D:List ce),(∀e∈l,e∈R)->I s C->I (ck.pass is kp l s C D).1 (ck.pass is kp l s C D).2.1
 |[],_,_,_,_,h=>h
 |e::r,s,C,D,b,h=>by
  unfold ck.pass;have hr:_:=fun x d=>b x (aX _ d)
  split
  ·rename_i c;exact uX hk r _ _ _ hr (by grind)
  ·exact uX hk r _ _ _ hr h
theorem A8 (hk:∀s C e,I s C->e∈R->is s e.1=true->I (kp s e.2) (C++[e])):∀(n:Nat)(D:List ce)(s:σ)(C:List ce),(∀e∈D,e∈R)->I s C->I (ck.turns is kp n D s C).1 (ck.turns is kp n D s C).2.1
 |0,_,_,_,_,h=>h
 |n+1,D,s,C,b,h=>by
  have c:=uX hk D s C [] b h;unfold ck.turns;split
  ·omega
  ·exact A8 hk n _ _ _ (by grind [AN]) c
end
structure uY (s:cn)(g:List Bool->List Bool)(mj:Bool)(L:List Bool)(C:List ce):Prop where
 ok:gH s.T L
 up:∀k,cw (s.c0 g mj) k->cw L k
 cl:hP s.T s.wt (cw L)
 cC:∀e∈C,e∈s.rg/\cw L e.1.toNat/\cw L e.2.toNat
 lt:∀X,hP s.T s.wt X->(∀k,cw (s.c0 g mj) k->X k)->(∀e∈s.rg,cV (s.c0 g mj) e.2=false->X e.2.toNat)->∀k,cw L k->X k
theorem A9 {s:cn}(h:fQ s){g:List Bool->List Bool}(hg:dL s.T s.wt g)(mj:Bool):oF s.T s.wt (kh s.T s.rs mj) (s.c0 g mj)/\gH s.T (s.c0 g mj):=by have b:=h.first mj;exact⟨hg _ b.len b.al,(hg.ok h.iv b).1⟩
theorem Km {s:cn}(h:fQ s){g:List Bool->List Bool}(hg:dL s.T s.wt g)(mj:Bool):uY s g mj (s.cR g mj).1 (s.cR g mj).2.1:=by
 obtain⟨m,n⟩:=A9 h hg mj;refine A8 (fun L C e f he o=>?_) _ _ _ _ (fun e he=>he) ⟨n,fun k hk=>hk,m.cl,fun e he=>by grind,fun X _ l _ k hk=>(by grind)⟩
 obtain⟨he,hn⟩:=List.mem_filter.1 he;have hn:cV (s.c0 g mj) e.2=false:=by grind
 have ha:=(h.gv e he).2;obtain⟨j,p,t⟩:=f.ok.put ha.2;have c:=hg _ j.len j.al;have d:∀k,cw L k->_:=fun k hk=>c.up k (by grind)
 refine⟨(hg.ok h.iv j).1,fun k hk=>d k (f.up k hk),c.cl,fun x b=>?_,fun X l h0 u k hk=>?_⟩
 ·rcases List.mem_append.1 b with b|b
  ·obtain⟨q1,q,q3⟩:=f.cC x b;exact⟨q1,d _ q,d _ q3⟩
  ·rw[List.mem_singleton.1 b];exact⟨he,d _ o,c.up _ p⟩
 ·refine c.lt X l (fun i hi=>?_) k hk
  grind [uY.lt,cw]
theorem Kn (s:cn)(g:List Bool->List Bool)(mj:Bool):(s.cR g mj).2.1.length<=(s.rg.filter (fun e=>!cV (s.c0 g mj) e.2)).length:=by
 have:=vX (is:=cV) (kp:=fG g) (s.rg.length+1) (s.rg.filter (fun e=>!cV (s.c0 g mj) e.2)) (s.c0 g mj) [];unfold cn.cR
 grind
theorem Ko {s:cn}(h:fQ s){g:List Bool->List Bool}(hg:dL s.T s.wt g)(mj:Bool){v:Int×Int}(hv:v∈s.rs)(b:v.1=3):cw (s.c0 g mj) v.2.toNat:=
 (A9 h hg mj).1.up _ ((kI _ _ _ _).2 ⟨(h.rv v hv b).2.1,aL ⟨v,hv,b,rfl⟩⟩)
theorem uZ (L:List Bool)(T:List cI)(i:Nat):(gj L T T.length).getD i t0=if i<T.length then fH L i (T.getD i t0) else t0:=by
 by_cases h:i<T.length
 ·rw[rh L T T.length i aa h,aK h,aK h]
 grind [jK]
theorem A_ {L:List Bool}{i:Nat}{t:cI}(b:L.getD i false=false):fH L i t=(t.1,[],t.2.2.1,true):=by grind [fH]
theorem rO (L:List Bool)(i:Nat)(t:cI):(fH L i t).1=t.1:=by grind [fH]
theorem Kq {L:List Bool}{i:Nat}{t:cI}(b:L.getD i false=true):(fH L i t).2.2=(true,t.2.2.2):=by grind [fH]
theorem Kr {T:List cI}{L:List Bool}(h:gH T L)(i:Nat):cz (gj L T T.length) i↔cw L i:=by
 unfold cz;rw[jK,uZ];constructor
 ·grind [A_,cw]
 ·intro hi;have ha:=h.al i hi;refine⟨ha.1,?_⟩
  rw[aK ha.1,Kq hi];exact ha.2
theorem rP {L:List Bool}{i:Nat}{t:cI}(b:L.getD i false=true):
 (t.1=4/\d6 L (t.2.1.getD 0 (0,0))=false/\(fH L i t).2.1=[(2,0),(2,0)])\/(t.1=3/\d6 L (t.2.1.getD 0 (0,0))=false/\(fH L i t).2.1=[(2,0),t.2.1.getD 1 (0,0)])\/((t.1=3\/t.1=4->d6 L (t.2.1.getD 0 (0,0))=true)/\(fH L i t).2.1=t.2.1):=by grind [fH]
def mL (T:List cI)(e:ce):Prop:=(0<=e.1/\cz T e.1.toNat)/\(T.getD e.1.toNat t0).1=5/\0<=e.2/\cz T e.2.toNat
structure dO (s:cn)(j:Nat):Prop where
 kd:∀i,cz s.T i->1<=(s.T.getD i t0).1/\(s.T.getD i t0).1<=5
 fl:∀i,cz s.T i->(s.T.getD i t0).1=3\/(s.T.getD i t0).1=4->(s.T.getD i t0).2.1.length=2
 g5:∀i,cz s.T i->(s.T.getD i t0).1=5->(s.T.getD i t0).2.1=[]
 fv:∀i,cz s.T i->∀v∈(s.T.getD i t0).2.1,fg s.T v
 tl:∀i,(s.T.getD i t0).2.1.length<=12
 rv:∀v∈s.rs,fg s.T v
 rl:s.rs.length=12
 gv:∀e∈s.rg,mL s.T e
 wv:∀e∈s.wt,mL s.T e
 en:s.rg.length+s.wt.length<=24
 tj:s.T.length<=j
theorem dO.more {s:cn}{j k:Nat}(h:dO s j)(hk:j<=k):dO s k:={h with tj:=aU h.tj hk}
theorem dO.iv {s:cn}{j:Nat}(h:dO s j):eX s.T s.wt:=⟨h.fl,fun i hi v hv=>(h.fv i hi v hv).2,fun e he=>(h.wv e he).2.2,h.tl⟩
theorem dO.u_ {s:cn}{j:Nat}(h:dO s j)(b:j<=10000):fQ s:=
 ⟨h.iv,fun v hv=>(h.rv v hv).2,fun e he=>⟨(h.gv e he).1,(h.gv e he).2.2⟩,fun e he=>(h.wv e he).1,aU h.tj b,by have:=h.en;omega,by have:=h.en;omega⟩
theorem dO.vd {s:cn}{j:Nat}(h:dO s j)(b:j<=10000):nG s.T s.wt:=
 ⟨h.fv,fun e he=>⟨(h.wv e he).1.1,(h.wv e he).2.2⟩,h.tl,aU h.tj b,by have:=h.en;omega⟩
theorem fg.mono {T c:List cI}{v:Int×Int}(h:fg T v)(hm:v.1=3->cz T v.2.toNat->cz c v.2.toNat):fg c v:=⟨h.1,fun b=>⟨(h.2 b).1,hm b (h.2 b).2⟩⟩
theorem k_ (T:List cI):fg T (0,0):=⟨ae,fun h=>by cases h⟩
theorem Ba (T:List cI):fg T (2,0):=⟨ae,fun h=>by cases h⟩
theorem dO.rt {s:cn}{j:Nat}(h:dO s j)(i:Nat):fg s.T (s.rs.getD i (0,0)):=by grind [rv,k_]
theorem dO.cut {s:cn}{j:Nat}(h:dO s j)(p:j<=10000){g:List Bool->List Bool}(hg:dL s.T s.wt g)(b_:Int)(mj:Bool):dO (s.cut g b_ mj) j:=by
 unfold cn.cut;split
 ·exact h
 have hw:=h.u_ p;have d:=Km hw hg mj;have hl:=Kn s g mj;generalize N:(s.cR g mj).1=L at*;generalize S:(s.cR g mj).2.1=C at*;have m:=Kr d.ok;have gt:∀i,cw L i->(gj L s.T s.T.length).getD i t0=fH L i (s.T.getD i t0):=fun i hi=>by rw[uZ,aK (d.ok.al i hi).1]
 have tr:∀v,fg s.T v->(v.1=3->cw L v.2.toNat)->_:=fun v hv hi=>hv.mono (fun b _=>(m _).2 (hi b))
 have ev:∀e,mL s.T e->cw L e.1.toNat->cw L e.2.toNat->mL (gj L s.T s.T.length) e:=fun e he f k=>⟨⟨he.1.1,(m _).2 f⟩,by rw[gt _ f,rO];exact he.2.1,he.2.2.1,(m _).2 k⟩
 refine {kd:=fun i hi=>?_,fl:=fun i hi hk=>?_,g5:=fun i hi hk=>?_,fv:=fun i hi v hv=>?_,tl:=fun i=>?_,rv:=fun v hv=>?_,rl:=h.rl,gv:=fun e he=>?_,wv:=fun e he=>?_,en:=?_,tj:=?_}
 ·have hi:=(m i).1 hi;rw[gt i hi,rO];exact h.kd i (d.ok.al i hi)
 ·have hi:=(m i).1 hi;rw[gt i hi,rO] at hk;rw[gt i hi];have k:=h.fl i (d.ok.al i hi) hk;rcases rP (L:=L) hi with⟨_,_,e⟩|⟨_,_,e⟩|⟨_,e⟩<;>rw[e]
  all_goals grind
 ·have hi:=(m i).1 hi;rw[gt i hi,rO] at hk;rw[gt i hi];rcases rP (t:=s.T.getD i t0) hi with⟨u,_,_⟩|⟨u,_,_⟩|⟨_,e⟩
  ·omega
  ·omega
  ·rw[e];exact h.g5 i (d.ok.al i hi) hk
 ·have hi:=(m i).1 hi;have ha:=d.ok.al i hi;rw[gt i hi] at hv;have cl:∀v,jg s.T s.wt (cw L) i v->v.1=3->_:=fun v hk b=>d.cl i ha.1 hi v hk b;rcases rP (L:=L) hi with⟨_,_,e⟩|⟨w,_,e⟩|⟨B,e⟩
  ·rw[e] at hv
   grind [Ba]
  ·rw[e] at hv;have:v=(2,0)\/v=(s.T.getD i t0).2.1.getD 1 (0,0):=by grind
   rcases this with rfl|rfl
   ·exact Ba _
   ·exact tr _ (by grind [fv,fl]) (fun b=>cl _ (aL (aM ⟨w,rfl⟩)) b)
  ·rw[e] at hv;refine tr v (h.fv i ha v hv) (fun b=>?_)
   have hk:=h.kd i ha;by_cases F:(s.T.getD i t0).1=1\/(s.T.getD i t0).1=2
   ·exact cl v (aM ⟨F,hv⟩) b
   ·by_cases c5:(s.T.getD i t0).1=5
    ·grind [g5]
    ·have o:(s.T.getD i t0).1=3\/(s.T.getD i t0).1=4:=aa;have h0:=nz (B o)
     have k:=h.fl i ha o;obtain⟨q,hq,eq⟩:=List.mem_iff_getElem.1 hv;have n:(s.T.getD i t0).2.1.getD q (0,0)=v:=by grind
     match q,hq,n with
     |0,_,n=>
      grind
     |1,_,n=>
      rcases o with c|c
      ·exact cl v (aL (aM ⟨c,n.symm⟩)) b
      ·exact cl v (aL (aL (aM ⟨c,h0,n.symm⟩))) b
     |q+2,hq,_=>omega
 ·rw[uZ];split
  ·cases c:L.getD i false
   ·rw[A_ c];simp
   ·rcases rP (L:=L) c with⟨_,_,e⟩|⟨_,_,e⟩|⟨_,e⟩<;>rw[e]
    ·simp
    ·simp
    ·exact h.tl i
  ·simp[t0]
 ·exact tr v (h.rv v hv) (fun b=>d.up _ (Ko hw hg mj hv b))
 ·obtain⟨f,k⟩:=List.mem_filter.1 he;rw[bv] at k;exact ev e (h.gv e f) k.2 (d.up _ k.1)
 ·obtain⟨f,k⟩:=List.mem_filter.1 he;rcases List.mem_append.1 f with f|f
  ·have hv:=h.wv e f;exact ev e hv k (d.cl e.1.toNat hv.1.2.1 k (3,e.2) (aL (aL (aL ⟨hv.2.1,e,f,by have:=hv.1.1;omega,rfl⟩))) rfl)
  grind [uY.cC,gv]
 ·dsimp only;have l1:(s.rg.filter (fun e=>cV (s.c0 g mj) e.2&&cV L e.1)).length+(s.rg.filter (fun e=>!cV (s.c0 g mj) e.2)).length<=s.rg.length:=by
   have key:∀l:List ce,(l.filter (fun e=>cV (s.c0 g mj) e.2&&cV L e.1)).length+(l.filter (fun e=>!cV (s.c0 g mj) e.2)).length<=l.length:=fun l=>by
    induction l with
    |nil=>simp
    |cons x l W=>
     grind
   exact key s.rg
  have l2:=bA (fun e:ce=>cV L e.1) (s.wt++C)
  rw[a7] at l2;have:=h.en;omega
 simp_all [jK,tj]
theorem Ks (T:List cI)(t:cI)(i:Nat):(T++[t]).getD i t0=if i=T.length then t else T.getD i t0:=by grind
theorem Bb (T:List cI)(k:Int)(fl:List _)(i:Nat):cz (T++[(k,fl,false,false)]) i↔cz T i\/i=T.length:=by grind [cz]
theorem Kt (g:List Bool->List Bool)(s:cn)(b_:Int)(mj:Bool):(s.cut g b_ mj).rs=s.rs:=by grind [cn.cut]
theorem Ku (g:eM)(ch b_:Int)(s:cn)(m:Int):(s.room g ch b_ m).2.rs=s.rs:=by grind [Kt,cn.room]
theorem vf {k R A B n:Int}(h:d4 k R A B n=0):h9 k n=0:=by grind [d4]
theorem Bd {R A B n:Int}(h:d4 5 R A B n=0):0<=n/\n<=12:=by
 have b:=vf h
 grind [h9,hc]
theorem Be {R A B n:Int}(h:d4 1 R A B n=0):vc 1 n=0:=by have b:=vf h;assumption
section
variable {s:cn}{j:Nat}{g:eM}{ch b_:Int}
theorem dO.room (h:dO s j)(b:j<=10000)(hg:dL s.T s.wt (g s.T s.wt))(m:Int):dO (s.room g ch b_ m).2 j:=by grind [cut,cn.room]
theorem dO.put (h:dO s j){kd:Int}{fl:List _}(c:1<=kd)(d:kd<=5)(f:kd=3\/kd=4->fl.length=2)(g:kd=5->fl=[])(k:∀v∈fl,fg s.T v)(hl:fl.length<=12):dO (s.put kd fl) (j+1):=by
 have b:=Bb s.T kd fl;have tr:∀v,fg s.T v->_:=fun v hv=>hv.mono (fun _ ha=>(b _).2 (aM ha))
 have gt:∀i,cz s.T i->(s.T++[(kd,fl,false,false)]).getD i t0=s.T.getD i t0:=fun i hi=>by rw[Ks,aI (by have:=hi.1;omega)]
 have l:(s.T++[(kd,fl,false,false)]).getD s.T.length t0=(kd,fl,false,false):=by simp_all
 have ev:∀e,mL s.T e->mL (s.T++[(kd,fl,false,false)]) e:=fun e he=>⟨⟨he.1.1,(b _).2 (aM he.1.2)⟩,(gt _ he.1.2▸he.2.1),he.2.2.1,(b _).2 (aM he.2.2.2)⟩
 unfold cn.put;refine {kd:=fun i hi=>?_,fl:=fun i hi hk=>?_,g5:=fun i hi hk=>?_,fv:=fun i hi v hv=>?_,tl:=fun i=>?_,rv:=fun v hv=>tr v (h.rv v hv),rl:=h.rl,gv:=fun e he=>ev e (h.gv e he),wv:=fun e he=>ev e (h.wv e he),en:=h.en,tj:=?_}
 ·rcases(b i).1 hi with hi|rfl
  ·rw[gt i hi];exact h.kd i hi
  grind
 ·rcases(b i).1 hi with hi|rfl
  all_goals grind [fl]
 ·rcases(b i).1 hi with hi|rfl
  all_goals grind [g5]
 ·rcases(b i).1 hi with hi|rfl
  ·rw[gt i hi] at hv;exact tr v (h.fv i hi v hv)
  ·simp_all
 ·grind [tl]
 simp_all [tj]
theorem dO.pV (h:dO s j)(b:j<=10000)(hg:dL s.T s.wt (g s.T s.wt)){kd:Int}{fl:List _}(c:1<=kd)(d:kd<=5)(e:kd=3\/kd=4->fl.length=2)(f:kd=5->fl=[])(i:∀v∈fl,v∈s.rs\/v=(0,0))(hl:fl.length<=12):
 dO (s.b_ g ch b_ kd fl).2.2 (j+1)/\fg (s.b_ g ch b_ kd fl).2.2.T (s.b_ g ch b_ kd fl).1:=by
 have hr:=h.room b hg (ch:=ch) (b_:=b_) (1+fl.length)
 have hs:=Ku g ch b_ s (1+fl.length)
 unfold cn.b_;generalize s.room g ch b_ _=p at*;split
 ·dsimp only;refine⟨hr.put c d e f (fun v hv=>?_) hl,?_⟩
  ·grind [rv,k_]
  ·have k:=hr.tj;refine⟨nT _ aa aa,fun _=>⟨aa,?_⟩⟩
   grind [Bb,cn.put]
 ·exact⟨hr.more aa,k_ _⟩
theorem dO.pop (h:dO s j)(b:j<=10000)(v:Int×Int):dO (s.pop v).2.2 j/\fg (s.pop v).2.2.T (s.pop v).1:=by
 unfold cn.pop;split
 ·split
  ·rename_i c;have he:=h.wv _ (getD_in (x:=(0,0)) c)
   have hb:=he.2.2.2.1;have ht:=h.tj;refine⟨{h with wv:=fun e hm=>?_,en:=?_},nT _ he.2.2.1 (by grind),fun _=>he.2.2⟩
   ·grind [wv]
   ·have:=h.en
    grind
  grind [k_]
 grind [k_]
theorem Kw {T:List cI}{v:Int×Int}(hv:fg T v)(h:iO T v=true):(0<=v.2/\cz T v.2.toNat)/\(T.getD v.2.toNat t0).1=5:=by obtain⟨b,c⟩:=ri.1 h;exact⟨hv.2 b,c⟩
theorem dO.reg (h:dO s j){t b:Int×Int}(ht:fg s.T t)(hd:fg s.T b):dO (s.reg t b).2 j:=by
 unfold cn.reg;split
 ·rename_i c;split
  ·omega
  ·obtain⟨q1,d⟩:=Kw hd c.2;refine {h with gv:=fun e he=>?_,en:=?_}
   ·rcases List.mem_append.1 he with he|he
    ·grind [gv]
    ·rw[List.mem_singleton.1 he];exact⟨q1,d,ht.2 c.1⟩
   grind
 omega
theorem Kx (T:List cI)(i q:Nat)(y:Int×Int)(k:Nat)(hi:i<T.length):(jh T i q y).getD k t0=if k=i then((T.getD i t0).1,(T.getD i t0).2.1.set q y,(T.getD i t0).2.2) else T.getD k t0:=by grind
theorem Ky (T:List cI)(i q:Nat)(y:Int×Int)(hi:i<T.length)(k:Nat):cz (jh T i q y) k↔cz T k:=by grind [cz]
theorem dO.set (h:dO s j){v y:Int×Int}(I:Int)(hv:fg s.T v)(hy:fg s.T y):dO (s.set v I y).2 j:=by
 unfold cn.set;split
 ·rename_i c;have g:kJ s.T v=true:=by grind [cn.fc]
  obtain⟨l,m⟩:=jL.1 g;obtain⟨_,ha⟩:=hv.2 l;generalize v.2.toNat=i at*;have hi:=ha.1;have d:=Ky s.T i I.toNat y hi;have gt:=fun k=>Kx s.T i I.toNat y k hi;have tr:∀v,fg s.T v->_:=fun v hv=>hv.mono (fun _ ha=>(d _).2 ha)
  have k1:∀k,((jh s.T i I.toNat y).getD k t0).1=(s.T.getD k t0).1:=fun k=>by grind
  have l1:∀k,((jh s.T i I.toNat y).getD k t0).2.1.length=(s.T.getD k t0).2.1.length:=fun k=>by grind
  have ev:∀e,mL s.T e->mL (jh s.T i I.toNat y) e:=fun e he=>⟨⟨he.1.1,(d _).2 he.1.2⟩,by rw[k1];exact he.2.1,he.2.2.1,(d _).2 he.2.2.2⟩
  refine {kd:=fun k hk=>?_,fl:=fun k hk hq=>?_,g5:=fun k hk hq=>?_,fv:=fun k hk x b=>?_,tl:=fun k=>?_,rv:=fun x b=>tr x (h.rv x b),rl:=h.rl,gv:=fun e he=>ev e (h.gv e he),wv:=fun e he=>ev e (h.wv e he),en:=h.en,tj:=?_}
  ·rw[k1];exact h.kd k (by grind)
  ·grind [fl]
  ·grind [g5]
  ·rw[gt k] at b;split at b
   ·rename_i e;rcases List.mem_or_eq_of_mem_set b with f|f
    ·exact tr x (h.fv i ha x f)
    ·simp_all
   ·exact tr x (h.fv k ((d k).1 hk) x b)
  ·grind [tl]
  simp_all [tj]
 omega
theorem dO.root (h:dO s j)(R:Nat){v:Int×Int}(hv:fg s.T v):dO {s with rs:=s.rs.set R v} j:=
 {
  h with
  rv:=fun x b=>(by grind [rv])
  rl:=by grind [rl]}
theorem vg (s:cn)(i:Nat):s.rs.getD i (0,0)∈s.rs\/s.rs.getD i (0,0)=(0,0):=by grind
theorem dO.rts (h:dO s j)(b:j<=10000)(hg:dL s.T s.wt (g s.T s.wt)){k R A B n:Int}(hc:d4 k R A B n=0)(I:Int):dO (s.rt g ch b_ k A.toNat B.toNat I n).2.2 (j+1)/\fg (s.rt g ch b_ k A.toNat B.toNat I n).2.2.T (s.rt g ch b_ k A.toNat B.toNat I n).1:=by
 have hs:=h.more (Nat.le_succ j)
 have two:∀v∈[s.rs.getD A.toNat (0,0),s.rs.getD B.toNat (0,0)],v∈s.rs\/v=(0,0):=fun v hv=>by
  have:v=s.rs.getD A.toNat (0,0)\/v=s.rs.getD B.toNat (0,0):=by simpa using hv
  rcases this with rfl|rfl
  ·exact vg s _
  ·exact vg s _
 have t:∀x:Int,-1152921504606846976<=x->x<1152921504606846976->fg s.T (1,x):=fun x w F=>⟨by simp[vc,rc];omega,fun h=>by cases h⟩
 unfold cn.rt;by_cases k1:k=1
 ·rw[aK k1];subst k1;exact⟨hs,Be hc,fun h=>by cases h⟩
 rw[aI k1];by_cases d:k=3
 ·rw[aK d];exact⟨hs,h.rt _⟩
 rw[aI d];by_cases f:k=4
 ·rw[aK f];exact h.pV b hg ae ae ac ac two ac
 rw[aI f];by_cases k5:k=5
 ·rw[aK k5];subst k5;have hn:=Bd hc;exact h.pV b hg ae ae ac ac (fun v hv=>((List.mem_replicate.1 hv).2▸vg s _)) (by simp_all)
 rw[aI k5];by_cases k6:k=6
 ·rw[aK k6];exact h.pV b hg ae ae ac ac two ac
 rw[aI k6];by_cases i:k=7
 ·rw[aK i];exact h.pV b hg ae ae ac ac two ac
 rw[aI i];by_cases l:k=8
 ·rw[aK l];exact h.pV b hg ae ae ac ac ac ac
 rw[aI l];by_cases m:k=10
 ·rw[aK m];have:=h.pop b (s.rs.getD A.toNat (0,0))
  exact⟨this.1.more (Nat.le_succ _),this.2⟩
 rw[aI m];by_cases o:k=11
 ·rw[aK o];refine⟨hs,?_⟩
  split
  ·rename_i c;by_cases e:kJ s.T (s.rs.getD A.toNat (0,0))=true
   ·obtain⟨u,_⟩:=jL.1 e;by_cases ci:I.toNat<(s.T.getD (s.rs.getD A.toNat (0,0)).2.toNat t0).2.1.length
    ·exact h.fv _ ((h.rt A.toNat).2 u).2 _ (getD_in ci)
    ·rw[aJ,List.getElem?_eq_none aa];exact k_ _
   ·unfold cn.fc at c;rw[aI e] at c;omega
  ·exact k_ _
 rw[aI o];by_cases p:k=13
 ·rw[aK p];split
  ·refine⟨hs,t _ aa ?_⟩
   have:=h.tl (s.rs.getD A.toNat (0,0)).2.toNat;omega
  ·exact⟨hs,k_ _⟩
 rw[aI p];by_cases q:k=14
 ·rw[aK q];refine⟨hs,?_⟩
  split
  ·simp_all
  ·simp_all
 rw[aI q];exact⟨hs,k_ _⟩
theorem dO.gm (h:dO s j)(b:j<=10000)(hg:dL s.T s.wt (g s.T s.wt))(k R A B I n:Int):dO (s.gm g ch b_ k R A B I n).2 (j+1):=by
 have hs:=Nat.le_succ j;unfold cn.gm;by_cases hc:d4 k R A B n=0
 ·rw[aK hc];split
  ·grind [more,reg,rt]
  ·split
   ·grind [more,set,rt]
   ·split
    ·exact(h.cut b hg _ _).more hs
    ·split
     ·exact(h.cut b hg _ _).more hs
     grind [rts,root]
 grind [more]
end
theorem dO.start:dO ⟨[],List.replicate 12 (0,0),[],[]⟩ 0:=
 ⟨fun i hi=>absurd hi.1 ac,fun i hi=>absurd hi.1 ac,fun i hi=>absurd hi.1 ac,fun i hi=>absurd hi.1 ac,fun i=>by simp[t0],fun v hv=>by grind [k_],ac,fun e he=>by grind,fun e he=>by grind,ac,ac⟩
open Go.RowKit W
theorem Kz (T:List cI)(wt:List ce)(l:List _):hY (tI T.length) (g_ T) (hC T wt) ([],[]) (dR.ez T wt l).2 (dR.ez T wt l).1:=
 p9 (jQ _) (fi.start _) (by rw[nF];simp) _
theorem Bf {T:List cI}{wt:List ce}(hw:nG T wt)(l:List _):(dR.ez T wt l).1.length=l.length/\(dR.ez T wt l).2.2.length<=10000/\∀nd∈(dR.ez T wt l).2.2,nd.2.length<=20000:=by
 have hv:=Kz T wt l;refine⟨?_,?_,fun nd b=>?_⟩
 ·unfold dR.ez;rw[nU,aZ]
 ·rw[hv.ok.len];refine aU hv.ok.le ?_;rw[nF];exact hw.l1
 ·obtain⟨i,hi,e⟩:=List.mem_iff_getElem.1 b;obtain⟨c,q1,_,q3,_⟩:=hv.nw i (a4 _) (by rw[<-hv.ok.len];exact hi)
  rw[aN hi,e] at q1;have q1:nd=c:=by simpa using q1
  rw[q1,q3];unfold hC;have d:=hw.tl ((dR.ez T wt l).2.1.getD i 0).toNat;have f:=hw.l2;rw[a7,aZ];split
  ·rw[aZ];have:=bA (fun e:ce=>e.1==(dR.ez T wt l).2.1.getD i 0) wt;omega
  ·rw[List.length_nil];omega
def wv (m:Nat->Int)(v:Int×Int):Int:=if v.1=3 then ew 3 (m v.2.toNat) else ew v.1 v.2
def we (m:Nat->Int)(e:ce):ce:=(ew 3 (m e.1.toNat),ew 3 (m e.2.toNat))
structure dG (T:List cI)(v:Int×Int):Prop where
 t:v.1=3->0<=v.2/\cz T v.2.toNat
 o:v.1≠3->vc v.1 v.2=0
structure gq (T:List cI)(e:ce):Prop where
 g0:0<=e.1
 g:cz T e.1.toNat
 k:(T.getD e.1.toNat t0).1=5
 h0:0<=e.2
 h:cz T e.2.toNat
structure cD (a:Wc)(S:cv)(W:cn)(m:Nat->Int)(Y G:List Int):Prop where
 kv:eE a S.s Y G
 rl:W.rs.length=12
 rv:∀v∈W.rs,dG W.T v
 fv:∀i,cz W.T i->∀v∈(W.T.getD i t0).2.1,dG W.T v
 rs:S.s.rs=W.rs.map (wv m)
 iC:∀i,cz W.T i->(W.T.getD i t0).2.2.1=false->m i∈Y
 old:∀i,cz W.T i->(W.T.getD i t0).2.2.1=true->m i∈G
 inj:∀i j,cz W.T i->cz W.T j->m i=m j->i=j
 gh:∀v,(v∈Y\/v∈G)->∃i,cz W.T i/\m i=v
 hd:∀i,cz W.T i->hc (W.T.getD i t0).1 (W.T.getD i t0).2.1.length=0/\ld a.N S.s.y S.s.g S.s.ws (m i)=hw (W.T.getD i t0).1 (W.T.getD i t0).2.1.length
 fd:∀i,cz W.T i->∀k:Nat,k<(W.T.getD i t0).2.1.length->ld a.N S.s.y S.s.g S.s.ws (m i+1+k)=wv m ((W.T.getD i t0).2.1.getD k (0,0))
 rg:S.r=W.rg.map (we m)
 gv:∀e∈W.rg,gq W.T e
 wt:S.q=W.wt.map (we m)
 dB:∀e∈W.wt,gq W.T e
 tl:∀i,(W.T.getD i t0).2.1.length<=12
theorem vh {b:Type}(l:List b)(i j:Nat)(x c:b)(h:i<l.length):(l.set i x).getD j c=if i=j then x else l.getD j c:=by grind
theorem lh {b c:Type}(f:b->c)(l:List b)(i:Nat)(d:b)(e:c)(h:i<l.length):(l.map f).getD i e=f (l.getD i d):=by grind
theorem iP {m:Nat->Int}{v:Int×Int}(h:v.1=3):wv m v=ew 3 (m v.2.toNat):=by grind [wv]
theorem mM {m:Nat->Int}{v:Int×Int}(h:v.1≠3):wv m v=ew v.1 v.2:=by grind [wv]
theorem vi {T:List cI}{m b:Nat->Int}(h:∀i,cz T i->b i=m i){v:Int×Int}(hv:dG T v):wv b v=wv m v:=by
 by_cases c:v.1=3
 ·simp_all [iP,dG.t]
 grind [mM]
theorem Bg {T:List cI}{m b:Nat->Int}(h:∀i,cz T i->b i=m i){e:ce}(he:gq T e):we b e=we m e:=by grind [gq.g,gq.h,we]
theorem dG.of {T:List cI}{k n:Int}(b:k≠3)(h:vc k n=0):dG T (k,n):=⟨fun e=>aa,fun _=>h⟩
theorem dG.nil (T:List cI):dG T (0,0):=dG.of ae ae
theorem dG.mono {T b:List cI}(h:∀i,cz T i->cz b i){v:Int×Int}(hv:dG T v):dG b v:=⟨fun e=>⟨(hv.t e).1,h _ (hv.t e).2⟩,hv.o⟩
theorem KC {N y g:Nat}{ws Y G:List Int}(h:ec N y g ws Y G)(hy:y<=N){u v i j:Int}(b:u∈Y\/u∈G)(hv:v∈Y\/v∈G)(d:0<=i)(f:i<pf (ld N y g ws u))(j0:0<=j)(k:j<pf (ld N y g ws v))(e:u+1+i=v+1+j):u=v:=by
 rcases b with b|b<;>rcases hv with hv|hv
 ·rcases Int.lt_trichotomy u v with c|c|c
  ·have:=h.ty.apart u b v hv c;omega
  ·omega
  ·have:=h.ty.apart v hv u b c;omega
 ·have l:=nl h b d f;have m:=nm h hv j0 k;omega
 ·have l:=nl h hv j0 k;have m:=nm h b d f;omega
 grind [zl]
section
variable {a:Wc}{S:cv}{W:cn}{m:Nat->Int}{Y G:List Int}
theorem cD.mem (h:cD a S W m Y G){i:Nat}(hi:cz W.T i):m i∈Y\/m i∈G:=by grind [iC,old]
theorem cD.bd (h:cD a S W m Y G)(hb:cM a S.s){i:Nat}(hi:cz W.T i):0<=m i/\m i<1280:=by
 have c:=hb.n1;have d:=hb.o1;have e:=hb.y1;have f:=hb.g1;rcases h.mem hi with b|b
 ·have:=h.kv.inv.full.iH _ b;omega
 ·have:=h.kv.inv.full.io _ b;omega
theorem cD.word (h:cD a S W m Y G)(hb:cM a S.s){i:Nat}(hi:cz W.T i):vc 3 (m i)=0/\dd (ew 3 (m i))=true/\cq (ew 3 (m i))=m i:=by grind [bd,nT,nR]
theorem cD.vt (h:cD a S W m Y G)(hb:cM a S.s){v:Int×Int}(hv:dG W.T v)(b:v.1=3):dd (wv m v)=true/\cq (wv m v)=m v.2.toNat:=(iP b▸(h.word hb (hv.t b).2).2)
theorem dG.no {T:List cI}{v:Int×Int}(hv:dG T v)(b:v.1≠3):dd (wv m v)=false:=by grind [mM,nR,o]
theorem cD.vj (h:cD a S W m Y G)(hb:cM a S.s){v:Int×Int}(hv:dG W.T v):dd (wv m v)=(v.1==3):=by grind [vt,dG.no]
theorem cD.at (h:cD a S W m Y G)(hb:cM a S.s){v:Int×Int}(hv:dG W.T v)(ha:dd (wv m v)=true):cq (wv m v)∈Y\/cq (wv m v)∈G:=by
 rw[h.vj hb hv] at ha;have b:v.1=3:=by grind
 rw[(h.vt hb hv b).2];exact h.mem (hv.t b).2
theorem cD.dec (h:cD a S W m Y G)(hb:cM a S.s){v:Int×Int}(hv:dG W.T v):dc (wv m v)=0/\dk (wv m v)=v.1/\dm (wv m v)=if v.1=3 then m v.2.toNat else v.2:=by
 by_cases c:v.1=3
 ·rw[iP c,aK c,c];exact p7 3 _ (h.word hb (hv.t c).2).1
 grind [mM,p7,dG.o]
theorem cD.Bh (h:cD a S W m Y G)(hb:cM a S.s){v u:Int×Int}(hv:dG W.T v)(b:dG W.T u)(e:wv m v=wv m u):v=u:=by
 obtain⟨_,k1,n1⟩:=h.dec hb hv;obtain⟨_,d,f⟩:=h.dec hb b;rw[e] at k1 n1;have fU:=k1.symm.trans d;rw[f] at n1;by_cases c:v.1=3
 ·have c2:=fU▸c
  rw[aK c,aK c2] at n1;have:=h.inj _ _ (b.t c2).2 (hv.t c).2 n1;have g:=(hv.t c).1;have i:=(b.t c2).1
  grind
 grind
theorem cD.parts (h:cD a S W m Y G){i:Nat}(hi:cz W.T i):pk (ld a.N S.s.y S.s.g S.s.ws (m i))=(W.T.getD i t0).1/\pf (ld a.N S.s.y S.s.g S.s.ws (m i))=(W.T.getD i t0).2.1.length/\pc (ld a.N S.s.y S.s.g S.s.ws (m i))=0:=by grind [hd,p8]
theorem cD.tB (h:cD a S W m Y G)(hb:cM a S.s){v:Int×Int}(hv:dG W.T v):tB a.N S.s.y S.s.g S.s.ws (wv m v)=(v.1==3):=by
 by_cases c:v.1=3
 ·rw[(jf (O:=a.O) h.kv.inv.full hb.n1 hb.y1 hb.o1 hb.g1).2 ⟨(h.vt hb hv c).1,h.at hb hv (h.vt hb hv c).1⟩,c];rfl
 ·have e:(v.1==3)=false:=by grind
  rw[e,Bool.eq_false_iff];intro b;have:=((jf (O:=a.O) h.kv.inv.full hb.n1 hb.y1 hb.o1 hb.g1).1 b).1
  grind [dG.no]
theorem cD.root (h:cD a S W m Y G){i:Nat}(hi:i<12):S.s.rs.getD i 0=wv m (W.rs.getD i (0,0))/\dG W.T (W.rs.getD i (0,0)):=by
 have hl:i<W.rs.length:=(h.rl▸hi)
 exact⟨(h.rs▸(by grind)),h.rv _ (by grind)⟩
theorem cD.code (h:cD a S W m Y G)(hb:cM a S.s){A:Nat}(b:A<12)(I:Int):eD a.N S.s.y S.s.g S.s.ws (S.s.rs.getD A 0) I=W.gc A I:=by
 obtain⟨e,hv⟩:=h.root b;rw[e];unfold eD cn.gc cn.th;rw[h.tB hb hv];by_cases c:(W.rs.getD A (0,0)).1=3
 ·have d:((W.rs.getD A (0,0)).1==3)=true:=by grind
  obtain⟨z,al⟩:=hv.t c;obtain⟨f,g,_⟩:=h.parts al;rw[d,aK rfl,aK c,(h.vt hb hv c).2,h.kv.inv.full.stands hb.y1 (h.mem al),f,g]
  grind [t0]
 grind
theorem cD.put (h:cD a S W m Y G)(hb:cM a S.s)(k:Nat){v:Int×Int}(hv:dG W.T v):cD a ⟨{S.s with rs:=S.s.rs.set k (wv m v)},S.r,S.q⟩ {W with rs:=W.rs.set k v} m Y G:=
 {
  kv:=h.kv.root k _ (fun ha=>h.at hb hv ha),rl:=by grind [rl]
  rv:=fun u b=>(by grind [rv]),fv:=h.fv
  rs:=by rw[h.rs,List.map_set]
  iC:=h.iC,old:=h.old,inj:=h.inj,gh:=h.gh,hd:=h.hd,fd:=h.fd,rg:=h.rg,gv:=h.gv,wt:=h.wt,dB:=h.dB,tl:=h.tl}
theorem cD.beside (h:cD a S W m Y G){r q:List ce}(hr:∀e∈r,gq W.T e)(hq:∀e∈q,gq W.T e):cD a ⟨S.s,r.map (we m),q.map (we m)⟩ {W with rg:=r,wt:=q} m Y G:=
 {kv:=h.kv,rl:=h.rl,rv:=h.rv,fv:=h.fv,rs:=h.rs,iC:=h.iC,old:=h.old,inj:=h.inj,gh:=h.gh,hd:=h.hd,fd:=h.fd,rg:=rfl,gv:=hr,wt:=rfl,dB:=hq,tl:=h.tl}
theorem KD {T:List cI}{i:Nat}{t:cI}(hi:i<T.length)(hd:t.2.2.2=(T.getD i t0).2.2.2)(j:Nat):cz (T.set i t) j↔cz T j:=by grind [cz]
theorem cD.store (h:cD a S W m Y G)(hb:cM a S.s){i k:Nat}(hi:cz W.T i)(hk:k<(W.T.getD i t0).2.1.length){v:Int×Int}(hv:dG W.T v){ws M:List Int}(ew:ws=S.s.ws.set (m i+1+k).toNat (wv m v))(l:eE a {S.s with ws:=ws,M:=M} Y G):
 cD a ⟨{S.s with ws:=ws,M:=M},S.r,S.q⟩ {W with T:=W.T.set i ((W.T.getD i t0).1,(W.T.getD i t0).2.1.set k v,(W.T.getD i t0).2.2)} m Y G:=by
 have al:∀j,cz (W.T.set i ((W.T.getD i t0).1,(W.T.getD i t0).2.1.set k v,(W.T.getD i t0).2.2)) j↔cz W.T j:=KD hi.1 rfl;have gt:∀j,(W.T.set i ((W.T.getD i t0).1,(W.T.getD i t0).2.1.set k v,(W.T.getD i t0).2.2)).getD j t0=if i=j then((W.T.getD i t0).1,(W.T.getD i t0).2.1.set k v,(W.T.getD i t0).2.2) else W.T.getD j t0:=fun j=>vh _ _ _ _ _ hi.1
 have gl:∀j,((W.T.set i ((W.T.getD i t0).1,(W.T.getD i t0).2.1.set k v,(W.T.getD i t0).2.2)).getD j t0).2.1.length=(W.T.getD j t0).2.1.length:=fun j=>by grind
 have g1:∀j,((W.T.set i ((W.T.getD i t0).1,(W.T.getD i t0).2.1.set k v,(W.T.getD i t0).2.2)).getD j t0).1=(W.T.getD j t0).1:=fun j=>by grind
 have g2:∀j,((W.T.set i ((W.T.getD i t0).1,(W.T.getD i t0).2.1.set k v,(W.T.getD i t0).2.2)).getD j t0).2.2=(W.T.getD j t0).2.2:=fun j=>by grind
 obtain⟨s,t,_⟩:=h.parts hi;have k1:(k:Int)<pf (ld a.N S.s.y S.s.g S.s.ws (m i)):=aa;obtain⟨_,o⟩:=h.kv.inv.full.set hb.l1 hb.y1 hb.g1 (h.mem hi) aa k1;rw[<-ew] at o;have p:∀u,dG W.T u->_:=fun u d=>d.mono (fun j b=>(al j).2 b)
 have g:∀e,gq W.T e->gq (W.T.set i ((W.T.getD i t0).1,(W.T.getD i t0).2.1.set k v,(W.T.getD i t0).2.2)) e:=fun e he=>⟨he.g0,(al _).2 he.g,by grind [gq.k],he.h0,(al _).2 he.h⟩
 have w:=jD (kF h.kv.inv.full (h.mem hi) (Int.natCast_nonneg k) k1) hb.y1 hb.g1;exact
 {
  kv:=l,rl:=h.rl,rv:=fun u d=>p u (h.rv u d)
  fv:=fun j b u d=>by grind [fv]
  rs:=h.rs
  iC:=fun j b e=>(by grind [iC])
  old:=fun j b e=>(by grind [old])
  inj:=fun j q b c e=>h.inj j q (by grind) (by grind) e
  gh:=fun u d=>by grind [gh]
  hd:=fun j b=>by grind [mem,hd]
  fd:=fun j b n hn=>by
   have c:=(al j).1 b;have hn:=hn;rw[gl] at hn;obtain⟨_,x,_⟩:=h.parts c;have n1:(n:Int)<pf (ld a.N S.s.y S.s.g S.s.ws (m j)):=aa;have f:=kF h.kv.inv.full (h.mem c) aa n1;have B:=jD f hb.y1 hb.g1;rw[ef f,ew,lZ _ _ _ _ (by grind [cM.l1]),<-ef f,h.fd j c n hn,gt];by_cases e:i=j
   ·grind
   ·rw[aI e,aI (fun F=>e ?_)];exact h.inj i j hi c (KC h.kv.inv.full hb.y1 (h.mem hi) (h.mem c) aa k1 aa n1 aa)
  rg:=h.rg,gv:=fun e he=>g e (h.gv e he),wt:=h.wt,dB:=fun e he=>g e (h.dB e he)
  tl:=fun j=>by grind [tl]}
theorem Bj {T:List cI}{t:cI}(ht:t.2.2.2=false)(j:Nat):cz (T++[t]) j↔cz T j\/j=T.length:=by
 unfold cz
 grind
theorem nN {b:Type}(l:List b)(t c:b)(j:Nat)(h:j<l.length):(l++[t]).getD j c=l.getD j c:=by grind
theorem vk {b:Type}(l:List b)(t c:b):(l++[t]).getD l.length c=t:=by grind
def nO (m:Nat->Int)(n:Nat)(y:Int)(i:Nat):Int:=if i=n then y else m i
theorem cD.new (h:cD a S W m Y G){kd:Int}{f:List _}(hk:hc kd f.length=0)(x:∀v∈f,dG W.T v){c:ej}(er:c.rs=S.s.rs)(B:c.y<=a.N)(o:eE a c (Y++[(S.s.y:Int)]) G)
 (F:ld a.N c.y c.g c.ws S.s.y=hw kd f.length)(N:∀k:Nat,k<f.length->ld a.N c.y c.g c.ws (S.s.y+1+k)=wv m (f.getD k (0,0)))
 (h0:∀v,(v∈Y\/v∈G)->ld a.N c.y c.g c.ws v=ld a.N S.s.y S.s.g S.s.ws v)(t:∀v,(v∈Y\/v∈G)->∀k:Nat,(k:Int)<pf (ld a.N S.s.y S.s.g S.s.ws v)->ld a.N c.y c.g c.ws (v+1+k)=ld a.N S.s.y S.s.g S.s.ws (v+1+k)):
 cD a ⟨c,S.r,S.q⟩ {W with T:=W.T++[(kd,f,false,false)]} (nO m W.T.length S.s.y) (Y++[(S.s.y:Int)]) G:=by
 have al:∀j,cz (W.T++[(kd,f,false,false)]) j↔cz W.T j\/j=W.T.length:=Bj rfl;have l:∀i,cz W.T i->nO m W.T.length S.s.y i=m i:=fun i hi=>by unfold nO;rw[aI (by have:=hi.1;omega)]
 have ab:nO m W.T.length S.s.y W.T.length=S.s.y:=by grind [nO]
 have q:∀u,dG W.T u->_:=fun u g=>g.mono (fun j d=>(al j).2 (aM d))
 have s:∀e,gq W.T e->gq (W.T++[(kd,f,false,false)]) e:=fun e he=>⟨he.g0,(by grind [gq.g]),(nN _ _ _ _ he.g.1▸he.k),he.h0,(by grind [gq.h])⟩
 have ad:∀j,cz W.T j->m j≠S.s.y:=fun j d e=>by
  rcases h.mem d with b|b
  ·have:=h.kv.inv.full.iH _ b;omega
  ·have w:(S.s.y:Int)∈Y++[(S.s.y:Int)]:=ac;have n1:=o.inv.full.iH _ w;have ag:=o.inv.full.io _ b;omega
 exact
 {
  kv:=o,rl:=h.rl,rv:=fun u g=>q u (h.rv u g)
  fv:=fun j d u g=>by
   rcases(al j).1 d with b|b
   ·have g:=g;rw[nN _ _ _ _ b.1] at g;exact q u (h.fv j b u g)
   ·simp_all
  rs:=by show c.rs=W.rs.map _;rw[er,h.rs];exact List.map_congr_left (fun v hv=>(vi l (h.rv v hv)).symm)
  iC:=fun j d e=>by grind [iC]
  old:=fun j d e=>by
   have e:=e;rcases(al j).1 d with b|b
   all_goals grind [old]
  inj:=fun i j hi d e=>by
   rcases(al i).1 hi with b|b<;>rcases(al j).1 d with p|p
   ·rw[l i b,l j p] at e;exact h.inj i j b p e
   all_goals grind
  gh:=fun v hv=>by grind [gh]
  hd:=fun j d=>by
   show hc _ _=0/\ld a.N c.y c.g c.ws _=hw _ _;rcases(al j).1 d with b|b
   all_goals grind [nN,mem,hd]
  fd:=fun j d k n=>by
   have n:=n;show ld a.N c.y c.g c.ws _=wv _ _;rcases(al j).1 d with b|b
   ·rw[nN _ _ _ _ b.1] at n⊢;rw[l j b,t _ (h.mem b) k (by grind [parts]),h.fd j b k n];exact(vi l (by grind [fv])).symm
   grind [vi,getD_in]
  rg:=by show S.r=W.rg.map _;rw[h.rg];exact List.map_congr_left (fun e he=>(Bg l (h.gv e he)).symm)
  gv:=fun e he=>s e (h.gv e he)
  wt:=by show S.q=W.wt.map _;rw[h.wt];exact List.map_congr_left (fun e he=>(Bg l (h.dB e he)).symm)
  dB:=fun e he=>s e (h.dB e he)
  tl:=fun j=>by
   show((W.T++[(kd,f,false,false)]).getD j t0).2.1.length<=12;rcases Nat.lt_trichotomy j W.T.length with b|b|b
   ·grind [nN,tl]
   ·rw[b,vk];have:=i3 _ _ hk
    grind
   ·rw[aJ,List.getElem?_eq_none (by simp;omega)];simp[t0]}
end
def gD (P:Nat->Bool)(z:Nat->Nat):Nat->Nat
 |0=>0
 |n+1=>gD P z n+if P n=true then z n else 0
theorem Bk {P:Nat->Bool}{z:Nat->Nat}{m:Nat->Int}{f:Int->Nat}:∀n,(∀i,i<n->P i=true->f (m i)=z i)->gD P z n=g7 f (((List.range n).filter P).map m)
 |0,_=>by rfl
 |n+1,h=>by
  rw[gD,Bk n (fun i hi hp=>h i aa hp),List.range_succ,List.filter_append,List.map_append,Gy]
  grind [g7]
theorem vl {P:Nat->Bool}{z:Nat->Nat}{m:Nat->Int}{f:Int->Nat}{n:Nat}{l:List Int}(b:∀i,i<n->P i=true->f (m i)=z i)(hn:l.Nodup)(inj:∀i j,i<n->j<n->P i=true->P j=true->m i=m j->i=j)(hl:∀v,v∈l↔∃i,i<n/\P i=true/\m i=v):gD P z n=g7 f l:=by
 rw[Bk n b];have c:∀v,v∈((List.range n).filter P).map m↔v∈l:=fun v=>by grind
 have nd:(((List.range n).filter P).map m).Nodup:=by grind [List.Pairwise.imp_of_mem,List.nodup_range]
 exact Nat.le_antisymm (by simp_all [zi]) (by simp_all [zi])
theorem Bl {P Q:Nat->Bool}{z:Nat->Nat}:∀n,(∀i,i<n->P i=true->Q i=true)->gD P z n<=gD Q z n
 |0,_=>aG _
 |n+1,h=>by
  have b:=Bl (z:=z) n (fun i hi=>h i aa)
  grind [gD]
theorem Bm {P Q R:Nat->Bool}{z:Nat->Nat}:∀n,(∀i,i<n->R i=(P i||Q i)/\(P i&&Q i)=false)->gD R z n=gD P z n+gD Q z n
 |0,_=>rfl
 |n+1,h=>by
  obtain⟨b,c⟩:=h n aa;rw[gD,gD,gD,(Bm n (fun i hi=>h i aa)),b]
  grind
def iQ (T:List cI)(i:Nat):Nat:=1+(T.getD i t0).2.1.length
def jz (T:List cI)(i:Nat):Bool:=!(T.getD i t0).2.2.2&&!(T.getD i t0).2.2.1
def oB (T:List cI)(i:Nat):Bool:=!(T.getD i t0).2.2.2&&(T.getD i t0).2.2.1
theorem Bn (T:List cI):∀n,n<=T.length->ey (T.take n)=((gD (jz T) (iQ T) n:Int),(gD (oB T) (iQ T) n:Int))
 |0,_=>by rfl
 |n+1,h=>by
  rw[gL T n aa t0,yh,Bn T n aa];show jc _ _=(((gD (jz T) (iQ T) n+if jz T n=true then iQ T n else 0:Nat):Int),((gD (oB T) (iQ T) n+if oB T n=true then iQ T n else 0:Nat):Int))
  grind [jc,jz,oB,iQ]
theorem Bo (T:List cI):ey T=((gD (jz T) (iQ T) T.length:Int),(gD (oB T) (iQ T) T.length:Int)):=by
 have:=Bn T T.length aa
 grind
theorem vm (T:List cI)(L:List Bool):∀n,iN T L n=(gD (fun i=>L.getD i false) (iQ T) n:Int)
 |0=>rfl
 |n+1=>by
  rw[iN,vm T L n,gD]
  grind [iQ]
section
variable {a:Wc}{S:cv}{W:cn}{m:Nat->Int}{Y G:List Int}
theorem cD.size (h:cD a S W m Y G){i:Nat}(hi:cz W.T i):ns (ld a.N S.s.y S.s.g S.s.ws) (m i)=iQ W.T i:=by grind [parts,ns,iQ]
theorem mN {T:List cI}{i:Nat}(b:i<T.length)(c:(T.getD i t0).2.2.2=false):cz T i:=⟨b,c⟩
theorem cD.us (h:cD a S W m Y G)(hb:cM a S.s):ey W.T=((S.s.y:Int),(S.s.g:Int)):=by
 have g:=hb.y1;have k:gD (jz W.T) (iQ W.T) W.T.length=g7 (ns (ld a.N S.s.y S.s.g S.s.ws)) Y:=by
  refine vl (m:=m) (fun i hi hp=>?_) h.kv.inv.full.ty.nodup (fun i j hi b hp hq e=>?_) (fun v=>⟨fun hv=>?_,?_⟩)
  ·grind [size,mN,jz]
  ·unfold jz at hp hq;simp at hp hq;exact h.inj i j (mN hi hp.1) (mN b hq.1) e
  ·obtain⟨i,hi,e⟩:=h.gh v (by grind)
   refine⟨i,hi.1,?_,e⟩
   unfold jz;rw[hi.2];cases c:(W.T.getD i t0).2.2.1
   ·rfl
   ·have d:=h.kv.inv.full.io _ (h.old i hi c)
    have f:=h.kv.inv.full.iH v hv;omega
  ·rintro⟨i,hi,hp,e⟩
   unfold jz at hp;simp at hp;rw[<-e];exact h.iC i (mN hi hp.1) hp.2
 have l:gD (oB W.T) (iQ W.T) W.T.length=g7 (ns (ld a.N S.s.y S.s.g S.s.ws)) G:=by
  refine vl (m:=m) (fun i hi hp=>?_) h.kv.inv.full.es.nodup (fun i j hi b hp hq e=>?_) (fun v=>⟨fun hv=>?_,?_⟩)
  ·grind [size,mN,oB]
  ·unfold oB at hp hq;simp at hp hq;exact h.inj i j (mN hi hp.1) (mN b hq.1) e
  ·obtain⟨i,hi,e⟩:=h.gh v (by grind)
   refine⟨i,hi.1,?_,e⟩
   unfold oB;rw[hi.2];cases c:(W.T.getD i t0).2.2.1
   ·have d:=h.kv.inv.full.iH _ (h.iC i hi c)
    have f:=h.kv.inv.full.io v hv;omega
   ·rfl
  ·rintro⟨i,hi,hp,e⟩
   unfold oB at hp;simp at hp;rw[<-e];exact h.old i (mN hi hp.1) hp.2
 have n:=h.kv.inv.full.ty.sum;have o:=h.kv.inv.full.es.sum
 grind [Bo]
end
theorem cD.start (a:Wc)(n o:Nat):cD a (f6 n o).1 (f6 n o).2 (fun _=>0) [] []:=by
 have no:∀i,¬cz (f6 n o).2.T i:=fun i hi=>absurd hi.1 (Nat.not_lt_zero i)
 have c:∀x∈(f6 n o).1.s.rs,dd x=true->cq x∈([]:List Int)\/cq x∈([]:List Int):=fun x b ha=>by
  have b:x∈tw 2 12:=b
  simp_all [zL,tw]
 exact
 {
  kv:=⟨⟨ec.start,c,fun v hv=>(by simp_all)⟩,fun v hv=>(by grind)⟩
  rl:=af,rv:=fun v hv=>(List.eq_of_mem_replicate hv▸dG.nil _)
  fv:=fun i hi=>(by grind),rs:=af
  iC:=fun i hi=>(by grind),old:=fun i hi=>(by grind),inj:=fun i _ hi=>(by grind)
  gh:=fun v hv=>by simp_all
  hd:=fun i hi=>(by grind),fd:=fun i hi=>(by grind),rg:=rfl,gv:=fun e he=>(by cases he),wt:=rfl,dB:=fun e he=>(by cases he)
  tl:=fun i=>by simp[f6,t0]}
section
variable {a:Wc}{S:cv}{W:cn}{m:Nat->Int}{Y G:List Int}
theorem cD.u_ (h:cD a S W m Y G)(c:W.T.length<=10000)(d:W.rg.length<=1000)(b:W.wt.length<=1000):fQ W:=
 {
  iv:=⟨fun i hi hk=>by have:=oQ _ _ (h.hd i hi).1;omega,fun i hi v hv b=>(h.fv i hi v hv).t b,fun e he=>⟨(h.dB e he).h0,(h.dB e he).h⟩,h.tl⟩
  rv:=fun v hv b=>(h.rv v hv).t b
  gv:=fun e he=>⟨⟨(h.gv e he).g0,(h.gv e he).g⟩,(h.gv e he).h0,(h.gv e he).h⟩
  wg:=fun e he=>⟨(h.dB e he).g0,(h.dB e he).g⟩
  tl:=c,gl:=d,wl:=b}
theorem cD.iv (h:cD a S W m Y G):eX W.T W.wt:=
 ⟨fun i hi hk=>by have:=oQ _ _ (h.hd i hi).1;omega,fun i hi v hv b=>(h.fv i hi v hv).t b,fun e he=>⟨(h.dB e he).h0,(h.dB e he).h⟩,h.tl⟩
theorem cD.first (h:cD a S W m Y G)(mj:Bool):gH W.T (kh W.T W.rs mj):=
 ⟨Ah _ _ _,fun k hk=>by
  obtain⟨c,b⟩:=(kI _ _ _ _).1 hk;rcases b with⟨_,b,_⟩|⟨v,hv,d,e⟩
  ·exact⟨c,b⟩
  ·rw[<-e];exact((h.rv v hv).t d).2⟩
theorem cD.field (h:cD a S W m Y G){i:Nat}(hi:cz W.T i){v:Int×Int}(hv:v∈(W.T.getD i t0).2.1):∃k:Nat,k<(W.T.getD i t0).2.1.length/\(W.T.getD i t0).2.1.getD k (0,0)=v/\ld a.N S.s.y S.s.g S.s.ws (m i+1+k)=wv m v:=by
 obtain⟨k,hk,e⟩:=List.mem_iff_getElem.1 hv;have b:(W.T.getD i t0).2.1.getD k (0,0)=v:=by rw[aJ,aN hk,e];rfl
 exact⟨k,hk,b,by rw[h.fd i hi k hk,b]⟩
theorem cD.two (h:cD a S W m Y G){i:Nat}(hi:cz W.T i)(hk:(W.T.getD i t0).1=1\/(W.T.getD i t0).1=3\/(W.T.getD i t0).1=4):(W.T.getD i t0).2.1.length=2:=by have:=oQ _ _ (h.hd i hi).1;omega
end
structure lj (k:cj)(z:C0)(C:Int->Prop):Prop where
 old:∀b∈z.G,C b
 p:∀c,(c∈k.T\/c∈z.G)->C c->pk (k.l0 z c)=1\/pk (k.l0 z c)=2->∀i:Nat,(i:Int)<pf (k.l0 z c)->k.cP (k.l0 z (c+1+i))=true->C (cq (k.l0 z (c+1+i)))
 w:∀c,(c∈k.T\/c∈z.G)->C c->pk (k.l0 z c)=3->k.cP (k.l0 z (c+1+1))=true->C (cq (k.l0 z (c+1+1)))
 e:∀c,(c∈k.T\/c∈z.G)->C c->pk (k.l0 z c)=4->(k.cP (k.l0 z (c+1+0))=true->C (cq (k.l0 z (c+1+0))))->k.cP (k.l0 z (c+1+1))=true->C (cq (k.l0 z (c+1+1)))
def ll (k:cj)(C:Int->Prop)(q:List ce):Prop:=∀e∈q,(k.cP e.1=true->C (cq e.1))->k.cP e.2=true->C (cq e.2)
def dj (k:cj)(C:Int->Prop)(s:cr):Prop:=∀a∈k.T,s.f a≠-1->C a
section
variable {k:cj}{z:C0}{s t:cr}{H D:List Int}{C:Int->Prop}
theorem nP {x:Int}(h:k.cP x=true):cq x∈k.T:=by unfold cj.cP at h;simp at h;exact h.2
theorem mO {x:Int}(h:k.ls s x=true):k.cP x=true:=by unfold cj.ls at h;rw[bv] at h;exact h.1
theorem dj.br (h:dj k C s)(x:Int)(f:k.cP x=true->C (cq x)):dj k C (k.br s x).2:=by
 unfold cj.br;split
 ·rename_i c;intro b hb d;by_cases e:b=cq x
  ·rw[e];exact f (mO c)
  ·refine h b hb ?_;have g:(k.cp s (cq x)).f b=s.f b:=by unfold cj.cp gO;dsimp only;rw[aI e]
   have d:=d;rw[g] at d;exact d
 ·exact h
theorem dF.rQ (h:dF k z s H){a b i:Int}(ho:k.or z s a b)(c:0<=i)(d:i<pf (k.l0 z a))(hl:k.cP (k.ld s (b+1+i))=true):k.ld s (b+1+i)=k.l0 z (a+1+i):=by
 rcases h.fd a b ho i c d with e|⟨y1,f,g⟩
 ·exact e
 ·have hb:=h.je (h.fh _ (nP y1) f)
  have n1:=h.ci.hN';have j:=h.ci.hO;have l:=h.ci.hg;rw[g,nr h.ci hb.1 aa] at hl;cases hl
theorem dj.kf (h:dj k C s)(mi:dF k z s H){a b i:Int}(ho:k.or z s a b)(c:0<=i)(d:i<pf (k.l0 z a))(f:k.cP (k.l0 z (a+1+i))=true->C (cq (k.l0 z (a+1+i)))):dj k C (k.kf s (b+1+i)):=
 h.br _ (fun hy=>by have e:=mi.rQ ho c d hy;rw[e] at hy;rw[e];exact f hy)
theorem dj.gA (h:dj k C s)(mi:dF k z s H){a b:Int}(ho:k.or z s a b)(c:∀i:Nat,(i:Int)<pf (k.l0 z a)->k.cP (k.l0 z (a+1+i))=true->C (cq (k.l0 z (a+1+i)))):∀n:Nat,(n:Int)<=pf (k.l0 z a)->dj k C (k.gA s b n)
 |0,_=>h
 |n+1,hn=>by obtain⟨e,m1,d,_⟩:=mi.gA ho n aa;exact(dj.gA h mi ho c n aa).kf m1 (d.or ho) aa aa (c n aa)
theorem vo {a b:Int}(ho:k.or z s a b):a∈k.T\/a∈z.G:=by
 rcases ho with⟨e,h⟩|⟨h,_⟩
 ·simp_all
 ·exact aM h
theorem dj.or (h:dj k C s)(d:lj k z C){a b:Int}(ho:k.or z s a b):C a:=by
 rcases ho with⟨e,c⟩|⟨c,f,g⟩
 ·rw[e];exact d.old b c
 ·exact h a c ((f▸g))
theorem dj.lk (h:dj k C s)(mi:dF k z s H)(c:lj k z C){a b:Int}(ho:k.or z s a b):dj k C (k.lk s b):=by
 have ha:=h.or c ho;have hm:=vo ho;have e:=mi.hd a b ho;have hb:=mi.bd (mi.mem ho)
 have l:=dr (k.ld s b)
 unfold cj.lk;by_cases c1:pk (k.ld s b)=1\/pk (k.ld s b)=2
 ·rw[aK c1];exact h.gA mi ho (c.p a hm ha (by simp_all)) _ (by rw[<-e];omega)
 ·rw[aI c1];by_cases c3:pk (k.ld s b)=3
  ·rw[aK c3];have m:=iz hb.2.2 (aL (aM c3))
   have hN:=mi.ci.hN';have hO:=mi.ci.hO;have hg:=mi.ci.hg;have g:=mi.turn (s.wk++[b]) s.ep s.rs s.nx (fun x i=>by
    rcases List.mem_append.1 i with d|d
    ·exact mi.ci.iI x d
    ·rw[List.mem_singleton] at d;omega) mi.ci.il mi.ci.h7 mi.ci.jE
   have j:dj k C {s with wk:=s.wk++[b],ep:=s.ep,rs:=s.rs,nx:=s.nx}:=h;have f:=j.kf g ho aa (by simp_all) (c.w a hm ha ((e▸c3)))
   have ea:b+1+1=b+2:=aa;rw[ea] at f;exact f
  ·rw[aI c3];split
   ·exact h
   ·exact h
theorem dj.lb (b:lj k z C):∀(n:Nat){s:cr}{H:List Int},LI k z s H D->dj k C s->dj k C (k.lb n s)
 |0,_,_,_,h=>h
 |n+1,s,H,l,h=>by
  unfold cj.lb;cases hn:hB k.N s.g s.nx
  ·simp_all
  ·have hb:=jC hn;obtain⟨a,ho⟩:=l.mi.from (bj z.G (l.bo.resolve_right aa))
   obtain⟨c,m1,_,_⟩:=l.kT hn;exact dj.lb b n m1 (h.lk l.mi b ho)
theorem dj.key (h:dj k C s)(mi:dF k z s H){a b:Int}(ho:k.or z s a b)(c:0<pf (k.l0 z a))(hl:k.ls s (k.ld s (b+1))=false)(hy:k.cP (k.l0 z (a+1+0))=true):C (cq (k.l0 z (a+1+0))):=by
 refine h _ (nP hy) ?_;have d:b+1+0=b+1:=aa;rcases mi.fd a b ho 0 aa c with e|⟨y1,f,_⟩
 ·rw[d] at e;intro g;unfold cj.ls at hl;rw[e,hy,g] at hl;simp at hl
 ·exact f
theorem dj.qT (h:dj k C s)(l:LI k z s H D)(c:lj k z C){b:Int}(hb:b∈z.G++H)(f:pk (k.ld s b)=4)(d:k.ls s (k.ld s (b+1))=false):dj k C (k.kf (k.kf s (b+1)) (b+2)):=by
 obtain⟨a,o⟩:=l.mi.from hb;have n:=iz (l.mi.bd hb).2.2 (aL (aL f))
 have p:=l.mi.hd a b o;have g:b+1+0=b+1:=aa;have j:b+1+1=b+2:=aa;obtain⟨q,m1,m,_,_⟩:=l.mi.kf (i:=0) o aa (by simp_all)
 have e:=(h.kf l.mi o aa (by simp_all) (h.key l.mi o (by simp_all) d)).kf m1 (m.or o) aa (by simp_all) (c.e a (vo o) (h.or c o) (by simp_all) (h.key l.mi o (by simp_all) d))
 rw[g,j] at e;exact e
theorem dj.iK (c:lj k z C):∀(l left:List Int){s:cr}{H:List Int},LI k z s H D->(∀a∈l,a∈z.G++H/\pk (k.ld s a)=4)->dj k C s->dj k C (l.foldl k.cU (left,s)).2
 |[],_,_,_,_,_,h=>h
 |b::l,left,s,H,li,hl,h=>by
  rw[a9];cases hls:k.ls s _
  ·have d:k.cU (left,s) b=(left,k.kf (k.kf s (b+1)) (b+2)):=by unfold cj.cU;rw[aI (by rw[hls];simp)]
   rw[d];obtain⟨e,f⟩:=hl b ac;obtain⟨m,m1,g,i,n,o⟩:=li.qT e f;exact dj.iK c l left m1 (fun a ha=>by
    obtain⟨n1,j⟩:=hl a (aX _ ha)
    exact⟨zu i n1,(g.hd li.mi m1.mi n1▸j)⟩) (h.qT li c e f hls)
  ·have d:k.cU (left,s) b=(left++[b],s):=by unfold cj.cU;rw[aK hls]
   rw[d];exact dj.iK c l _ li (fun a ha=>hl a (aX _ ha)) h
theorem dj.kv (b:lj k z C)(l:LI k z s H D)(w:dQ k z s H)(h:dj k C s):dj k C (k.kv s).2:=dj.iK b s.ep [] l w.ep h
theorem dj.kD:∀(l:List Nat)(t:(cr×List ce)×Bool)(H:List Int),LI k z t.1.1 H D->dQ k z t.1.1 H->(∀i∈l,i<t.1.2.length)->ll k C t.1.2->dj k C t.1.1->dj k C (l.foldl (dE k.al k.br) t).1.1/\ll k C (l.foldl (dE k.al k.br) t).1.2
 |[],_,_,_,_,_,q,h=>⟨h,q⟩
 |i::l,t,H,li,w,hl,q,h=>by
  rw[a9];by_cases c:(k.al t.1.1 (t.1.2.getD i (0,0)).2||!k.al t.1.1 (t.1.2.getD i (0,0)).1)=true
  ·have b:dE k.al k.br t i=t:=by unfold dE;rw[aK c]
   rw[b];exact dj.kD l t H li w (fun j e=>hl j (aX _ e)) q h
  ·have b:dE k.al k.br t i=(((k.br t.1.1 (t.1.2.getD i (0,0)).2).2,t.1.2.set i ((t.1.2.getD i (0,0)).1,(k.br t.1.1 (t.1.2.getD i (0,0)).2).1)),true):=by unfold dE;rw[aI c]
   obtain⟨f,l1,w1,g,_⟩:=c_.br _ H li w;obtain⟨_,_,_,y1,_,_,_⟩:=li.mi.br _;have c2:k.al t.1.1 (t.1.2.getD i (0,0)).1=true:=by simp_all
   have hg:k.cP (t.1.2.getD i (0,0)).1=true->_:=fun hy=>h _ (nP hy) (fun d=>by unfold cj.al cj.ls at c2;rw[hy,d] at c2;simp at c2)
   rw[b];refine dj.kD l _ f l1 w1 (fun j e=>?_) ?_ (h.br _ (q _ (getD_in (hl i ac)) hg))
   ·simp_all
   ·intro d hd;have hd:=hd;rcases List.mem_or_eq_of_mem_set hd with hd|rfl
    ·exact q d hd
    ·intro _ hy;rw[y1] at hy;cases hy
theorem dj.wa {t:cr×List ce}(l:LI k z t.1 H D)(w:dQ k z t.1 H)(q:ll k C t.2)(h:dj k C t.1):dj k C (k.wa t).1.1/\ll k C (k.wa t).1.2:=
 dj.kD _ (t,false) H l w (fun _ hi=>List.mem_range.1 hi) q h
theorem dj.c9 (b:lj k z C):∀(n:Nat)(t:cr×List ce)(H:List Int),LI k z t.1 H D->dQ k z t.1 H->ll k C t.2->dj k C t.1->dj k C (k.c9 n t).1/\ll k C (k.c9 n t).2
 |0,_,_,_,_,q,h=>⟨h,q⟩
 |n+1,t,H,l,w,q,h=>by
  obtain⟨g,l1,w1,o,_⟩:=c_.lb (k.O+1) H l w;obtain⟨d,l2,c,p,_⟩:=c_.kv g l1 w1;have e:=dj.kv b l1 w1 (dj.lb b (k.O+1) l h)
  obtain⟨i,j,m,_,_⟩:=c_.wa ((k.kv _).2,t.2) d l2 c;obtain⟨f,q3⟩:=dj.wa (t:=((k.kv _).2,t.2)) l2 c q e;unfold cj.c9;split
  ·exact dj.c9 b n ((k.kv _).2,t.2) d l2 c q e
  ·split
   ·exact dj.c9 b n _ i j m q3 f
   ·exact⟨f,q3⟩
theorem dj.ke (b:lj k z C){t:cr×List ce}(l:LI k z t.1 H D)(w:dQ k z t.1 H)(q:ll k C t.2)(h:dj k C t.1)(x:Int)(c:k.cP x=true->C (cq x)):dj k C (k.ke t x).2.1/\ll k C (k.ke t x).2.2:=by obtain⟨d,l1,w1,_,_⟩:=c_.br x H l w;exact dj.c9 b _ ((k.br t.1 x).2,t.2) d l1 w1 q (h.br x c)
theorem dj.cO (l:LI k z s H D)(h:dj k C s)(hr:∀i,i<s.rs.length->k.cP (s.rs.getD i 0)=true->C (cq (s.rs.getD i 0))):∀n,n<=s.rs.length->dj k C (k.cO s n)
 |0,_=>h
 |n+1,hn=>by
  obtain⟨_,_,_,_,_,_,b,_⟩:=LI.cO l n aa;have:=(dj.cO l h hr n aa).br ((k.cO s n).rs.getD n 0) (((b n b7)▸hr n aa))
  exact this
theorem dj.lm (e:lj k z C)(c:Int)(M:List Int)(hz:eb (k.l0 z) ((k.N:Int)+z.g) k.N z.G):∀(l:List Int){s:cr}{H D:List Int},LI k z s H D->(∀a∈l,a∈z.G\/(k.N:Int)+z.g<=a)->dj k C s->dj k C (l.foldl (k.gB ((k.N:Int)+z.g) c M) s)
 |[],_,_,_,_,_,h=>h
 |b::l,s,H,D,li,hl,h=>by
  rw[a9];have i:=dr (k.ld s b)
  by_cases d:b∈z.G/\(gf k.N c b&&M.contains (cN k.N b))=true
  ·have hb:=(hz.mem b d.1).2.1;have f:k.gB ((k.N:Int)+z.g) c M s b=k.lk s b:=by unfold cj.gB;rw[aK (by rw[(li.mi.hd b b (aM ⟨rfl,d.1⟩))];omega),aK d.2]
   rw[f];obtain⟨j,m1,m,⟨n,o⟩⟩:=li.lk d.1;exact dj.lm e c M hz l m1 (fun a ha=>hl a (aX _ ha)) (h.lk li.mi e (aM ⟨rfl,d.1⟩))
  ·have f:k.gB ((k.N:Int)+z.g) c M s b=s:=by
    unfold cj.gB;by_cases g:b∈z.G
    ·simp_all
    ·have:=(hl b ac).resolve_left g;rw[aI aa]
   rw[f];exact dj.lm e c M hz l li (fun a ha=>hl a (aX _ ha)) h
end
section
variable {k:cj}{z:C0}{s t:cr}{H D:List Int}
theorem Bp (k:cj):∀(l left:List Int)(s:cr),left.length+l.length<=(l.foldl k.cU (left,s)).1.length->l.foldl k.cU (left,s)=(left++l,s)/\∀a∈l,k.ls s (k.ld s (a+1))=true
 |[],left,s,_=>⟨ac,fun a ha=>by cases ha⟩
 |b::l,left,s,h=>by
  rw[a9] at h⊢;cases hls:k.ls s _
  ·have c:k.cU (left,s) b=(left,k.kf (k.kf s (b+1)) (b+2)):=by unfold cj.cU;rw[aI (by rw[hls];simp)]
   rw[c] at h;have g:=(qU k l left (k.kf (k.kf s (b+1)) (b+2))).1;rw[List.length_cons] at h;omega
  ·have c:k.cU (left,s) b=(left++[b],s):=by unfold cj.cU;rw[aK hls]
   rw[c] at h⊢;obtain⟨e,f⟩:=Bp k l (left++[b]) s (by rw[a7,List.length_singleton];rw[List.length_cons] at h;omega)
   refine⟨by rw[e];simp,fun a ha=>?_⟩
   rcases List.mem_cons.1 ha with d|d
   ·rw[d];exact hls
   ·exact f a d
theorem KE (h:(k.kv s).1=false):(k.kv s).2=s/\∀a∈s.ep,k.ls s (k.ld s (a+1))=true:=by
 unfold cj.kv cj.dZ at h⊢;obtain⟨b,c⟩:=Bp k s.ep [] s (by simp_all)
 rw[b];exact⟨rfl,c⟩
theorem vp:∀(n:Nat)(t:cr×List ce)(H:List Int),LI k z t.1 H D->dQ k z t.1 H->eg k t.1->k.mu t.1<n->∀b∈(k.c9 n t).1.ep,k.ls (k.c9 n t).1 (k.ld (k.c9 n t).1 (b+1))=true
 |0,t,H,_,_,_,e=>absurd e aa
 |n+1,t,H,h,w,hb,e=>by
  obtain⟨u,l1,w1,_,_,v⟩:=LI.oA (k.O+1) h w;obtain⟨c1,c2,c3⟩:=CI.lb h.mi.ci hb (k.O+1)
  obtain⟨i,c,x,j⟩:=CI.kv c1 c2;obtain⟨d,l2,f,_,_⟩:=l1.kv w1;unfold cj.c9;cases hk:(k.kv _).1
  ·obtain⟨g1,g2⟩:=KE hk;obtain⟨B,l,F,N,m⟩:=CI.wa (s:=((k.kv _).2,t.2)) i c;cases hw:(k.wa ((k.kv _).2,t.2)).2
   ·rw[aI ac,ua k _ hw];rw[g1];exact g2
   ·obtain⟨o,p,q,_,_⟩:=c_.wa ((k.kv _).2,t.2) d l2 f;have g:=m hw;dsimp only at g;exact vp n _ o p q l aa
  ·rw[aK rfl];have g:=j hk;exact vp n ((k.kv _).2,t.2) d l2 f c (by dsimp only;omega)
structure fB (k:cj)(s:cr)(q0 q:List ce):Prop where
 len:q.length=q0.length
 eq:∀n,n<q0.length->(q.getD n (0,0)).1=(q0.getD n (0,0)).1/\k.ml s (q0.getD n (0,0)).2 (q.getD n (0,0)).2
theorem fB.refl (s:cr)(q:List ce):fB k s q q:=⟨rfl,fun _ _=>⟨rfl,aM rfl⟩⟩
theorem fB.jI {q0 q:List ce}(h:fB k s q0 q)(p:da k s t):fB k t q0 q:=⟨h.len,fun n hn=>⟨(h.eq n hn).1,p.ml (h.eq n hn).2⟩⟩
theorem fB.snoc {q0 q:List ce}(h:fB k s q0 q){e b:ce}(d:b.1=e.1)(f:k.ml s e.2 b.2):fB k s (q0++[e]) (q++[b]):=by
 refine⟨by simp[h.len],fun n hn=>?_⟩
 rw[a7,List.length_singleton] at hn;by_cases c:n<q0.length
 ·rw[nN _ _ _ _ c,nN _ _ _ _ ((h.len▸c))];exact h.eq n c
 ·have en:n=q0.length:=aa;subst en;rw[vk,<-h.len,vk];exact⟨d,f⟩
theorem fB.kY {q0:List ce}:∀(l:List Nat)(t:(cr×List ce)×Bool)(H:List Int),LI k z t.1.1 H D->dQ k z t.1.1 H->(∀i∈l,i<t.1.2.length)->fB k t.1.1 q0 t.1.2->fB k (l.foldl (dE k.al k.br) t).1.1 q0 (l.foldl (dE k.al k.br) t).1.2
 |[],_,_,_,_,_,e=>e
 |i::l,t,H,h,w,hl,e=>by
  rw[a9];by_cases c:(k.al t.1.1 (t.1.2.getD i (0,0)).2||!k.al t.1.1 (t.1.2.getD i (0,0)).1)=true
  ·have b:dE k.al k.br t i=t:=by unfold dE;rw[aK c]
   rw[b];exact fB.kY l t H h w (fun j d=>hl j (aX _ d)) e
  ·have b:dE k.al k.br t i=(((k.br t.1.1 (t.1.2.getD i (0,0)).2).2,t.1.2.set i ((t.1.2.getD i (0,0)).1,(k.br t.1.1 (t.1.2.getD i (0,0)).2).1)),true):=by unfold dE;rw[aI c]
   obtain⟨f,l1,w1,g,_⟩:=c_.br _ H h w;obtain⟨_,_,_,_,_,m1,_⟩:=h.mi.br _;rw[b];refine fB.kY l _ f l1 w1 (fun j d=>?_) ⟨?_,fun n hn=>?_⟩
   ·simp_all
   ·show(t.1.2.set i _).length=_;rw[bf];exact e.len
   ·rw[vh _ _ _ _ _ (hl i ac)];by_cases en:i=n
    ·rw[aK en];subst en;exact⟨(e.eq i hn).1,m1 _ (e.eq i hn).2⟩
    ·rw[aI en];exact⟨(e.eq n hn).1,g.ml (e.eq n hn).2⟩
theorem fB.wa {q0:List ce}{t:cr×List ce}(h:LI k z t.1 H D)(w:dQ k z t.1 H)(e:fB k t.1 q0 t.2):fB k (k.wa t).1.1 q0 (k.wa t).1.2:=
 fB.kY _ (t,false) H h w (fun _ hi=>List.mem_range.1 hi) e
theorem fB.c9 {q0:List ce}:∀(n:Nat)(t:cr×List ce)(H:List Int),LI k z t.1 H D->dQ k z t.1 H->fB k t.1 q0 t.2->fB k (k.c9 n t).1 q0 (k.c9 n t).2
 |0,_,_,_,_,e=>e
 |n+1,t,H,h,w,e=>by
  obtain⟨g,l1,w1,i,_⟩:=c_.lb (k.O+1) H h w;obtain⟨c,l2,b,j,_⟩:=c_.kv g l1 w1;have d:=e.jI (i.trans j)
  obtain⟨l,m,o,_,_⟩:=c_.wa ((k.kv _).2,t.2) c l2 b;have f:=fB.wa (t:=((k.kv _).2,t.2)) l2 b d;unfold cj.c9;split
  ·exact fB.c9 n ((k.kv _).2,t.2) c l2 b d
  ·split
   ·exact fB.c9 n _ l m o f
   ·exact f
structure lq (k:cj)(z:C0)(D:List Int)(q0:List ce)(t:cr×List ce):Prop where
 li:∃H,LI k z t.1 H D/\dQ k z t.1 H
 cb:eg k t.1
 wq:uj k t.1 t.2
 he:hB k.N t.1.g t.1.nx=false
 ep:∀b∈t.1.ep,k.ls t.1 (k.ld t.1 (b+1))=true
 q:fB k t.1 q0 t.2
theorem lq.sp {q0:List ce}{t:cr×List ce}(h:LI k z t.1 H D)(w:dQ k z t.1 H)(hb:eg k t.1)(e:fB k t.1 q0 t.2):lq k z D q0 (k.sp t)/\da k t.1 (k.sp t).1:=by obtain⟨K,m1,b,c,_⟩:=c_.sp t H h w;exact⟨⟨⟨K,m1,b⟩,(pA _ t h.mi.ci hb).2,rd _ t H h w hb aa,qV _ t H h w hb aa,vp _ t H h w hb aa,fB.c9 _ t H h w e⟩,c⟩
theorem lq.ke {q0:List ce}{t:cr×List ce}(h:lq k z D q0 t)(x:Int):lq k z D q0 (k.ke t x).2/\da k t.1 (k.ke t x).2.1/\(∀b,k.ml t.1 b x->k.ml (k.ke t x).2.1 b (k.ke t x).1)/\k.cP (k.ke t x).1=false/\k.al (k.ke t x).2.1 x=true:=by
 obtain⟨H,l,w⟩:=h.li;obtain⟨n,l1,w1,e,_⟩:=c_.br x H l w;obtain⟨_,_,_,y1,_,m1,g,_⟩:=l.mi.br x;obtain⟨_,i,j,f⟩:=mx k t.1 x;have hb:eg k (k.br t.1 x).2:=⟨by rw[i,f];exact h.cb.wk,by rw[j,f];exact h.cb.ep⟩
 obtain⟨m,d⟩:=lq.sp (t:=((k.br t.1 x).2,t.2)) l1 w1 hb (h.q.jI e)
 refine⟨m,e.trans d,fun b hm=>d.ml (m1 b hm),y1,pG d ?_⟩
 unfold cj.al cj.ls;cases c:k.cP x
 ·rfl
 ·simpa using g c
end
end Go.Proofs.YtpkjkjhanlbcoaaGreat
