import Derived.Test.YtpkjkjhanlbcoaaGreatJ06
namespace Go.Proofs.YtpkjkjhanlbcoaaGreat
set_option maxRecDepth 100000
set_option maxHeartbeats 4000000
open Tryz
open Go.RowKit W Kp ck
theorem qz {P:Prop}(h:P:=by unfold cv.full at hf;have:=of_decide_eq_false hf;omega):P:=h
structure Wc where
 pw:Nat
 p:Nat
 q:Nat
 pc:Nat
 sd:Nat
 nb:Nat
 N:Nat
 O:Nat
structure ej where
 y:Nat
 g:Nat
 ws:List Int
 M:List Int
 rs:List Int
structure dT (a:Wc)(own:Nat->Nat)(s:ej)(cT:Nat)(w:az):Prop where
 ar:At w a.p a.q a.N a.O s.y s.g s.ws
 a1:own a.p=1
 a2:own a.q=1
 cd:Cd w a.pc cT a.N (dJ a.O) s.M
 c1:own a.pc=2
 c2:own cT=2
 wd:w.heap[a.pw]?=some (.cells #[aq a.p,aq a.pc,aq a.sd,.slice (au a.nb) 12 12] 55 (0,0))
 w1:own a.pw=3
 rt:w.heap[a.nb]?=some (.cells (s.rs.map (Value.int .i64)).toArray 2 (0,0))
 rl:s.rs.length=12
 r1:own a.nb=4
 le:∀b,own b<=4
 lt:∀b,own b≠0->b<w.heap.size
theorem dT.keep {a:Wc}{own:Nat->Nat}{s:ej}{cT:Nat}{w w':az}(h:dT a own s cT w)(hs:w.heap.size<=w'.heap.size)(hk:∀b,own b≠0->w'.heap[b]?=w.heap[b]?):dT a own s cT w':=
 {
  ar:=h.ar.same (by grind [a1]) (by grind [a2]),a1:=h.a1,a2:=h.a2
  cd:=h.cd.same (by grind [c1]) (by grind [c2]),c1:=h.c1,c2:=h.c2
  wd:=(by grind [w1,wd]),w1:=h.w1
  rt:=(by grind [r1,rt]),rl:=h.rl,r1:=h.r1,le:=h.le,lt:=fun b hb=>aO (h.lt b hb) hs}
def ed (a:Wc):dx ej where
 J F s w:=∃own cT,dT a own s cT w/\∀b,F b↔own b≠0
 lt:=by rintro F s w ⟨own,cT,h,c⟩ b hb;exact h.lt b ((c b).1 hb)
 keep:=by rintro F s w w' ⟨own,cT,h,c⟩ hs hk;exact⟨own,cT,h.keep hs (fun b hb=>hk b ((c b).2 hb)),c⟩
section
variable {a:Wc}{F:Nat->Prop}{s:ej}{w:az}
theorem kU (h:(ed a).J F s w):At w a.p a.q a.N a.O s.y s.g s.ws/\∀w' y g ws,At w' a.p a.q a.N a.O y g ws->dh a.p a.q w w'->(ed a).J F {s with y:=y,g:=g,ws:=ws} w'/\cg F w F w':=by
 obtain⟨own,cT,h,d⟩:=h;refine⟨h.ar,fun w' y g ws ha c=>⟨⟨own,cT,?_,d⟩,⟨⟨c.os,c.tape,c.output,c.size,fun b hb hn=>(by grind [dh.block,dT.a1,dT.a2])⟩,fun _ h=>aM h⟩⟩⟩
 have hb:∀b,b<w.heap.size->own b≠1->_=_:=fun b hb hn=>c.block b hb (fun e=>hn (by rw[e];exact h.a1)) (fun e=>hn (by rw[e];exact h.a2))
 exact {
  ar:=ha,a1:=h.a1,a2:=h.a2,c1:=h.c1,c2:=h.c2,w1:=h.w1,rl:=h.rl,r1:=h.r1,le:=h.le,lt:=fun b hb=>aO (h.lt b hb) c.size
  cd:=h.cd.same (hb _ h.cd.e5 (by grind [dT.c1])) (hb _ h.cd.e7 (by grind [dT.c2]))
  wd:=(by grind [dT.wd,dT.w1])
  rt:=(by grind [dT.rt,dT.r1])}
theorem ya (h:(ed a).J F s w)(i:Nat)(x:Int):(ed a).J F {s with rs:=s.rs.set i x} (w.setCell ⟨a.nb,i,none⟩ (.int .i64 x))/\cg F w F (w.setCell ⟨a.nb,i,none⟩ (.int .i64 x)):=by
 obtain⟨own,cT,h,c⟩:=h;have fr:Fr (fun b=>b=a.nb) w (w.setCell ⟨a.nb,i,none⟩ (.int .i64 x)):=(by grind [Fr.set,Fr.refl])
 refine⟨⟨own,cT,?_,c⟩,⟨(by grind [Fr.mono,dT.r1]),fun _ h=>aM h⟩⟩
 have hb:∀b,b<w.heap.size->own b≠4->_=_:=fun b hb hn=>fr.block b hb (fun e=>hn (by rw[e];exact h.r1))
 exact {
  a1:=h.a1,a2:=h.a2,c1:=h.c1,c2:=h.c2,w1:=h.w1,r1:=h.r1,le:=h.le,lt:=fun b hb=>aO (h.lt b hb) fr.size
  rl:=by grind [dT.rl]
  ar:=h.ar.same (hb _ h.ar.e5 (by grind [dT.a1])) (hb _ h.ar.e7 (by grind [dT.a2]))
  cd:=h.cd.same (hb _ h.cd.e5 (by grind [dT.c1])) (hb _ h.cd.e7 (by grind [dT.c2]))
  wd:=(by grind [dT.wd,dT.w1])
  rt:=by simp only [World.setCell,Array.getElem?_modify,if_true,h.rt,Option.map_some];simp[List.map_set]}
theorem yb (h:(ed a).J F s w):∃cT,Cd w a.pc cT a.N (dJ a.O) s.M/\∀w' c M,Cd w' a.pc c a.N (dJ a.O) M->dh a.pc cT w w'->(c=cT\/w.heap.size<=c)->∃g,(ed a).J g {s with M:=M} w'/\cg F w g w':=by
 obtain⟨own,cT,h,i⟩:=h;refine⟨cT,h.cd,fun w' c M hc d hp=>⟨fun b=>F b\/b=c,⟨fun b=>if b=c then 2 else own b,c,?_,fun b=>?_⟩,⟨⟨d.os,d.tape,d.output,d.size,fun b hb hn=>(by grind [dh.block,dT.c1,dT.c2])⟩,fun b hb=>(by grind [dT.c2])⟩⟩⟩
 ·have hb:∀b,b<w.heap.size->own b≠2->_=_:=fun b hb hn=>d.block b hb (fun e=>hn (by rw[e];exact h.c1)) (fun e=>hn (by rw[e];exact h.c2))
  have f:∀b j,own b=j->j≠0->j≠2->(if b=c then 2 else own b)=j:=fun b j e h0 k=>by grind [dT.c2,dT.lt]
  exact {
   cd:=hc,a1:=f _ _ h.a1 ae ae,a2:=f _ _ h.a2 ae ae,w1:=f _ _ h.w1 ae ae,r1:=f _ _ h.r1 ae ae,c2:=by grind,c1:=by grind [dT.c1]
   rl:=h.rl
   ar:=h.ar.same (hb _ h.ar.e5 (by grind [dT.a1])) (hb _ h.ar.e7 (by grind [dT.a2]))
   wd:=(by grind [dT.wd,dT.w1])
   rt:=(by grind [dT.rt,dT.r1])
   le:=fun b=>by
    split
    ·decide
    ·exact h.le b
   lt:=fun b hb=>by
    by_cases e:b=c
    ·rw[e];exact hc.e7
    grind [dT.lt,dh.size,aO]}
 grind
theorem jZ (h:(ed a).J F s w):w.cell? (av a.pw 0)=some (aq a.p)/\w.cell? (av a.pw 1)=some (aq a.pc)/\w.cell? (av a.pw 2)=some (aq a.sd)/\w.cell? (av a.pw 3)=some (.slice (au a.nb) 12 12)/\a.pw<w.heap.size/\s.rs.length=12/\a.nb<w.heap.size/\∀i,i<12->w.cell? (av a.nb i)=some (ak (s.rs.getD i 0))/\w.frozen? (av a.nb i)=false:=by
 obtain⟨own,cT,h,c⟩:=h;have b:=h.wd;have hl:=h.rl;refine⟨by simp[World.cell?,b],by simp[World.cell?,b],by simp[World.cell?,b],by simp[World.cell?,b],lt_of_some b,hl,lt_of_some h.rt,fun i hi=>⟨?_,?_⟩⟩
 ·simp[World.cell?,h.rt,List.getElem?_map,List.getElem?_eq_getElem (show i<s.rs.length by omega),List.getD_eq_getElem?_getD]
 ·simp[World.frozen?,h.rt]
end
abbrev El (a:Wc):Obj:=.cells #[aq a.p,aq a.pc,aq a.sd,.slice (au a.nb) 12 12] 55 (0,0)
def qA (pk ct bx:Nat)(nx:Int)(a:Wc)(y g:Nat)(ws:List Int):dx (List Int) where
 J F U w:=(w.heap[pk]?=some (.cells #[aq a.pw,.map (some ct),ak nx,.slice none 0 0,.slice none 0 0] 167 (0,0))/\Mp w ct U (fun _=>-1)/\At w a.p a.q a.N a.O y g ws/\w.heap[a.pw]?=some (El a)/\w.heap[bx]?=some (.cells #[aq pk] 164 (0,0)))/\(ct≠pk/\ct≠a.pw/\ct≠a.p/\ct≠a.q/\ct≠bx)/\∀b,F b↔(b=pk\/b=ct\/b=a.pw\/b=a.p\/b=a.q\/b=bx)
 lt:=by
  rintro F U w ⟨⟨e,f,d,i,j⟩,_,c⟩ b hb;rcases(c b).1 hb with rfl|rfl|rfl|rfl|rfl|rfl
  ·exact lt_of_some e
  ·exact f.lt
  ·exact lt_of_some i
  ·exact d.e5
  ·exact d.e7
  ·exact lt_of_some j
 keep:=by rintro F U w w' ⟨⟨e,f,d,i,j⟩,hn,c⟩ hs hk;exact⟨⟨(hk _ ((c _).2 (aM rfl))).trans e,f.same (hk _ ((c _).2 (aL (aM rfl)))),d.same (hk _ ((c _).2 (aL (aL (aL (aM rfl)))))) (hk _ ((c _).2 (aL (aL (aL (aL (aM rfl))))))),(hk _ ((c _).2 (aL (aL (aM rfl))))).trans i,(hk _ ((c _).2 (aL (aL (aL (aL (aL rfl))))))).trans j⟩,hn,c⟩
theorem Em:dS 181:=gw func181 ah rfl
theorem Ep {pk ct bx:Nat}{nx:Int}{a:Wc}{y g:Nat}{ws:List Int}{F:Nat->Prop}{c:List Int}{w:az}(h:(qA pk ct bx nx a y g ws).J F c w)(v:Int)(v0:0<=v)(v1:v<=100000)(s:c.length<=100000):
 Calls prog 181 #[ak v,aq bx] w fun e w'=>∃d,e=.returned (.tuple #[])/\(qA pk ct bx nx a y g ws).J d (c++[v]) w'/\cg F w d w':=by
 obtain⟨⟨f,⟨D,o1,k,l⟩,m,n,i⟩,hn,o⟩:=h;have c1:w.cell? (av pk 1)=some (.map (some ct)):=aD f
 have t:w.cell? (av bx 0)=some (aq pk):=aD i
 go_wp2_with (first
  |(refine wpList_mapUpdate_own _ rfl _ _ _ 127 rfl 3 3 iY underlying127 _ ct c.length D rfl o1 (by unfold maxLen;omega) _ _ _ rfl rfl (jp (a:=v) v0 aa) _ [] (m9 (-1) ae) ?_;intro u p j)
  |go_in)
 go_end0;have hb:∀b,b<w.heap.size->b≠ct->_=_:=fun b hb q=>j.block b hb (by simpa using q)
 refine⟨rfl,F,⟨⟨(hb _ (by grind) aa).trans f,Mp.add (by assumption) k l rfl rfl p,m.same (by grind [At.e5]) (by grind [At.e7]),(hb _ (by grind) aa).trans n,(hb _ (by grind) aa).trans i⟩,hn,o⟩,⟨((Fr.refl _ w).grown j (by grind)),fun _ h=>aM h⟩⟩
def nc (N y g:Nat)(ws:List Int):List Int:=(eC N y g ws).filter (fun a=>decide (a+pf (ld N y g ws a)<y))
theorem yc (h:Int->Int)(e:Int):∀(l b:List Int),kw (fun _ a=>h a) (fun b a=>b++[a]) e b l=b++l.filter (fun a=>decide (a+h a<e))
 |[],b=>by simp[kw]
 |a::l,b=>by
  have c:=yc h e l;have d:kw (fun _ a=>h a) (fun b a=>b++[a]) e b (a::l)=kw (fun _ a=>h a) (fun b a=>b++[a]) e (jY (fun _ a=>h a) (fun b a=>b++[a]) e b a) l:=rfl
  grind [jY]
theorem Er {a:Wc}{F:Nat->Prop}{s:ej}{w:az}(h:(ed a).J F s w):
 Calls prog 106 #[aq a.pw] w fun e w'=>∃pk ct cT g,e=.returned (aq pk)/\(eh ⟨pk,ct,a.pw,a.p,a.q,a.pc,cT,a.sd,a.nb,dJ a.O,s.M⟩ ⟨a.N,a.O,s.y,nc a.N s.y s.g s.ws⟩).J g ⟨s.g,s.ws,fun _=>-1,(a.N:Int)+s.g,[],[],s.rs⟩ w'/\cg F w g w':=by
 have b6:=@run_makeMap prog;obtain⟨own,cT,hM,ab⟩:=h;have am:aA (dT a own s cT w/\∀b,F b↔own b≠0):=⟨hM,ab⟩
 have c0:w.cell? (av a.pw 0)=some (aq a.p):=by have an:=hM.wd;simp[World.cell?,an]
 have ao:=lt_of_some hM.wd;have f:=hM.ar;have n1:=f.hN';have b9:=f.hO;have bi:=f.hg;have n4:=f.hy;have ca:=f.hN;clear hM ab;go_enter func106,ntmps106;go_wp2_with fail;refine(kQ w f).mono ?_;rintro e w1 ⟨rfl,n⟩
 have c1:=(n.cell (p:=av a.pw 0) ao).trans c0;have ap:=f.below n aa;go_wp2_with fail;refine(mX w1 ap).mono ?_;rintro e c ⟨rfl,aB⟩
 have o:=n.trans (aB.mono n.size)
 have c2:=(o.cell (p:=av a.pw 0) ao).trans c0;have aF:=f.below o aa;have cc:=o.size;have l2:a.pw<c.heap.size:=aa;clear n aB ap c1;have q:Below c.heap.size c (((c.alloc (.map #[] 0)).alloc (.cells #[.pointer (some ⟨a.pw,0,none⟩),.map (some c.heap.size),.int .i64 ((a.N:Int)+s.g),.slice none 0 0,.slice none 0 0] 167)).alloc (.cells #[.pointer (some ⟨c.heap.size+1,0,none⟩)] 164)):=(((aH _ c).alloc aa _).alloc ac _).alloc (by simp;omega) _;have N:=aF.below q aa;have c3:=(q.cell (p:=av a.pw 0) l2).trans c2;have P:=qg _ N;obtain⟨W,k⟩:∃W,W=((c.alloc (.map #[] 0)).alloc (.cells #[.pointer (some ⟨a.pw,0,none⟩),.map (some c.heap.size),.int .i64 ((a.N:Int)+s.g),.slice none 0 0,.slice none 0 0] 167)).alloc (.cells #[.pointer (some ⟨c.heap.size+1,0,none⟩)] 164):=(by grind)
 have aR:aA (W.heap.size=c.heap.size+3/\Below c.heap.size c W/\Mp W c.heap.size [] (fun _=>-1)/\W.heap[c.heap.size+1]?=some (.cells #[aq a.pw,.map (some c.heap.size),ak ((a.N:Int)+s.g),.slice none 0 0,.slice none 0 0] 167 (0,0))/\W.heap[c.heap.size+2]?=some (.cells #[aq (c.heap.size+1)] 164 (0,0))/\At W a.p a.q a.N a.O s.y s.g s.ws):=by
  rw[<-k] at q N;refine⟨by simp_all,q,?_,?_,?_,N⟩
  ·have bl:=World.ownsMap_made c prog 3 (plainElem (H:=Unit) prog 3)
   refine Mp.same (w:=c.alloc (.map #[] 0)) ⟨_,bl,fun _=>rfl,fun a ha=>by grind⟩ ?_
   grind [aS,World.size_alloc]
  ·rw[k,aS _ _ _ ac];simpa using aP (c.alloc (.map #[] 0)) (.cells #[.pointer (some ⟨a.pw,0,none⟩),.map (some c.heap.size),.int .i64 ((a.N:Int)+s.g),.slice none 0 0,.slice none 0 0] 167)
  ·rw[k];simpa using aP ((c.alloc (.map #[] 0)).alloc (.cells #[.pointer (some ⟨a.pw,0,none⟩),.map (some c.heap.size),.int .i64 ((a.N:Int)+s.g),.slice none 0 0,.slice none 0 0] 167)) (.cells #[.pointer (some ⟨c.heap.size+1,0,none⟩)] 164)
 have aV:=hide k;rw[<-k] at P;clear q N k;go_wp2_with fail;rw[<-aV.o];refine P.mono ?_;clear P;rintro e l ⟨v1,v2,rfl,u,a0,d⟩
 obtain⟨bn,bo,rfl⟩:=eN u;obtain⟨ce,cf,rfl⟩:=eN a0;obtain⟨bp,v,a3,ba,ad,bb⟩:=aR.o;have ch:=d.size;have ci:l.cell? (av (c.heap.size+1+1) 0)=some (aq (c.heap.size+1)):=by have:=(d.block (c.heap.size+2) aa).trans ad;simp[World.cell?,this]
 have cj:c.heap.size+1+1<l.heap.size:=aa;have ck:(eC a.N s.y s.g s.ws).length<=2000:=iX _ _;have bd:∀x∈eC a.N s.y s.g s.ws,0<=x/\x<=2000:=fun x br=>by have:=oe x br;omega
 have ag:=am.o.1.ar;have np:=ag.e5;have nq:=ag.e7;have be:(qA (c.heap.size+1) c.heap.size (c.heap.size+2) ((a.N:Int)+s.g) a s.y s.g s.ws).J (fun b=>b=c.heap.size+1\/b=c.heap.size\/b=a.pw\/b=a.p\/b=a.q\/b=c.heap.size+2) [] l:=
  ⟨⟨(d.block _ aa).trans ba,a3.same (d.block _ aa),bb.below d aa,((d.block _ aa).trans (v.block _ l2)).trans (by grind [dT.wd,Below.block,Hid.out]),(d.block _ aa).trans ad⟩,⟨aa,aa,aa,aa,aa⟩,fun b=>Iff.rfl⟩
 have E:=x_ (qA (c.heap.size+1) c.heap.size (c.heap.size+2) ((a.N:Int)+s.g) a s.y s.g s.ws) (fun _ x=>pf (ld a.N s.y s.g s.ws x)) (fun ai x=>ai++[x]) (fun j ai=>ai.length<=j) (c.heap.size+1) a.pw a.p 181 #[aq (c.heap.size+1+1)] Em (eC a.N s.y s.g s.ws) bn bo s.y _ [] l
  (by
    rintro F t bg x ⟨⟨g1,g2,g3,g4,g5⟩,_⟩
    refine⟨by simp[World.cell?,g1],by simp[World.cell?,g4],(gy x bg g3).mono ?_⟩
    grind)
  (fun t x=>dr _) (by grind) aa
  (by
    rintro j F t bg bs B bt _;have hm:(eC a.N s.y s.g s.ws).getD j 0∈eC a.N s.y s.g s.ws:=by grind
    have hb:=bd _ hm;have B:=B;exact Ep bt _ hb.1 aa aa)
  (by
    intro j t bs B;have B:=B;show(jY _ _ _ _ _:List Int).length<=j+1;unfold jY
    grind)
  ac be (gX u)
  (fun hp z e=>by
    obtain⟨b,cap,bx⟩:=eT u hp;cases bx;cases e;have an:=(cu u b rfl).1
    grind)
 rw[yc (fun x=>pf (ld a.N s.y s.g s.ws x)) s.y (eC a.N s.y s.g s.ws) [],List.nil_append] at E;have b0:aA (∀b,b<c.heap.size->l.heap[b]?=c.heap[b]?):=fun b hb=>(by grind [Below.block])
 have i:=iT o (d.os.trans v.os) (d.tape.trans v.tape) (d.output.trans v.output)
 clear be u a0 bp v a3 ba ad bb aR aV d bd ag f aF o c0 c2;go_wp2_with fail;refine E.mono ?_;clear E;rintro e S ⟨cl,rfl,⟨⟨g1,g2,g3,g4,g5⟩,b1,b2⟩,al,_⟩
 have cm:S.cell? (av (c.heap.size+1+1) 0)=some (aq (c.heap.size+1)):=aD g5
 have cn:=lt_of_some g5;have b3:aA (∃g,(eh ⟨c.heap.size+1,c.heap.size,a.pw,a.p,a.q,a.pc,cT,a.sd,a.nb,dJ a.O,s.M⟩ ⟨a.N,a.O,s.y,nc a.N s.y s.g s.ws⟩).J g ⟨s.g,s.ws,fun _=>-1,(a.N:Int)+s.g,[],[],s.rs⟩ S/\cg F w g S):=by
  obtain⟨hM,ab⟩:=am.o;have keep:∀b,b<w.heap.size->own b≠1->own b≠3->S.heap[b]?=w.heap[b]?:=fun b hb n1 bi=>
   (al.fr.block b aa (by grind [dT.w1,dT.a1,dT.a2])).trans (by grind [Hid.out,Below.block])
  have co:=hM.lt;have lo:∀b,own b≠0->b≠c.heap.size+1/\b≠c.heap.size:=fun b hb=>by grind
  have m:∀b j,own b=j->j≠0->(if b=c.heap.size+1 then 5 else if b=c.heap.size then 6 else own b)=j:=fun b j e h0=>by grind
  refine⟨fun b=>F b\/b=c.heap.size+1\/b=c.heap.size,⟨.slice none 0 0,.slice none 0 0,fun b=>if b=c.heap.size+1 then 5 else if b=c.heap.size then 6 else own b,?_,fun b=>?_⟩,⟨?_,fun b hb=>?_⟩⟩
  ·exact {
    ar:=g3,a1:=m _ _ hM.a1 ae,a2:=m _ _ hM.a2 ae,c1:=m _ _ hM.c1 ae,c2:=m _ _ hM.c2 ae,w1:=m _ _ hM.w1 ae,r1:=m _ _ hM.r1 ae,rl:=hM.rl
    cd:=hM.cd.same (by grind [dT.c1]) (by grind [dT.c2])
    wd:=g4
    rt:=(by grind [dT.rt,dT.r1])
    cb:=g1
    k1:=by grind
    mp:=g2
    m1:=by grind
    wr:=bc _ _ _ _
    dB:=fun b e=>by simp[Value.ownBlock] at e
    er:=bc _ _ _ _
    eo:=fun b e=>by simp[Value.ownBlock] at e
    lt:=fun b hb=>by grind}
  ·grind
  ·have b4:Below w.heap.size w l:=⟨i.o.2.1.trans i.o.1.os,i.o.2.2.1.trans i.o.1.tape,i.o.2.2.2.trans i.o.1.output,aa,fun b hb=>(by grind [Hid.out,Below.block])⟩
   refine(Fr.of (X:=F) b4).trans al.fr (fun b cp=>?_)
   grind [dT.w1,dT.a1,dT.a2]
  grind
 clear g1 g2 g3 g4 g5 b1 b2 al b0 i;go_wp2_with fail;go_ret;obtain⟨g,b5,j2⟩:=b3.o;exact⟨_,_,_,g,rfl,b5,j2⟩
section
variable {hX:Type}{o:dx hX}{bx p:Nat}{x:Obj}{vr:Value}{F:Nat->Prop}{w w':az}
theorem qB {t:hX×List ce}(h:(df (dl o bx x) p vr).J F t w):(df o p vr).J (fun b=>F b/\b≠bx) t w/\w.heap[bx]?=some x/\F bx:=by obtain⟨m,ad,cap,⟨d,g1,g2,g3,g4⟩,f,g,i,j,k,n,q⟩:=h;have l:=(g4 bx).2 aa;exact⟨⟨d,ad,cap,g1,f,g,fun b hb=>(by grind),⟨j,fun e=>k (by simp_all)⟩,fun c=>(by grind),fun b e=>(by grind),fun b hb=>(by grind)⟩,g2,i _ l⟩
theorem jb {t:hX×List ce}(h:(df o p vr).J F t w):∃d,o.J d t.1 w/\∀{m:Type}(f:dx m) c g w',f.J c g w'->cg d w c w'->∃i,(df f p vr).J i (g,t.2) w'/\cg F w i w':=by
 obtain⟨d,ad,cap,n,j,q,s,u,v,x,B⟩:=h;refine⟨d,n,fun f c g w' l b=>?_⟩
 have lp:=lt_of_some j;refine⟨fun k=>F k\/c k,⟨c,ad,cap,l,(b.fr.block p lp v).trans j,cL q (fun k e=>b.fr.block k (by grind) (by grind)),fun k h=>aL h,aM u,fun h=>(by grind [cg.sub]),fun k e=>⟨aM (x k e).1,fun h=>(b.sub k h).elim (by grind) (by grind)⟩,fun k h=>?_⟩,b.fr.mono s,fun k h=>?_⟩
 ·rcases h with h|h
  ·exact aO (by grind) b.fr.size
  ·exact f.lt l k h
 ·rcases h with h|h
  ·grind
  ·exact(b.sub k h).imp (by grind) id
end
def Es (b:Type):dx b where
 J _ _ _:=False
 lt:=fun h=>h.elim
 keep:=fun h=>h.elim
def dU (b:Type):fT (b×List ce):=df (Es b) 0 (.slice none 0 0)
def cj.e_ (k:cj)(t:cr×List ce)(r:List ce):cr×List ce:=fE (dU cr) (fun s x=>k.al s.1 x) k.ke t r
def cj.sR (k:cj)(t:cr×List ce)(r:List ce):List ce:=eV (dU cr) (fun s x=>k.al s.1 x) k.ke (fun s x=>k.nw s.1 x) t r
def cj.jq (k:cj)(t:cr×List ce)(r:List ce):List ce:=eW (dU cr) (fun s x=>k.al s.1 x) k.ke (fun s x=>k.nw s.1 x) t r
theorem o9 {b:Type}(is:b->Int->Bool)(kp:b->Int->Int×b)(s:b×List ce):∀n,(gY is kp s n).1.2.length=s.2.length
 |0=>rfl
 |n+1=>by
  have e:gY is kp s (n+1)=dE is kp (gY is kp s n) n:=by simp[gY,List.range_succ]
  rw[e];have c:=o9 is kp s n
  grind [dE]
theorem o_ (k:cj):∀(n:Nat)(t:cr×List ce),(k.c9 n t).2.length=t.2.length
 |0,_=>rfl
 |n+1,t=>by
  unfold cj.c9;split
  ·exact o_ k n _
  ·split
   ·exact(o_ k n _).trans (o9 _ _ _ _)
   ·exact o9 _ _ _ _
theorem ti (k:cj)(t:cr×List ce)(x:Int):(k.ke t x).2.2.length=t.2.length:=o_ k _ _
section
variable {c:gF}{k:cj}{F:Nat->Prop}{s:cr}{w:az}{vr:Value}
theorem Eu (bx:Nat){g:Option Addr}{i j:Nat}(l:vr=.slice g i j):m3 (df (dl (hG c k) bx (ja c)) c.sd vr) (fun _=>True) (na c).f (na c).b (na c).c k.ke:=by
 intro F t w x _ hn m;have hn:(k.ke t x).2.2.length<=90000:=hn;obtain⟨n,f,s⟩:=qB m;rw[ti] at hn;refine(Eg l n hn x).mono ?_;rintro r w' ⟨o,rfl,hM,e⟩
 have p:=lt_of_some f;have q:_:=fun d=>(e.sub bx d).elim (fun d=>d.2 rfl) (fun d=>by omega)
 refine⟨fun b=>o b\/b=bx,rfl,ks hM ((e.fr.block bx p (fun d=>d.2 rfl)).trans f) q,e.fr.mono (by grind),fun b d=>?_⟩
 rcases d with d|d
 ·exact(e.sub b d).imp (fun d=>d.1) id
 ·simp_all
theorem Ev (bx:Nat){e:Option Addr}{f g:Nat}(i:vr=.slice e f g):l6 (df (dl (hG c k) bx (ja c)) c.sd vr) (fun _=>True) (kt bx) (na c) (lH c) (fun s x=>k.al s.1 x) k.ke (fun s x=>k.nw s.1 x) where
 ea:=xW
 fU:=Eb
 en:=xX
 ha:=by
  rintro F s w x _ ⟨b,ad,cap,d,_⟩
  exact xZ bx b s.1 w x trivial d
 hk:=Eu bx i
 ht:=by
  rintro F s w x _ ⟨b,ad,cap,d,_⟩
  exact mc x0 b s.1 w x trivial d
 hl:=fun s x=>ti k s x
theorem Ew {m:Option Addr}{n:Nat}{r:List ce}(o:vr=.slice m r.length n){t:cr×List ce}(h:(df (hG c k) c.sd vr).J F t w)(hr:w.ownsRow 0 103 2 vr r.length (ev r))(hq:t.2.length+r.length<=90000)(bx:Nat)(p:w.heap[bx]?=some (ja c))(hn:¬F bx):
 Calls prog 78 #[aq c.sd,.agg #[(kt bx).v,(na c).v,(lH c).v]] w fun e w'=>∃a1 c1 i,e=.returned (.tuple #[])/\(df (hG c k) c.sd (.slice a1 (k.sR t r).length c1)).J i ((k.e_ t r).1,k.jq t r) w'/\
  w'.ownsRow 0 103 2 (.slice a1 (k.sR t r).length c1) (k.sR t r).length (ev (k.sR t r))/\(∀b,some b=(Value.slice a1 (k.sR t r).length c1).ownBlock->¬i b/\w.heap.size<=b)/\Fr (fun b=>F b\/b=bx) w w'/\(∀b,i b->F b\/w.heap.size<=b):=by
 subst o;refine(ql _ (fun _=>True) (kt bx) (na c) (lH c) _ _ _ (Ev bx rfl) r m n rfl aa (by grind) _ t w (by grind) hq (ks h p hn) (hZ hr)).mono ?_;rintro e w' ⟨a1,c1,a2,c2,q,W,rfl,⟨ab,ad,cap,⟨g,g1,g2,g3,g4⟩,ag,ai,al,am,s,an,ao⟩,q3,u,j,f,l,v,ap,x,ar,B⟩
 have j:w'.heap[c.sd]?=some (.cells #[.slice a1 (k.sR t r).length c1,.slice a2 (k.jq t r).length c2] 153 (0,0)):=j;have f:=f;have l:=l;have aB:∀b,g b->q b:=fun b hb=>(by grind)
 have N:∀b,g b->b≠c.sd:=fun b hb e=>s (by simp_all)
 have S:=(hG c k).keep (w':=w') g1 u (fun b hb=>q3 b (by grind) (N b hb))
 have aF:F c.sd:=by obtain⟨_,_,_,_,_,_,_,aR,_⟩:=h;omega
 refine⟨a1,c1,fun b=>g b\/b=c.sd\/some b=(Value.slice a2 (k.jq t r).length c2).ownBlock,rfl,⟨g,a2,c2,S,j,e8 l aa,fun b hb=>(by grind),aL (aM rfl),fun d=>(by grind),fun b e=>(by grind),fun b hb=>?_⟩,e8 f aa,fun b e=>⟨fun d=>?_,(cu f b e).1⟩,v,fun b hb=>?_⟩
 ·grind [cu]
 ·rcases d with d|d|d
  ·exact x b e (by grind)
  ·obtain⟨aV,hc⟩:=fp f b e
   grind
  ·exact B b e d
 grind [cu]
end
theorem Ex {pk ct cT y:Nat}{a:Wc}{M T:List Int}{F:Nat->Prop}{s:cr}{w:az}(h:(eh ⟨pk,ct,a.pw,a.p,a.q,a.pc,cT,a.sd,a.nb,dJ a.O,M⟩ ⟨a.N,a.O,y,T⟩).J F s w):∃d,(ed a).J d ⟨y,s.g,s.ws,M,s.rs⟩ w/\(∀b,d b->F b)/\¬d pk:=by
 obtain⟨cK,f,own,h,g⟩:=h;have c:∀b j,own b=j->j<=4->(if own b<=4 then own b else 0)=j:=fun b j e i=>by simp_all
 refine⟨fun b=>(if own b<=4 then own b else 0)≠0,⟨fun b=>if own b<=4 then own b else 0,cT,?_,fun b=>Iff.rfl⟩,fun b hb=>(by grind),fun hb=>hb ?_⟩
 ·exact {
   ar:=h.ar,a1:=c _ _ h.a1 ae,a2:=c _ _ h.a2 ae,cd:=h.cd,c1:=c _ _ h.c1 ae,c2:=c _ _ h.c2 ae,wd:=h.wd,w1:=c _ _ h.w1 ae,rt:=h.rt,rl:=h.rl,r1:=c _ _ h.r1 ae
   le:=fun b=>by grind
   lt:=fun b hb=>h.lt b (by grind)}
 ·have:=h.k1
  grind
structure cv where
 s:ej
 r:List ce
 q:List ce
def fW (a:Wc):dx cv where
 J F S w:=∃d ar c,(df (ed a) a.sd (.slice ar S.r.length c)).J d (S.s,S.q) w/\w.ownsRow 0 103 2 (.slice ar S.r.length c) S.r.length (ev S.r)/\(∀b,some b=(Value.slice ar S.r.length c).ownBlock->¬d b)/\∀b,F b↔(d b\/some b=(Value.slice ar S.r.length c).ownBlock)
 lt:=by
  rintro F S w ⟨d,ar,c,g,i,j,f⟩ b hb;rcases(f b).1 hb with hb|hb
  ·exact(df (ed a) a.sd (.slice ar S.r.length c)).lt g b hb
  ·exact(cu i b hb).2
 keep:=by rintro F S w w' ⟨d,ar,c,g,i,j,f⟩ hs hk;exact⟨d,ar,c,(df (ed a) a.sd (.slice ar S.r.length c)).keep g hs (fun b hb=>hk b ((f b).2 (aM hb))),cL i (fun b e=>hk b ((f b).2 (aL e))),j,f⟩
section
variable {N y g:Nat}{ws:List Int}{hi:Int}
theorem qC:∀(k:Nat)(a:Int),(eJ N y g ws hi k a).Nodup
 |0,a=>by exact List.nodup_nil
 |k+1,a=>by
  unfold eJ;split
  ·split
   ·rw[List.nodup_cons];refine⟨fun h=>?_,qC k _⟩
    have b:=(m0 k _ _ h).1;have c:=dr (ld N y g ws a)
    omega
   ·exact List.nodup_nil
  ·exact List.nodup_nil
theorem yd:∀(k:Nat)(a x:Int),x∈eJ N y g ws hi k a->pc (ld N y g ws x)=0
 |0,a,x,h=>by simp[eJ] at h
 |k+1,a,x,h=>by
  unfold eJ at h;split at h
  ·split at h
   ·rcases List.mem_cons.1 h with h|h
    ·rw[h];assumption
    ·exact yd k _ x h
   ·simp at h
  ·simp at h
theorem ye:∀(k:Nat)(a:Int),(((eJ N y g ws y k a).filter (fun a=>decide (a+pf (ld N y g ws a)<y))).map (fun a=>1+(pf (ld N y g ws a)).toNat)).sum<=((y:Int)-a).toNat
 |0,a=>by simp[eJ]
 |k+1,a=>by
  unfold eJ;split
  ·split
   ·have b:=ye k (a+(1+pf (ld N y g ws a)))
    have d:=dr (ld N y g ws a)
    by_cases c:a+pf (ld N y g ws a)<y
    ·rw[List.filter_cons_of_pos (by simpa using c)];simp only [List.map_cons,List.sum_cons];omega
    ·rw[List.filter_cons_of_neg (by simpa using c)];omega
   ·simp
  ·simp
end
def ej.k0 (a:Wc)(s:ej):cj:=⟨a.N,a.O,s.y,nc a.N s.y s.g s.ws⟩
def ej.s0 (a:Wc)(s:ej):cr:=⟨s.g,s.ws,fun _=>-1,(a.N:Int)+s.g,[],[],s.rs⟩
theorem CI.start {a:Wc}{s:ej}(hN:16<=a.N)(hN':a.N<=256)(hO:a.O<=1024)(hy:s.y<=a.N)(hg:s.g<=a.O)(hl:s.ws.length=a.N+a.O)(hr:s.y<=a.O-s.g):CI (s.k0 a) (s.s0 a):=by
 have d:∀x∈nc a.N s.y s.g s.ws,x∈eC a.N s.y s.g s.ws/\x+pf (ld a.N s.y s.g s.ws x)<s.y:=fun x b=>by simpa[nc] using b
 refine⟨hN,hN',hO,hy,hg,hl,fun x b=>?_,(qC 2000 0).filter _,?_,?_,?_,by simp[ej.s0],by simp[ej.s0],?_⟩
 ·obtain⟨c,i⟩:=d x b;exact⟨(oe x c).1,yd _ _ _ c,by show x+1+pf (ld a.N s.y s.g s.ws x)<=s.y;omega⟩
 ·have c:=ye (N:=a.N) (y:=s.y) (g:=s.g) (ws:=s.ws) 2000 0;have e:(s.k0 a).sz (s.s0 a)=(((eJ a.N s.y s.g s.ws s.y 2000 0).filter (fun x=>decide (x+pf (ld a.N s.y s.g s.ws x)<s.y))).map (fun x=>1+(pf (ld a.N s.y s.g s.ws x)).toNat)).sum:=by
   unfold cj.sz;have f:(s.k0 a).T.filter (fun x=>(s.s0 a).f x==-1)=(s.k0 a).T:=List.filter_eq_self.2 (fun _ _=>rfl)
   rw[f];rfl
  show _<=a.O-s.g;omega
 ·show(a.N:Int)<=(a.N:Int)+s.g;omega
 ·show(a.N:Int)+s.g<=(a.N:Int)+a.O+13;omega
 ·exact aU (bA _ _) (iX _ _)
def ej.s1 (a:Wc)(s:ej):cr:=(s.k0 a).cO (s.s0 a) 12
def ej.s2 (a:Wc)(s:ej):cr:=(s.k0 a).lm (dJ a.O) s.M (s.s1 a) (dH a.N s.y (s.s1 a).g (s.s1 a).ws)
def cv.t3 (a:Wc)(S:cv):cr×List ce:=(S.s.k0 a).sp (S.s.s2 a,S.q)
def cv.s4 (a:Wc)(S:cv):cr:=((S.s.k0 a).e_ (S.t3 a) S.r).1
def cv.s5 (a:Wc)(S:cv):cr:=(S.s.k0 a).mw (S.s4 a) (S.s4 a).wk
def cv.s6 (a:Wc)(S:cv):cr:=(S.s.k0 a).be (S.s5 a) (S.s5 a).ep
def cv.full (a:Wc)(S:cv):Bool:=decide (a.O-S.s.g<S.s.y)
def cv.cut (a:Wc)(S:cv):cv:=if S.full a=true then S else⟨⟨0,(S.s6 a).g,(S.s6 a).ws,[],(S.s6 a).rs⟩,(S.s.k0 a).sR (S.t3 a) S.r,(S.s.k0 a).jq (S.t3 a) S.r⟩
def cv.code (a:Wc)(S:cv):Int:=if S.full a=true then 3 else 0
section
variable {c:gF}{k:cj}{F:Nat->Prop}{s:cr}{w:az}
theorem Ey (h:(eh c k).J F s w)(m:CI k s)(hl:s.ep.length<=10000):
 Calls prog 113 #[aq c.pk] w fun e w'=>e=.returned (.tuple #[])/\(eh c k).J F (k.be s s.ep) w'/\cg F w F w':=by
 obtain⟨cK,bg,h⟩:=h;obtain⟨c0,_,_,_,c4,c5,_,_,_,ap,_,er,_,lk,_⟩:=ei h;obtain⟨ad,cap,rfl⟩:=eN er;have ar:=hide m;have aB:=hide m.il;have bi:(0:Int)<=k.N:=aa;clear m ap;go_enter func113,ntmps113;go_wp2_with fail
 go_loopw [9] (fun iv wr=>∃(j:Nat)(s1:cr),j<=s.ep.length/\iv=ak j/\aA (k.be s (s.ep.take j)=s1)/\(cutV c k cK (.slice ad s.ep.length cap)).J F s1 wr/\cg F w F wr/\aA (CI k s1/\d7 k s s1)) (fun iv _=>s.ep.length-(intOf iv).toNat)
 exact⟨0,s,a4 _,rfl,rfl,h,cg.refl _ _,⟨ar.o,d7.refl _ _⟩⟩
 ·
   obtain⟨j,s1,bl,rfl,n,d,o,p⟩:=hrel;obtain⟨bn,_,_,_,aF,bo,_,_,_,aR,_,q,_,bp,_⟩:=ei d;have aV:=p.o.2.ep;rw[aV] at q;by_cases g:j<s.ep.length
   ·obtain⟨t,u,a0,br,hc⟩:=gX q aa;have a1:=hc j g;subst a0;have N:s.ep.getD j 0∈s.ep:=by rw[aJ,aN g];exact a8 g
    have S:=aB.o _ N;have v:aA (k.be s (s.ep.take (j+1))=k.gP s1 (s.ep.getD j 0)):=by
     show _=_;rw[gL s.ep j g 0];unfold cj.be;rw[List.foldl_append];have:=n.o;unfold cj.be at this
     rw[this];rfl
    generalize s.ep.getD j 0=a at a1 S v;have W:aA (CI k (k.gP s1 a)/\d7 k s (k.gP s1 a)):=by obtain⟨a2,a3⟩:=p.o.1.gP S.1;exact⟨a2,p.o.2.trans a3⟩
    have ab:aA (k.gP s1 a=k.st (k.st s1 (a+1) 3) (a+2) 3):=rfl;generalize k.gP s1 a=ag at v W ab;have ba:=c7 d o;have i:=(iZ ((cutV c k cK (.slice (some ⟨t,u,none⟩) s.ep.length cap)).below d (aH _ wr).drew))
    have f:aA (_):=i;have bs:IntKind.i64.wrap (a+1)=a+1:=by rw[bu];omega
    have bt:IntKind.i64.wrap (a+2)=a+2:=by rw[bu];omega
    clear hc N d o i aR q aF;go_wp2_with fail
    go_region_held3 (fun w'=>w'.cell? (av c.pk 0)=some (aq c.pw)/\w'.cell? (av c.pw 0)=some (aq c.p)) (go_keep)
     (first
       |(go_at_call 191;refine(nW _).mono ?_;rintro e bb ⟨rfl,b⟩;have b:=b.symm;subst b)
       |(go_at_call 93;refine(lx (a+1) 3 wr.drew f.o.1).mono ?_;rintro e l ⟨rfl,x,B⟩;obtain⟨ai,bd⟩:=f.o.2 l _ _ x B;obtain⟨g0,_,_,_,_,g5,_⟩:=ei ai;have al:aA (_/\_):=⟨ai,(ba.o.2.below (aH _ wr).drew).trans bd⟩))
    have i:=(iZ ((cutV c k cK (.slice (some ⟨t,u,none⟩) s.ep.length cap)).below al.o.1 (aH _ l).drew))
    have f:aA (_):=i;go_wp2_with fail
    go_region_held3 (fun w'=>w'.cell? (av c.pk 0)=some (aq c.pw)/\w'.cell? (av c.pw 0)=some (aq c.p)) (go_keep)
     (first
       |(go_at_call 191;refine(nW _).mono ?_;rintro e bb ⟨rfl,b⟩;have b:=b.symm;subst b)
       |(go_at_call 93;refine(lx (a+2) 3 l.drew f.o.1).mono ?_;rintro e am ⟨rfl,x,B⟩;obtain⟨an,be⟩:=f.o.2 am _ _ x B;obtain⟨r0,_,_,_,_,bx,_⟩:=ei an;have ao:aA ((cutV c k cK (.slice (some ⟨t,u,none⟩) s.ep.length cap)).J F ag am/\_):=⟨(by rw[ab.o];exact an),(al.o.2.below (aH _ l).drew).trans be⟩))
    go_wp2_with fail;go_roundw
    case rel=>exact⟨j+1,ag,aa,aj,v,ao.o.1,ao.o.2,W⟩
    case measure=>simp[intOf];omega
   ·obtain rfl:j=s.ep.length:=aa;rw[bz] at n;go_wp2_with fail;go_end0;rw[n.o];exact⟨rfl,⟨_,_,d⟩,o⟩
theorem Ez (h:(eh c k).J F s w)(ap:CI k s)(hl:s.wk.length<=10000):
 Calls prog 112 #[aq c.pk] w fun e w'=>e=.returned (.tuple #[])/\(eh c k).J F (k.mw s s.wk) w'/\cg F w F w':=by
 obtain⟨cK,b,h⟩:=h;obtain⟨c0,_,_,c4,_,c5,_,_,_,bg,er,_,_,lk,_⟩:=ei h;obtain⟨ad,cap,rfl⟩:=eN er;have bi:aA (CI k s):=ap;have bl:aA (∀a∈s.wk,(k.N:Int)<=a/\a<=2000):=ap.iI;have b0:(0:Int)<=k.N:=aa;clear ap bg;go_enter func112,ntmps112;go_wp2_with fail
 go_loopw [10] (fun iv wr=>∃(j:Nat)(s1:cr),j<=s.wk.length/\iv=ak j/\aA (k.mw s (s.wk.take j)=s1)/\(cutV c k (.slice ad s.wk.length cap) b).J F s1 wr/\cg F w F wr/\aA (CI k s1/\d7 k s s1)) (fun iv _=>s.wk.length-(intOf iv).toNat)
 case atStart=>exact⟨0,s,a4 _,rfl,rfl,h,cg.refl _ _,⟨bi.o,d7.refl _ _⟩⟩
 case round=>
  obtain⟨j,s1,b1,rfl,ar,B,aB,aF⟩:=hrel;obtain⟨t,_,_,bn,_,u,_,_,_,bo,aR,_,_,b2,_⟩:=ei B;have bp:=aF.o.2.wk;rw[bp] at aR;by_cases am:j<s.wk.length
  ·obtain⟨d,f,br,b3,hc⟩:=gX aR aa;have aV:=hc j am;subst br;have ba:s.wk.getD j 0∈s.wk:=by rw[aJ,aN am];exact a8 am
   have bb:=bl.o _ ba;have N:aA (k.mw s (s.wk.take (j+1))=k.eO s1 (s.wk.getD j 0)):=by
    show _=_;rw[gL s.wk j am 0];unfold cj.mw;rw[List.foldl_append];have:=ar.o;unfold cj.mw at this
    rw[this];rfl
   generalize s.wk.getD j 0=a at aV bb N;have an:aA (CI k (k.eO s1 a)/\d7 k s (k.eO s1 a)):=by obtain⟨bs,bt⟩:=aF.o.1.eO bb.1;exact⟨bs,aF.o.2.trans bt⟩
   have b4:IntKind.i64.wrap (a+1)=a+1:=by rw[bu];omega
   obtain⟨bd,_⟩:=iZ B;have L:=jS (a+1) wr bd;have be:ld k.N k.y s1.g s1.ws (a+1)=k.ld s1 (a+1):=rfl;rw[be] at L;have m:aA ((cutV c k (.slice (some ⟨d,f,none⟩) s.wk.length cap) b).J F s1 wr/\cg F w F wr):=⟨B,aB⟩
   clear hc ba B aB bd be bo aR bn;cases hls:k.ls s1 (k.ld s1 (a+1))
   ·have v:aA (k.eO s1 a=k.st s1 (a+1) (k.nw s1 (k.ld s1 (a+1)))):=by show _=_;unfold cj.eO;rw[hls];rfl
    generalize k.eO s1 a=S at N an v;generalize k.ld s1 (a+1)=x at L hls v;go_wp2_with fail;refine L.mono ?_;clear L;rintro e w1 ⟨rfl,i⟩
    have P:=oh ((cutV c k (.slice (some ⟨d,f,none⟩) s.wk.length cap) b).below m.o.1 i) x;rw[hls] at P;clear aV t u;go_wp2_with fail;refine P.mono ?_;clear P;rintro e n ⟨rfl,W⟩
    have hb:=i.trans (W.mono i.size)
    have o:=(cutV c k (.slice (some ⟨d,f,none⟩) s.wk.length cap) b).below m.o.1 hb;obtain⟨t,_,_,_,_,u,_⟩:=ei o;have ao:aA ((cutV c k (.slice (some ⟨d,f,none⟩) s.wk.length cap) b).J F s1 n.drew/\cg F w F n.drew):=⟨(cutV c k (.slice (some ⟨d,f,none⟩) s.wk.length cap) b).below o (aH _ n).drew,(m.o.2.below hb).below (aH _ n).drew⟩
    clear i W o hb m;go_wp2_with fail
    go_region_held3 (fun w'=>w'.cell? (av c.pk 0)=some (aq c.pw)/\w'.cell? (av c.pw 0)=some (aq c.p)) (go_keep)
     (first
       |(go_at_call 190;refine(qs ao.o.1 x).mono ?_;rintro e bx ⟨rfl,a0⟩;have a1:=(cutV c k (.slice (some ⟨d,f,none⟩) s.wk.length cap) b).below ao.o.1 a0;obtain⟨g0,_,_,_,_,g5,_⟩:=ei a1;obtain⟨g,ab⟩:=iZ a1;have l:aA (_/\_/\_):=⟨g,ab,ao.o.2.below a0⟩;clear a0 a1 g ab ao)
       |(go_at_call 93;refine(lx (a+1) (k.nw s1 x) bx l.o.1).mono ?_;rintro e p ⟨rfl,g,ag⟩;obtain⟨q,ai⟩:=l.o.2.1 p _ _ g ag;obtain⟨r0,_,_,_,_,a2,_⟩:=ei q;have al:aA ((cutV c k (.slice (some ⟨d,f,none⟩) s.wk.length cap) b).J F S p/\cg F w F p):=⟨(by rw[v.o];exact q),l.o.2.2.trans ai⟩;clear g ag q ai l))
    clear g0 g5 r0 a2 t u;go_wp2_with fail;go_roundw
    case rel=>exact⟨j+1,S,aa,aj,N,al.o.1,al.o.2,an⟩
    case measure=>simp[intOf];omega
   ·have v:aA (k.eO s1 a=k.st s1 (a+1) 3):=by show _=_;unfold cj.eO;rw[aK hls]
    generalize k.eO s1 a=S at N an v;generalize k.ld s1 (a+1)=x at L hls;go_wp2_with fail;refine L.mono ?_;clear L;rintro e w1 ⟨rfl,i⟩
    have P:=oh ((cutV c k (.slice (some ⟨d,f,none⟩) s.wk.length cap) b).below m.o.1 i) x;rw[hls] at P;clear aV t u;go_wp2_with fail;refine P.mono ?_;clear P;rintro e n ⟨rfl,W⟩
    have hb:=i.trans (W.mono i.size)
    have o:=(cutV c k (.slice (some ⟨d,f,none⟩) s.wk.length cap) b).below m.o.1 hb;obtain⟨t,_,_,_,_,u,_⟩:=ei o;obtain⟨g,ab⟩:=iZ ((cutV c k (.slice (some ⟨d,f,none⟩) s.wk.length cap) b).below o (aH _ n).drew)
    have l:aA (_/\_/\_):=⟨g,ab,(m.o.2.below hb).below (aH _ n).drew⟩
    clear i W o hb m g ab;go_wp2_with fail
    go_region_held3 (fun w'=>w'.cell? (av c.pk 0)=some (aq c.pw)/\w'.cell? (av c.pw 0)=some (aq c.p)) (go_keep)
     (first
       |(go_at_call 191;refine(nW _).mono ?_;rintro e b5 ⟨rfl,a3⟩;have a3:=a3.symm;subst a3)
       |(go_at_call 93;refine(lx (a+1) 3 n.drew l.o.1).mono ?_;rintro e p ⟨rfl,g,ag⟩;obtain⟨q,ai⟩:=l.o.2.1 p _ _ g ag;obtain⟨r0,_,_,_,_,a2,_⟩:=ei q;have al:aA ((cutV c k (.slice (some ⟨d,f,none⟩) s.wk.length cap) b).J F S p/\cg F w F p):=⟨(by rw[v.o];exact q),l.o.2.2.trans ai⟩;clear g ag q ai l))
    clear r0 a2 t u;go_wp2_with fail;go_roundw
    case rel=>exact⟨j+1,S,aa,aj,N,al.o.1,al.o.2,an⟩
    case measure=>simp[intOf];omega
  ·obtain rfl:j=s.wk.length:=aa;rw[bz] at ar;go_wp2_with fail;go_end0;rw[ar.o];exact⟨rfl,⟨_,_,B⟩,aB⟩
theorem EA {cK d:Value}(h:(cutV c k cK d).J F s w):c.nb≠c.pk/\c.nb≠c.pw:=by
 obtain⟨own,h,f⟩:=h;refine⟨fun e=>?_,fun e=>?_⟩
 ·have b:=h.r1;rw[e,h.k1] at b;omega
 ·have b:=h.r1;rw[e,h.w1] at b;omega
theorem EB (h:(eh c k).J F s w)(q:CI k s):
 Calls prog 107 #[aq c.pk] w fun e w'=>e=.returned (.tuple #[])/\(eh c k).J F (k.cO s 12) w'/\cg F w F w':=by
 obtain⟨cK,d,h⟩:=h;obtain⟨c0,_,_,_,_,_,_,_,ap,_⟩:=ei h;have ab:aA (CI k s):=q;clear q;go_enter func107,ntmps107;go_wp2_with fail
 go_loopw [12] (fun iv wr=>∃(j:Nat),j<=12/\iv=ak j/\(cutV c k cK d).J F (k.cO s j) wr/\cg F w F wr) (fun iv _=>12-(intOf iv).toNat)
 case atStart=>exact⟨0,a4 _,rfl,h,cg.refl _ _⟩
 case round=>
  obtain⟨j,ar,rfl,b,l⟩:=hrel;by_cases t:j<12
  ·obtain⟨ad,_,_,_,_,_,_,_,ag,_⟩:=ei b;obtain⟨aB,aF,hr⟩:=xL b;obtain⟨u,ai⟩:=hr j t;obtain⟨n1,aR⟩:=EA b;have m:aA (k.cO s (j+1)={(k.br (k.cO s j) ((k.cO s j).rs.getD j 0)).2 with rs:=(k.br (k.cO s j) ((k.cO s j).rs.getD j 0)).2.rs.set j (k.br (k.cO s j) ((k.cO s j).rs.getD j 0)).1}):=rfl;have al:aA (CI k (k.cO s j)):=(ab.o.cO j).1;have n:aA ((cutV c k cK d).J F (k.cO s j) wr.drew/\cg F w F wr.drew):=⟨(cutV c k cK d).below b (aH _ wr).drew,l.below (aH _ wr).drew⟩
   obtain⟨f,o⟩:∃f,f=k.cO s (j+1):=⟨_,rfl⟩
   rw[<-o] at m;have am:aA (f=k.cO s (j+1)):=o;clear o;generalize (k.cO s j).rs.getD j 0=x at u m;generalize k.cO s j=s1 at*;have j0:(0:Int)<=(j:Int):=aa;have aV:(j:Int)<12:=aa;clear hr b l;go_wp2_with fail
   go_region_held3 (fun w'=>w'.cell? (av c.pk 0)=some (aq c.pw)/\w'.cell? (av c.pw 3)=some (.slice (au c.nb) 12 12)) (go_keep)
    (first
      |(go_at_call 182;refine(qt n.o.1 al.o x).mono ?_;rintro e g ⟨rfl,i,v⟩;obtain⟨g0,_,_,_,_,_,_,_,an,_⟩:=ei i;obtain⟨_,a0,B⟩:=xL i;obtain⟨y1,ao⟩:=B j t;have p:aA ((cutV c k cK d).J F (k.br s1 x).2 g/\cg F w F g):=⟨i,n.o.2.trans v⟩;clear i v B n))
   obtain⟨N,S⟩:=DR p.o.1 j (k.br s1 x).1;have W:aA ((cutV c k cK d).J F f (g.setCell ⟨c.nb,j,none⟩ (.int .i64 (k.br s1 x).1))/\cg F w F (g.setCell ⟨c.nb,j,none⟩ (.int .i64 (k.br s1 x).1))):=⟨by rw[m.o];exact N,p.o.2.trans S⟩
   clear N S p g0 an y1 ao ad ag u ai;go_wp2_with fail;go_roundw
   case rel=>exact⟨j+1,aa,aj,by rw[<-am.o];exact W.o.1,W.o.2⟩
   case measure=>simp[intOf];omega
  ·obtain rfl:j=12:=aa;go_wp2_with fail;go_end0;exact⟨rfl,⟨_,_,b⟩,l⟩
end
section
variable {a:Wc}{F:Nat->Prop}{S:cv}{w:az}
theorem EC (h:(fW a).J F S w)(d:S.full a=true):
 Calls prog 50 #[aq a.pw] w fun e w'=>e=.returned (ak 3)/\Below w.heap.size w w':=by
 obtain⟨j,ar,k,f,_⟩:=h;obtain⟨l,hw,_⟩:=jb f;obtain⟨b,_⟩:=kU hw;have b:=b;obtain⟨c0,_,_,_,g,_⟩:=jZ hw;have n1:=b.hg;have m:a.O-S.s.g<S.s.y:=by simpa[cv.full] using d
 go_enter func50,ntmps50;go_wp2_with fail;refine(kQ w b).mono ?_;rintro e w1 ⟨rfl,c⟩
 have c1:=(c.cell (p:=av a.pw 0) g).trans c0;go_wp2_with fail;refine(oY w1 (b.below c b7)).mono ?_;rintro e n ⟨rfl,i⟩
 have hb:=c.trans (i.mono c.size)
 go_wp2_with fail;go_ret;exact⟨rfl,hb⟩
theorem ED (h:(fW a).J F S w)(hf:S.full a=false)(hq:S.q.length+S.r.length<=90000):
 Calls prog 50 #[aq a.pw] w fun e w'=>∃i,e=.returned (ak 0)/\(fW a).J i (S.cut a) w'/\cg F w i w':=by
 have dz:∀(bt:Fn)(first cap:Array Value)(w:az),(Instr.makeFunc bt first cap).run prog w=.ok (.func bt first cap) w:=fun _ _ _ _=>rfl;obtain⟨cq,ar,a3,g,bx,b0,b1⟩:=h;obtain⟨b2,hw,b3⟩:=jb g;obtain⟨f,_⟩:=kU hw;have f:At w a.p a.q a.N a.O S.s.y S.s.g S.s.ws:=f;obtain⟨c0,_,_,_,cr,_⟩:=jZ hw;have n1:=f.hg;have cs:S.s.y<=a.O-S.s.g:=by exact qz
 have dA:¬(a.O:Int)-S.s.g<S.s.y:=aa;have n4:=f.hO;have dB:=f.hy;have dC:=f.hN';have b4:aA (_):=CI.start f.hN f.hN' f.hO f.hy f.hg f.hl cs;have b6:=kQ w f;have b9:aA (_/\_):=⟨hw,f⟩
 have cw:aA (∀{ba:Type}(bb:dx ba) B bd w',bb.J B bd w'->cg b2 w B w'->_):=b3;have n:=gM bx b0 b1;clear g hw f b3 bx b0 b1 hf;go_enter func50,ntmps50;go_wp2_with fail;refine b6.mono ?_;clear b6;rintro e w1 ⟨rfl,N⟩
 have c1:=(N.cell (p:=av a.pw 0) cr).trans c0;have ca:=oY w1 (b9.o.2.below N b7)
 go_wp2_with fail;refine ca.mono ?_;clear ca;rintro e dD ⟨rfl,cb⟩
 have hb:=N.trans (cb.mono N.size)
 have cx:=Er ((ed a).below b9.o.1 hb)
 have cy:=hide hb;clear N cb c0 c1 hb;go_wp2_with fail;refine cx.mono ?_;rintro e dE ⟨pk,ct,cT,dF,rfl,W,be⟩
 have be:=(cg.of (F:=b2) cy.o).trans be;obtain⟨c,hc⟩:∃c:gF,c=⟨pk,ct,a.pw,a.p,a.q,a.pc,cT,a.sd,a.nb,dJ a.O,S.s.M⟩:=⟨_,rfl⟩
 have cz:pk=c.pk:=by rw[hc]
 have m:aA (_/\a.sd=c.sd/\c.c=dJ a.O/\c.M=S.s.M/\a.pw=c.pw):=⟨hc,by rw[hc],by rw[hc],by rw[hc],by rw[hc]⟩
 rw[<-hc] at W;clear hc;subst cz;have W:=W;have cA:=EB W b4.o;clear W;go_wp2_with fail;refine cA.mono ?_;rintro e dG ⟨rfl,bg,cB⟩
 have bg:=bg;obtain⟨k1,dH,cC,cD,k5,k6⟩:=b4.o.cO 12;have cE:=Ek bg (s:=S.s.s1 a) k1 cC cD;have cF:=hide (be.trans cB)
 go_wp2_with fail;refine cE.mono ?_;rintro e cG ⟨cH,rfl,ao,cI,ap,b5,dI⟩
 rw[m.o.2.2.1,m.o.2.2.2.1] at ao ap b5;have ao:=ao;have ap:=ap;have b5:=b5;obtain⟨dK,cc,cJ⟩:=cw.o (hG c (S.s.k0 a)) cH (S.s.s2 a) cG ⟨ao,ap,b5⟩ (cF.o.trans cI)
 rw[m.o.2.1] at cc;have cM:=x9 (c:=c) rfl cc (by show S.q.length<=90000;omega)
 have cN:=hide cJ;go_wp2_with fail;refine cM.mono ?_;rintro e j ⟨dL,rfl,aB,bi⟩
 have aB:=aB;have bi:=cN.o.trans bi;obtain⟨dM,⟨⟨dN,dO,cO⟩,_⟩,_⟩:=jb aB;obtain⟨o,_,_,_,_,_,_,cd,_⟩:=ei cO;have l0:=aT j _ o;have cP:=aT j _ cd;have k:aA (_/\_):=⟨(df (hG c (S.s.k0 a)) c.sd (.slice ar S.r.length a3)).below aB (aH _ j).drew,bi.below (aH _ j).drew⟩
 have cQ:(S.t3 a).2.length+S.r.length<=90000:=by have:(S.t3 a).2.length=S.q.length:=o_ _ _ _;omega
 go_wp2_with fail
 go_region_held3 (fun w'=>w'.cell? (av c.pk 0)=some (aq c.pw)/\w'.cell? (av c.pw 2)=some (aq c.sd)) (go_keep)
  (first
    |(go_at_call 110;refine(xY (na c) j.drew c.pk).mono ?_;rintro e cR ⟨rfl,cS,bl⟩;have dP:=(bl.cell (p:=av c.pk 0) l0).trans o;have dQ:=(bl.cell (p:=av c.pw 2) cP).trans cd;have q:aA (_/\_):=⟨cS,bl⟩)
    |(go_at_call 78;refine(Ew (t:=S.t3 a) (r:=S.r) rfl ((df (hG c (S.s.k0 a)) c.sd (.slice ar S.r.length a3)).below k.o.1 q.o.2) (by exact cL n.o.1 (fun b e=>(q.o.2.block b (aO (cu n.o.1 b e).2 k.o.2.fr.size)).trans (k.o.2.fr.block b (cu n.o.1 b e).2 (n.o.2.1 b e)))) cQ j.heap.size q.o.1 (fun d=>by have:=(df (hG c (S.s.k0 a)) c.sd (.slice ar S.r.length a3)).lt k.o.1 _ d;have cU:j.drew.heap.size=j.heap.size:=rfl;omega)).mono ?_;rintro e aF ⟨a1,c1,cV,rfl,ce,aR,ab,cW,cX⟩;obtain⟨ad,⟨⟨dR,dS,ag⟩,_⟩,_⟩:=jb ce;obtain⟨r0,_,_,_,_,_,_,dT,_⟩:=ei ag;have cf:aA (_/\_/\_/\w.heap.size<=cR.heap.size/\cg cq w cV aF):=⟨ce,aR,ab,aU k.o.2.fr.size q.o.2.size,⟨(k.o.2.below q.o.2).fr.trans cW (fun b d=>d.elim (k.o.2.sub b) (fun d=>aL (by have:=k.o.2.fr.size;have cU:j.drew.heap.size=j.heap.size:=rfl;omega))),fun b d=>(cX b d).elim (k.o.2.sub b) (fun d=>aL (by have g:=k.o.2.fr.size;have aV:=q.o.2.size;omega))⟩⟩))
 obtain⟨ad,⟨ag,ai,a0⟩,cY⟩:=jb cf.o.1;have ag:(eh c (S.s.k0 a)).J ad (S.s4 a) aF:=ag;have ai:CI (S.s.k0 a) (S.s4 a):=ai;have a0:eg (S.s.k0 a) (S.s4 a):=a0;obtain⟨bn,cZ⟩:=ai.mw (l:=(S.s4 a).wk) (fun x c2=>(ai.iI x c2).1)
 have bn:CI (S.s.k0 a) (S.s5 a):=bn;have c3:=Ez ag ai (by have:=a0.wk;omega)
 have ch:aA (CI (S.s.k0 a) (S.s5 a)/\(S.s5 a).ep.length<=10000):=⟨bn,by have g:(S.s5 a).ep=(S.s4 a).ep:=cZ.ep;rw[g];have:=a0.ep;omega⟩
 have c4:aA (∀{ba:Type}(bb:dx ba) B bd w',bb.J B bd w'->cg ad aF B w'->_):=cY;go_wp2_with fail;refine c3.mono ?_;rintro e dU ⟨rfl,bo,c5⟩
 have bo:=bo;have c6:=Ey bo ch.o.1 ch.o.2;go_wp2_with fail;refine c6.mono ?_;rintro e u ⟨rfl,v,bp⟩
 have v:=v;obtain⟨cK,c7,ci⟩:=v;obtain⟨o,_,_,_,_,cj,_⟩:=ei ci;have v:(eh c (S.s.k0 a)).J ad (S.s6 a) u:=⟨cK,c7,ci⟩
 rw[m.o.1] at v;obtain⟨al,c8,c9,da⟩:=Ex (pk:=c.pk) (a:=a) v;obtain⟨db,dc⟩:=kU c8;have bp:cg ad aF al u:=⟨(c5.trans bp).fr,fun b hb=>aM (c9 b hb)⟩
 have dd:=wC u db;have br:aA (_/\_/\∀w',At w' a.p a.q a.N a.O 0 (S.s6 a).g (S.s6 a).ws->dh a.p a.q u w'->(ed a).J al ⟨0,(S.s6 a).g,(S.s6 a).ws,S.s.M,(S.s6 a).rs⟩ w'/\cg al u al w'):=⟨bp,da,fun w' g aV=>dc w' _ _ _ g aV⟩
 have de:=aT u _ o;have dg:=m.o.2.2.2.2.symm;have ep:c.p=a.p:=by rw[m.o.1]
 rw[dg] at o cj;rw[ep] at cj;go_wp2_with fail;refine dd.mono ?_;rintro e am ⟨rfl,di,dj⟩
 obtain⟨ck,cl⟩:=br.o.2.2 am di dj;obtain⟨dk,dl,dm⟩:=yb ck;obtain⟨_,dV,_⟩:=jZ ck;have dW:=(aQ (a:=⟨c.pk,0,none⟩) (cl.fr.block c.pk de br.o.2.1)).trans o;have dn:=sL am dl.hp;have cm:aA (_/\∀w',Cd w' a.pc am.heap.size a.N (dJ a.O) []->dh a.pc dk am w'->∃i,(ed a).J i ⟨0,(S.s6 a).g,(S.s6 a).ws,[],(S.s6 a).rs⟩ w'/\cg al am i w'):=⟨br.o.1.trans cl,fun w' g aV=>dm w' _ _ g aV (aL b7)⟩
 go_wp2_with fail;refine dn.mono ?_;rintro e a2 ⟨rfl,dp,an⟩
 have dq:aA (∃i,(fW a).J i (S.cut a) a2/\cg F w i a2):=by
  obtain⟨dr,ds,dt⟩:=cm.o.2 a2 dp ⟨an.os,an.tape,an.output,an.size,fun b hb g _=>an.block b hb g g⟩
  obtain⟨cn,co,bs⟩:=c4.o (ed a) dr _ a2 ds (cm.o.1.trans dt)
  obtain⟨_,aR,ab,du,dv⟩:=cf.o;have dw:S.cut a=⟨⟨0,(S.s6 a).g,(S.s6 a).ws,[],(S.s6 a).rs⟩,(S.s.k0 a).sR (S.t3 a) S.r,(S.s.k0 a).jq (S.t3 a) S.r⟩:=by unfold cv.cut;rw[aI];unfold cv.full;simp;omega
  rw[dw];rw[<-m.o.2.1] at co;have cp:=dv.trans bs;refine⟨fun b=>cn b\/some b=(Value.slice a1 ((S.s.k0 a).sR (S.t3 a) S.r).length c1).ownBlock,⟨cn,a1,c1,co,ii aR bs.fr (fun b e=>(ab b e).1),fun b e d=>(bs.sub b d).elim (ab b e).1 (fun d=>by have:=(cu aR b e).2;omega),fun b=>Iff.rfl⟩,⟨cp.fr.mono (fun b d=>(n.o.2.2 b).2 (aM d)),fun b d=>?_⟩⟩
  rcases d with d|d
  ·exact(cp.sub b d).imp (fun d=>(n.o.2.2 b).2 (aM d)) id
  ·exact aL (aU du (ab b d).2)
 go_wp2_with fail;go_ret;obtain⟨i,dy,j2⟩:=dq.o;exact⟨i,rfl,dy,j2⟩
theorem EE (h:(fW a).J F S w)(hq:S.q.length+S.r.length<=90000):
 Calls prog 50 #[aq a.pw] w fun e w'=>∃c,e=.returned (ak (S.code a))/\(fW a).J c (S.cut a) w'/\cg F w c w':=by
 cases hf:S.full a
 ·have b:S.code a=0:=by unfold cv.code;rw[hf];rfl
  rw[b];exact ED h hf hq
 ·have b:S.code a=3:=by unfold cv.code;rw[aK hf]
  have d:S.cut a=S:=by unfold cv.cut;rw[aK hf]
  rw[b,d];refine(EC h hf).mono ?_;rintro e w' ⟨rfl,hb⟩
  exact⟨F,rfl,(fW a).below h hb,cg.of hb⟩
end
abbrev cI:=Int×List (Int×Int)×Bool×Bool
structure cn where
 T:List cI
 rs:List (Int×Int)
 rg:List ce
 wt:List ce
theorem tq:∀(l:List (Int×Int))(i:Nat)(x:Int×Int),ev (l.set i x)=((ev l).set (i*2) (ak x.1)).set (i*2+1) (ak x.2)
 |[],_,_=>rfl
 |e::l,0,x=>by simp[ev]
 |e::l,i+1,x=>by
  have b:ev (e::l)=ak e.1::ak e.2::ev l:=by simp[ev]
  have c:ev ((e::l).set (i+1) x)=ak e.1::ak e.2::ev (l.set i x):=by simp[ev]
  rw[b,c,(tq l i x),show(i+1)*2=i*2+1+1 by omega];simp
def dV (g:Int)(q:List ce):Nat:=q.findIdx (fun e=>e.1==g)
abbrev yf:=cI×Option Addr×Nat
def tv (m:List yf):List Value:=m.flatMap fun x=>[ak x.1.1,.slice x.2.1 x.1.2.1.length x.2.2,.bool x.1.2.2.1,.bool x.1.2.2.2]
def jc (p:Int×Int)(t:cI):Int×Int:=if t.2.2.2=true then p else if t.2.2.1=true then(p.1,p.2+(1+t.2.1.length)) else(p.1+(1+t.2.1.length),p.2)
def ey (l:List cI):Int×Int:=l.foldl jc (0,0)
theorem yh (l:List cI)(t:cI):ey (l++[t])=jc (ey l) t:=by simp[ey,List.foldl_append]
theorem aX {α:Type _}(y:α){a:α}{l:List α}:a ∈ l -> a ∈ y :: l:=by intros;apply List.mem_cons_of_mem<;>assumption
theorem yi (l:List cI)(h:∀t∈l,t.2.1.length<=12):0<=(ey l).1/\(ey l).1<=13*l.length/\0<=(ey l).2/\(ey l).2<=13*l.length:=by
 have key:∀(l:List cI)(p:Int×Int),(∀t∈l,t.2.1.length<=12)->p.1<=(l.foldl jc p).1/\(l.foldl jc p).1<=p.1+13*l.length/\p.2<=(l.foldl jc p).2/\(l.foldl jc p).2<=p.2+13*l.length:=by
  intro l
  induction l with
  |nil=>simp
  |cons t l b=>
   intro p hl;have d:=b (jc p t) (fun x c=>hl x (aX _ c))
   have e:=hl t ac;rw[a9];have f:p.1<=(jc p t).1/\(jc p t).1<=p.1+13/\p.2<=(jc p t).2/\(jc p t).2<=p.2+13:=by
    unfold jc;split
    ·omega
    ·split
     ·dsimp only;omega
     ·dsimp only;omega
   simp only [List.length_cons];omega
 have:=key l (0,0) h;unfold ey;omega
section
variable {s:cn}
def cn.th (s:cn)(i:Nat):Int:=if(s.rs.getD i (0,0)).1=3 then(s.rs.getD i (0,0)).2 else-1
end
def cn.gc (s:cn)(A:Nat)(I:Int):Int:=if s.th A<0\/(s.T.getD (s.th A).toNat (0,[],false,false)).1=5 then 2 else if I<0\/((s.T.getD (s.th A).toNat (0,[],false,false)).2.1.length:Int)<=I then 1 else 0
theorem EF (w:az)(B:Nat)(l1 l2:List ce)(f g:Addr)(c1 c2:Nat)(q:w.cell? (av B 0)=some (.slice (some f) l1.length c1))(F:w.cell? (av B 1)=some (.slice (some g) l2.length c2))(N:dz w (some f) l1)(S:dz w (some g) l2)(hm:l1.length+l2.length<=100000):
 Calls prog 230 #[.slice (au B) 2 2] w fun e w'=>∃a c,e=.returned (.slice a (l1.length+l2.length) c)/\w'.ownsRow w.heap.size 103 2 (.slice a (l1.length+l2.length) c) (l1.length+l2.length) (ev (l1++l2))/\Below w.heap.size w w':=by
 obtain⟨s,hi,t,u,x⟩:=info_parts n3;have W:=hide N;have ab:=hide S;have hB:=aT w _ q;go_enter func230,ntmps230;go_wp2
 go_loopw [3,11] (fun i iv wr=>wr=w/\((iv=ak 0/\i=ak 0)\/(iv=ak 1/\i=ak l1.length)\/(iv=ak 2/\i=ak (l1.length+l2.length:Nat)))) (fun _ iv _=>2-(intOf iv).toNat)
 exact⟨rfl,aM ⟨rfl,rfl⟩⟩
 ·
   obtain⟨hw,⟨rfl,rfl⟩|⟨rfl,rfl⟩|⟨rfl,rfl⟩⟩:=hrel
   all_goals
    have hw:=hw.symm;subst hw
   ·go_wp2;go_roundw;exact⟨trivial,aL (aM ⟨aj,aj⟩)⟩
    simp[intOf]
   ·go_wp2;go_roundw;exact⟨trivial,aL (aL ⟨aj,aj⟩)⟩
    simp[intOf]
   ·go_wp2_with fail;refine(C1 w (l1.length+l2.length) hm).mono ?_;rintro e w1 ⟨a1,ad,rfl,b,hb⟩
    go_wp2
    go_loopw [6,27] (fun j iv wk=>Below w.heap.size w wk/\((∃a c,iv=ak 0/\j=.slice a 0 c/\wk.ownsRow w.heap.size 103 2 (.slice a 0 c) 0 [])\/(∃a c,iv=ak 1/\j=.slice a l1.length c/\wk.ownsRow w.heap.size 103 2 (.slice a l1.length c) l1.length (ev l1))\/(∃a c,iv=ak 2/\j=.slice a (l1.length+l2.length) c/\wk.ownsRow w.heap.size 103 2 (.slice a (l1.length+l2.length) c) (l1.length+l2.length) (ev (l1++l2))))) (fun _ iv _=>2-(intOf iv).toNat)
    exact⟨hb,aM ⟨a1,ad,rfl,rfl,b⟩⟩
    ·
      obtain⟨hb,⟨a,c,rfl,rfl,b⟩|⟨a,c,rfl,rfl,b⟩|⟨a,c,rfl,rfl,b⟩⟩:=hrel
      ·have ag:=(hb.cell (p:=av B 0) hB).trans q;have hs:=hb.size;go_wp2_with (at_builtin;refine wpList_append_own _ rfl _ _ 151 rfl w.heap.size 103 s (.agg #[ak 0,ak 0]) 2 16 underlying151 hi t u x rfl ae (.slice a 0 c) 0 [] rfl b f l1.length c1 (ev l1) rfl (kP l1) ((W.o.below hb).cells f rfl) (n5 l1) ?_ ?_ hs ?_;(unfold maxLen;omega);omega;intro v ai d l _;rw[Nat.zero_add,List.nil_append] at d;obtain⟨a2,m,n⟩:=eN d;subst n)
       have o:=hb.grown l hs (fun k e=>(cu b k e.symm).1)
       go_wp2;go_roundw;exact⟨o,aL (aM ⟨a2,m,aj,rfl,d⟩)⟩
       simp[intOf]
      ·have ag:=(hb.cell (p:=av B 1) hB).trans F;have hs:=hb.size;go_wp2_with (at_builtin;refine wpList_append_own _ rfl _ _ 151 rfl w.heap.size 103 s (.agg #[ak 0,ak 0]) 2 16 underlying151 hi t u x rfl ae (.slice a l1.length c) l1.length (ev l1) rfl b g l2.length c2 (ev l2) rfl (kP l2) ((ab.o.below hb).cells g rfl) (n5 l2) ?_ ?_ hs ?_;(unfold maxLen;omega);omega;intro v ai d l _;rw[<-i4] at d;obtain⟨a2,m,n⟩:=eN d;subst n)
       have o:=hb.grown l hs (fun k e=>(cu b k e.symm).1)
       go_wp2;go_roundw;exact⟨o,aL (aL ⟨a2,m,aj,rfl,d⟩)⟩
       simp[intOf]
      ·go_wp2;go_ret;exact⟨a,c,rfl,b,hb⟩
structure fF (w:az)(p:Nat)(a0:Option Addr)(k0:Nat)(a1:Option Addr)(k1:Nat)(r q:List ce):Prop where
 blk:w.heap[p]?=some (.cells #[.slice a0 r.length k0,.slice a1 q.length k1] 153 (0,0))
 r0:w.ownsRow 0 103 2 (.slice a0 r.length k0) r.length (ev r)
 q0:w.ownsRow 0 103 2 (.slice a1 q.length k1) q.length (ev q)
theorem qD {w:az}{base:Nat}{e:TypeId}{ad:Option Addr}{cap:Nat}{l:List ce}(h:w.ownsRow base e 2 (.slice ad l.length cap) l.length (ev l)):iD w ad l cap:=by
 refine⟨hZ h,?_,?_⟩
 ·rcases h.2 with⟨hv,h0⟩|⟨g,b,c,hv,_,_,hc,_⟩
  ·omega
  ·simp at hv;omega
 ·intro d;rcases h.2 with⟨hv,h0⟩|⟨g,b,c,hv,_⟩
  ·simp at hv;exact⟨h0,hv.2.2⟩
  ·rw[d] at hv;simp at hv
theorem fF.keep {w w':az}{p:Nat}{a0 a1:Option Addr}{k0 k1:Nat}{r q:List ce}(h:fF w p a0 k0 a1 k1 r q)(b:w'.heap[p]?=w.heap[p]?)(c:∀k,some k=(Value.slice a0 r.length k0).ownBlock->w'.heap[k]?=w.heap[k]?)(d:∀k,some k=(Value.slice a1 q.length k1).ownBlock->w'.heap[k]?=w.heap[k]?):fF w' p a0 k0 a1 k1 r q:=
 ⟨b.trans h.blk,cL h.r0 c,cL h.q0 d⟩
theorem fF.below {w w':az}{p:Nat}{a0 a1:Option Addr}{k0 k1:Nat}{r q:List ce}(h:fF w p a0 k0 a1 k1 r q)(hb:Below w.heap.size w w'):fF w' p a0 k0 a1 k1 r q:=
 h.keep (hb.block p (lt_of_some h.blk)) (fun k e=>hb.block k (cu h.r0 k e).2) (fun k e=>hb.block k (cu h.q0 k e).2)
theorem fF.np {w:az}{p:Nat}{a0 a1:Option Addr}{k0 k1:Nat}{r q:List ce}(h:fF w p a0 k0 a1 k1 r q){b n:Nat}{v:Value}{l:List Value}(hr:w.ownsRow b 103 2 v n l):∀k,some k=v.ownBlock->k≠p:=by intro k e c;obtain⟨d,hc⟩:=fp hr k e;rw[c,h.blk] at hc;simp at hc
def j6 (n:Nat):Bool:=decide (24<=n)
theorem qE {n:Nat}(h:24<=n):j6 n=true:=by simp[j6,h]
theorem qF {n:Nat}(h:¬24<=n):j6 n=false:=by simp[j6,h]
theorem EG {n0 n1:Nat}(h0:n0<=100000)(b:n1<=100000):aA (decide ((24:Int)<=IntKind.i64.wrap ((n0:Int)+(n1:Int)))=j6 (n0+n1)):=by
 show _=_;rw[show IntKind.i64.wrap ((n0:Int)+(n1:Int))=(n0:Int)+n1 by rw[bu];omega];unfold j6;by_cases h:24<=n0+n1
 ·rw[bm h,bm aa]
 ·rw[bB h,bB aa]
theorem yj (w:az)(p:Nat)(a0 a1:Option Addr)(n0 k0 n1 k1:Nat)(h:w.heap[p]?=some (.cells #[.slice a0 n0 k0,.slice a1 n1 k1] 153 (0,0)))(h0:n0<=100000)(b:n1<=100000):
 Calls prog 103 #[aq p] w fun e w'=>e=.returned (.bool (j6 (n0+n1)))/\Below w.heap.size w w':=by
 have c0:w.cell? (av p 0)=some (.slice a0 n0 k0):=aD h
 have c1:w.cell? (av p 1)=some (.slice a1 n1 k1):=aD h
 clear h;have c:=EG h0 b;go_enter func103,ntmps103;go_wp2_with fail
 go_region_held3 (fun w'=>w'.cell? (av p 0)=some (.slice a0 n0 k0)/\w'.cell? (av p 1)=some (.slice a1 n1 k1)) (go_keep) (fail)
 go_wp2_with fail;go_ret;exact⟨by rw[<-c.o];rfl,b8.drew⟩
theorem fF.cells {w:az}{p:Nat}{a0 a1:Option Addr}{k0 k1:Nat}{r q:List ce}(h:fF w p a0 k0 a1 k1 r q):w.cell? (av p 0)=some (.slice a0 r.length k0)/\w.cell? (av p 1)=some (.slice a1 q.length k1)/\w.frozen? (av p 0)=false/\w.frozen? (av p 1)=false/\p<w.heap.size:=
 ⟨by simp[World.cell?,h.blk],by simp[World.cell?,h.blk],by simp[World.frozen?,h.blk],by simp[World.frozen?,h.blk],lt_of_some h.blk⟩
theorem EH {w:az}{p:Nat}{x y v:Value}{T:TypeId}(h:w.heap[p]?=some (.cells #[x,y] T (0,0))):(w.setCell ⟨p,0,none⟩ v).heap[p]?=some (.cells #[v,y] T (0,0)):=by exact sO
theorem EI {w:az}{p:Nat}{x y v:Value}{T:TypeId}(h:w.heap[p]?=some (.cells #[x,y] T (0,0))):(w.setCell ⟨p,1,none⟩ v).heap[p]?=some (.cells #[x,v] T (0,0)):=by exact sO
theorem yk (w:az)(p:Nat)(a0 a1:Option Addr)(k0 k1:Nat)(r q:List ce)(g z:Int)(h:fF w p a0 k0 a1 k1 r q)(h0:r.length<=90000)(F:q.length<=90000):
 Calls prog 49 #[aq p,.agg #[ak g,ak z]] w fun e w'=>e=.returned (.bool (!j6 (r.length+q.length)))/\
  ((24<=r.length+q.length/\Below w.heap.size w w')\/(¬24<=r.length+q.length/\∃b1 c1,fF w' p (au b1) c1 a1 k1 (r++[(g,z)]) q/\w.heap.size<=b1/\Fr (fun k=>k=p) w w')):=by
 obtain⟨c0,c1,s,N,lp⟩:=h.cells;have H:aA (fF w p a0 k0 a1 k1 r q):=h;have d:=aw w (.cells #[.int .i64 g,.int .i64 z] 103)
 have t:aA (iD w a0 r k0):=qD h.r0;by_cases b:24<=r.length+q.length
 ·rw[qE b];clear h;go_enter func49,ntmps49;go_wp2_with fail;refine(yj _ p a0 a1 r.length k0 q.length k1 ((d.block p lp).trans H.o.blk) aa aa).mono ?_;rintro e w1 ⟨rfl,hb⟩
  rw[qE b];have c:=d.trans (hb.mono ac)
  go_wp2_with fail;go_ret;exact⟨rfl,aM ⟨b,c⟩⟩
 ·rw[qF b];clear h;go_enter func49,ntmps49;go_wp2_with fail;refine(yj _ p a0 a1 r.length k0 q.length k1 ((d.block p lp).trans H.o.blk) aa aa).mono ?_;rintro e w1 ⟨rfl,hb⟩
  rw[qF b];have c:=d.trans (hb.mono ac)
  have S:w.heap.size<w1.heap.size:=by have:=hb.size;simp at this;omega
  have W:w1.cell? (av w.heap.size 0)=some (ak g):=(hb.cell ac).trans ac;have y1:w1.cell? (av w.heap.size 1)=some (ak z):=(hb.cell ac).trans ac;have u:=(c.cell (p:=av p 0) lp).trans c0;have v:=(c.frozen (p:=av p 0) lp).trans s;have m:p<w1.heap.size:=aa;have x:=t.o.below c;clear hb d;go_wp2_with fail
  go_region_with (go_at_call 104;refine(wz _ a0 r k0 g z (x.below (b8.drew)) aa).mono ?_;rintro e f ⟨b1,gx,rfl,j,l⟩;have ab:=(l.cell (p:=av p 0) m).trans u;have ad:=(l.frozen (p:=av p 0) m).trans v)
  all_goals
   go_wp2_with fail;go_ret;refine⟨rfl,aL ⟨b,b1,gx,?_⟩⟩
   have n:Below w.heap.size w f:=c.drew.trans (l.mono (by simp;omega))
   have lb:w1.heap.size<=b1:=(cu j b1 rfl).1;have i:=H.o.below n;have B:Fr (fun k=>k=p) w (f.setCell ⟨p,0,none⟩ (.slice (some ⟨b1,0,none⟩) (r.length+1) gx)):=(Fr.of n).set p 0 _ rfl;have o:∀k,k≠p->(f.setCell ⟨p,0,none⟩ (.slice (some ⟨b1,0,none⟩) (r.length+1) gx)).heap[k]?=f.heap[k]?:=fun k hk=>aW _ _ _ _ hk;refine⟨⟨by simpa using EH i.blk,?_,cL i.q0 (fun k e=>o k (i.np i.q0 k e))⟩,aa,B⟩
   have:=e8 (base':=0) (cL (w':=f.setCell ⟨p,0,none⟩ (.slice (some ⟨b1,0,none⟩) (r.length+1) gx)) j (fun k e=>o k (i.np j k e))) (fun _ _=>a4 _)
   simpa using this
section
variable {a:Wc}{F:Nat->Prop}{S:cv}{w:az}
theorem nf (h:(fW a).J F S w):∃i,(ed a).J i S.s w/\∀f s1 w',(ed a).J f s1 w'->cg i w f w'->∃d,(fW a).J d ⟨s1,S.r,S.q⟩ w'/\cg F w d w':=by
 obtain⟨i,ar,k,l,j,p,q⟩:=h;obtain⟨m,g1,g2⟩:=jb l;refine⟨m,g1,fun f s1 w' n o=>?_⟩
 obtain⟨d,k1,g⟩:=g2 (ed a) f s1 w' n o;refine⟨fun b=>d b\/some b=(Value.slice ar S.r.length k).ownBlock,⟨d,ar,k,k1,cL j (fun b e=>g.fr.block b (cu j b e).2 (by grind)),fun b e c=>?_,fun b=>Iff.rfl⟩,⟨g.fr.mono (by grind),fun b c=>?_⟩⟩
 ·rcases g.sub b c with c|c
  ·grind
  ·have:=(cu j b e).2;omega
 ·rcases c with c|c
  ·exact(g.sub b c).imp (by grind) id
  grind
theorem EJ {s:ej}(h:(ed a).J F s w)(x i z:Int)(hM:s.M.length<=100000):
 Calls prog 44 #[aq a.pw,ak x,ak i,ak z] w fun e w'=>e=.returned (ak (eD a.N s.y s.g s.ws x i))/\(ed a).J F {s with ws:=gz a.N s.y s.g s.ws x i z,M:=stM a.N s.y s.g s.ws x i z (dJ a.O) s.M} w'/\cg F w F w':=by
 obtain⟨own,cT,h,j⟩:=h;refine(Dr x i z ⟨h.wd,h.ar,h.cd⟩ hM).mono ?_;rintro e w' ⟨rfl,d,fr⟩
 refine⟨rfl,⟨own,cT,?_,j⟩,⟨fr.mono (fun b c=>?_),fun _ c=>aM c⟩⟩
 ·have hb:∀b,b<w.heap.size->own b≠1->own b≠2->_=_:=fun b hb f g=>fr.block b hb (fun c=>by
   rcases c with c|c|c|c
   ·exact f ((c▸h.a1))
   ·exact f ((c▸h.a2))
   ·exact g ((c▸h.c1))
   ·exact g ((c▸h.c2)))
  exact {
   ar:=d.ar,cd:=d.cd,wd:=d.blk,a1:=h.a1,a2:=h.a2,c1:=h.c1,c2:=h.c2,w1:=h.w1,rl:=h.rl,r1:=h.r1,le:=h.le,lt:=fun b hb=>aO (h.lt b hb) fr.size
   rt:=(by grind [dT.rt,dT.r1])}
 grind [dT.a1,dT.a2,dT.c1,dT.c2]
theorem EK (h:(fW a).J F S w)(g z:Int)(hr:S.r.length<=90000)(hq:S.q.length<=90000):
 Calls prog 49 #[aq a.sd,.agg #[ak g,ak z]] w fun e w'=>∃f,e=.returned (.bool (!j6 (S.r.length+S.q.length)))/\(fW a).J f (if 24<=S.r.length+S.q.length then S else⟨S.s,S.r++[(g,z)],S.q⟩) w'/\cg F w f w':=by
 have j:=h;obtain⟨i,ar,k,⟨l,ad,cap,m,n,o,p,q,s,t,u⟩,r0,r1,v⟩:=h;refine(yk w a.sd ar ad k cap S.r S.q g z ⟨n,r0,o⟩ hr hq).mono ?_;rintro e w' ⟨rfl,⟨d,hb⟩|⟨d,b1,c1,hs,x,fr⟩⟩
 ·exact⟨F,rfl,(aK d▸(fW a).below j hb),cg.of hb⟩
 ·refine⟨fun b=>i b\/some b=(Value.slice (au b1) (S.r++[(g,z)]).length c1).ownBlock,rfl,?_,⟨(by grind [Fr.mono]),fun b c=>?_⟩⟩
  ·rw[aI d];refine⟨i,some _,c1,⟨l,ad,cap,(ed a).keep m fr.size (by grind [Fr.block]),hs.blk,hs.q0,p,q,s,t,fun b c=>aO (by grind) fr.size⟩,hs.r0,fun b e c=>?_,fun b=>Iff.rfl⟩
   simp[Value.ownBlock] at e
   grind
  ·rcases c with c|c
   ·grind
   ·simp[Value.ownBlock] at c;omega
end
structure ky where
 a:Wc
 rp:Nat
 rb:Nat
 ch:Int
 b_:Int
 pb:Nat
def Lq (w:az)(ad:Option Addr)(l:List Int):Prop:=iU w ad l/\(0<l.length->∃b o c,ad=some ⟨b,o,none⟩/\w.heap[b]?=some (.cells c 2 (0,0)))
theorem Lq.kf {B:Nat}{w w':az}{ad:Option Addr}{l:List Int}(h:Lq w ad l)(k:Kf B w w'):Lq w' ad l:=by exact xF
theorem Lq.of {w:az}{base cap:Nat}{ad:Option Addr}{l:List Int}(h:w.ownsRow base 2 1 (.slice ad l.length cap) l.length (l.map (Value.int .i64))):Lq w ad l:=by
 refine⟨gX h,fun hp=>?_⟩
 obtain⟨b,c0,c⟩:=eT h hp;obtain⟨d,hc⟩:=fp h b (by rw[c];rfl)
 cases c;exact⟨b,0,d,rfl,hc⟩
section
variable {w0 w:az}{kb ct pw n:Nat}{T:List Int}{kd:Int->Int}{sh:Int->List Int}{M:cW->Int->cW}{s:cW}{vn:Value}{m:List dY}
theorem yl (hM:og w0 kb ct pw T M n)(an:lv T kd sh n M)(h:Wk w0 w kb ct pw T s vn m)(ho:fi T s)(hn:T.length<=s.1.length+n)(l:List Int)(ad:Option Addr)(cap:Nat)(hl:Lq w ad l)(hm:l.length<=100000):
 Calls prog 65 #[aq kb,.slice ad l.length cap] w fun e w'=>∃bo B a2 c2,e=.returned (.slice a2 l.length c2)/\w'.ownsRow w.heap.size 97 2 (.slice a2 l.length c2) l.length (ev (dC M T s l).1)/\Wk w0 w' kb ct pw T (dC M T s l).2 bo B/\fM w0 w m w' B/\(∀k,fD B k->some k≠(Value.slice a2 l.length c2).ownBlock):=by
 obtain⟨ao,hi,ap,ar,aB⟩:=info_parts xN;have bp:=hide hM;have br:=hide an;have bs:=hide hl;have F:=hide h;have bt:=hide ho;clear hM an hl h ho;go_enter func65,ntmps65;go_wp2_with (at_make;refine wpList_make_own _ rfl _ _ 57 rfl w.heap.size 97 ao (.agg #[ak 0,ak 0]) 2 underlying57 hi ap ar .i64 .i64 _ l.length rfl rfl rfl (by rw[aB];omega) (by unfold maxLen;omega) b7 ?_;intro w1 bx b0)
 have aF:=(ax w).grown b0 b7 (fun k e=>by cases e)
 go_loopw [5,13] (fun tv iv wr=>∃(j:Nat)(f:List (Int×Int))(s1:cW)(N:Value)(m1:List dY)(a2:Option Addr)(c2:Nat),j<=l.length/\iv=ak j/\aA (dC M T s (l.take j)=(f,s1))/\tv=.slice a2 j c2/\wr.ownsRow w.heap.size 97 2 (.slice a2 j c2) j (ev f)/\aA (Wk w0 wr kb ct pw T s1 N m1)/\aA (fM w0 w m wr m1)/\aA (∀k,fD m1 k->some k≠(Value.slice a2 j c2).ownBlock)/\aA (fi T s1/\T.length<=s1.1.length+n)) (fun _ iv _=>l.length-(intOf iv).toNat)
 ·exact⟨0,[],s,vn,m,_,_,a4 _,rfl,rfl,rfl,bx,F.o.below aF,fM.of aF,fun k hk e=>by have:=F.o.fb k hk;simp[Value.ownBlock] at e;omega,⟨bt.o,hn⟩⟩
 ·
   obtain⟨j,f,s1,N,m1,a2,c2,b,rfl,S,rfl,i,W,p,ab,g⟩:=hrel;by_cases aR:j<l.length
   ·obtain⟨cf,cg,b1,ch,hc⟩:=(bs.o.kf p.o.1).1 aa;have aV:=hc j aR;subst b1;clear hc;have d:=r9 M T s (l.take j) (l.getD j 0)
    rw[<-gL l j aR 0,S.o] at d;have d:=hide d;generalize l.getD j 0=x at aV d;have P:=D1 bp.o W.o g.o.1 g.o.2 x;have G:=oR br.o g.o.1 g.o.2 x;have a0:aA (fi T (eA M T s1 x).2/\T.length<=(eA M T s1 x).2.1.length+n):=⟨G.ok,by have:=G.le;have:=g.o.2;omega⟩
    clear G;generalize (eA M T s1 x).2=s2 at P d a0;obtain⟨u,v,a1⟩:∃u v,(eA M T s1 x).1=(u,v):=⟨_,_,rfl⟩
    rw[a1] at P d;clear a1;go_wp2_with fail;refine P.mono ?_;rintro e ag ⟨b2,ai,rfl,a3,q⟩
    have ba:=cL i (fun k hk=>by obtain⟨bb,al⟩:=fp i k hk;exact q.1.im k _ _ _ al ae ae)
    have bd:aA (∀k,fD ai k->some k≠(Value.slice a2 j c2).ownBlock):=fun k hk e=>(q.2 k hk).elim (fun c=>ab.o k c e) (fun c=>by have:=(cu i k e).2;omega)
    have be:=hide (p.o.trans q)
    have ci:=be.o.1.size;have bg:=hide a3;clear i q p ab W g aV a3;have t:=hide ba;go_wp2_with (at_builtin;refine wpList_append_own_at _ rfl _ _ 57 rfl w.heap.size 97 ao (.agg #[ak 0,ak 0]) 2 16 underlying57 hi ap ar aB rfl ae (.slice a2 j c2) j (ev f) rfl (f9 ba _) ⟨ag.heap.size,0,none⟩ 1 1 [ak u,ak v] rfl rfl ?_ ?_ ?_ ?_ ?_ ?_;(intro j u b;match j,b with|0,b=>(simp at b;subst b;simp[Addr.add])|1,b=>(simp at b;subst b;simp[Addr.add]));(intro u o;simp at o;rcases o with o|o<;>(subst o;rfl));(unfold maxLen;omega);omega;(simp;omega);intro cj b3 bi b5 _ b6;obtain⟨b4,bl,b9⟩:=eT bi (Nat.succ_pos _);subst b9)
    have ca:b3.ownsRow w.heap.size 97 2 (.slice (au b4) (j+1) bl) (j+1) (ev (f++[(u,v)])):=by rw[i4];simpa[ev] using bi
    have am:=aw ag (.cells #[.int .i64 u,.int .i64 v] 97)
    have bn:=(Fr.refl _ _).grown b5 (fun k e=>aM e.symm)
    have cb:=hide ((bg.o.below am).but bn (fun k _ e=>by obtain⟨bb,al⟩:=fp t.o k e;exact⟨⟨bb,(am.block k (cu t.o k e).2).trans al⟩,fun c=>bd.o k c e,aU F.o.eP.size (cu t.o k e).1⟩))
    have cc:=hide ((be.o.trans (fM.of am)).new bn (fun k e=>(cu t.o k e).1))
    have cd:=b6.imp id (fun e=>by simpa[Value.ownBlock] using e)
    have ce:aA (∀k,fD ai k->some k≠some b4):=fun k hk e=>cd.elim (fun c=>bd.o k hk (e.trans c)) (fun c=>by have:=bg.o.fb k hk;simp at e;omega)
    go_wp2_with fail;go_roundw;exact⟨j+1,f++[(u,v)],s2,b2,ai,au b4,bl,aa,aj,d,rfl,ca,cb,cc,ce,a0⟩
    simp[intOf];omega
   ·obtain rfl:j=l.length:=aa;rw[bz] at S;go_wp2_with fail;go_ret;rw[S.o];exact⟨N,m1,a2,c2,rfl,i,W.o,p.o,ab.o⟩
end
end Go.Proofs.YtpkjkjhanlbcoaaGreat
