import Derived.Test.YtpkjkjhanlbcoaaGreatJ19
namespace Go.Proofs.YtpkjkjhanlbcoaaGreat
set_option maxRecDepth 100000
set_option maxHeartbeats 8000000
open Tryz
open Go.RowKit W Kp ck
theorem AU {P:Prop}(h:P:=by rw[World.cell?_setCell_far _ _ _ _ (fun e=>hn e.symm),World.cell?_setCell_far _ _ _ _ (fun e=>hn e.symm)];exact h):P:=h
theorem Ji (w:az):(w.alloc (.cells #[] 97)).ownsRow w.heap.size 97 2 (.slice (au w.heap.size) 0 0) 0 []:=
 ⟨rfl,aL ⟨w.heap.size,0,#[],rfl,aG _,aP _ _,aG _,a4 _,rfl,rfl⟩⟩
theorem rM:(prog.info? 97).map (fun i=>(i.zero,i.size,i.bytes))=some (some (.agg #[ak 0,ak 0]),2,16):=ah
theorem Jj (w:az)(ad:Option Addr)(l:List (Int×Int))(cap:Nat)(h:iD w ad l cap)(hm:l.length<=100000):
 Calls prog 237 #[.slice ad l.length cap] w fun e w'=>∃a1 c1,e=.returned (.slice a1 l.length c1)/\w'.ownsRow w.heap.size 97 2 (.slice a1 l.length c1) l.length (ev l)/\Below w.heap.size w w':=by
 obtain⟨d,hi,f,g,i⟩:=info_parts rM;have o:∀(w:az)(a:Option Addr)(n c:Nat),_=_:=fun w a n c=>Lib.run_eql_slice_nil w _ _ a n c 0 0 underlying57;have j:=hide h.lp;cases ad with
 |none=>
  have hl:=List.eq_nil_of_length_eq_zero (h.nil rfl).1;subst hl;go_enter func237,ntmps237;go_wp2;go_ret;exact⟨none,0,rfl,bc _ _ _ _,aH _ _⟩
 |some a=>
  clear h;go_enter func237,ntmps237;go_wp2_with (at_builtin;refine wpList_append_own _ rfl _ _ 57 rfl w.heap.size 97 d _ 2 16 underlying57 hi f g i rfl ae _ 0 [] rfl (Ji w) a l.length cap (ev l) rfl (kP l) ((j.o.below (b8.alloc b7 _)).cells a rfl) (n5 l) ?_ ?_ ?_ ?_;(unfold maxLen;omega);omega;(simp);intro v w1 b m _)
  rw[List.nil_append,Nat.zero_add] at b;obtain⟨a1,c1,rfl⟩:=eN b;go_wp2;go_ret;exact⟨a1,c1,rfl,b,(b8.alloc b7 _).grown m ac (fun k e=>by cases e;exact aG _)⟩
section
variable {b9:Nat}{ch b_:Int}{l:gU}{s:cn}{w w':az}
theorem AV (T:List cI)(t:cI)(i:Nat):(T++[t]).getD i t0=if i=T.length then t else T.getD i t0:=by
 rw[aJ,aJ,List.getElem?_append];by_cases h:i<T.length
 ·rw[aK h,aI aa]
 ·rw[aI h];by_cases e:i=T.length
  ·subst e;simp
  ·rw[aI e,List.getElem?_eq_none (by simp;omega),List.getElem?_eq_none aa]
theorem oI (T:List cI)(k:Int)(fl:List _)(i:Nat):cz (T++[(k,fl,false,false)]) i↔cz T i\/i=T.length:=by
 unfold cz;rw[AV,a7,List.length_singleton];by_cases e:i=T.length
 ·simp_all
 ·rw[aI e];exact⟨fun h=>aM ⟨aa,h.2⟩,fun h=>h.elim (fun h=>⟨aa,h.2⟩) (fun h=>absurd h e)⟩
theorem dN.new (h:dN b9 ch b_ l s w){kd:Int}{fl:List _}{a:Option Addr}{cp:Nat}(hs:w.heap.size<=w'.heap.size)(hk:∀b,l.own b≠0->l.own b≠1->l.own b≠2->w'.heap[b]?=w.heap[b]?)
 (hb:w'.heap[b9]?=some (.cells #[ak ch,ak b_,.map (some l.mb),ak (s.T.length+1:Nat),ak l.fw,aq l.bp,.slice (au l.rb) 12 12] 187 (0,0)))
 (hM:eF w' l.mb (l.n+1) (jM (ib s.T l.fm) s.T.length (.agg #[ak kd,.slice a fl.length cp])))(q:w'.ownsRow 0 97 2 (.slice a fl.length cp) fl.length (ev fl))
 (hn:∀k,some k=(Value.slice a fl.length cp).ownBlock->l.own k=0):
 ∃o,dN b9 ch b_ o (s.put kd fl) w'/\(∀b,o.own b≠0->l.own b≠0\/some b=(Value.slice a fl.length cp).ownBlock)/\o.rb=l.rb:=by
 have ho:∀b,l.own b≠0->(if some b=(Value.slice a fl.length cp).ownBlock then 10+s.T.length else l.own b)=l.own b:=fun b hb=>aI (fun e=>hb (hn b e))
 have ne:∀i,cz s.T i->i≠s.T.length:=fun i hi e=>by have:=hi.1;omega
 have g:∀i,i≠s.T.length->(s.T++[(kd,fl,false,false)]).getD i t0=s.T.getD i t0:=fun i e=>by rw[AV,aI e]
 have j:(s.T++[(kd,fl,false,false)]).getD s.T.length t0=(kd,fl,false,false):=by simp_all
 have t:jM (ib s.T l.fm) s.T.length (.agg #[ak kd,.slice a fl.length cp])=ib (s.T++[(kd,fl,false,false)]) (fun i=>if i=s.T.length then(a,cp) else l.fm i):=by
  funext x
  unfold jM;by_cases e:x=s.T.length
  ·rw[aK e,jk ⟨aa,(oI _ _ _ _).2 (aL aa)⟩];have m:x.toNat=s.T.length:=aa;dsimp only [ga,eL];rw[m,j,aK rfl]
  ·rw[aI e];by_cases f:0<=x/\cz s.T x.toNat
   ·have m:=ne _ f.2;rw[jk f,jk ⟨f.1,(oI _ _ _ _).2 (aM f.2)⟩];dsimp only [ga,eL];rw[g _ m,aI m]
   ·rw[lR f,lR (fun c=>by
     rcases(oI _ _ _ _).1 c.2 with d|d
     ·simp_all
     ·exact e aa)]
 refine⟨{l with own:=fun b=>if some b=(Value.slice a fl.length cp).ownBlock then 10+s.T.length else l.own b,fm:=fun i=>if i=s.T.length then(a,cp) else l.fm i,n:=l.n+1},?_,fun b hb=>?_,rfl⟩
 ·refine {blk:=?_,bo:=(ho _ (by rw[h.bo];decide)).trans h.bo,g2:=?_,g3:=?_,g4:=?_,lt:=fun b p=>?_}
  ·show _=some (Obj.cells #[_,_,_,ak ((s.T++[(kd,fl,false,false)]).length:Nat),_,_,_] _ _)
   rw[a7,List.length_singleton];exact hb
  ·refine {mp:=?_,mn:=?_,dw:=(ho _ (by rw[h.g2.dw];decide)).trans h.g2.dw,fl:=fun i hi=>?_,e3:=fun i hi k e=>?_,fw:=fun i hi=>?_,al:=?_}
   ·show eF w' l.mb (l.n+1) (ib (s.T++[(kd,fl,false,false)]) _)
    rw[<-t];exact hM
   ·have:=h.g2.mn;show l.n+1<=(s.T++[(kd,fl,false,false)]).length;rw[a7,List.length_singleton];omega
   ·rcases(oI _ _ _ _).1 hi with d|d
    ·dsimp only [eL,cn.put];rw[g i (ne i d),aI (ne i d)];exact cL (h.g2.fl i d) (fun k e=>hk k (by rw[h.g2.e3 i d k e];omega) (by rw[h.g2.e3 i d k e];omega) (by rw[h.g2.e3 i d k e];omega))
    ·dsimp only [eL,cn.put];rw[d,j,aK rfl];exact q
   ·rcases(oI _ _ _ _).1 hi with d|d
    ·dsimp only [eL,cn.put] at e;rw[g i (ne i d),aI (ne i d)] at e;have:=h.g2.e3 i d k e;exact(ho k (by rw[this];omega)).trans this
    ·dsimp only [eL,cn.put] at e;rw[d,j,aK rfl] at e;show(if _ then _ else _)=_;rw[aK e,d]
   ·rcases(oI _ _ _ _).1 hi with d|d
    ·dsimp only [cn.put];rw[g i (ne i d)];exact h.g2.fw i d
    ·have:=h.g2.al;dsimp only [cn.put];rw[d,j];simp;exact this
   ·have:=h.g2.al;show l.fw<=(s.T++[(kd,fl,false,false)]).length;rw[a7,List.length_singleton];omega
  ·have z:=h.g3.keep (fun b hb=>hk b aa aa aa)
   exact {sd:=z.sd,so:=(ho _ (by rw[z.so];decide)).trans z.so,ro:=fun k e=>(ho k (by rw[z.ro k e];decide)).trans (z.ro k e),mB:=fun k e=>(ho k (by rw[z.mB k e];decide)).trans (z.mB k e)}
  ·have z:=h.g4.keep (fun b hb=>hk b aa aa aa)
   exact {rt:=z.rt,rl:=z.rl,ro:=(ho _ (by rw[z.ro];decide)).trans z.ro}
  ·dsimp only at p;split at p
   ·rename_i e;exact(cu q b e).2
   ·exact aO (h.lt b p) hs
 ·dsimp only at hb;split at hb
  ·simp_all
  ·exact aM hb
end
section
variable {b9 rb:Nat}{ch b_:Int}{F:Nat->Prop}{s:cn}{w:az}{g:eM}
theorem Jm (g:eM)(ch b_:Int)(s:cn)(m:Int):(s.room g ch b_ m).2.T.length=s.T.length:=by
 unfold cn.room;split
 ·rfl
 ·unfold cn.cut;split
  ·rfl
  ·exact jK _ _ _
theorem uS {kd:Int}{fl:List (Int×Int)}{ad:Option Addr}{cap:Nat}(h:(cE b9 ch b_ rb).J F s w)(hv:fQ s)(bp:dL s.T s.wt (g s.T s.wt))(g0:-1000000<=b_)(g1:b_<=1000000)(cd:-1000000<=ch)(m1:ch<=1000000)(hl:fl.length<=12)(aB:iD w ad fl cap):
 Calls prog 206 #[aq b9,ak kd,.slice ad fl.length cap] w fun e w'=>∃d,e=.returned (.tuple #[.agg #[ak (s.b_ g ch b_ kd fl).1.1,ak (s.b_ g ch b_ kd fl).1.2],ak (s.b_ g ch b_ kd fl).2.1])/\(cE b9 ch b_ rb).J d (s.b_ g ch b_ kd fl).2.2 w'/\cg F w d w':=by
 have ce:aA (∀b,F b->_):=fun b hb=>(cE b9 ch b_ rb).lt h b hb;have fZ:=ce.o;have cf:=Jm g ch b_ s (1+(fl.length:Int))
 have ci:=hv.tl;have cj:aA (∀j:az,Below w.heap.size w j->∀tb a1 c1,j.heap[w.heap.size]?=some (.cells #[ak 0,ak 0] 97 (0,0))->j.heap[tb]?=some (.cells #[ak kd,.slice a1 fl.length c1] 220 (0,0))->w.heap.size<=tb->j.ownsRow (w.heap.size+1) 97 2 (.slice a1 fl.length c1) fl.length (ev fl)->
  Calls prog 238 #[aq b9,ak (1+(fl.length:Int))] j fun e f=>e=.returned (ak (s.room g ch b_ (1+(fl.length:Int))).1)/\f.heap[w.heap.size]?=some (.cells #[ak 0,ak 0] 97 (0,0))/\f.heap[tb]?=some (.cells #[ak kd,.slice a1 fl.length c1] 220 (0,0))/\f.ownsRow (w.heap.size+1) 97 2 (.slice a1 fl.length c1) fl.length (ev fl)/\
   aA (∃d,(cE b9 ch b_ rb).J d (s.room g ch b_ (1+(fl.length:Int))).2 f/\cg F w d f/\¬d w.heap.size/\¬d tb/\∀k,some k=(Value.slice a1 fl.length c1).ownBlock->¬d k)):=fun j hb tb a1 c1 ai bb ht hr=>by
  refine(Jh ((cE b9 ch b_ rb).below h hb) hv bp g0 g1 cd m1).mono ?_;rintro e f ⟨d,rfl,al,tn⟩
  have bd:∀b,w.heap.size<=b->b<j.heap.size->¬d b:=fun b p S c=>by
   rcases tn.sub b c with q|q
   ·have:=fZ b q;omega
   ·omega
  have kp:∀b,w.heap.size<=b->b<j.heap.size->_=_:=fun b p S=>tn.fr.block b S (fun q=>by have:=fZ b q;omega)
  exact⟨rfl,(kp _ b7 (lt_of_some ai)).trans ai,(kp _ ht (lt_of_some bb)).trans bb,cL hr (fun k e=>kp k (by have:=(cu hr k e).1;omega) (cu hr k e).2),d,al,(cg.of hb).trans tn,bd _ b7 (lt_of_some ai),bd _ ht (lt_of_some bb),fun k e=>bd k (by have:=(cu hr k e).1;omega) (cu hr k e).2⟩
 have aF:aA (∀(w1:az)(a1:Option Addr)(c1:Nat),w1.ownsRow (w.alloc (.cells #[.int .i64 0,.int .i64 0] 97)).heap.size 97 2 (.slice a1 fl.length c1) fl.length (ev fl)->Below (w.alloc (.cells #[.int .i64 0,.int .i64 0] 97)).heap.size (w.alloc (.cells #[.int .i64 0,.int .i64 0] 97)) w1->
  ∀j,Below (w1.alloc (.cells #[.int .i64 kd,.slice a1 fl.length c1] 220)).heap.size (w1.alloc (.cells #[.int .i64 kd,.slice a1 fl.length c1] 220)) j->Calls prog 238 #[aq b9,ak (1+(fl.length:Int))] j fun e f=>e=.returned (ak (s.room g ch b_ (1+(fl.length:Int))).1)/\f.heap[w.heap.size]?=some (.cells #[ak 0,ak 0] 97 (0,0))/\f.heap[w1.heap.size]?=some (.cells #[ak kd,.slice a1 fl.length c1] 220 (0,0))/\w.heap.size<w1.heap.size/\aA (f.ownsRow (w.heap.size+1) 97 2 (.slice a1 fl.length c1) fl.length (ev fl))/\
   aA (∃d,(cE b9 ch b_ rb).J d (s.room g ch b_ (1+(fl.length:Int))).2 f/\cg F w d f/\¬d w.heap.size/\¬d w1.heap.size/\∀k,some k=(Value.slice a1 fl.length c1).ownBlock->¬d k)):=fun w1 a1 c1 hr hb j u=>by
  have ck:=hb.size;have cl:=u.size;simp at ck cl hr;refine(cj.o j (((((aH _ w).alloc b7 _).trans (hb.mono ac)).alloc aa _).trans (u.mono (by simp;omega))) w1.heap.size a1 c1 ((u.block _ (by simp;omega)).trans ((aS _ _ _ aa).trans ((hb.block _ ac).trans (aP w _)))) ((u.block _ ac).trans (aP w1 _)) aa (cL hr (fun k e=>(u.block k (by have:=(cu hr k e).2;simp;omega)).trans (aS _ _ _ (cu hr k e).2)))).mono ?_;rintro e f ⟨rfl,B,N,cm,cn⟩
  exact⟨rfl,B,N,aa,cm,cn⟩
 have P:=Jj (w.alloc (.cells #[.int .i64 0,.int .i64 0] 97)) ad fl cap ⟨aB.lp.below (b8.alloc b7 _),aB.le,aB.nil⟩ aa;have br:∀(k:Int)(a:Option Addr)(n c:Nat),n<=12->∀w:az,_:=fun k a n c hn w=>uM k a n c aa w;have bs:=hide br;have be:aA (s.b_ g ch b_ kd fl=if(s.room g ch b_ (1+(fl.length:Int))).1=0 then((3,((s.room g ch b_ (1+(fl.length:Int))).2.T.length:Int)),0,(s.room g ch b_ (1+(fl.length:Int))).2.put kd fl) else((0,0),(s.room g ch b_ (1+(fl.length:Int))).1,(s.room g ch b_ (1+(fl.length:Int))).2)):=rfl;generalize s.b_ g ch b_ kd fl=R at*;generalize (s.room g ch b_ (1+(fl.length:Int))).1=rc at*;generalize (s.room g ch b_ (1+(fl.length:Int))).2=s2 at*;have cP:(1+(fl.length:Int))<=13:=aa;have cQ:s2.T.length<=10000:=aa;clear br h hv bp aB fZ cf ci;by_cases bt:rc=0
 ·subst bt;have am:aA (R=((3,(s2.T.length:Int)),0,s2.put kd fl)):=be.o.trans (aK rfl)
  clear be;go_enter func206,ntmps206;go_wp2_with fail;refine P.mono ?_;clear P;rintro e w1 ⟨a1,c1,rfl,an,ao⟩
  have ap:aA (_):=aF.o w1 a1 c1 an ao;clear an ao aF;have P:=bs.o kd a1 fl.length c1 hl (w1.alloc (.cells #[.int .i64 kd,.slice a1 fl.length c1] 220))
  go_wp2_with fail;refine P.mono ?_;clear P;rintro e j ⟨rfl,u⟩
  have P:=ap.o j u;clear ap u;go_wp2_with fail;refine P.mono ?_;clear P;rintro e f ⟨rfl,B,N,co,ab,aR⟩
  have bx:aA (f.cell? (av b9 3)=some (ak s2.T.length)/\∀m,Below f.heap.size f m->∃mb i,((m.alloc (.cells #[.int .i64 3,.int .i64 s2.T.length] 97)).cell? (av b9 2)=some (.map (some mb))/\(m.alloc (.cells #[.int .i64 3,.int .i64 s2.T.length] 97)).cell? (av b9 3)=some (ak s2.T.length)/\(m.alloc (.cells #[.int .i64 3,.int .i64 s2.T.length] 97)).cell? (av w1.heap.size 0)=some (ak kd)/\(m.alloc (.cells #[.int .i64 3,.int .i64 s2.T.length] 97)).cell? (av w1.heap.size 1)=some (.slice a1 fl.length c1))/\
   (Instr.mapUpdate 184 (.map (some mb)) (ak s2.T.length) (.agg #[ak kd,.slice a1 fl.length c1])).run prog (m.alloc (.cells #[.int .i64 3,.int .i64 s2.T.length] 97)).drew=.ok () i/\
   (i.cell? (av b9 2)=some (.map (some mb))/\i.cell? (av b9 3)=some (ak s2.T.length)/\i.cell? (av w1.heap.size 0)=some (ak kd)/\i.cell? (av w1.heap.size 1)=some (.slice a1 fl.length c1)/\(∀o,i.frozen? (av b9 o)=false))/\
   (i.cell? (av m.heap.size 0)=some (ak 3)/\i.cell? (av m.heap.size 1)=some (ak s2.T.length))/\i.heap[w.heap.size]?=some (.cells #[ak 0,ak 0] 97 (0,0))/\(b9≠w.heap.size/\b9≠m.heap.size/\m.heap.size≠w.heap.size)/\
   aA (∃d,(cE b9 ch b_ rb).J d (s2.put kd fl) (((i.setCell ⟨b9,3,none⟩ (.int .i64 (s2.T.length+1))).setCell ⟨w.heap.size,0,none⟩ (.int .i64 3)).setCell ⟨w.heap.size,1,none⟩ (.int .i64 s2.T.length))/\cg F w d (((i.setCell ⟨b9,3,none⟩ (.int .i64 (s2.T.length+1))).setCell ⟨w.heap.size,0,none⟩ (.int .i64 3)).setCell ⟨w.heap.size,1,none⟩ (.int .i64 s2.T.length)))):=by
   obtain⟨d,⟨l,gv,cq,aV⟩,tn,n1,cr,b0⟩:=aR.o;have c:=gv.cells;refine⟨c.2.2.2.1,fun m ar=>?_⟩
   have cs:=c.2.2.2.2.2.2.2.2;have cR:=tn.fr.size;have b1:=ar.size;have W:Below f.heap.size f (m.alloc (.cells #[.int .i64 3,.int .i64 s2.T.length] 97)):=ar.alloc b1 _;have ct:=gv.below W;have ca:=ct.cells;have cv:=(W.block w1.heap.size (lt_of_some N)).trans N;obtain⟨cw,cx,_,_⟩:=dq cv;obtain⟨i,bg,hM,gr⟩:=(gv.below W.drew).g2.mp.put (t:=184) (e:=220) underlying184 (by have:=gv.g2.mn;omega) (x:=s2.T.length) aa aa (.agg #[ak kd,.slice a1 fl.length c1])
   have a0:∀b,¬d b->l.own b=0:=fun b hb=>by
    cases e:l.own b
    ·rfl
    ·exact absurd ((aV b).2 (by rw[e];omega)) hb
   have bi:=a0 _ n1;have o1:=a0 _ cr;have b2:b9≠l.mb:=fun e=>by have p:=gv.bo;rw[e,gv.g2.dw] at p;omega
   have b3:w.heap.size≠l.mb:=fun e=>by rw[e,gv.g2.dw] at bi;omega
   have cy:w1.heap.size≠l.mb:=fun e=>by rw[e,gv.g2.dw] at o1;omega
   have bl:b9≠w.heap.size:=fun e=>by have p:=gv.bo;rw[e,bi] at p;omega
   have lm:_:=gv.lt _ (by rw[gv.g2.dw];decide)
   have l0:=lt_of_some B;have l1:=lt_of_some N;have k5:∀b,b<m.heap.size+1->b≠l.mb->_=_:=fun b hb hn=>gr.block b (by simp;omega) (fun e=>hn (Option.some.inj e))
   have ag:∀b,b<f.heap.size->b≠l.mb->_=_:=fun b hb hn=>(k5 b aa hn).trans (W.block b hb)
   have a2:=(ag b9 cs b2).trans gv.blk;have cz:=(k5 m.heap.size aa aa).trans (aP m _)
   obtain⟨b4,y1,_,_⟩:=dq cz;obtain⟨cA,t3,_,_⟩:=dq ((ag _ l1 cy).trans N)
   have b5:i.heap.size=(((i.setCell ⟨b9,3,none⟩ (.int .i64 (s2.T.length+1))).setCell ⟨w.heap.size,0,none⟩ (.int .i64 3)).setCell ⟨w.heap.size,1,none⟩ (.int .i64 s2.T.length)).heap.size:=ac;have cB:_:=aU (aU b1 ac) gr.size;have a3:∀b,b≠b9->b≠w.heap.size->(((i.setCell ⟨b9,3,none⟩ (.int .i64 (s2.T.length+1))).setCell ⟨w.heap.size,0,none⟩ (.int .i64 3)).setCell ⟨w.heap.size,1,none⟩ (.int .i64 s2.T.length)).heap[b]?=i.heap[b]?:=fun b p S=>(aW _ _ _ _ S).trans ((aW _ _ _ _ S).trans (aW _ _ _ _ p))
   refine⟨l.mb,i,⟨ca.2.2.1,ca.2.2.2.1,cw,cx⟩,bg,⟨by simp[World.cell?,a2],by simp[World.cell?,a2],cA,t3,fun o=>by simp[World.frozen?,a2]⟩,⟨b4,y1⟩,(ag _ l0 b3).trans B,⟨bl,aa,aa⟩,?_⟩
   obtain⟨b6,cC,cD,cF⟩:=gv.new (kd:=kd) (fl:=fl) (a:=a1) (cp:=c1) (aU cB (Nat.le_of_eq b5)) (fun b h0 p S=>(a3 b (fun e=>p (by rw[e];exact gv.bo)) (fun e=>h0 (by rw[e];exact bi))).trans (ag b (gv.lt b h0) (fun e=>S (by rw[e];exact gv.g2.dw)))) (by
    rw[aW _ _ _ _ bl,aW _ _ _ _ bl];simp only [World.setCell,Array.getElem?_modify,if_true,a2,Option.map_some];rfl) (hM.same (a3 _ b2.symm b3.symm)) (cL (e8 ab.o (fun k e=>a4 _)) (fun k e=>by
     have ok:=a0 k (b0 k e)
     have hk:=cu ab.o k e;exact(a3 k (fun q=>by have p:=gv.bo;rw[<-q,ok] at p;omega) aa).trans (ag k hk.2 (fun q=>by have p:=gv.g2.dw;rw[<-q,ok] at p;omega)))) (fun k e=>a0 k (b0 k e))
   refine⟨fun b=>b6.own b≠0,⟨b6,cC,cF.trans cq,fun _=>Iff.rfl⟩,⟨⟨?_,?_,?_,by rw[<-b5];omega,fun k hk hn=>?_⟩,fun b hb=>?_⟩⟩
   ·exact(show _=i.os from rfl).trans (gr.os.trans (W.os.trans tn.fr.os))
   ·exact(show _=i.tape from rfl).trans (gr.tape.trans (W.tape.trans tn.fr.tape))
   ·exact(show _=i.output from rfl).trans (gr.output.trans (W.output.trans tn.fr.output))
   ·have cb:∀b,d b->b<w.heap.size->F b:=fun b p S=>(tn.sub b p).resolve_right aa;exact(a3 k (fun e=>hn (cb k ((aV k).2 (by rw[e,gv.bo];decide)) hk)) aa).trans ((ag k aa (fun e=>hn (cb k ((aV k).2 (by rw[e,gv.g2.dw];decide)) hk))).trans (tn.fr.block k hk hn))
   ·rcases cD b hb with q|q
    ·exact tn.sub b ((aV b).2 q)
    ·exact aL (by have:=(cu ab.o b q).1;omega)
  clear ab aR B N;obtain⟨cG,ba⟩:=bx.o;have ba:aA (_):=ba;clear bx;have P:=oG s2.T.length f;go_wp2_with fail;refine P.mono ?_;clear P;rintro e m ⟨rfl,ar⟩
  obtain⟨mb,i,⟨cH,cI,q0,q1⟩,bg,⟨cJ,cS,v0,v1,cc⟩,⟨b4,y1⟩,bn,⟨cK,cT,cU⟩,cM⟩:=ba.o m ar;have cV:=cc 3;obtain⟨cN,ai,cO,lw⟩:=dq bn;have bo:aA (_=_):=bn;clear ar ba bn cG cc;go_wp2_with fail
  go_region_held3 (fun w'=>w'.cell? (av b9 2)=some (.map (some mb))/\w'.cell? (av b9 3)=some (ak s2.T.length)/\w'.cell? (av w1.heap.size 0)=some (ak kd)/\w'.cell? (av w1.heap.size 1)=some (.slice a1 fl.length c1)) (go_keep) (fail)
  all_goals
   clear cH cI q0 q1 bg cJ v0 v1;go_wp2_with fail;obtain⟨r0,r1,_,_⟩:=dq (gN (v1:=ak 3) (v2:=ak s2.T.length) ((aW i ⟨b9,3,none⟩ (ak (s2.T.length+1)) w.heap.size cK.symm).trans bo.o))
   obtain⟨d,al,tn⟩:=cM.o;exact a5 (v:=.tuple #[.agg #[ak 3,ak s2.T.length],ak 0]) (by simp[results,results206,go_sem,r0,r1]) rfl ⟨d,by rw[am.o],by rw[am.o];exact al,tn⟩
 ·have am:=hide (be.o.trans (aI bt))
  go_enter func206,ntmps206;go_wp2_with fail;refine P.mono ?_;clear P;rintro e w1 ⟨a1,c1,rfl,an,ao⟩
  have ap:aA (_):=aF.o w1 a1 c1 an ao;clear an ao aF;have P:=bs.o kd a1 fl.length c1 hl (w1.alloc (.cells #[.int .i64 kd,.slice a1 fl.length c1] 220))
  go_wp2_with fail;refine P.mono ?_;clear P;rintro e j ⟨rfl,u⟩
  have P:=ap.o j u;clear ap u;go_wp2_with fail;refine P.mono ?_;clear P;rintro e f ⟨rfl,B,N,co,ab,aR⟩
  obtain⟨cN,ai,cO,lw⟩:=dq B;have bo:aA (_=_):=B;clear B N ab;go_wp2_with fail;obtain⟨r0,r1,_,_⟩:=dq (gN (v1:=ak 0) (v2:=ak 0) bo.o)
  obtain⟨d,al,tn,n1,_⟩:=aR.o;exact a5 (v:=.tuple #[.agg #[ak 0,ak 0],ak rc]) (by simp[results,results206,go_sem,r0,r1]) rfl ⟨d,by rw[am.o],by rw[am.o];exact(cE b9 ch b_ rb).set2 al n1 _ _,tn.set2 b7 _ _⟩
end
theorem Jn {P:Program}(w:az)(c g ty b:TypeId)(d a:Option Addr)(e j f k:Nat)(l:P.underlying c=some (.slice b))(hs:(P.info? b).map (·.size)=some 2)(hn:Nat.min f e=0):
 (Builtin.copy_ #[c,g] ty #[.slice d e j,.slice a f k]).run P w=.ok (goInt 0) w:=by
 cases hq:P.info? b with
 |none=>simp[hq] at hs
 |some i=>
  have hl:∀(x:Addr),(loadCells x 0).run P w=.ok #[] w:=fun x=>by simpa using run_loadCells_list (P:=P) w x [] ac
  cases d<;>cases a<;>simp[Builtin.copy_,run_underlying l,Builtin.lenOf,Builtin.firstCells,sizeOf,typeInfo,hq,hn,storeCells,hl]
theorem Jp {P:Program}(w:az)(e l ty d:TypeId)(g o f m:Nat)(a:Addr)(k p:Nat)(c:Array Value)(t:TypeId)(b:List Value)(n:Nat)
 (q:P.underlying e=some (.slice d))(hs:(P.info? d).map (·.size)=some 2)
 (hg:w.heap[g]?=some (.cells c t (0,0)))(hm:n=Nat.min k f)(hn:b.length=n*2)
 (s:∀j v,b[j]?=some v->w.cell? (a.add j)=some v)(u:o+b.length<=c.size)(x:∀v∈b,v.oneCell'=true):
 (Builtin.copy_ #[e,l] ty #[.slice (some ⟨g,o,none⟩) f m,.slice (some a) k p]).run P w=
   .ok (goInt n) (w.setRow g (c.toList.take o++b++c.toList.drop (o+b.length)).toArray):=by
 have hl:=run_loadCells_list (P:=P) w a b s;have B:=run_storeCells_at P g o t b 0 c w hg (by simpa using u) x;rw[hn] at hl;cases hq:P.info? d with
 |none=>simp[hq] at hs
 |some i=>
  have hi:i.size=2:=by simpa[hq] using hs
  simp[Builtin.copy_,run_underlying q,Builtin.lenOf,Builtin.firstCells,sizeOf,typeInfo,hq,hi,<-hm,hl,B]
theorem AW {P:Program}{ops:Array Oper}{o:Oper}{a:Act}{w:az}{K:Act->az->Prop}{Q:Exit->Act->az->Prop}{E:Prop}(N:o.guard=none)(x s:Operand)(c l d:TypeId)
 (ho:o.op=.call {callee:=.builtin .copy,args:=#[x,s],argTypes:=#[c,l]})(B:P.underlying c=some (.slice d))(F:(P.info? d).map (·.size)=some 2)
 (m sp:Option Addr)(e p f q:Nat)(hd:a.eval x=.slice m e p)(hs:a.eval s=.slice sp f q)
 (g i:Nat)(k:List Value)(t:TypeId)(hg:w.heap[g]?=some (.cells k.toArray t (0,0)))(b:List Value)(n:Nat)(hm:n=Nat.min f e)(hn:b.length=n*2)
 (S:0<n->m=some ⟨g,i,none⟩/\∃ad,sp=some ad/\∀j v,b[j]?=some v->w.cell? (ad.add j)=some v)
 (W:i+b.length<=k.length)(ab:∀v∈b,v.oneCell'=true)
 (h:∀w',ly w w' g k i b->K (a.put o.dst (goInt n)) w'):
 if Region.wanted o (yielded ops a.tmps)=true then Oper.wp P o a w K Q else E:=by
 rw[aK (show Region.wanted o (yielded ops a.tmps)=true by simp[Region.wanted,N])];rcases Nat.eq_zero_or_pos n with h0|h0
 ·subst h0;have ag:b=[]:=List.eq_nil_of_length_eq_zero aa;subst ag;have u:=Jn (P:=P) w c l o.type d m sp e p f q B F hm.symm;unfold Oper.wp;simp[execOp,ho,resolve,invoke,builtin,hd,hs,u,Result.andThen];exact h w (aM ⟨rfl,rfl⟩)
 ·obtain⟨ai,ad,al,am⟩:=S h0;subst ai al;have u:=Jp (P:=P) w c l o.type d g i e p ad f q k.toArray t b n B F hg hm hn am (by simpa using W) ab;unfold Oper.wp;simp[execOp,ho,resolve,invoke,builtin,hd,hs,u,Result.andThen];exact h _ (aL (by simp[splice]))
theorem Jq {P:Program}{ops:Array Oper}{q:List Oper}{o:Oper}{a:Act}{w:az}{Q:Exit->Act->az->Prop}(e:o.guard=none)(f s:Operand)(i u k:TypeId)
 (ho:o.op=.call {callee:=.builtin .copy,args:=#[f,s],argTypes:=#[i,u]})(F:P.underlying i=some (.slice k))(N:(P.info? k).map (·.size)=some 2)
 (l sp:Option Addr)(m x p B:Nat)(hd:a.eval f=.slice l m x)(hs:a.eval s=.slice sp p B)
 (g c:Nat)(d:List Value)(t:TypeId)(hg:w.heap[g]?=some (.cells d.toArray t (0,0)))(b:List Value)(n:Nat)(hm:n=Nat.min p m)(hn:b.length=n*2)
 (S:0<n->l=some ⟨g,c,none⟩/\∃ad,sp=some ad/\∀j v,b[j]?=some v->w.cell? (ad.add j)=some v)
 (W:c+b.length<=d.length)(ab:∀v∈b,v.oneCell'=true)
 (h:∀w',ly w w' g d c b->wpList P ops Q q (a.put o.dst (goInt n)) w'):wpList P ops Q (o::q) a w:=
 wpList_plain e fun K ag=>by
  have:=AW (P:=P) (ops:=#[]) (o:=o) (a:=a) (w:=w) (K:=K) (Q:=Q) (E:=False) e f s i u k ho F N l sp m x p B hd hs g c d t hg b n hm hn S W ab (fun w' hw=>ag _ _ (h w' hw))
  rwa [aK (show Region.wanted o (yielded #[] a.tmps)=true by simp[Region.wanted,e])] at this
theorem Jr (c:Nat)(hc:c<=12)(w:az):Calls prog 223 #[.int .u64 1,.int .u64 c] w fun e w'=>e=.returned (.tuple #[.int .u64 0,.int .u64 c])/\w'=w:=by exact zW
theorem Jt (c:Nat)(hc:c<=12)(w:az):Calls prog 167 #[.int .u64 1,.int .u64 c] w fun e w'=>e=.returned (.tuple #[.int .u64 0,.int .u64 c])/\w'=w:=by have P:=Jr c hc w;exact zX
def gK (c:Nat)(v:Int×Int)(n:Nat):List (Int×Int):=List.replicate n v++List.replicate (c-n) (0,0)
theorem AX (c:Nat)(v:Int×Int)(n:Nat)(h:n<=c):(gK c v n).length=c:=by simp[gK];omega
theorem k9 (n:Nat)(v:Int×Int):(ev (List.replicate n v)).length=n*2:=by rw[kP,List.length_replicate]
theorem Ju (c:Nat)(v:Int×Int)(n m:Nat)(h:n+m<=c):splice (ev (gK c v n)) (n*2) (ev (List.replicate m v))=ev (gK c v (n+m)):=by
 unfold splice gK;have b:(List.replicate (c-n) ((0:Int),(0:Int)))=List.replicate m (0,0)++List.replicate (c-(n+m)) (0,0):=by
  rw[List.replicate_append_replicate]
  congr 1
  omega
 have d:List.drop (n*2+m*2) (ev (List.replicate n v)++(ev (List.replicate m ((0:Int),(0:Int)))++ev (List.replicate (c-(n+m)) (0,0))))=ev (List.replicate (c-(n+m)) (0,0)):=by rw[<-bw];exact List.drop_left' (by rw[a7,k9,k9])
 rw[i4,List.take_left' (k9 n v),k9,b,i4,d,<-List.replicate_append_replicate,i4,i4,bw]
theorem Jv (c:Nat)(v:Int×Int)(n m:Nat)(hm:m<=n):∃r,ev (gK c v n)=ev (List.replicate m v)++r:=by
 refine⟨ev (List.replicate (n-m) v)++ev (List.replicate (c-n) (0,0)),?_⟩
 unfold gK;rw[<-bw,<-i4,List.replicate_append_replicate,<-i4]
 congr 3
 omega
theorem Jw {c:Nat}{w:az}{nb n:Nat}{v:Int×Int}(hr:w.heap[nb]?=some (.cells (ev (gK c v n)).toArray 97 (0,0)))(m:Nat)(hm:m<=n):∀j u,(ev (List.replicate m v))[j]?=some u->w.cell? ((⟨nb,0,none⟩:Addr).add j)=some u:=by
 intro j u b;obtain⟨r,e⟩:=Jv c v n m hm;have d:=(List.getElem?_eq_some_iff.1 b).1;rw[Addr.add_lit];have:(ev (gK c v n))[j]?=some u:=by rw[e,List.getElem?_append_left d];exact b
 rw[Nat.zero_add];simp[World.cell?,hr,this]
theorem AY {c:Nat}{w w':az}{nb n m B:Nat}{v:Int×Int}(b:ly w w' nb (ev (gK c v n)) (n*2) (ev (List.replicate m v)))(hr:w.heap[nb]?=some (.cells (ev (gK c v n)).toArray 97 (0,0)))(h:n+m<=c)(hB:B<=nb):w'.heap[nb]?=some (.cells (ev (gK c v (n+m))).toArray 97 (0,0))/\Below B w w':=by
 rcases b with⟨h0,rfl⟩|rfl
 ·have:=congrArg List.length h0;rw[k9] at this
  simp only [List.length_nil] at this
  obtain rfl:m=0:=aa;exact⟨hr,aH _ _⟩
 ·rw[Ju c v n m h];exact⟨setRow_heap w nb _ _ _ _ hr,⟨rfl,rfl,rfl,by simp[World.setRow],fun k hk=>setRow_other w nb k _ aa⟩⟩
theorem AZ:(prog.info? 97).map (·.size)=some 2:=ah
theorem Jx {w:az}{b k n:Nat}(hn:n<=12)(h:w.ownsRow b 97 2 (.slice (au k) n n) n (madeCells (Value.agg #[ak 0,ak 0]).cells (n*2)).toList):
 w.heap[k]?=some (.cells (ev (List.replicate n (0,0))).toArray 97 (0,0)):=by
 obtain⟨j,d⟩:=h;rcases d with⟨e,_⟩|⟨m,cap,c,hv,hb,f,o,p,q,g⟩
 ·cases e
 ·cases hv;rw[f];have:c.toList=ev (List.replicate n (0,0)):=by rw[<-List.take_of_length_le (l:=c.toList) (i:=n*2) (by simp;omega),g];rcases(show n=0\/n=1\/n=2\/n=3\/n=4\/n=5\/n=6\/n=7\/n=8\/n=9\/n=10\/n=11\/n=12 by omega) with rfl|rfl|rfl|rfl|rfl|rfl|rfl|rfl|rfl|rfl|rfl|rfl|rfl<;>kernel_rfl
  rw[<-this]
theorem Jy {w:az}{b:Nat}{v:Int×Int}{m:Nat}(hm:m<=1)(h0:w.cell? (av b 0)=some (ak v.1))(d:w.cell? (av b 1)=some (ak v.2)):∀j u,(ev (List.replicate m v))[j]?=some u->w.cell? ((⟨b,0,none⟩:Addr).add j)=some u:=by
 intro j u c;have e:=(List.getElem?_eq_some_iff.1 c).1;rw[k9] at e;obtain rfl:m=1:=aa
 match j,c with
 |0,c=>simp[ev] at c;rw[<-c];simpa[Addr.add] using h0
 |1,c=>simp[ev] at c;rw[<-c];simpa[Addr.add] using d
 |j+2,_=>omega
theorem A0 (w:az)(b c:Nat)(v:Int×Int)(F:c<=12)(N:w.cell? (av b 0)=some (ak v.1))(aF:w.cell? (av b 1)=some (ak v.2)):
 Calls prog 131 #[.slice (au b) 1 1,ak c] w fun e w'=>∃nb,e=.returned (.slice (au nb) c c)/\w.heap.size<=nb/\w'.heap[nb]?=some (.cells (ev (List.replicate c v)).toArray 97 (0,0))/\Below w.heap.size w w':=by
 obtain⟨S,hi,aR,aV,a0⟩:=info_parts rM;have lb:=aT w _ N;dsimp only at lb;have W:=Jt c F w;have a1:aA (gK c v c=List.replicate c v):=by show _=_;simp[gK]
 have c1:(c:Int)<=12:=aa;go_enter func131,ntmps131;go_wp2_with fail;refine W.mono ?_;clear W;rintro e w0 ⟨rfl,hw⟩
 have hw:=hw.symm;subst hw
 go_upto_region 7 with(at_make;refine wpList_make_full _ rfl _ _ 57 rfl w.heap.size 97 S (.agg #[ak 0,ak 0]) 2 underlying57 hi aR aV .i64 .i64 _ _ c rfl rfl aa aa (by rw[a0];omega) (by unfold maxLen;omega) b7 ?_;intro w1 ab ad)
 have hr:w1.heap[w.heap.size]?=some (.cells (ev (gK c v 0)).toArray 97 (0,0)):=by have a2:=Jx F ab;simpa[gK] using a2
 have i:Below w.heap.size w w1:=(aH _ w).grown ad b7 (fun _ h=>by cases h)
 have ag:=(i.cell (p:=av b 0) lb).trans N;have ai:=(i.cell (p:=av b 1) lb).trans aF;clear ab ad;have o:Nat.min 1 c<=1:=Nat.min_le_left _ _;have d:Nat.min 1 c<=c:=Nat.min_le_right _ _;have k:0<c->1<=Nat.min 1 c:=fun h=>by simp only [Nat.min_def];split<;>omega
 have f:aA (∀j u,(ev (List.replicate (Nat.min 1 c) v))[j]?=some u->w1.cell? ((⟨b,0,none⟩:Addr).add j)=some u):=Jy o ag ai;have q:aA (w1.heap[w.heap.size]?=some (.cells (ev (gK c v 0)).toArray 97 (0,0))):=hr;have g:aA (0*2+(ev (List.replicate (Nat.min 1 c) v)).length<=(ev (gK c v 0)).length):=by show _<=_;rw[k9,kP,AX c v 0 aa];omega
 clear ag ai hr;go_wp2_with (refine Jq rfl _ _ 57 57 97 rfl underlying57 AZ (au w.heap.size) (au b) c c 1 1 rfl rfl w.heap.size (0*2) (ev (gK c v 0)) 97 q.o (ev (List.replicate (Nat.min 1 c) v)) (Nat.min 1 c) rfl (k9 _ _) (fun _=>⟨rfl,_,rfl,f.o⟩) g.o (n5 _) ?_;intro bg al)
 obtain⟨s,am⟩:=AY (B:=w.heap.size) al q.o aa b7
 rw[Nat.zero_add] at s;have an:=i.trans am;have t:aA (Nat.min 1 c<=c/\(0<c->1<=Nat.min 1 c)):=⟨d,k⟩
 clear al f q g i am o d k;generalize Nat.min 1 c=a3 at*
 go_loopw [8] (fun nv wr=>∃n:Nat,(0<c->1<=n)/\n<=c/\nv=ak n/\aA (wr.heap[w.heap.size]?=some (.cells (ev (gK c v n)).toArray 97 (0,0)))/\Below w.heap.size w wr) (fun nv _=>c-(intOf nv).toNat)
 case atStart=>exact⟨a3,t.o.2,t.o.1,rfl,s,an⟩
 case round=>
  clear s an t;obtain⟨n,n1,ba,rfl,x,hb⟩:=hrel;by_cases bi:n<c
  ·have n1:=n1 aa;obtain⟨m,hm,o,d,k⟩:∃m,m=Nat.min n (c-n)/\0<m/\n+m<=c/\m<=n:=⟨_,rfl,by simp only [Nat.min_def];split<;>omega,by simp only [Nat.min_def];split<;>omega,by simp only [Nat.min_def];split<;>omega⟩
   have l:aA (wr.drew.heap[w.heap.size]?=some (.cells (ev (gK c v n)).toArray 97 (0,0))):=x.o;have f:aA (∀j u,(ev (List.replicate m v))[j]?=some u->wr.drew.cell? ((⟨w.heap.size,0,none⟩:Addr).add j)=some u):=Jw l.o m k;have g:aA (n*2+(ev (List.replicate m v)).length<=(ev (gK c v n)).length):=by show _<=_;rw[k9,kP,AX c v n ba];omega
   have bl:¬c=n:=aa;have S:(0:Int)<=(n:Int):=aa;have bn:(n:Int)<=(c:Int):=aa;have bo:(n:Int)<(c:Int):=aa;clear x;go_wp2_with fail
   go_region_law (refine AW rfl (.tmp 41) (.tmp 44) 57 57 97 rfl underlying57 AZ (some ⟨w.heap.size,n*2,none⟩) (au w.heap.size) (c-n) (c-n) n c ?_ ?_ w.heap.size (n*2) (ev (gK c v n)) 97 l.o (ev (List.replicate m v)) m hm (k9 _ _) (fun _=>⟨rfl,_,rfl,f.o⟩) g.o (n5 _) ?_;(simp[Act.eval,Act.put]);(simp[Act.eval,Act.put]);intro bb ao)
   obtain⟨ap,ar⟩:=AY (B:=w.heap.size) ao l.o d b7
   have bd:aA (bb.heap[w.heap.size]?=some (.cells (ev (gK c v (n+m))).toArray 97 (0,0))):=ap;have be:=hb.drew.trans ar;have hw:IntKind.i64.wrap ((n:Int)+(m:Int))=((n+m:Nat):Int):=by rw[bu];omega
   clear ap ar ao l f g hb;simp[Act.put,go_sem,Exit.inBlock];rw[<-hm,hw];refine⟨⟨_,_,_,_,_,_,_,_,_,_,_,_,_,_,?rel,rfl⟩,?measure⟩
   case rel=>exact⟨n+m,fun _=>aa,d,rfl,bd,be⟩
   case measure=>simp[intOf];omega
  ·obtain rfl:n=c:=aa;have aB:=x.o;rw[a1.o] at aB;go_wp2_with fail;go_ret;exact⟨w.heap.size,rfl,aG _,aB,hb⟩
section
variable {b9 rb:Nat}{ch b_:Int}{F:Nat->Prop}{s:cn}{w:az}{g:eM}
theorem Jz (g:List Bool->List Bool)(s:cn)(b_:Int)(mj:Bool):(s.cut g b_ mj).rs=s.rs:=by unfold cn.cut;split<;>rfl
theorem A1 (g:eM)(ch b_:Int)(s:cn)(m:Int):(s.room g ch b_ m).2.rs=s.rs:=by
 unfold cn.room;split
 ·rfl
 ·exact Jz _ _ _ _
theorem uT (g:eM)(ch b_:Int)(s:cn)(kd:Int)(fl:List _):(s.b_ g ch b_ kd fl).2.2.rs=s.rs:=by
 unfold cn.b_;split
 ·exact A1 _ _ _ _ _
 ·exact A1 _ _ _ _ _
theorem JA (s:cn)(v:Int×Int):(s.pop v).2.2.rs=s.rs:=by
 unfold cn.pop;split
 ·split<;>rfl
 ·rfl
theorem ki (h:(cE b9 ch b_ rb).J F s w):w.cell? (av b9 6)=some (.slice (au rb) 12 12)/\(∀i,i<12->w.cell? (av rb (i*2))=some (ak (s.rs.getD i (0,0)).1)/\w.cell? (av rb (i*2+1))=some (ak (s.rs.getD i (0,0)).2))/\F b9/\F rb:=by obtain⟨l,h,rfl,b⟩:=h;have c:=h.g4.cells.2.2;exact⟨h.cells.2.2.2.2.2.2.1,fun i hi=>⟨(c i hi).1,(c i hi).2.1⟩,(b _).2 (by rw[h.bo];decide),(b _).2 (by rw[h.g4.ro];decide)⟩
theorem fz {w:az}{b c o:Nat}{x v0 v1:Value}(hn:b≠c)(h:w.cell? (av b o)=some x):((w.setCell ⟨c,0,none⟩ v0).setCell ⟨c,1,none⟩ v1).cell? (av b o)=some x:=by exact AU
theorem uU (h:(cE b9 ch b_ rb).J F s w)(hv:fQ s)(N:dL s.T s.wt (g s.T s.wt))(g0:-1000000<=b_)(g1:b_<=1000000)(aF:-1000000<=ch)(m1:ch<=1000000)(R I n:Int){k kd:Int}(hk:k=4/\kd=1\/k=6/\kd=3\/k=7/\kd=4)(A B:Nat)(o:A<12)(hB:B<12):
 Calls prog 136 #[aq b9,d5 k R A B I n] w fun e w'=>∃d,e=.returned (.tuple #[.agg #[ak (s.b_ g ch b_ kd [s.rs.getD A (0,0),s.rs.getD B (0,0)]).1.1,ak (s.b_ g ch b_ kd [s.rs.getD A (0,0),s.rs.getD B (0,0)]).1.2],ak (s.b_ g ch b_ kd [s.rs.getD A (0,0),s.rs.getD B (0,0)]).2.1])/\(cE b9 ch b_ rb).J d (s.b_ g ch b_ kd [s.rs.getD A (0,0),s.rs.getD B (0,0)]).2.2 w'/\cg F w d w':=by
 have fZ:∀b,F b->b<w.heap.size:=fun b hb=>(cE b9 ch b_ rb).lt h b hb;have p:Below w.heap.size w ((w.alloc (cG k R A B I n)).alloc (.cells #[.int .i64 0,.int .i64 0] 97)):=(b8.alloc b7 _).alloc ac _;have q:((w.alloc (cG k R A B I n)).alloc (.cells #[.int .i64 0,.int .i64 0] 97)).heap[w.heap.size]?=some (cG k R A B I n):=(aS _ _ _ ac).trans (aP w _)
 have S:=gb w (cG k R A B I n) (.cells #[.int .i64 0,.int .i64 0] 97)
 obtain⟨aR,rt,W,ab⟩:=ki ((cE b9 ch b_ rb).below h p)
 obtain⟨aV,a2⟩:=rt A o;obtain⟨a3,ba⟩:=rt B hB;obtain⟨q0,q1,bb,q3,bd,be⟩:=el q;have bx:=fZ _ W;have b0:=fZ _ ab;have ag:((w.alloc (cG k R A B I n)).alloc (.cells #[.int .i64 0,.int .i64 0] 97)).heap.size=w.heap.size+1+1:=ac;have t:Calls prog 206 #[aq b9,ak kd,.slice (au (w.heap.size+1+1)) 2 2] (((w.alloc (cG k R A B I n)).alloc (.cells #[.int .i64 0,.int .i64 0] 97)).drew.alloc (.cells #[.int .i64 (s.rs.getD A (0,0)).1,.int .i64 (s.rs.getD A (0,0)).2,.int .i64 (s.rs.getD B (0,0)).1,.int .i64 (s.rs.getD B (0,0)).2] 97)) fun e c=>∃d,e=.returned (.tuple #[.agg #[ak (s.b_ g ch b_ kd [s.rs.getD A (0,0),s.rs.getD B (0,0)]).1.1,ak (s.b_ g ch b_ kd [s.rs.getD A (0,0),s.rs.getD B (0,0)]).1.2],ak (s.b_ g ch b_ kd [s.rs.getD A (0,0),s.rs.getD B (0,0)]).2.1])/\
  (c.cell? (av b9 6)=some (.slice (au rb) 12 12)/\c.cell? (av rb (A*2))=some (ak (s.rs.getD A (0,0)).1)/\c.cell? (av rb (A*2+1))=some (ak (s.rs.getD A (0,0)).2)/\c.cell? (av rb (B*2))=some (ak (s.rs.getD B (0,0)).1)/\c.cell? (av rb (B*2+1))=some (ak (s.rs.getD B (0,0)).2)/\c.cell? (av w.heap.size 2)=some (ak A)/\c.cell? (av w.heap.size 3)=some (ak B))/\
  c.heap[w.heap.size+1]?=some (.cells #[ak 0,ak 0] 97 (0,0))/\aA ((cE b9 ch b_ rb).J d (s.b_ g ch b_ kd [s.rs.getD A (0,0),s.rs.getD B (0,0)]).2.2 c/\cg F w d c/\¬d (w.heap.size+1)):=by
  have b1:Below w.heap.size w (((w.alloc (cG k R A B I n)).alloc (.cells #[.int .i64 0,.int .i64 0] 97)).drew.alloc (.cells #[.int .i64 (s.rs.getD A (0,0)).1,.int .i64 (s.rs.getD A (0,0)).2,.int .i64 (s.rs.getD B (0,0)).1,.int .i64 (s.rs.getD B (0,0)).2] 97)):=p.drew.alloc (by simp;omega) _;have u:(((w.alloc (cG k R A B I n)).alloc (.cells #[.int .i64 0,.int .i64 0] 97)).drew.alloc (.cells #[.int .i64 (s.rs.getD A (0,0)).1,.int .i64 (s.rs.getD A (0,0)).2,.int .i64 (s.rs.getD B (0,0)).1,.int .i64 (s.rs.getD B (0,0)).2] 97)).heap.size=w.heap.size+1+1+1:=ac;have hn:=aP ((w.alloc (cG k R A B I n)).alloc (.cells #[.int .i64 0,.int .i64 0] 97)).drew (.cells #[.int .i64 (s.rs.getD A (0,0)).1,.int .i64 (s.rs.getD A (0,0)).2,.int .i64 (s.rs.getD B (0,0)).1,.int .i64 (s.rs.getD B (0,0)).2] 97)
  have ai:((w.alloc (cG k R A B I n)).alloc (.cells #[.int .i64 0,.int .i64 0] 97)).drew.heap.size=w.heap.size+1+1:=ag;rw[ai] at hn;refine(uS (g:=g) (kd:=kd) (fl:=[s.rs.getD A (0,0),s.rs.getD B (0,0)]) (ad:=au (w.heap.size+1+1)) (cap:=2) ((cE b9 ch b_ rb).below h b1) hv N g0 g1 aF m1 ac ⟨fun _=>⟨w.heap.size+1+1,0,rfl,by rw[u];omega,fun i hi=>?_⟩,ac,fun e=>by cases e⟩).mono ?_
  ·have hi:i<2:=hi;rcases(show i=0\/i=1 by omega) with rfl|rfl<;>simp only [World.cell?,hn]<;>exact⟨rfl,rfl⟩
  ·rintro e c ⟨d,rfl,al,tn⟩
   obtain⟨l,j,_,_⟩:=ki al;rw[uT] at j;have kp:∀b,w.heap.size<=b->b<w.heap.size+1+1->c.heap[b]?=((w.alloc (cG k R A B I n)).alloc (.cells #[.int .i64 0,.int .i64 0] 97)).heap[b]?:=fun b b2 b3=>(tn.fr.block b (by rw[u];omega) (fun f=>by have:=fZ b f;omega)).trans (aS ((w.alloc (cG k R A B I n)).alloc (.cells #[.int .i64 0,.int .i64 0] 97)).drew _ b (by rw[ai];omega))
   have bg:=(kp _ b7 aa).trans q;obtain⟨_,_,bi,bl,_,_⟩:=el bg;refine⟨d,rfl,⟨l,(j A o).1,(j A o).2,(j B hB).1,(j B hB).2,bi,bl⟩,(kp _ aa aa).trans S,al,(cg.of b1).trans tn,fun f=>?_⟩
   rcases tn.sub _ f with f|f
   ·have:=fZ _ f;omega
   ·rw[u] at f;omega
 generalize s.b_ g ch b_ kd [s.rs.getD A (0,0),s.rs.getD B (0,0)]=gr at*;obtain⟨⟨v0,v1⟩,cd,b4⟩:=gr;dsimp only at t⊢;generalize (s.rs.getD A (0,0)).1=a0 at*;generalize (s.rs.getD A (0,0)).2=a1 at*;generalize (s.rs.getD B (0,0)).1=bn at*;generalize (s.rs.getD B (0,0)).2=bo at*;have b5:(0:Int)<=(A:Int):=aa;have b6:(A:Int)<12:=aa;have ca:(0:Int)<=(B:Int):=aa;have cb:(B:Int)<12:=aa;have bp:b9≠w.heap.size+1:=aa;have m:rb≠w.heap.size+1:=aa;have nx:w.heap.size≠w.heap.size+1:=aa;clear h hv N p q S rt fZ W ab q0 q1 bd be ag;rcases hk with⟨rfl,rfl⟩|⟨rfl,rfl⟩|⟨rfl,rfl⟩
 all_goals
  go_enter func136,ntmps136;go_wp2_with fail
  go_region_held3 (fun w'=>w'.cell? (av b9 6)=some (.slice (au rb) 12 12)/\w'.cell? (av rb (A*2))=some (ak a0)/\w'.cell? (av rb (A*2+1))=some (ak a1)/\w'.cell? (av rb (B*2))=some (ak bn)/\w'.cell? (av rb (B*2+1))=some (ak bo)/\w'.cell? (av w.heap.size 2)=some (ak A)/\w'.cell? (av w.heap.size 3)=some (ak B)) (first|exact⟨fz bp am,fz m an,fz m ao,fz m ap,fz m ar,fz nx l,fz nx aB⟩|(go_keep;done))
   (first|(go_at_call 206;refine t.mono ?_;clear t;rintro e c ⟨d,rfl,⟨am,an,ao,ap,ar,l,aB⟩,y1,x⟩;obtain⟨r0,r1,cc,lw⟩:=dq y1;have br:aA (_=_):=y1;clear y1 aR aV a2 a3 ba bb q3))
  all_goals
   clear am an ao ap ar l aB ‹_/\_›;go_wp2_with fail;obtain⟨bs,bt,_,_⟩:=dq (gN (v1:=ak v0) (v2:=ak v1) br.o)
   exact a5 (v:=.tuple #[.agg #[ak v0,ak v1],ak cd]) (by simp[results,results136,go_sem,bs,bt]) rfl ⟨d,rfl,dx.set2 _ x.o.1 x.o.2.2 _ _,x.o.2.1.set2 (Nat.le_succ _) _ _⟩
end
section
variable {b9 rb:Nat}{ch b_:Int}{F F':Nat->Prop}{s S2:cn}{w W1 w2:az}{k R A B I n:Int}
abbrev gV (w:az)(k R A B I n:Int):az:=(w.alloc (cG k R A B I n)).alloc (.cells #[.int .i64 0,.int .i64 0] 97)
theorem lV (h:(cE b9 ch b_ rb).J F s w)(k R A B I n:Int):Below w.heap.size w (gV w k R A B I n)/\(gV w k R A B I n).heap[w.heap.size]?=some (cG k R A B I n)/\(gV w k R A B I n).heap[w.heap.size+1]?=some (.cells #[ak 0,ak 0] 97 (0,0))/\(gV w k R A B I n).cell? (av b9 6)=some (.slice (au rb) 12 12)/\
 (∀i,i<12->(gV w k R A B I n).cell? (av rb (i*2))=some (ak (s.rs.getD i (0,0)).1)/\(gV w k R A B I n).cell? (av rb (i*2+1))=some (ak (s.rs.getD i (0,0)).2))/\b9≠w.heap.size+1/\rb≠w.heap.size+1:=by
 have b:Below w.heap.size w (gV w k R A B I n):=(b8.alloc b7 _).alloc ac _;obtain⟨c,rt,d,e⟩:=ki ((cE b9 ch b_ rb).below h b)
 have l1:=(cE b9 ch b_ rb).lt h _ d;have l2:=(cE b9 ch b_ rb).lt h _ e;exact⟨b,(aS _ _ _ ac).trans (aP w _),gb w _ _,c,rt,aa,aa⟩
theorem oJ (h:(cE b9 ch b_ rb).J F s w)(b1:Below w.heap.size w W1)(e:W1.heap[w.heap.size]?=some (cG k R A B I n))(d:W1.heap[w.heap.size+1]?=some (.cells #[ak 0,ak 0] 97 (0,0)))(f:(cE b9 ch b_ rb).J F' S2 w2)(tn:cg F W1 F' w2)(g:S2.rs=s.rs):
 (w2.cell? (av b9 6)=some (.slice (au rb) 12 12)/\(∀i,i<12->w2.cell? (av rb (i*2))=some (ak (s.rs.getD i (0,0)).1)/\w2.cell? (av rb (i*2+1))=some (ak (s.rs.getD i (0,0)).2))/\w2.heap[w.heap.size]?=some (cG k R A B I n))/\
 w2.heap[w.heap.size+1]?=some (.cells #[ak 0,ak 0] 97 (0,0))/\aA ((cE b9 ch b_ rb).J F' S2 w2/\cg F w F' w2/\¬F' (w.heap.size+1)):=by
 have fZ:∀b,F b->_:=fun b hb=>(cE b9 ch b_ rb).lt h b hb;obtain⟨j,rt,_,_⟩:=ki f;rw[g] at rt;have kp:∀b,w.heap.size<=b->b<W1.heap.size->_=_:=fun b m l=>tn.fr.block b l (fun c=>by have:=fZ b c;omega)
 refine⟨⟨j,rt,(kp _ b7 (lt_of_some e)).trans e⟩,(kp _ (Nat.le_succ _) (lt_of_some d)).trans d,f,(cg.of b1).trans tn,fun c=>?_⟩
 have l1:=lt_of_some d;rcases tn.sub _ c with c|c
 ·have:=fZ _ c;omega
 ·omega
theorem uV (hv:fQ s)(hl:s.rs.length=12){A:Nat}(b:A<12):(s.rs.getD A (0,0)).1=3->0<=(s.rs.getD A (0,0)).2/\cz s.T (s.rs.getD A (0,0)).2.toNat:=hv.rv _ (getD_in aa)
theorem uW (h:(cE b9 ch b_ rb).J F s w):s.rs.length=12:=by obtain⟨l,h,_⟩:=h;exact h.g4.rl
def cn.gt (s:cn)(v:Int×Int)(I:Int):(Int×Int)×Int×cn:=((if s.fc v I=0 then(s.T.getD v.2.toNat t0).2.1.getD I.toNat (0,0) else(0,0)),s.fc v I,s)
def cn.ln (s:cn)(v:Int×Int):(Int×Int)×Int×cn:=if kJ s.T v=true then((1,((s.T.getD v.2.toNat t0).2.1.length:Int)),0,s) else((0,0),2,s)
theorem JB (s:cn)(v:Int×Int)(I:Int):(s.gt v I).2.2=s:=rfl
theorem JC (s:cn)(v:Int×Int):(s.ln v).2.2=s:=by unfold cn.ln;split<;>rfl
theorem JD (h:(cE b9 ch b_ rb).J F s w)(v:Int×Int)(i:Int)(hv:v.1=3->0<=v.2/\cz s.T v.2.toNat)(g:s.T.length<=10000):
 Calls prog 201 #[aq b9,.agg #[ak v.1,ak v.2],ak i] w fun e w'=>∃F',e=.returned (.tuple #[.agg #[ak (s.gt v i).1.1,ak (s.gt v i).1.2],ak (s.gt v i).2.1])/\(cE b9 ch b_ rb).J F' (s.gt v i).2.2 w'/\cg F w F' w':=by
 have p:=h;obtain⟨l,h,_,_⟩:=h;have j:∀(a b c:Int),(s.gt v i).1=(a,b)->(s.gt v i).2.1=c->∀(e:Ending)(w':az),(e=.returned (.tuple #[.agg #[ak a,ak b],ak c])/\Below w.heap.size w w')->∃F',e=.returned (.tuple #[.agg #[ak (s.gt v i).1.1,ak (s.gt v i).1.2],ak (s.gt v i).2.1])/\(cE b9 ch b_ rb).J F' (s.gt v i).2.2 w'/\cg F w F' w':=by
  rintro a b c q t e w' ⟨rfl,hb⟩
  rw[q,t,JB];exact⟨F,rfl,(cE b9 ch b_ rb).below p hb,cg.of hb⟩
 by_cases k:v.1=3/\(s.T.getD v.2.toNat t0).1≠5
 ·obtain⟨f,n⟩:=k;have hd:=jL.2 ⟨f,n⟩
  have o:=hv f;by_cases hi:i<0\/((s.T.getD v.2.toNat t0).2.1.length:Int)<=i
  ·have d:s.fc v i=1:=by unfold cn.fc;rw[aK hd,aK hi]
   rw[f];exact(Av h v.2 i o g n hi).mono (j 0 0 1 (by unfold cn.gt;rw[d];rfl) d)
  ·have d:s.fc v i=0:=by unfold cn.fc;rw[aK hd,aI hi]
   obtain⟨m,rfl⟩:=Int.eq_ofNat_of_zero_le (a:=i) aa;rw[f];exact(Aw h v.2 m o g n aa).mono (j _ _ 0 (by unfold cn.gt;rw[d];rfl) d)
 ·have d:s.fc v i=2:=by unfold cn.fc;rw[aI (fun c=>k (jL.1 c))]
  exact(Au h v i hv g (fun f=>Classical.byContradiction (fun c=>k ⟨f,c⟩))).mono (j 0 0 2 (by unfold cn.gt;rw[d];rfl) d)
theorem JE (h:(cE b9 ch b_ rb).J F s w)(v:Int×Int)(hv:v.1=3->0<=v.2/\cz s.T v.2.toNat)(f:s.T.length<=10000):
 Calls prog 208 #[aq b9,.agg #[ak v.1,ak v.2]] w fun e w'=>∃F',e=.returned (.tuple #[.agg #[ak (s.ln v).1.1,ak (s.ln v).1.2],ak (s.ln v).2.1])/\(cE b9 ch b_ rb).J F' (s.ln v).2.2 w'/\cg F w F' w':=by
 have g:=h;obtain⟨l,h,_,_⟩:=h;by_cases d:v.1=3/\(s.T.getD v.2.toNat t0).1≠5
 ·obtain⟨b,i⟩:=d;have e:s.ln v=((1,((s.T.getD v.2.toNat t0).2.1.length:Int)),0,s):=aK (jL.2 ⟨b,i⟩)
  rw[e,b];refine(Ig h v.2 (hv b) f i).mono ?_;rintro e w' ⟨rfl,hb⟩
  exact⟨F,rfl,(cE b9 ch b_ rb).below g hb,cg.of hb⟩
 ·have e:s.ln v=((0,0),2,s):=aI (fun c=>d (jL.1 c))
  rw[e];refine(If h v hv f (fun b=>Classical.byContradiction (fun c=>d ⟨b,c⟩))).mono ?_;rintro e w' ⟨rfl,hb⟩
  exact⟨F,rfl,(cE b9 ch b_ rb).below g hb,cg.of hb⟩
end
section
variable {b9 rb:Nat}{ch b_:Int}{F:Nat->Prop}{s:cn}{w:az}
theorem JF (h:(cE b9 ch b_ rb).J F s w)(hv:fQ s)(R B I n:Int)(A:Nat)(f:A<12):
 Calls prog 136 #[aq b9,d5 10 R A B I n] w fun e w'=>∃b,e=.returned (.tuple #[.agg #[ak (s.pop (s.rs.getD A (0,0))).1.1,ak (s.pop (s.rs.getD A (0,0))).1.2],ak (s.pop (s.rs.getD A (0,0))).2.1])/\(cE b9 ch b_ rb).J b (s.pop (s.rs.getD A (0,0))).2.2 w'/\cg F w b w':=by
 obtain⟨i,g,j,t,rt,u,k⟩:=lV h 10 R A B I n;have hd:=i.drew;have P:=IK ((cE b9 ch b_ rb).below h hd) (s.rs.getD A (0,0)) (uV hv (uW h) f) hv.tl (aU hv.wl ae)
 have x:Calls prog 207 #[aq b9,.agg #[ak (s.rs.getD A (0,0)).1,ak (s.rs.getD A (0,0)).2]] (gV w 10 R A B I n).drew fun e c=>∃b,e=.returned (.tuple #[.agg #[ak (s.pop (s.rs.getD A (0,0))).1.1,ak (s.pop (s.rs.getD A (0,0))).1.2],ak (s.pop (s.rs.getD A (0,0))).2.1])/\
  (c.cell? (av b9 6)=some (.slice (au rb) 12 12)/\c.cell? (av rb (A*2))=some (ak (s.rs.getD A (0,0)).1)/\c.cell? (av rb (A*2+1))=some (ak (s.rs.getD A (0,0)).2)/\c.cell? (av w.heap.size 2)=some (ak A))/\
  c.heap[w.heap.size+1]?=some (.cells #[ak 0,ak 0] 97 (0,0))/\aA ((cE b9 ch b_ rb).J b (s.pop (s.rs.getD A (0,0))).2.2 c/\cg F w b c/\¬b (w.heap.size+1)):=by
  refine P.mono ?_;rintro e c ⟨b,rfl,N,tn⟩
  obtain⟨⟨S,l,W⟩,y1,d⟩:=oJ h hd g j N tn (JA _ _)
  obtain⟨_,_,ab,_,ar,_⟩:=el W;exact⟨b,rfl,⟨S,(l A f).1,(l A f).2,ab⟩,y1,d⟩
 obtain⟨ad,ag⟩:=rt A f;obtain⟨q0,q1,ai,q3,al,am⟩:=el g;generalize s.pop (s.rs.getD A (0,0))=gr at*;obtain⟨⟨v0,v1⟩,cd,aB⟩:=gr;generalize (s.rs.getD A (0,0)).1=a0 at*;generalize (s.rs.getD A (0,0)).2=a1 at*;have aF:(A:Int)<12:=aa;have nx:w.heap.size≠w.heap.size+1:=aa;clear h hv i hd g j rt q0 q1 q3 al am;go_enter func136,ntmps136;go_wp2_with fail
 go_region_held3 (fun w'=>w'.cell? (av b9 6)=some (.slice (au rb) 12 12)/\w'.cell? (av rb (A*2))=some (ak a0)/\w'.cell? (av rb (A*2+1))=some (ak a1)/\w'.cell? (av w.heap.size 2)=some (ak A)) (first|exact⟨fz u m,fz k o,fz k p,fz nx q⟩|(go_keep;done))
  (first|(go_at_call 207;refine x.mono ?_;rintro e c ⟨b,rfl,⟨m,o,p,q⟩,y1,d⟩;obtain⟨r0,r1,aR,lw⟩:=dq y1;have an:aA (_=_):=y1;clear y1 t ad ag ai))
 all_goals
  clear m o p q ‹_/\_›;go_wp2_with fail;obtain⟨ao,ap,_,_⟩:=dq (gN (v1:=ak v0) (v2:=ak v1) an.o)
  exact a5 (v:=.tuple #[.agg #[ak v0,ak v1],ak cd]) (by simp[results,results136,go_sem,ao,ap]) rfl ⟨b,rfl,dx.set2 _ d.o.1 d.o.2.2 _ _,d.o.2.1.set2 (Nat.le_succ _) _ _⟩
theorem JG (h:(cE b9 ch b_ rb).J F s w)(hv:fQ s)(R B I n:Int)(A:Nat)(f:A<12):
 Calls prog 136 #[aq b9,d5 11 R A B I n] w fun e w'=>∃b,e=.returned (.tuple #[.agg #[ak (s.gt (s.rs.getD A (0,0)) I).1.1,ak (s.gt (s.rs.getD A (0,0)) I).1.2],ak (s.gt (s.rs.getD A (0,0)) I).2.1])/\(cE b9 ch b_ rb).J b (s.gt (s.rs.getD A (0,0)) I).2.2 w'/\cg F w b w':=by
 obtain⟨j,g,k,N,rt,S,l⟩:=lV h 11 R A B I n;have m:=uV hv (uW h) f;have hd:Below w.heap.size w (gV w 11 R A B I n).drew:=j.drew;have P:=JD ((cE b9 ch b_ rb).below h hd) (s.rs.getD A (0,0)) I m hv.tl;have i:Calls prog 201 #[aq b9,.agg #[ak (s.rs.getD A (0,0)).1,ak (s.rs.getD A (0,0)).2],ak I] (gV w 11 R A B I n).drew fun e c=>∃b,e=.returned (.tuple #[.agg #[ak (s.gt (s.rs.getD A (0,0)) I).1.1,ak (s.gt (s.rs.getD A (0,0)) I).1.2],ak (s.gt (s.rs.getD A (0,0)) I).2.1])/\
  (c.cell? (av b9 6)=some (.slice (au rb) 12 12)/\c.cell? (av rb (A*2))=some (ak (s.rs.getD A (0,0)).1)/\c.cell? (av rb (A*2+1))=some (ak (s.rs.getD A (0,0)).2)/\c.cell? (av w.heap.size 2)=some (ak A)/\c.cell? (av w.heap.size 4)=some (ak I))/\
  c.heap[w.heap.size+1]?=some (.cells #[ak 0,ak 0] 97 (0,0))/\aA ((cE b9 ch b_ rb).J b (s.gt (s.rs.getD A (0,0)) I).2.2 c/\cg F w b c/\¬b (w.heap.size+1)):=by
  refine P.mono ?_;rintro e c ⟨b,rfl,W,tn⟩
  obtain⟨⟨ab,o,ad⟩,y1,d⟩:=oJ h hd g k W tn rfl;obtain⟨_,_,ag,_,ai,_⟩:=el ad;exact⟨b,rfl,⟨ab,(o A f).1,(o A f).2,ag,ai⟩,y1,d⟩
 clear P;obtain⟨al,am⟩:=rt A f;obtain⟨q0,q1,an,q3,ao,ap⟩:=el g;generalize s.gt (s.rs.getD A (0,0)) I=gr at*;obtain⟨⟨v0,v1⟩,cd,aR⟩:=gr;dsimp only at i⊢;generalize (s.rs.getD A (0,0)).1=a0 at*;generalize (s.rs.getD A (0,0)).2=a1 at*;have aV:(0:Int)<=(A:Int):=aa;have a2:(A:Int)<12:=aa;have nx:w.heap.size≠w.heap.size+1:=aa;clear h hv j hd g k rt m q0 q1 q3 ap;go_enter func136,ntmps136;go_wp2_with fail
 go_region_held3 (fun w'=>w'.cell? (av b9 6)=some (.slice (au rb) 12 12)/\w'.cell? (av rb (A*2))=some (ak a0)/\w'.cell? (av rb (A*2+1))=some (ak a1)/\w'.cell? (av w.heap.size 2)=some (ak A)/\w'.cell? (av w.heap.size 4)=some (ak I)) (first|exact⟨fz S p,fz l q,fz l t,fz nx u,fz nx x⟩|(go_keep;done))
  (first|(go_at_call 201;refine i.mono ?_;clear i;rintro e c ⟨b,rfl,⟨p,q,t,u,x⟩,y1,d⟩;obtain⟨r0,r1,a3,lw⟩:=dq y1;have ar:aA (_=_):=y1;clear y1 N al am an ao))
 all_goals
  clear p q t u x ‹_/\_›;go_wp2_with fail;obtain⟨aB,aF,_,_⟩:=dq (gN (v1:=ak v0) (v2:=ak v1) ar.o)
  exact a5 (v:=.tuple #[.agg #[ak v0,ak v1],ak cd]) (by simp[results,results136,go_sem,aB,aF]) rfl ⟨b,rfl,dx.set2 _ d.o.1 d.o.2.2 _ _,d.o.2.1.set2 (Nat.le_succ _) _ _⟩
theorem JH (h:(cE b9 ch b_ rb).J F s w)(hv:fQ s)(R B I n:Int)(A:Nat)(f:A<12):
 Calls prog 136 #[aq b9,d5 13 R A B I n] w fun e w'=>∃b,e=.returned (.tuple #[.agg #[ak (s.ln (s.rs.getD A (0,0))).1.1,ak (s.ln (s.rs.getD A (0,0))).1.2],ak (s.ln (s.rs.getD A (0,0))).2.1])/\(cE b9 ch b_ rb).J b (s.ln (s.rs.getD A (0,0))).2.2 w'/\cg F w b w':=by
 obtain⟨i,g,j,t,rt,u,k⟩:=lV h 13 R A B I n;have hd:=i.drew;have P:=JE ((cE b9 ch b_ rb).below h hd) (s.rs.getD A (0,0)) (uV hv (uW h) f) hv.tl;have x:Calls prog 208 #[aq b9,.agg #[ak (s.rs.getD A (0,0)).1,ak (s.rs.getD A (0,0)).2]] (gV w 13 R A B I n).drew fun e c=>∃b,e=.returned (.tuple #[.agg #[ak (s.ln (s.rs.getD A (0,0))).1.1,ak (s.ln (s.rs.getD A (0,0))).1.2],ak (s.ln (s.rs.getD A (0,0))).2.1])/\
  (c.cell? (av b9 6)=some (.slice (au rb) 12 12)/\c.cell? (av rb (A*2))=some (ak (s.rs.getD A (0,0)).1)/\c.cell? (av rb (A*2+1))=some (ak (s.rs.getD A (0,0)).2)/\c.cell? (av w.heap.size 2)=some (ak A))/\
  c.heap[w.heap.size+1]?=some (.cells #[ak 0,ak 0] 97 (0,0))/\aA ((cE b9 ch b_ rb).J b (s.ln (s.rs.getD A (0,0))).2.2 c/\cg F w b c/\¬b (w.heap.size+1)):=by
  refine P.mono ?_;rintro e c ⟨b,rfl,N,tn⟩
  obtain⟨⟨S,l,W⟩,y1,d⟩:=oJ h hd g j N tn (by rw[JC])
  obtain⟨_,_,ab,_,ar,_⟩:=el W;exact⟨b,rfl,⟨S,(l A f).1,(l A f).2,ab⟩,y1,d⟩
 obtain⟨ad,ag⟩:=rt A f;obtain⟨q0,q1,ai,q3,al,am⟩:=el g;generalize s.ln (s.rs.getD A (0,0))=gr at*;obtain⟨⟨v0,v1⟩,cd,aB⟩:=gr;generalize (s.rs.getD A (0,0)).1=a0 at*;generalize (s.rs.getD A (0,0)).2=a1 at*;have aF:(A:Int)<12:=aa;have nx:w.heap.size≠w.heap.size+1:=aa;clear h hv i hd g j rt q0 q1 q3 al am;go_enter func136,ntmps136;go_wp2_with fail
 go_region_held3 (fun w'=>w'.cell? (av b9 6)=some (.slice (au rb) 12 12)/\w'.cell? (av rb (A*2))=some (ak a0)/\w'.cell? (av rb (A*2+1))=some (ak a1)/\w'.cell? (av w.heap.size 2)=some (ak A)) (first|exact⟨fz u m,fz k o,fz k p,fz nx q⟩|(go_keep;done))
  (first|(go_at_call 208;refine x.mono ?_;rintro e c ⟨b,rfl,⟨m,o,p,q⟩,y1,d⟩;obtain⟨r0,r1,aR,lw⟩:=dq y1;have an:aA (_=_):=y1;clear y1 t ad ag ai))
 all_goals
  clear m o p q ‹_/\_›;go_wp2_with fail;obtain⟨ao,ap,_,_⟩:=dq (gN (v1:=ak v0) (v2:=ak v1) an.o)
  exact a5 (v:=.tuple #[.agg #[ak v0,ak v1],ak cd]) (by simp[results,results136,go_sem,ao,ap]) rfl ⟨b,rfl,dx.set2 _ d.o.1 d.o.2.2 _ _,d.o.2.1.set2 (Nat.le_succ _) _ _⟩
end
section
variable {b9 rb:Nat}{ch b_:Int}{F:Nat->Prop}{s:cn}{w:az}{g:eM}
theorem JJ (h:(cE b9 ch b_ rb).J F s w)(R A B I n:Int):
 Calls prog 136 #[aq b9,d5 1 R A B I n] w fun e w'=>e=.returned (.tuple #[.agg #[ak 1,ak n],ak 0])/\Below w.heap.size w w':=by
 obtain⟨d,g,f,_⟩:=lV h 1 R A B I n;obtain⟨q0,q1,l,q3,m,o⟩:=el g;have i:aA (∀b,Below (gV w 1 R A B I n).heap.size (gV w 1 R A B I n) b->_/\_):=fun b hb=>⟨(hb.block _ (lt_of_some f)).trans f,d.trans (hb.mono d.size)⟩
 go_enter func136,ntmps136;go_wp2_with fail;refine(ru n (gV w 1 R A B I n)).mono ?_;rintro e b ⟨rfl,hb⟩
 have c:aA (_):=i.o b hb;obtain⟨r0,r1,p,lw⟩:=dq c.o.1;go_wp2_with fail;obtain⟨j,k,_,_⟩:=dq (gN (v1:=ak 1) (v2:=ak n) c.o.1)
 exact a5 (v:=.tuple #[.agg #[ak 1,ak n],ak 0]) (by simp[results,results136,go_sem,j,k]) rfl ⟨rfl,(c.o.2.setCell ac _).setCell ac _⟩
theorem JK (h:(cE b9 ch b_ rb).J F s w)(R A B I n:Int):
 Calls prog 136 #[aq b9,d5 2 R A B I n] w fun e w'=>e=.returned (.tuple #[.agg #[ak 0,ak 0],ak 0])/\Below w.heap.size w w':=by
 obtain⟨b,c,d,_⟩:=lV h 2 R A B I n;obtain⟨q0,q1,g,q3,i,j⟩:=el c;have f:=hide b;obtain⟨r0,r1,k,lw⟩:=dq d;go_enter func136,ntmps136;go_wp2_with fail;exact a5 (v:=.tuple #[.agg #[ak 0,ak 0],ak 0]) (by simp[results,results136,go_sem]) rfl ⟨rfl,f.o⟩
theorem JL (h:(cE b9 ch b_ rb).J F s w)(hv:fQ s)(j:dL s.T s.wt (g s.T s.wt))(g0:-1000000<=b_)(g1:b_<=1000000)(k:-1000000<=ch)(m1:ch<=1000000)(R A B I n:Int):
 Calls prog 136 #[aq b9,d5 8 R A B I n] w fun e w'=>∃b,e=.returned (.tuple #[.agg #[ak (s.b_ g ch b_ 5 []).1.1,ak (s.b_ g ch b_ 5 []).1.2],ak (s.b_ g ch b_ 5 []).2.1])/\(cE b9 ch b_ rb).J b (s.b_ g ch b_ 5 []).2.2 w'/\cg F w b w':=by
 obtain⟨f,i,l,_⟩:=lV h 8 R A B I n;obtain⟨q0,q1,u,q3,x,N⟩:=el i;have m:Calls prog 206 #[aq b9,ak 5,.slice none 0 0] (gV w 8 R A B I n) fun e c=>∃b,e=.returned (.tuple #[.agg #[ak (s.b_ g ch b_ 5 []).1.1,ak (s.b_ g ch b_ 5 []).1.2],ak (s.b_ g ch b_ 5 []).2.1])/\
  c.heap[w.heap.size+1]?=some (.cells #[ak 0,ak 0] 97 (0,0))/\aA ((cE b9 ch b_ rb).J b (s.b_ g ch b_ 5 []).2.2 c/\cg F w b c/\¬b (w.heap.size+1)):=by
  refine(uS (g:=g) (kd:=5) (fl:=[]) (ad:=none) (cap:=0) ((cE b9 ch b_ rb).below h f) hv j g0 g1 k m1 ac ⟨fun h=>absurd h ac,aG _,fun _=>⟨rfl,rfl⟩⟩).mono ?_;rintro e c ⟨b,rfl,o,tn⟩
  obtain⟨_,y1,d⟩:=oJ h f i l o tn (uT _ _ _ _ _ _)
  exact⟨b,rfl,y1,d⟩
 generalize s.b_ g ch b_ 5 []=gr at*;obtain⟨⟨v0,v1⟩,cd,S⟩:=gr;go_enter func136,ntmps136;go_wp2_with fail;refine m.mono ?_;rintro e c ⟨b,rfl,y1,d⟩
 obtain⟨r0,r1,W,lw⟩:=dq y1;have p:aA (_=_):=y1;go_wp2_with fail;obtain⟨q,t,_,_⟩:=dq (gN (v1:=ak v0) (v2:=ak v1) p.o)
 exact a5 (v:=.tuple #[.agg #[ak v0,ak v1],ak cd]) (by simp[results,results136,go_sem,q,t]) rfl ⟨b,rfl,dx.set2 _ d.o.1 d.o.2.2 _ _,d.o.2.1.set2 (Nat.le_succ _) _ _⟩
theorem JM (h:(cE b9 ch b_ rb).J F s w)(R B I n:Int)(A:Nat)(b:A<12):
 Calls prog 136 #[aq b9,d5 3 R A B I n] w fun e w'=>e=.returned (.tuple #[.agg #[ak (s.rs.getD A (0,0)).1,ak (s.rs.getD A (0,0)).2],ak 0])/\Below w.heap.size w w':=by
 obtain⟨k,c,d,W,rt,ab,ad⟩:=lV h 3 R A B I n;obtain⟨ag,ai⟩:=rt A b;obtain⟨q0,q1,al,q3,l,m⟩:=el c;obtain⟨o,f,g,i⟩:=ki h;have q:=(cE b9 ch b_ rb).lt h _ g;have j:=(cE b9 ch b_ rb).lt h _ i;have b2:Below w.heap.size w ((w.alloc (cG 3 R A B I n)).alloc (.cells #[.int .i64 (s.rs.getD A (0,0)).1,.int .i64 (s.rs.getD A (0,0)).2] 97)):=(b8.alloc b7 _).alloc ac _;have m1:=(b2.cell (p:=av b9 6) q).trans o;have t:=(b2.cell (p:=av rb (A*2)) j).trans (f A b).1;have u:=(b2.cell (p:=av rb (A*2+1)) j).trans (f A b).2;have x:((w.alloc (cG 3 R A B I n)).alloc (.cells #[.int .i64 (s.rs.getD A (0,0)).1,.int .i64 (s.rs.getD A (0,0)).2] 97)).cell? (av w.heap.size 2)=some (ak A):=(el ((aS _ _ _ ac).trans (aP w _))).2.2.1;have N:=hide b2.drew;have S:=iT m1 t u x;obtain⟨r0,r1,am,lw⟩:=dq d;generalize (s.rs.getD A (0,0)).1=a0 at*;generalize (s.rs.getD A (0,0)).2=a1 at*;have an:(0:Int)<=(A:Int):=aa;have ao:(A:Int)<12:=aa;clear h k c d rt q1 q3 l m g i;go_enter func136,ntmps136;go_wp2_with fail
 go_region_held3 (fun w'=>w'.cell? (av b9 6)=some (.slice (au rb) 12 12)/\w'.cell? (av rb (A*2))=some (ak a0)/\w'.cell? (av rb (A*2+1))=some (ak a1)/\w'.cell? (av w.heap.size 2)=some (ak A)) (first|exact S.o|(go_keep;done)) (fail)
 all_goals
  go_wp2_with fail;exact a5 (v:=.tuple #[.agg #[ak a0,ak a1],ak 0]) (by simp[results,results136,go_sem]) rfl ⟨rfl,N.o⟩
theorem JN (h:(cE b9 ch b_ rb).J F s w)(R I n:Int)(A B:Nat)(i:A<12)(hB:B<12):
 Calls prog 136 #[aq b9,d5 14 R A B I n] w fun e w'=>e=.returned (.tuple #[.agg #[ak 1,ak (if s.rs.getD A (0,0)=s.rs.getD B (0,0) then 1 else 0)],ak 0])/\Below w.heap.size w w':=by
 obtain⟨c,j,l,N,rt,S,d⟩:=lV h 14 R A B I n;have m:Calls prog 209 #[.agg #[ak (s.rs.getD A (0,0)).1,ak (s.rs.getD A (0,0)).2],.agg #[ak (s.rs.getD B (0,0)).1,ak (s.rs.getD B (0,0)).2]] (gV w 14 R A B I n).drew fun e b=>e=.returned (.agg #[ak 1,ak (if s.rs.getD A (0,0)=s.rs.getD B (0,0) then 1 else 0)])/\
  (b.cell? (av b9 6)=some (.slice (au rb) 12 12)/\b.cell? (av rb (A*2))=some (ak (s.rs.getD A (0,0)).1)/\b.cell? (av rb (A*2+1))=some (ak (s.rs.getD A (0,0)).2)/\b.cell? (av rb (B*2))=some (ak (s.rs.getD B (0,0)).1)/\b.cell? (av rb (B*2+1))=some (ak (s.rs.getD B (0,0)).2)/\b.cell? (av w.heap.size 2)=some (ak A)/\b.cell? (av w.heap.size 3)=some (ak B))/\
  aA (b.heap[w.heap.size+1]?=some (.cells #[ak 0,ak 0] 97 (0,0))/\Below w.heap.size w b):=by
  refine(Ih _ _ _).mono ?_;rintro e b ⟨rfl,hb⟩
  obtain⟨⟨f,g,W⟩,y1,aV⟩:=oJ h c.drew j l ((cE b9 ch b_ rb).below ((cE b9 ch b_ rb).below h c.drew) hb) (cg.of hb) rfl;obtain⟨_,_,ab,ad,_,_⟩:=el W;exact⟨rfl,⟨f,(g A i).1,(g A i).2,(g B hB).1,(g B hB).2,ab,ad⟩,y1,c.drew.trans (hb.mono c.drew.size)⟩
 obtain⟨ag,ai⟩:=rt A i;obtain⟨al,am⟩:=rt B hB;obtain⟨q0,q1,an,q3,ao,ap⟩:=el j;generalize (if s.rs.getD A (0,0)=s.rs.getD B (0,0) then(1:Int) else 0)=v1 at*;generalize (s.rs.getD A (0,0)).1=a0 at*;generalize (s.rs.getD A (0,0)).2=a1 at*;generalize (s.rs.getD B (0,0)).1=ar at*;generalize (s.rs.getD B (0,0)).2=aB at*;have a2:(0:Int)<=(A:Int):=aa;have a3:(A:Int)<12:=aa;have ba:(0:Int)<=(B:Int):=aa;have bb:(B:Int)<12:=aa;have nx:w.heap.size≠w.heap.size+1:=aa;clear h c j l rt q1 ao ap;go_enter func136,ntmps136;go_wp2_with fail
 go_region_held3 (fun w'=>w'.cell? (av b9 6)=some (.slice (au rb) 12 12)/\w'.cell? (av rb (A*2))=some (ak a0)/\w'.cell? (av rb (A*2+1))=some (ak a1)/\w'.cell? (av rb (B*2))=some (ak ar)/\w'.cell? (av rb (B*2+1))=some (ak aB)/\w'.cell? (av w.heap.size 2)=some (ak A)/\w'.cell? (av w.heap.size 3)=some (ak B)) (first|exact⟨fz S o,fz d p,fz d q,fz d t,fz d u,fz nx f,fz nx x⟩|(go_keep;done))
  (first|(go_at_call 209;refine m.mono ?_;clear m;rintro e b ⟨rfl,⟨o,p,q,t,u,f,x⟩,k⟩;obtain⟨r0,r1,bd,lw⟩:=dq k.o.1;clear N ag ai al am an q3))
 all_goals
  clear o p q t u f x ‹_/\_›;go_wp2_with fail;obtain⟨aF,aR,_,_⟩:=dq (gN (v1:=ak 1) (v2:=ak v1) k.o.1)
  exact a5 (v:=.tuple #[.agg #[ak 1,ak v1],ak 0]) (by simp[results,results136,go_sem,aF,aR]) rfl ⟨rfl,(k.o.2.setCell ac _).setCell ac _⟩
theorem JO (h:(cE b9 ch b_ rb).J F s w)(hv:fQ s)(x:dL s.T s.wt (g s.T s.wt))(g0:-1000000<=b_)(g1:b_<=1000000)(aV:-1000000<=ch)(m1:ch<=1000000)(R B I:Int)(A n:Nat)(j:A<12)(hn:n<=12):
 Calls prog 136 #[aq b9,d5 5 R A B I n] w fun e w'=>∃c,e=.returned (.tuple #[.agg #[ak (s.b_ g ch b_ 2 (List.replicate n (s.rs.getD A (0,0)))).1.1,ak (s.b_ g ch b_ 2 (List.replicate n (s.rs.getD A (0,0)))).1.2],ak (s.b_ g ch b_ 2 (List.replicate n (s.rs.getD A (0,0)))).2.1])/\(cE b9 ch b_ rb).J c (s.b_ g ch b_ 2 (List.replicate n (s.rs.getD A (0,0)))).2.2 w'/\cg F w c w':=by
 obtain⟨N,m,o,a2,rt,a3,S⟩:=lV h 5 R A B I n;have l:(gV w 5 R A B I n).drew.heap.size=w.heap.size+1+1:=by simp[World.drew]
 have p:Calls prog 131 #[.slice (au (w.heap.size+1+1)) 1 1,ak n] ((gV w 5 R A B I n).drew.alloc (.cells #[.int .i64 (s.rs.getD A (0,0)).1,.int .i64 (s.rs.getD A (0,0)).2] 97)) fun e d=>∃nb,e=.returned (.slice (au nb) n n)/\
  (d.cell? (av b9 6)=some (.slice (au rb) 12 12)/\d.cell? (av rb (A*2))=some (ak (s.rs.getD A (0,0)).1)/\d.cell? (av rb (A*2+1))=some (ak (s.rs.getD A (0,0)).2)/\d.cell? (av w.heap.size 2)=some (ak A)/\d.cell? (av w.heap.size 5)=some (ak n))/\
  Calls prog 206 #[aq b9,ak 2,.slice (au nb) n n] d fun e f=>∃c,e=.returned (.tuple #[.agg #[ak (s.b_ g ch b_ 2 (List.replicate n (s.rs.getD A (0,0)))).1.1,ak (s.b_ g ch b_ 2 (List.replicate n (s.rs.getD A (0,0)))).1.2],ak (s.b_ g ch b_ 2 (List.replicate n (s.rs.getD A (0,0)))).2.1])/\
  (f.cell? (av b9 6)=some (.slice (au rb) 12 12)/\f.cell? (av rb (A*2))=some (ak (s.rs.getD A (0,0)).1)/\f.cell? (av rb (A*2+1))=some (ak (s.rs.getD A (0,0)).2)/\f.cell? (av w.heap.size 2)=some (ak A)/\f.cell? (av w.heap.size 5)=some (ak n))/\
  f.heap[w.heap.size+1]?=some (.cells #[ak 0,ak 0] 97 (0,0))/\aA ((cE b9 ch b_ rb).J c (s.b_ g ch b_ 2 (List.replicate n (s.rs.getD A (0,0)))).2.2 f/\cg F w c f/\¬c (w.heap.size+1)):=by
  have b1:Below w.heap.size w ((gV w 5 R A B I n).drew.alloc (.cells #[.int .i64 (s.rs.getD A (0,0)).1,.int .i64 (s.rs.getD A (0,0)).2] 97)):=N.drew.alloc (by rw[l];omega) _;have W:=aP (gV w 5 R A B I n).drew (.cells #[.int .i64 (s.rs.getD A (0,0)).1,.int .i64 (s.rs.getD A (0,0)).2] 97)
  rw[l] at W;obtain⟨z0,ba,_,_⟩:=dq W;refine(A0 _ (w.heap.size+1+1) n (s.rs.getD A (0,0)) hn z0 ba).mono ?_;rintro e d ⟨nb,rfl,ca,q,ab⟩
  have b2:Below w.heap.size w d:=b1.trans (ab.mono b1.size)
  have l0:w.heap.size+1<(gV w 5 R A B I n).heap.size:=lt_of_some o;have ag:∀b,b<w.heap.size+1+1->d.heap[b]?=(gV w 5 R A B I n).heap[b]?:=fun b hb=>(ab.block b (by simp;omega)).trans (aS (gV w 5 R A B I n).drew _ b (by rw[l];exact hb))
  have ai:=(ag _ aa).trans m;have y1:=(ag (w.heap.size+1) aa).trans o;have al:=(cE b9 ch b_ rb).below h b2;obtain⟨e6,am,_,_⟩:=ki al;obtain⟨_,_,bb,_,_,bd⟩:=el ai;refine⟨nb,rfl,⟨e6,(am A j).1,(am A j).2,bb,bd⟩,?_⟩
  have t:(List.replicate n (s.rs.getD A (0,0))).length=n:=List.length_replicate;have P:=uS (g:=g) (kd:=2) (fl:=List.replicate n (s.rs.getD A (0,0))) (ad:=au nb) (cap:=n) al hv x g0 g1 aV m1 (by rw[t];exact hn) ⟨fun _=>⟨nb,0,rfl,lt_of_some q,fun i hi=>by
   obtain⟨k1,u⟩:=nZ _ i hi;constructor
   ·simp only [World.cell?,q,Nat.zero_add];simpa using k1
   ·simp only [World.cell?,q,Nat.zero_add];simpa using u⟩,by rw[t];exact aG _,fun e=>by cases e⟩
  rw[t] at P;refine P.mono ?_;rintro e f ⟨c,rfl,be,tn⟩
  obtain⟨⟨bg,an,bi⟩,bl,k⟩:=oJ h b2 ai y1 be tn (uT _ _ _ _ _ _)
  obtain⟨_,_,bn,_,_,bo⟩:=el bi;exact⟨c,rfl,⟨bg,(an A j).1,(an A j).2,bn,bo⟩,bl,k⟩
 obtain⟨bp,br⟩:=rt A j;obtain⟨q0,q1,bs,q3,bt,bx⟩:=el m;generalize s.b_ g ch b_ 2 (List.replicate n (s.rs.getD A (0,0)))=gr at*;obtain⟨⟨v0,v1⟩,cd,cb⟩:=gr;dsimp only at p⊢;generalize (s.rs.getD A (0,0)).1=a0 at*;generalize (s.rs.getD A (0,0)).2=a1 at*;have cc:(0:Int)<=(A:Int):=aa;have ce:(A:Int)<12:=aa;have cf:(n:Int)<=12:=aa;have nx:w.heap.size≠w.heap.size+1:=aa;clear h hv x N m o rt q1 q3 bt l;go_enter func136,ntmps136;go_wp2_with fail
 go_region_held3 (fun w'=>w'.cell? (av b9 6)=some (.slice (au rb) 12 12)/\w'.cell? (av rb (A*2))=some (ak a0)/\w'.cell? (av rb (A*2+1))=some (ak a1)/\w'.cell? (av w.heap.size 2)=some (ak A)/\w'.cell? (av w.heap.size 5)=some (ak n)) (first|exact⟨fz a3 ao,fz S ap,fz S ar,fz nx aB,fz nx aF⟩|(go_keep;done))
  (first|(go_at_call 131;refine p.mono ?_;clear p;rintro e d ⟨nb,rfl,⟨k1,u,b0,b3,k5⟩,aR⟩;clear a2 bp br bs bx)|(go_at_call 206;refine aR.mono ?_;clear aR;rintro e f ⟨c,rfl,⟨ao,ap,ar,aB,aF⟩,y1,k⟩;obtain⟨r0,r1,ci,lw⟩:=dq y1;have b4:aA (_=_):=y1;clear y1 k1 u b0 b3 k5))
 all_goals
  clear ao ap ar aB aF ‹_/\_›;go_wp2_with fail;obtain⟨b5,b6,_,_⟩:=dq (gN (v1:=ak v0) (v2:=ak v1) b4.o)
  exact a5 (v:=.tuple #[.agg #[ak v0,ak v1],ak cd]) (by simp[results,results136,go_sem,b5,b6]) rfl ⟨c,rfl,dx.set2 _ k.o.1 k.o.2.2 _ _,k.o.2.1.set2 (Nat.le_succ _) _ _⟩
end
end Go.Proofs.YtpkjkjhanlbcoaaGreat
