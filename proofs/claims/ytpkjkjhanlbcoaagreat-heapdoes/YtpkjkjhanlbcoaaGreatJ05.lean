import Derived.Test.YtpkjkjhanlbcoaaGreatJ04
namespace Go.Proofs.YtpkjkjhanlbcoaaGreat
set_option maxRecDepth 100000
set_option maxHeartbeats 2000000
open Tryz
open Go.RowKit W Kp ch
theorem wU {P:Prop}(h:P:=by
 rcases List.mem_or_eq_of_mem_set hy with hy|hy
 ·exact aL ⟨y,hy,hl,o,e⟩
 ·subst hy;have e:a2=some ⟨k,o,none⟩:=e;exact aK (cg hr k (by rw[e];rfl)).1):P:=h
theorem sk {P:Prop}(h:P:=by simp only [World.setCell,Array.getElem?_modify,if_true,h,Option.map_some];simp):P:=h
theorem wV:(prog.info? 107).map (fun i=>(i.zero,i.size,i.bytes))=some (some (.agg #[ak 0,.slice none 0 0]),2,32):=ah
section
variable {w0 w w' w'':aw}{kb cr pw n:Nat}{T:List Int}{s:cP}{vn:Value}{m:List du}
theorem Wk.turned (h:Wk w0 w kb cr pw T s vn m)(f:Fr (fun k=>k=cr) w w'):Kf w0.heap.size w w'/\w'.heap[kb]?=some (.cells #[am pw,.map (some cr),vn] 129 (0,0))/\w'.ownsRow w0.heap.size 107 2 vn m.length (nv m)/\(∀x∈m,ge w' x.2.1 x.2.2.2)/\Below w0.heap.size w0 w':=by
 obtain⟨D,o1,_⟩:=h.mp;obtain⟨g,i,hb,_⟩:=o1;have hk:Kf w0.heap.size w w':=⟨f.os,f.tape,f.output,f.size,fun k hk hl=>f.block k hk (fun e=>by have e:=e;have:=h.lo.2;omega),fun k j e l hk _ _=>f.block k (lt_of_some hk) (fun c=>by have c:=c;rw[c,hb] at hk;simp at hk)⟩
 refine⟨hk,(f.block kb (lt_of_some h.blk) (fun c=>?_)).trans h.blk,cy h.row (fun k e=>f.block k (cg h.row k e).2 (fun c=>?_)),fun x d=>(h.fl x d).kf hk,h.dx.trans (hk.below h.dx.size)⟩
 ·have c:=c;have:=h.blk;rw[c,hb] at this
  simp at this
 ·obtain⟨n,b⟩:=d6 h.row k e;rw[c,hb] at b;simp at b
end
theorem aZ {α:Type _}{«as» bs:List α}:(«as» ++ bs).length = «as».length + bs.length:=List.length_append ..
theorem Wk.grown {w0 w w3 g:aw}{d cr pw:Nat}{T:List Int}{ms:List Int}{v:List _}{n j:Value}{m:List du}{kd:Int}
 (hk:w.heap[d]?=some (.cells #[am pw,.map (some cr),n] 129 (0,0)))(lo:w0.heap.size<=d/\w0.heap.size<=cr)(hm:Nm w cr T ms)(p:w.ownsRow w0.heap.size 107 2 n m.length (nv m))(B:ie m=v)(N:∀x∈m,ge w x.2.1 x.2.2.2)(hb:Below w0.heap.size w0 w)
 (i:Below w.heap.size w w3)(F:g.ownsRow w0.heap.size 107 2 j (m.length+1) (nv m++[ak kd,.slice none 0 0]))(s:w3.grownBy g n.ownBlock):
 Wk w0 (g.setCell ⟨d,2,none⟩ j) d cr pw T (ms,v++[(kd,[])]) j (m++[(kd,none,0,[])])/\ff w0 w m (g.setCell ⟨d,2,none⟩ j) (m++[(kd,none,0,[])])/\g.heap[d]?=some (.cells #[am pw,.map (some cr),n] 129 (0,0)):=by
 have S:=hm;obtain⟨D,o1,_⟩:=hm;obtain⟨ag,ai,l,_⟩:=o1;have W:=(Kf.of i).trans (Kf.grown s (fun k e=>⟨(cg p k e.symm).1,fun al ty ap hc=>by obtain⟨t,f⟩:=d6 p k e.symm;have:=(i.block k (lt_of_some f)).trans f;rw[this] at hc;simp at hc;exact aK hc.2.1.symm⟩))
 have q:=(s.block d (aO (lt_of_some hk) i.size) (fun e=>by obtain⟨t,f⟩:=d6 p d e;rw[hk] at f;simp at f)).trans ((i.block d (lt_of_some hk)).trans hk)
 have u:Kf w0.heap.size w (g.setCell ⟨d,2,none⟩ j):=W.trans (Kf.set q (aL rfl) lo.1)
 have ab:cr≠d:=fun e=>by rw[e,hk] at l;simp at l
 have ad:(nv (m++[(kd,none,0,[])]:List du))=nv m++[ak kd,.slice none 0 0]:=by rw[vA];rfl
 refine⟨⟨?_,lo,?_,?_,?_,fun x b=>?_,hb.trans (u.below hb.size)⟩,⟨u,fun k hk=>?_⟩,q⟩
 ·simp only [World.setCell,Array.getElem?_modify,if_true,q,Option.map_some];rfl
 ·refine S.same ((aP _ _ _ _ ab).trans ((s.block cr (aO (lt_of_some l) i.size) (fun e=>?_)).trans (i.block cr (lt_of_some l))))
  obtain⟨t,f⟩:=d6 p cr e;rw[l] at f;simp at f
 ·rw[ad,aZ];refine cy F (fun k e=>aP _ _ _ _ (fun c=>?_))
  obtain⟨t,f⟩:=d6 F k e;rw[c,q] at f;simp at f
 ·simp[ie] at B⊢;exact B
 ·rcases List.mem_append.1 b with b|b
  ·exact(N x b).kf u
  ·simp at b;subst b;exact ge.nil
 ·obtain⟨x,b,hl,o,e⟩:=hk;rcases List.mem_append.1 b with b|b
  ·exact aL ⟨x,b,hl,o,e⟩
  ·simp at b;subst b;simp at hl
theorem Wk.filled {w0 w:aw}{n cr pw g p len:Nat}{T:List Int}{s:cP}{m:List du}(h:Wk w0 w n cr pw T s (.slice (an g) len p) m){i:Nat}{k0:Int}{v0:List _}(hi:s.2[i]?=some (k0,v0)){base c2:Nat}{a2:Option Addr}{b:List _}
 (hr:w.ownsRow base 97 2 (.slice a2 b.length c2) b.length (ev b)):
 Wk w0 (w.setCell ⟨g,i*2+1,none⟩ (.slice a2 b.length c2)) n cr pw T (s.1,s.2.set i (k0,b)) (.slice (an g) len p) (m.set i (k0,a2,c2,b))/\Kf w0.heap.size w (w.setCell ⟨g,i*2+1,none⟩ (.slice a2 b.length c2))/\(∀k,fF (m.set i (k0,a2,c2,b)) k->fF m k\/base<=k):=by
 obtain⟨v,j⟩:=d6 h.row g rfl;have d:Kf w0.heap.size w (w.setCell ⟨g,i*2+1,none⟩ (.slice a2 b.length c2)):=Kf.set j (aK rfl) (cg h.row g rfl).1;obtain⟨x,l,q⟩:∃x:du,m[i]?=some x/\(x.1,x.2.2.2)=(k0,v0):=by
  have:=hi;rw[<-h.nd,ie,bv] at this
  obtain⟨x,l,e⟩:=Option.map_eq_some_iff.1 this
  exact⟨x,l,e⟩
 have t:x.1=k0:=congrArg Prod.fst q;have u:len=m.length:=by
  rcases h.row.2 with⟨f,_⟩|⟨B,F,N,f,_⟩
  ·simp at f
  ·simp at f;exact f.2.1
 refine⟨⟨(aP _ _ _ _ (fun c=>?_)).trans h.blk,h.lo,h.mp.same (aP _ _ _ _ (fun c=>?_)),?_,?_,fun y hy=>?_,h.dx.trans (d.below h.dx.size)⟩,d,fun k hk=>?_⟩
 ·have c:=c;have:=h.blk;rw[c,j] at this
  simp at this
 ·obtain⟨D,⟨S,W,hb,_⟩,_⟩:=h.mp;rw[c,j] at hb;simp at hb
 ·rw[bf,<-t,rQ m i x a2 c2 b l];have:=h.row;rw[<-u] at this⊢
  exact jp this _ _
 ·rw[ie,List.map_set];show((ie m).set i (k0,b))=_;rw[h.nd]
 ·rcases List.mem_or_eq_of_mem_set hy with hy|hy
  ·exact(h.fl y hy).kf d
  ·subst hy;exact(ge.of hr).kf d
 ·obtain⟨y,hy,hl,o,e⟩:=hk;exact wU
section
variable {w0:aw}{kb cr pw p q N O y g:Nat}{ws:List Int}{sd:Nat}{v0:Value}{a1:Option Addr}{k1:Nat}{Q:List b9}{T:List Int}
theorem Db (hq:lB w0 pw p q N O y g ws sd v0 a1 k1 Q)(bg:∀a∈T,0<=a/\a<2000)(cO:T.length<=100000)(n:Nat)(M:cP->Int->cP)(hM:nm w0 kb cr pw T M n)(ax:kg T (fun a=>pk (ld N y g ws a)) (eS N y g ws Q) n M):
 nm w0 kb cr pw T (fun s a=>((dh M T (s.1++[a],s.2++[(pk (ld N y g ws a),[])]) (eS N y g ws Q a)).2.1,(dh M T (s.1++[a],s.2++[(pk (ld N y g ws a),[])]) (eS N y g ws Q a)).2.2.set s.1.length (pk (ld N y g ws a),(dh M T (s.1++[a],s.2++[(pk (ld N y g ws a),[])]) (eS N y g ws Q a)).1))) (n+1):=by
 intro w s cQ m a h l ha ab hl;obtain⟨cl,hi,cm,cn,co⟩:=info_parts wV;have cR:=l.lt ha ab;have cp:=bg a ha;have cq:m.length=s.1.length:=by rw[h.len,l.len]
 have aB:=l.more ha ab (pk (ld N y g ws a),[])
 have aF:=kc M T (s.1++[a],s.2++[(pk (ld N y g ws a),[])]) (eS N y g ws Q a)
 have G:=m6 ax aB (by simp;omega) (eS N y g ws Q a)
 have cs:=Cu N y g ws Q a;have ct:=hq.hm;have bi:(dh M T (s.1++[a],s.2++[(pk (ld N y g ws a),[])]) (eS N y g ws Q a)).2.2[s.1.length]?=some (pk (ld N y g ws a),[]):=by rw[G.old s.1.length ac,List.getElem?_append_right (by rw[l.len];exact aD _),l.len];simp
 have cS:s.1.length<(dh M T (s.1++[a],s.2++[(pk (ld N y g ws a),[])]) (eS N y g ws Q a)).2.1.length:=by
  have:=G.le;simp at this
  omega
 have cu:=G.ok.len;have bl:ay (∀(t:aw)(bn:Value)(bo:List du)(v:Option Addr)(ad:Nat),Wk w0 t kb cr pw T (s.1++[a],s.2++[(pk (ld N y g ws a),[])]) bn bo->Lq t v (eS N y g ws Q a)->
  _):=
  fun t bn bo v ad cv cw=>sj hM ax cv aB (by simp;omega) _ v ad cw aa
 have bp:ay (∀w1,Below w0.heap.size w0 w1->_):=fun w1 hb=>f6 a w1 (hq.low hb).ar;have br:ay (∀w1,Below w0.heap.size w0 w1->w1.cell? (ao kb 0)=some (am pw)->_):=
  fun w1 hb hc=>Cv (hq.low hb) kb hc a cp.1 aa
 have cT:=aM w0 _ hq.c0;have cx:ay (∀w1,Below w0.heap.size w0 w1->_=_):=fun w1 hb=>(hq.low hb).c0;have bs:=i1 (a:=a) aa aa;have bt:=mo (s.1.length:Int) (WalkArith.wf_i64 ⟨aa,aa⟩)
 clear hM ax G aB cs ct hq bg;dsimp only;generalize cz:dh M T (s.1++[a],s.2++[(pk (ld N y g ws a),[])]) (eS N y g ws Q a)=R at*;clear cz;generalize eS N y g ws Q a=cU at*;obtain⟨cV,cW⟩:=R;dsimp only at*;generalize pk (ld N y g ws a)=kd at*;generalize pf (ld N y g ws a)=f at*;generalize pc (ld N y g ws a)=cc at*;have H:ay (_):=h;obtain⟨aR,dY,cA⟩:=dU h.row;subst cA;obtain⟨c0,c1,c2,lk⟩:=h.cells;obtain⟨D,o1,bx,b0⟩:=h.mp;have hlo:=h.lo;have b1:ay (∀(w1:aw)(k:Nat),w1.ownsMap prog 3 (plainElem prog 3) cr k (D.put (.int .i64 a) (.lit (.int .i64 (s.1.length:Int))))->Nm w1 cr T (s.1++[a])):=fun w1 k cB=>Nm.put o1 bx b0 ha ab cB;have b2:ay (ie m=s.2):=h.nd;clear h bx b0 l ha ab;generalize s.1.length=L at*;subst cq;go_enter func231,ntmps231;go_wp2_with (at_mapUpdate;refine wpList_mapUpdate_own _ rfl _ _ _ 127 rfl 3 3 iE underlying127 (plainElem (H:=Unit) prog 3) cr T.length D rfl o1 (by unfold maxLen;omega) _ _ _ rfl rfl bs _ [] bt ?_;intro w1 b3 b5;(have b6:Fr (fun k=>k=cr) w w1:=(Fr.refl _ _).grown b5 (fun k e=>aL (by cases e;rfl)));(have b:ay (_/\_/\_/\_/\_):=H.o.turned b6);(have aT:ay (Nm w1 cr T (s.1++[a])):=b1.o w1 _ b3);(have cC:w1.cell? (ao kb 0)=some (am pw):=by simp[World.cell?,b.o.2.1]);(have y1:=cx.o w1 b.o.2.2.2.2);clear b3 b5 b6 c0 c1 c2 o1 b1)
 refine(bp.o w1 b.o.2.2.2.2).mono ?_;clear bp;rintro e ag ⟨rfl,d⟩
 have aV:=(d.block kb (lt_of_some b.o.2.1)).trans b.o.2.1;have b7:ag.cell? (ao kb 2)=some (.slice aR m.length dY):=aA aV
 have b8:=hide aV;have b9:=hide (aT.o.same (by obtain⟨cX,cD,_⟩:=aT.o;exact d.block cr cD.lt))
 have a0:=cy b.o.2.2.1 (fun k hk=>d.block k (cg b.o.2.2.1 k hk).2)
 have ca:=hide a0;have cb:ay (_):=fun x cE=>(b.o.2.2.2.1 x cE).kf (Kf.of (B:=0) d)
 have B2:=hide (b.o.2.2.2.2.trans (d.mono b.o.2.2.2.2.size))
 have cd:=hide ((show ff w0 w m w1 m from⟨b.o.1,fun k h=>aL h⟩).trans (ff.of d))
 have cY:=B2.o.size;clear b aT aV cC y1 d lk;go_wp2_with (at_builtin;refine wpList_append_own_at _ rfl _ _ 58 rfl w0.heap.size 107 cl (.agg #[ak 0,.slice none 0 0]) 2 32 underlying58 hi cm cn co rfl ae (.slice aR m.length dY) m.length (nv m) rfl (gb a0 _) ⟨ag.heap.size,0,none⟩ 1 1 [ak kd,.slice none 0 0] rfl rfl ?_ ?_ ?_ ?_ ?_ ?_;(intro j u i;match j,i with|0,i=>(simp at i;subst i;simp[Addr.add])|1,i=>(simp at i;subst i;simp[Addr.add]));(intro u F;simp at F;rcases F with F|F<;>(subst F;rfl));(unfold maxLen;omega);omega;(simp;omega);intro cZ a3 bb ce _ cF;obtain⟨b4,cG,cH⟩:=d4 bb (Nat.succ_pos _);subst cH;(have ai:=hide (Wk.grown b8.o hlo b9.o ca.o b2.o cb.o B2.o (aq ag _) bb ce));(have u0:a3.cell? (ao kb 2)=some (.slice aR m.length dY):=by simp[World.cell?,ai.o.2.2]);(have cI:a3.frozen? (ao kb 2)=false:=by simp[World.frozen?,ai.o.2.2]);clear bb ce cF b7 a0 b8 b9 ca b2 cb B2)
 obtain⟨cf,ch,_⟩:=ai.o;have al:=hide (cd.o.trans ch)
 have S:=hide cf;clear ai cf ch u0 cI cd;generalize a3.setCell ⟨kb,2,none⟩ (.slice (some ⟨b4,0,none⟩) (m.length+1) cG)=t at al S⊢;refine(br.o t S.o.dx S.o.cells.1).mono ?_;clear br;rintro e cJ ⟨v,ad,rfl,ci,ap⟩
 go_wp2_with fail;refine(bl.o cJ _ _ v ad (S.o.below ap) (Lq.of ci)).mono ?_;clear bl;rintro e c3 ⟨c4,W,a2,c5,rfl,bd,o,cj,cK⟩
 have c6:=o.len.trans cu;obtain⟨c7,c8,cL⟩:=d4 o.row aa;subst cL;have b7:=o.cells.2.2.1;have cM:m.length<W.length:=aa;obtain⟨be,c9⟩:=fe o.row ((na W m.length _ (aI cM)).2)
 rw[<-aF] at bd;have ar:=hide (o.filled bi bd)
 have ck:=hide ((al.o.trans (ff.of ap)).trans cj)
 have cN:=((al.o.trans (ff.of ap)).1).size;generalize (W[m.length]).2.1=q1 at be;generalize (W[m.length]).2.2.2.length=da at be;generalize (W[m.length]).2.2.1=q3 at be;rw[aF] at ar;clear ci ap bd o cj cK al S bi aF bt bs;go_wp2_with fail;go_ret;exact⟨_,_,rfl,ar.o.1,ck.o.1.trans ar.o.2.1,fun k hk=>(ar.o.2.2 k hk).elim (ck.o.2 k) (fun c=>aK (aS cN c))⟩
theorem so (hq:lB w0 pw p q N O y g ws sd v0 a1 k1 Q)(b:∀a∈T,0<=a/\a<2000)(c:T.length<=100000):∀n,nm w0 kb cr pw T (met T (fun a=>pk (ld N y g ws a)) (eS N y g ws Q) n) n
 |0=>fun w s f m a _ d ha e hl=>by have:=d.lt ha e;omega
 |n+1=>Db hq b c n _ (so hq b c n) (jb n)
end
def lK {d:Type}(o:dS d)(D:Int->Prop)(f:Nat)(b c:Array Value)(nw:d->Int->Int):Prop:=
 ∀F t w (x:Int),D x->o.J F t w->Calls prog f (b.push (ak x)++c) w fun r w'=>r=.returned (ak (nw t x))/\Below w.heap.size w w'
def kn {d:Type}(o:dS d)(D:Int->Prop)(f:Nat)(b c:Array Value)(is:d->Int->Bool):Prop:=
 ∀F t w (x:Int),D x->o.J F t w->Calls prog f (b.push (ak x)++c) w fun r w'=>r=.returned (.bool (is t x))/\Below w.heap.size w w'
def oI {d:Type}(o:dS d)(D:Int->Prop)(f:Nat)(b c:Array Value)(kp:d->Int->Int×d):Prop:=
 ∀F t w (x:Int),D x->o.J F t w->Calls prog f (b.push (ak x)++c) w fun r w'=>∃e,r=.returned (ak (kp t x).1)/\o.J e (kp t x).2 w'/\Fr F w w'/\∀k,e k->F k\/w.heap.size<=k
theorem wW {S:Type}(o:dS S)(D:Int->Prop)(f:Nat)(b c:Array Value)(nw:S->Int->Int)(ax:d7 f)(ht:lK o D f b c nw)(l:List b9)(W:Option Addr)(bo:Nat)(F:Nat->Prop)(t:S)(w:aw)
 (hD:∀e∈l,D e.1/\D e.2)(hm:l.length<=100000)(aB:o.J F t w)(hp:c8 w W l):
 Calls prog 152 #[.slice W l.length bo,.func (.func f) b c] w fun r w'=>∃a1 c1,r=.returned (.slice a1 l.length c1)/\w'.ownsRow w.heap.size 103 2 (.slice a1 l.length c1) l.length (ev (l.map fun e=>(nw t e.1,nw t e.2)))/\Below w.heap.size w w':=by
 obtain⟨bp,hi,br,bs,bt⟩:=info_parts m_;have aF:ay (lK o D f b c nw):=ht;have bx:ay (c8 w W l):=hp;have aR:ay (o.J F t w):=aB;clear hp ht aB;have cc:∀(args:Array Value)(w:aw),(callFunc f args).run prog w=.ok (.enter f args) w:=ax;clear ax;go_enter func152,ntmps152;go_wp2_with fail
 go_loopw [5,10] (fun vt iv wr=>∃(j:Nat)(T:List b9)(n:Option Addr)(p:Nat),j<=l.length/\iv=ak j/\ay (T=(l.take j).map fun e=>(nw t e.1,nw t e.2))/\vt=.slice n T.length p/\
  wr.ownsRow w.heap.size 103 2 (.slice n T.length p) T.length (ev T)/\Below w.heap.size w wr) (fun _ iv _=>l.length-(intOf iv).toNat)
 case atStart=>exact⟨0,[],none,0,aX _,rfl,rfl,rfl,a6 _ _ _ _,aE _ _⟩
 case round=>
  obtain⟨j,T,n,p,m,rfl,v,rfl,d,hb⟩:=hrel;have b0:T.length<=100000:=by rw[v.o];simp;omega
  by_cases B:j<l.length
  ·obtain⟨cd,ce,b1,cf,hc⟩:=bx.o.below hb aa;obtain⟨aT,aV⟩:=hc j B;clear hc;obtain⟨a0,a2⟩:=hD (l.getD j (0,0)) (by rw[aG,aI B];exact a_ B)
   have ab:ay (T++[(nw t (l.getD j (0,0)).1,nw t (l.getD j (0,0)).2)]=(l.take (j+1)).map fun e=>(nw t e.1,nw t e.2)):=by show _=_;rw[fE l j B (0,0),bC,v.o];rfl
   generalize (l.getD j (0,0)).1=g at aT ab a0;generalize (l.getD j (0,0)).2=z at aV ab a2;subst b1;have b2:=hb.size;have ad:Below w.heap.size w (wr.alloc (.cells #[.int .i64 g,.int .i64 z] 103)):=hb.alloc b2 _;have ag:=gb d (.cells #[.int .i64 g,.int .i64 z] 103)
   go_wp2_with fail
   go_region_held3 (fun w'=>w'.cell? (ao wr.heap.size 0)=some (ak g)/\w'.cell? (ao wr.heap.size 1)=some (ak z)) (go_keep)
    (first
      |(refine(aF.o F t _ g a0 (o.below aR.o ad.drew)).mono ?_;rintro e w3 ⟨rfl,q⟩;have ai:Below w.heap.size w w3:=ad.drew.trans (q.mono (by simp;omega));have al:=cy ag (fun k e=>q.block k (cg ag k e).2);have b3:=q.size;simp at b3;have y1:w3.cell? (ao wr.heap.size 0)=some (ak g):=(q.cell ac).trans ac;have a3:w3.cell? (ao wr.heap.size 1)=some (ak z):=(q.cell ac).trans ac;have bb:wr.heap.size<w3.heap.size:=aa)
      |(refine(aF.o F t _ z a2 (o.below aR.o ai)).mono ?_;rintro e i ⟨rfl,s⟩;have ap:Below w.heap.size w i:=ai.trans (s.mono aa);have bd:=cy al (fun k e=>s.block k (cg al k e).2);have ch:=s.size;have be:i.cell? (ao wr.heap.size 0)=some (ak g):=(s.cell bb).trans y1;have bg:i.cell? (ao wr.heap.size 1)=some (ak z):=(s.cell bb).trans a3;have bi:wr.heap.size<i.heap.size:=aa)
      |(refine step_append_lies _ rfl (.tmp 14) (.tmp 24) 151 rfl w.heap.size 103 bp (.agg #[ak 0,ak 0]) 2 16 underlying151 hi br bs bt rfl ae (.slice n T.length p) T.length (ev T) (by simp[Act.eval]) (gb bd _) ⟨i.heap.size,0,none⟩ 1 1 [ak (nw t g),ak (nw t z)] (by simp[Act.eval]) rfl ?_ ?_ ae (by unfold maxLen;omega) aa (by simp;omega) _ rfl ?_;(intro j u m;match j,m with|0,m=>(simp at m;subst m;simp[Addr.add])|1,m=>(simp at m;subst m;simp[Addr.add]));(intro u x;simp at x;rcases x with x|x<;>(subst x;rfl));intro b6 bl ar bn N b4 b5;have b7:ar.cell? (ao wr.heap.size 0)=some (ak g):=N.cell (((aq i _).cell bi).trans be) (fun e=>absurd (cg d _ e).2 (Nat.lt_irrefl _));have b8:ar.cell? (ao wr.heap.size 1)=some (ak z):=N.cell (((aq i _).cell bi).trans bg) (fun e=>absurd (cg d _ e).2 (Nat.lt_irrefl _))))
   have ca:ar.ownsRow w.heap.size 103 2 (.slice (an b6) (T++[(nw t g,nw t z)]).length bl) (T++[(nw t g,nw t z)]).length (ev (T++[(nw t g,nw t z)])):=by rw[kO];simpa[ev] using bn
   have cb:=(ap.alloc ap.size _).grown N (by simp;omega) (fun k e=>(cg d k e.symm).1)
   clear bn N b4 b5 ag al bd ad ai ap d hb q s y1 a3 be bg b7 b8 aT aV;go_wp2_with fail;go_roundw
   case rel=>exact⟨j+1,T++[(nw t g,nw t z)],an b6,bl,aa,aj,ab,ac,ca,cb⟩
   case measure=>simp[intOf];omega
  ·obtain rfl:j=l.length:=aa;rw[ba] at v;have hl:T.length=l.length:=by rw[v.o,aU]
   rw[hl] at d;have d:wr.ownsRow w.heap.size 103 2 (.slice n l.length p) l.length (ev (l.map fun e=>(nw t e.1,nw t e.2))):=by rw[<-v.o];exact d
   clear b0;go_wp2_with fail;go_ret;exact⟨n,p,by rw[hl];rfl,d,hb⟩
structure fG (σ:Type) extends dS σ where
 p:Nat
 vr:Value
 wt:σ->List b9
 put:σ->List b9->σ
 side:∀{F s w},J F s w->∃ad cap,w.heap[p]?=some (.cells #[vr,.slice ad (wt s).length cap] 153 (0,0))/\iz w ad (wt s) cap/\F p/\(0<(wt s).length->∀z,ad=some z->F z.block)
 set:∀{F s w},J F s w->∀{w1:aw}{q:List b9}{b1 gq:Nat},Below w.heap.size w w1->w1.ownsRow w.heap.size 103 2 (.slice (an b1) q.length gq) q.length (ev q)->
  J (fun k=>F k\/k=b1) (put s q) (w1.setCell ⟨p,1,none⟩ (.slice (some ⟨b1,0,none⟩) q.length gq))
 p7:∀s q,wt (put s q)=q
theorem iz.keep {w w':aw}{b:Option Addr}{l:List b9}{c:Nat}(h:iz w b l c)(hs:w.heap.size<=w'.heap.size)(hk:0<l.length->∀a,b=some a->w'.heap[a.block]?=w.heap[a.block]?):iz w' b l c:=⟨h.lp.keep hs hk,h.le,h.nil⟩
theorem iz.below {w w':aw}{b:Option Addr}{l:List b9}{c:Nat}(h:iz w b l c)(hb:Below w.heap.size w w'):iz w' b l c:=⟨h.lp.below hb,h.le,h.nil⟩
def mA {d:Type}(o:fG d)(D:Int->Prop)(f:Nat)(b c:Array Value)(kp:d->Int->Int×d):Prop:=
 ∀F t w (x:Int),D x->(o.wt (kp t x).2).length<=90000->o.J F t w->Calls prog f (b.push (ak x)++c) w fun r w'=>∃e,r=.returned (ak (kp t x).1)/\o.J e (kp t x).2 w'/\Fr F w w'/\∀k,e k->F k\/w.heap.size<=k
structure fL where
 f:Nat
 b:Array Value
 c:Array Value
abbrev fL.v (x:fL):Value:=.func (.func x.f) x.b x.c
structure kV (w:aw)(p bl Dc bs:Nat)(fa fk fn:fL):Prop where
 l:w.heap[bl]?=some (.cells #[fa.v,fk.v,fn.v] 145 (0,0))
 g:w.heap[Dc]?=some (.cells #[.func (.func 146) #[] #[am bl]] 101 (0,0))
 s:w.heap[bs]?=some (.cells #[am p] 52 (0,0))
theorem wX {i:Type}(o:dS i)(D:Int->Prop)(d:fL)(is:i->Int->Bool)(he:d7 d.f)(ha:kn o D d.f d.b d.c is)(F:Nat->Prop)(s:i)(w:aw)(bl:Nat)(e:b9)(hD:D e.1)(j:o.J F s w)(hc:w.cell? (ao bl 0)=some d.v):
 Calls prog 146 #[en e,am bl] w fun r w'=>r=.returned (.bool (is s e.1))/\Below w.heap.size w w':=by
 obtain⟨g,z⟩:=e;obtain⟨f,b,c⟩:=d;have l:ay (_):=ha;have m:ay (_):=j;have n:=aM w _ hc;have p:∀(args:Array Value)(w:aw),_=_:=he;clear he ha j;go_enter func146,ntmps146;go_wp2_with fail;have k:=aq w (.cells #[.int .i64 g,.int .i64 z] 103)
 refine(l.o F s _ g hD (o.below m.o k)).mono ?_;rintro r w1 ⟨rfl,hb⟩
 go_wp2_with fail;go_ret;exact⟨rfl,k.trans (hb.mono ac)⟩
theorem Dd {i:Type}(o:dS i)(D:Int->Prop)(d:fL)(is:i->Int->Bool)(he:d7 d.f)(ha:kn o D d.f d.b d.c is)(F:Nat->Prop)(s:i)(w:aw)(bl:Nat)(e:b9)(hD:D e.2)(j:o.J F s w)(hc:w.cell? (ao bl 0)=some d.v):
 Calls prog 151 #[en e,am bl] w fun r w'=>r=.returned (.bool (is s e.2))/\Below w.heap.size w w':=by
 obtain⟨g,z⟩:=e;obtain⟨f,b,c⟩:=d;have l:ay (_):=ha;have m:ay (_):=j;have n:=aM w _ hc;have p:∀(args:Array Value)(w:aw),_=_:=he;clear he ha j;go_enter func151,ntmps151;go_wp2_with fail;have k:=aq w (.cells #[.int .i64 g,.int .i64 z] 103)
 refine(l.o F s _ z hD (o.below m.o k)).mono ?_;rintro r w1 ⟨rfl,hb⟩
 go_wp2_with fail;go_ret;exact⟨rfl,k.trans (hb.mono ac)⟩
def cm {b:Type}(o:fG b)(is:b->Int->Bool)(kp:b->Int->Int×b)(s:b)(e:b9):Bool×b:=
 if is s e.1 then(true,o.put (kp s e.2).2 (o.wt (kp s e.2).2++[(e.1,(kp s e.2).1)])) else(false,s)
theorem nn {b:Type}{o:fG b}{is:b->Int->Bool}{kp:b->Int->Int×b}{s:b}{e:b9}(h:is s e.1=false):cm o is kp s e=(false,s):=by simp[cm,h]
theorem ns {b:Type}{o:fG b}{is:b->Int->Bool}{kp:b->Int->Int×b}{s:b}{e:b9}(h:is s e.1=true):cm o is kp s e=(true,o.put (kp s e.2).2 (o.wt (kp s e.2).2++[(e.1,(kp s e.2).1)])):=by simp[cm,h]
theorem De {l:Type}(o:fG l)(D:Int->Prop)(b fk bi:fL)(is:l->Int->Bool)(kp:l->Int->Int×l)(he:d7 b.f)(ar:d7 fk.f)(ha:kn o.todS D b.f b.b b.c is)(hk:mA o D fk.f fk.b fk.c kp)
 (F:Nat->Prop)(s:l)(w:aw)(bl u bs:Nat)(e:b9)(hD:D e.1/\D e.2)(ax:(o.wt (kp s e.2).2).length<=90000)(aB:o.J F s w)(hB:kV w o.p bl u bs b fk bi)(hs:¬F bs):
 Calls prog 147 #[en e,am u,am bl,am bs] w fun r w'=>∃aF,r=.returned (.bool (cm o is kp s e).1)/\o.J aF (cm o is kp s e).2 w'/\Fr F w w'/\∀k,aF k->F k\/w.heap.size<=k:=by
 obtain⟨g,z⟩:=e;have bn:ay (kn o.todS D b.f b.b b.c is):=ha;have bo:ay (mA o D fk.f fk.b fk.c kp):=hk;have ad:ay ((o.wt (kp s z).2).length<=90000):=ax;have bp:ay (d7 b.f):=he;have v:ay (o.J F s w):=aB;have c0:w.cell? (ao bl 0)=some b.v:=aA hB.l
 have c1:w.cell? (ao bl 1)=some (.func (.func fk.f) fk.b fk.c):=aA hB.l
 have c2:w.cell? (ao u 0)=some (.func (.func 146) #[] #[am bl]):=aA hB.g
 have c3:w.cell? (ao bs 0)=some (am o.p):=aA hB.s
 have l1:bl<w.heap.size:=lt_of_some hB.l;have l2:u<w.heap.size:=lt_of_some hB.g;have br:bs<w.heap.size:=lt_of_some hB.s;have ch:∀(args:Array Value)(w:aw),(callFunc fk.f args).run prog w=.ok (.enter fk.f args) w:=ar;clear he ha aB hk ar ax hB;go_enter func147,ntmps147;go_wp2_with fail;have x:=aq w (.cells #[.int .i64 g,.int .i64 z] 103)
 refine(wX o.todS D b is bp.o bn.o F s _ bl (g,z) hD.1 (o.below v.o x) ((x.cell l1).trans c0)).mono ?_;rintro r w1 ⟨rfl,hb⟩
 have d:=x.trans (hb.mono ac)
 have bt:w.heap.size<w1.heap.size:=by have:=hb.size;simp at this;omega
 have aR:w1.cell? (ao w.heap.size 0)=some (ak g):=(hb.cell ac).trans ac;have y1:w1.cell? (ao w.heap.size 1)=some (ak z):=(hb.cell ac).trans ac;have bx:w1.cell? (ao bl 1)=some (.func (.func fk.f) fk.b fk.c):=(d.cell l1).trans c1;have aT:w1.cell? (ao bs 0)=some (am o.p):=(d.cell br).trans c3;have aV:w1.frozen? (ao w.heap.size 1)=false:=(hb.frozen ac).trans ac;clear hb x;cases hg:is s g
 ·have m:ay (cm o is kp s (g,z)=(false,s)):=nn hg;go_wp2_with fail;go_ret;rw[m.o];exact⟨F,rfl,o.below v.o d,Fr.of d,fun k h=>aL h⟩
 ·have m:ay (cm o is kp s (g,z)=(true,o.put (kp s z).2 (o.wt (kp s z).2++[(g,(kp s z).1)]))):=ns hg;go_wp2_with fail;refine(bo.o F s _ z hD.2 ad.o (o.below v.o d)).mono ?_;rintro r w3 ⟨n,rfl,B,t,N⟩
  generalize (kp s z).1=y at m⊢;generalize (kp s z).2=s1 at m B ad;have ag:¬F w.heap.size:=fun h=>by have:=o.lt v.o _ h;omega
  have S:¬n w.heap.size:=fun h=>(N _ h).elim ag (fun h=>by omega)
  have ci:=t.size;have cj:=d.size;obtain⟨ai,al,hp,a0,W,a1⟩:=o.side B;have a2:o.p≠w.heap.size:=fun e=>S (by rw[<-e];exact W)
  have ck:o.p<w3.heap.size:=lt_of_some hp;have cl:bs≠o.p:=fun e=>(N bs (by rw[e];exact W)).elim hs (fun h=>by omega)
  have cn:=ad.o;have ab:=t.block _ bt ag;have a3:=t.block bs aa hs;have z0:w3.cell? (ao w.heap.size 0)=some (ak g):=(aW (a:=⟨w.heap.size,0,none⟩) ab).trans aR;have bb:w3.cell? (ao w.heap.size 1)=some (ak z):=(aW (a:=⟨w.heap.size,1,none⟩) ab).trans y1;have b0:w3.frozen? (ao w.heap.size 1)=false:=(World.frozen?_of_block (a:=⟨w.heap.size,1,none⟩) ab).trans aV;have bd:w3.cell? (ao bs 0)=some (am o.p):=(aW (a:=⟨bs,0,none⟩) a3).trans aT;have b2:bs≠w.heap.size:=aa;have j:∀k:Nat,k≠w.heap.size->(w3.setCell ⟨w.heap.size,1,none⟩ (.int .i64 y)).heap[k]?=w3.heap[k]?:=fun k hk=>aP _ _ _ _ hk;have ap:(w3.setCell ⟨w.heap.size,1,none⟩ (.int .i64 y)).heap.size=w3.heap.size:=by simp[World.setCell]
  have b3:(w3.setCell ⟨w.heap.size,1,none⟩ (.int .i64 y)).cell? (ao w.heap.size 0)=some (ak g):=(a5 w3 ⟨w.heap.size,1,none⟩ ⟨w.heap.size,0,none⟩ (ak y) ac).trans z0;have b4:(w3.setCell ⟨w.heap.size,1,none⟩ (.int .i64 y)).cell? (ao w.heap.size 1)=some (ak y):=a8 _ _ _ bb;have b5:(w3.setCell ⟨w.heap.size,1,none⟩ (.int .i64 y)).cell? (ao bs 0)=some (am o.p):=(aW (a:=⟨bs,0,none⟩) (j bs b2)).trans bd;have b6:(w3.setCell ⟨w.heap.size,1,none⟩ (.int .i64 y)).cell? (ao o.p 1)=some (.slice ai (o.wt s1).length al):=(aW (a:=⟨o.p,1,none⟩) (j o.p a2)).trans (by simp[World.cell?,hp])
  have b7:(w3.setCell ⟨w.heap.size,1,none⟩ (.int .i64 y)).frozen? (ao o.p 1)=false:=(World.frozen?_of_block (a:=⟨o.p,1,none⟩) (j o.p a2)).trans (by simp[World.frozen?,hp])
  have b8:o.J n s1 (w3.setCell ⟨w.heap.size,1,none⟩ (.int .i64 y)):=o.keep B (by rw[ap];exact aD _) (fun k hk=>j k (fun e=>S (by rw[<-e];exact hk)))
  have ca:iz (w3.setCell ⟨w.heap.size,1,none⟩ (.int .i64 y)) ai (o.wt s1) al:=a0.keep (by rw[ap];exact aD _) (fun hq a e=>j _ (fun cb=>S (by rw[<-cb];exact a1 hq a e)))
  have cc:Fr F w (w3.setCell ⟨w.heap.size,1,none⟩ (.int .i64 y)):=((Fr.of (X:=F) d).trans t (fun _ c=>aL c)).trans ((Fr.refl (fun k=>k=w.heap.size) w3).set _ 1 _ rfl) (fun i c=>aK aa)
  have be:ay (∀k,n k->F k\/w.heap.size<=k):=fun k h=>(N k h).imp id (fun h=>by omega)
  have cd:ay (n o.p):=W;have lo:bs<(w3.setCell ⟨w.heap.size,1,none⟩ (.int .i64 y)).heap.size:=aa;have lp:o.p<(w3.setCell ⟨w.heap.size,1,none⟩ (.int .i64 y)).heap.size:=aa;have lw:w.heap.size<(w3.setCell ⟨w.heap.size,1,none⟩ (.int .i64 y)).heap.size:=aa;clear ag S hp a0 W a1 ab a3 bd j t B N aR y1 bx aT aV ap;go_wp2_with fail;generalize w3.setCell ⟨w.heap.size,1,none⟩ (.int .i64 y)=co at*;clear z0 bb b0
  go_region_with (go_at_call 104;refine(vz _ ai (o.wt s1) al g y (ca.below (bZ.drew)) aa).mono ?_;rintro e ce ⟨b1,gq,rfl,bg,f⟩;have cp:=(f.cell (p:=ao w.heap.size 0) lw).trans b3;have cq:=(f.cell (p:=ao w.heap.size 1) lw).trans b4;have cr:=(f.cell (p:=ao bs 0) lo).trans b5;have cs:=(f.cell (p:=ao o.p 1) lp).trans b6;have ct:=(f.frozen (p:=ao o.p 1) lp).trans b7)
  all_goals
   go_wp2_with fail;go_ret;rw[m.o];have cf:=o.set (q:=o.wt s1++[(g,y)]) (b1:=b1) (gq:=gq) (o.below b8 bZ.drew) f (by simpa using bg)
   refine⟨fun k=>n k\/k=b1,rfl,by simpa using cf,(cc.drew.trans (Fr.of (X:=F) f) (fun _ c=>aL c)).trans ((Fr.refl (fun k=>k=o.p) ce).set o.p 1 _ rfl) (fun i c=>by rw[c];exact be.o _ cd.o),fun k h=>h.elim (be.o k) (fun h=>aK (by have:=(cg bg b1 rfl).1;simp at this;omega))⟩
def boxed {e:Type}(o:fG e)(bl d bs:Nat)(f fk g:fL):dS e where
 J F s w:=∃b,o.J b s w/\kV w o.p bl d bs f fk g/\¬b bl/\¬b d/\¬b bs/\∀k,F k↔(b k\/k=bl\/k=d\/k=bs)
 lt:=by
  rintro F t w ⟨b,h0,hB,_,_,_,c⟩ k hk;rcases(c k).1 hk with h|rfl|rfl|rfl
  ·exact o.lt h0 k h
  ·exact lt_of_some hB.l
  ·exact lt_of_some hB.g
  ·exact lt_of_some hB.s
 keep:=by rintro F t w w' ⟨b,h0,hB,i,j,l,c⟩ hs hk;exact⟨b,o.keep h0 hs (fun k h=>hk k ((c k).2 (aL h))),⟨(hk bl ((c bl).2 ac)).trans hB.l,(hk d ((c d).2 ac)).trans hB.g,(hk bs ((c bs).2 ac)).trans hB.s⟩,i,j,l,c⟩
theorem Df {c:Type}(o:fG c)(bl d bs:Nat)(D:Int->Prop)(b fk j:fL)(is:c->Int->Bool)(kp:c->Int->Int×c)(he:d7 b.f)(v:d7 fk.f)(ha:kn o.todS D b.f b.b b.c is)(hk:mA o D fk.f fk.b fk.c kp):
 Looks (boxed o bl d bs b fk j) (fun e=>D e.1/\D e.2) (fun s=>∀x,(o.wt (kp s x).2).length<=90000) 147 #[] #[am d,am bl,am bs] (cm o is kp):=by
 intro F s w e hD B N;obtain⟨l,h0,hB,m,n,g,i⟩:=N;refine(De o D b fk j is kp he v ha hk l s w bl d bs e hD (B e.2) h0 hB g).mono ?_;rintro r w' ⟨p,rfl,S,f,t⟩
 have q:∀k,k<w.heap.size->¬l k->_:=fun k hk W h=>(t k h).elim W (fun h=>by omega)
 have lb:=lt_of_some hB.l;have u:=lt_of_some hB.g;have ls:=lt_of_some hB.s;refine⟨fun k=>p k\/k=bl\/k=d\/k=bs,rfl,⟨p,S,⟨(f.block _ lb m).trans hB.l,(f.block _ u n).trans hB.g,(f.block _ ls g).trans hB.s⟩,q _ lb m,q _ u n,q _ ls g,fun k=>Iff.rfl⟩,f.mono (fun k h=>(i k).2 (aL h)),fun k h=>?_⟩
 rcases h with h|h
 ·exact(t k h).imp (fun h=>(i k).2 (aL h)) id
 ·exact aL ((i k).2 (aK h))
def eJ {c:Type}(lk:c->b9->Bool×c):Nat->c->List b9->c×List b9
 |0,s,b=>(s,b)
 |n+1,s,b=>if(pts lk s b).1.length=0 then((pts lk s b).2.2,(pts lk s b).2.1) else eJ lk n (pts lk s b).2.2 (pts lk s b).2.1
theorem lL {c:Type}(lk:c->b9->Bool×c)(n:Nat)(s:c)(b:List b9)(h:(pts lk s b).1.length=0):eJ lk (n+1) s b=((pts lk s b).2.2,(pts lk s b).2.1):=by rw[eJ,aJ h]
theorem lM {c:Type}(lk:c->b9->Bool×c)(n:Nat)(s:c)(b:List b9)(h:¬(pts lk s b).1.length=0):eJ lk (n+1) s b=eJ lk n (pts lk s b).2.2 (pts lk s b).2.1:=by rw[eJ,aH h]
theorem sq {b:Type}(lk:b->b9->Bool×b)(t:b)(l:List b9)(e:b9):(e∈(pts lk t l).1\/e∈(pts lk t l).2.1)->e∈l:=by
 have key:∀(l:List b9)(s:List b9×List b9×b),(e∈(l.foldl (eu lk) s).1\/e∈(l.foldl (eu lk) s).2.1)->e∈s.1\/e∈s.2.1\/e∈l:=by
  intro l
  induction l with
  |nil=>intro s h;rcases h with h|h<;>simp at h<;>simp[h]
  |cons x r c=>
   intro s h;have:=c _ h;unfold eu at this
   split at this<;>simp only [List.mem_append,List.mem_cons] at this⊢<;>grind
 intro h;have:=key l ([],[],t) h;simpa using this
abbrev mC (b bl bs:Nat):Value:=.func (.func 147) #[] #[am b,am bl,am bs]
theorem sr {b:Type}(o:fG b)(is:b->Int->Bool)(kp:b->Int->Int×b)(hl:∀s x,(o.wt (kp s x).2).length=(o.wt s).length)(s:b)(l:List b9):(o.wt (pts (cm o is kp) s l).2.2).length=(o.wt s).length+(pts (cm o is kp) s l).1.length:=by
 have key:∀(l:List b9)(t:List b9×List b9×b),(o.wt (l.foldl (eu (cm o is kp)) t).2.2).length+t.1.length=(o.wt t.2.2).length+(l.foldl (eu (cm o is kp)) t).1.length:=by
  intro l
  induction l with
  |nil=>simp
  |cons e r d=>
   intro t;rw[a9];have h:=d (eu (cm o is kp) t e)
   cases hc:is t.2.2 e.1
   ·have c:eu (cm o is kp) t e=(t.1,t.2.1++[e],t.2.2):=by simp[eu,cm,hc]
    rw[c] at h⊢;exact h
   ·have c:eu (cm o is kp) t e=(t.1++[e],t.2.1,o.put (kp t.2.2 e.2).2 (o.wt (kp t.2.2 e.2).2++[(e.1,(kp t.2.2 e.2).1)])):=by simp[eu,cm,hc]
    rw[c] at h⊢;rw[o.p7,aZ,aZ,hl] at h;simp at h;omega
 have:=key l ([],[],s)
 simpa[pts] using this
def fu {b:Type}(o:fG b)(is:b->Int->Bool)(kp:b->Int->Int×b)(s:b)(r:List b9):b:=(eJ (cm o is kp) ((r.filter (fun e=>!is s e.2)).length+1) s (r.filter (fun e=>!is s e.2))).1
def eV {b:Type}(o:fG b)(is:b->Int->Bool)(kp:b->Int->Int×b)(nw:b->Int->Int)(s:b)(r:List b9):List b9:=((r.filter (fun e=>is s e.2)).filter (fun e=>is (fu o is kp s r) e.1)).map fun e=>(nw (fu o is kp s r) e.1,nw (fu o is kp s r) e.2)
def eW {b:Type}(o:fG b)(is:b->Int->Bool)(kp:b->Int->Int×b)(nw:b->Int->Int)(s:b)(r:List b9):List b9:=((o.wt (fu o is kp s r)).filter (fun e=>is (fu o is kp s r) e.1)).map fun e=>(nw (fu o is kp s r) e.1,nw (fu o is kp s r) e.2)
structure lN {σ:Type}(o:fG σ)(D:Int->Prop)(fa fk fn:fL)(is:σ->Int->Bool)(kp:σ->Int->Int×σ)(nw:σ->Int->Int):Prop where
 ea:d7 fa.f
 fg:d7 fk.f
 en:d7 fn.f
 ha:kn o.todS D fa.f fa.b fa.c is
 hk:mA o D fk.f fk.b fk.c kp
 ht:lK o.todS D fn.f fn.b fn.c nw
 hl:∀s x,(o.wt (kp s x).2).length=(o.wt s).length
theorem wY:d7 146:=gW func146 ah rfl
theorem Dg:d7 147:=gW func147 ah rfl
theorem Dh:d7 151:=gW func151 ah rfl
def wZ:Value->Nat
 |.slice _ n _=>n
 |_=>0
def p8 (n m:Nat):Nat:=if n=0 then 0 else m+1
theorem Di {c b y n:Nat}(hc:¬c=0)(h:y+n=b):p8 y n<p8 c b:=by unfold p8;rw[aH hc];split<;>omega
theorem nt {w:aw}{a:Addr}{p i:Nat}{v:Value}(h:a.block≠p):(w.setCell ⟨p,i,none⟩ v).cell? a=w.cell? a:=aW (aP _ _ _ _ h)
theorem p9 {w:aw}{p:Nat}{x y v1 v2:Value}{T:TypeId}(h:w.heap[p]?=some (.cells #[x,y] T (0,0))):((w.setCell ⟨p,0,none⟩ v1).setCell ⟨p,1,none⟩ v2).heap[p]?=some (.cells #[v1,v2] T (0,0)):=by exact sk
theorem Fr.unbox {F:Nat->Prop}{w w':aw}{p bl b bs:Nat}{d fk e:fL}(h:Fr (fun k=>F k\/k=bl\/k=b\/k=bs) w w')(hB:kV w p bl b bs d fk e)(c:kV w' p bl b bs d fk e):Fr F w w':=
 ⟨h.os,h.tape,h.output,h.size,fun k hk j=>by
  by_cases f:k=bl
  ·rw[f,hB.l,c.l]
  by_cases g:k=b
  ·rw[g,hB.g,c.g]
  by_cases i:k=bs
  ·rw[i,hB.s,c.s]
  exact h.block k hk (by simp[j,f,g,i])⟩
theorem Dj {ap:Type}(o:fG ap)(D:Int->Prop)(l fk d:fL)(is:ap->Int->Bool)(kp:ap->Int->Int×ap)(nw:ap->Int->Int)(b8:lN o D l fk d is kp nw)(r:List b9)(ca:Option Addr)(cz:Nat)(db:o.vr=.slice ca r.length cz)(dc:r.length<=90000)(hD:∀e∈r,D e.1/\D e.2)
 (F:Nat->Prop)(s:ap)(w:aw)(dW:∀e∈o.wt (fu o is kp s r),D e.1/\D e.2)(eQ:(o.wt s).length+r.length<=90000)(bl b bs W:Nat)(bg:o.J F s w)(hB:kV w o.p bl b bs l fk d)(cA:w.heap[W]?=some (.cells #[mC b bl bs] 101 (0,0)))(cb:¬F bl)(ce:¬F b)(dX:¬F bs)(dY:¬F W)(dZ:W≠bl/\W≠b/\W≠bs)(dd:c8 w ca r):
 Calls prog 149 #[am bs,am bl,am W,am b] w fun e w'=>∃a1 c1 a2 c2 cf de,e=.returned (.bool true)/\o.J cf (fu o is kp s r) de/\Fr (fun k=>k=o.p) de w'/\
  w'.heap[o.p]?=some (.cells #[.slice a1 (eV o is kp nw s r).length c1,.slice a2 (eW o is kp nw s r).length c2] 153 (0,0))/\w'.ownsRow w.heap.size 103 2 (.slice a1 (eV o is kp nw s r).length c1) (eV o is kp nw s r).length (ev (eV o is kp nw s r))/\
  w'.ownsRow w.heap.size 103 2 (.slice a2 (eW o is kp nw s r).length c2) (eW o is kp nw s r).length (ev (eW o is kp nw s r))/\Fr F w w'/\(∀k,cf k->F k\/w.heap.size<=k)/\(∀k,some k=(Value.slice a1 (eV o is kp nw s r).length c1).ownBlock->¬cf k)/\(∀k,some k=(Value.slice a2 (eW o is kp nw s r).length c2).ownBlock->¬cf k)/\(∀k,some k=(Value.slice a1 (eV o is kp nw s r).length c1).ownBlock->some k≠(Value.slice a2 (eW o is kp nw s r).length c2).ownBlock):=by
 obtain⟨eR,eS,hp,_,eT,_⟩:=o.side bg;rw[db] at hp;have c3:w.cell? (ao bs 0)=some (am o.p):=aA hB.s
 have c4:w.cell? (ao o.p 0)=some (.slice ca r.length cz):=aA hp
 have l1:bl<w.heap.size:=lt_of_some hB.l;have l2:b<w.heap.size:=lt_of_some hB.g;have eU:bs<w.heap.size:=lt_of_some hB.s;have d0:W<w.heap.size:=lt_of_some cA;have v:ay (lN o D l fk d is kp nw):=b8;have d1:ay (kV w o.p bl b bs l fk d):=hB;have eX:ay (∀e∈r,D e.1/\D e.2):=hD;have d2:ay (∀e∈o.wt (fu o is kp s r),D e.1/\D e.2):=dW;have d3:ay (w.heap[W]?=some (.cells #[mC b bl bs] 101 (0,0))):=cA;have c0:w.cell? (ao bl 0)=some l.v:=aA hB.l
 have cB:=rO (fun e=>D e.1/\D e.2) 151 #[] #[am bl] (fun e=>is s e.2) Dh w (fun w' e hd hs hk=>Dd o.todS D l is b8.ea b8.ha F s w' bl e hd.2 (o.keep bg hs (fun k h=>hk k (o.lt bg k h))) ((aW (a:=⟨bl,0,none⟩) (hk bl l1)).trans c0)) r ca cz hD aa dd;obtain⟨A,ch⟩:∃A,ay (A=r.filter (fun e=>is s e.2)):=⟨_,rfl⟩
 obtain⟨B,bi⟩:∃B,ay (B=r.filter (fun e=>!is s e.2)):=⟨_,rfl⟩
 rw[<-ch.o,<-bi.o] at cB;have d4:A.length<=90000:=by rw[ch.o];exact aS (bk _ _) dc
 have df:B.length<=90000:=by rw[bi.o];exact aS (bk _ _) dc
 have d5:(o.wt s).length+B.length<=90000:=by have:=bk (fun e=>!is s e.2) r;rw[bi.o];omega
 have dg:ay ((eJ (cm o is kp) (B.length+1) s B).1=fu o is kp s r):=by show _=_;rw[bi.o];rfl
 have dh:ay (∀e∈A,D e.1/\D e.2):=fun e he=>hD e (by rw[ch.o] at he;exact(List.mem_filter.1 he).1)
 have d6:ay (∀e∈B,D e.1/\D e.2):=fun e he=>hD e (by rw[bi.o] at he;exact(List.mem_filter.1 he).1)
 have di:ay ((boxed o bl b bs l fk d).J (fun k=>F k\/k=bl\/k=b\/k=bs) s w):=⟨F,bg,hB,cb,ce,dX,fun k=>Iff.rfl⟩
 clear b8 bg hp db dd cA hD hB c0;go_enter func149,ntmps149;go_wp2_with fail;refine cB.mono ?_;clear cB;rintro e w1 ⟨a1,bn,a2,cC,rfl,cD,cE,cF⟩
 have dj:Fr (fun k=>F k\/k=bl\/k=b\/k=bs) w w1:=Fr.of cF;have dk:=(boxed o bl b bs l fk d).below di.o cF;have dl:ay (∀k,(F k\/k=bl\/k=b\/k=bs)->(F k\/k=bl\/k=b\/k=bs)\/w.heap.size<=k):=fun k h=>aL h;have cG:=(boxed o bl b bs l fk d).lt di.o;have ar:ay (∀k,some k=(Value.slice a1 A.length bn).ownBlock->¬(F k\/k=bl\/k=b\/k=bs)):=fun k e h=>by have:=(cg cD k e).1;have:=cG k h;omega
 have dm:ay (∀k,some k=(Value.slice a2 B.length cC).ownBlock->¬(F k\/k=bl\/k=b\/k=bs)):=fun k e h=>by have:=(cg cE k e).1;have:=cG k h;omega
 clear cG cF;go_wp2_with fail
 go_loopw [6,7] (fun cH vc wr=>∃(f C:List b9)(bo dn:Option Addr)(cd cc n:Nat)(aR:Nat->Prop)(s2:ap),cH=.slice bo f.length cd/\vc=.slice dn C.length cc/\ay (C.length=0->s2=fu o is kp s r)/\ay (¬C.length=0->(eJ (cm o is kp) n s2 f).1=fu o is kp s r/\f.length<n)/\ay (∀e∈f,D e.1/\D e.2)/\f.length<=90000/\C.length<=90000/\(o.wt s2).length+f.length<=90000/\
  wr.ownsRow w.heap.size 103 2 (.slice bo f.length cd) f.length (ev f)/\wr.ownsRow w.heap.size 103 2 (.slice a1 A.length bn) A.length (ev A)/\(boxed o bl b bs l fk d).J aR s2 wr/\Fr (fun k=>F k\/k=bl\/k=b\/k=bs) w wr/\ay (∀k,aR k->(F k\/k=bl\/k=b\/k=bs)\/w.heap.size<=k)/\
  ay (∀k,some k=(Value.slice a1 A.length bn).ownBlock->¬aR k)/\ay (∀k,some k=(Value.slice bo f.length cd).ownBlock->¬aR k)) (fun cH vc _=>p8 (wZ vc) (wZ cH))
 case atStart=>
  refine⟨B,B,a2,a2,cC,cC,B.length+1,(fun k=>F k\/k=bl\/k=b\/k=bs),s,rfl,rfl,fun h=>?_,fun _=>⟨dg.o,Nat.lt_succ_self _⟩,d6,df,df,d5,cE,cD,dk,dj,dl,ar,dm⟩
  rw[<-dg.o,List.eq_nil_of_length_eq_zero h];rfl
 case round=>
  clear cD cE dk dj dl ar dm;obtain⟨f,C,bo,dn,cd,cc,n,aR,s2,rfl,rfl,cI,aT,dp,eY,eZ,e0,hd,bp,cJ,ax,ci,ar,cK⟩:=hrel;by_cases aV:C.length=0
  ·have cj:ay (s2=fu o is kp s r):=cI.o aV;obtain⟨aB,j0,ab,n1,cL,cM,dq⟩:=cJ;have dr:wr.cell? (ao b 0)=some (.func (.func 146) #[] #[am bl]):=aA ab.g
   have ds:wr.cell? (ao bl 0)=some l.v:=aA ab.l
   have dt:wr.cell? (ao bl 2)=some (.func (.func d.f) d.b d.c):=aA ab.l
   have du:wr.cell? (ao bs 0)=some (am o.p):=aA ab.s
   obtain⟨br,bt,ck,dv,bx,d7⟩:=o.side j0;have dw:wr.cell? (ao o.p 1)=some (.slice br (o.wt s2).length bt):=aA ck
   have m1:=lt_of_some ab.l;have cN:=lt_of_some ab.g;have cO:=lt_of_some ab.s;have cP:=lt_of_some ck;have dx:=ax.size;have dy:ay (∀(w':aw)(e:b9),D e.1/\D e.2->wr.heap.size<=w'.heap.size->(∀k,k<wr.heap.size->w'.heap[k]?=wr.heap[k]?)->Calls prog 146 ((#[]:Array Value).push (en e)++#[am bl]) w' fun r d8=>r=.returned (.bool (is s2 e.1))/\Below w'.heap.size w' d8):=
    fun w' e hd hs hk=>wX o.todS D l is v.o.ea v.o.ha aB s2 w' bl e hd.1 (o.keep j0 hs (fun k h=>hk k (o.lt j0 k h))) ((aW (a:=⟨bl,0,none⟩) (hk bl m1)).trans ds)
   have cQ:=rO (fun e=>D e.1/\D e.2) 146 #[] #[am bl] (fun e=>is s2 e.1) wY wr dy.o A a1 bn dh.o aa (gn bp)
   obtain⟨t,cl⟩:∃t,ay (t=A.filter (fun e=>is s2 e.1)):=⟨_,rfl⟩
   rw[<-cl.o] at cQ;have e1:t.length<=90000:=by rw[cl.o];exact aS (bk _ _) d4
   have d9:ay (∀e∈t,D e.1/\D e.2):=fun e he=>dh.o e (by rw[cl.o] at he;exact(List.mem_filter.1 he).1)
   have ea:(o.wt s2).length<=90000:=aa;have dz:ay (∀e∈o.wt s2,D e.1/\D e.2):=by rw[cj.o];exact d2
   obtain⟨u,cn⟩:∃u,ay (u=(o.wt s2).filter (fun e=>is s2 e.1)):=⟨_,rfl⟩
   have e2:u.length<=90000:=by rw[cn.o];exact aS (bk _ _) ea
   have eb:ay (∀e∈u,D e.1/\D e.2):=fun e he=>dz.o e (by rw[cn.o] at he;exact(List.mem_filter.1 he).1)
   have cR:ay (kV wr o.p bl b bs l fk d):=ab;have ed:ay (o.J aB s2 wr):=j0;have ee:ay (iz wr br (o.wt s2) bt):=dv;have dA:ay (Fr (fun k=>F k\/k=bl\/k=b\/k=bs) w wr):=ax;clear hd bp ab j0 dv ax cI aT ar cK d7;go_wp2_with fail;refine cQ.mono ?_;clear cQ;rintro e w3 ⟨b1,cS,b2,cT,rfl,cU,_,S⟩
   have cV:=rO (fun e=>D e.1/\D e.2) 146 #[] #[am bl] (fun e=>is s2 e.1) wY w3.drew (fun w' e hd hs hk=>dy.o w' e hd (aS S.size hs) (fun k h=>(hk k (aO h S.size)).trans (S.block k h))) (o.wt s2) br bt dz.o aa (ee.o.lp.below S.drew)
   rw[<-cn.o] at cV;have dB:=(S.cell (p:=ao b 0) cN).trans dr;have dC:=(S.cell (p:=ao bs 0) cO).trans du;have dD:=(S.cell (p:=ao o.p 1) cP).trans dw;have dE:=(S.cell (p:=ao bl 2) m1).trans dt;go_wp2_with fail;have b0:=S.size
   go_region_held3 (fun w'=>w'.cell? (ao bs 0)=some (am o.p)/\w'.cell? (ao o.p 1)=some (.slice br (o.wt s2).length bt)/\w'.cell? (ao b 0)=some (.func (.func 146) #[] #[am bl])) (go_keep)
    (first|(go_at_call 150;refine cV.mono ?_;rintro e g ⟨ef,eg,e3,e4,rfl,dF,_,ai⟩;have eh:=(ai.cell (p:=ao b 0) (aO cN b0)).trans dB;have cW:=(ai.cell (p:=ao bs 0) (aO cO b0)).trans dC;have ei:=(ai.cell (p:=ao o.p 1) (aO cP b0)).trans dD;have cX:=(ai.cell (p:=ao bl 2) (aO m1 b0)).trans dE))
   have b3:Below wr.heap.size wr g:=S.drew.trans (ai.mono b0)
   have e5:w3.heap.size<=g.heap.size:=ai.size;have dG:=cy (w:=w3) cU (fun k e=>ai.block k (cg cU k e).2)
   have co:=o.below ed.o b3;have dH:=(b3.block o.p cP).trans ck;have cp:o.p≠bs:=fun e=>cM (by rw[<-e];exact bx)
   have cq:o.p≠bl:=fun e=>n1 (by rw[<-e];exact bx)
   have ej:o.p≠b:=fun e=>cL (by rw[<-e];exact bx)
   have dI:ay (∀k,aB k->F k\/w.heap.size<=k):=fun k h=>by
    rcases ci.o k ((dq k).2 (aL h)) with(c|c|c|c)|c
    ·exact aL c
    ·exact absurd (by rw[<-c];exact h) n1
    ·exact absurd (by rw[<-c];exact h) cL
    ·exact absurd (by rw[<-c];exact h) cM
    ·exact aK c
   have ek:ay (aB o.p):=bx;have dJ:o.p<g.heap.size:=lt_of_some dH;have dK:bs<g.heap.size:=aa;have dL:bl<g.heap.size:=aa;have el:t.length<=100000:=aa;have em:u.length<=100000:=aa;have dM:=gn dG;have dN:=gn dF;have cY:=o.below co (au g).drew;have dO:=dM.below (au g).drew;have dP:=dN.below (au g).drew;clear cU ai S dB dC dD dE ds dr du dw dt cV eh ei ck bx n1 cL cM dq;go_wp2_with fail
   go_region_held3 (fun w'=>w'.cell? (ao bs 0)=some (am o.p)/\w'.cell? (ao bl 2)=some (.func (.func d.f) d.b d.c)) (first|exact⟨cW,cX⟩|exact⟨cZ,c5⟩|exact⟨cr,cs⟩|exact⟨(nt cp.symm).trans cr,(nt cq.symm).trans cs⟩|exact⟨(nt cp.symm).trans ((nt cp.symm).trans cr),(nt cq.symm).trans ((nt cq.symm).trans cs)⟩)
    (first
      |(have e6:=ad;go_at_call 152;refine(wW o.todS D d.f d.b d.c nw v.o.en v.o.ht u ef eg aB s2 _ eb.o em (o.below cY ad) (dP.below ad)).mono ?_;rintro e q ⟨a0,a3,rfl,ag,aF⟩;have e7:=aF.size;have cr:=(aF.cell (p:=ao bs 0) (aO dK b4)).trans cZ;have cs:=(aF.cell (p:=ao bl 2) (aO dL b4)).trans c5;have b5:=(aF.block o.p (aO dJ b4)).trans ((ad.block o.p dJ).trans dH);have q0:q.cell? (ao o.p 0)=some o.vr:=aA b5;have q1:q.cell? (ao o.p 1)=some (.slice br (o.wt s2).length bt):=aA b5;have eo:q.frozen? (ao o.p 0)=false:=aC b5;have ep:q.frozen? (ao o.p 1)=false:=(by simp[World.frozen?,b5]))
      |(go_at_call 152;refine(wW o.todS D d.f d.b d.c nw v.o.en v.o.ht t b1 cS aB s2 _ d9.o el cY dO).mono ?_;rintro e ct ⟨bb,bd,rfl,al,ad⟩;have b4:=ad.size;have cZ:=(ad.cell (p:=ao bs 0) dK).trans cW;have c5:=(ad.cell (p:=ao bl 2) dL).trans cX))
   have eq:Below g.heap.size g ct:=(au g).drew.trans (ad.mono bY)
   have dQ:Below g.heap.size g q:=eq.trans (aF.mono b4)
   have cu:Below wr.heap.size wr q:=b3.trans (dQ.mono b3.size)
   have er:=o.below co dQ;have es:ay (ct.ownsRow g.heap.size 103 2 (.slice bb t.length bd) t.length (ev (t.map fun e=>(nw s2 e.1,nw s2 e.2)))):=al;have et:ay (q.ownsRow g.heap.size 103 2 (.slice a0 u.length a3) u.length (ev (u.map fun e=>(nw s2 e.1,nw s2 e.2)))):=ec ag (fun k e=>aS b4 (cg ag k e).1)
   have eu:ay (Below ct.heap.size ct q):=aF;have ew:ay (∀k,some k=(Value.slice bb t.length bd).ownBlock->some k≠(Value.slice a0 u.length a3).ownBlock):=fun k e ex=>by have cb:=(cg al k e).2;have ce:=(cg ag k ex).1;omega
   clear al ag ad aF dO dP cY dM dN dG dF cZ c5 cr cs cW cX q0 q1 eo ep;go_wp2_with fail;go_ret;have ey:eV o is kp nw s r=t.map fun e=>(nw s2 e.1,nw s2 e.2):=by unfold eV;rw[<-cj.o,<-ch.o,<-cl.o]
   have ez:eW o is kp nw s r=u.map fun e=>(nw s2 e.1,nw s2 e.2):=by unfold eW;rw[<-cj.o,<-cn.o]
   have b6:∀k,k≠o.p->((q.setCell ⟨o.p,0,none⟩ (.slice bb t.length bd)).setCell ⟨o.p,1,none⟩ (.slice a0 u.length a3)).heap[k]?=q.heap[k]?:=fun k hk=>(aP _ _ _ _ hk).trans (aP _ _ _ _ hk)
   have al:=es.o;have ag:=et.o;have dR:=dA.o.size;have dS:=b3.size;have eA:kV ((q.setCell ⟨o.p,0,none⟩ (.slice bb t.length bd)).setCell ⟨o.p,1,none⟩ (.slice a0 u.length a3)) o.p bl b bs l fk d:=
    ⟨(b6 bl cq.symm).trans ((cu.block bl m1).trans cR.o.l),(b6 b ej.symm).trans ((cu.block b cN).trans cR.o.g),(b6 bs cp.symm).trans ((cu.block bs cO).trans cR.o.s)⟩
   have dT:Fr (fun k=>k=o.p) q ((q.setCell ⟨o.p,0,none⟩ (.slice bb t.length bd)).setCell ⟨o.p,1,none⟩ (.slice a0 u.length a3)):=((Fr.refl (fun k=>k=o.p) q).set o.p 0 _ rfl).set o.p 1 _ rfl;rw[ey,ez,aU,aU,<-cj.o];refine⟨bb,bd,a0,a3,aB,q,rfl,er,dT,p9 b5,?_,?_,?_,dI.o,fun k e h=>?_,fun k e h=>?_,ew.o⟩
   ·refine ec (cy al (fun k e=>?_)) (fun k e=>aS (aS dR dS) (cg al k e).1)
    have:=cg al k e;exact(b6 k aa).trans (eu.o.block k this.2)
   ·refine ec (cy ag (fun k e=>?_)) (fun k e=>aS (aS dR dS) (cg ag k e).1)
    have:=cg ag k e;exact b6 k aa
   ·exact((dA.o.trans (Fr.of (X:=fun _=>False) cu) (fun _ c=>c.elim)).trans dT (fun i c=>by rw[c];exact(dI.o o.p ek.o).imp aL id)).unbox d1.o eA
   ·have:=o.lt co k h;have:=(cg al k e).1;omega
   ·have:=o.lt co k h;have:=(cg ag k e).1;omega
  ·have eB:wr.cell? (ao W 0)=some (mC b bl bs):=by
    have hk:=ax.block W d0 (by simp[dY,dZ])
    simp[World.cell?,hk,d3.o]
   have dU:∀j,j<f.length->∀x,(o.wt (kp (pts (cm o is kp) s2 (f.take j)).2.2 x).2).length<=90000:=fun j e8 x=>by
    have cb:=sr o is kp v.o.hl s2 (f.take j)
    have ce:=oj (cm o is kp) s2 (f.take j)
    rw[v.o.hl,cb];simp at ce;omega
   have cv:=vx (boxed o bl b bs l fk d) (fun e=>D e.1/\D e.2) (fun s=>∀x,(o.wt (kp s x).2).length<=90000) 147 #[] #[am b,am bl,am bs] (cm o is kp) Dg (Df o bl b bs D l fk d is kp v.o.ea v.o.fg v.o.ha v.o.hk) f bo cd aR s2 wr dp.o dU aa cJ ((gn hd).apart (fun _ z e=>cK.o z.block (by rw[e];rfl)))
   obtain⟨Y,N,be,b7⟩:∃Y N be,ay (pts (cm o is kp) s2 f=(Y,N,be)):=⟨_,_,_,rfl⟩
   have c6:=oj (cm o is kp) s2 f;have c7:=sr o is kp v.o.hl s2 f;have cw:=sq (cm o is kp) s2 f;rw[b7.o] at cv c6 cw c7;dsimp only at cv c6 cw c7;have eC:(o.wt be).length+N.length<=90000:=aa;clear c7 dU;obtain⟨n,rfl⟩:∃m,n=m+1:=⟨n-1,by have:=(aT.o aV).2;omega⟩
   have eD:ay (Y.length=0->be=fu o is kp s r):=fun h=>by
    have e:=lL (cm o is kp) n s2 f (by rw[b7.o];exact h)
    rw[<-(aT.o aV).1,e,b7.o]
   have eE:ay (¬Y.length=0->(eJ (cm o is kp) n be N).1=fu o is kp s r/\N.length<n):=fun h=>by
    have e:=lM (cm o is kp) n s2 f (by rw[b7.o];exact h)
    refine⟨?_,?_⟩
    ·rw[<-(aT.o aV).1,e,b7.o]
    ·have:=(aT.o aV).2;omega
   have eF:ay (∀e∈N,D e.1/\D e.2):=fun e he=>dp.o e (cw e (aK he))
   clear cw;go_wp2_with fail;refine cv.mono ?_;clear cv;rintro e e9 ⟨b1,cS,b2,cT,cx,rfl,eG,hN,eH,c9,da,eI,dV⟩
   have dx:=ax.size;have eK:ay (∀k,cx k->(F k\/k=bl\/k=b\/k=bs)\/w.heap.size<=k):=fun k h=>(da k h).elim (ci.o k) (fun h=>aK aa)
   have eL:ay (∀k,some k=(Value.slice a1 A.length bn).ownBlock->¬cx k):=fun k e h=>(da k h).elim (ar.o k e) (fun h=>by have:=(cg bp k e).2;omega)
   have eM:ay (∀k,some k=(Value.slice b2 N.length cT).ownBlock->¬cx k):=dV;have eN:=gN bp c9 ar.o;have eO:=ax.trans c9 ci.o;have eP:=ec hN (base':=w.heap.size) (fun k e=>aS dx (cg hN k e).1)
   clear da eI dV eG hN bp ax c9 cJ ci ar cK hd cI aT eB;go_wp2_with fail;go_roundw
   case rel=>exact⟨N,Y,b2,b1,cT,cS,n,cx,be,rfl,rfl,eD,eE,eF,aa,aa,eC,eP,eN,eH,eO,eK,eL,eM⟩
   case measure=>
    exact Di aV c6
theorem p_ (w:aw)(f:Option Addr)(c:Nat)(L:List Bool)(v:Int×Int)(h:km w f L)(g:v.1=3->0<=v.2/\v.2<L.length)(hm:L.length<=100000):
 Calls prog 118 #[.slice f L.length c,.agg #[ak v.1,ak v.2]] w fun e w'=>e=.returned (.bool (dy L v))/\Below w.heap.size w w':=by
 obtain⟨k,n⟩:=v;have d:=aq w (.cells #[.int .i64 k,.int .i64 n] 97)
 by_cases hk:k=3
 ·subst hk;obtain⟨n0,n1⟩:=g rfl;obtain⟨n,rfl⟩:=Int.eq_ofNat_of_zero_le n0;obtain⟨b,rfl,hb,hc⟩:=h aa;have e:dy L (3,(n:Int))=L.getD n false:=by unfold dy;simp
  rw[e];have i:=(d.cell (p:=ao b n) hb).trans (hc n aa)
  clear hc g e n0;generalize L.getD n false=r at*;go_enter func118,ntmps118;go_wp2;go_ret;exact⟨rfl,d⟩
 ·have e:dy L (k,n)=true:=by unfold dy;simp[hk]
  rw[e];go_enter func118,ntmps118;go_wp2;go_ret;exact⟨rfl,d⟩
theorem qa (w:aw)(f:Nat)(g:Option Addr)(c base:Nat)(L:List Bool)(v:Int×Int)(h:fW w f g c base L)(p:v.1=3->0<=v.2/\v.2<L.length)(hm:L.length<=100000):
 Calls prog 192 #[.agg #[ak v.1,ak v.2],am f] w fun e w'=>e=.returned (.bool (!dy L v))/\fW w' f g c base (ey L v)/\Fr (fun k=>some k=(Value.slice g L.length c).ownBlock) w w':=by
 have q:=aq w (.cells #[.int .i64 v.1,.int .i64 v.2] 97)
 have m:=h.below q;have j:=p_ (w.alloc (.cells #[.int .i64 v.1,.int .i64 v.2] 97)) g c L v (oG m.row) p hm;have c0:(w.alloc (.cells #[.int .i64 v.1,.int .i64 v.2] 97)).cell? (ao f 0)=some (.slice g L.length c):=aA m.blk
 have lo:=lt_of_some h.blk;have d:=gM q m (aN w (.cells #[.int .i64 v.1,.int .i64 v.2] 97))
 cases hs:dy L v
 ·obtain⟨s,g2⟩:=oE hs;obtain⟨n0,n1⟩:=p s;have o:ey L v=L.set v.2.toNat true:=by unfold ey;rw[aH (by rw[hs];simp)]
  rw[hs] at j;rw[o];obtain⟨k,n⟩:=v;subst s;obtain⟨n,rfl⟩:=Int.eq_ofNat_of_zero_le n0;rw[Int.toNat_natCast];obtain⟨b,B,u⟩:=d4 h.row aa;cases u;go_enter func192,ntmps192;go_wp2_with fail;generalize w.alloc (.cells #[.int .i64 3,.int .i64 (n:Int)] 97)=w0 at*;generalize x:w.heap.size=t at*;refine j.mono ?_;clear j;rintro e w1 ⟨rfl,i⟩
  have B1:=d.o.2.1.below i;have q1:w1.cell? (ao t 1)=some (ak (n:Int)):=by simp[World.cell?,((i.block t (lt_of_some d.o.2.2)).trans d.o.2.2)]
  have c1:w1.cell? (ao f 0)=some (.slice (an b) L.length c):=aA B1.blk
  have hg:(L.map Value.bool)[n]?=some (.bool (L.getD n false)):=by rw[bv,aI (by omega:n<L.length),aG,aI (by omega:n<L.length)];rfl
  obtain⟨y1,F⟩:=fe B1.row hg;have l:ay (fW (w1.setCell ⟨b,n,none⟩ (.bool true)) f (an b) c base (L.set n true)/\Fr (fun k=>some k=(Value.slice (an b) L.length c).ownBlock) w (w1.setCell ⟨b,n,none⟩ (.bool true))):=by
   refine⟨⟨?_,?_⟩,(Fr.of (by rw[x];exact d.o.1.trans (i.mono (by have:=lt_of_some d.o.2.2;omega)))).set b n _ rfl⟩
   ·rw[bf];exact(aP _ _ _ _ (fun e=>(B1.ne b rfl) (Eq.symm e))).trans B1.blk
   ·rw[bf,List.map_set];exact jp B1.row n (.bool true)
  clear i B1 hg;go_wp2;go_ret;exact⟨rfl,l.o.1,l.o.2⟩
 ·have o:ey L v=L:=by unfold ey;rw[aJ hs]
  rw[hs] at j;rw[o];obtain⟨k,n⟩:=v;go_enter func192,ntmps192;go_wp2_with fail;refine j.mono ?_;rintro e w1 ⟨rfl,i⟩
  have l:ay (fW w1 f g c base L/\Fr (fun k=>some k=(Value.slice g L.length c).ownBlock) w w1):=⟨d.o.2.1.below i,Fr.of (d.o.1.trans (i.mono d.o.1.size))⟩
  go_wp2;go_ret;exact⟨rfl,l.o.1,l.o.2⟩
end Go.Proofs.YtpkjkjhanlbcoaaGreat
