import Derived.Test.YtpkjkjhanlbcoaaGreatJ19
namespace Go.Proofs.YtpkjkjhanlbcoaaGreat
set_option maxRecDepth 100000
set_option maxHeartbeats 8000000
open Tryz
open Go.RowKit W Kp cf
theorem Av {P:Prop}(h:P:=by
 generalize (d_ s.T).1=yn at*;generalize (d_ s.T).2=od at*;go_enter func238,ntmps238;go_wp2_with fail;refine P.mono ?_;clear P;rintro e w1 ⟨rfl,hb⟩
 obtain⟨d0,d1⟩:=HC.o w1 hb;have P:=HP.o w1 hb;clear HC hb HP;go_wp2_with fail;refine P.mono ?_;rintro e w2 ⟨F',rfl,hj,ht⟩
 have HJ:=dq hj ht;go_wp2_with fail;go_ret;exact⟨F',rfl,HJ.o⟩):P:=h
theorem Aw {P:Prop}(h:P:=by
 rw[aE,aE,List.getElem?_append];by_cases h:i<T.length
 ·rw[aI h,aG V]
 ·rw[aG h];by_cases e:i=T.length
  ·subst e;simp
  ·rw[aG e,List.getElem?_eq_none (by simp;omega),List.getElem?_eq_none V]):P:=h
theorem Ax {P:Prop}(h:P:=by
 by_cases e:i=T.length
 ·rw[aI e];exact⟨fun _=>aJ e,fun _=>⟨V,rfl⟩⟩
 ·rw[aG e];exact⟨fun h=>aK ⟨V,h.2⟩,fun h=>h.elim (fun h=>⟨V,h.2⟩) (fun h=>absurd h e)⟩):P:=h
theorem uF {P:Prop}(h:P:=by rw[World.cell?_drew,a5 _ _ _ _ Z];exact h):P:=h
theorem uG {P:Prop}(h:P:=by
 rintro e w' ⟨F',rfl,hj,ht⟩
 exact⟨F',rfl,hj,(b8.of hb).trans ht⟩):P:=h
theorem Ay {P:Prop}(h:P:=by rw[World.cell?_setCell_far _ _ _ _ (fun e=>hn e.symm),World.cell?_setCell_far _ _ _ _ (fun e=>hn e.symm)];exact h):P:=h
section
variable {T:List cD}{A:List Bool}{fm:Fm}
theorem Az (i:Nat):(f6 A T T.length).getD i t0=if i<T.length then fz A i (T.getD i t0) else t0:=by
 by_cases hi:i<T.length
 ·rw[q7 A T T.length i bW hi,aI hi,aI hi]
 ·rw[aG hi,aE,List.getElem?_eq_none (by rw[jB];omega)];rfl
theorem pL (c:gD T A)(i:Nat):cv (f6 A T T.length) i↔ct A i:=by
 unfold cv;rw[jB,Az];constructor
 ·rintro⟨d,b⟩
  rw[aI d] at b;unfold fz at b;split at b
  ·assumption
  ·cases b
 ·intro h;have hi:=c.al i h;refine⟨hi.1,?_⟩
  rw[aI hi.1];unfold fz;rw[aI (show A.getD i false=true from h)];exact hi.2
theorem rC (b:gD T A){i:Nat}(h:ct A i):(f6 A T T.length).getD i t0=((T.getD i t0).1,iQ A (T.getD i t0),true,(T.getD i t0).2.2.2):=by rw[Az,aI (b.al i h).1];unfold fz;rw[aI (show A.getD i false=true from h)];rfl
theorem uH (hB:pJ T A){i:Nat}(h:ct A i):(iQ A (T.getD i t0)).length=(T.getD i t0).2.1.length:=by
 unfold iQ;split
 ·rename_i e;rw[hB.l2 i h (aJ e.1)];rfl
 ·split
  ·rename_i e;rw[hB.l2 i h (aK e.1)];rfl
  ·rfl
theorem IM (b:gD T A)(hB:pJ T A):hI (f6 A T T.length) fm=eS T fm A:=by
 funext x
 by_cases h:0<=x/\ct A x.toNat
 ·rw[i_ ⟨h.1,(pL b _).2 h.2⟩];unfold eS;rw[aI (show 0<=x/\A.getD x.toNat false=true from h)];dsimp only [fW,eD];rw[rC b h.2];rw[uH hB h.2]
 ·rw[lE (fun c=>h ⟨c.1,(pL b _).1 c.2⟩)];unfold eS;rw[aG (show¬(0<=x/\A.getD x.toNat false=true) from h)]
end
section
variable {bY:Nat}{b_ bZ:Int}{l:gF}{s:ck}{w w':ax}{A:List Bool}{ab p n1:Nat}{a1 a2:Option Addr}{k1 k2:Nat}{r q:List b7}
theorem dS.cut (h:dS bY b_ bZ l s w)(d:gD s.T A)(hB:pJ s.T A)(hz:w.heap.size<=w'.heap.size)(hk:∀b,l.own b=4->w'.heap[b]?=w.heap[b]?)
 (hb:w'.heap[bY]?=some (.cells #[ah b_,ah bZ,.map (some ab),ah s.T.length,ah s.T.length,aj p,.slice (ak l.rb) 12 12] 187 (0,0)))
 (hM:es w' ab n1 (eS s.T l.fm A))(hn:n1<=s.T.length)(hr:∀i,ct A i->w'.ownsRow 0 97 2 (eD s.T l.fm i) (s.T.getD i t0).2.1.length (ev (iQ A (s.T.getD i t0))))(f:fu w' p a1 k1 a2 k2 r q)
 (n0:w.heap.size<=ab/\w.heap.size<=p)(D:∀k,some k=(Value.slice a1 r.length k1).ownBlock->w.heap.size<=k)(nq:∀k,some k=(Value.slice a2 q.length k2).ownBlock->w.heap.size<=k)(E:∀k,some k=(Value.slice a1 r.length k1).ownBlock->some k≠(Value.slice a2 q.length k2).ownBlock):
 ∃t,dS bY b_ bZ t {T:=f6 A s.T s.T.length,rs:=s.rs,rg:=r,wt:=q} w'/\∀b,t.own b≠0->l.own b≠0\/w.heap.size<=b:=by
 have F:p≠ab:=fun e=>by obtain⟨G,k,hm⟩:=hM.blk;have g:=f.blk;rw[e,hm] at g;cases g
 have u:∀b n (v:Value)(x:List Value),w'.ownsRow b 103 2 v n x->∀k,some k=v.ownBlock->k≠ab/\k≠p:=fun b n v x B k e=>by
  obtain⟨H,hc⟩:=e5 B k e;refine⟨fun j=>?_,f.np B k e⟩
  obtain⟨G,I,hm⟩:=hM.blk;rw[j,hm] at hc;cases hc
 have he:∀b,l.own b≠0->(if w.heap.size<=b then(if b=ab then 2 else if b=p then 3 else if some b=(Value.slice a1 r.length k1).ownBlock then 5 else if some b=(Value.slice a2 q.length k2).ownBlock then 6 else 0) else l.own b)=l.own b:=fun b hb=>aG (by have:=h.lt b hb;omega)
 refine⟨{own:=fun b=>if w.heap.size<=b then(if b=ab then 2 else if b=p then 3 else if some b=(Value.slice a1 r.length k1).ownBlock then 5 else if some b=(Value.slice a2 q.length k2).ownBlock then 6 else 0) else l.own b,mb:=ab,bp:=p,rb:=l.rb,fm:=l.fm,fe:=s.T.length,n:=n1,a0:=a1,k0:=k1,a1:=a2,k1:=k2},?_,fun b c=>?_⟩
 ·refine {blk:=?_,bo:=(he bY (by rw[h.bo];decide)).trans h.bo,g2:=?_,g3:=?_,g4:=?_,lt:=fun b c=>?_}
  ·rw[hb,jB]
  ·refine {mp:=?_,mn:=by rw[jB];exact hn,dp:=?_,fl:=fun i hi=>?_,eR:=fun i hi k e=>?_,fe:=fun i hi=>?_,al:=by rw[jB];exact aD _}
   ·dsimp only;rw[IM d hB];exact hM
   ·show(if _ then _ else _)=_;rw[aI n0.1,aI rfl]
   ·have hi:=(pL d i).1 hi;have g:=hr i hi;dsimp only [eD] at g⊢;rw[rC d hi];dsimp only;rw[uH hB hi];exact g
   ·have hi:=(pL d i).1 hi;dsimp only [eD] at e;rw[rC d hi] at e;rw[uH hB hi] at e;have C:=h.g2.eR i (d.al i hi) k e;exact(he k (by rw[C];omega)).trans C
   ·have hi:=(pL d i).1 hi;rw[rC d hi];have:=(d.al i hi).1;simp[this]
  ·refine {sd:=f,so:=?_,ro:=fun k e=>?_,me:=fun k e=>?_}
   ·show(if _ then _ else _)=_;rw[aI n0.2,aG F,aI rfl]
   ·obtain⟨m,o⟩:=u _ _ _ _ f.r0 k e;show(if _ then _ else _)=_;rw[aI (D k e),aG m,aG o,aI e]
   ·obtain⟨m,o⟩:=u _ _ _ _ f.q0 k e;show(if _ then _ else _)=_;rw[aI (nq k e),aG m,aG o,aG (fun j=>E k j e),aI e]
  ·exact {rt:=(hk _ h.g4.ro).trans h.g4.rt,rl:=h.g4.rl,ro:=(he _ (by rw[h.g4.ro];decide)).trans h.g4.ro}
  ·dsimp only at c;split at c
   ·split at c
    ·rename_i e;rw[e];exact hM.lt
    ·split at c
     ·rename_i e;rw[e];exact lt_of_some f.blk
     ·split at c
      ·rename_i e;exact(cn f.r0 b e).2
      ·split at c
       ·rename_i e;exact(cn f.q0 b e).2
       ·exact absurd rfl c
   ·exact aM (h.lt b c) hz
 ·dsimp only at c;split at c
  ·exact aJ ‹_›
  ·exact aK c
end
section
variable {bY:Nat}{b_ bZ:Int}{l:gF}{F:Nat->Prop}{s:ck}{w:ax}{g:List Bool->List Bool}
abbrev lI (w:ax)(bY:Nat)(b_ bZ:Int)(l:gF)(s:ck):Cp:=⟨w,bY,b_,bZ,l,s,w.heap.size+1+1,w.heap.size,w.heap.size+1⟩
abbrev IN (s:ck):dw:=⟨List.replicate s.T.length false,[],fun _=>[],0⟩
def mz (w:ax)(b:Nat):Nat:=if b=w.heap.size then 2 else if b=w.heap.size+1 then 4 else if b=w.heap.size+1+1 then 1 else 0
theorem rD:∀n,cnt (List.replicate n false)=n
 |0=>rfl
 |n+1=>by
  have:=rD n;unfold cnt at this⊢
  rw[List.replicate_succ];simp at this⊢
theorem cU.start (w:ax)(bY:Nat)(b_ bZ:Int)(l:gF)(s:ck):
 cU (lI w bY b_ bZ l s) (mz w) (.slice none 0 0) 0 0 (fun _=>(none,0)) (IN s) (((w.alloc (.map #[] 0)).alloc (.map #[] 0)).alloc (.cells #[.pointer (some ⟨bY,0,none⟩),.map (some w.heap.size),.slice none 0 0,.map (some (w.heap.size+1))] 252)):=by
 have d:Below w.heap.size w (((w.alloc (.map #[] 0)).alloc (.map #[] 0)).alloc (.cells #[.pointer (some ⟨bY,0,none⟩),.map (some w.heap.size),.slice none 0 0,.map (some (w.heap.size+1))] 252)):=((bX.alloc bW _).alloc Z _).alloc (by simp;omega) _;have m1:=(es.made w)
 have f:=(es.made (w.alloc (.map #[] 0)))
 have hz:(w.alloc (.map #[] 0)).heap.size=w.heap.size+1:=Z;rw[hz] at f;have ea:(fun _=>none)=eS s.T l.fm (List.replicate s.T.length false):=by
  funext x
  unfold eS;rw[aG];rintro⟨_,h⟩
  rw[aE,List.getElem?_replicate] at h;split at h<;>cases h
 have g:(fun _=>none)=hdF (fun _=>[]) (fun _=>(none,0)):=rfl;refine {ol:=fun k hk=>d.block k hk,sz:=d.size,cb:=uj w _ _ _,co:=?_,am:=?_,ao:=?_,an:=?_,tr:=⟨rfl,aK ⟨rfl,rfl⟩⟩,tw:=fun k e=>(by cases e),tn:=?_,hq:=?_,ho:=?_,hn:=aD _,hr:=fun x c=>absurd rfl c,hro:=fun x c=>absurd rfl c,lt:=fun b hb=>?_}
 ·show mz w (w.heap.size+1+1)=1;unfold mz;rw[aG V,aG V,aI rfl]
 ·show es _ w.heap.size 0 (eS s.T l.fm (List.replicate s.T.length false))
  rw[<-ea];exact m1.same ((aS _ _ _ (by simp;omega)).trans (aS _ _ _ Z))
 ·show mz w w.heap.size=2;unfold mz;rw[aI rfl]
 ·show 0+cnt (List.replicate s.T.length false)<=s.T.length;rw[rD];omega
 ·show 0+cnt (List.replicate s.T.length false)<=s.T.length;rw[rD];omega
 ·show es _ (w.heap.size+1) 0 (hdF (fun _=>[]) (fun _=>(none,0)))
  rw[<-g];exact f.same (aS _ _ _ Z)
 ·show mz w (w.heap.size+1)=4;unfold mz;rw[aG V,aI rfl]
 ·unfold mz at hb;show w.heap.size<=b/\_;simp;split at hb
  ·omega
  ·split at hb
   ·omega
   ·split at hb
    ·omega
    ·exact absurd rfl hb
theorem IP (h:dS bY b_ bZ l s w)(hv:fH s):hJ (lI w bY b_ bZ l s):=⟨h,hv.tl,hv.iv,aT hv.wl aa⟩
theorem IQ (hv:fH s){A:List Bool}(d:gD s.T A):pJ s.T A:=⟨fun i hi hk=>hv.iv.fl i (d.al i hi) hk,fun i hi c=>by
 have hl:0<(s.T.getD i t0).2.1.length:=by
  cases hq:(s.T.getD i t0).2.1 with
  |nil=>rw[hq] at c;cases c
  |cons _ _=>simp
 obtain⟨a,b⟩:=hv.iv.fv i (d.al i hi) _ (getD_in hl) c;have:=b.1;have:=hv.tl;exact⟨a,V⟩⟩
def rE (s:ck)(mj:Bool)(b:Int->Bool):Prop:=∀i:Nat,cv s.T i->(b i=true↔(s.T.getD i t0).2.2.1=true/\mj=false)
theorem IR (hv:fH s){mj:Bool}{d:Int->Bool}(hs:rE s mj d):As (lI w bY b_ bZ l s) d (jW s.T s.rs mj) where
 st:=fun i hi h=>(kt _ _ _ _).2 ⟨hi.1,aK ⟨((hs i hi).1 h).1,hi.2,((hs i hi).1 h).2⟩⟩
 rt:=fun v e f=>(kt _ _ _ _).2 ⟨(hv.rv v e f).2.1,aJ ⟨v,e,f,rfl⟩⟩
 up:=fun i hi=>by
  obtain⟨g,j⟩:=(kt _ _ _ _).1 hi;rcases j with⟨a,b,c⟩|c
  ·exact aK ⟨⟨g,b⟩,(hs i ⟨g,b⟩).2 ⟨a,c⟩⟩
  ·exact aJ c
 rv:=hv.rv
def cnf (g:List Bool->List Bool)(s:ck)(bZ:Int)(mj:Bool):Bool:=decide (bZ<iD s.T (s.cR g mj).1 s.T.length)
def ck.iR (g:List Bool->List Bool)(s:ck)(mj:Bool):ck:=
 {T:=f6 (s.cR g mj).1 s.T s.T.length,rs:=s.rs,rg:=s.rg.filter (fun e=>cL (s.c0 g mj) e.2&&cL (s.cR g mj).1 e.1),wt:=(s.wt++(s.cR g mj).2.1).filter (fun e=>cL (s.cR g mj).1 e.1)}
theorem IS {w:ax}{bY ab p mk:Nat}{b_ bZ:Int}{m b r:Value}{n a:Nat}(h:w.heap[bY]?=some (.cells #[ah b_,ah bZ,m,ah n,ah a,b,r] 187 (0,0))):
 (((w.setCell ⟨bY,2,none⟩ (.map (some ab))).setCell ⟨bY,5,none⟩ (.pointer (some ⟨p,0,none⟩))).setCell ⟨bY,4,none⟩ (.int .i64 mk)).heap[bY]?=some (.cells #[ah b_,ah bZ,.map (some ab),ah n,ah mk,aj p,r] 187 (0,0)):=by
 simp only [World.setCell,Array.getElem?_modify,if_true,h,Option.map_some];rfl
theorem ox {w:ax}{bY b o c:Nat}{v x:Value}(hn:bY≠b)(h:w.cell? (aq b c)=some x):(w.setCell ⟨bY,o,none⟩ v).drew.cell? (aq b c)=some x:=by rw[World.cell?_drew,World.cell?_setCell_far _ _ _ _ hn];exact h
theorem uI {w:ax}{bY:Nat}{v x:Value}(h:w.cell? (aq bY 3)=some x):(w.setCell ⟨bY,2,none⟩ v).drew.cell? (aq bY 3)=some x:=by exact uF
theorem AA {w:ax}{bY:Nat}{v x:Value}(h:w.cell? (aq bY 3)=some x):(w.setCell ⟨bY,5,none⟩ v).drew.cell? (aq bY 3)=some x:=by exact uF
theorem IT {w:ax}{bY:Nat}{v x:Value}(h:w.cell? (aq bY 3)=some x):(w.setCell ⟨bY,4,none⟩ v).drew.cell? (aq bY 3)=some x:=by exact uF
theorem AB (h:dS bY b_ bZ l s w)(bp:∀b,F b↔l.own b≠0)(hv:fH s)(a0:dR s.T s.wt g)(mj:Bool){f:Nat}{b M:Array Value}{br:Int->Bool}(hs:rz (lI w bY b_ bZ l s) f b M br)(hy:rE s mj br):
 Calls prog 202 #[aj bY,.func (.func f) b M] w fun e w'=>∃B,e=.returned (ah (if cnf g s bZ mj=true then 3 else 0))/\(cx bY b_ bZ l.rb).J B (if cnf g s bZ mj=true then s else s.iR g mj) w'/\b8 F w B w':=by
 have cB:=@run_makeMap prog;have hg:=IP h hv;have bs:=cU.start w bY b_ bZ l s;have P:=Iz hg bs ⟨eQ.start s.T s.wt (jW s.T s.rs mj),fun _=>aD _,by show 0+(0+cnt (List.replicate s.T.length false))<=s.T.length;rw[rD];omega⟩ hs (IR hv hy)
 have ai:=hv.first mj;have bt:ay (∀al am an ao ap n (w1:ax),cU (lI w bY b_ bZ l s) al am an ao ap n w1->f7 s.T s.wt (jW s.T s.rs mj) n->n.td=[]->(∀k,ct (jW s.T s.rs mj) k->ct n.A k)->
  Calls prog 234 #[aj (w.heap.size+1+1)] w1 fun e w'=>∃I cM bb bd be N p a1 k1 a2 C,e=.returned (aj p)/\ay (cU (lI w bY b_ bZ l s) I cM bb bd be N w'/\N.A=(s.cR g mj).1/\gD s.T N.A/\fu w' p a1 k1 a2 C (s.iR g mj).rg (s.iR g mj).wt/\w.heap.size<=p/\I p=0/\
   (∀k,some k=(Value.slice a1 (s.iR g mj).rg.length k1).ownBlock->w.heap.size<=k/\I k=0/\some k≠(Value.slice a2 (s.iR g mj).wt.length C).ownBlock)/\(∀k,some k=(Value.slice a2 (s.iR g mj).wt.length C).ownBlock->w.heap.size<=k/\I k=0)/\(w'.os=w1.os/\w'.tape=w1.tape/\w'.output=w1.output))):=fun al am an ao ap n w1 c1 D O ar=>by
  have bx:n.A=s.c0 g mj:=(D.mi.done O ai.len ar).uniq (a0 _ ai.len ai.al)
  refine(IL hg a0 hv c1 ⟨D.mi.base (fun _ h=>h),D.hl,D.mm⟩ O).mono ?_;rintro e w' ⟨I,cM,bb,bd,be,N,p,a1,k1,a2,C,rfl,c2,Q,b0,b1,tk,J,⟨hp,b2⟩,hr,hq⟩
  have b0:fO g n.A s.rg=s.cR g mj:=by rw[bx];rfl
  have z:=c1.sz;dsimp only at z Q J hr hq;rw[b0] at Q J hr hq;rw[bx] at J hr;exact⟨I,cM,bb,bd,be,N,p,a1,k1,a2,C,rfl,c2,Q,⟨b1.mi.len,b1.mi.al⟩,J,V,b2,fun k e=>⟨by have:=(hr k e).1;omega,(hr k e).2⟩,fun k e=>⟨by have:=(hq k e).1;omega,(hq k e).2⟩,tk.fr.os,tk.fr.tape,tk.fr.output⟩
 have cC:=h.cells.2.2.2.2.2.2.2.2;have R:ay (∀b,F b↔l.own b≠0):=bp;have j:ay (dS bY b_ bZ l s w/\fH s/\hJ (lI w bY b_ bZ l s)):=⟨h,hv,hg⟩
 generalize b3:(if cnf g s bZ mj=true then(3:Int) else 0)=cd;generalize b4:(if cnf g s bZ mj=true then s else s.iR g mj)=sd;have q:ay ((if cnf g s bZ mj=true then(3:Int) else 0)=cd/\(if cnf g s bZ mj=true then s else s.iR g mj)=sd):=⟨b3,b4⟩
 clear h bp hv a0 hs hy hg bs ai b3 b4;go_enter func202,ntmps202;go_wp2_with fail;refine P.mono ?_;clear P;rintro e w1 ⟨al,am,an,ao,ap,n,rfl,c1,aB,D,O,ar⟩
 have P:=bt.o al am an ao ap n w1 c1 D O ar;have t:ay (w1.os=w.os/\w1.tape=w.tape/\w1.output=w.output):=⟨aB.fr.os,aB.fr.tape,aB.fr.output⟩
 clear c1 aB D O ar bt;go_wp2_with fail;refine P.mono ?_;clear P;rintro e E ⟨cD,cE,cl,cF,cG,b5,p,a1,k1,a2,C,rfl,m⟩
 have b6:iD s.T b5.A s.T.length=iD s.T (s.cR g mj).1 s.T.length:=by rw[m.o.2.1]
 have P:=Iw j.o.2.2 (m.o.1.below (aH _ E).drew) m.o.2.2.1.len;have b7:=m.o.1.gv j.o.2.2.g;obtain⟨_,S,_,_,_,_,_,_,bg⟩:=b7.cells;dsimp only at S P bg;rw[b6] at P;have cI:=z4 s.T (s.cR g mj).1 j.o.2.1.iv.tl s.T.length;have cJ:=j.o.2.1.tl;have aF:ay (cnf g s bZ mj=decide (bZ<iD s.T (s.cR g mj).1 s.T.length)):=rfl;generalize iD s.T (s.cR g mj).1 s.T.length=cm at*;clear b7 b6;by_cases b9:bZ<cm
 ·have U:cnf g s bZ mj=true:=by rw[aF.o,bh b9]
  have W:ay (cd=3/\sd=s):=by rw[U] at q;exact⟨q.o.1.symm,q.o.2.symm⟩
  have X:ay (∀c,Below E.heap.size E c->(cx bY b_ bZ l.rb).J F s c/\b8 F w F c):=fun c hb=>by have c3:=m.o.1.below hb;have o:=m.o.2.2.2.2.2.2.2.2;refine⟨⟨l,c3.gv j.o.2.2.g,rfl,R.o⟩,⟨⟨hb.os.trans (o.1.trans t.o.1),hb.tape.trans (o.2.1.trans t.o.2.1),hb.output.trans (o.2.2.trans t.o.2.2),c3.sz,fun k hk _=>c3.ol k hk⟩,fun _ h=>aK h⟩⟩
  clear aF U m t j R q;go_wp2_with fail
  go_region_held3 (fun w'=>w'.cell? (aq bY 1)=some (ah bZ)) (go_keep)
   (first|(go_at_call 235;refine P.mono ?_;clear P;rintro e c ⟨rfl,G⟩;have bi:=(G.cell (p:=aq bY 1) bg).trans S;have ca:ay (_):=X.o c (((aH _ E).drew).trans (G.mono bW));clear G X))
  all_goals
   clear S bi;go_wp2_with fail;go_ret;exact⟨F,by rw[W.o.1];rfl,by rw[W.o.2];exact ca.o.1,ca.o.2⟩
 ·have U:cnf g s bZ mj=false:=by rw[aF.o,bq b9]
  have W:ay (cd=0/\sd=s.iR g mj):=by rw[U] at q;exact⟨q.o.1.symm,q.o.2.symm⟩
  have X:ay (∀c,Below E.heap.size E c->Calls prog 236 #[aj (w.heap.size+1+1)] c fun e d=>e=.returned (.tuple #[])/\d.cell? (aq (w.heap.size+1+1) 1)=some (.map (some w.heap.size))/\
   d.heap[bY]?=some (.cells #[ah b_,ah bZ,.map (some l.mb),ah s.T.length,ah l.fe,aj l.bp,.slice (ak l.rb) 12 12] 187 (0,0))/\
   ay (∀u,Fr (fun k=>k=bY) d u->u.heap[bY]?=some (.cells #[ah b_,ah bZ,.map (some w.heap.size),ah s.T.length,ah s.T.length,aj p,.slice (ak l.rb) 12 12] 187 (0,0))->∃B,(cx bY b_ bZ l.rb).J B (s.iR g mj) u/\b8 F w B u)):=fun c hb=>by
   have c3:=m.o.1.below hb;obtain⟨cK,Q,Y,J,hp,b2,hr,hq,o⟩:=m.o;have hv:=j.o.2.1;have h:=j.o.1;have bl:=c3.gv j.o.2.2.g;have lw:∀b,l.own b≠0->b<w.heap.size:=h.lt;have z0:∀b,w.heap.size<=b->l.own b=0:=fun b v=>by
    cases e:l.own b
    ·rfl
    ·exact absurd (lw b (by rw[e];omega)) V
   have hB:=IQ hv Y;refine(H6 (fm:=l.fm) (lab:=l.own) (cp:=w.heap.size+1+1) (ab:=w.heap.size) (n1:=cl) ⟨c3.cells.2.1,c3.am,fun i hi=>bl.g2.fl i (Y.al i hi),fun i hi k e=>h.g2.eR i (Y.al i hi) k e,z0 _ V,z0 _ bW⟩ hB (fun b v=>aM (lw b v) c3.sz) (fun i hi=>by have:=(Y.al i hi).1;omega)).mono ?_;rintro e d ⟨rfl,K,x⟩
   have co:d.heap[bY]?=c.heap[bY]?:=x.block bY (lt_of_some bl.blk) (fun M=>by have:=h.bo;omega)
   refine⟨rfl,K.c1,co.trans bl.blk,fun u A cb=>?_⟩
   have cc:∀b,w.heap.size<=b->b≠bY:=fun b v e=>by omega
   have k5:∀b,b<c.heap.size->b≠bY->¬10<=l.own b->u.heap[b]?=c.heap[b]?:=fun b v hn cq=>(A.block b (aM v x.size) hn).trans (x.block b v cq)
   have bn:∀b,w.heap.size<=b->b<c.heap.size->u.heap[b]?=c.heap[b]?:=fun b aR bo=>k5 b bo (cc b aR) (by rw[z0 b aR];omega)
   have aV:=J.below hb;have cr:fu u p a1 k1 a2 C (s.iR g mj).rg (s.iR g mj).wt:=aV.keep (bn p hp (lt_of_some aV.blk)) (fun k e=>bn k (hr k e).1 (cn aV.r0 k e).2) (fun k e=>bn k (hq k e).1 (cn aV.q0 k e).2)
   obtain⟨ce,g1,g2⟩:=h.cut Y hB (aT c3.sz (aT x.size A.size)) (fun b cs=>(k5 b (aM (lw b V) c3.sz) (fun e=>by have:=h.bo;rw[e] at cs;omega) V).trans (c3.ol b (lw b V))) cb
    (K.hM.same (A.block _ K.hM.lt (cc _ bW))) (by have:=c3.an;dsimp only at this;omega) (fun i hi=>cH (K.row i hi) (fun k e=>A.block k (cn (K.row i hi) k e).2 (fun M=>by have aR:=K.lb i hi k e;have bo:=h.bo;rw[M,bo] at aR;omega))) cr ⟨aD _,hp⟩ (fun k e=>(hr k e).1) (fun k e=>(hq k e).1) (fun k e=>(hr k e).2.2)
   have cu:({T:=f6 b5.A s.T s.T.length,rs:=s.rs,rg:=(s.iR g mj).rg,wt:=(s.iR g mj).wt}:ck)=s.iR g mj:=by rw[Q];rfl
   rw[cu] at g1;refine⟨fun b=>ce.own b≠0,⟨ce,g1,g1.HS (by simp[World.cell?,cb]),fun _=>Iff.rfl⟩,⟨⟨A.os.trans (x.os.trans (hb.os.trans (o.1.trans t.o.1))),A.tape.trans (x.tape.trans (hb.tape.trans (o.2.1.trans t.o.2.1))),A.output.trans (x.output.trans (hb.output.trans (o.2.2.trans t.o.2.2))),aT c3.sz (aT x.size A.size),fun k hk hn=>?_⟩,fun b v=>(g2 b v).imp (R.o b).2 id⟩⟩
   have cv:l.own k=0:=by
    cases e:l.own k
    ·rfl
    ·exact absurd ((R.o k).2 (by rw[e];omega)) hn
   exact(k5 k (aM hk c3.sz) (fun e=>by have:=h.bo;rw[e] at cv;omega) V).trans (c3.ol k hk)
  clear aF U m t j R q;go_wp2_with fail
  go_region_held3 (fun w'=>w'.cell? (aq bY 1)=some (ah bZ)) (go_keep)
   (first|(go_at_call 235;refine P.mono ?_;clear P;rintro e c ⟨rfl,G⟩;have bi:=(G.cell (p:=aq bY 1) bg).trans S;have cf:=X.o c (((aH _ E).drew).trans (G.mono bW));clear G X))
  all_goals
   clear S bi;go_wp2_with fail;refine cf.mono ?_;clear cf;rintro e d ⟨rfl,ad,H,cg⟩
   have ch:ay (_=_):=H;have cw:d.cell? (aq bY 2)=some (.map (some l.mb)):=aA H
   have ag:d.cell? (aq bY 3)=some (ah s.T.length):=aA H
   have cy:d.cell? (aq bY 4)=some (ah l.fe):=aA H
   have cz:d.cell? (aq bY 5)=some (aj l.bp):=aA H
   have cA:∀o,d.frozen? (aq bY o)=false:=fun o=>by simp[World.frozen?,H]
   have L:bY≠w.heap.size+1+1:=V;clear H;go_wp2_with fail
   go_region_held3 (fun w'=>w'.cell? (aq (w.heap.size+1+1) 1)=some (.map (some w.heap.size))/\w'.cell? (aq bY 3)=some (ah s.T.length)) (first|exact⟨ad,ag⟩|exact⟨ox L ad,uI ag⟩|exact⟨ox L (ox L ad),AA (uI ag)⟩|exact⟨ox L (ox L (ox L ad)),IT (AA (uI ag))⟩|(go_keep;done)) (fail)
   all_goals
    clear ‹_/\_›;obtain⟨B,dC,ci⟩:=cg.o _ (((((Fr.refl (fun k=>k=bY) d).set bY 2 _ rfl).set bY 5 _ rfl).set bY 4 _ rfl).drew) (IS ch.o)
    have cj:ay (_):=And.intro dC ci;clear dC ci cg ch ad cw ag cy cz cA;go_wp2_with fail;go_ret;exact⟨B,by rw[W.o.1];rfl,by rw[W.o.2];exact cj.o.1,cj.o.2⟩
end
theorem IU (x:Int)(w:ax):Calls prog 204 #[ah x] w fun e w'=>e=.returned (.bool false)/\Below w.heap.size w w':=by go_wp2;go_ret;exact⟨rfl,aH _ _⟩
section
variable {bY rb:Nat}{b_ bZ:Int}{l:gF}{F:Nat->Prop}{s:ck}{w:ax}{g:List Bool->List Bool}
theorem IV:rz (lI w bY b_ bZ l s) 204 #[] #[] (fun _=>false):=
 ⟨f_ func204 ae rfl,fun x w' _=>IU x w'⟩
theorem IW (h:dS bY b_ bZ l s w):rz (lI w bY b_ bZ l s) 203 #[aj bY] #[] (fun x=>decide (x<l.fe)):=
 ⟨f_ func203 ae rfl,fun x w' hk=>by
  have c:=h.cells;have e:=hk bY c.2.2.2.2.2.2.2.2;refine(Ar (fe:=l.fe) ?_ x).mono ?_
  ·have:=c.2.2.2.2.1;simp only [World.cell?] at this⊢
   rw[e];exact this
  ·rintro e b ⟨rfl,rfl⟩
   exact⟨rfl,aH _ _⟩⟩
theorem IX:rE s true (fun _=>false):=fun _ _=>⟨fun h=>(by cases h),fun h=>(by cases h.2)⟩
theorem IY (h:dS bY b_ bZ l s w):rE s false (fun x=>decide (x<l.fe)):=fun i hi=>by rw[h.g2.fe i hi];simp
theorem IZ {mj:Bool}(h:s.cF g bZ mj=true):s.gN g bZ mj=3/\s.cut g bZ mj=s:=by unfold ck.gN ck.cut;rw[aI h,aI h];exact⟨rfl,rfl⟩
theorem AC {mj:Bool}(h:mj=true\/¬(bZ-(d_ s.T).2<(d_ s.T).1)):s.gN g bZ mj=(if cnf g s bZ mj=true then 3 else 0)/\s.cut g bZ mj=(if cnf g s bZ mj=true then s else s.iR g mj):=by
 have e:s.cF g bZ mj=cnf g s bZ mj:=by
  unfold ck.cF cnf;rcases h with h|h
  ·rw[h];simp
  ·rw[bq h];simp
 unfold ck.gN ck.cut ck.iR;rw[e];exact⟨rfl,rfl⟩
theorem AD (h:(cx bY b_ bZ rb).J F s w)(hv:fH s)(c:dR s.T s.wt g):
 Calls prog 135 #[aj bY] w fun e w'=>∃b,e=.returned (ah (s.gN g bZ true))/\(cx bY b_ bZ rb).J b (s.cut g bZ true) w'/\b8 F w b w':=by
 obtain⟨l,hg,d,f⟩:=h;have P:=AB hg f hv c true IV IX;rw[d] at P;obtain⟨i,j⟩:=AC (aK rfl)
 rw[<-i,<-j] at P;clear hg d f hv c i j;go_enter func135,ntmps135;go_wp2_with fail;refine P.mono ?_;rintro e w1 ⟨b,rfl,k,ht⟩
 go_wp2;go_ret;exact⟨b,rfl,(dq k ht).o⟩
theorem AE (h:(cx bY b_ bZ rb).J F s w)(hv:fH s)(j:dR s.T s.wt g)(g0:-1000000<=bZ)(g1:bZ<=1000000):
 Calls prog 134 #[aj bY] w fun e w'=>∃F',e=.returned (ah (s.gN g bZ false))/\(cx bY b_ bZ rb).J F' (s.cut g bZ false) w'/\b8 F w F' w':=by
 obtain⟨l,hg,b,c⟩:=h;have P:=uC hg hv.iv.tl hv.tl;have bd:=xY s.T hv.t12;have A:=hv.tl;obtain⟨_,_,_,_,_,_,_,_,B⟩:=hg.cells;have d:ay (∀w1,Below w.heap.size w w1->_=_):=fun w1 hb=>(hg.below hb).cells.2.1;have p:ay (¬(bZ-(d_ s.T).2<(d_ s.T).1)->∀w1,Below w.heap.size w w1->Calls prog 202 #[aj bY,.func (.func 203) #[aj bY] #[]] w1 fun e w'=>∃F',e=.returned (ah (s.gN g bZ false))/\(cx bY b_ bZ rb).J F' (s.cut g bZ false) w'/\b8 F w F' w'):=fun hn w1 hb=>by
  have f:=hg.below hb;have k:=AB f c hv j false (IW f) (IY f)
  rw[b] at k;refine k.mono ?_;obtain⟨q,t⟩:=AC (s:=s) (bZ:=bZ) (g:=g) (mj:=false) (aJ hn)
  rw[<-q,<-t];exact uG
 have u:ay (bZ-(d_ s.T).2<(d_ s.T).1->s.gN g bZ false=3/\s.cut g bZ false=s):=fun hn=>IZ (by unfold ck.cF;rw[bh hn];rfl)
 have i:ay (∀w1,Below w.heap.size w w1->(cx bY b_ bZ rb).J F s w1):=fun w1 hb=>⟨l,hg.below hb,b,c⟩
 generalize s.gN g bZ false=cd at*;generalize s.cut g bZ false=sd at*;generalize (d_ s.T).1=v at*;generalize (d_ s.T).2=x at*;clear hg b c hv j;by_cases hn:bZ-x<v
 ·have m:ay (cd=3/\sd=s):=u.o hn;go_enter func134,ntmps134;go_wp2_with fail;refine P.mono ?_;rintro e w1 ⟨rfl,hb⟩
  have c1:=d.o w1 hb;have n:ay ((cx bY b_ bZ rb).J F s w1/\b8 F w F w1):=⟨i.o w1 hb,b8.of hb⟩
  go_wp2_with fail;go_ret;exact⟨F,by rw[m.o.1];rfl,by rw[m.o.2];exact n.o.1,n.o.2⟩
 ·have o:=hide (p.o hn)
  go_enter func134,ntmps134;go_wp2_with fail;refine P.mono ?_;rintro e w1 ⟨rfl,hb⟩
  have c1:=d.o w1 hb;have P:=o.o w1 hb;clear d hb o;go_wp2_with fail;refine P.mono ?_;rintro e C ⟨F',rfl,hj,ht⟩
  have i:=dq hj ht;go_wp2_with fail;go_ret;exact⟨F',rfl,i.o⟩
theorem I0 {g:gO}{m:Int}(h:(cx bY b_ bZ rb).J F s w)(hv:fH s)(b:dR s.T s.wt (g s.T s.wt))(g0:-1000000<=bZ)(g1:bZ<=1000000)(i:-1000000<=b_)(m1:b_<=1000000):
 Calls prog 238 #[aj bY,ah m] w fun e w'=>∃F',e=.returned (ah (s.room g b_ bZ m).1)/\(cx bY b_ bZ rb).J F' (s.room g b_ bZ m).2 w'/\b8 F w F' w':=by
 obtain⟨l,hg,c,d⟩:=h;have P:=uC hg hv.iv.tl hv.tl;have bd:=xY s.T hv.t12;have j:=hv.tl;obtain⟨_,_,_,_,_,_,_,_,k⟩:=hg.cells;have HC:ay (∀w1,Below w.heap.size w w1->w1.cell? (aq bY 0)=some (ah b_)/\w1.cell? (aq bY 1)=some (ah bZ)):=fun w1 hb=>⟨(hg.below hb).cells.1,(hg.below hb).cells.2.1⟩
 have HJ:ay (∀w1,Below w.heap.size w w1->(cx bY b_ bZ rb).J F s w1):=fun w1 hb=>⟨l,hg.below hb,c,d⟩
 by_cases c1:m<=b_-(d_ s.T).1
 ·have e:s.room g b_ bZ m=(0,s):=aI c1;rw[e];generalize (d_ s.T).1=yn at*;generalize (d_ s.T).2=od at*;go_enter func238,ntmps238;go_wp2_with fail;refine P.mono ?_;rintro e w1 ⟨rfl,hb⟩
  obtain⟨d0,d1⟩:=HC.o w1 hb;have f:ay ((cx bY b_ bZ rb).J F s w1/\b8 F w F w1):=⟨HJ.o w1 hb,b8.of hb⟩
  go_wp2_with fail;go_ret;exact⟨F,rfl,f.o⟩
 ·by_cases c2:bZ-(d_ s.T).2<(d_ s.T).1
  ·have e:s.room g b_ bZ m=(s.gN (g s.T s.wt) bZ true,s.cut (g s.T s.wt) bZ true):=by unfold ck.room;rw[aG c1,bh c2]
   rw[e];have HP:ay (∀w1,Below w.heap.size w w1->Calls prog 135 #[aj bY] w1 fun e w'=>∃F',e=.returned (ah (s.gN (g s.T s.wt) bZ true))/\(cx bY b_ bZ rb).J F' (s.cut (g s.T s.wt) bZ true) w'/\b8 F w F' w'):=fun w1 hb=>by refine(AD (HJ.o w1 hb) hv b).mono ?_;exact uG
   generalize s.gN (g s.T s.wt) bZ true=cd at*;generalize s.cut (g s.T s.wt) bZ true=sd at*;exact Av
  ·have e:s.room g b_ bZ m=(s.gN (g s.T s.wt) bZ false,s.cut (g s.T s.wt) bZ false):=by unfold ck.room;rw[aG c1,bq c2]
   rw[e];have HP:ay (∀w1,Below w.heap.size w w1->Calls prog 134 #[aj bY] w1 fun e w'=>∃F',e=.returned (ah (s.gN (g s.T s.wt) bZ false))/\(cx bY b_ bZ rb).J F' (s.cut (g s.T s.wt) bZ false) w'/\b8 F w F' w'):=fun w1 hb=>by refine(AE (HJ.o w1 hb) hv b g0 g1).mono ?_;exact uG
   generalize s.gN (g s.T s.wt) bZ false=cd at*;generalize s.cut (g s.T s.wt) bZ false=sd at*;exact Av
end
theorem I1 (w:ax):(w.alloc (.cells #[] 97)).ownsRow w.heap.size 97 2 (.slice (ak w.heap.size) 0 0) 0 []:=
 ⟨rfl,aJ ⟨w.heap.size,0,#[],rfl,aD _,aN _ _,aD _,aY _,rfl,rfl⟩⟩
theorem rF:(prog.info? 97).map (fun i=>(i.zero,i.size,i.bytes))=some (some (.agg #[ah 0,ah 0]),2,16):=ae
theorem I2 (w:ax)(ad:Option Addr)(l:List (Int×Int))(cap:Nat)(h:iq w ad l cap)(hm:l.length<=100000):
 Calls prog 237 #[.slice ad l.length cap] w fun e w'=>∃a1 c1,e=.returned (.slice a1 l.length c1)/\w'.ownsRow w.heap.size 97 2 (.slice a1 l.length c1) l.length (ev l)/\Below w.heap.size w w':=by
 obtain⟨d,hi,f,g,i⟩:=info_parts rF;have o:∀(w:ax)(a:Option Addr)(n c:Nat),_=_:=fun w a n c=>Lib.run_eql_slice_nil w _ _ a n c 0 0 underlying57;have j:=hide h.lp;cases ad with
 |none=>
  have hl:=List.eq_nil_of_length_eq_zero (h.nil rfl).1;subst hl;go_enter func237,ntmps237;go_wp2;go_ret;exact⟨none,0,rfl,bc _ _ _ _,aH _ _⟩
 |some a=>
  clear h;go_enter func237,ntmps237;go_wp2_with (at_builtin;refine wpList_append_own _ rfl _ _ 57 rfl w.heap.size 97 d _ 2 16 underlying57 hi f g i rfl aa _ 0 [] rfl (I1 w) a l.length cap (ev l) rfl (kA l) ((j.o.below (bX.alloc bW _)).cells a rfl) (nO l) ?_ ?_ ?_ ?_;(unfold maxLen;omega);omega;(simp);intro v w1 b m _)
  rw[List.nil_append,Nat.zero_add] at b;obtain⟨a1,c1,rfl⟩:=eE b;go_wp2;go_ret;exact⟨a1,c1,rfl,b,(bX.alloc bW _).grown m Z (fun k e=>by cases e;exact aD _)⟩
section
variable {bY:Nat}{b_ bZ:Int}{l:gF}{F:Nat->Prop}{s:ck}{w w':ax}
theorem uJ (T:List cD)(t:cD)(i:Nat):(T++[t]).getD i t0=if i=T.length then t else T.getD i t0:=by exact Aw
theorem oy (T:List cD)(k:Int)(fl:List _)(i:Nat):cv (T++[(k,fl,false,false)]) i↔cv T i\/i=T.length:=by unfold cv;rw[uJ,aZ,List.length_singleton];exact Ax
theorem dS.new (h:dS bY b_ bZ l s w){kd:Int}{fl:List _}{a:Option Addr}{cp:Nat}(hs:w.heap.size<=w'.heap.size)(hk:∀b,l.own b≠0->l.own b≠1->l.own b≠2->w'.heap[b]?=w.heap[b]?)
 (hb:w'.heap[bY]?=some (.cells #[ah b_,ah bZ,.map (some l.mb),ah (s.T.length+1:Nat),ah l.fe,aj l.bp,.slice (ak l.rb) 12 12] 187 (0,0)))
 (hM:es w' l.mb (l.n+1) (jE (hI s.T l.fm) s.T.length (.agg #[ah kd,.slice a fl.length cp])))(q:w'.ownsRow 0 97 2 (.slice a fl.length cp) fl.length (ev fl))
 (hn:∀k,some k=(Value.slice a fl.length cp).ownBlock->l.own k=0):
 ∃o,dS bY b_ bZ o (s.put kd fl) w'/\(∀b,o.own b≠0->l.own b≠0\/some b=(Value.slice a fl.length cp).ownBlock)/\o.rb=l.rb:=by
 have ho:∀b,l.own b≠0->(if some b=(Value.slice a fl.length cp).ownBlock then 10+s.T.length else l.own b)=l.own b:=fun b hb=>aG (fun e=>hb (hn b e))
 have ne:∀i,cv s.T i->i≠s.T.length:=fun i hi e=>by have:=hi.1;omega
 have g:∀i,i≠s.T.length->(s.T++[(kd,fl,false,false)]).getD i t0=s.T.getD i t0:=fun i e=>by rw[uJ,aG e]
 have j:(s.T++[(kd,fl,false,false)]).getD s.T.length t0=(kd,fl,false,false):=by rw[uJ,aI rfl]
 have t:jE (hI s.T l.fm) s.T.length (.agg #[ah kd,.slice a fl.length cp])=hI (s.T++[(kd,fl,false,false)]) (fun i=>if i=s.T.length then(a,cp) else l.fm i):=by
  funext x
  unfold jE;by_cases e:x=s.T.length
  ·rw[aI e,i_ ⟨V,(oy _ _ _ _).2 (aJ V)⟩];have m:x.toNat=s.T.length:=V;dsimp only [fW,eD];rw[m,j,aI rfl]
  ·rw[aG e];by_cases f:0<=x/\cv s.T x.toNat
   ·have m:=ne _ f.2;rw[i_ f,i_ ⟨f.1,(oy _ _ _ _).2 (aK f.2)⟩];dsimp only [fW,eD];rw[g _ m,aG m]
   ·rw[lE f,lE (fun c=>by
     rcases(oy _ _ _ _).1 c.2 with d|d
     ·exact f ⟨c.1,d⟩
     ·exact e V)]
 refine⟨{l with own:=fun b=>if some b=(Value.slice a fl.length cp).ownBlock then 10+s.T.length else l.own b,fm:=fun i=>if i=s.T.length then(a,cp) else l.fm i,n:=l.n+1},?_,fun b hb=>?_,rfl⟩
 ·refine {blk:=?_,bo:=(ho _ (by rw[h.bo];decide)).trans h.bo,g2:=?_,g3:=?_,g4:=?_,lt:=fun b p=>?_}
  ·show _=some (Obj.cells #[_,_,_,ah ((s.T++[(kd,fl,false,false)]).length:Nat),_,_,_] _ _)
   rw[aZ,List.length_singleton];exact hb
  ·refine {mp:=?_,mn:=?_,dp:=(ho _ (by rw[h.g2.dp];decide)).trans h.g2.dp,fl:=fun i hi=>?_,eR:=fun i hi k e=>?_,fe:=fun i hi=>?_,al:=?_}
   ·show es w' l.mb (l.n+1) (hI (s.T++[(kd,fl,false,false)]) _)
    rw[<-t];exact hM
   ·have:=h.g2.mn;show l.n+1<=(s.T++[(kd,fl,false,false)]).length;exact qY
   ·rcases(oy _ _ _ _).1 hi with d|d
    ·dsimp only [eD,ck.put];rw[g i (ne i d),aG (ne i d)];exact cH (h.g2.fl i d) (fun k e=>hk k (by rw[h.g2.eR i d k e];omega) (by rw[h.g2.eR i d k e];omega) (by rw[h.g2.eR i d k e];omega))
    ·dsimp only [eD,ck.put];rw[d,j,aI rfl];exact q
   ·rcases(oy _ _ _ _).1 hi with d|d
    ·dsimp only [eD,ck.put] at e;rw[g i (ne i d),aG (ne i d)] at e;have:=h.g2.eR i d k e;exact(ho k (by rw[this];omega)).trans this
    ·dsimp only [eD,ck.put] at e;rw[d,j,aI rfl] at e;show(if _ then _ else _)=_;rw[aI e,d]
   ·rcases(oy _ _ _ _).1 hi with d|d
    ·dsimp only [ck.put];rw[g i (ne i d)];exact h.g2.fe i d
    ·have:=h.g2.al;dsimp only [ck.put];rw[d,j];simp;exact this
   ·have:=h.g2.al;show l.fe<=(s.T++[(kd,fl,false,false)]).length;exact qY
  ·have z:=h.g3.keep (fun b hb=>hk b V V V)
   exact {sd:=z.sd,so:=(ho _ (by rw[z.so];decide)).trans z.so,ro:=fun k e=>(ho k (by rw[z.ro k e];decide)).trans (z.ro k e),me:=fun k e=>(ho k (by rw[z.me k e];decide)).trans (z.me k e)}
  ·have z:=h.g4.keep (fun b hb=>hk b V V V)
   exact {rt:=z.rt,rl:=z.rl,ro:=(ho _ (by rw[z.ro];decide)).trans z.ro}
  ·dsimp only at p;split at p
   ·rename_i e;exact(cn q b e).2
   ·exact aM (h.lt b p) hs
 ·dsimp only at hb;split at hb
  ·exact aJ (by assumption)
  ·exact aK hb
end
section
variable {bY rb:Nat}{b_ bZ:Int}{F:Nat->Prop}{s:ck}{w:ax}{g:gO}
theorem I3 (g:gO)(b_ bZ:Int)(s:ck)(m:Int):(s.room g b_ bZ m).2.T.length=s.T.length:=by
 unfold ck.room;split
 ·rfl
 ·unfold ck.cut;split
  ·rfl
  ·exact jB _ _ _
theorem uK {kd:Int}{fl:List (Int×Int)}{ad:Option Addr}{cap:Nat}(h:(cx bY b_ bZ rb).J F s w)(hv:fH s)(aB:dR s.T s.wt (g s.T s.wt))(g0:-1000000<=bZ)(g1:bZ<=1000000)(bp:-1000000<=b_)(m1:b_<=1000000)(hl:fl.length<=12)(O:iq w ad fl cap):
 Calls prog 206 #[aj bY,ah kd,.slice ad fl.length cap] w fun e w'=>∃d,e=.returned (.tuple #[.agg #[ah (s.bZ g b_ bZ kd fl).1.1,ah (s.bZ g b_ bZ kd fl).1.2],ah (s.bZ g b_ bZ kd fl).2.1])/\(cx bY b_ bZ rb).J d (s.bZ g b_ bZ kd fl).2.2 w'/\b8 F w d w':=by
 have br:ay (∀b,F b->_):=fun b hb=>(cx bY b_ bZ rb).lt h b hb;have fS:=br.o;have bs:=I3 g b_ bZ s (1+(fl.length:Int))
 have bt:=hv.tl;have bx:ay (∀j:ax,Below w.heap.size w j->∀tb a1 c1,j.heap[w.heap.size]?=some (.cells #[ah 0,ah 0] 97 (0,0))->j.heap[tb]?=some (.cells #[ah kd,.slice a1 fl.length c1] 220 (0,0))->w.heap.size<=tb->j.ownsRow (w.heap.size+1) 97 2 (.slice a1 fl.length c1) fl.length (ev fl)->
  Calls prog 238 #[aj bY,ah (1+(fl.length:Int))] j fun e f=>e=.returned (ah (s.room g b_ bZ (1+(fl.length:Int))).1)/\f.heap[w.heap.size]?=some (.cells #[ah 0,ah 0] 97 (0,0))/\f.heap[tb]?=some (.cells #[ah kd,.slice a1 fl.length c1] 220 (0,0))/\f.ownsRow (w.heap.size+1) 97 2 (.slice a1 fl.length c1) fl.length (ev fl)/\
   ay (∃d,(cx bY b_ bZ rb).J d (s.room g b_ bZ (1+(fl.length:Int))).2 f/\b8 F w d f/\¬d w.heap.size/\¬d tb/\∀k,some k=(Value.slice a1 fl.length c1).ownBlock->¬d k)):=fun j hb tb a1 c1 H ag ht hr=>by
  refine(I0 ((cx bY b_ bZ rb).below h hb) hv aB g0 g1 bp m1).mono ?_;rintro e f ⟨d,rfl,I,tn⟩
  have ai:∀b,w.heap.size<=b->b<j.heap.size->¬d b:=fun b p C c=>by
   rcases tn.sub b c with q|q
   ·have:=fS b q;omega
   ·omega
  have kp:∀b,w.heap.size<=b->b<j.heap.size->_=_:=fun b p C=>tn.fr.block b C (fun q=>by have:=fS b q;omega)
  exact⟨rfl,(kp _ bW (lt_of_some H)).trans H,(kp _ ht (lt_of_some ag)).trans ag,cH hr (fun k e=>kp k (by have:=(cn hr k e).1;omega) (cn hr k e).2),d,I,(b8.of hb).trans tn,ai _ bW (lt_of_some H),ai _ ht (lt_of_some ag),fun k e=>ai k (by have:=(cn hr k e).1;omega) (cn hr k e).2⟩
 have Q:ay (∀(w1:ax)(a1:Option Addr)(c1:Nat),w1.ownsRow (w.alloc (.cells #[.int .i64 0,.int .i64 0] 97)).heap.size 97 2 (.slice a1 fl.length c1) fl.length (ev fl)->Below (w.alloc (.cells #[.int .i64 0,.int .i64 0] 97)).heap.size (w.alloc (.cells #[.int .i64 0,.int .i64 0] 97)) w1->
  ∀j,Below (w1.alloc (.cells #[.int .i64 kd,.slice a1 fl.length c1] 220)).heap.size (w1.alloc (.cells #[.int .i64 kd,.slice a1 fl.length c1] 220)) j->Calls prog 238 #[aj bY,ah (1+(fl.length:Int))] j fun e f=>e=.returned (ah (s.room g b_ bZ (1+(fl.length:Int))).1)/\f.heap[w.heap.size]?=some (.cells #[ah 0,ah 0] 97 (0,0))/\f.heap[w1.heap.size]?=some (.cells #[ah kd,.slice a1 fl.length c1] 220 (0,0))/\w.heap.size<w1.heap.size/\ay (f.ownsRow (w.heap.size+1) 97 2 (.slice a1 fl.length c1) fl.length (ev fl))/\
   ay (∃d,(cx bY b_ bZ rb).J d (s.room g b_ bZ (1+(fl.length:Int))).2 f/\b8 F w d f/\¬d w.heap.size/\¬d w1.heap.size/\∀k,some k=(Value.slice a1 fl.length c1).ownBlock->¬d k)):=fun w1 a1 c1 hr hb j u=>by
  have b0:=hb.size;have b1:=u.size;simp at b0 b1 hr;refine(bx.o j (((((aH _ w).alloc bW _).trans (hb.mono Z)).alloc V _).trans (u.mono (by simp;omega))) w1.heap.size a1 c1 ((u.block _ (by simp;omega)).trans ((aS _ _ _ V).trans ((hb.block _ Z).trans (aN w _)))) ((u.block _ Z).trans (aN w1 _)) V (cH hr (fun k e=>(u.block k (by have:=(cn hr k e).2;simp;omega)).trans (aS _ _ _ (cn hr k e).2)))).mono ?_;rintro e f ⟨rfl,A,B,b2,b3⟩
  exact⟨rfl,A,B,V,b2,b3⟩
 have P:=I2 (w.alloc (.cells #[.int .i64 0,.int .i64 0] 97)) ad fl cap ⟨O.lp.below (bX.alloc bW _),O.le,O.nil⟩ V;have aF:∀(k:Int)(a:Option Addr)(n c:Nat),n<=12->∀w:ax,_:=fun k a n c hn w=>uB k a n c V w;have aR:=hide aF;have al:ay (s.bZ g b_ bZ kd fl=if(s.room g b_ bZ (1+(fl.length:Int))).1=0 then((3,((s.room g b_ bZ (1+(fl.length:Int))).2.T.length:Int)),0,(s.room g b_ bZ (1+(fl.length:Int))).2.put kd fl) else((0,0),(s.room g b_ bZ (1+(fl.length:Int))).1,(s.room g b_ bZ (1+(fl.length:Int))).2)):=rfl;generalize s.bZ g b_ bZ kd fl=R at*;generalize (s.room g b_ bZ (1+(fl.length:Int))).1=rc at*;generalize (s.room g b_ bZ (1+(fl.length:Int))).2=s2 at*;have cv:(1+(fl.length:Int))<=13:=V;have cw:s2.T.length<=10000:=V;clear aF h hv aB O fS bs bt;by_cases aV:rc=0
 ·subst aV;have J:ay (R=((3,(s2.T.length:Int)),0,s2.put kd fl)):=al.o.trans (aI rfl)
  clear al;go_enter func206,ntmps206;go_wp2_with fail;refine P.mono ?_;clear P;rintro e w1 ⟨a1,c1,rfl,K,L⟩
  have M:ay (_):=Q.o w1 a1 c1 K L;clear K L Q;have P:=aR.o kd a1 fl.length c1 hl (w1.alloc (.cells #[.int .i64 kd,.slice a1 fl.length c1] 220))
  go_wp2_with fail;refine P.mono ?_;clear P;rintro e j ⟨rfl,u⟩
  have P:=M.o j u;clear M u;go_wp2_with fail;refine P.mono ?_;clear P;rintro e f ⟨rfl,A,B,b4,E,S⟩
  have a0:ay (f.cell? (aq bY 3)=some (ah s2.T.length)/\∀m,Below f.heap.size f m->∃mb i,((m.alloc (.cells #[.int .i64 3,.int .i64 s2.T.length] 97)).cell? (aq bY 2)=some (.map (some mb))/\(m.alloc (.cells #[.int .i64 3,.int .i64 s2.T.length] 97)).cell? (aq bY 3)=some (ah s2.T.length)/\(m.alloc (.cells #[.int .i64 3,.int .i64 s2.T.length] 97)).cell? (aq w1.heap.size 0)=some (ah kd)/\(m.alloc (.cells #[.int .i64 3,.int .i64 s2.T.length] 97)).cell? (aq w1.heap.size 1)=some (.slice a1 fl.length c1))/\
   (Instr.mapUpdate 184 (.map (some mb)) (ah s2.T.length) (.agg #[ah kd,.slice a1 fl.length c1])).run prog (m.alloc (.cells #[.int .i64 3,.int .i64 s2.T.length] 97)).drew=.ok () i/\
   (i.cell? (aq bY 2)=some (.map (some mb))/\i.cell? (aq bY 3)=some (ah s2.T.length)/\i.cell? (aq w1.heap.size 0)=some (ah kd)/\i.cell? (aq w1.heap.size 1)=some (.slice a1 fl.length c1)/\(∀o,i.frozen? (aq bY o)=false))/\
   (i.cell? (aq m.heap.size 0)=some (ah 3)/\i.cell? (aq m.heap.size 1)=some (ah s2.T.length))/\i.heap[w.heap.size]?=some (.cells #[ah 0,ah 0] 97 (0,0))/\(bY≠w.heap.size/\bY≠m.heap.size/\m.heap.size≠w.heap.size)/\
   ay (∃d,(cx bY b_ bZ rb).J d (s2.put kd fl) (((i.setCell ⟨bY,3,none⟩ (.int .i64 (s2.T.length+1))).setCell ⟨w.heap.size,0,none⟩ (.int .i64 3)).setCell ⟨w.heap.size,1,none⟩ (.int .i64 s2.T.length))/\b8 F w d (((i.setCell ⟨bY,3,none⟩ (.int .i64 (s2.T.length+1))).setCell ⟨w.heap.size,0,none⟩ (.int .i64 3)).setCell ⟨w.heap.size,1,none⟩ (.int .i64 s2.T.length)))):=by
   obtain⟨d,⟨l,gv,b5,U⟩,tn,n1,b6,a2⟩:=S.o;have c:=gv.cells;refine⟨c.2.2.2.1,fun m N=>?_⟩
   have b7:=c.2.2.2.2.2.2.2.2;have cy:=tn.fr.size;have bb:=N.size;have D:Below f.heap.size f (m.alloc (.cells #[.int .i64 3,.int .i64 s2.T.length] 97)):=N.alloc bb _;have b9:=gv.below D;have ca:=b9.cells;have cb:=(D.block w1.heap.size (lt_of_some B)).trans B;obtain⟨cc,cd,_,_⟩:=di cb;obtain⟨i,am,hM,gr⟩:=(gv.below D.drew).g2.mp.put (t:=184) (e:=220) underlying184 (by have:=gv.g2.mn;omega) (x:=s2.T.length) V V (.agg #[ah kd,.slice a1 fl.length c1])
   have W:∀b,¬d b->l.own b=0:=fun b hb=>by
    cases e:l.own b
    ·rfl
    ·exact absurd ((U b).2 (by rw[e];omega)) hb
   have an:=W _ n1;have o1:=W _ b6;have bd:bY≠l.mb:=fun e=>by have p:=gv.bo;rw[e,gv.g2.dp] at p;omega
   have be:w.heap.size≠l.mb:=fun e=>by rw[e,gv.g2.dp] at an;omega
   have ce:w1.heap.size≠l.mb:=fun e=>by rw[e,gv.g2.dp] at o1;omega
   have ao:bY≠w.heap.size:=fun e=>by have p:=gv.bo;rw[e,an] at p;omega
   have lm:_:=gv.lt _ (by rw[gv.g2.dp];decide)
   have l0:=lt_of_some A;have l1:=lt_of_some B;have k5:∀b,b<m.heap.size+1->b≠l.mb->_=_:=fun b hb hn=>gr.block b (by simp;omega) (fun e=>hn (Option.some.inj e))
   have G:∀b,b<f.heap.size->b≠l.mb->_=_:=fun b hb hn=>(k5 b V hn).trans (D.block b hb)
   have X:=(G bY b7 bd).trans gv.blk;have cf:=(k5 m.heap.size V V).trans (aN m _)
   obtain⟨bg,y1,_,_⟩:=di cf;obtain⟨cg,t3,_,_⟩:=di ((G _ l1 ce).trans B)
   have bi:i.heap.size=(((i.setCell ⟨bY,3,none⟩ (.int .i64 (s2.T.length+1))).setCell ⟨w.heap.size,0,none⟩ (.int .i64 3)).setCell ⟨w.heap.size,1,none⟩ (.int .i64 s2.T.length)).heap.size:=Z;have ch:_:=aT (aT bb Z) gr.size;have Y:∀b,b≠bY->b≠w.heap.size->(((i.setCell ⟨bY,3,none⟩ (.int .i64 (s2.T.length+1))).setCell ⟨w.heap.size,0,none⟩ (.int .i64 3)).setCell ⟨w.heap.size,1,none⟩ (.int .i64 s2.T.length)).heap[b]?=i.heap[b]?:=fun b p C=>(aU _ _ _ _ C).trans ((aU _ _ _ _ C).trans (aU _ _ _ _ p))
   refine⟨l.mb,i,⟨ca.2.2.1,ca.2.2.2.1,cc,cd⟩,am,⟨by simp[World.cell?,X],by simp[World.cell?,X],cg,t3,fun o=>by simp[World.frozen?,X]⟩,⟨bg,y1⟩,(G _ l0 be).trans A,⟨ao,V,V⟩,?_⟩
   obtain⟨bl,ci,cj,ck⟩:=gv.new (kd:=kd) (fl:=fl) (a:=a1) (cp:=c1) (aT ch (Nat.le_of_eq bi)) (fun b h0 p C=>(Y b (fun e=>p (by rw[e];exact gv.bo)) (fun e=>h0 (by rw[e];exact an))).trans (G b (gv.lt b h0) (fun e=>C (by rw[e];exact gv.g2.dp)))) (by
    rw[aU _ _ _ _ ao,aU _ _ _ _ ao];simp only [World.setCell,Array.getElem?_modify,if_true,X,Option.map_some];rfl) (hM.same (Y _ bd.symm be.symm)) (cH (eU E.o (fun k e=>aY _)) (fun k e=>by
     have ok:=W k (a2 k e)
     have hk:=cn E.o k e;exact(Y k (fun q=>by have p:=gv.bo;rw[<-q,ok] at p;omega) V).trans (G k hk.2 (fun q=>by have p:=gv.g2.dp;rw[<-q,ok] at p;omega)))) (fun k e=>W k (a2 k e))
   refine⟨fun b=>bl.own b≠0,⟨bl,ci,ck.trans b5,fun _=>Iff.rfl⟩,⟨⟨?_,?_,?_,by rw[<-bi];omega,fun k hk hn=>?_⟩,fun b hb=>?_⟩⟩
   ·exact(show _=i.os from rfl).trans (gr.os.trans (D.os.trans tn.fr.os))
   ·exact(show _=i.tape from rfl).trans (gr.tape.trans (D.tape.trans tn.fr.tape))
   ·exact(show _=i.output from rfl).trans (gr.output.trans (D.output.trans tn.fr.output))
   ·have bn:∀b,d b->b<w.heap.size->F b:=fun b p C=>(tn.sub b p).resolve_right V;exact(Y k (fun e=>hn (bn k ((U k).2 (by rw[e,gv.bo];decide)) hk)) V).trans ((G k V (fun e=>hn (bn k ((U k).2 (by rw[e,gv.g2.dp];decide)) hk))).trans (tn.fr.block k hk hn))
   ·rcases cj b hb with q|q
    ·exact tn.sub b ((U b).2 q)
    ·exact aJ (by have:=(cn E.o b q).1;omega)
  clear E S A B;obtain⟨cl,ab⟩:=a0.o;have ab:ay (_):=ab;clear a0;have P:=ow s2.T.length f;go_wp2_with fail;refine P.mono ?_;clear P;rintro e m ⟨rfl,N⟩
  obtain⟨mb,i,⟨cm,co,q0,q1⟩,am,⟨cq,cz,v0,v1,bo⟩,⟨bg,y1⟩,ap,⟨cr,cA,cB⟩,cs⟩:=ab.o m N;have cC:=bo 3;obtain⟨ct,H,cu,lw⟩:=di ap;have ar:ay (_=_):=ap;clear N ab ap cl bo;go_wp2_with fail
  go_region_held3 (fun w'=>w'.cell? (aq bY 2)=some (.map (some mb))/\w'.cell? (aq bY 3)=some (ah s2.T.length)/\w'.cell? (aq w1.heap.size 0)=some (ah kd)/\w'.cell? (aq w1.heap.size 1)=some (.slice a1 fl.length c1)) (go_keep) (fail)
  all_goals
   clear cm co q0 q1 am cq v0 v1;go_wp2_with fail;obtain⟨r0,r1,_,_⟩:=di (gy (v1:=ah 3) (v2:=ah s2.T.length) ((aU i ⟨bY,3,none⟩ (ah (s2.T.length+1)) w.heap.size cr.symm).trans ar.o))
   obtain⟨d,I,tn⟩:=cs.o;exact a3 (v:=.tuple #[.agg #[ah 3,ah s2.T.length],ah 0]) (by simp[results,results206,go_sem,r0,r1]) rfl ⟨d,by rw[J.o],by rw[J.o];exact I,tn⟩
 ·have J:=hide (al.o.trans (aG aV))
  go_enter func206,ntmps206;go_wp2_with fail;refine P.mono ?_;clear P;rintro e w1 ⟨a1,c1,rfl,K,L⟩
  have M:ay (_):=Q.o w1 a1 c1 K L;clear K L Q;have P:=aR.o kd a1 fl.length c1 hl (w1.alloc (.cells #[.int .i64 kd,.slice a1 fl.length c1] 220))
  go_wp2_with fail;refine P.mono ?_;clear P;rintro e j ⟨rfl,u⟩
  have P:=M.o j u;clear M u;go_wp2_with fail;refine P.mono ?_;clear P;rintro e f ⟨rfl,A,B,b4,E,S⟩
  obtain⟨ct,H,cu,lw⟩:=di A;have ar:ay (_=_):=A;clear A B E;go_wp2_with fail;obtain⟨r0,r1,_,_⟩:=di (gy (v1:=ah 0) (v2:=ah 0) ar.o)
  obtain⟨d,I,tn,n1,_⟩:=S.o;exact a3 (v:=.tuple #[.agg #[ah 0,ah 0],ah rc]) (by simp[results,results206,go_sem,r0,r1]) rfl ⟨d,by rw[J.o],by rw[J.o];exact(cx bY b_ bZ rb).set2 I n1 _ _,tn.set2 bW _ _⟩
end
theorem I4 {P:Program}(w:ax)(c g ty b:TypeId)(d a:Option Addr)(e j f k:Nat)(l:P.underlying c=some (.slice b))(hs:(P.info? b).map (·.size)=some 2)(hn:Nat.min f e=0):
 (Builtin.copy_ #[c,g] ty #[.slice d e j,.slice a f k]).run P w=.ok (goInt 0) w:=by
 cases hq:P.info? b with
 |none=>simp[hq] at hs
 |some i=>
  have hl:∀(x:Addr),(loadCells x 0).run P w=.ok #[] w:=fun x=>by simpa using run_loadCells_list (P:=P) w x [] Z
  cases d<;>cases a<;>simp[Builtin.copy_,run_underlying l,Builtin.lenOf,Builtin.firstCells,sizeOf,typeInfo,hq,hn,storeCells,hl]
theorem I5 {P:Program}(w:ax)(e l ty d:TypeId)(g o f m:Nat)(a:Addr)(k p:Nat)(c:Array Value)(t:TypeId)(b:List Value)(n:Nat)
 (q:P.underlying e=some (.slice d))(hs:(P.info? d).map (·.size)=some 2)
 (hg:w.heap[g]?=some (.cells c t (0,0)))(hm:n=Nat.min k f)(hn:b.length=n*2)
 (s:∀j v,b[j]?=some v->w.cell? (a.add j)=some v)(u:o+b.length<=c.size)(x:∀v∈b,v.oneCell'=true):
 (Builtin.copy_ #[e,l] ty #[.slice (some ⟨g,o,none⟩) f m,.slice (some a) k p]).run P w=
   .ok (goInt n) (w.setRow g (c.toList.take o++b++c.toList.drop (o+b.length)).toArray):=by
 have hl:=run_loadCells_list (P:=P) w a b s;have A:=run_storeCells_at P g o t b 0 c w hg (by simpa using u) x;rw[hn] at hl;cases hq:P.info? d with
 |none=>simp[hq] at hs
 |some i=>
  have hi:i.size=2:=by simpa[hq] using hs
  simp[Builtin.copy_,run_underlying q,Builtin.lenOf,Builtin.firstCells,sizeOf,typeInfo,hq,hi,<-hm,hl,A]
theorem AF {P:Program}{ops:Array Oper}{o:Oper}{a:Act}{w:ax}{K:Act->ax->Prop}{Q:Exit->Act->ax->Prop}{E:Prop}(C:o.guard=none)(x s:Operand)(c l d:TypeId)
 (ho:o.op=.call {callee:=.builtin .copy,args:=#[x,s],argTypes:=#[c,l]})(A:P.underlying c=some (.slice d))(B:(P.info? d).map (·.size)=some 2)
 (m sp:Option Addr)(e p f q:Nat)(hd:a.eval x=.slice m e p)(hs:a.eval s=.slice sp f q)
 (g i:Nat)(k:List Value)(t:TypeId)(hg:w.heap[g]?=some (.cells k.toArray t (0,0)))(b:List Value)(n:Nat)(hm:n=Nat.min f e)(hn:b.length=n*2)
 (D:0<n->m=some ⟨g,i,none⟩/\∃ad,sp=some ad/\∀j v,b[j]?=some v->w.cell? (ad.add j)=some v)
 (F:i+b.length<=k.length)(G:∀v∈b,v.oneCell'=true)
 (h:∀w',k3 w w' g k i b->K (a.put o.dst (goInt n)) w'):
 if Region.wanted o (yielded ops a.tmps)=true then Oper.wp P o a w K Q else E:=by
 rw[aI (show Region.wanted o (yielded ops a.tmps)=true by simp[Region.wanted,C])];rcases Nat.eq_zero_or_pos n with h0|h0
 ·subst h0;have H:b=[]:=List.eq_nil_of_length_eq_zero V;subst H;have u:=I4 (P:=P) w c l o.type d m sp e p f q A B hm.symm;unfold Oper.wp;simp[execOp,ho,resolve,invoke,builtin,hd,hs,u,Result.andThen];exact h w (aK ⟨rfl,rfl⟩)
 ·obtain⟨I,ad,J,L⟩:=D h0;subst I J;have u:=I5 (P:=P) w c l o.type d g i e p ad f q k.toArray t b n A B hg hm hn L (by simpa using F) G;unfold Oper.wp;simp[execOp,ho,resolve,invoke,builtin,hd,hs,u,Result.andThen];exact h _ (aJ (by simp[splice]))
theorem I6 {P:Program}{ops:Array Oper}{q:List Oper}{o:Oper}{a:Act}{w:ax}{Q:Exit->Act->ax->Prop}(e:o.guard=none)(f s:Operand)(i u k:TypeId)
 (ho:o.op=.call {callee:=.builtin .copy,args:=#[f,s],argTypes:=#[i,u]})(B:P.underlying i=some (.slice k))(C:(P.info? k).map (·.size)=some 2)
 (l sp:Option Addr)(m x p A:Nat)(hd:a.eval f=.slice l m x)(hs:a.eval s=.slice sp p A)
 (g c:Nat)(d:List Value)(t:TypeId)(hg:w.heap[g]?=some (.cells d.toArray t (0,0)))(b:List Value)(n:Nat)(hm:n=Nat.min p m)(hn:b.length=n*2)
 (D:0<n->l=some ⟨g,c,none⟩/\∃ad,sp=some ad/\∀j v,b[j]?=some v->w.cell? (ad.add j)=some v)
 (F:c+b.length<=d.length)(G:∀v∈b,v.oneCell'=true)
 (h:∀w',k3 w w' g d c b->wpList P ops Q q (a.put o.dst (goInt n)) w'):wpList P ops Q (o::q) a w:=
 wpList_plain e fun K H=>by
  have:=AF (P:=P) (ops:=#[]) (o:=o) (a:=a) (w:=w) (K:=K) (Q:=Q) (E:=False) e f s i u k ho B C l sp m x p A hd hs g c d t hg b n hm hn D F G (fun w' hw=>H _ _ (h w' hw))
  rwa [aI (show Region.wanted o (yielded #[] a.tmps)=true by simp[Region.wanted,e])] at this
theorem I7 (c:Nat)(hc:c<=12)(w:ax):Calls prog 223 #[.int .u64 1,.int .u64 c] w fun e w'=>e=.returned (.tuple #[.int .u64 0,.int .u64 c])/\w'=w:=by exact zw
theorem I8 (c:Nat)(hc:c<=12)(w:ax):Calls prog 167 #[.int .u64 1,.int .u64 c] w fun e w'=>e=.returned (.tuple #[.int .u64 0,.int .u64 c])/\w'=w:=by have P:=I7 c hc w;exact zx
def gw (c:Nat)(v:Int×Int)(n:Nat):List (Int×Int):=List.replicate n v++List.replicate (c-n) (0,0)
theorem AG (c:Nat)(v:Int×Int)(n:Nat)(h:n<=c):(gw c v n).length=c:=by simp[gw];omega
theorem kR (n:Nat)(v:Int×Int):(ev (List.replicate n v)).length=n*2:=by rw[kA,List.length_replicate]
theorem I9 (c:Nat)(v:Int×Int)(n m:Nat)(h:n+m<=c):splice (ev (gw c v n)) (n*2) (ev (List.replicate m v))=ev (gw c v (n+m)):=by
 unfold splice gw;have b:(List.replicate (c-n) ((0:Int),(0:Int)))=List.replicate m (0,0)++List.replicate (c-(n+m)) (0,0):=by
  rw[List.replicate_append_replicate]
  congr 1
  omega
 have d:List.drop (n*2+m*2) (ev (List.replicate n v)++(ev (List.replicate m ((0:Int),(0:Int)))++ev (List.replicate (c-(n+m)) (0,0))))=ev (List.replicate (c-(n+m)) (0,0)):=by rw[<-ba];exact List.drop_left' (by rw[aZ,kR,kR])
 rw[iT,List.take_left' (kR n v),kR,b,iT,d,<-List.replicate_append_replicate,iT,iT,ba]
theorem I_ (c:Nat)(v:Int×Int)(n m:Nat)(hm:m<=n):∃r,ev (gw c v n)=ev (List.replicate m v)++r:=by
 refine⟨ev (List.replicate (n-m) v)++ev (List.replicate (c-n) (0,0)),?_⟩
 unfold gw;rw[<-ba,<-iT,List.replicate_append_replicate,<-iT]
 congr 3
 omega
theorem Ja {c:Nat}{w:ax}{nb n:Nat}{v:Int×Int}(hr:w.heap[nb]?=some (.cells (ev (gw c v n)).toArray 97 (0,0)))(m:Nat)(hm:m<=n):∀j b,(ev (List.replicate m v))[j]?=some b->w.cell? ((⟨nb,0,none⟩:Addr).add j)=some b:=by
 intro j b d;obtain⟨r,e⟩:=I_ c v n m hm;have f:=(List.getElem?_eq_some_iff.1 d).1;rw[Addr.add_lit];have:(ev (gw c v n))[j]?=some b:=by rw[e,List.getElem?_append_left f];exact d
 rw[Nat.zero_add];simp[World.cell?,hr,this]
theorem AH {c:Nat}{w w':ax}{nb n m B:Nat}{v:Int×Int}(b:k3 w w' nb (ev (gw c v n)) (n*2) (ev (List.replicate m v)))(hr:w.heap[nb]?=some (.cells (ev (gw c v n)).toArray 97 (0,0)))(h:n+m<=c)(hB:B<=nb):w'.heap[nb]?=some (.cells (ev (gw c v (n+m))).toArray 97 (0,0))/\Below B w w':=by
 rcases b with⟨h0,rfl⟩|rfl
 ·have:=congrArg List.length h0;rw[kR] at this
  simp only [List.length_nil] at this
  obtain rfl:m=0:=V;exact⟨hr,aH _ _⟩
 ·rw[I9 c v n m h];exact⟨setRow_heap w nb _ _ _ _ hr,⟨rfl,rfl,rfl,by simp[World.setRow],fun k hk=>setRow_other w nb k _ V⟩⟩
theorem AI:(prog.info? 97).map (·.size)=some 2:=ae
theorem Jb {w:ax}{b k n:Nat}(hn:n<=12)(h:w.ownsRow b 97 2 (.slice (ak k) n n) n (madeCells (Value.agg #[ah 0,ah 0]).cells (n*2)).toList):
 w.heap[k]?=some (.cells (ev (List.replicate n (0,0))).toArray 97 (0,0)):=by
 obtain⟨j,d⟩:=h;rcases d with⟨e,_⟩|⟨m,cap,c,hv,hb,f,o,p,q,g⟩
 ·cases e
 ·cases hv;rw[f];have:c.toList=ev (List.replicate n (0,0)):=by rw[<-List.take_of_length_le (l:=c.toList) (i:=n*2) (by simp;omega),g];rcases(show n=0\/n=1\/n=2\/n=3\/n=4\/n=5\/n=6\/n=7\/n=8\/n=9\/n=10\/n=11\/n=12 by omega) with rfl|rfl|rfl|rfl|rfl|rfl|rfl|rfl|rfl|rfl|rfl|rfl|rfl<;>kernel_rfl
  rw[<-this]
theorem Jd {w:ax}{b:Nat}{v:Int×Int}{m:Nat}(hm:m<=1)(h0:w.cell? (aq b 0)=some (ah v.1))(e:w.cell? (aq b 1)=some (ah v.2)):∀j d,(ev (List.replicate m v))[j]?=some d->w.cell? ((⟨b,0,none⟩:Addr).add j)=some d:=by
 intro j d c;have f:=(List.getElem?_eq_some_iff.1 c).1;rw[kR] at f;obtain rfl:m=1:=V
 match j,c with
 |0,c=>simp[ev] at c;rw[<-c];simpa[Addr.add] using h0
 |1,c=>simp[ev] at c;rw[<-c];simpa[Addr.add] using e
 |j+2,_=>omega
theorem AJ (w:ax)(b c:Nat)(v:Int×Int)(A:c<=12)(C:w.cell? (aq b 0)=some (ah v.1))(Q:w.cell? (aq b 1)=some (ah v.2)):
 Calls prog 131 #[.slice (ak b) 1 1,ah c] w fun e w'=>∃nb,e=.returned (.slice (ak nb) c c)/\w.heap.size<=nb/\w'.heap[nb]?=some (.cells (ev (List.replicate c v)).toArray 97 (0,0))/\Below w.heap.size w w':=by
 obtain⟨D,hi,R,S,U⟩:=info_parts rF;have lb:=aQ w _ C;dsimp only at lb;have E:=I8 c A w;have W:ay (gw c v c=List.replicate c v):=by show _=_;simp[gw]
 have c1:(c:Int)<=12:=V;go_enter func131,ntmps131;go_wp2_with fail;refine E.mono ?_;clear E;rintro e w0 ⟨rfl,hw⟩
 have hw:=hw.symm;subst hw
 go_upto_region 7 with(at_make;refine wpList_make_full _ rfl _ _ 57 rfl w.heap.size 97 D (.agg #[ah 0,ah 0]) 2 underlying57 hi R S .i64 .i64 _ _ c rfl rfl V V (by rw[U];omega) (by unfold maxLen;omega) bW ?_;intro w1 F G)
 have hr:w1.heap[w.heap.size]?=some (.cells (ev (gw c v 0)).toArray 97 (0,0)):=by have X:=Jb A F;simpa[gw] using X
 have k:Below w.heap.size w w1:=(aH _ w).grown G bW (fun _ h=>by cases h)
 have H:=(k.cell (p:=aq b 0) lb).trans C;have I:=(k.cell (p:=aq b 1) lb).trans Q;clear F G;have q:Nat.min 1 c<=1:=Nat.min_le_left _ _;have d:Nat.min 1 c<=c:=Nat.min_le_right _ _;have l:0<c->1<=Nat.min 1 c:=fun h=>by simp only [Nat.min_def];split<;>omega
 have f:ay (∀j g,(ev (List.replicate (Nat.min 1 c) v))[j]?=some g->w1.cell? ((⟨b,0,none⟩:Addr).add j)=some g):=Jd q H I;have s:ay (w1.heap[w.heap.size]?=some (.cells (ev (gw c v 0)).toArray 97 (0,0))):=hr;have i:ay (0*2+(ev (List.replicate (Nat.min 1 c) v)).length<=(ev (gw c v 0)).length):=by show _<=_;rw[kR,kA,AG c v 0 V];omega
 clear H I hr;go_wp2_with (refine I6 rfl _ _ 57 57 97 rfl underlying57 AI (ak w.heap.size) (ak b) c c 1 1 rfl rfl w.heap.size (0*2) (ev (gw c v 0)) 97 s.o (ev (List.replicate (Nat.min 1 c) v)) (Nat.min 1 c) rfl (kR _ _) (fun _=>⟨rfl,_,rfl,f.o⟩) i.o (nO _) ?_;intro al J)
 obtain⟨t,K⟩:=AH (B:=w.heap.size) J s.o V bW
 rw[Nat.zero_add] at t;have L:=k.trans K;have u:ay (Nat.min 1 c<=c/\(0<c->1<=Nat.min 1 c)):=⟨d,l⟩
 clear J f s i k K q d l;generalize Nat.min 1 c=Y at*
 go_loopw [8] (fun nv wr=>∃n:Nat,(0<c->1<=n)/\n<=c/\nv=ah n/\ay (wr.heap[w.heap.size]?=some (.cells (ev (gw c v n)).toArray 97 (0,0)))/\Below w.heap.size w wr) (fun nv _=>c-(intOf nv).toNat)
 case atStart=>exact⟨Y,u.o.2,u.o.1,rfl,t,L⟩
 case round=>
  clear t L u;obtain⟨n,n1,ab,rfl,x,hb⟩:=hrel;by_cases am:n<c
  ·have n1:=n1 V;obtain⟨m,hm,q,d,l⟩:∃m,m=Nat.min n (c-n)/\0<m/\n+m<=c/\m<=n:=⟨_,rfl,by simp only [Nat.min_def];split<;>omega,by simp only [Nat.min_def];split<;>omega,by simp only [Nat.min_def];split<;>omega⟩
   have o:ay (wr.drew.heap[w.heap.size]?=some (.cells (ev (gw c v n)).toArray 97 (0,0))):=x.o;have f:ay (∀j g,(ev (List.replicate m v))[j]?=some g->wr.drew.cell? ((⟨w.heap.size,0,none⟩:Addr).add j)=some g):=Ja o.o m l;have i:ay (n*2+(ev (List.replicate m v)).length<=(ev (gw c v n)).length):=by show _<=_;rw[kR,kA,AG c v n ab];omega
   have an:¬c=n:=V;have D:(0:Int)<=(n:Int):=V;have ao:(n:Int)<=(c:Int):=V;have ap:(n:Int)<(c:Int):=V;clear x;go_wp2_with fail
   go_region_law (refine AF rfl (.tmp 41) (.tmp 44) 57 57 97 rfl underlying57 AI (some ⟨w.heap.size,n*2,none⟩) (ak w.heap.size) (c-n) (c-n) n c ?_ ?_ w.heap.size (n*2) (ev (gw c v n)) 97 o.o (ev (List.replicate m v)) m hm (kR _ _) (fun _=>⟨rfl,_,rfl,f.o⟩) i.o (nO _) ?_;(simp[Act.eval,Act.put]);(simp[Act.eval,Act.put]);intro ad M)
   obtain⟨N,O⟩:=AH (B:=w.heap.size) M o.o d bW
   have ag:ay (ad.heap[w.heap.size]?=some (.cells (ev (gw c v (n+m))).toArray 97 (0,0))):=N;have ai:=hb.drew.trans O;have hw:IntKind.i64.wrap ((n:Int)+(m:Int))=((n+m:Nat):Int):=by rw[bk];omega
   clear N O M o f i hb;simp[Act.put,go_sem,Exit.inBlock];rw[<-hm,hw];refine⟨⟨_,_,_,_,_,_,_,_,_,_,_,_,_,_,?rel,rfl⟩,?measure⟩
   case rel=>exact⟨n+m,fun _=>V,d,rfl,ag,ai⟩
   case measure=>simp[intOf];omega
  ·obtain rfl:n=c:=V;have P:=x.o;rw[W.o] at P;go_wp2_with fail;go_ret;exact⟨w.heap.size,rfl,aD _,P,hb⟩
section
variable {bY rb:Nat}{b_ bZ:Int}{F:Nat->Prop}{s:ck}{w:ax}{g:gO}
theorem Je (g:List Bool->List Bool)(s:ck)(bZ:Int)(mj:Bool):(s.cut g bZ mj).rs=s.rs:=by unfold ck.cut;split<;>rfl
theorem AK (g:gO)(b_ bZ:Int)(s:ck)(m:Int):(s.room g b_ bZ m).2.rs=s.rs:=by
 unfold ck.room;split
 ·rfl
 ·exact Je _ _ _ _
theorem uL (g:gO)(b_ bZ:Int)(s:ck)(kd:Int)(fl:List _):(s.bZ g b_ bZ kd fl).2.2.rs=s.rs:=by
 unfold ck.bZ;split
 ·exact AK _ _ _ _ _
 ·exact AK _ _ _ _ _
theorem Jf (s:ck)(v:Int×Int):(s.pop v).2.2.rs=s.rs:=by
 unfold ck.pop;split
 ·split<;>rfl
 ·rfl
theorem jX (h:(cx bY b_ bZ rb).J F s w):w.cell? (aq bY 6)=some (.slice (ak rb) 12 12)/\(∀i,i<12->w.cell? (aq rb (i*2))=some (ah (s.rs.getD i (0,0)).1)/\w.cell? (aq rb (i*2+1))=some (ah (s.rs.getD i (0,0)).2))/\F bY/\F rb:=by obtain⟨l,h,rfl,b⟩:=h;have c:=h.g4.cells.2.2;exact⟨h.cells.2.2.2.2.2.2.1,fun i hi=>⟨(c i hi).1,(c i hi).2.1⟩,(b _).2 (by rw[h.bo];decide),(b _).2 (by rw[h.g4.ro];decide)⟩
theorem ff {w:ax}{b c o:Nat}{x v0 v1:Value}(hn:b≠c)(h:w.cell? (aq b o)=some x):((w.setCell ⟨c,0,none⟩ v0).setCell ⟨c,1,none⟩ v1).cell? (aq b o)=some x:=by exact Ay
theorem uM (h:(cx bY b_ bZ rb).J F s w)(hv:fH s)(C:dR s.T s.wt (g s.T s.wt))(g0:-1000000<=bZ)(g1:bZ<=1000000)(S:-1000000<=b_)(m1:b_<=1000000)(R I n:Int){k kd:Int}(hk:k=4/\kd=1\/k=6/\kd=3\/k=7/\kd=4)(A B:Nat)(o:A<12)(hB:B<12):
 Calls prog 136 #[aj bY,dK k R A B I n] w fun e w'=>∃d,e=.returned (.tuple #[.agg #[ah (s.bZ g b_ bZ kd [s.rs.getD A (0,0),s.rs.getD B (0,0)]).1.1,ah (s.bZ g b_ bZ kd [s.rs.getD A (0,0),s.rs.getD B (0,0)]).1.2],ah (s.bZ g b_ bZ kd [s.rs.getD A (0,0),s.rs.getD B (0,0)]).2.1])/\(cx bY b_ bZ rb).J d (s.bZ g b_ bZ kd [s.rs.getD A (0,0),s.rs.getD B (0,0)]).2.2 w'/\b8 F w d w':=by
 have fS:∀b,F b->b<w.heap.size:=fun b hb=>(cx bY b_ bZ rb).lt h b hb;have p:Below w.heap.size w ((w.alloc (cz k R A B I n)).alloc (.cells #[.int .i64 0,.int .i64 0] 97)):=(bX.alloc bW _).alloc Z _;have q:((w.alloc (cz k R A B I n)).alloc (.cells #[.int .i64 0,.int .i64 0] 97)).heap[w.heap.size]?=some (cz k R A B I n):=(aS _ _ _ Z).trans (aN w _)
 have D:=iP w (cz k R A B I n) (.cells #[.int .i64 0,.int .i64 0] 97)
 obtain⟨U,rt,E,G⟩:=jX ((cx bY b_ bZ rb).below h p)
 obtain⟨W,X⟩:=rt A o;obtain⟨Y,ab⟩:=rt B hB;obtain⟨q0,q1,ag,q3,ai,al⟩:=eu q;have a2:=fS _ E;have bb:=fS _ G;have H:((w.alloc (cz k R A B I n)).alloc (.cells #[.int .i64 0,.int .i64 0] 97)).heap.size=w.heap.size+1+1:=Z;have t:Calls prog 206 #[aj bY,ah kd,.slice (ak (w.heap.size+1+1)) 2 2] (((w.alloc (cz k R A B I n)).alloc (.cells #[.int .i64 0,.int .i64 0] 97)).drew.alloc (.cells #[.int .i64 (s.rs.getD A (0,0)).1,.int .i64 (s.rs.getD A (0,0)).2,.int .i64 (s.rs.getD B (0,0)).1,.int .i64 (s.rs.getD B (0,0)).2] 97)) fun e c=>∃d,e=.returned (.tuple #[.agg #[ah (s.bZ g b_ bZ kd [s.rs.getD A (0,0),s.rs.getD B (0,0)]).1.1,ah (s.bZ g b_ bZ kd [s.rs.getD A (0,0),s.rs.getD B (0,0)]).1.2],ah (s.bZ g b_ bZ kd [s.rs.getD A (0,0),s.rs.getD B (0,0)]).2.1])/\
  (c.cell? (aq bY 6)=some (.slice (ak rb) 12 12)/\c.cell? (aq rb (A*2))=some (ah (s.rs.getD A (0,0)).1)/\c.cell? (aq rb (A*2+1))=some (ah (s.rs.getD A (0,0)).2)/\c.cell? (aq rb (B*2))=some (ah (s.rs.getD B (0,0)).1)/\c.cell? (aq rb (B*2+1))=some (ah (s.rs.getD B (0,0)).2)/\c.cell? (aq w.heap.size 2)=some (ah A)/\c.cell? (aq w.heap.size 3)=some (ah B))/\
  c.heap[w.heap.size+1]?=some (.cells #[ah 0,ah 0] 97 (0,0))/\ay ((cx bY b_ bZ rb).J d (s.bZ g b_ bZ kd [s.rs.getD A (0,0),s.rs.getD B (0,0)]).2.2 c/\b8 F w d c/\¬d (w.heap.size+1)):=by
  have b1:Below w.heap.size w (((w.alloc (cz k R A B I n)).alloc (.cells #[.int .i64 0,.int .i64 0] 97)).drew.alloc (.cells #[.int .i64 (s.rs.getD A (0,0)).1,.int .i64 (s.rs.getD A (0,0)).2,.int .i64 (s.rs.getD B (0,0)).1,.int .i64 (s.rs.getD B (0,0)).2] 97)):=p.drew.alloc (by simp;omega) _;have u:(((w.alloc (cz k R A B I n)).alloc (.cells #[.int .i64 0,.int .i64 0] 97)).drew.alloc (.cells #[.int .i64 (s.rs.getD A (0,0)).1,.int .i64 (s.rs.getD A (0,0)).2,.int .i64 (s.rs.getD B (0,0)).1,.int .i64 (s.rs.getD B (0,0)).2] 97)).heap.size=w.heap.size+1+1+1:=Z;have hn:=aN ((w.alloc (cz k R A B I n)).alloc (.cells #[.int .i64 0,.int .i64 0] 97)).drew (.cells #[.int .i64 (s.rs.getD A (0,0)).1,.int .i64 (s.rs.getD A (0,0)).2,.int .i64 (s.rs.getD B (0,0)).1,.int .i64 (s.rs.getD B (0,0)).2] 97)
  have J:((w.alloc (cz k R A B I n)).alloc (.cells #[.int .i64 0,.int .i64 0] 97)).drew.heap.size=w.heap.size+1+1:=H;rw[J] at hn;refine(uK (g:=g) (kd:=kd) (fl:=[s.rs.getD A (0,0),s.rs.getD B (0,0)]) (ad:=ak (w.heap.size+1+1)) (cap:=2) ((cx bY b_ bZ rb).below h b1) hv C g0 g1 S m1 Z ⟨fun _=>⟨w.heap.size+1+1,0,rfl,by rw[u];omega,fun i hi=>?_⟩,Z,fun e=>by cases e⟩).mono ?_
  ·have hi:i<2:=hi;rcases(show i=0\/i=1 by omega) with rfl|rfl<;>simp only [World.cell?,hn]<;>exact⟨rfl,rfl⟩
  ·rintro e c ⟨d,rfl,K,tn⟩
   obtain⟨l,j,_,_⟩:=jX K;rw[uL] at j;have kp:∀b,w.heap.size<=b->b<w.heap.size+1+1->c.heap[b]?=((w.alloc (cz k R A B I n)).alloc (.cells #[.int .i64 0,.int .i64 0] 97)).heap[b]?:=fun b bd be=>(tn.fr.block b (by rw[u];omega) (fun f=>by have:=fS b f;omega)).trans (aS ((w.alloc (cz k R A B I n)).alloc (.cells #[.int .i64 0,.int .i64 0] 97)).drew _ b (by rw[J];omega))
   have am:=(kp _ bW V).trans q;obtain⟨_,_,an,ao,_,_⟩:=eu am;refine⟨d,rfl,⟨l,(j A o).1,(j A o).2,(j B hB).1,(j B hB).2,an,ao⟩,(kp _ V V).trans D,K,(b8.of b1).trans tn,fun f=>?_⟩
   rcases tn.sub _ f with f|f
   ·have:=fS _ f;omega
   ·rw[u] at f;omega
 generalize s.bZ g b_ bZ kd [s.rs.getD A (0,0),s.rs.getD B (0,0)]=gr at*;obtain⟨⟨v0,v1⟩,cd,bg⟩:=gr;dsimp only at t⊢;generalize (s.rs.getD A (0,0)).1=a0 at*;generalize (s.rs.getD A (0,0)).2=a1 at*;generalize (s.rs.getD B (0,0)).1=ap at*;generalize (s.rs.getD B (0,0)).2=ar at*;have bi:(0:Int)<=(A:Int):=V;have bl:(A:Int)<12:=V;have bn:(0:Int)<=(B:Int):=V;have bo:(B:Int)<12:=V;have aB:bY≠w.heap.size+1:=V;have m:rb≠w.heap.size+1:=V;have nx:w.heap.size≠w.heap.size+1:=V;clear h hv C p q D rt fS E G q0 q1 ai al H;rcases hk with⟨rfl,rfl⟩|⟨rfl,rfl⟩|⟨rfl,rfl⟩
 all_goals
  go_enter func136,ntmps136;go_wp2_with fail
  go_region_held3 (fun w'=>w'.cell? (aq bY 6)=some (.slice (ak rb) 12 12)/\w'.cell? (aq rb (A*2))=some (ah a0)/\w'.cell? (aq rb (A*2+1))=some (ah a1)/\w'.cell? (aq rb (B*2))=some (ah ap)/\w'.cell? (aq rb (B*2+1))=some (ah ar)/\w'.cell? (aq w.heap.size 2)=some (ah A)/\w'.cell? (aq w.heap.size 3)=some (ah B)) (first|exact⟨ff aB L,ff m M,ff m N,ff m O,ff m P,ff nx l,ff nx Q⟩|(go_keep;done))
   (first|(go_at_call 206;refine t.mono ?_;clear t;rintro e c ⟨d,rfl,⟨L,M,N,O,P,l,Q⟩,y1,x⟩;obtain⟨r0,r1,bp,lw⟩:=di y1;have aF:ay (_=_):=y1;clear y1 U W X Y ab ag q3))
  all_goals
   clear L M N O P l Q ‹_/\_›;go_wp2_with fail;obtain⟨aR,aV,_,_⟩:=di (gy (v1:=ah v0) (v2:=ah v1) aF.o)
   exact a3 (v:=.tuple #[.agg #[ah v0,ah v1],ah cd]) (by simp[results,results136,go_sem,aR,aV]) rfl ⟨d,rfl,dr.set2 _ x.o.1 x.o.2.2 _ _,x.o.2.1.set2 (Nat.le_succ _) _ _⟩
end
end Go.Proofs.YtpkjkjhanlbcoaaGreat
