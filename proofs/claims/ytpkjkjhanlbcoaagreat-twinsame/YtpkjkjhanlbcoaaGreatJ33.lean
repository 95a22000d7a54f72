import Derived.Test.YtpkjkjhanlbcoaaGreatJ32
namespace Go.Proofs.YtpkjkjhanlbcoaaGreat
set_option maxRecDepth 100000
set_option maxHeartbeats 8000000
open Tryz
open Go.RowKit W Kp cf
theorem HW:(prog.info? 2).map (fun i=>(i.zero,i.size,i.bytes))=some (some (ah 0),1,8):=ae
section
variable {c:Cp}{own:Nat->Nat}{vt:Value}{n1 n2:Nat}{hm:Int->Option Addr×Nat}{st:dw}{w:ax}
theorem z_ {cp ab:Nat}{T:List cD}{fm:Fm}{A:List Bool}(c1:w.cell? (aq cp 1)=some (.map (some ab)))(hM:es w ab n1 (eS T fm A))(x:Int)(h0:0<=x)(c:x<1152921504606846976):
 Calls prog 247 #[aj cp,ah x] w fun e w'=>e=.returned (.bool (cL A x))/\aw w w':=by
 have L:=hM.look_ok (t:=184) (e:=220) Tryz.underlying184 (mr w) (x:=x) h0 c;rw[ul h0] at L;have hv:∃k ad n d,(eS T fm A x).getD (.agg #[ah 0,.slice none 0 0])=.agg #[ah k,.slice ad n d]:=by
  unfold eS;split
  ·exact⟨_,_,_,_,rfl⟩
  ·exact⟨_,_,_,_,rfl⟩
 obtain⟨k,ad,n,cc,ev⟩:=hv;rw[ev] at L;generalize cL A x=b at*;clear hM ev;go_enter func247,ntmps247;go_wp2_with fail;go_ret;exact⟨rfl,bX.alloc bW _⟩
theorem Aa {cp ab:Nat}{T:List cD}{fm:Fm}{A:List Bool}(c1:w.cell? (aq cp 1)=some (.map (some ab)))(hM:es w ab n1 (eS T fm A))(v:Int×Int)(hv:v.1=3->0<=v.2/\v.2<1152921504606846976):
 Calls prog 250 #[aj cp,.agg #[ah v.1,ah v.2]] w fun e w'=>e=.returned (.bool (!dH A v))/\aw w w':=by
 obtain⟨k,x⟩:=v;by_cases c:k=3
 ·subst c;have b1:=au w (.cells #[.int .i64 3,.int .i64 x] 97)
  have P:=z_ ((b1.cell (p:=aq cp 1) (aQ w _ c1)).trans c1) (hM.same (b1.block ab hM.lt)) x (hv rfl).1 (hv rfl).2;have e:dH A (3,x)=cL A x:=by unfold dH cL;simp
  rw[e];generalize cL A x=b at*;clear hM c1 hv e;go_enter func250,ntmps250;go_wp2_with fail;refine P.mono ?_;clear P;rintro e w1 ⟨rfl,hb⟩
  have d:ay (aw w w1):=b1.trans (hb.mono b1.size)
  clear hb b1;go_wp2_with fail;go_ret;exact⟨rfl,d.out⟩
 ·have e:dH A (k,x)=true:=by unfold dH;simp[c]
  rw[e];clear hM c1 hv e;go_enter func250,ntmps250;go_wp2_with fail;go_ret;exact⟨rfl,bX.alloc bW _⟩
theorem HX (h:cU c own vt n1 n2 hm st w)(x:Int)(h0:0<=x)(b:x<1152921504606846976):
 Calls prog 247 #[aj c.cp,ah x] w fun e w'=>e=.returned (.bool (cL st.A x))/\aw w w':=z_ h.cells.2.1 h.am x h0 b
theorem um (h:cU c own vt n1 n2 hm st w)(v:Int×Int)(hv:v.1=3->0<=v.2/\v.2<1152921504606846976):
 Calls prog 250 #[aj c.cp,.agg #[ah v.1,ah v.2]] w fun e w'=>e=.returned (.bool (!dH st.A v))/\aw w w':=Aa h.cells.2.1 h.am v hv
structure jH (own:Nat->Nat)(w:ax)(ad:Option Addr)(l:List (Int×Int)):Prop where
 lp:dv w ad l
 no:0<l.length->∀z,ad=some z->¬(own z.block=1\/own z.block=2\/own z.block=3)
theorem jH.tm {own d:Nat->Nat}{w w':ax}{ad:Option Addr}{l:List (Int×Int)}(h:jH own w ad l)(t:fA own w d w'):jH d w' ad l:=
 ⟨h.lp.keep t.fr.size (fun hp z e=>t.fr.block _ (by obtain⟨b,o,c,hb,_⟩:=h.lp hp;rw[e] at c;cases c;exact hb) (h.no hp z e)),fun hp z e=>by rw[t.old _ (by obtain⟨b,o,c,hb,_⟩:=h.lp hp;rw[e] at c;cases c;exact hb)];exact h.no hp z e⟩
theorem mx (hg:dS c.bY c.b_ c.bZ c.l c.s c.w0)(H:c.s.T.length<=10000)(D:st.A.length=c.s.T.length)(h:cU c own vt n1 n2 hm st w)(ad:Option Addr)(cap:Nat)(l:List (Int×Int))(hl:jH own w ad l)(hv:∀v∈l,v.1=3->0<=v.2/\cv c.s.T v.2.toNat)(cz:l.length<=100000):
 Calls prog 245 #[aj c.cp,.slice ad l.length cap] w fun e w'=>∃f cM n,e=.returned (.tuple #[])/\cU c f cM n n2 hm (dm st l) w'/\fA own w f w':=by
 have ab:ay (dS c.bY c.b_ c.bZ c.l c.s c.w0):=hg;have bt:ay (∀v∈l,v.1=3->0<=v.2/\cv c.s.T v.2.toNat):=hv;have ag:ay (cU c own vt n1 n2 hm st w/\jH own w ad l):=⟨h,hl⟩
 have bx:ay (c.s.T.length<=10000/\st.A.length=c.s.T.length):=⟨H,D⟩
 have cA:=h.cells.2.2.2.2.2;clear hg h hl hv H D;go_enter func245,ntmps245;go_wp2_with fail
 go_loopw [8] (fun i wr=>∃(j:Nat)(f:Nat->Nat)(cM:Value)(n:Nat),j<=l.length/\i=ah j/\cU c f cM n n2 hm (dm st (l.take j)) wr/\fA own w f wr) (fun i _=>l.length-(intOf i).toNat)
 case atStart=>exact⟨0,own,vt,n1,aZ _,rfl,ag.out.1,fA.of bX (fun b hb=>(ag.out.1.lt b hb).2)⟩
 case round=>
  obtain⟨j,f,cM,n,I,rfl,g,t⟩:=hrel;by_cases ai:j<l.length
  ·have al:l.take (j+1)=l.take j++[l.getD j (0,0)]:=by rw[List.take_add_one,aE,aL ai];rfl
   have E:=bt.out (l.getD j (0,0)) (getD_in ai)
   obtain⟨H,D⟩:=bx.out;have N:(dm st (l.take j)).A.length=c.s.T.length:=((ja st (l.take j)).2.2).trans D;have am:ay (dm st (l.take (j+1))=dZ (dm st (l.take j)) (l.getD j (0,0))):=by show _=_;rw[al,zV]
   generalize dm st (l.take j)=S at g am N;obtain⟨cB,o,O,lb,an⟩:=(ag.out.2.tm t).lp V;have hc:=an j ai;obtain⟨z0,bY⟩:=hc;generalize l.getD j (0,0)=v at*;obtain⟨k,x⟩:=v;dsimp only at z0 bY E;have b1:=au wr (.cells #[.int .i64 k,.int .i64 x] 97)
   have P:=um (g.below b1) (k,x) (fun J=>⟨(E J).1,by have:=(E J).2.1;omega⟩)
   have cC:ay (wr.heap.size+1=wr.heap.size+1):=rfl;have cD:(j:Int)<l.length:=V;have cE:IntKind.i64.wrap ((j:Int)+1)=(j:Int)+1:=by rw[bk];omega
   cases hi:dH S.A (k,x)
   ·rw[hi] at P;obtain⟨J,bZ⟩:=me hi;dsimp only at J bZ;subst J;obtain⟨Q,R⟩:=E rfl;have cF:x<10000:=by have:=R.1;omega
    obtain⟨s,u,b0⟩:=eE g.tr;subst b0;have cG:S.td.length<=10000:=by have:=g.tn;omega
    have aR:n<100000:=by have:=g.an;omega
    have np:∀b,f b=3->b≠c.cp:=fun b hb e=>by rw[e,g.co] at hb;omega
    have aV:ay (∀w1,aw wr w1->w1.heap[wr.heap.size]?=some (.cells #[ah 3,ah x] 97 (0,0))->∃kd ao ap fc d,(w1.cell? (aq c.cp 0)=some (aj c.bY)/\w1.cell? (aq c.cp 1)=some (.map (some c.ab))/\w1.cell? (aq c.bY 2)=some (.map (some c.l.mb)))/\
     (Instr.lookup 184 (.map (some c.l.mb)) (ah x) false).run prog w1.drew=.ok (.agg #[ah kd,.slice ao ap fc]) w1.drew/\(Instr.mapUpdate 184 (.map (some c.ab)) (ah x) (.agg #[ah kd,.slice ao ap fc])).run prog w1.drew=.ok () d/\
     (d.cell? (aq c.cp 0)=some (aj c.bY)/\d.cell? (aq c.cp 1)=some (.map (some c.ab))/\d.cell? (aq c.bY 2)=some (.map (some c.l.mb))/\d.cell? (aq wr.heap.size 1)=some (ah x)/\d.cell? (aq c.cp 2)=some (.slice s S.td.length u)/\(∀o,d.frozen? (aq c.cp o)=false)/\c.cp<d.heap.size)/\
     ay (d.ownsRow 0 2 1 (.slice s S.td.length u) S.td.length (S.td.map (Value.int .i64))/\some c.cp≠(Value.slice s S.td.length u).ownBlock/\∀m b4 q,(d.alloc (.cells #[.int .i64 x] 2)).drew.grownBy m (Value.slice s S.td.length u).ownBlock->m.ownsRow 0 2 1 (.slice (ak b4) (S.td.length+1) q) (S.td.length+1) ((S.td++[x]).map (Value.int .i64))->(some b4=(Value.slice s S.td.length u).ownBlock\/d.heap.size<=b4)->
      ∃F,cU c F (.slice (ak b4) (S.td.length+1) q) (n+1) n2 hm (dm st (l.take (j+1))) (m.setCell ⟨c.cp,2,none⟩ (.slice (some ⟨b4,0,none⟩) (S.td.length+1) q))/\fA own w F (m.setCell ⟨c.cp,2,none⟩ (.slice (some ⟨b4,0,none⟩) (S.td.length+1) q)))):=fun w1 hb G=>by
     have g1:=g.below hb;have gv:=g1.gv ab.out;have a0:=g.below hb.drew;have L:=(a0.gv ab.out).g2.mp.look (t:=184) (e:=220) Tryz.underlying184 (mr _) (x:=x) Q V;rw[jb ⟨Q,R⟩] at L;obtain⟨d,b2,ar,C⟩:=a0.am.put (t:=184) (e:=220) Tryz.underlying184 aR Q V (fW c.s.T c.l.fm x.toNat)
     obtain⟨q0,q1,b3,_,b5,U⟩:=g1.cells;obtain⟨_,_,a1,_,_,_,_,_,pl⟩:=gv.cells;have W:∀b,b<w1.heap.size->b≠c.ab->d.heap[b]?=w1.heap[b]?:=fun b hb hn=>C.block b hb (fun e=>hn (Option.some.inj e))
     have a2:c.cp≠c.ab:=fun e=>by have B:=g1.co;rw[e,g1.ao] at B;omega
     have b6:c.bY≠c.ab:=fun e=>by have B:=ab.out.cells.2.2.2.2.2.2.2.2;have b7:=(g1.lt c.ab (by rw[g1.ao];decide)).1;omega
     have b8:wr.heap.size≠c.ab:=fun e=>by have b7:=(g.lt c.ab (by rw[g.ao];decide)).2;omega
     have K:=W c.cp U a2;refine⟨_,_,_,_,d,⟨q0,q1,a1⟩,L,b2,⟨(aP (a:=⟨c.cp,0,none⟩) K).trans q0,(aP (a:=⟨c.cp,1,none⟩) K).trans q1,(aP (a:=⟨c.bY,2,none⟩) (W c.bY pl b6)).trans a1,(aP (a:=⟨wr.heap.size,1,none⟩) (W wr.heap.size (lt_of_some G) b8)).trans (by simp[World.cell?,G]),(aP (a:=⟨c.cp,2,none⟩) K).trans b3,fun o=>(World.frozen?_of_block (a:=⟨c.cp,o,none⟩) K).trans (b5 o),aM U C.size⟩,?_⟩
     have b9:d.ownsRow 0 2 1 (.slice s S.td.length u) S.td.length (S.td.map (Value.int .i64)):=cH g1.tr (fun k e=>W k (cn g1.tr k e).2 (fun cc=>by have B:=g1.tw k e;rw[cc,g1.ao] at B;omega))
     refine⟨b9,fun e=>np c.cp (g1.tw c.cp e) rfl,fun m b4 q aB ca bb=>?_⟩
     have cb:Fr (fun b=>f b=1\/f b=2\/f b=3) w1 d:=((Fr.refl _ w1).drew).grown C (fun k e=>aK (by cases e;exact aJ (aK g1.ao)))
     have cd:Fr (fun b=>f b=1\/f b=2\/f b=3) d m:=(((Fr.refl _ d).alloc _).drew).grown aB (fun k e=>aK (aJ (aJ (g1.tw k e.symm))))
     have ce:=(cb.trans cd (fun _ cf=>aK cf)).set c.cp 2 (.slice (ak b4) (S.td.length+1) q) (aK g1.co)
     have cg:b4≠c.cp:=by
      rcases bb with e|e
      ·exact np b4 (g1.tw b4 e)
      ·have:=C.size;have:w1.heap.size<=d.heap.size:=this
       omega
     have bd:∀b,b≠c.cp->(m.setCell ⟨c.cp,2,none⟩ (.slice (some ⟨b4,0,none⟩) (S.td.length+1) q)).heap[b]?=m.heap[b]?:=fun b hn=>aU _ _ _ _ hn;have ch:(m.setCell ⟨c.cp,2,none⟩ (.slice (some ⟨b4,0,none⟩) (S.td.length+1) q)).heap[c.ab]?=d.heap[c.ab]?:=(bd c.ab a2.symm).trans ((aB.block c.ab (by have:=ar.lt;simp[World.drew];omega) (fun e=>by have B:=g1.tw c.ab e;rw[g1.ao] at B;omega)).trans (aS _ _ _ ar.lt))
     have ci:m.heap[c.cp]?=w1.heap[c.cp]?:=(aB.block c.cp (by have:=aM U C.size;simp[World.drew];omega) (fun e=>np c.cp (g1.tw c.cp e) rfl)).trans ((aS _ _ _ (aM U C.size)).trans K)
     obtain⟨F,c1,c2⟩:=g1.fX (cM:=.slice (ak b4) (S.td.length+1) q) hi Q (by rw[N];exact R.1) ce (ar.same ch) (cH ca (fun k e=>by cases e;exact bd _ cg)) (by
      have B:=ci.trans g1.cb;simp only [World.setCell,Array.getElem?_modify,if_true,B,Option.map_some];rfl) (fun k e=>by
      cases e;exact bb.imp (fun e=>g1.tw _ e) (fun e=>aT (show w1.heap.size<=d.heap.size from C.size) e))
     rw[am.out];exact⟨F,c1,(t.trans (fA.of hb (fun b hb=>(g.lt b hb).2))).trans c2⟩
    rw[O];clear g t an E al hi N H D O np aR R;go_wp2_with fail;refine P.mono ?_;clear P;rintro e w1 ⟨rfl,hb⟩
    have G:=(hb.block wr.heap.size Z).trans (aN wr (.cells #[.int .i64 3,.int .i64 x] 97))
    obtain⟨kd,ao,ap,fc,d,⟨cj,y1,ck⟩,cl,cm,⟨u0,co,cp,cI,be,bg,aF⟩,X⟩:=aV.out w1 (b1.trans (hb.mono b1.size)) G;obtain⟨_,cq,_,_⟩:=di G;clear hb b1 G aV;go_wp2_with fail
    go_region_held3 (fun w'=>w'.cell? (aq c.cp 0)=some (aj c.bY)/\w'.cell? (aq c.cp 1)=some (.map (some c.ab))/\w'.cell? (aq c.bY 2)=some (.map (some c.l.mb))/\w'.cell? (aq wr.heap.size 1)=some (ah x)) (go_keep) (fail)
    clear cl cm cj y1 ck cq u0 co cp;obtain⟨cr,cs,ct,cu,cw⟩:=info_parts HW;have M:=(au d (.cells #[.int .i64 x] 2)).drew;have bi:ay ((d.alloc (.cells #[.int .i64 x] 2)).drew.ownsRow 0 2 1 (.slice s S.td.length u) S.td.length (S.td.map (Value.int .i64))):=cH (ga X.out.1 _) (fun _ _=>rfl)
    have bl:some c.cp≠(Value.slice s S.td.length u).ownBlock:=X.out.2.1;have cx:=bg 2;clear bg;go_wp2_with fail
    go_region_law (refine step_append_lies _ rfl (.tmp 35) (.tmp 38) 53 rfl 0 2 cr (ah 0) 1 8 Tryz.underlying53 cs ct cu cw rfl aa (.slice s S.td.length u) S.td.length (S.td.map (Value.int .i64)) (by simp[Act.eval]) bi.out ⟨d.heap.size,0,none⟩ 1 1 [ah x] (by simp[Act.eval]) rfl ?_ ?_ aa (by unfold maxLen;omega) V Z _ rfl ?_;(intro j cy I;match j,I with|0,I=>(simp at I;subst I;simp[Addr.add]));(intro cy bn;simp at bn;subst bn;rfl);intro b4 q m bo Y bp cJ;have cK:=Y.cell (a:=⟨c.cp,2,none⟩) (v:=.slice s S.td.length u) ((M.cell (p:=aq c.cp 2) aF).trans be) bl;have cL:m.frozen? (aq c.cp 2)=false:=(World.frozen?_of_block (a:=⟨c.cp,2,none⟩) (Y.block _ (aM aF M.size) bl)).trans ((M.frozen (p:=aq c.cp 2) aF).trans cx))
    all_goals
     obtain⟨F,br,bs⟩:=X.out.2.2 m b4 q Y (by simpa using bo) (bp.imp Eq.symm (fun e=>by rw[e];exact M.size))
     have A:ay (_/\_):=⟨br,bs⟩
     clear bo Y bp X bi br bs M be;go_wp2_with fail;go_roundw
     case rel=>exact⟨j+1,F,_,n+1,V,af,A.out.1,A.out.2⟩
     case measure=>simp[intOf];omega
   ·rw[hi] at P;have A:ay (∀w1,aw wr w1->cU c f cM n n2 hm (dm st (l.take (j+1))) w1/\fA own w f w1):=fun w1 hb=>by rw[am.out,ue hi];exact⟨g.below hb,t.trans (fA.of hb (fun b hb=>(g.lt b hb).2))⟩
    rw[O];clear g t an E al hi N H D O;go_wp2_with fail;refine P.mono ?_;clear P;rintro e w1 ⟨rfl,hb⟩
    have hb:=b1.trans (hb.mono b1.size)
    have A:ay (_/\_):=A.out w1 hb;clear hb b1;go_wp2_with fail;go_roundw
    case rel=>exact⟨j+1,f,cM,n,V,af,A.out.1,A.out.2⟩
    case measure=>simp[intOf];omega
  ·have e:l.take j=l:=List.take_of_length_le V;rw[e] at g;have A:ay (cU c f cM n n2 hm (dm st l) wr/\fA own w f wr):=⟨g,t⟩
   have cN:(l.length:Int)<=j:=V;clear g t e;go_wp2_with fail;go_end0;exact⟨f,cM,n,rfl,A.out.1,A.out.2⟩
end
def iS (A:List Bool)(t:cD):List (Int×Int):=if t.1=4/\dH A (t.2.1.getD 0 (0,0))=false then[(2,0),(2,0)] else if t.1=3/\dH A (t.2.1.getD 0 (0,0))=false then[(2,0),t.2.1.getD 1 (0,0)] else t.2.1
def fY (A:List Bool)(T:List cD)(left:Int->Bool)(i:Nat):List (Int×Int):=if left i=true then(T.getD i t0).2.1 else iS A (T.getD i t0)
structure gY (T:List cD)(fm:Fm)(A:List Bool)(lab:Nat->Nat)(cp ab n1:Nat)(fs:Nat->List (Int×Int))(w:ax):Prop where
 c1:w.cell? (aq cp 1)=some (.map (some ab))
 hM:es w ab n1 (eS T fm A)
 row:∀i,ct A i->w.ownsRow 0 97 2 (eD T fm i) (T.getD i t0).2.1.length (ev (fs i))
 lb:∀i,ct A i->∀k,some k=(eD T fm i).ownBlock->lab k=10+i
 no:lab cp=0/\lab ab=0
structure pJ (T:List cD)(A:List Bool):Prop where
 l2:∀i,ct A i->(T.getD i t0).1=3\/(T.getD i t0).1=4->(T.getD i t0).2.1.length=2
 v0:∀i,ct A i->((T.getD i t0).2.1.getD 0 (0,0)).1=3->0<=((T.getD i t0).2.1.getD 0 (0,0)).2/\((T.getD i t0).2.1.getD 0 (0,0)).2<10000
section
variable {T:List cD}{fm:Fm}{A:List Bool}{lab:Nat->Nat}{cp ab n1:Nat}{fs:Nat->List (Int×Int)}{w w':ax}
theorem gY.keep (h:gY T fm A lab cp ab n1 fs w)(hk:∀b,b=cp\/b=ab\/10<=lab b->w'.heap[b]?=w.heap[b]?):gY T fm A lab cp ab n1 fs w':=
 ⟨(aP (hk cp (aK rfl))).trans h.c1,h.hM.same (hk ab (aJ (aK rfl))),fun i hi=>cH (h.row i hi) (fun k e=>hk k (aJ (aJ (by rw[h.lb i hi k e];omega)))),h.lb,h.no⟩
theorem gY.set (h:gY T fm A lab cp ab n1 fs w){i b cap:Nat}(hi:ct A i)(e:eD T fm i=.slice (ak b) (T.getD i t0).2.1.length cap){d:Nat->List _}(hg:∀j,j≠i->d j=fs j)
 (hr:w'.ownsRow 0 97 2 (eD T fm i) (T.getD i t0).2.1.length (ev (d i)))(fr:Fr (fun k=>k=b) w w'):gY T fm A lab cp ab n1 d w':=by
 have lb:=h.lb i hi b (by rw[e];rfl)
 have h0:=h.no;refine⟨(aP (fr.block cp (aQ w _ h.c1) (fun c=>by rw[c] at h0;omega))).trans h.c1,h.hM.same (fr.block ab h.hM.lt (fun c=>by rw[c] at h0;omega)),fun j f=>?_,h.lb,h.no⟩
 by_cases g:j=i
 ·subst g;exact hr
 ·rw[hg j g];exact cH (h.row j f) (fun k l=>fr.block k (cn (h.row j f) k l).2 (fun c=>by have m:=h.lb j f k l;rw[c,lb] at m;omega))
theorem gY.put (h:gY T fm A lab cp ab n1 fs w){i b cap:Nat}(hi:ct A i)(e:eD T fm i=.slice (ak b) (T.getD i t0).2.1.length cap)(j:Nat)(y:Int×Int):
 gY T fm A lab cp ab n1 (fun k=>if k=i then(fs i).set j y else fs k) ((w.setCell ⟨b,j*2,none⟩ (.int .i64 y.1)).setCell ⟨b,j*2+1,none⟩ (.int .i64 y.2))/\Fr (fun k=>k=b) w ((w.setCell ⟨b,j*2,none⟩ (.int .i64 y.1)).setCell ⟨b,j*2+1,none⟩ (.int .i64 y.2)):=by
 have fr:Fr (fun k=>k=b) w ((w.setCell ⟨b,j*2,none⟩ (.int .i64 y.1)).setCell ⟨b,j*2+1,none⟩ (.int .i64 y.2)):=((Fr.refl (fun k=>k=b) w).set b _ _ rfl).set b _ _ rfl;refine⟨h.set hi e (fun f d=>aG d) ?_ fr,fr⟩
 have c:=h.row i hi;rw[aI rfl,sX,e];rw[e] at c;exact nQ (nQ c (j*2) (ah y.1)) _ _
theorem gY.congr {b:Nat->List _}(h:gY T fm A lab cp ab n1 fs w)(e:∀j,b j=fs j):gY T fm A lab cp ab n1 b w:=by rwa [show b=fs from funext e]
theorem HY (left:Int->Bool)(i:Nat):(∀j,j≠i->fY A T (fun y=>left y&&!(y==(i:Int))) j=fY A T left j)/\fY A T (fun y=>left y&&!(y==(i:Int))) i=iS A (T.getD i t0):=by
 refine⟨fun j b=>?_,?_⟩
 ·unfold fY;have:((j:Int)==(i:Int))=false:=by simp;omega
  simp[this]
 ·unfold fY;rw[aG Z]
theorem HZ (h:gY T fm A lab cp ab n1 (fun i=>(T.getD i t0).2.1) w)(ht:pJ T A)(hl:∀b,lab b≠0->b<w.heap.size)(bb:∀i,ct A i->i<10000):
 Calls prog 236 #[aj cp] w fun e w'=>e=.returned (.tuple #[])/\gY T fm A lab cp ab n1 (fun i=>iS A (T.getD i t0)) w'/\Fr (fun b=>10<=lab b) w w':=by
 obtain⟨w1,cj,G,O,gr,sz⟩:=h.hM.range (t:=184) (e:=220) Tryz.underlying184;have b0:=bX.grown gr bW (fun j ck=>by cases ck)
 have c1:=h.c1;have b1:=aQ w _ h.c1;have cl:=g6 ht hl bb;have b2:ay (_/\aw w w1/\gY T fm A lab cp ab n1 (fY A T (fun x=>(eS T fm A x).isSome)) w1):=⟨O,b0,by
  have Y:=h.keep (w':=w1) (fun b hb=>b0.block b (by
   rcases hb with d|d|d
   ·rw[d];exact b1
   ·rw[d];exact h.hM.lt
   ·exact hl b V))
  refine⟨Y.c1,Y.hM,fun i hi=>?_,Y.lb,Y.no⟩
  unfold fY;rw[aI (by dsimp only;rw[ul V,cL,Int.toNat_natCast];exact hi)];exact Y.row i hi⟩
 go_enter func236,ntmps236;go_wp2_with fail
 go_loopw [3] (fun _ wr=>∃(left:Int->Bool)(k:Nat),ay (gf wr ab w.heap.size n1 (eS T fm A) left k/\gY T fm A lab cp ab n1 (fY A T left) wr/\Fr (fun b=>10<=lab b) w wr)) (fun _ wr=>wr.rangeLeft ab w.heap.size)
 case atStart=>
  obtain⟨r,b,g⟩:=b2.out;exact⟨_,cj,r,g,Fr.of b⟩
 case round=>
  clear G c1;obtain⟨left,k,bd⟩:=hrel;obtain⟨O,g,fr⟩:=bd.out;rcases O.next 0 with⟨h0,hl,G⟩|⟨x,v,l,F,b3,L,G,an,b4,b5,cm,ag⟩
  ·have b6:fY A T left=fun i=>iS A (T.getD i t0):=by
    funext i
    unfold fY;rw[hl,aG aa]
   rw[b6] at g;have M:ay (_/\_):=⟨g,fr⟩
   clear O g fr hl bd b6;go_wp2_with fail;go_end0;exact⟨rfl,M.out.1,M.out.2⟩
  ·have ao:0<=x/\A.getD x.toNat false=true:=by
    unfold eS at L;split at L
    ·assumption
    ·cases L
   obtain⟨i,rfl⟩:=Int.eq_ofNat_of_zero_le ao.1;have Q:ct A i:=by simpa[ct] using ao.2
   have hv:v=fW T fm i:=by unfold eS at L;rw[aI ao] at L;exact(Option.some.inj L).symm
   obtain⟨be,ap,bb⟩:=cl.out;obtain⟨bg,bi⟩:=HY (A:=A) (T:=T) left i;have ar:fY A T left i=(T.getD i t0).2.1:=by unfold fY;rw[aI b3]
   have aB:Fr (fun b=>b=w.heap.size) wr l:=(Fr.refl _ wr).grown b5 (fun j e=>aK (by cases e;rfl))
   have g2:gY T fm A lab cp ab n1 (fY A T left) l:=g.keep (fun b hb=>aB.block b (by
    rcases hb with d|d|d
    ·rw[d];exact aQ wr _ g.c1
    ·rw[d];exact g.hM.lt
    ·exact aM (ap b V) fr.size) (by
    rcases hb with d|d|d
    ·rw[d];exact Nat.ne_of_lt b1
    ·rw[d];exact Nat.ne_of_lt h.hM.lt
    ·have:=ap b V;omega))
   have ai:ay (∀c,aw l c->_/\_/\Fr (fun b=>10<=lab b) w c):=fun c hb=>⟨an.same (hb.block _ an.nl.lt) (hb.block _ an.lt),g2.keep (fun b cn=>hb.block b (by
    rcases cn with d|d|d
    ·rw[d];exact aQ l _ g2.c1
    ·rw[d];exact g2.hM.lt
    ·have:=ap b V;exact aM this (aT fr.size aB.size))),(fr.trans aB (fun b e=>aJ (by rw[e];exact aD _))).trans (Fr.of (X:=fun b=>10<=lab b) hb) (fun _ d=>aK d)⟩
   have H:ay (_/\F<k):=⟨O.left_eq,b4⟩
   have aF:ay (iS A (T.getD i t0)=(T.getD i t0).2.1->fY A T (fun y=>left y&&!(y==(i:Int)))=fY A T left):=fun e=>by
    funext j
    by_cases s:j=i
    ·subst s;rw[bi,e,ar]
    ·exact bg j s
   have v0:=be.v0 i Q;have bl:=be.l2 i Q;have hrow:=g2.row i Q;rw[ar] at hrow;have E:ay (_/\_/\_/\_):=⟨Q,bg,bi,ar⟩
   have bn:=g2.lb i Q;have b7:=g2.no;have R:ay (_):=g2;dsimp only [fW] at hv;subst hv;clear O g fr b3 L an b4 b5 cm ao Q be bb bg bi ar aB g2 bd b2;by_cases I:(T.getD i t0).1=3\/(T.getD i t0).1=4
   ·have l2:=bl I;obtain⟨b,cap,J⟩:=eU hrow V;have S:=lt_of_some (e5 hrow b (by rw[J];rfl)).choose_spec;obtain⟨cz,b8⟩:=e5 hrow b (by rw[J];rfl)
    have b9:∀o,l.frozen? (aq b o)=false:=fun o=>by simp[World.frozen?,b8]
    obtain⟨cB,cC,ca,_,bo⟩:=g7 hrow V;have cb:_=_:=(Value.slice.inj J).1;rw[cb] at ca;cases ca;obtain⟨z0,bp⟩:=bo 0 V;obtain⟨br,y1⟩:=bo 1 V;rw[Nat.zero_mul,Nat.add_zero] at z0 bp;rw[Nat.zero_add,Nat.one_mul] at br y1;rw[l2] at J;have cc:ay (eD T fm i=.slice (ak b) (T.getD i t0).2.1.length cap):=by show _=_;rw[l2];exact J
    have bs:10<=lab b:=by rw[bn b (by rw[J];rfl)];omega
    have oj:_:=ap b V;have cD:b≠l.heap.size:=V;have cE:l.heap.size≠b:=V;have cF:ay (_/\_):=⟨bs,S⟩
    have cd:ay ((T.getD i t0).2.1=[(T.getD i t0).2.1.getD 0 (0,0),(T.getD i t0).2.1.getD 1 (0,0)]):=by
     show _=_
     match hq:(T.getD i t0).2.1,l2 with
     |[p,q],_=>rfl
    have ce:ay (dH A ((T.getD i t0).2.1.getD 0 (0,0))=true->iS A (T.getD i t0)=(T.getD i t0).2.1):=fun e=>by unfold iS;rw[aG (fun d=>by rw[e] at d;cases d.2),aG (fun d=>by rw[e] at d;cases d.2)]
    have u:ay ((T.getD i t0).1=3->dH A ((T.getD i t0).2.1.getD 0 (0,0))=false->iS A (T.getD i t0)=(T.getD i t0).2.1.set 0 (2,0)):=fun B e=>by
     unfold iS;rw[aG (fun d=>by omega),aI ⟨B,e⟩]
     conv=>rhs;rw[cd.out]
     rfl
    have cf:ay ((T.getD i t0).1=4->dH A ((T.getD i t0).2.1.getD 0 (0,0))=false->iS A (T.getD i t0)=((T.getD i t0).2.1.set 0 (2,0)).set 1 (2,0)):=fun bt e=>by
     unfold iS;rw[aI ⟨bt,e⟩]
     conv=>rhs;rw[cd.out]
     rfl
    have aR:ay (∀c,aw l c->gf ((c.setCell ⟨b,0*2,none⟩ (.int .i64 2)).setCell ⟨b,0*2+1,none⟩ (.int .i64 0)) ab w.heap.size n1 (eS T fm A) (fun y=>left y&&!(y==(i:Int))) F/\gY T fm A lab cp ab n1 (fun k=>if k=i then(fY A T left i).set 0 (2,0) else fY A T left k) ((c.setCell ⟨b,0*2,none⟩ (.int .i64 2)).setCell ⟨b,0*2+1,none⟩ (.int .i64 0))/\Fr (fun b=>10<=lab b) w ((c.setCell ⟨b,0*2,none⟩ (.int .i64 2)).setCell ⟨b,0*2+1,none⟩ (.int .i64 0))/\Fr (fun k=>k=b) c ((c.setCell ⟨b,0*2,none⟩ (.int .i64 2)).setCell ⟨b,0*2+1,none⟩ (.int .i64 0))):=fun c hb=>by
     obtain⟨r,m,f⟩:=ai.out c hb;obtain⟨bx,fb⟩:=m.put E.out.1 cc.out 0 (2,0)
     exact⟨r.same (fb.block _ r.nl.lt (fun d=>by have h0:=b7.2;rw[d] at h0;omega)) (fb.block _ r.lt (fun d=>by omega)),bx,f.trans fb (fun k e=>aK (by rw[e];exact bs)),fb⟩
    have bY:ay (∀c,aw l c->∀al,al=(((c.setCell ⟨b,0*2,none⟩ (.int .i64 2)).setCell ⟨b,0*2+1,none⟩ (.int .i64 0)).setCell ⟨b,1*2,none⟩ (.int .i64 2)).setCell ⟨b,1*2+1,none⟩ (.int .i64 0)->gf al ab w.heap.size n1 (eS T fm A) (fun y=>left y&&!(y==(i:Int))) F/\gY T fm A lab cp ab n1 (fun k=>if k=i then((fY A T left i).set 0 (2,0)).set 1 (2,0) else fY A T left k) al/\Fr (fun b=>10<=lab b) w al):=fun c hb al co=>by
     obtain⟨r,m,f,_⟩:=aR.out c hb;obtain⟨bx,fb⟩:=m.put E.out.1 cc.out 1 (2,0)
     rw[co];refine⟨r.same (fb.block _ r.nl.lt (fun d=>by have h0:=b7.2;rw[d] at h0;omega)) (fb.block _ r.lt (fun d=>by omega)),bx.congr (fun j=>?_),f.trans fb (fun k e=>aK (by rw[e];exact bs))⟩
     by_cases s:j=i
     ·rw[aI s,aI s,aI rfl]
     ·rw[aG s,aG s,aG s]
    have am:=au l (.cells #[.int .i64 (T.getD i t0).1,.slice (some ⟨b,0,none⟩) 2 cap] 220)
    have cg:=aN l (.cells #[.int .i64 (T.getD i t0).1,.slice (some ⟨b,0,none⟩) 2 cap] 220)
    have P:=Aa (cp:=cp) ((am.cell (p:=aq cp 1) (aQ l _ R.out.c1)).trans R.out.c1) (R.out.hM.same (am.block ab R.out.hM.lt)) ((T.getD i t0).2.1.getD 0 (0,0)) (fun ch=>⟨(v0 ch).1,by have:=(v0 ch).2;omega⟩)
    have bZ:∀c,aw l c->_/\_/\_/\_/\∀o,c.frozen? (aq b o)=false:=fun c hb=>⟨(hb.cell (p:=aq b 0) S).trans z0,(hb.cell (p:=aq b 1) S).trans bp,(hb.cell (p:=aq b 2) S).trans br,(hb.cell (p:=aq b (2+1)) S).trans y1,fun o=>(hb.frozen (p:=aq b o) S).trans (b9 o)⟩
    have aV:ay (_):=bZ;obtain⟨U,W,_,_,_⟩:=bZ _ am;have ev:(Value.agg #[ah (T.getD i t0).1,eD T fm i])=.agg #[ah (T.getD i t0).1,.slice (ak b) 2 cap]:=by rw[J]
    rw[ev] at G ag;have D:ay (_):=am;have K:ay (_=_):=cg;clear hrow bn bl v0 b8 b9 bo z0 bp br y1 cb J bZ am cg R ev l2;generalize (T.getD i t0).2.1.getD 0 (0,0)=cq at*;generalize (T.getD i t0).2.1.getD 1 (0,0)=t at*;obtain⟨u0,cr⟩:=cq;dsimp only at U W P;cases hin:dH A (u0,cr)
    ·rw[hin] at P;have a0:ay ((T.getD i t0).1=3->∀j,fY A T (fun y=>left y&&!(y==(i:Int))) j=(fun k=>if k=i then(fY A T left i).set 0 (2,0) else fY A T left k) j):=fun B j=>by
      dsimp only;by_cases s:j=i
      ·subst s;rw[aI rfl,E.out.2.2.1,u.out B hin,E.out.2.2.2]
      ·rw[aG s];exact E.out.2.1 j s
     have a1:ay ((T.getD i t0).1=4->∀j,fY A T (fun y=>left y&&!(y==(i:Int))) j=(fun k=>if k=i then((fY A T left i).set 0 (2,0)).set 1 (2,0) else fY A T left k) j):=fun bt j=>by
      dsimp only;by_cases s:j=i
      ·subst s;rw[aI rfl,E.out.2.2.1,cf.out bt hin,E.out.2.2.2]
      ·rw[aG s];exact E.out.2.1 j s
     clear ai aF E ce u cf hin;rcases I with B|B
     ·have a0:ay (_):=a0.out B;rw[B] at P G ag U W D K;clear a1;go_wp2_with fail;refine P.mono ?_;clear P;rintro e c ⟨rfl,u⟩
      have N:=D.out.trans (u.mono D.out.size)
      obtain⟨j0,cs,j2,cA,cu⟩:=aV.out c N;obtain⟨cv,cw,_,cx⟩:=di ((u.block _ (lt_of_some K.out)).trans K.out)
      have C:ay (_):=aR.out c N;clear u N D K aR bY aV U W;go_wp2_with fail;go_roundw
      case rel=>exact⟨_,F,C.out.1,C.out.2.1.congr a0.out,C.out.2.2.1⟩
      rw[C.out.1.left_eq,H.out.1];exact H.out.2
     ·have a1:ay (_):=a1.out B;rw[B] at P G ag U W D K;clear a0;go_wp2_with fail;refine P.mono ?_;clear P;rintro e c ⟨rfl,u⟩
      have N:=D.out.trans (u.mono D.out.size)
      obtain⟨j0,cs,j2,cA,cu⟩:=aV.out c N;obtain⟨cv,cw,_,cx⟩:=di ((u.block _ (lt_of_some K.out)).trans K.out)
      have C:ay (_):=bY.out c N;clear u N D K aR bY aV U W;go_wp2_with fail;go_roundw
      case rel=>exact⟨_,F,(C.out _ rfl).1,(C.out _ rfl).2.1.congr a1.out,(C.out _ rfl).2.2⟩
      rw[(C.out _ rfl).1.left_eq,H.out.1];exact H.out.2
    ·rw[hin] at P;have a2:=aF.out (ce.out hin)
     have M:ay (∀c,aw l c->gf c ab w.heap.size n1 (eS T fm A) (fun y=>left y&&!(y==(i:Int))) F/\gY T fm A lab cp ab n1 (fY A T (fun y=>left y&&!(y==(i:Int)))) c/\Fr (fun b=>10<=lab b) w c):=by show∀c,_;rw[a2];exact ai.out
     rcases I with B|B
     all_goals
      rw[B] at P G ag U W D;go_wp2_with fail;refine P.mono ?_;rintro e c ⟨rfl,u⟩
      have C:=hide (M.out c (D.out.trans (u.mono D.out.size)))
      go_wp2_with fail;go_roundw;exact⟨_,F,C⟩
      case measure=>rw[C.out.1.left_eq,H.out.1];exact H.out.2
   ·have ci:iS A (T.getD i t0)=(T.getD i t0).2.1:=by unfold iS;rw[aG (fun d=>I (aJ d.1)),aG (fun d=>I (aK d.1))]
    have a2:=aF.out ci;have M:ay (∀c,aw l c->gf c ab w.heap.size n1 (eS T fm A) (fun y=>left y&&!(y==(i:Int))) F/\gY T fm A lab cp ab n1 (fY A T (fun y=>left y&&!(y==(i:Int)))) c/\Fr (fun b=>10<=lab b) w c):=by show∀c,_;rw[a2];exact ai.out
    have cG:_:=fun e=>I (aK e)
    have n4:_:=fun e=>I (aJ e)
    clear ci a2 ai aF E R hrow bn bl v0 I;dsimp only [eD] at G ag;generalize (T.getD i t0).1=kd at*;generalize (T.getD i t0).2.1.length=n at*;generalize (fm i).1=ad at*;generalize (fm i).2=cy at*;go_wp2_with fail;go_roundw
    case rel=>exact⟨_,F,M.out _ (bX.alloc bW _)⟩
    case measure=>rw[(M.out _ ((aH _ l).alloc bW (.cells #[.int .i64 kd,.slice ad n cy] 220))).1.left_eq,H.out.1];exact H.out.2
end
end Go.Proofs.YtpkjkjhanlbcoaaGreat
