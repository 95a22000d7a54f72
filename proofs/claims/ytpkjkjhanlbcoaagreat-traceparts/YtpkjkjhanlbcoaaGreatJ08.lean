import Derived.Test.YtpkjkjhanlbcoaaGreatJ07
namespace Go.Proofs.YtpkjkjhanlbcoaaGreat
set_option maxRecDepth 100000
set_option maxHeartbeats 2000000
open Tryz
open Go.RowKit W Kp ck
theorem ts {P:Prop}(h:P:=by
 have P0:∀w,Calls prog 119 #[ak R] w fun e w'=>e=.returned (.bool false)/\w'=w:=fun w=>by have h:=j7 R w;rw[hR] at h;exact h
 have hb0:=aw w (.cells #[.int .i64 k,.int .i64 R,.int .i64 A,.int .i64 B,.int .i64 I,.int .i64 n] 44)
 clear hu;go_enter func55,ntmps55;go_wp2_with fail;refine(U _).mono ?_;rintro e w1 ⟨rfl,rfl⟩
 go_wp2_with fail;refine(P0 _).mono ?_;rintro e w1 ⟨rfl,rfl⟩
 go_wp2_with fail;go_ret;exact⟨rfl,hb0⟩):P:=h
theorem ym {P:Prop}(h:P:=by
 have P0:∀w,Calls prog 119 #[ak R] w fun e w'=>e=.returned (.bool true)/\w'=w:=fun w=>by have h:=j7 R w;rw[hR] at h;exact h
 have P1:∀w,Calls prog 119 #[ak A] w fun e w'=>e=.returned (.bool false)/\w'=w:=fun w=>by have h:=j7 A w;rw[hA] at h;exact h
 have hb0:=aw w (.cells #[.int .i64 k,.int .i64 R,.int .i64 A,.int .i64 B,.int .i64 I,.int .i64 n] 44)
 clear hu;go_enter func55,ntmps55;go_wp2_with fail;refine(U _).mono ?_;rintro e w1 ⟨rfl,rfl⟩
 go_wp2_with fail;refine(P0 _).mono ?_;rintro e w1 ⟨rfl,rfl⟩
 go_wp2_with fail;refine(P1 _).mono ?_;rintro e w1 ⟨rfl,rfl⟩
 go_wp2_with fail;go_ret;exact⟨rfl,hb0⟩):P:=h
theorem pa {P:Prop}(h:P:=by
 rintro e w1 ⟨rfl,rfl⟩
 go_wp2_with fail;refine(EL k R A B I n _).mono ?_;rintro e w2 ⟨rfl,hb2⟩
 go_wp2_with fail;go_ret;exact⟨rfl,hb0.trans (hb2.mono hb0.size)⟩):P:=h
theorem jr {P:Prop}(h:P:=by have h:=EM k w;rw[hu] at h;exact h):P:=h
theorem qG {P:Prop}(h:P:=by
 rintro e w1 ⟨rfl,rfl⟩
 go_wp2_with fail;go_ret;exact⟨rfl,hb0⟩):P:=h
theorem tt {P:Prop}(h:P:=by rw[hW0];exact hB1.trans ((((Fr.refl (fun k=>k=w.heap.size) w1).set w.heap.size 0 _ rfl).set w.heap.size 1 _ rfl).below (Nat.le_of_lt l1) (fun x e=>by have e:x=w.heap.size:=e;omega))):P:=h
theorem oj {P:Prop}(h:P:=by have h:=j7 A w;rw[hA] at h;exact h):P:=h
theorem tu {P:Prop}(h:P:=by
 go_wp2_with fail;refine P.mono ?_;rintro e w1 ⟨rfl,hb1⟩
 go_wp2_with fail;go_ret;exact⟨rfl,hb1⟩):P:=h
theorem yp {P:Prop}(h:P:=by
 rcases List.mem_or_eq_of_mem_set hy with hy|hy
 ·exact aM ⟨y,hy,hl,o,e⟩
 ·subst hy;have e:a2=some ⟨k,o,none⟩:=e;exact aL (cu hr k (by rw[e];rfl)).1):P:=h
theorem tx {P:Prop}(h:P:=by rw[hW1,aY _ _ _ _ ac];exact a_ _ _ _ y0):P:=h
theorem qH {P:Prop}(h:P:=by have:=(List.getElem?_eq_some_iff.1 hj).1;simpa using this):P:=h
theorem yq {P:Prop}(h:P:=by
 refine cL h4 (fun k e=>aW _ _ _ _ (fun c=>?_))
 obtain⟨cur,h8⟩:=fp h4 k e;rw[c,hk4] at h8;simp at h8):P:=h
theorem ys {P:Prop}(h:P:=by rw[hW1];exact a_ _ _ _ ((aY w1 ⟨fb,0,none⟩ ⟨fb,1,none⟩ _ ac).trans y1)):P:=h
theorem yt {P:Prop}(h:P:=by
 have:=hi;rw[<-h.nd,ij,List.getElem?_map] at this
 obtain⟨x,hx,e⟩:=Option.map_eq_some_iff.1 this
 exact⟨x,hx,e⟩):P:=h
theorem EN:(prog.info? 107).map (fun i=>(i.zero,i.size,i.bytes))=some (some (.agg #[ak 0,.slice none 0 0]),2,32):=ah
section
variable {w0 w w':az}{kb ct pw:Nat}{T:List Int}{s:cW}{vn:Value}{m:List dY}
theorem Wk.turned (h:Wk w0 w kb ct pw T s vn m)(f:Fr (fun k=>k=ct) w w'):Kf w0.heap.size w w'/\w'.heap[kb]?=some (.cells #[aq pw,.map (some ct),vn] 129 (0,0))/\w'.ownsRow w0.heap.size 107 2 vn m.length (nv m)/\(∀x∈m,fC w' x.2.1 x.2.2.2)/\Below w0.heap.size w0 w':=by
 obtain⟨D,o1,_⟩:=h.mp;obtain⟨g,i,hb,_⟩:=o1;have hk:Kf w0.heap.size w w':=⟨f.os,f.tape,f.output,f.size,fun k hk hl=>f.block k hk (fun e=>by have e:=e;have:=h.lo.2;omega),fun k j e mm hk _ _=>f.block k (lt_of_some hk) (fun c=>by have c:=c;rw[c,hb] at hk;simp at hk)⟩
 refine⟨hk,(f.block kb (lt_of_some h.blk) (fun c=>?_)).trans h.blk,cL h.row (fun k e=>f.block k (cu h.row k e).2 (fun c=>?_)),fun x d=>(h.fl x d).kf hk,h.eP.trans (hk.below h.eP.size)⟩
 ·have c:=c;have:=h.blk;rw[c,hb] at this
  simp at this
 ·obtain⟨l,b⟩:=fp h.row k e;rw[c,hb] at b;simp at b
end
theorem Wk.grown {w0 w p f:az}{d ct pw:Nat}{T:List Int}{ms:List Int}{q:List _}{l i:Value}{m:List dY}{kd:Int}
 (hk:w.heap[d]?=some (.cells #[aq pw,.map (some ct),l] 129 (0,0)))(lo:w0.heap.size<=d/\w0.heap.size<=ct)(hm:Nm w ct T ms)(hr:w.ownsRow w0.heap.size 107 2 l m.length (nv m))(s:ij m=q)(t:∀x∈m,fC w x.2.1 x.2.2.2)(hb:Below w0.heap.size w0 w)
 (g:Below w.heap.size w p)(h4:f.ownsRow w0.heap.size 107 2 i (m.length+1) (nv m++[ak kd,.slice none 0 0]))(g4:p.grownBy f l.ownBlock):
 Wk w0 (f.setCell ⟨d,2,none⟩ i) d ct pw T (ms,q++[(kd,[])]) i (m++[(kd,none,0,[])])/\fM w0 w m (f.setCell ⟨d,2,none⟩ i) (m++[(kd,none,0,[])])/\f.heap[d]?=some (.cells #[aq pw,.map (some ct),l] 129 (0,0)):=by
 have u:=hm;obtain⟨D,o1,_⟩:=hm;obtain⟨N,S,j,_⟩:=o1;have v:=(Kf.of g).trans (Kf.grown g4 (fun k e=>⟨(cu hr k e.symm).1,fun W ty mm hc=>by obtain⟨cur,h8⟩:=fp hr k e.symm;have:=(g.block k (lt_of_some h8)).trans h8;rw[this] at hc;simp at hc;exact aL hc.2.1.symm⟩))
 have hk4:=(g4.block d (aO (lt_of_some hk) g.size) (fun e=>by obtain⟨cur,h8⟩:=fp hr d e;rw[hk] at h8;simp at h8)).trans ((g.block d (lt_of_some hk)).trans hk)
 have n:Kf w0.heap.size w (f.setCell ⟨d,2,none⟩ i):=v.trans (Kf.set hk4 (aM rfl) lo.1)
 have B:ct≠d:=fun e=>by rw[e,hk] at j;simp at j
 have F:(nv (m++[(kd,none,0,[])]:List dY))=nv m++[ak kd,.slice none 0 0]:=by rw[wA];rfl
 refine⟨⟨?_,lo,?_,?_,?_,fun x b=>?_,hb.trans (n.below hb.size)⟩,⟨n,fun k hk=>?_⟩,hk4⟩
 ·simp only [World.setCell,Array.getElem?_modify,if_true,hk4,Option.map_some];rfl
 ·refine u.same ((aW _ _ _ _ B).trans ((g4.block ct (aO (lt_of_some j) g.size) (fun e=>?_)).trans (g.block ct (lt_of_some j))))
  obtain⟨cur,h8⟩:=fp hr ct e;rw[j] at h8;simp at h8
 ·rw[F,a7];exact yq
 ·simp[ij] at s⊢;exact s
 ·rcases List.mem_append.1 b with b|b
  ·exact(t x b).kf n
  ·simp at b;subst b;exact fC.nil
 ·obtain⟨x,b,hl,o,e⟩:=hk;rcases List.mem_append.1 b with b|b
  ·exact aM ⟨x,b,hl,o,e⟩
  ·simp at b;subst b;simp at hl
theorem Wk.filled {w0 w:az}{j ct pw g cap len:Nat}{T:List Int}{s:cW}{m:List dY}(h:Wk w0 w j ct pw T s (.slice (au g) len cap) m){i:Nat}{k0:Int}{v0:List _}(hi:s.2[i]?=some (k0,v0)){base c2:Nat}{a2:Option Addr}{b:List _}
 (hr:w.ownsRow base 97 2 (.slice a2 b.length c2) b.length (ev b)):
 Wk w0 (w.setCell ⟨g,i*2+1,none⟩ (.slice a2 b.length c2)) j ct pw T (s.1,s.2.set i (k0,b)) (.slice (au g) len cap) (m.set i (k0,a2,c2,b))/\Kf w0.heap.size w (w.setCell ⟨g,i*2+1,none⟩ (.slice a2 b.length c2))/\(∀k,fD (m.set i (k0,a2,c2,b)) k->fD m k\/base<=k):=by
 obtain⟨q,f⟩:=fp h.row g rfl;have d:Kf w0.heap.size w (w.setCell ⟨g,i*2+1,none⟩ (.slice a2 b.length c2)):=Kf.set f (aL rfl) (cu h.row g rfl).1;obtain⟨x,hx,l⟩:∃x:dY,m[i]?=some x/\(x.1,x.2.2.2)=(k0,v0):=by exact yt
 have n:x.1=k0:=congrArg Prod.fst l;have p:len=m.length:=by
  rcases h.row.2 with⟨hv,_⟩|⟨t,u,v,hv,_⟩
  ·simp at hv
  ·simp at hv;exact hv.2.1
 refine⟨⟨(aW _ _ _ _ (fun c=>?_)).trans h.blk,h.lo,h.mp.same (aW _ _ _ _ (fun c=>?_)),?_,?_,fun y hy=>?_,h.eP.trans (d.below h.eP.size)⟩,d,fun k hk=>?_⟩
 ·have c:=c;have:=h.blk;rw[c,f] at this
  simp at this
 ·obtain⟨D,⟨B,F,hb,_⟩,_⟩:=h.mp;rw[c,f] at hb;simp at hb
 ·rw[bf,<-n,sy m i x a2 c2 b hx];have:=h.row;rw[<-p] at this⊢
  exact mU this _ _
 ·rw[ij,List.map_set];show((ij m).set i (k0,b))=_;rw[h.nd]
 ·rcases List.mem_or_eq_of_mem_set hy with hy|hy
  ·exact(h.fl y hy).kf d
  ·subst hy;exact(fC.of hr).kf d
 ·obtain⟨y,hy,hl,o,e⟩:=hk;exact yp
section
variable {w0:az}{kb ct pw p q N O y g:Nat}{ws:List Int}{sd:Nat}{v0:Value}{a1:Option Addr}{k1:Nat}{Q:List ce}{T:List Int}
theorem EO (hq:m8 w0 pw p q N O y g ws sd v0 a1 k1 Q)(a3:∀a∈T,0<=a/\a<2000)(cK:T.length<=100000)(n:Nat)(M:cW->Int->cW)(hM:og w0 kb ct pw T M n)(al:lv T (fun a=>pk (ld N y g ws a)) (e9 N y g ws Q) n M):
 og w0 kb ct pw T (fun s a=>((dC M T (s.1++[a],s.2++[(pk (ld N y g ws a),[])]) (e9 N y g ws Q a)).2.1,(dC M T (s.1++[a],s.2++[(pk (ld N y g ws a),[])]) (e9 N y g ws Q a)).2.2.set s.1.length (pk (ld N y g ws a),(dC M T (s.1++[a],s.2++[(pk (ld N y g ws a),[])]) (e9 N y g ws Q a)).1))) (n+1):=by
 intro w s cM m a h ho ha hn hl;obtain⟨ch,hi,ci,cj,ck⟩:=info_parts EN;have cN:=ho.lt ha hn;have cl:=a3 a ha;have cm:m.length=s.1.length:=by rw[h.len,ho.len]
 have am:=ho.more ha hn (pk (ld N y g ws a),[])
 have an:=nU M T (s.1++[a],s.2++[(pk (ld N y g ws a),[])]) (e9 N y g ws Q a)
 have G:=p9 al am (by simp;omega) (e9 N y g ws Q a)
 have cn:=DX N y g ws Q a;have co:=hq.hm;have ba:(dC M T (s.1++[a],s.2++[(pk (ld N y g ws a),[])]) (e9 N y g ws Q a)).2.2[s.1.length]?=some (pk (ld N y g ws a),[]):=by rw[G.old s.1.length ac,List.getElem?_append_right (by rw[ho.len];exact aG _),ho.len];simp
 have cO:s.1.length<(dC M T (s.1++[a],s.2++[(pk (ld N y g ws a),[])]) (e9 N y g ws Q a)).2.1.length:=by
  have:=G.le;simp at this
  omega
 have cp:=G.ok.len;have bb:aA (∀(o:az)(bd:Value)(be:List dY)(ad:Option Addr)(cap:Nat),Wk w0 o kb ct pw T (s.1++[a],s.2++[(pk (ld N y g ws a),[])]) bd be->Lq o ad (e9 N y g ws Q a)->
  _):=
  fun o bd be ad cap cq cr=>yl hM al cq am (by simp;omega) _ ad cap cr aa
 have bg:aA (∀w1,Below w0.heap.size w0 w1->_):=fun w1 hb=>gy a w1 (hq.low hb).ar;have bi:aA (∀w1,Below w0.heap.size w0 w1->w1.cell? (av kb 0)=some (aq pw)->_):=
  fun w1 hb hc=>DY (hq.low hb) kb hc a cl.1 aa
 have cP:=aT w0 _ hq.c0;have cs:aA (∀w1,Below w0.heap.size w0 w1->_=_):=fun w1 hb=>(hq.low hb).c0;have bl:=jp (a:=a) aa aa;have bn:=m9 (s.1.length:Int) (WalkArith.wf_i64 ⟨aa,aa⟩)
 clear hM al G am cn co hq a3;dsimp only;generalize cv:dC M T (s.1++[a],s.2++[(pk (ld N y g ws a),[])]) (e9 N y g ws Q a)=R at*;clear cv;generalize e9 N y g ws Q a=cQ at*;obtain⟨cR,cS⟩:=R;dsimp only at*;generalize pk (ld N y g ws a)=kd at*;generalize pf (ld N y g ws a)=f at*;generalize pc (ld N y g ws a)=cc at*;have H:aA (_):=h;obtain⟨ao,dJ,cw⟩:=eN h.row;subst cw;obtain⟨c0,c1,c2,lk⟩:=h.cells;obtain⟨D,o1,bo,bp⟩:=h.mp;have hlo:=h.lo;have br:aA (∀(w1:az)(k:Nat),w1.ownsMap prog 3 (plainElem prog 3) ct k (D.put (.int .i64 a) (.lit (.int .i64 (s.1.length:Int))))->Nm w1 ct T (s.1++[a])):=fun w1 k cx=>Nm.put o1 bo bp ha hn cx;have bs:aA (ij m=s.2):=h.nd;clear h bo bp ho ha hn;generalize s.1.length=L at*;subst cm;go_enter func231,ntmps231;go_wp2_with (at_mapUpdate;refine wpList_mapUpdate_own _ rfl _ _ _ 127 rfl 3 3 iY underlying127 (plainElem (H:=Unit) prog 3) ct T.length D rfl o1 (by unfold maxLen;omega) _ _ _ rfl rfl bl _ [] bn ?_;intro w1 bt bx;(have b0:Fr (fun k=>k=ct) w w1:=(Fr.refl _ _).grown bx (fun k e=>aM (by cases e;rfl)));(have b:aA (_/\_/\_/\_/\_):=H.o.turned b0);(have ap:aA (Nm w1 ct T (s.1++[a])):=br.o w1 _ bt);(have cy:w1.cell? (av kb 0)=some (aq pw):=by simp[World.cell?,b.o.2.1]);(have y1:=cs.o w1 b.o.2.2.2.2);clear bt bx b0 c0 c1 c2 o1 br)
 refine(bg.o w1 b.o.2.2.2.2).mono ?_;clear bg;rintro e S ⟨rfl,d⟩
 have ar:=(d.block kb (lt_of_some b.o.2.1)).trans b.o.2.1;have b1:S.cell? (av kb 2)=some (.slice ao m.length dJ):=aD ar
 have b2:=hide ar;have b3:=hide (ap.o.same (by obtain⟨cT,cz,_⟩:=ap.o;exact d.block ct cz.lt))
 have aB:=cL b.o.2.2.1 (fun k hk=>d.block k (cu b.o.2.2.1 k hk).2)
 have b5:=hide aB;have b6:aA (_):=fun x cA=>(b.o.2.2.2.1 x cA).kf (Kf.of (B:=0) d)
 have B2:=hide (b.o.2.2.2.2.trans (d.mono b.o.2.2.2.2.size))
 have b9:=hide ((show fM w0 w m w1 m from⟨b.o.1,fun k h=>aM h⟩).trans (fM.of d))
 have cU:=B2.o.size;clear b ap ar cy y1 d lk;go_wp2_with (at_builtin;refine wpList_append_own_at _ rfl _ _ 58 rfl w0.heap.size 107 ch (.agg #[ak 0,.slice none 0 0]) 2 32 underlying58 hi ci cj ck rfl ae (.slice ao m.length dJ) m.length (nv m) rfl (f9 aB _) ⟨S.heap.size,0,none⟩ 1 1 [ak kd,.slice none 0 0] rfl rfl ?_ ?_ ?_ ?_ ?_ ?_;(intro j u i;match j,i with|0,i=>(simp at i;subst i;simp[Addr.add])|1,i=>(simp at i;subst i;simp[Addr.add]));(intro u t;simp at t;rcases t with t|t<;>(subst t;rfl));(unfold maxLen;omega);omega;(simp;omega);intro cV aF aR ca _ cB;obtain⟨b4,cC,cD⟩:=eT aR (Nat.succ_pos _);subst cD;(have W:=hide (Wk.grown b2.o hlo b3.o b5.o bs.o b6.o B2.o (aw S _) aR ca));(have u0:aF.cell? (av kb 2)=some (.slice ao m.length dJ):=by simp[World.cell?,W.o.2.2]);(have cE:aF.frozen? (av kb 2)=false:=by simp[World.frozen?,W.o.2.2]);clear aR ca cB b1 aB b2 b3 b5 bs b6 B2)
 obtain⟨cb,cd,_⟩:=W.o;have ab:=hide (b9.o.trans cd)
 have v:=hide cb;clear W cb cd u0 cE b9;generalize aF.setCell ⟨kb,2,none⟩ (.slice (some ⟨b4,0,none⟩) (m.length+1) cC)=o at ab v⊢;refine(bi.o o v.o.eP v.o.cells.1).mono ?_;clear bi;rintro e cF ⟨ad,cap,rfl,ce,ag⟩
 go_wp2_with fail;refine(bb.o cF _ _ ad cap (v.o.below ag) (Lq.of ce)).mono ?_;clear bb;rintro e cX ⟨cY,F,a2,cZ,rfl,aV,l,cf,cG⟩
 have c3:=l.len.trans cp;obtain⟨c4,c5,cH⟩:=eT l.row aa;subst cH;have b1:=l.cells.2.2.1;have cI:m.length<F.length:=aa;obtain⟨a0,c6⟩:=jR l.row ((oW F m.length _ (aN cI)).2)
 rw[<-an] at aV;have ai:=hide (l.filled ba aV)
 have cg:=hide ((ab.o.trans (fM.of ag)).trans cf)
 have cJ:=((ab.o.trans (fM.of ag)).1).size;generalize (F[m.length]).2.1=q1 at a0;generalize (F[m.length]).2.2.2.length=c7 at a0;generalize (F[m.length]).2.2.1=q3 at a0;rw[an] at ai;clear ce ag aV l cf cG ab v ba an bn bl;go_wp2_with fail;go_ret;exact⟨_,_,rfl,ai.o.1,cg.o.1.trans ai.o.2.1,fun k hk=>(ai.o.2.2 k hk).elim (cg.o.2 k) (fun c=>aL (aU cJ c))⟩
theorem yu (hq:m8 w0 pw p q N O y g ws sd v0 a1 k1 Q)(b:∀a∈T,0<=a/\a<2000)(c:T.length<=100000):∀n,og w0 kb ct pw T (met T (fun a=>pk (ld N y g ws a)) (e9 N y g ws Q) n) n
 |0=>fun w s d m a _ ho ha hn hl=>by have:=ho.lt ha hn;omega
 |n+1=>EO hq b c n _ (yu hq b c n) (jQ n)
end
section
variable {N y g:Nat}{ws:List Int}{Q:List ce}{l:List Int}
def iJ (N y g:Nat)(ws:List Int)(Q:List ce)(l:List Int):List (Int×Int)×cW:=
 dC (met (eC N y g ws++dH N y g ws) (fun a=>pk (ld N y g ws a)) (e9 N y g ws Q) (eC N y g ws++dH N y g ws).length) (eC N y g ws++dH N y g ws) ([],[]) l
end
open Go.RowKit W
theorem EP {P:Program}{o:Oper}{a:Act}{w:az}{K:Act->az->Prop}{Q:Exit->Act->az->Prop}(n:o.guard=none)(e s:Operand)(f p i:TypeId)
 (ho:o.op=.call {callee:=.builtin .copy,args:=#[e,s],argTypes:=#[f,p]})(x:P.underlying f=some (.slice i))(B:(P.info? i).map (·.size)=some 1)
 (k sp:Option Addr)(l q m u:Nat)(hd:a.eval e=.slice k l q)(hs:a.eval s=.slice sp m u)
 (g c:Nat)(d:List Value)(t:TypeId)(hg:w.heap[g]?=some (.cells d.toArray t (0,0)))(b:List Value)(hn:b.length=Nat.min m l)
 (F:0<b.length->k=some ⟨g,c,none⟩/\∃ad,sp=some ad/\∀j v,b[j]?=some v->w.cell? (ad.add j)=some v)
 (N:c+b.length<=d.length)(S:∀v∈b,v.oneCell'=true)
 (h:∀w',ly w w' g d c b->K (a.put o.dst (goInt b.length)) w'):Oper.wp P o a w K Q:=by
 have:=qe (ops:=#[]) (o:=o) (K:=K) (Q:=Q) (E:=False) n e s f p i ho x B k sp l q m u hd hs g c d t hg b hn F N S h;rwa [aK (show Region.wanted o (yielded #[] a.tmps)=true by simp[Region.wanted,n])] at this
theorem tz {P:Program}{ops:Array Oper}{n:List Oper}{o:Oper}{a:Act}{w:az}{Q:Exit->Act->az->Prop}(p:o.guard=none)(e s:Operand)(f q i:TypeId)
 (ho:o.op=.call {callee:=.builtin .copy,args:=#[e,s],argTypes:=#[f,q]})(B:P.underlying f=some (.slice i))(F:(P.info? i).map (·.size)=some 1)
 (k sp:Option Addr)(l u m x:Nat)(hd:a.eval e=.slice k l u)(hs:a.eval s=.slice sp m x)
 (g c:Nat)(d:List Value)(t:TypeId)(hg:w.heap[g]?=some (.cells d.toArray t (0,0)))(b:List Value)(hn:b.length=Nat.min m l)
 (N:0<b.length->k=some ⟨g,c,none⟩/\∃ad,sp=some ad/\∀j v,b[j]?=some v->w.cell? (ad.add j)=some v)
 (S:c+b.length<=d.length)(W:∀v∈b,v.oneCell'=true)
 (h:∀w',ly w w' g d c b->wpList P ops Q n (a.put o.dst (goInt b.length)) w'):wpList P ops Q (o::n) a w:=
 wpList_plain p fun _ ab=>EP p e s f q i ho B F k sp l u m x hd hs g c d t hg b hn N S W (fun w' hw=>ab _ _ (h w' hw))
theorem EQ (w:az):Calls prog 223 #[.int .u64 1,.int .u64 12] w fun e w'=>e=.returned (.tuple #[.int .u64 0,.int .u64 12])/\w'=w:=by go_wp2;go_ret2;exact⟨rfl,rfl⟩
theorem ER (w:az):Calls prog 167 #[.int .u64 1,.int .u64 12] w fun e w'=>e=.returned (.tuple #[.int .u64 0,.int .u64 12])/\w'=w:=by
 go_enter func167,ntmps167;go_wp2_with fail;refine(EQ w).mono ?_;rintro e w1 ⟨rfl,hw⟩
 have hw:=hw.symm;subst hw;go_wp2;go_ret2;exact⟨rfl,rfl⟩
def tw (v:Int)(n:Nat):List Int:=List.replicate n v++List.replicate (12-n) 0
theorem tC (v:Int)(n:Nat)(h:n<=12):(tw v n).length=12:=by simp[tw];omega
theorem ES (v:Int)(n m:Nat)(h:n+m<=12):splice (tw v n) n (List.replicate m v)=tw v (n+m):=by unfold splice tw;rw[List.take_left' ac,List.length_replicate,List.drop_append,List.length_replicate];simp only [List.drop_replicate];rw[show n-(n+m)=0 by omega,show 12-n-(n+m-n)=12-(n+m) by omega];simp;rw[<-bw,List.replicate_append_replicate]
theorem ET (v:Int)(n i:Nat)(h:i<n):(tw v n).getD i 0=v:=by unfold tw;rw[aJ,List.getElem?_append_left (by simpa using h)];simp[h]
theorem one_cell {w:az}{b:Nat}{v:Int}(hc:w.cell? (av b 0)=some (ak v)):∀j u,((List.replicate 1 v).map (Value.int .i64))[j]?=some u->w.cell? ((⟨b,0,none⟩:Addr).add j)=some u:=by
 intro j u hj;have c:j=0:=by exact qH
 subst c;rw[<-hj];simpa[Addr.add] using hc
theorem EU {w:az}{nb n:Nat}{v:Int}(hr:w.heap[nb]?=some (.cells ((tw v n).map (Value.int .i64)).toArray 2 (0,0)))(hn:n<=12)(m:Nat)(hm:m<=n):∀j u,((List.replicate m v).map (Value.int .i64))[j]?=some u->w.cell? ((⟨nb,0,none⟩:Addr).add j)=some u:=by
 intro j u hj;have b:j<m:=by exact qH
 have c:u=ak v:=by simp[b] at hj;exact hj.symm
 have hl:=tC v n hn;have hg:=ET v n j aa;rw[aJ,aN (by omega:j<(tw v n).length)] at hg;have ea:(⟨nb,0,none⟩:Addr).add j=⟨nb,j,none⟩:=by simp[Addr.add];intro h;exact h.symm
 rw[ea,c];have d:j<(tw v n).length:=aa;simp[World.cell?,hr,List.getElem?_eq_getElem d];exact hg
theorem yx {w w':az}{nb n m B:Nat}{v:Int}(b:ly w w' nb ((tw v n).map (Value.int .i64)) n ((List.replicate m v).map (Value.int .i64)))(hr:w.heap[nb]?=some (.cells ((tw v n).map (Value.int .i64)).toArray 2 (0,0)))(hm:0<m)(h:n+m<=12)(hB:B<=nb):w'.heap[nb]?=some (.cells ((tw v (n+m)).map (Value.int .i64)).toArray 2 (0,0))/\Below B w w':=by
 rcases b with⟨h0,_⟩|rfl
 ·have:=congrArg List.length h0;simp at this
  omega
 ·rw[sC,ES v n m h];exact⟨setRow_heap w nb _ _ _ _ hr,⟨rfl,rfl,rfl,by simp[World.setRow],fun k hk=>setRow_other w nb k _ aa⟩⟩
theorem EV (w:az)(b:Nat)(v:Int)(hc:w.cell? (av b 0)=some (ak v)):
 Calls prog 88 #[.slice (au b) 1 1,ak 12] w fun e w'=>∃nb,e=.returned (.slice (au nb) 12 12)/\w.heap.size<=nb/\w'.heap[nb]?=some (.cells ((tw v 12).map (Value.int .i64)).toArray 2 (0,0))/\Below w.heap.size w w':=by
 obtain⟨l,hi,F,N,S⟩:=info_parts wD;have lb:=aT w _ hc;go_enter func88,ntmps88;go_wp2_with fail;refine(ER w).mono ?_;rintro e w0 ⟨rfl,hw⟩
 have hw:=hw.symm;subst hw
 go_upto_region 7 with(at_make;refine wpList_make_full _ rfl _ _ 53 rfl w.heap.size 2 l (ak 0) 1 underlying53 hi F N .i64 .i64 _ _ 12 rfl rfl aa aa (by rw[S];omega) (by unfold maxLen;omega) b7 ?_;intro w1 W ab)
 have hr:w1.heap[w.heap.size]?=some (.cells ((tw v 0).map (Value.int .i64)).toArray 2 (0,0)):=by simpa[tw] using(wE W)
 have f:=(aH _ w).grown ab b7 (fun _ h=>by cases h)
 have o:=hide (one_cell ((f.cell (p:=av b 0) lb).trans hc))
 have g:=hide hr;have c:aA (((List.replicate 1 v).map (Value.int .i64)).length=Nat.min 1 12):=rfl;have d:aA (0+((List.replicate 1 v).map (Value.int .i64)).length<=((tw v 0).map (Value.int .i64)).length):=by show _<=_;rw[aZ,aZ,tC v 0 aa];simp
 go_wp2_with (refine tz rfl _ _ 53 53 2 rfl underlying53 sB (au w.heap.size) (au b) 12 12 1 1 rfl rfl w.heap.size 0 ((tw v 0).map (Value.int .i64)) 2 g.o ((List.replicate 1 v).map (Value.int .i64)) c.o (fun _=>⟨rfl,_,rfl,o.o⟩) d.o (oZ _) ?_;intro ap q)
 obtain⟨s,t⟩:=yx (B:=w.heap.size) q g.o aa aa b7
 have u:=f.trans t;clear q o g c d f t
 go_loopw [8] (fun nv wr=>∃n:Nat,1<=n/\n<=12/\nv=ak n/\aA (wr.heap[w.heap.size]?=some (.cells ((tw v n).map (Value.int .i64)).toArray 2 (0,0)))/\Below w.heap.size w wr) (fun nv _=>12-(intOf nv).toNat)
 exact⟨1,aG _,aa,rfl,s,u⟩
 ·
   clear s u;obtain⟨n,n1,x,rfl,i,hb⟩:=hrel;by_cases ar:n<12
   ·obtain⟨m,hm,ad,j,ag⟩:∃m,m=Nat.min n (12-n)/\0<m/\n+m<=12/\m<=n:=⟨_,rfl,by simp only [Nat.min_def];split<;>omega,by simp only [Nat.min_def];split<;>omega,by simp only [Nat.min_def];split<;>omega⟩
    have k:=hide i.o;have c:aA (((List.replicate m v).map (Value.int .i64)).length=Nat.min n (12-n)):=by show _=_;rw[<-hm];simp
    have d:aA (n+((List.replicate m v).map (Value.int .i64)).length<=((tw v n).map (Value.int .i64)).length):=by show _<=_;rw[aZ,aZ,tC v n x];simpa using j
    have aB:¬12=n:=aa;have l:(0:Int)<=(n:Int):=aa;have aF:(n:Int)<=12:=aa;have aR:(n:Int)<12:=aa;clear i;go_wp2_with fail
    go_region_law (refine qe rfl (.tmp 41) (.tmp 44) 53 53 2 rfl underlying53 sB (some ⟨w.heap.size,n,none⟩) (au w.heap.size) (12-n) (12-n) n 12 ?_ ?_ w.heap.size n ((tw v n).map (Value.int .i64)) 2 k.o ((List.replicate m v).map (Value.int .i64)) c.o (fun _=>⟨rfl,_,rfl,(hide (EU k.o x m ag)).o⟩) d.o (oZ _) ?_;(simp[Act.eval,Act.put]);(simp[Act.eval,Act.put]);intro aV ai)
    obtain⟨al,am⟩:=yx (B:=w.heap.size) ai k.o ad j b7
    have an:=hide al;have ao:=hb.drew.trans am;have hw:IntKind.i64.wrap ((n:Int)+(m:Int))=((n+m:Nat):Int):=by rw[bu];omega
    simp[Act.put,go_sem,Exit.inBlock];rw[<-hm,hw];refine⟨⟨_,_,_,_,_,_,_,_,_,_,_,_,_,_,?rel,rfl⟩,?measure⟩
    exact⟨n+m,aa,j,rfl,an,ao⟩
    simp[intOf];omega
   ·obtain rfl:n=12:=aa;go_wp2_with fail;go_ret;exact⟨w.heap.size,rfl,aG _,i.o,hb⟩
theorem yy (n o:Nat)(w:az)(h0:16<=n)(bx:n<=256)(b0:o<=1024):
 Calls prog 38 #[ak n,ak o] w fun e w'=>∃pw p q pc cT s nb,e=.returned (.tuple #[aq pw,.agg #[ak 0,ak 0]])/\ik w' pw p q pc cT n o 0 0 (List.replicate (n+o) 0) (dJ o) [] (aq s) (.slice (au nb) 12 12)/\w'.heap[s]?=some (.cells #[.slice none 0 0,.slice none 0 0] 153 (0,0))/\w'.heap[nb]?=some (.cells ((tw 2 12).map (Value.int .i64)).toArray 2 (0,0))/\
  (w.heap.size<=pw/\w.heap.size<=p/\w.heap.size<=q/\w.heap.size<=pc/\w.heap.size<=cT/\w.heap.size<=s/\w.heap.size<=nb)/\Below w.heap.size w w':=by
 have P:=CM n o (w.alloc (.cells #[.int .i64 0,.int .i64 0] 28)) aa aa aa aa;simp only [Int.toNat_natCast] at P;go_enter func38,ntmps38;go_wp2_with fail;refine P.mono ?_;clear P;rintro e w1 ⟨p,q,rfl,S,hp,hq,m⟩
 have W:=(m.block w.heap.size ac).trans (aP w (.cells #[.int .i64 0,.int .i64 0] 28))
 have aR:=(aw w (.cells #[.int .i64 0,.int .i64 0] 28)).trans (m.mono ac)
 simp at hp hq;have aV:=m.size;simp at aV;have u:=S.alloc (.cells #[.int .i64 0,.int .i64 0] 28)
 have B:=aw w1 (.cells #[.int .i64 0,.int .i64 0] 28)
 clear m;go_wp2_with fail;refine(mX _ u).mono ?_;rintro e a0 ⟨rfl,j⟩
 have ab:=u.below j b7
 have a1:=(aR.trans (B.mono aa)).trans (j.mono (by simp;omega))
 have a2:=j.size;simp at a2;have ad:=((j.block w.heap.size (by simp;omega)).trans (B.block w.heap.size aa)).trans W;clear S u j B W;go_wp2_with fail;refine(Dq n o a0 aa).mono ?_;rintro e d ⟨pc,cT,rfl,ag,b1,b2,l⟩
 have ai:=ab.below l b7
 have a3:=a1.trans (l.mono aa)
 have b3:=l.size;have al:=(l.block w.heap.size aa).trans ad;clear ab l ad;go_wp2_with fail;have i:=aw d (.cells #[.slice none 0 0,.slice none 0 0] 153)
 have F:=aP d (.cells #[.slice none 0 0,.slice none 0 0] 153)
 refine(sq _).mono ?_;rintro e N ⟨rfl,hw⟩
 have ba:N.heap.size=d.heap.size+1:=by rw[hw];simp
 rw[<-hw] at i F;clear hw;have am:=ai.below i b7
 have an:=ag.below i b7
 have bb:=a3.trans (i.mono aa)
 have ao:=(i.block w.heap.size aa).trans al;clear ai ag al i;go_wp2_with fail;have ap:=aw N (.cells #[.int .i64 2] 2)
 refine(EV _ (d.heap.size+1) 2 (by rw[<-ba];simp)).mono ?_;rintro e c ⟨nb,rfl,ar,hrow,aB⟩
 have f:=ap.trans (aB.mono ac)
 have bd:=am.below f b7
 have be:=an.below f b7
 have bg:=bb.trans (f.mono aa)
 have t:=(f.block w.heap.size aa).trans ao;have bi:=(f.block d.heap.size aa).trans F;have b4:=f.size;have b5:w.heap.size<nb:=by simp at ar;omega
 have b6:=lt_of_some hrow;have y0:c.cell? (av w.heap.size 0)=some (ak 0):=aD t
 have y1:c.cell? (av w.heap.size 1)=some (ak 0):=aD t
 have bl:c.frozen? (av w.heap.size 0)=false:=aE t
 have bn:c.frozen? (av w.heap.size 1)=false:=aE t
 have bo:w.heap.size<c.heap.size:=aa;clear am an ao F aB f ap ar;go_wp2_with fail;obtain⟨b,hW0⟩:∃b,b=(c.setCell ⟨w.heap.size,0,none⟩ (.int .i64 0)).setCell ⟨w.heap.size,1,none⟩ (.int .i64 0):=⟨_,rfl⟩
 rw[<-hW0];have bp:b.heap.size=c.heap.size:=by rw[hW0];simp[World.setCell]
 have k0:∀k,k≠w.heap.size->b.heap[k]?=c.heap[k]?:=fun k hk=>by rw[hW0];exact(aW _ _ _ _ hk).trans (aW _ _ _ _ hk)
 have g0:b.cell? (av w.heap.size 0)=some (ak 0):=by exact lE
 have g1:b.cell? (av w.heap.size 1)=some (ak 0):=by rw[hW0];exact a_ _ _ _ ((aY c ⟨w.heap.size,0,none⟩ ⟨w.heap.size,1,none⟩ _ ac).trans y1)
 have br:Below w.heap.size w b:=by rw[hW0];exact bg.trans ((((Fr.refl (fun k=>k=w.heap.size) c).set w.heap.size 0 _ rfl).set w.heap.size 1 _ rfl).below (Nat.le_of_lt bo) (fun x e=>by have e:x=w.heap.size:=e;omega))
 have aF:=aP b (.cells #[.pointer (some ⟨p,0,none⟩),.pointer (some ⟨pc,0,none⟩),.pointer (some ⟨d.heap.size,0,none⟩),.slice (some ⟨nb,0,none⟩) 12 12] 55)
 rw[bp] at aF;have g:=aw b (.cells #[.pointer (some ⟨p,0,none⟩),.pointer (some ⟨pc,0,none⟩),.pointer (some ⟨d.heap.size,0,none⟩),.slice (some ⟨nb,0,none⟩) 12 12] 55)
 have bs:=(be.same (w':=b) (k0 pc aa) (k0 cT aa)).below g b7
 have bt:=((g.block d.heap.size aa).trans (k0 _ aa)).trans bi;clear y0 y1 bl bn hW0;generalize b.alloc (.cells #[.pointer (some ⟨p,0,none⟩),.pointer (some ⟨pc,0,none⟩),.pointer (some ⟨d.heap.size,0,none⟩),.slice (some ⟨nb,0,none⟩) 12 12] 55)=b9 at*;refine a5 (v:=.tuple #[aq c.heap.size,.agg #[ak 0,ak 0]]) (by simp[results,results38,go_sem,((g.cell (p:=av w.heap.size 0) (by show w.heap.size<_;omega)).trans g0),((g.cell (p:=av w.heap.size 1) (by show w.heap.size<_;omega)).trans g1)]) rfl ⟨c.heap.size,p,q,pc,cT,d.heap.size,nb,rfl,⟨aF,((bd.same (w':=b) (k0 p aa) (k0 q aa)).below g b7),bs⟩,bt,(((g.block nb aa).trans (k0 _ aa)).trans hrow),⟨aa,aa,aa,aa,aa,aa,aa⟩,(br.trans (g.mono aa))⟩
theorem EW (n o:Int)(w:az)(h:n<16\/256<n\/o<0\/1024<o):
 Calls prog 38 #[ak n,ak o] w fun e w'=>e=.returned (.tuple #[.pointer none,.agg #[ak 1,ak (-1)]])/\Below w.heap.size w w':=by
 have g:=aw w (.cells #[.int .i64 0,.int .i64 0] 28)
 have i:=aP w (.cells #[.int .i64 0,.int .i64 0] 28)
 have P:=CN n o (w.alloc (.cells #[.int .i64 0,.int .i64 0] 28)) h;go_enter func38,ntmps38;go_wp2_with fail;refine P.mono ?_;rintro e w1 ⟨rfl,d⟩
 have c:=(d.block w.heap.size ac).trans i;have hB1:=g.trans (d.mono ac)
 have j:=d.size;simp at j;have y0:w1.cell? (av w.heap.size 0)=some (ak 0):=aD c
 have y1:w1.cell? (av w.heap.size 1)=some (ak 0):=aD c
 have q:w1.frozen? (av w.heap.size 0)=false:=aE c
 have s:w1.frozen? (av w.heap.size 1)=false:=aE c
 have l1:w.heap.size<w1.heap.size:=aa;clear d i g c;go_wp2_with fail
 go_region_law (fail)
 all_goals
  obtain⟨b,hW0⟩:∃b,b=(w1.setCell ⟨w.heap.size,0,none⟩ (.int .i64 1)).setCell ⟨w.heap.size,1,none⟩ (.int .i64 (-1)):=⟨_,rfl⟩
  rw[<-hW0];have t:b.heap.size=w1.heap.size:=by rw[hW0];simp[World.setCell]
  have g0:b.cell? (av w.heap.size 0)=some (ak 1):=by exact lE
  have g1:b.cell? (av w.heap.size 1)=some (ak (-1)):=by exact qp
  have l:Below w.heap.size w b:=by exact tt
  have f:=(aw b (.cells #[.int .i64 1,.int .i64 (-1)] 28)).drew;have r0:=(f.cell (p:=av w.heap.size 0) (by show w.heap.size<_;omega)).trans g0;have r1:=(f.cell (p:=av w.heap.size 1) (by show w.heap.size<_;omega)).trans g1;have m:=l.trans (f.mono aa)
  generalize (b.alloc (.cells #[.int .i64 1,.int .i64 (-1)] 28)).drew=u at*;go_wp2_with fail;refine a5 (v:=.tuple #[.pointer none,.agg #[.int .i64 1,.int .i64 (-1)]]) (by simp[results,results38,go_sem,r0,r1]) rfl ⟨rfl,m⟩
structure Wf (w:az)(pw p q pc cT sd nb N O y g:Nat)(ws:List Int)(c:Int)(M rs:List Int):Prop where
 ip:ik w pw p q pc cT N O y g ws c M (aq sd) (.slice (au nb) 12 12)
 EX:w.heap[sd]?=some (.cells #[.slice none 0 0,.slice none 0 0] 153 (0,0))
 rts:w.heap[nb]?=some (.cells (rs.map (Value.int .i64)).toArray 2 (0,0))
 rl:rs.length=12
 nq:nb≠q
section
variable {w:az}{pw p q pc cT sd nb N O y g:Nat}{ws:List Int}{c:Int}{M rs:List Int}
theorem Wf.apart (h:Wf w pw p q pc cT sd nb N O y g ws c M rs):(sd≠p/\sd≠q/\sd≠pc/\sd≠cT)/\(nb≠p/\nb≠q/\nb≠pc/\nb≠cT)/\nb≠pw/\nb≠sd:=by
 obtain⟨D,⟨j,k,hb,_⟩,_⟩:=h.ip.cd.hq;have f:=h.ip.ar.hp;have i:=h.ip.cd.hp;have d:=h.EX;have b:=h.rts;refine⟨⟨fun e=>?_,fun e=>?_,fun e=>?_,fun e=>?_⟩,⟨fun e=>?_,h.nq,fun e=>?_,fun e=>?_⟩,fun e=>?_,fun e=>?_⟩
 ·rw[e,f] at d;simp at d
 ·rw[e,h.ip.ar.hq] at d;simp at d
 ·rw[e,i] at d;simp at d
 ·rw[e,hb] at d;simp at d
 ·rw[e,f] at b;simp at b
 ·rw[e,i] at b;simp at b
 ·rw[e,hb] at b;simp at b
 ·rw[e,h.ip.blk] at b;simp at b
 ·rw[e,d] at b;simp at b
end
def tD:List Int:=fK (List.replicate 24 0) 0 (hw 1 2) 2
def qI:List Int:=gz 16 3 0 tD (ew 3 0) 1 20
def yz:List Int:=(tw 2 12).set 0 (ew 3 0)
theorem b1:eD 16 3 0 tD (ew 3 0) 1=0:=by decide+kernel
theorem b2:stM 16 3 0 tD (ew 3 0) 1 20 (dJ 8) []=[]:=by decide+kernel
theorem b3:eD 16 3 0 qI (ew 3 0) 1=0:=by decide+kernel
theorem b4:ld 16 3 0 qI (cq (ew 3 0)+1+1)=20:=by decide+kernel
theorem b5:(iJ 16 3 0 qI [] yz).1=[(3,0),(0,0),(0,0),(0,0),(0,0),(0,0),(0,0),(0,0),(0,0),(0,0),(0,0),(0,0)]:=by decide+kernel
theorem b6:(iJ 16 3 0 qI [] yz).2.2=[(1,[(0,0),(1,5)])]:=by decide+kernel
theorem EY {w w':az}{pw p q pc cT s nb n o:Nat}(b:ik w' pw p q pc cT n o 0 0 (List.replicate (n+o) 0) (dJ o) [] (aq s) (.slice (au nb) 12 12))(hs:w'.heap[s]?=some (.cells #[.slice none 0 0,.slice none 0 0] 153 (0,0)))(hr:w'.heap[nb]?=some (.cells ((tw 2 12).map (Value.int .i64)).toArray 2 (0,0)))(_:Below w.heap.size w w')(h0:16<=n):
 Wf w' pw p q pc cT s nb n o 0 0 (List.replicate (n+o) 0) (dJ o) [] (tw 2 12):=by
 refine⟨b,hs,hr,ae,fun e=>?_⟩
 have:=b.ar.hq;rw[<-e,hr] at this
 simp only [Option.some.injEq,Obj.cells.injEq,and_true] at this
 have c:=congrArg (fun a:Array Value=>a[0]?) this
 rw[show n+o=(n+o-1)+1 by omega] at c;simp[tw,List.replicate_succ] at c
theorem EZ {w:az}{pw p q pc cT sd nb N O y g:Nat}{ws M rs:List Int}(h:Wf w pw p q pc cT sd nb N O y g ws (dJ O) M rs)(hr:rs.length=12)(k:w.heap[nb]?=some (.cells (rs.map (Value.int .i64)).toArray 2 (0,0)))(hs:w.heap[sd]?=some (.cells #[.slice none 0 0,.slice none 0 0] 153 (0,0))):
 ∃F,(fW ⟨pw,p,q,pc,sd,nb,N,O⟩).J F ⟨⟨y,g,ws,M,rs⟩,[],[]⟩ w/\∀b,F b->b=pw\/b=p\/b=q\/b=pc\/b=cT\/b=sd\/b=nb:=by
 obtain⟨a1,a2,m,n,o,s,t,u⟩:=h.ip.apart;obtain⟨⟨s1,s2,v,s4⟩,⟨n1,x,B,n4⟩,S,W⟩:=h.apart;have s5:sd≠pw:=fun e=>by have l:=h.ip.blk;rw[<-e,hs] at l;simp at l
 have ab:=h.ip.cd.e7;refine⟨fun b=>b=pw\/b=p\/b=q\/b=pc\/b=cT\/b=sd\/b=nb,⟨fun b=>b=pw\/b=p\/b=q\/b=pc\/b=cT\/b=sd\/b=nb,none,0,⟨fun b=>b=pw\/b=p\/b=q\/b=pc\/b=cT\/b=nb,none,0,⟨fun b=>if b=p\/b=q then 1 else if b=pc\/b=cT then 2 else if b=pw then 3 else if b=nb then 4 else 0,cT,?_,fun b=>?_⟩,hs,bc _ _ _ _,fun b c=>?_,aL (aL (aL (aL (aL (aM rfl))))),fun c=>?_,fun b e=>by simp[Value.ownBlock] at e,fun b c=>?_⟩,bc _ _ _ _,fun b e=>by simp[Value.ownBlock] at e,fun b=>?_⟩,fun b c=>c⟩
 ·exact {
   ar:=h.ip.ar,cd:=h.ip.cd,wd:=h.ip.blk,rt:=k,rl:=hr
   a1:=ac
   a2:=ac
   c1:=by simp[Ne.symm o,Ne.symm t]
   c2:=by simp[Ne.symm s,Ne.symm u]
   w1:=by simp[a1,a2,m,n]
   r1:=by simp[n1,x,B,n4,S]
   le:=fun b=>by
    split
    ·decide
    ·split
     ·decide
     ·split
      ·decide
      ·split<;>decide
   lt:=fun b c=>by
    have k1:=h.ip.ar.e5;have ad:=h.ip.ar.e7;have ag:=h.ip.cd.e5;have ai:=lt_of_some h.ip.blk;have k5:=lt_of_some k;by_cases d:b=p\/b=q
    ·rcases d with e|e<;>(rw[e];assumption)
    ·rw[aI d] at c;by_cases f:b=pc\/b=cT
     ·rcases f with e|e<;>(rw[e];assumption)
     ·rw[aI f] at c;by_cases i:b=pw
      ·rw[i];assumption
      ·rw[aI i] at c;by_cases j:b=nb
       ·rw[j];assumption
       ·rw[aI j] at c;exact absurd rfl c}
 ·dsimp only;by_cases d:b=p\/b=q
  ·rw[aK d];rcases d with e|e<;>simp[e]
  ·rw[aI d];by_cases f:b=pc\/b=cT
   ·rw[aK f];rcases f with e|e<;>simp[e]
   ·rw[aI f];by_cases i:b=pw
    ·rw[aK i];simp[i]
    ·rw[aI i];by_cases j:b=nb
     ·rw[aK j];simp[j]
     ·rw[aI j];simp only [not_or] at d f;simp[d,f,i,j]
 ·rcases c with c|c|c|c|c|c
  ·exact aM c
  ·exact aL (aM c)
  ·exact aL (aL (aM c))
  ·exact aL (aL (aL (aM c)))
  ·exact aL (aL (aL (aL (aM c))))
  ·exact aL (aL (aL (aL (aL (aL c)))))
 ·rcases c with c|c|c|c|c|c
  ·exact s5 c
  ·exact s1 c
  ·exact s2 c
  ·exact v c
  ·exact s4 c
  ·exact W c.symm
 ·rcases c with c|c|c|c|c|c|c
  ·rw[c];exact lt_of_some h.ip.blk
  ·rw[c];exact h.ip.ar.e5
  ·rw[c];exact h.ip.ar.e7
  ·rw[c];exact h.ip.cd.e5
  ·rw[c];exact ab
  ·rw[c];exact lt_of_some hs
  ·rw[c];exact lt_of_some k
 ·exact⟨aM,fun c=>c.elim id (fun e=>by simp[Value.ownBlock] at e)⟩
def f6 (n o:Nat):cv×cn:=(⟨⟨0,0,List.replicate (n+o) 0,[],tw 2 12⟩,[],[]⟩,⟨[],List.replicate 12 (0,0),[],[]⟩)
def di (k:Int):Int:=
 if k=1\/k=2\/k=8 then 1 else if k=3\/k=5\/k=10\/k=11\/k=13 then 3 else if k=4\/k=6\/k=7\/k=14 then 7
 else if k=9\/k=12 then 6 else if k=15\/k=16 then 0 else-1
def h9 (k n:Int):Int:=if k=1 then vc 1 n else if k=5 then hc 2 n else 0
def d9 (r:Int):Bool:=decide (0<=r)&&decide (r<12)
def d4 (k R A B n:Int):Int:=
 if di k=-1 then 2 else if(decide (di k=1\/di k=3\/di k=7)&&!d9 R)||(decide (di k=3\/di k=6\/di k=7)&&!d9 A)||(decide (di k=6\/di k=7)&&!d9 B) then 1 else h9 k n
theorem qJ (k:Int):k=1\/k=2\/k=3\/k=4\/k=5\/k=6\/k=7\/k=8\/k=9\/k=10\/k=11\/k=12\/k=13\/k=14\/k=15\/k=16\/(k<1\/16<k):=aa
theorem qK {k:Int}(h:k<1\/16<k):di k=-1:=by unfold di;rw[aI aa,aI aa,aI aa,aI aa,aI aa]
theorem EM (k:Int)(w:az):Calls prog 54 #[ak k] w fun e w'=>e=.returned (ak (di k))/\w'=w:=by
 rcases qJ k with rfl|rfl|rfl|rfl|rfl|rfl|rfl|rfl|rfl|rfl|rfl|rfl|rfl|rfl|rfl|rfl|h
 case' inr.inr.inr.inr.inr.inr.inr.inr.inr.inr.inr.inr.inr.inr.inr.inr=>
  rw[qK h];have b:¬k=1:=aa;have c:¬k=2:=aa;have d:¬k=3:=aa;have f:¬k=4:=aa;have g:¬k=5:=aa;have i:¬k=6:=aa;have j:¬k=7:=aa;have l:¬k=8:=aa;have m:¬k=9:=aa;have n:¬k=10:=aa;have o:¬k=11:=aa;have p:¬k=12:=aa;have q:¬k=13:=aa;have s:¬k=14:=aa;have t:¬k=15:=aa;have u:¬k=16:=aa;clear h
 all_goals
  go_enter func54,ntmps54;go_wp2_with fail;go_ret;exact⟨rfl,rfl⟩
theorem j7 (r:Int)(w:az):Calls prog 119 #[ak r] w fun e w'=>e=.returned (.bool (d9 r))/\w'=w:=by
 by_cases h0:0<=r
 ·by_cases b:r<12
  ·have e:d9 r=true:=by unfold d9;rw[bm h0,bm b];rfl
   rw[e];go_enter func119,ntmps119;go_wp2;go_ret;exact⟨rfl,rfl⟩
  ·have e:d9 r=false:=by unfold d9;rw[bB b,Bool.and_false]
   rw[e];go_enter func119,ntmps119;go_wp2;go_ret;exact⟨rfl,rfl⟩
 ·have e:d9 r=false:=by unfold d9;rw[bB h0,Bool.false_and]
  go_wp2;go_ret;exact⟨rfl,rfl⟩
theorem pd (n:Int)(w:az):Calls prog 122 #[ak n] w fun e w'=>e=.returned (.tuple #[ak (ew 1 n),ak (vc 1 n)])/\Below w.heap.size w w':=by
 go_enter func122,ntmps122;go_wp2_with fail;refine(wj 1 n _).mono ?_;rintro e w1 ⟨rfl,hb⟩
 go_wp2_with fail;go_ret2;exact⟨rfl,hb⟩
theorem EL (k R A B I n:Int)(w:az):Calls prog 120 #[.agg #[ak k,ak R,ak A,ak B,ak I,ak n]] w fun e w'=>e=.returned (ak (h9 k n))/\Below w.heap.size w w':=by
 have hb0:=aw w (.cells #[.int .i64 k,.int .i64 R,.int .i64 A,.int .i64 B,.int .i64 I,.int .i64 n] 44)
 by_cases b:k=1
 ·subst b;have e:h9 1 n=vc 1 n:=by unfold h9;rw[aK rfl]
  rw[e];go_enter func120,ntmps120;go_wp2_with fail;refine(pd n _).mono ?_;rintro e w1 ⟨rfl,hb⟩
  go_wp2_with fail;go_ret;exact⟨rfl,hb0.trans (hb.mono hb0.size)⟩
 ·by_cases c:k=5
  ·subst c;have e:h9 5 n=hc 2 n:=by unfold h9;rw[aI aa,aK rfl]
   rw[e];go_enter func120,ntmps120;go_wp2_with fail;refine(oT 2 n _).mono ?_;exact qG
  ·have e:h9 k n=0:=by unfold h9;rw[aI b,aI c]
   rw[e];go_enter func120,ntmps120;go_wp2_with fail;go_ret;exact⟨rfl,hb0⟩
theorem E0 (k:Int):di k=1\/di k=3\/di k=7\/di k=6\/di k=0\/di k=-1:=by
 unfold di
 repeat' split
 all_goals simp
section
variable {k R A B I n:Int}{w:az}
theorem E5 (hu:di k=1)(hR:d9 R=false):Calls prog 55 #[.agg #[ak k,ak R,ak A,ak B,ak I,ak n]] w fun e w'=>e=.returned (ak (1))/\Below w.heap.size w w':=by
 have U:∀w,Calls prog 54 #[ak k] w fun e w'=>e=.returned (ak (1))/\w'=w:=fun w=>by exact jr
 exact ts
theorem E6 (hu:di k=1)(b:d9 R=true):Calls prog 55 #[.agg #[ak k,ak R,ak A,ak B,ak I,ak n]] w fun e w'=>e=.returned (ak (h9 k n))/\Below w.heap.size w w':=by
 have c:∀w,Calls prog 54 #[ak k] w fun e w'=>e=.returned (ak (1))/\w'=w:=fun w=>by exact jr
 have d:∀w,Calls prog 119 #[ak R] w fun e w'=>e=.returned (.bool true)/\w'=w:=fun w=>by have h:=j7 R w;rw[b] at h;exact h
 have hb0:=aw w (.cells #[.int .i64 k,.int .i64 R,.int .i64 A,.int .i64 B,.int .i64 I,.int .i64 n] 44)
 clear hu;go_enter func55,ntmps55;go_wp2_with fail;refine(c _).mono ?_;rintro e w1 ⟨rfl,rfl⟩
 go_wp2_with fail;refine(d _).mono ?_;exact pa
theorem E7 (hu:di k=3)(hR:d9 R=false):Calls prog 55 #[.agg #[ak k,ak R,ak A,ak B,ak I,ak n]] w fun e w'=>e=.returned (ak (1))/\Below w.heap.size w w':=by
 have U:∀w,Calls prog 54 #[ak k] w fun e w'=>e=.returned (ak (3))/\w'=w:=fun w=>by exact jr
 exact ts
theorem E8 (hu:di k=3)(hR:d9 R=true)(hA:d9 A=false):Calls prog 55 #[.agg #[ak k,ak R,ak A,ak B,ak I,ak n]] w fun e w'=>e=.returned (ak (1))/\Below w.heap.size w w':=by
 have U:∀w,Calls prog 54 #[ak k] w fun e w'=>e=.returned (ak (3))/\w'=w:=fun w=>by exact jr
 exact ym
theorem E9 (hu:di k=3)(b:d9 R=true)(hA:d9 A=true):Calls prog 55 #[.agg #[ak k,ak R,ak A,ak B,ak I,ak n]] w fun e w'=>e=.returned (ak (h9 k n))/\Below w.heap.size w w':=by
 have c:∀w,Calls prog 54 #[ak k] w fun e w'=>e=.returned (ak (3))/\w'=w:=fun w=>by exact jr
 have d:∀w,Calls prog 119 #[ak R] w fun e w'=>e=.returned (.bool true)/\w'=w:=fun w=>by have h:=j7 R w;rw[b] at h;exact h
 have f:∀w,Calls prog 119 #[ak A] w fun e w'=>e=.returned (.bool true)/\w'=w:=fun w=>by exact oj
 have hb0:=aw w (.cells #[.int .i64 k,.int .i64 R,.int .i64 A,.int .i64 B,.int .i64 I,.int .i64 n] 44)
 clear hu;go_enter func55,ntmps55;go_wp2_with fail;refine(c _).mono ?_;rintro e w1 ⟨rfl,rfl⟩
 go_wp2_with fail;refine(d _).mono ?_;rintro e w1 ⟨rfl,rfl⟩
 go_wp2_with fail;refine(f _).mono ?_;exact pa
theorem E_ (hu:di k=7)(hR:d9 R=false):Calls prog 55 #[.agg #[ak k,ak R,ak A,ak B,ak I,ak n]] w fun e w'=>e=.returned (ak (1))/\Below w.heap.size w w':=by
 have U:∀w,Calls prog 54 #[ak k] w fun e w'=>e=.returned (ak (7))/\w'=w:=fun w=>by exact jr
 exact ts
theorem Fa (hu:di k=7)(hR:d9 R=true)(hA:d9 A=false):Calls prog 55 #[.agg #[ak k,ak R,ak A,ak B,ak I,ak n]] w fun e w'=>e=.returned (ak (1))/\Below w.heap.size w w':=by
 have U:∀w,Calls prog 54 #[ak k] w fun e w'=>e=.returned (ak (7))/\w'=w:=fun w=>by exact jr
 exact ym
theorem Fc (hu:di k=7)(b:d9 R=true)(hA:d9 A=true)(hB:d9 B=false):Calls prog 55 #[.agg #[ak k,ak R,ak A,ak B,ak I,ak n]] w fun e w'=>e=.returned (ak (1))/\Below w.heap.size w w':=by
 have c:∀w,Calls prog 54 #[ak k] w fun e w'=>e=.returned (ak (7))/\w'=w:=fun w=>by exact jr
 have d:∀w,Calls prog 119 #[ak R] w fun e w'=>e=.returned (.bool true)/\w'=w:=fun w=>by have h:=j7 R w;rw[b] at h;exact h
 have f:∀w,Calls prog 119 #[ak A] w fun e w'=>e=.returned (.bool true)/\w'=w:=fun w=>by exact oj
 have g:∀w,Calls prog 119 #[ak B] w fun e w'=>e=.returned (.bool false)/\w'=w:=fun w=>by have h:=j7 B w;rw[hB] at h;exact h
 have hb0:=aw w (.cells #[.int .i64 k,.int .i64 R,.int .i64 A,.int .i64 B,.int .i64 I,.int .i64 n] 44)
 clear hu;go_enter func55,ntmps55;go_wp2_with fail;refine(c _).mono ?_;rintro e w1 ⟨rfl,rfl⟩
 go_wp2_with fail;refine(d _).mono ?_;rintro e w1 ⟨rfl,rfl⟩
 go_wp2_with fail;refine(f _).mono ?_;rintro e w1 ⟨rfl,rfl⟩
 go_wp2_with fail;refine(g _).mono ?_;exact qG
theorem Fe (hu:di k=7)(b:d9 R=true)(hA:d9 A=true)(hB:d9 B=true):Calls prog 55 #[.agg #[ak k,ak R,ak A,ak B,ak I,ak n]] w fun e w'=>e=.returned (ak (h9 k n))/\Below w.heap.size w w':=by
 have c:∀w,Calls prog 54 #[ak k] w fun e w'=>e=.returned (ak (7))/\w'=w:=fun w=>by exact jr
 have d:∀w,Calls prog 119 #[ak R] w fun e w'=>e=.returned (.bool true)/\w'=w:=fun w=>by have h:=j7 R w;rw[b] at h;exact h
 have f:∀w,Calls prog 119 #[ak A] w fun e w'=>e=.returned (.bool true)/\w'=w:=fun w=>by exact oj
 have g:∀w,Calls prog 119 #[ak B] w fun e w'=>e=.returned (.bool true)/\w'=w:=fun w=>by have h:=j7 B w;rw[hB] at h;exact h
 have hb0:=aw w (.cells #[.int .i64 k,.int .i64 R,.int .i64 A,.int .i64 B,.int .i64 I,.int .i64 n] 44)
 clear hu;go_enter func55,ntmps55;go_wp2_with fail;refine(c _).mono ?_;rintro e w1 ⟨rfl,rfl⟩
 go_wp2_with fail;refine(d _).mono ?_;rintro e w1 ⟨rfl,rfl⟩
 go_wp2_with fail;refine(f _).mono ?_;rintro e w1 ⟨rfl,rfl⟩
 go_wp2_with fail;refine(g _).mono ?_;exact pa
theorem Ff (hu:di k=6)(hA:d9 A=false):Calls prog 55 #[.agg #[ak k,ak R,ak A,ak B,ak I,ak n]] w fun e w'=>e=.returned (ak (1))/\Below w.heap.size w w':=by
 have b:∀w,Calls prog 54 #[ak k] w fun e w'=>e=.returned (ak (6))/\w'=w:=fun w=>by exact jr
 have c:∀w,Calls prog 119 #[ak A] w fun e w'=>e=.returned (.bool false)/\w'=w:=fun w=>by exact oj
 have hb0:=aw w (.cells #[.int .i64 k,.int .i64 R,.int .i64 A,.int .i64 B,.int .i64 I,.int .i64 n] 44)
 clear hu;go_enter func55,ntmps55;go_wp2_with fail;refine(b _).mono ?_;rintro e w1 ⟨rfl,rfl⟩
 go_wp2_with fail;refine(c _).mono ?_;exact qG
theorem Fg (hu:di k=6)(hA:d9 A=true)(hB:d9 B=false):Calls prog 55 #[.agg #[ak k,ak R,ak A,ak B,ak I,ak n]] w fun e w'=>e=.returned (ak (1))/\Below w.heap.size w w':=by
 have b:∀w,Calls prog 54 #[ak k] w fun e w'=>e=.returned (ak (6))/\w'=w:=fun w=>by exact jr
 have c:∀w,Calls prog 119 #[ak A] w fun e w'=>e=.returned (.bool true)/\w'=w:=fun w=>by exact oj
 have d:∀w,Calls prog 119 #[ak B] w fun e w'=>e=.returned (.bool false)/\w'=w:=fun w=>by have h:=j7 B w;rw[hB] at h;exact h
 have hb0:=aw w (.cells #[.int .i64 k,.int .i64 R,.int .i64 A,.int .i64 B,.int .i64 I,.int .i64 n] 44)
 clear hu;go_enter func55,ntmps55;go_wp2_with fail;refine(b _).mono ?_;rintro e w1 ⟨rfl,rfl⟩
 go_wp2_with fail;refine(c _).mono ?_;rintro e w1 ⟨rfl,rfl⟩
 go_wp2_with fail;refine(d _).mono ?_;exact qG
theorem Fh (hu:di k=6)(hA:d9 A=true)(hB:d9 B=true):Calls prog 55 #[.agg #[ak k,ak R,ak A,ak B,ak I,ak n]] w fun e w'=>e=.returned (ak (h9 k n))/\Below w.heap.size w w':=by
 have b:∀w,Calls prog 54 #[ak k] w fun e w'=>e=.returned (ak (6))/\w'=w:=fun w=>by exact jr
 have c:∀w,Calls prog 119 #[ak A] w fun e w'=>e=.returned (.bool true)/\w'=w:=fun w=>by exact oj
 have d:∀w,Calls prog 119 #[ak B] w fun e w'=>e=.returned (.bool true)/\w'=w:=fun w=>by have h:=j7 B w;rw[hB] at h;exact h
 have hb0:=aw w (.cells #[.int .i64 k,.int .i64 R,.int .i64 A,.int .i64 B,.int .i64 I,.int .i64 n] 44)
 clear hu;go_enter func55,ntmps55;go_wp2_with fail;refine(b _).mono ?_;rintro e w1 ⟨rfl,rfl⟩
 go_wp2_with fail;refine(c _).mono ?_;rintro e w1 ⟨rfl,rfl⟩
 go_wp2_with fail;refine(d _).mono ?_;exact pa
theorem Fi (hu:di k=0):Calls prog 55 #[.agg #[ak k,ak R,ak A,ak B,ak I,ak n]] w fun e w'=>e=.returned (ak (h9 k n))/\Below w.heap.size w w':=by
 have b:∀w,Calls prog 54 #[ak k] w fun e w'=>e=.returned (ak (0))/\w'=w:=fun w=>by exact jr
 have hb0:=aw w (.cells #[.int .i64 k,.int .i64 R,.int .i64 A,.int .i64 B,.int .i64 I,.int .i64 n] 44)
 clear hu;go_enter func55,ntmps55;go_wp2_with fail;refine(b _).mono ?_;exact pa
theorem Fj (hu:di k=-1):Calls prog 55 #[.agg #[ak k,ak R,ak A,ak B,ak I,ak n]] w fun e w'=>e=.returned (ak (2))/\Below w.heap.size w w':=by
 have b:∀w,Calls prog 54 #[ak k] w fun e w'=>e=.returned (ak (-1))/\w'=w:=fun w=>by exact jr
 go_enter func55,ntmps55;go_wp2_with fail;refine(b _).mono ?_;rintro e w1 ⟨rfl,rfl⟩
 go_wp2;go_ret;exact⟨rfl,(aw w _)⟩
end
theorem jF (k R A B I n:Int)(w:az):Calls prog 55 #[.agg #[ak k,ak R,ak A,ak B,ak I,ak n]] w fun e w'=>e=.returned (ak (d4 k R A B n))/\Below w.heap.size w w':=by
 unfold d4;rcases E0 k with b|b|b|b|b|b
 ·rw[b,aI ae];cases hR:d9 R
  ·rw[aK ac];exact E5 b hR
  ·rw[aI ac];exact E6 b hR
 ·rw[b,aI ae];cases hR:d9 R
  ·rw[aK ac];exact E7 b hR
  ·cases hA:d9 A
   ·rw[aK ac];exact E8 b hR hA
   ·rw[aI ac];exact E9 b hR hA
 ·rw[b,aI ae];cases hR:d9 R
  ·rw[aK ac];exact E_ b hR
  ·cases hA:d9 A
   ·rw[aK ac];exact Fa b hR hA
   ·cases hB:d9 B
    ·rw[aK ac];exact Fc b hR hA hB
    ·rw[aI ac];exact Fe b hR hA hB
 ·rw[b,aI ae];cases hA:d9 A
  ·rw[aK ac];exact Ff b hA
  ·cases hB:d9 B
   ·rw[aK ac];exact Fg b hA hB
   ·rw[aI ac];exact Fh b hA hB
 ·rw[b,aI ae];rw[aI ac];exact Fi b
 ·rw[aK b];exact Fj b
abbrev d5 (k R A B I n:Int):Value:=.agg #[ak k,ak R,ak A,ak B,ak I,ak n]
abbrev cG (k R A B I n:Int):Obj:=.cells #[ak k,ak R,ak A,ak B,ak I,ak n] 44 (0,0)
theorem el {w:az}{b:Nat}{k R A B I n:Int}(h:w.heap[b]?=some (cG k R A B I n)):w.cell? (av b 0)=some (ak k)/\w.cell? (av b 1)=some (ak R)/\w.cell? (av b 2)=some (ak A)/\w.cell? (av b 3)=some (ak B)/\w.cell? (av b 4)=some (ak I)/\w.cell? (av b 5)=some (ak n):=by refine⟨?_,?_,?_,?_,?_,?_⟩<;>simp[World.cell?,h]
theorem tE {k R A B n:Int}(h:d4 k R A B n=0):¬((decide (di k=1\/di k=3\/di k=7)&&!d9 R)||(decide (di k=3\/di k=6\/di k=7)&&!d9 A)||(decide (di k=6\/di k=7)&&!d9 B))=true:=fun c=>by unfold d4 at h;split at h<;>omega
theorem tH {r:Int}(h:d9 r=true):0<=r/\r<12:=by unfold d9 at h;simpa using h
theorem yA {k R A B n:Int}(h:d4 k R A B n=0)(b:di k=1\/di k=3\/di k=7):0<=R/\R<12:=by
 refine tH ?_;cases c:d9 R
 ·exact absurd (by rw[c,bm b];rfl) (tE h)
 ·rfl
theorem lI {k R A B n:Int}(h:d4 k R A B n=0)(b:di k=3\/di k=6\/di k=7):0<=A/\A<12:=by
 refine tH ?_;cases c:d9 A
 ·exact absurd (by rw[c,bm b];simp) (tE h)
 ·rfl
theorem me {k R A B n:Int}(h:d4 k R A B n=0)(b:di k=6\/di k=7):0<=B/\B<12:=by
 refine tH ?_;cases c:d9 B
 ·exact absurd (by rw[c,bm b];simp) (tE h)
 ·rfl
def cA (a:Wc)(hp:Nat):dx cv where
 J F S w:=∃c,(fW a).J c S w/\w.heap[hp]?=some (.cells #[aq a.pw] 49 (0,0))/\¬c hp/\∀b,F b↔(c b\/b=hp)
 lt:=by
  rintro F S w ⟨c,f,g,i,d⟩ b hb;rcases(d b).1 hb with e|e
  ·exact(fW a).lt f b e
  ·rw[e];exact lt_of_some g
 keep:=by rintro F S w w' ⟨c,f,g,i,d⟩ hs hk;exact⟨c,(fW a).keep f hs (fun b e=>hk b ((d b).2 (aM e))),(hk _ ((d _).2 (aL rfl))).trans g,i,d⟩
section
variable {a:Wc}{hp:Nat}{F:Nat->Prop}{S:cv}{w:az}
theorem kz (h:(cA a hp).J F S w):∃d,(fW a).J d S w/\(∀b,d b->F b)/\∀e s1 w',(fW a).J e s1 w'->cg d w e w'->∃i,(cA a hp).J i s1 w'/\cg F w i w':=by
 obtain⟨d,l,j,k,f⟩:=h;refine⟨d,l,fun b c=>(f b).2 (aM c),fun e s1 w' m g=>?_⟩
 have lp:=lt_of_some j;refine⟨fun b=>e b\/b=hp,⟨e,m,(g.fr.block _ lp k).trans j,fun c=>?_,fun b=>Iff.rfl⟩,⟨g.fr.mono (fun b c=>(f b).2 (aM c)),fun b c=>?_⟩⟩
 ·rcases g.sub _ c with c|c
  ·exact k c
  ·omega
 ·rcases c with c|c
  ·exact(g.sub b c).imp (fun c=>(f b).2 (aM c)) id
  ·exact aM ((f b).2 (aL c))
structure Fk (a:Wc)(hp:Nat)(s:ej)(w:az):Prop where
 h0:w.cell? (av hp 0)=some (aq a.pw)
 c0:w.cell? (av a.pw 0)=some (aq a.p)
 c3:w.cell? (av a.pw 3)=some (.slice (au a.nb) 12 12)
 rt:∀i,i<12->w.cell? (av a.nb i)=some (ak (s.rs.getD i 0))/\w.frozen? (av a.nb i)=false
 rl:s.rs.length=12
 lp:hp<w.heap.size
 lw:a.pw<w.heap.size
 ln:a.nb<w.heap.size
theorem fe (h:(cA a hp).J F S w):Fk a hp S.s w:=by
 have b:w.heap[hp]?=some (.cells #[aq a.pw] 49 (0,0)):=by obtain⟨c,_,b,_⟩:=h;exact b
 obtain⟨c,d,_⟩:=kz h;obtain⟨e,g1,_⟩:=nf d;obtain⟨c0,_,_,c3,lw,rl,ln,rt⟩:=jZ g1;exact⟨by simp[World.cell?,b],c0,c3,rt,rl,lt_of_some b,lw,ln⟩
theorem lJ (h:(cA a hp).J F S w):At w a.p a.q a.N a.O S.s.y S.s.g S.s.ws/\∀w' y g ws,At w' a.p a.q a.N a.O y g ws->dh a.p a.q w w'->∃b,(cA a hp).J b ⟨{S.s with y:=y,g:=g,ws:=ws},S.r,S.q⟩ w'/\cg F w b w':=by
 obtain⟨k,c,_,d⟩:=kz h;obtain⟨l,g1,g2⟩:=nf c;obtain⟨k1,e⟩:=kU g1;refine⟨k1,fun w' y g ws ha f=>?_⟩
 obtain⟨m1,i⟩:=e w' y g ws ha f;obtain⟨m,n1,j⟩:=g2 _ _ _ m1 i;exact d _ _ _ n1 j
theorem Fl (h:(cA a hp).J F S w)(i:Nat)(x:Int):∃b,(cA a hp).J b ⟨{S.s with rs:=S.s.rs.set i x},S.r,S.q⟩ (w.setCell ⟨a.nb,i,none⟩ (.int .i64 x))/\cg F w b (w.setCell ⟨a.nb,i,none⟩ (.int .i64 x)):=by obtain⟨g,c,_,d⟩:=kz h;obtain⟨j,g1,g2⟩:=nf c;obtain⟨m1,e⟩:=ya g1 i x;obtain⟨k,n1,f⟩:=g2 _ _ _ m1 e;exact d _ _ _ n1 f
end
theorem Fp {a:Wc}{hp:Nat}{F:Nat->Prop}{S:cv}{w:az}(h:(cA a hp).J F S w):a.nb≠hp/\a.nb≠a.pw:=by obtain⟨g,b,i,c,_⟩:=h;obtain⟨j,ar,k,⟨l,ad,cap,⟨own,cT,hM,hO⟩,m,n,d,_⟩,r0,r1,f⟩:=b;exact⟨fun e=>c (by rw[<-e];exact(f _).2 (aM (d _ ((hO _).2 (by rw[hM.r1];decide))))),fun e=>by have b:=hM.r1;rw[e,hM.w1] at b;omega⟩
theorem Fq (n o:Nat)(w:az)(h0:16<=n)(t:n<=256)(ab:o<=1024):
 Calls prog 18 #[ak n,ak o] w fun e w'=>∃a hp F,e=.returned (.tuple #[aq hp,.agg #[ak 0,ak 0]])/\(cA a hp).J F (f6 n o).1 w'/\(a.N=n/\a.O=o)/\(∀b,F b->w.heap.size<=b)/\Below w.heap.size w w':=by
 have u:=aw w (.cells #[.int .i64 0,.int .i64 0] 28)
 have P:=yy n o (w.alloc (.cells #[.int .i64 0,.int .i64 0] 28)) h0 t ab;have x:=aP w (.cells #[.int .i64 0,.int .i64 0] 28)
 have ad:w.heap.size<(w.alloc (.cells #[.int .i64 0,.int .i64 0] 28)).heap.size:=ac;have B:=hide u;clear u;go_enter func18,ntmps18;go_wp2_with fail;generalize w.alloc (.cells #[.int .i64 0,.int .i64 0] 28)=w0 at*;generalize ag:w.heap.size=fb at*;refine P.mono ?_;clear P;rintro e w1 ⟨pw,p,q,pc,cT,s,nb,rfl,N,hs,hr,hg,i⟩
 obtain⟨l,S,g1⟩:=EZ (EY N hs hr i aa) ae hr hs;have f:=(i.block fb ad).trans x;have y0:w1.cell? (av fb 0)=some (ak 0):=aD f
 have y1:w1.cell? (av fb 1)=some (ak 0):=aD f
 have z0:w1.frozen? (av fb 0)=false:=aE f
 have ao:w1.frozen? (av fb 1)=false:=aE f
 have ai:=lt_of_some f;have g:aA (_/\(∀b,l b->fb<b)/\_):=⟨S,fun b c=>by obtain⟨ap,g2,g3,g4,g5,ar,aB⟩:=hg;rcases g1 b c with e|e|e|e|e|e|e<;>(rw[e];omega),B.o.trans (i.mono aa)⟩
 clear N hs hr hg i S g1 x B f;go_wp2_with fail;obtain⟨d,hW1⟩:∃d,d=(w1.setCell ⟨fb,0,none⟩ (.int .i64 0)).setCell ⟨fb,1,none⟩ (.int .i64 0):=⟨_,rfl⟩
 rw[<-hW1];have v0:d.cell? (av fb 0)=some (ak 0):=by exact tx
 have v1:d.cell? (av fb 1)=some (ak 0):=by exact ys
 have m:Fr (fun k=>k=fb) w1 d:=by rw[hW1];exact((Fr.refl (fun k=>k=fb) w1).set fb 0 _ rfl).set fb 1 _ rfl
 have al:d.heap.size=w1.heap.size:=by rw[hW1];simp
 clear hW1;have j2:=(fW ⟨pw,p,q,pc,s,nb,n,o⟩).keep g.o.1 m.size (fun b c=>m.block b ((fW ⟨pw,p,q,pc,s,nb,n,o⟩).lt g.o.1 b c) (fun e=>by have t:=g.o.2.1 b c;have e:=e;omega))
 have j:=(aw d (.cells #[.int .i64 0,.int .i64 0] 28)).alloc ac (.cells #[.pointer (some ⟨pw,0,none⟩)] 49)
 have W:=aP (d.alloc (.cells #[.int .i64 0,.int .i64 0] 28)) (.cells #[.pointer (some ⟨pw,0,none⟩)] 49)
 have am:(d.alloc (.cells #[.int .i64 0,.int .i64 0] 28)).heap.size=w1.heap.size+1:=by simp[al]
 rw[am] at W;have an:=g.o.2.2.trans (m.below (Nat.le_of_lt ai) (fun k e=>Nat.le_of_eq (Eq.symm e)))
 refine a5 (v:=.tuple #[aq (w1.heap.size+1),.agg #[ak 0,ak 0]]) (by simp only [results,results18];simp[go_sem,((j.cell (p:=av fb 0) (by show fb<_;omega)).trans v0),((j.cell (p:=av fb 1) (by show fb<_;omega)).trans v1)]) rfl ⟨⟨pw,p,q,pc,s,nb,n,o⟩,w1.heap.size+1,fun b=>l b\/b=w1.heap.size+1,rfl,⟨l,((fW ⟨pw,p,q,pc,s,nb,n,o⟩).below j2 j),W,fun c=>?_,fun b=>Iff.rfl⟩,⟨rfl,rfl⟩,fun b c=>?_,by rw[ag];exact an.trans (j.mono aa)⟩
 ·have:=(fW ⟨pw,p,q,pc,s,nb,n,o⟩).lt j2 _ c;omega
 ·rcases c with c|c
  ·have:=g.o.2.1 b c;omega
  ·omega
section
variable {a:Wc}{hp:Nat}{F:Nat->Prop}{S:cv}{w:az}
theorem Fs (R A B I n:Int)(w:az)(hp:Nat):Calls prog 57 #[aq hp,d5 1 R A B I n] w fun e w'=>e=.returned (.tuple #[ak (ew 1 n),ak (vc 1 n)])/\Below w.heap.size w w':=by
 have b:=aw w (cG 1 R A B I n)
 go_enter func57,ntmps57;go_wp2_with fail;refine(pd n _).mono ?_;rintro e w1 ⟨rfl,hb⟩
 go_wp2_with fail;go_ret2;exact⟨rfl,b.trans (hb.mono b.size)⟩
theorem Ft (h:(cA a hp).J F S w)(m:Int)(hm:m<=(a.N:Int)-S.s.y):
 Calls prog 193 #[aq hp,ak m] w fun e w'=>e=.returned (ak 0)/\Below w.heap.size w w':=by
 obtain⟨h0,c0,_⟩:=fe h;have P:=oY w (lJ h).1;go_enter func193,ntmps193;exact tu
def i6 (rs:List Int)(y:Nat)(ws:List Int)(rl:List Nat):Nat->List Int
 |0=>ws
 |j+1=>(i6 rs y ws rl j).set (y+1+j) (rs.getD (rl.getD j 0) 0)
end
theorem yC {w:az}{base n m:Nat}{e:TypeId}{ad:Option Addr}{cap:Nat}{b:List Value}(h:w.ownsRow base e m (.slice ad n cap) n b):ad=none->n=0/\cap=0:=fun d=>by
 subst d;rcases h.2 with⟨hv,hn⟩|⟨g,c,f,hv,_⟩
 ·simp at hv;exact⟨hn,hv.2⟩
 ·simp at hv
structure cf where
 a:Wc
 s:ej
 Y:List Int
 G:List Int
structure cy where
 f:Int->Int
 td:List Int
 ep:List Int
def cf.T (k:cf):List Int:=k.G++k.Y
def cf.ld (k:cf)(x:Int):Int:=Proofs.YtpkjkjhanlbcoaaGreat.ld k.a.N k.s.y k.s.g k.s.ws x
def cf.jt (k:cf)(x:Int):Bool:=dd x&&k.T.contains (cq x)
def cf.cX (k:cf)(s:cy)(x:Int):Bool:=k.jt x&&(s.f (cq x)==-1)
def cf.nw (k:cf)(s:cy)(x:Int):Int:=if(k.jt x&&!(s.f (cq x)==-1))=true then ew 3 (s.f (cq x)) else x
def cf.ma (k:cf)(s:cy)(x:Int):cy:=if k.cX s x=true then {s with f:=gO s.f (cq x) (cq x),td:=s.td++[cq x]} else s
def cf.fq (k:cf)(s:cy)(a:Int):Nat->cy
 |0=>s
 |n+1=>k.ma (k.fq s a n) (k.ld (a+1+n))
def cf.lk (k:cf)(s:cy)(a:Int):cy:=
 if pk (k.ld a)=1\/pk (k.ld a)=2 then k.fq s a (pf (k.ld a)).toNat
 else if pk (k.ld a)=3 then k.ma s (k.ld (a+2))
 else if pk (k.ld a)=4 then {s with ep:=s.ep++[a]} else s
def cf.l1 (k:cf)(s:cy):cy:=k.lk {s with td:=s.td.take (s.td.length-1)} (s.td.getD (s.td.length-1) 0)
def cf.lm (k:cf):Nat->cy->cy
 |0,s=>s
 |n+1,s=>if 0<s.td.length then k.lm n (k.l1 s) else s
def cf.cU (k:cf)(t:List Int×cy)(a:Int):List Int×cy:=if k.cX t.2 (k.ld (a+1))=true then(t.1++[a],t.2) else(t.1,k.ma t.2 (k.ld (a+2)))
def cf.dZ (k:cf)(s:cy)(l:List Int):List Int×cy:=l.foldl k.cU ([],s)
def cf.kv (k:cf)(s:cy):Bool×cy:=(decide ((k.dZ s s.ep).1.length<s.ep.length),{(k.dZ s s.ep).2 with ep:=(k.dZ s s.ep).1})
def cf.al (k:cf)(s:cy)(x:Int):Bool:=!k.cX s x
def cf.lost (k:cf)(s:cy):Nat:=(k.T.filter (fun a=>s.f a==-1)).length
structure c8 (k:cf)(s:cy):Prop where
 nd:k.T.Nodup
 ps:∀a∈k.T,0<=a/\a<=2000
 td:∀a∈s.td,a∈k.T
 ep:∀a∈s.ep,a∈k.T
 tl:k.T.length<=4000
 sum:k.lost s+s.td.length+s.ep.length<=k.T.length
section
variable {k:cf}{s:cy}
theorem cf.qL {x:Int}(h:k.cX s x=true):dd x=true/\cq x∈k.T/\s.f (cq x)=-1:=by grind [cX,jt]
theorem cf.yD (hn:k.T.Nodup){x:Int}(h:k.cX s x=true)(h0:∀a∈k.T,0<=a):k.lost (k.ma s x)+1=k.lost s:=by
 obtain⟨_,b,c⟩:=cf.qL h;have e:(k.ma s x).f=gO s.f (cq x) (cq x):=by grind [ma]
 have hp:=h0 _ b;unfold cf.lost;rw[e,xA _ _ _ _ aa];exact DJ _ _ (by grind) (by grind)
theorem c8.ma (h:c8 k s)(x:Int):c8 k (k.ma s x)/\k.lost (k.ma s x)+(k.ma s x).td.length=k.lost s+s.td.length/\(k.ma s x).ep=s.ep:=by
 by_cases c:k.cX s x=true
 ·have d:=cf.yD h.nd c (fun a ha=>(h.ps a ha).1)
  obtain⟨_,e,_⟩:=cf.qL c;have f:(k.ma s x).td=s.td++[cq x]:=by grind [cf.ma]
  have b:(k.ma s x).ep=s.ep:=by grind [cf.ma]
  have hs:=h.sum;have g:(k.ma s x).td.length=s.td.length+1:=by grind
  refine⟨⟨h.nd,h.ps,fun a ha=>?_,(b▸h.ep),h.tl,by grind⟩,aa,b⟩
  grind [td]
 grind [cf.ma]
theorem c8.fq (h:c8 k s)(a:Int):∀n,c8 k (k.fq s a n)/\k.lost (k.fq s a n)+(k.fq s a n).td.length=k.lost s+s.td.length/\(k.fq s a n).ep=s.ep
 |0=>⟨h,rfl,rfl⟩
 |n+1=>by obtain⟨b,c,d⟩:=c8.fq h a n;obtain⟨e,j2,cH⟩:=b.ma _;exact⟨e,j2.trans c,cH.trans d⟩
theorem c8.lk (h:c8 k s){a:Int}(ha:a∈k.T)(hr:k.lost s+s.td.length+s.ep.length+1<=k.T.length):c8 k (k.lk s a)/\k.lost (k.lk s a)+(k.lk s a).td.length=k.lost s+s.td.length/\(k.lk s a).ep.length<=s.ep.length+1:=by
 unfold cf.lk;split
 ·grind [fq]
 ·split
  ·grind [ma]
  ·split
   ·refine⟨⟨h.nd,h.ps,h.td,fun b hb=>?_,h.tl,?_⟩,rfl,ac⟩
    ·grind [ep]
    ·show k.lost s+s.td.length+(s.ep++[a]).length<=_
     grind
   grind
theorem c8.l1 (h:c8 k s)(hl:0<s.td.length):c8 k (k.l1 s)/\k.lost (k.l1 s)+(k.l1 s).td.length+1=k.lost s+s.td.length:=by
 have hm:s.td.getD (s.td.length-1) 0∈s.td:=by grind
 have hs:=h.sum;have e:(s.td.take (s.td.length-1)).length=s.td.length-1:=by simp_all
 have h0:c8 k {s with td:=s.td.take (s.td.length-1)}:=⟨h.nd,h.ps,fun a ha=>h.td a (by grind),h.ep,h.tl,by show k.lost s+(s.td.take _).length+s.ep.length<=_;omega⟩
 have b:k.lost {s with td:=s.td.take (s.td.length-1)}=k.lost s:=rfl
 grind [lk,td,cf.l1]
theorem c8.lm:∀(n:Nat){s:cy},c8 k s->c8 k (k.lm n s)/\(k.lost s+s.td.length<n->(k.lm n s).td=[])/\k.lost (k.lm n s)+(k.lm n s).td.length<=k.lost s+s.td.length
 |0,s,h=>⟨h,fun e=>aa,aG _⟩
 |n+1,s,h=>by
  unfold cf.lm;by_cases c:0<s.td.length
  ·rw[aK c];obtain⟨b,d⟩:=h.l1 c;obtain⟨f,j2,cH⟩:=c8.lm n b
   grind
  grind
theorem c8.cU {t:List Int×cy}(h:c8 k t.2){a:Int}(ha:a∈k.T)(ht:∀b∈t.1,b∈k.T):c8 k (k.cU t a).2/\(k.cU t a).1.length<=t.1.length+1/\(∀b∈(k.cU t a).1,b∈k.T)/\k.lost (k.cU t a).2+(k.cU t a).2.td.length=k.lost t.2+t.2.td.length/\(k.cU t a).2.ep=t.2.ep:=by
 unfold cf.cU;split
 ·grind
 grind [ma]
theorem c8.iK:∀(l:List Int){t:List Int×cy},c8 k t.2->(∀a∈l,a∈k.T)->(∀b∈t.1,b∈k.T)->c8 k (l.foldl k.cU t).2/\(l.foldl k.cU t).1.length<=t.1.length+l.length/\(∀b∈(l.foldl k.cU t).1,b∈k.T)/\k.lost (l.foldl k.cU t).2+(l.foldl k.cU t).2.td.length=k.lost t.2+t.2.td.length/\(l.foldl k.cU t).2.ep=t.2.ep
 |[],t,h,_,ht=>(by grind)
 |a::l,t,h,hl,ht=>by
  obtain⟨c,e,d,f,g⟩:=h.cU (hl a ac) ht;obtain⟨i,j2,cH,cJ,dI⟩:=c8.iK l c (by grind) d
  grind
theorem c8.kv (h:c8 k s):c8 k (k.kv s).2/\k.lost (k.kv s).2+(k.kv s).2.td.length=k.lost s+s.td.length/\(k.kv s).2.ep.length<=s.ep.length/\((k.kv s).1=true->(k.kv s).2.ep.length<s.ep.length):=by
 obtain⟨d,b,f,c,g⟩:=c8.iK s.ep (t:=([],s)) h h.ep (by grind)
 have i:k.lost (k.kv s).2=k.lost (k.dZ s s.ep).2:=rfl;have j:(k.kv s).2.td=(k.dZ s s.ep).2.td:=rfl;have l:(k.kv s).2.ep=(k.dZ s s.ep).1:=rfl;have b:(k.dZ s s.ep).1.length<=0+s.ep.length:=b;have c:k.lost (k.dZ s s.ep).2+(k.dZ s s.ep).2.td.length=k.lost s+s.td.length:=c;have hs:=h.sum;refine⟨⟨h.nd,h.ps,d.td,f,h.tl,?_⟩,by simp_all,by grind,fun e=>?_⟩
 ·grind
 ·exact of_decide_eq_true e
end
end Go.Proofs.YtpkjkjhanlbcoaaGreat
