import Derived.Test.YtpkjkjhanlbcoaaGreatJ19
import Derived.Lib.SliceRun
namespace Go.Proofs.YtpkjkjhanlbcoaaGreat
set_option maxRecDepth 100000
set_option maxHeartbeats 4000000
open Tryz
open Go.RowKit W Kp cf
theorem yt {P:Prop}(h:P:=by unfold dB;rw[aG c];show((k.ma t.1.1 _,t.1.2.set i ((t.1.2.getD i (0,0)).1,(t.1.2.getD i (0,0)).2)),true)=_;rw[(FR _ _ _)]):P:=h
theorem yu {P:Prop}(h:P:=by
 obtain⟨j1,j2,cA⟩:=h1.ma _;refine⟨j1,h2.trans j2,fun i hi=>?_⟩
 by_cases e:i=n
 ·rw[e];exact cA
 ·exact j2.cS (h3 i V)):P:=h
theorem b8.less {X F c:Nat->Prop}{w w':ax}(h:b8 X w F w')(hs:∀b,c b->F b):b8 X w c w':=⟨h.fr,fun b d=>h.sub b (hs b d)⟩
theorem FS {g:Type}{o:dr g}{bx:Nat}{x:Obj}{F:Nat->Prop}{w:ax}{t:g}(h:(da o bx x).J F t w):∃e,o.J e t w/\w.heap[bx]?=some x/\bx<w.heap.size/\(∀c f w1,o.J c f w1->b8 e w c w1->(da o bx x).J (fun b=>c b\/b=bx) f w1/\b8 F w (fun b=>c b\/b=bx) w1)/\∀b,e b->F b:=by
 obtain⟨e,h,g2,g3,g4⟩:=h;refine⟨e,h,g2,lt_of_some g2,fun c f w1 i hT=>⟨⟨c,i,(hT.fr.block bx (lt_of_some g2) g3).trans g2,fun d=>(hT.sub bx d).elim g3 (fun d=>by have:=lt_of_some g2;omega),fun b=>Iff.rfl⟩,⟨hT.fr.mono (fun b hb=>(g4 b).2 (aK hb)),fun b hb=>?_⟩⟩,fun b hb=>(g4 b).2 (aK hb)⟩
 exact tx
section
variable {c:e8}{k:b9}{vt cr:Value}{F:Nat->Prop}{s:cu}{w:ax}
theorem FT {G:Nat->b9×Int->Prop}(a0:iD k s G)(a1:G 0 (k,0))(h:(cT c k vt cr).J F s w)(hl:k.T.length<=4000)(hp:∀a∈k.T,0<=a/\a<=2000):
 Calls prog 84 #[aj c.pk] w fun e w'=>∃K,e=.returned (.tuple #[])/\(cT c (k.sl s) vt cr).J K s w'/\b8 F w K w':=by
 have cm:k.T.length=k.G.length+k.Y.length:=by unfold b9.T;rw[aX]
 have m:ay (_/\_/\(∀a∈k.G,0<=a/\a<=2000)/\(∀a∈k.Y,0<=a/\a<=2000)/\k.G.length<=4000/\k.Y.length<=4000):=⟨a0,a1,fun a ha=>hp a (List.mem_append.2 (aK ha)),fun a ha=>hp a (List.mem_append.2 (aJ ha)),V,V⟩
 have L:=(cT c k vt cr).lt h;obtain⟨w0,u⟩:∃w0,w.alloc (dl c)=w0:=⟨_,rfl⟩
 have a2:aw w w0:=by rw[<-u];exact au w (dl c)
 have bb:w0.heap.size=w.heap.size+1:=by rw[<-u];simp
 have bd:w0.heap[w.heap.size]?=some (dl c):=by rw[<-u];exact aN _ _
 obtain⟨w1,D⟩:∃w1,w0.alloc (kl 0)=w1:=⟨_,rfl⟩
 have M:aw w0 w1:=by rw[<-D];exact au w0 (kl 0)
 have be:w1.heap[w0.heap.size]?=some (kl 0):=by rw[<-D];exact aN _ _
 have N:=a2.trans (M.mono V)
 have O:(df c k s vt cr).J F k w1:=⟨(cT c k vt cr).below h N,rfl,rfl,rfl⟩
 have bg:(da (df c k s vt cr) w.heap.size (dl c)).J (fun b=>F b\/b=w.heap.size) k w1:=⟨F,O,(M.block _ V).trans bd,fun f=>by have:=L _ f;omega,fun b=>Iff.rfl⟩
 have bi:(g_ (da (df c k s vt cr) w.heap.size (dl c)) (w.heap.size+1)).J (fun b=>(F b\/b=w.heap.size)\/b=w.heap.size+1) (k,0) w1:=⟨_,bg,by rw[<-bb];exact be,fun f=>f.elim (fun f=>by have:=L _ f;omega) (fun f=>by omega),fun b=>Iff.rfl⟩
 have bl:=(ey h).2.2.1;obtain⟨_,bn,yr,gr⟩:=oc O;obtain⟨P,Q,bo⟩:=eE yr;obtain⟨E,gc,v⟩:=eE gr;have cn:w1.cell? (aq c.pk 2)=some (.slice E k.G.length gc):=by rw[bn,v]
 rw[v] at bl;have H:=hide bo;have bp:=hide v;have hd:=(av w1).drew;have br:ay (b8 F w (fun b=>(F b\/b=w.heap.size)\/b=w.heap.size+1) w1.drew):=⟨(Fr.of (X:=F) N).trans (Fr.of (X:=F) hd) (fun b f=>aK f),fun b f=>f.elim (fun f=>f.imp id (fun e=>by omega)) (fun e=>aJ V)⟩
 have R:=FP m.out.1 m.out.2.1 ((g_ (da (df c k s vt cr) w.heap.size (dl c)) (w.heap.size+1)).below bi hd) m.out.2.2.2.2.1 m.out.2.2.1 v;obtain⟨d,S⟩:∃d,gU (fun _ a=>s.f a) (b9.i6 s) (k,0) k.G=d:=⟨_,rfl⟩
 rw[S] at R;have U:ay (k.sl1 s=d.1.ar d.1.s.y d.2.toNat d.1.s.ws):=by show k.sl1 s=_;unfold b9.sl1 b9.lA;rw[S]
 have o:ay (k.sl s=((k.sl2 s).ar 0 (k.sl2 s).s.g (k.sl2 s).s.ws).tJ/\k.sl2 s=(k.sl1 s).pj s k.Y):=⟨rfl,rfl⟩
 generalize k.sl s=co at o⊢;generalize k.sl2 s=cp at o;generalize k.sl1 s=cq at o U;subst D;subst u;go_enter func84,ntmps84;go_wp2_with fail
 go_region_held3 (fun w'=>w'.cell? (aq w.heap.size 0)=some (aj c.pk)/\w'.cell? (aq c.pk 2)=some (.slice E k.G.length gc)) (go_keep)
  (first
    |(go_at_call 157;refine R.mono ?_;rintro e i ⟨cs,rfl,cA,t3,g3⟩;have p:=g6 cA (br.out.trans t3) (m.out.1.2.2 _ g3);obtain⟨_,q1,_⟩:=ly cA;obtain⟨_,q,q3,_⟩:=gC q1;obtain⟨_,bs,_⟩:=oc q;have ct:i.cell? (aq w.heap.size 0)=some (aj c.pk):=(by simp[World.cell?,q3]);have cu:i.cell? (aq c.pk 2)=some (.slice E k.G.length gc):=(by rw[bs,bp.out])))
 all_goals
  have x:ay (∃n,(da (df c k s vt cr) w.heap.size (dl c)).J n d.1 i.drew/\b8 F w n i.drew/\¬n (w.heap.size+1)/\w.heap.size+1<i.heap.size):=by obtain⟨n,cE,dC,A,B⟩:=p.out.1;exact⟨n,(da (df c k s vt cr) w.heap.size (dl c)).below cE (aH _ i).drew,(p.out.2.1.less (fun b f=>(B b).2 (aK f))).below (aH _ i).drew,A,lt_of_some dC⟩
  obtain⟨n,cE,bt,n4,bx⟩:=x.out;obtain⟨W,dC,cv,cw,Y,bY⟩:=FS cE;obtain⟨bZ,_,b0,_,_⟩:=ic dC;have b1:=(n_ p.out.1).1;have C:=FM dC d.2 p.out.2.2.1 p.out.2.2.2;rw[<-U.out] at C;have v0:_=_:=bZ;have b2:_=_:=b0;have b3:ay (∀g d w1,(df c k s vt cr).J g d w1->b8 W i.drew g w1->_/\_):=fun g d w1 j l=>⟨(Y g d w1 j l).1,bt.trans (Y g d w1 j l).2⟩
  have ab:_/\¬W (w.heap.size+1):=⟨bx,fun f=>n4 (bY _ f)⟩
  go_wp2_with fail
  go_region_held3 (fun w'=>w'.cell? (aq w.heap.size 0)=some (aj c.pk)/\w'.cell? (aq c.pk 0)=some (aj k.a.pw)/\w'.cell? (aq k.a.pw 0)=some (aj k.a.p)/\w'.cell? (aq (w.heap.size+1) 0)=some (ah d.2)) (go_keep)
   (first
     |(go_at_call 163;refine C.mono ?_;rintro e t ⟨b4,rfl,A,ad⟩;obtain⟨r0,_,cx,_,_⟩:=ic A;obtain⟨B,b5⟩:=b3.out b4 _ t A ad;obtain⟨_,_,b6,_⟩:=gC B;have r1:t.cell? (aq w.heap.size 0)=some (aj c.pk):=(by simp[World.cell?,b6]);have cy:=(aP (a:=⟨w.heap.size+1,0,none⟩) (ad.fr.block _ (by simpa using ab.1) ab.2)).trans b1;have I:=dq B b5))
  all_goals
   have x:=dq ((da (df c k s vt cr) w.heap.size (dl c)).below I.out.1 (aH _ t).drew) (I.out.2.below (aH _ t).drew)
   have ag:=FQ x.out.1 m.out.2.2.2.2.2 m.out.2.2.2.1 H.out;rw[<-o.out.2] at ag;have cz:t.cell? (aq c.pk 1)=some (.slice P k.Y.length Q):=by obtain⟨_,q,_⟩:=gC I.out.1;exact(oc q).1.trans (by rw[H.out])
   go_wp2_with fail
   go_region_held3 (fun w'=>w'.cell? (aq w.heap.size 0)=some (aj c.pk)/\w'.cell? (aq c.pk 1)=some (.slice P k.Y.length Q)) (go_keep)
    (first
      |(go_at_call 157;refine ag.mono ?_;rintro e ai ⟨cB,rfl,al,b7⟩;obtain⟨_,q,q3,_⟩:=gC al;have cC:ai.cell? (aq w.heap.size 0)=some (aj c.pk):=(by simp[World.cell?,q3]);have m1:_=_:=(oc q).1.trans (by rw[H.out]);have am:=dq al (x.out.2.trans b7)))
   all_goals
    obtain⟨ca,an,cD,cF,ao⟩:=gC am.out.1;obtain⟨v0,_,b2,_,_⟩:=ic an;have C:=FN an;have cb:ay (∀g d w1,(df c k s vt cr).J g d w1->b8 ca ai g w1->_/\_):=fun g d w1 j l=>⟨(ao g d w1 j l).1,am.out.2.trans (ao g d w1 j l).2⟩
    go_wp2_with fail;refine C.mono ?_;rintro e J ⟨cc,rfl,cd,ce⟩
    obtain⟨cf,cg⟩:=cb.out cc _ J cd ce;obtain⟨ch,ap,ci,cG,ar⟩:=gC cf;have z0:J.cell? (aq w.heap.size 0)=some (aj c.pk):=by simp[World.cell?,ci]
    obtain⟨cH,_,_,_,_⟩:=ic ap;obtain⟨cI,aB⟩:=FO ap;rw[<-o.out.1] at aB;have cj:ay (∀g d w1,(df c k s vt cr).J g d w1->b8 ch J g w1->_/\_):=fun g d w1 j l=>⟨(ar g d w1 j l).1,cg.trans (ar g d w1 j l).2⟩
    go_wp2_with fail;refine aB.mono ?_;rintro e ck ⟨aF,rfl,aR,cl⟩
    have aV:=dq aR.1 ((cj.out aF _ ck aR cl).2.less (fun b f=>aK f))
    go_wp2_with fail;go_end0;exact⟨aF,rfl,aV.out.1,aV.out.2⟩
end
theorem yx (f:Nat)(c:Array Value)(p:Int->Bool)(k:dN f)(w:ax)(l:List Int)
 (hl:∀(w':ax)(x:Int),x∈l->aw w w'->Calls prog f (#[ah x]++c) w' fun r o=>r=.returned (.bool (p x))/\aw w' o)
 (ad:Option Addr)(cap:Nat)(hm:l.length<=100000)(hp:iJ w ad l):
 Calls prog 241 #[.slice ad l.length cap,.func (.func f) #[] c] w fun r w'=>aw w w'/\((r=.returned (ah (-1))/\∀e∈l,p e=false)\/∃i:Nat,r=.returned (ah i)/\i<l.length/\p (l.getD i 0)=true/\∀e∈l.take i,p e=false):=by
 have q:=hide hl;have s:=hide hp;have C:∀(args:Array Value)(w:ax),_=_:=k;clear hl hp k;go_enter func241,ntmps241;go_wp2_with fail
 go_loopw [8] (fun iv wr=>∃j:Nat,j<=l.length/\iv=ah j/\ay (∀e∈l.take j,p e=false)/\aw w wr) (fun iv _=>l.length-(intOf iv).toNat)
 case atStart=>exact⟨0,aZ _,rfl,by simp[Hid],aH _ _⟩
 case round=>
  obtain⟨j,D,rfl,d,hb⟩:=hrel;by_cases b:j<l.length
  ·obtain⟨E,F,t,G,hc⟩:=s.out.below hb V;have u:=hc j b;have hd:l.getD j 0∈l:=by rw[aE,aL b];exact a6 b
   obtain⟨x,g⟩:∃x,l.getD j 0=x:=⟨_,rfl⟩
   have m:ay (_=_):=g;rw[g] at u hd;have P:=q.out wr x hd hb;clear hc g hd;subst t;go_wp2_with fail;refine P.mono ?_;rintro r w1 ⟨rfl,v⟩
   have n:=hb.trans (v.mono hb.size)
   cases hp:p x
   ·have A:ay (∀e∈l.take (j+1),p e=false):=fun e he=>by
     rw[gx l j b 0,List.mem_append,bv] at he;rcases he with he|he
     ·exact d.out e he
     ·rw[he,m.out];exact hp
    go_wp2_with fail;go_roundw
    case rel=>exact⟨j+1,V,af,A,n⟩
    case measure=>simp[intOf];omega
   ·have B:ay (p (l.getD j 0)=true):=by show _=_;rw[m.out];exact hp
    go_wp2_with fail;go_ret;exact⟨n,aJ ⟨j,rfl,b,B.out,d.out⟩⟩
  ·obtain rfl:j=l.length:=V;rw[bu] at d;go_wp2_with fail;go_ret;exact⟨hb,aK ⟨rfl,d.out⟩⟩
theorem FU:dN 214:=f_ func214 ae rfl
theorem FV {pk pw p q N O y g bx be:Nat}{ws:List Int}{e:Int}(w:ax)(b:At w p q N O y g ws)(c0:w.cell? (aq bx 0)=some (aj pk))(c1:w.cell? (aq pk 0)=some (aj pw))(c2:w.cell? (aq pw 0)=some (aj p))(c3:w.cell? (aq be 0)=some (ah e))(a:Int)(ha:0<=a/\a<=100000):
 Calls prog 214 #[ah a,aj bx,aj be] w fun r w'=>r=.returned (.bool (decide (e<=a+pf (ld N y g ws a))))/\aw w w':=by
 have P:=gd a w b;have d:=dj (ld N y g ws a)
 clear b;go_enter func214,ntmps214;go_wp2_with fail;refine P.mono ?_;clear P;rintro r w1 ⟨rfl,c⟩
 have f:=(c.cell (p:=aq be 0) (aQ w _ c3)).trans c3;clear c0 c1 c2 c3;go_wp2;go_ret;exact⟨by first|rfl|(done)|(omega),c⟩
def eb (p:Int->Bool)(l:List Int):List Int:=l.filter (fun x=>!p x)
theorem tK (p:Int->Bool)(l:List Int)(x:Int):eb p (l++[x])=if p x=true then eb p l else eb p l++[x]:=by unfold eb;cases h:p x<;>simp[h]
theorem qz {p:Int->Bool}{l:List Int}(h:∀e∈l,p e=false):eb p l=l:=by unfold eb;rw[List.filter_eq_self];intro a ha;rw[h a ha];rfl
theorem yy {base size n g cap i:Nat}{e:TypeId}:∀(d:List Value)(o:Nat){w:ax}{b:List Value},w.ownsRow base e size (.slice (ak g) n cap) n b->i<=o->∃c,(w.setCells g o d).ownsRow base e size (.slice (ak g) n cap) n c/\c.take i=b.take i
 |[],o,w,b,h,_=>⟨b,h,rfl⟩
 |v::d,o,w,b,h,hi=>by
  obtain⟨c,f,j⟩:=yy d (o+1) (qm h o v) (by omega:i<=o+1)
  refine⟨c,f,j.trans ?_⟩
  rw[List.take_set_of_le hi]
theorem yz {g:Nat}:∀(c:List Value)(o:Nat)(w:ax),Fr (fun b=>b=g) w (w.setCells g o c)
 |[],_,w=>Fr.refl _ w
 |v::c,o,w=>((Fr.refl (fun b=>b=g) w).set g o v rfl).trans (yz c (o+1) _) (fun _ e=>aK e)
theorem FX (f:Nat)(c:Array Value)(p:Int->Bool)(F:dN f)(w:ax)(l:List Int)(g cap B:Nat)
 (hl:∀(w':ax)(x:Int),x∈l->Fr (fun b=>b=g) w w'->Calls prog f (#[ah x]++c) w' fun r ab=>r=.returned (.bool (p x))/\aw w' ab)
 (hm:l.length<=100000)(hr:w.ownsRow B 3 1 (.slice (ak g) l.length cap) l.length (l.map (Value.int .i64))):
 Calls prog 213 #[.slice (ak g) l.length cap,.func (.func f) #[] c] w fun r w'=>r=.returned (.slice (ak g) (eb p l).length cap)/\w'.ownsRow B 3 1 (.slice (ak g) (eb p l).length cap) (eb p l).length ((eb p l).map (Value.int .i64))/\Fr (fun b=>b=g) w w':=by
 have M:=hide hl;have P:=yx f c p F w l (fun w' x A hb=>M.out w' x A (Fr.of hb)) (ak g) cap hm (gH hr)
 have C:ay (_):=hr;have am:=sH hr;have an:∀(args:Array Value)(w:ax),(callFunc f args).run prog w=.ok (.enter f args) w:=F;clear hl hr F;go_enter func213,ntmps213;go_wp2_with fail;refine P.mono ?_;clear P;rintro r w1 ⟨n,⟨rfl,hn⟩|⟨m,rfl,N,O,hn⟩⟩
 ·have Q:ay (eb p l=l/\w1.ownsRow B 3 1 (.slice (ak g) l.length cap) l.length (l.map (Value.int .i64))/\Fr (fun b=>b=g) w w1):=⟨qz hn,cH C.out (fun b e=>n.block b (cn C.out b e).2),Fr.of n⟩
  clear n hn;go_wp2_with fail;go_ret;rw[Q.out.1];exact⟨rfl,Q.out.2⟩
 ·have ad:(m:Int)<l.length:=V;have R:ay (eb p (l.take (m+1))=l.take m/\w1.ownsRow B 3 1 (.slice (ak g) l.length cap) l.length (l.map (Value.int .i64))/\Fr (fun b=>b=g) w w1):=by
   refine⟨?_,cH C.out (fun b e=>n.block b (cn C.out b e).2),Fr.of n⟩
   rw[gx l m N 0,tK,aI O,qz hn]
  clear hn O n;go_wp2_with fail;have S:((m:Int)==-1)=false:=by rw[beq_eq_false_iff_ne];omega
  rw[S];clear S
  go_loopw [5,6] (fun iv G wr=>∃(i j:Nat),i<j/\j<=l.length/\iv=ah i/\G=ah j/\ay ((eb p (l.take j)).length=i/\wr.ownsRow B 3 1 (.slice (ak g) l.length cap) l.length ((eb p (l.take j)++l.drop i).map (Value.int .i64))/\Fr (fun b=>b=g) w wr)) (fun _ G _=>l.length-(intOf G).toNat)
  ·
    refine⟨m,m+1,V,V,rfl,af,?_⟩
    obtain⟨s,D,H⟩:=R.out;refine⟨by rw[s,bw];omega,?_,H⟩
    rw[s,List.take_append_drop];exact D
  ·
    clear R N ad;obtain⟨i,j,ao,ap,rfl,rfl,d⟩:=hrel;by_cases o:j<l.length
    ·have hd:l.getD j 0∈l:=by rw[aE,aL o];exact a6 o
     have A:((eb p (l.take j)++l.drop i).map (Value.int .i64))[j]?=some (ah (l.getD j 0)):=by have e:=d.out.1;rw[List.getElem?_map,List.getElem?_append_right V,List.getElem?_drop,e,show i+(j-i)=j from by omega,aL o,aE,aL o];rfl
     have U:=(kC d.out.2.1 A).1;have P:=M.out wr (l.getD j 0) hd d.out.2.2;have t:ay (_=_):=gx l j o 0;generalize l.getD j 0=x at U P t;have j0:(0:Int)<=(j:Int):=V;have ar:(j:Int)<l.length:=V;have m:(0:Int)<=(i:Int):=V;have ag:(i:Int)<l.length:=V;clear A hd;go_wp2_with fail;refine P.mono ?_;clear P U;rintro r u ⟨rfl,I⟩
     have q:=dq (cH d.out.2.1 (fun b e=>I.block b (cn d.out.2.1 b e).2)) (d.out.2.2.trans (Fr.of (X:=fun b=>b=g) I) (fun _ v=>aK v))
     clear I;cases hp:p x
     ·have hy:∃y,((eb p (l.take j)++l.drop i).map (Value.int .i64))[i]?=some (Value.int .i64 y):=by
       have e:=d.out.1;have J:i<l.length:=V;refine⟨l[i],?_⟩
       rw[List.getElem?_map,List.getElem?_append_right V,List.getElem?_drop,e,Nat.sub_self,Nat.add_zero,aL J];rfl
      obtain⟨y,hy⟩:=hy;obtain⟨y1,aB⟩:=kC q.out.1 hy;have K:ay ((eb p (l.take (j+1))).length=i+1/\(u.setCell ⟨g,i,none⟩ (.int .i64 x)).ownsRow B 3 1 (.slice (ak g) l.length cap) l.length ((eb p (l.take (j+1))++l.drop (i+1)).map (Value.int .i64))/\Fr (fun b=>b=g) w (u.setCell ⟨g,i,none⟩ (.int .i64 x))):=by
       have e:=d.out.1;have J:i<l.length:=V;have e6:eb p (l.take (j+1))=eb p (l.take j)++[x]:=by rw[t.out,tK,hp];rfl
       refine⟨by rw[e6,aX,e];rfl,?_,q.out.2.trans ((Fr.refl (fun b=>b=g) u).set g i _ rfl) (fun _ v=>aK v)⟩
       have E:=qm q.out.1 i (Value.int .i64 x)
       have ai:((eb p (l.take j)++l.drop i).map (Value.int .i64)).set i (ah x)=(eb p (l.take (j+1))++l.drop (i+1)).map (Value.int .i64):=by rw[e6,<-List.map_set,List.set_append_right _ _ V,e,Nat.sub_self,List.drop_eq_getElem_cons J,List.set_cons_zero,ba];rfl
       rw[ai] at E;exact E
      clear hp hy d q t;go_wp2_with fail;go_roundw;exact⟨i+1,j+1,V,V,af,af,K⟩
      simp[intOf];omega
     ·have K:ay ((eb p (l.take (j+1))).length=i/\u.ownsRow B 3 1 (.slice (ak g) l.length cap) l.length ((eb p (l.take (j+1))++l.drop i).map (Value.int .i64))/\Fr (fun b=>b=g) w u):=by
       have e6:eb p (l.take (j+1))=eb p (l.take j):=by rw[t.out,tK,hp];rfl
       rw[e6];exact⟨d.out.1,q.out⟩
      clear hp d q t;go_wp2_with fail;go_roundw;exact⟨i,j+1,V,V,rfl,af,K⟩
      simp[intOf];omega
    ·obtain rfl:j=l.length:=V;have L:((eb p (l.take l.length)++l.drop i).map (Value.int .i64)).length=l.length:=by have e:=d.out.1;rw[aW,aX,e,List.length_drop];omega
     have aF:∀ty,(Builtin.clear_ #[74] ty #[.slice (some ⟨g,i,none⟩) (l.length-i) (cap-i)]).run prog wr=.ok (.tuple #[]) (wr.setCells g i (List.replicate (l.length-i) (ah 0))):=fun ty=>
      Lib.run_clear_slice wr _ _ ty _ Tryz.underlying74 (fun w=>lW w) rfl rfl g i _ _ V (fun k hk=>by rw[(kC d.out.2.1 (aL (by rw[L];omega:i+k<_))).1];rfl) (fun k hk=>(kC d.out.2.1 (aL (by rw[L];omega:i+k<_))).2)
     have W:ay ((eb p l).length=i/\(wr.setCells g i (List.replicate (l.length-i) (ah 0))).ownsRow B 3 1 (.slice (ak g) i cap) i ((eb p l).map (Value.int .i64))/\Fr (fun b=>b=g) w (wr.setCells g i (List.replicate (l.length-i) (ah 0)))):=by
      obtain⟨s,D,H⟩:=d.out;rw[bu] at s D;refine⟨s,?_,H.trans (yz _ _ _) (fun _ v=>aK v)⟩
      obtain⟨aR,al,E⟩:=yy (i:=i) (List.replicate (l.length-i) (Value.int .i64 0)) i D bW
      have Y:=sG al i V;rw[E,List.map_append,List.take_append_of_le_length (by simp;omega),List.take_of_length_le (by simp;omega)] at Y;exact Y
     have m:(0:Int)<=(i:Int):=V;have ag:(i:Int)<l.length:=V;clear o d L;go_wp2_with fail;go_ret;rw[W.out.1];exact⟨rfl,W.out.2⟩
def d9.j0 (a:Wc)(s:d9):b9:=⟨a,s,eb (fun x=>decide ((s.y:Int)<=x+pf (ld a.N s.y s.g s.ws x))) (ei a.N s.y s.g s.ws),eb (fun x=>decide ((a.N:Int)+s.g<=x+pf (ld a.N s.y s.g s.ws x))) (dD a.N s.y s.g s.ws)⟩
def gL:cu:=⟨fun _=>-1,[],[]⟩
def cq.j2 (a:Wc)(S:cq):cu×List b7:=(S.s.j0 a).sp ((S.s.j0 a).cJ gL 12,S.q)
def cq.cA (a:Wc)(S:cq):cu:=((S.s.j0 a).eW (S.j2 a) S.r).1
def cq.r3 (a:Wc)(S:cq):List b7:=(S.s.j0 a).sR (S.j2 a) S.r
def cq.q3 (a:Wc)(S:cq):List b7:=(S.s.j0 a).jf (S.j2 a) S.r
def cq.cE (a:Wc)(S:cq):cu:=((S.s.j0 a).pl (S.cA a)).1
def cq.n4 (a:Wc)(S:cq):Int:=((S.s.j0 a).pl (S.cA a)).2-a.N
def cq.fM (a:Wc)(S:cq):Bool:=decide ((a.O:Int)<S.n4 a)
def cq.k5 (a:Wc)(S:cq):b9:=(S.s.j0 a).e3 (S.cE a)
def cq.dC (a:Wc)(S:cq):cu:=((S.k5 a).tS (S.cE a,S.q3 a) (S.r3 a)).1
def cq.k6 (a:Wc)(S:cq):b9:=(S.k5 a).sl (S.dC a)
def cq.dy (a:Wc)(S:cq):cq:=if S.fM a=true then S else⟨(S.k6 a).s,(S.k5 a).tR (S.cE a,S.q3 a) (S.r3 a),(S.k5 a).ie (S.cE a,S.q3 a) (S.r3 a)⟩
def cq.ig (a:Wc)(S:cq):Int:=if S.fM a=true then 3 else 0
section
variable {a:Wc}{s:d9}
theorem yA {p:Int->Bool}{l:List Int}{x:Int}(h:x∈eb p l):x∈l:=(List.mem_filter.1 h).1
theorem yC (p:Int->Bool)(l:List Int):(eb p l).length<=l.length:=bm _ _
theorem cV.start (hN:a.N<=256)(hO:a.O<=1024)(hy:s.y<=a.N)(hg:s.g<=a.O):cV (s.j0 a) gL:=by
 have f:∀x∈(s.j0 a).Y,0<=x/\x<s.y:=fun x b=>by
  have c:=n5 x (yA b)
  omega
 have g:∀x∈(s.j0 a).G,(a.N:Int)<=x/\x<(a.N:Int)+s.g:=fun x b=>by
  have c:=mP _ _ x (yA b)
  omega
 have nd:(s.j0 a).T.Nodup:=by
  unfold b9.T;rw[List.nodup_append];refine⟨(qr 2000 _).filter _,(qr 2000 0).filter _,fun x b z hz e=>?_⟩
  have c:=g x b;have i:=f z hz;omega
 have tl:(s.j0 a).T.length<=4000:=by
  unfold b9.T;rw[aX];have c:(s.j0 a).G.length<=2000:=aT (yC _ _) (iL _ _)
  have i:(s.j0 a).Y.length<=2000:=aT (yC _ _) (iL _ _)
  omega
 refine⟨nd,fun x b=>?_,fun x b=>by simp[gL] at b,fun x b=>by simp[gL] at b,tl,?_⟩
 ·rcases List.mem_append.1 b with d|d
  ·have:=g x d;omega
  ·have:=f x d;omega
 ·exact bm _ _
end
def b9.oe (k:b9)(s:cu)(a:Int):Prop:=∀i:Nat,(i:Int)<pf (k.ld a)->k.cS s (k.ld (a+1+i))=false
section
variable {k:b9}{C X:Int->Prop}{s:cu}
theorem b9.pm {x:Int}(h:k.jt x=true):k.cS s x=false↔s.f (cg x)≠-1:=by unfold b9.cS;rw[h,Bool.true_and,beq_eq_false_iff_ne]
theorem a_ (a b:Bool):((a && b) = Bool.true) = (a = Bool.true /\ b = Bool.true):=Bool.and_eq_true ..
theorem og {x:Int}(h:k.jt x=true):cg x∈k.T:=by unfold b9.jt at h;rw[a_] at h;exact List.contains_iff_mem.1 h.2
structure dQ (k:b9)(s t:cu):Prop where
 f:∀b,s.f b≠-1->t.f b=s.f b
theorem dQ.cS {t:cu}(h:dQ k s t){y:Int}(hy:k.cS s y=false):k.cS t y=false:=by
 cases hj:k.jt y
 ·unfold b9.cS;rw[hj];rfl
 ·rw[b9.pm hj] at hy⊢;rw[h.f _ hy];exact hy
theorem dQ.refl (s:cu):dQ k s s:=⟨fun _ _=>rfl⟩
theorem dQ.trans {t c:cu}(h:dQ k s t)(j:dQ k t c):dQ k s c:=⟨fun b hb=>by have e:=h.f b hb;rw[j.f b (by rw[e];exact hb),e]⟩
theorem dQ.oe {t:cu}(h:dQ k s t){a:Int}(ha:k.oe s a):k.oe t a:=fun i hi=>h.cS (ha i hi)
end
structure m4 (k:b9)(s:cu)(a:Int):Prop where
 p:pk (k.ld a)=1\/pk (k.ld a)=2->k.oe s a
 w:pk (k.ld a)=3->k.cS s (k.ld (a+2))=false
 e:pk (k.ld a)=4->a∈s.ep\/k.cS s (k.ld (a+2))=false
structure cZ (k:b9)(X:Int->Prop)(s:cu):Prop where
 eX:cV k s
 self:∀a∈k.T,s.f a≠-1->s.f a=a
 td:∀a∈s.td,s.f a≠-1
 cmp:∀a∈k.T,s.f a≠-1->a∈s.td\/X a\/m4 k s a
section
variable {k:b9}{X:Int->Prop}{s t:cu}
theorem m4.le {a:Int}(h:m4 k s a)(l:dQ k s t)(he:∀b∈s.ep,b∈t.ep):m4 k t a:=
 ⟨fun q=>l.oe (h.p q),fun q=>l.cS (h.w q),fun q=>(h.e q).imp (he a) l.cS⟩
theorem qA (k:b9)(s:cu)(x:Int):(k.ma s x).ep=s.ep:=by unfold b9.ma;split<;>rfl
theorem cZ.ma (h:cZ k X s)(x:Int):cZ k X (k.ma s x)/\dQ k s (k.ma s x)/\k.cS (k.ma s x) x=false:=by
 by_cases c:k.cS s x=true
 ·obtain⟨o,l,m⟩:=b9.qw c;have hp:=(h.eX.ps _ l).1;have n:k.jt x=true:=by unfold b9.cS at c;rw[a_] at c;exact c.1
  have e:k.ma s x={s with f:=gz s.f (cg x) (cg x),td:=s.td++[cg x]}:=by unfold b9.ma;rw[aI c]
  have i:∀b,(k.ma s x).f b=if b=cg x then cg x else s.f b:=fun b=>by rw[e];rfl
  have j:(k.ma s x).td=s.td++[cg x]:=by rw[e]
  have le:dQ k s (k.ma s x):=⟨fun b hb=>by rw[i,aG (fun e=>hb (by rw[e];exact m))]⟩
  refine⟨⟨(h.eX.ma x).1,fun b hb g=>?_,fun b hb=>?_,fun b hb g=>?_⟩,le,?_⟩
  ·rw[i] at g⊢;by_cases d:b=cg x
   ·rw[aI d,d]
   ·rw[aG d] at g⊢;exact h.self b hb g
  ·rw[j] at hb;rw[i];by_cases d:b=cg x
   ·rw[aI d];omega
   ·rw[aG d];rcases List.mem_append.1 hb with hb|hb
    ·exact h.td b hb
    ·exact absurd (List.mem_singleton.1 hb) d
  ·rw[j];by_cases d:b=cg x
   ·exact aK (by rw[d];simp)
   ·rw[i,aG d] at g;rcases h.cmp b hb g with q|q|q
    ·exact aK (aY _ q)
    ·exact aJ (aK q)
    ·exact aJ (aJ (q.le le (fun b hb=>by rw[qA];exact hb)))
  ·rw[b9.pm n,i,aI rfl];omega
 ·have e:k.ma s x=s:=by unfold b9.ma;rw[aG c]
  rw[e];exact⟨h,dQ.refl _,by simpa using c⟩
theorem FY (k:b9)(s:cu)(a:Int):∀n,(k.e7 s a n).ep=s.ep
 |0=>rfl
 |n+1=>(qA _ _ _).trans (FY k s a n)
theorem cZ.e7 (h:cZ k X s)(a:Int):∀n:Nat,cZ k X (k.e7 s a n)/\dQ k s (k.e7 s a n)/\∀i:Nat,i<n->k.cS (k.e7 s a n) (k.ld (a+1+i))=false
 |0=>⟨h,dQ.refl _,fun i hi=>V⟩
 |n+1=>by obtain⟨h1,h2,h3⟩:=cZ.e7 h a n;exact yu
theorem cZ.lk {x:Int}(h:cZ k (fun b=>b=x) s)(m:x∈k.T)(hr:k.lost s+s.td.length+s.ep.length+1<=k.T.length):cZ k (fun _=>False) (k.lk s x)/\dQ k s (k.lk s x):=by
 have d:∀e:cu,cZ k (fun b=>b=x) e->m4 k e x->cZ k (fun _=>False) e:=fun e f n=>⟨f.eX,f.self,f.td,fun a ha g=>by
  rcases f.cmp a ha g with q|q|q
  ·exact aK q
  ·rw[q];exact aJ (aJ n)
  ·exact aJ (aJ q)⟩
 have c:=(h.eX.lk m hr).1;unfold b9.lk at c⊢;by_cases c1:pk (k.ld x)=1\/pk (k.ld x)=2
 ·rw[aI c1];obtain⟨m1,j,l⟩:=h.e7 x _;exact⟨d _ m1 ⟨fun _ i hi=>l i V,fun q=>V,fun q=>V⟩,j⟩
 ·rw[aG c1] at c⊢;by_cases c3:pk (k.ld x)=3
  ·rw[aI c3];obtain⟨m1,j,l⟩:=h.ma _;exact⟨d _ m1 ⟨fun q=>absurd q c1,fun _=>l,fun q=>V⟩,j⟩
  ·rw[aG c3] at c⊢;by_cases c4:pk (k.ld x)=4
   ·rw[aI c4] at c⊢;have le:dQ k s {s with ep:=s.ep++[x]}:=⟨fun _ _=>rfl⟩
    refine⟨d _ ⟨c,h.self,h.td,fun a ha g=>?_⟩ ⟨fun q=>absurd q c1,fun q=>absurd q c3,fun _=>aK Z⟩,le⟩
    exact(h.cmp a ha g).imp id (fun q=>q.imp id (fun q=>q.le le (fun b hb=>aY _ hb)))
   ·rw[aG c4];exact⟨d _ h ⟨fun q=>absurd q c1,fun q=>absurd q c3,fun q=>absurd q c4⟩,dQ.refl _⟩
theorem cZ.l1 (h:cZ k (fun _=>False) s)(hl:0<s.td.length):cZ k (fun _=>False) (k.l1 s)/\dQ k s (k.l1 s):=by
 obtain⟨x,c⟩:∃x,s.td.getD (s.td.length-1) 0=x:=⟨_,rfl⟩
 have hm:x∈s.td:=by rw[<-c,aE,aL V];exact a6 _
 have d:∀b,b∈s.td->b∈s.td.take (s.td.length-1)\/b=x:=fun b hb=>by
  have e:=gx s.td (s.td.length-1) V 0;rw[show s.td.length-1+1=s.td.length from by omega,bu,c] at e;have f:b∈s.td.take (s.td.length-1)++[x]:=by rw[<-e];exact hb
  rcases List.mem_append.1 f with hb|hb
  ·exact aK hb
  ·exact aJ (List.mem_singleton.1 hb)
 have hs:=h.eX.sum;have l:(s.td.take (s.td.length-1)).length=s.td.length-1:=by rw[bw];omega
 have j0:cV k {s with td:=s.td.take (s.td.length-1)}:=⟨h.eX.nd,h.eX.ps,fun a ha=>h.eX.td a (List.mem_of_mem_take ha),h.eX.ep,h.eX.tl,by show k.lost s+(s.td.take _).length+s.ep.length<=_;omega⟩
 have h0:cZ k (fun b=>b=x) {s with td:=s.td.take (s.td.length-1)}:=⟨j0,h.self,fun a ha=>h.td a (List.mem_of_mem_take ha),fun a ha g=>by
  rcases h.cmp a ha g with q|q|q
  ·exact(d a q).imp id aK
  ·exact absurd q id
  ·exact aJ (aJ ⟨q.p,q.w,q.e⟩)⟩
 obtain⟨m1,i⟩:=h0.lk (h.eX.td x hm) (by show k.lost s+(s.td.take _).length+s.ep.length+1<=_;omega)
 have j:k.l1 s=k.lk {s with td:=s.td.take (s.td.length-1)} x:=by unfold b9.l1;rw[c]
 rw[j];exact⟨m1,⟨fun b hb=>i.f b hb⟩⟩
theorem cZ.lm:∀(n:Nat){s:cu},cZ k (fun _=>False) s->cZ k (fun _=>False) (k.lm n s)/\dQ k s (k.lm n s)
 |0,s,h=>⟨h,dQ.refl _⟩
 |n+1,s,h=>by
  unfold b9.lm;by_cases c:0<s.td.length
  ·rw[aI c];obtain⟨b,d⟩:=h.l1 c;obtain⟨e,j2⟩:=cZ.lm n b;exact⟨e,d.trans j2⟩
  ·rw[aG c];exact⟨h,dQ.refl _⟩
theorem cZ.eJ (h:cZ k (fun _=>False) s):cZ k (fun _=>False) (k.eJ s)/\dQ k s (k.eJ s)/\(k.eJ s).td=[]:=by obtain⟨b,c⟩:=cZ.lm _ h;exact⟨b,c,Fc h.eX⟩
theorem cZ.iC:∀(l:List Int){t:List Int×cu},cZ k X t.2->cZ k X (l.foldl k.cP t).2/\dQ k t.2 (l.foldl k.cP t).2/\(l.foldl k.cP t).2.ep=t.2.ep/\(∀a∈t.1,a∈(l.foldl k.cP t).1)/\∀a∈l,a∈(l.foldl k.cP t).1\/k.cS (l.foldl k.cP t).2 (k.ld (a+2))=false
 |[],t,h=>⟨h,dQ.refl _,rfl,fun _ q=>q,fun a ha=>by cases ha⟩
 |a::l,t,h=>by
  have key:cZ k X (k.cP t a).2/\dQ k t.2 (k.cP t a).2/\(k.cP t a).2.ep=t.2.ep/\(∀b∈t.1,b∈(k.cP t a).1)/\(a∈(k.cP t a).1\/k.cS (k.cP t a).2 (k.ld (a+2))=false):=by
   unfold b9.cP;split
   ·exact⟨h,dQ.refl _,rfl,fun b hb=>aY _ hb,aK Z⟩
   ·obtain⟨m1,f,g⟩:=h.ma _;exact⟨m1,f,qA _ _ _,fun _ hb=>hb,aJ g⟩
  obtain⟨k1,i,j,m,k5⟩:=key;obtain⟨n,c,o,d,p⟩:=cZ.iC l k1;refine⟨n,i.trans c,o.trans j,fun b hb=>d b (m b hb),fun b hb=>?_⟩
  rcases List.mem_cons.1 hb with e|hb
  ·rw[e];exact k5.imp (d a) c.cS
  ·exact p b hb
theorem cZ.kv (h:cZ k (fun _=>False) s):cZ k (fun _=>False) (k.kv s).2/\dQ k s (k.kv s).2:=by
 obtain⟨b,e,f,_,g⟩:=cZ.iC s.ep (t:=([],s)) h;have b:=b;have le:dQ k (k.du s s.ep).2 (k.kv s).2:=⟨fun _ _=>rfl⟩
 refine⟨⟨h.eX.kv.1,b.self,b.td,fun a ha i=>?_⟩,e.trans le⟩
 rcases b.cmp a ha i with q|q|q
 ·exact aK q
 ·exact absurd q id
 ·refine aJ (aJ ⟨fun c=>le.oe (q.p c),fun c=>le.cS (q.w c),fun c=>?_⟩)
  rcases q.e c with d|d
  ·rw[f] at d;exact(g a d).imp id le.cS
  ·exact aJ (le.cS d)
theorem yD:∀(l:List Int)(t:List Int×cu),t.1.length+l.length<=(l.foldl k.cP t).1.length->l.foldl k.cP t=(t.1++l,t.2)/\∀a∈l,k.cS t.2 (k.ld (a+1))=true
 |[],t,_=>⟨Z,fun a ha=>by cases ha⟩
 |a::l,t,h=>by
  have f:∀(l:List Int)(t:List Int×cu),(l.foldl k.cP t).1.length<=t.1.length+l.length:=fun l=>by
   induction l with
   |nil=>intro t;simp
   |cons b l g=>
    intro t;rw[a8];have q:=g (k.cP t b)
    have d:(k.cP t b).1.length<=t.1.length+1:=by
     unfold b9.cP;split
     ·simp
     ·simp
    simp only [List.length_cons];omega
  rw[a8] at h⊢;simp only [List.length_cons] at h;by_cases c:k.cS t.2 (k.ld (a+1))=true
  ·have e:k.cP t a=(t.1++[a],t.2):=by unfold b9.cP;rw[aI c]
   rw[e] at h⊢;obtain⟨q1,d⟩:=yD l (t.1++[a],t.2) (by simp only [List.length_append,List.length_cons,List.length_nil];omega)
   rw[q1];refine⟨Z,fun b hb=>?_⟩
   rcases List.mem_cons.1 hb with e|hb
   ·rw[e];exact c
   ·exact d b hb
  ·have e:k.cP t a=(t.1,k.ma t.2 (k.ld (a+2))):=by unfold b9.cP;rw[aG c]
   rw[e] at h;have:=f l (t.1,k.ma t.2 (k.ld (a+2)))
   dsimp only at this
   omega
theorem FZ (h:(k.kv s).1=false):(k.kv s).2=s/\∀a∈s.ep,k.cS s (k.ld (a+1))=true:=by
 have c:=of_decide_eq_false h;obtain⟨q1,b⟩:=yD s.ep ([],s) (by show 0+s.ep.length<=(k.du s s.ep).1.length;omega)
 have q1:k.du s s.ep=(s.ep,s):=by have:k.du s s.ep=([]++s.ep,s):=q1;simpa using this
 refine⟨?_,b⟩
 unfold b9.kv;rw[q1]
end
structure fN (k:b9)(s:cu)(q:List b7):Prop where
 jR:cZ k (fun _=>False) s
 td:s.td=[]
 ep:∀a∈s.ep,k.cS s (k.ld (a+1))=true
 wq:∀e∈q,k.al s e.2=true\/k.al s e.1=false
section
variable {k:b9}{s:cu}
theorem yE {t:cu}(l:dQ k s t){x:Int}(h:k.al s x=true):k.al t x=true:=by unfold b9.al at h⊢;rw[l.cS (by simpa using h)];rfl
theorem FR {b:Type}(l:List b)(i:Nat)(c:b):l.set i (l.getD i c)=l:=by
 by_cases h:i<l.length
 ·rw[aE,aL h];simp
 ·rw[List.set_eq_of_length_le V]
theorem cZ.kn:∀(l:List Nat)(t:(cu×List b7)×Bool),cZ k (fun _=>False) t.1.1->cZ k (fun _=>False) (l.foldl (dB k.al k.mp) t).1.1/\dQ k t.1.1 (l.foldl (dB k.al k.mp) t).1.1/\(l.foldl (dB k.al k.mp) t).1.2=t.1.2/\
 ((l.foldl (dB k.al k.mp) t).2=false->t.2=false/\l.foldl (dB k.al k.mp) t=t/\∀i∈l,k.al t.1.1 (t.1.2.getD i (0,0)).2=true\/k.al t.1.1 (t.1.2.getD i (0,0)).1=false)
 |[],t,h=>⟨h,dQ.refl _,rfl,fun e=>⟨e,rfl,fun i hi=>by cases hi⟩⟩
 |i::l,t,h=>by
  rw[a8];by_cases c:(k.al t.1.1 (t.1.2.getD i (0,0)).2||!k.al t.1.1 (t.1.2.getD i (0,0)).1)=true
  ·have e:dB k.al k.mp t i=t:=by unfold dB;rw[aI c]
   rw[e];obtain⟨b,d,f,g⟩:=cZ.kn l t h;refine⟨b,d,f,fun q=>?_⟩
   obtain⟨q1,n,q3⟩:=g q;refine⟨q1,n,fun j m=>?_⟩
   rcases List.mem_cons.1 m with e|m
   ·rw[e];rw[Bool.or_eq_true] at c;exact c.imp id (fun c=>by simpa using c)
   ·exact q3 j m
  ·have e:dB k.al k.mp t i=((k.ma t.1.1 (t.1.2.getD i (0,0)).2,t.1.2),true):=by exact yt
   rw[e];obtain⟨m1,o,_⟩:=h.ma _;obtain⟨b,d,f,g⟩:=cZ.kn l ((k.ma t.1.1 _,t.1.2),true) m1;refine⟨b,o.trans d,f,fun q=>?_⟩
   have:=(g q).1;cases this
theorem cZ.wa {t:cu×List b7}(h:cZ k (fun _=>False) t.1):cZ k (fun _=>False) (k.wa t).1.1/\dQ k t.1 (k.wa t).1.1/\(k.wa t).1.2=t.2/\((k.wa t).2=false->(k.wa t).1=t/\∀e∈t.2,k.al t.1 e.2=true\/k.al t.1 e.1=false):=by
 obtain⟨b,c,d,f⟩:=cZ.kn _ (t,false) h;refine⟨b,c,d,fun q=>?_⟩
 obtain⟨_,g,q3⟩:=f q;refine⟨?_,fun e he=>?_⟩
 ·show(gI k.al k.mp t _).1=t;unfold gI;rw[g]
 ·obtain⟨i,hi,j⟩:=List.mem_iff_getElem.1 he;have:=q3 i (by simpa using hi)
  have l:t.2.getD i (0,0)=e:=by rw[aE,aL hi,j];rfl
  rw[l] at this
  exact this
theorem cZ.cW:∀(n:Nat)(t:cu×List b7),cZ k (fun _=>False) t.1->cZ k (fun _=>False) (k.cW n t).1/\dQ k t.1 (k.cW n t).1/\(k.cW n t).2=t.2/\(k.mu t.1<n->fN k (k.cW n t).1 (k.cW n t).2)
 |0,t,h=>⟨h,dQ.refl _,rfl,fun e=>V⟩
 |n+1,t,h=>by
  obtain⟨l1,l2,j⟩:=h.eJ;obtain⟨v1,v2⟩:=l1.kv;have m1:=(dt.eJ h.eX).mu;obtain⟨u,l⟩:=dt.kv l1.eX;unfold b9.cW;by_cases c:(k.kv (k.eJ t.1)).1=true
  ·rw[aI c];obtain⟨d,f,g,i⟩:=cZ.cW n ((k.kv _).2,t.2) v1;have:=l c;exact⟨d,(l2.trans v2).trans f,g,fun e=>i (by dsimp only;omega)⟩
  ·rw[aG c];have c2:(k.kv (k.eJ t.1)).1=false:=by simpa using c
   obtain⟨s1,s2⟩:=FZ c2;rw[s1];obtain⟨w1,m,o,p⟩:=cZ.wa (t:=(k.eJ t.1,t.2)) l1;by_cases b:(k.wa (k.eJ t.1,t.2)).2=true
   ·rw[aI b];obtain⟨d,f,g,i⟩:=cZ.cW n _ w1;have:=(dt.wa l1.eX).2.2 b;dsimp only at this
    exact⟨d,(l2.trans m).trans f,g.trans o,fun e=>i V⟩
   ·rw[aG b];have q:(k.wa (k.eJ t.1,t.2)).2=false:=by simpa using b
    obtain⟨q1,s⟩:=p q;rw[q1];exact⟨l1,l2,rfl,fun _=>⟨l1,j,s2,s⟩⟩
theorem cZ.sp {t:cu×List b7}(h:cZ k (fun _=>False) t.1):fN k (k.sp t).1 (k.sp t).2/\dQ k t.1 (k.sp t).1/\(k.sp t).2=t.2:=by obtain⟨e,b,c,d⟩:=cZ.cW _ t h;exact⟨d V,b,c⟩
theorem cZ.ke {t:cu×List b7}(h:cZ k (fun _=>False) t.1)(x:Int):fN k (k.ke t x).2.1 (k.ke t x).2.2/\dQ k t.1 (k.ke t x).2.1/\(k.ke t x).2.2=t.2/\k.al (k.ke t x).2.1 x=true:=by
 obtain⟨m1,c,d⟩:=h.ma x;obtain⟨e,b,f⟩:=cZ.sp (t:=(k.ma t.1 x,t.2)) m1;refine⟨e,c.trans b,f,?_⟩
 show(!k.cS (k.sp (k.ma t.1 x,t.2)).1 x)=true;rw[(b.cS d)];rfl
def b9.fF (k:b9):cu×List b7->b7->Bool×(cu×List b7):=cm (dI cu) (fun s x=>k.al s.1 x) k.ke
theorem fN.cm {t:cu×List b7}(h:fN k t.1 t.2)(e:b7):fN k (k.fF t e).2.1 (k.fF t e).2.2/\dQ k t.1 (k.fF t e).2.1:=by
 unfold b9.fF;cases c:k.al t.1 e.1
 ·rw[mS (o:=dI cu) (is:=fun s x=>k.al s.1 x) (kp:=k.ke) (s:=t) (e:=e) c];exact⟨h,dQ.refl _⟩
 ·rw[mT (o:=dI cu) (is:=fun s x=>k.al s.1 x) (kp:=k.ke) (s:=t) (e:=e) c];obtain⟨b,d,i,f⟩:=h.jR.ke e.2;show fN k (k.ke t e.2).2.1 ((k.ke t e.2).2.2++[(e.1,e.2)])/\dQ k t.1 (k.ke t e.2).2.1;refine⟨⟨b.jR,b.td,b.ep,fun g hd=>?_⟩,d⟩
  rcases List.mem_append.1 hd with hd|hd
  ·exact b.wq g hd
  ·rw[List.mem_singleton.1 hd];exact aK f
theorem fN.pl:∀(l:List b7)(b:List b7×List b7×(cu×List b7)),fN k b.2.2.1 b.2.2.2->fN k (l.foldl (eh k.fF) b).2.2.1 (l.foldl (eh k.fF) b).2.2.2/\dQ k b.2.2.1 (l.foldl (eh k.fF) b).2.2.1
 |[],b,h=>⟨h,dQ.refl _⟩
 |e::l,b,h=>by
  have key:(eh k.fF b e).2.2=(k.fF b.2.2 e).2:=by unfold eh;split<;>rfl
  obtain⟨c1,c2⟩:=h.cm e;rw[<-key] at c1 c2;obtain⟨c,d⟩:=fN.pl l _ c1;exact⟨c,c2.trans d⟩
theorem fN.eB:∀(n:Nat)(t:cu×List b7)(b:List b7),fN k t.1 t.2->fN k (eB k.fF n t b).1.1 (eB k.fF n t b).1.2/\dQ k t.1 (eB k.fF n t b).1.1
 |0,t,b,h=>⟨h,dQ.refl _⟩
 |n+1,t,b,h=>by
  obtain⟨d,e⟩:=fN.pl b ([],[],t) h;have d:fN k (pts k.fF t b).2.2.1 (pts k.fF t b).2.2.2:=d;have e:dQ k t.1 (pts k.fF t b).2.2.1:=e;by_cases c:(pts k.fF t b).1.length=0
  ·rw[lR _ _ _ _ c];exact⟨d,e⟩
  ·rw[lS _ _ _ _ c];obtain⟨f,g⟩:=fN.eB n (pts k.fF t b).2.2 (pts k.fF t b).2.1 d;exact⟨f,e.trans g⟩
theorem fN.eW {t:cu×List b7}(h:fN k t.1 t.2)(r:List b7):fN k (k.eW t r).1 (k.eW t r).2/\dQ k t.1 (k.eW t r).1:=fN.eB _ t _ h
theorem cZ.start (h:cV k gL){X:Int->Prop}:cZ k X gL:=⟨h,fun _ _ b=>absurd rfl b,fun _ ha=>by simp[gL] at ha,fun _ _ b=>absurd rfl b⟩
theorem cZ.cJ {X:Int->Prop}(h:cZ k X s):∀n,cZ k X (k.cJ s n)/\dQ k s (k.cJ s n)/\∀i,i<n->k.cS (k.cJ s n) (k.s.rs.getD i 0)=false
 |0=>⟨h,dQ.refl _,fun i hi=>V⟩
 |n+1=>by obtain⟨h1,h2,h3⟩:=cZ.cJ h n;exact yu
end
theorem oh {a:Wc}{S:cq}(c:cV (S.s.j0 a) gL):fN (S.s.j0 a) (S.cA a) ((S.s.j0 a).eW (S.j2 a) S.r).2/\dQ (S.s.j0 a) (S.j2 a).1 (S.cA a)/\∀i,i<12->(S.s.j0 a).cS (S.cA a) (S.s.rs.getD i 0)=false:=by obtain⟨d,_,e⟩:=(cZ.start c).cJ 12;obtain⟨f,g,_⟩:=cZ.sp (t:=((S.s.j0 a).cJ gL 12,S.q)) d;obtain⟨j,b⟩:=fN.eW f S.r;exact⟨j,b,fun i hi=>b.cS (g.cS (e i hi))⟩
end Go.Proofs.YtpkjkjhanlbcoaaGreat
