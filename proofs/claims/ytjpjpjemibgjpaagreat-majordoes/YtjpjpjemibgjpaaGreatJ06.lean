import Derived.Test.YtjpjpjemibgjpaaGreatJ05
import Derived.Test.YtjpjpjemibgjpaaGreatJ01
import Derived.Test.YtjpjpjemibgjpaaGreatJ00
import Derived.Test.YtjpjpjemibgjpaaGreatJ02
import Derived.Test.YtjpjpjemibgjpaaGreatJ04
namespace Go.Proofs.YtjpjpjemibgjpaaGreat
set_option maxRecDepth 100000
set_option maxHeartbeats 2000000
open Tryz
open Go.RowKit W Kp bY
theorem kz (x:Int)(h:(Lit.int .i64 x).wf=true):plainElem (H:=Unit) prog 3 (.int .i64 x)=some (.lit (.int .i64 x),[]):=plainElem_int Tryz.underlying3 h
theorem hF {a:Int}(h0:0<=a)(b:a<1152921504606846976):keyOf prog 3 (.int .i64 a)=some (.int .i64 a):=Maps.keyOf_int_mk Tryz.underlying3 (WalkArith.wf_i64 ⟨I,I⟩)
theorem Nm.add {w w':World}{bW n:Nat}{T:List Int}{a:Int}{D:DataW Unit}(d:w.ownsMap prog 3 (plainElem prog 3) bW T.length D)(g:∀a:Int,Maps.has D (.int .i64 a)=T.contains a)(i:∀a∈T,D.atKey (.int .i64 a) (.lit (.int .i64 0))=.lit (.int .i64 (nb [] a)))
 (j:n=T.length+1)(f:w'.ownsMap prog 3 (plainElem prog 3) bW n (D.put (.int .i64 a) (.lit (.int .i64 (-1))))):Nm w' bW (T++[a]) []:=by
 refine⟨_,by rw[j] at f;simpa using f,fun b=>?_,fun b c=>?_⟩
 ·by_cases e:b=a
  ·subst e;rw[Maps.has_put_same (k:=.int .i64 b) d.isMap trivial];simp
  ·rw[Maps.has_put_other (by simpa using e),g];simp[e]
 ·by_cases e:b=a
  ·subst e;rw[Maps.atKey_put_same (k:=.int .i64 b) d.isMap trivial];rfl
  ·rw[Maps.atKey_put_other (by simpa using e)];refine i b ?_;rcases List.mem_append.1 c with c|c
   ·exact c
   ·simp at c;exact absurd c e
theorem Nm.put {w w':World}{bW n:Nat}{T ms:List Int}{a:Int}{D:DataW Unit}(c:w.ownsMap prog 3 (plainElem prog 3) bW T.length D)(d:∀a:Int,Maps.has D (.int .i64 a)=T.contains a)(f:∀a∈T,D.atKey (.int .i64 a) (.lit (.int .i64 0))=.lit (.int .i64 (nb ms a)))
 (ha:a∈T)(hm:a∉ms)(g:w'.ownsMap prog 3 (plainElem prog 3) bW n (D.put (.int .i64 a) (.lit (.int .i64 ms.length)))):Nm w' bW T (ms++[a]):=by
 have hs:Maps.size (D.put (.int .i64 a) (.lit (.int .i64 ms.length)))<=T.length:=by rw[Maps.size_put (c.tidy gz),d,aq (by simpa using ha)];exact c.size_le
 refine⟨_,(o7 g rfl).mono hs,fun b=>?_,fun b i=>?_⟩
 ·by_cases e:b=a
  ·subst e;rw[Maps.has_put_same (k:=.int .i64 b) c.isMap trivial];simp[ha]
  ·rw[Maps.has_put_other (by simpa using e),d]
 ·rw[w4 hm];by_cases e:b=a
  ·subst e;rw[Maps.atKey_put_same (k:=.int .i64 b) c.isMap trivial,aq rfl]
  ·rw[Maps.atKey_put_other (by simpa using e),ao e];exact f b i
section
variable {w:World}{pw p q N O y g:Nat}{ws:List Int}
theorem lx (a:Int)(h:a∈dv N y g ws):0<=a/\a<y:=ku _ _ _ h
theorem ng (a:Int)(h:a∈c8 N y g ws):(N:Int)<=a/\a<(N:Int)+g:=ku _ _ _ h
theorem aU {α:Type _}(«as» bs cs:List α):«as» ++ bs ++ cs = «as» ++ (bs ++ cs):=List.append_assoc ..
theorem w8 (c0:w.cell? (ah pw 0)=some (af p))(h:At w p q N O y g ws):
 Calls prog 47 #[af pw] w fun e w'=>∃aB bW,e=.returned (af aB)/\Wk w w' aB bW pw (dv N y g ws++c8 N y g ws) ([],[]) (.slice none 0 0) []:=by
 have bP:=@run_makeMap prog;have bg:=au w _ c0;have aF:(dv N y g ws).length<=2000:=gx _ _;have hO:(c8 N y g ws).length<=2000:=gx _ _;have aR:=kz (-1) Z;have k1:=h.hN';have bQ:=h.hy;have bS:=h.hO;have bT:=h.hg;have G:Hid (∀a∈dv N y g ws,0<=a/\a<2000):=fun a ha=>by have:=lx a ha;omega
 have J:Hid (∀a∈c8 N y g ws,0<=a/\a<2000):=fun a ha=>by have:=ng a ha;omega
 have aT:=World.ownsMap_made w prog 3 (plainElem (H:=Unit) prog 3)
 have aV:Nm (w.alloc (.map #[] 0)) w.heap.size [] []:=⟨_,aT,fun _=>rfl,fun a ha=>by simp at ha⟩
 have n:=((Below.refl w.heap.size w).alloc bJ (.map #[] 0)).alloc V (.cells #[af pw,.map (some w.heap.size),.slice none 0 0] 110)
 have a0:=h.below n bJ
 have K:=aw (w.alloc (.map #[] 0)) (.cells #[af pw,.map (some w.heap.size),.slice none 0 0] 110)
 have a1:=aV.same (w':=(w.alloc (.map #[] 0)).alloc (.cells #[.pointer (some ⟨pw,0,none⟩),.map (some w.heap.size),.slice none 0 0] 110)) (Below.heap_alloc _ _ _ V)
 have bi:=(n.cell (p:=ah pw 0) bg).trans c0;have P:=nf _ a0;clear aT aV h a0;generalize dv N y g ws=eE at P aF hO G J⊢;generalize c8 N y g ws=d at P aF hO G J⊢;go_enter func47,ntmps47;go_wp2_with fail;refine P.mono ?_;clear P;rintro e t ⟨v1,v2,rfl,u,v,F⟩
 obtain⟨a2,bl,rfl⟩:=dG u;obtain⟨a3,bn,rfl⟩:=dG v;have bo:=n.trans (F.mono n.size)
 rw[World.size_alloc] at K;have L:=(F.block (w.heap.size+1) V).trans K;have bb:=a1.same (F.block w.heap.size (by simp;omega))
 have M:=ga u;have Q:=ga v;have bd:∀k,some k=(Value.slice a2 (eE).length bl).ownBlock->k≠w.heap.size:=fun k e=>by have:=(bR u k e).1;simp at this;omega
 have be:∀k,some k=(Value.slice a3 (d).length bn).ownBlock->k≠w.heap.size:=fun k e=>by have:=(bR v k e).1;simp at this;omega
 have bp:Hid (∀w3,Fr (fun k=>k=w.heap.size) t w3->fZ w3 a2 (eE)):=fun w3 f=>M.keep f.size (fun hp a e=>f.block _ (by obtain⟨b,o,l,R,_⟩:=M hp;rw[e] at l;cases l;exact R) (fun c=>by obtain⟨b,br,l⟩:=dP u hp;cases l;cases e;exact bd _ rfl c))
 have bs:Hid (∀w3,Fr (fun k=>k=w.heap.size) t w3->fZ w3 a3 (d)):=fun w3 f=>Q.keep f.size (fun hp a e=>f.block _ (by obtain⟨b,o,l,R,_⟩:=Q hp;rw[e] at l;cases l;exact R) (fun c=>by obtain⟨b,br,l⟩:=dP v hp;cases l;cases e;exact be _ rfl c))
 have S:w.heap.size+1<t.heap.size:=lt_of_some L;have U:Hid (t.heap[w.heap.size+1]?=some (.cells #[af pw,.map (some w.heap.size),.slice none 0 0] 110 (0,0))):=L;clear bd be M Q u v a1 K bi n F L;go_wp2_with fail
 go_loopw [24] (fun iv wr=>∃(j:Nat),j<=eE.length/\iv=ae j/\Nm wr w.heap.size (eE.take j) []/\Fr (fun k=>k=w.heap.size) t wr) (fun iv _=>eE.length-(intOf iv).toNat)
 case atStart=>exact⟨0,aA _,rfl,bb,Fr.refl _ _⟩
 case round=>
  obtain⟨j,bx,rfl,hN,i⟩:=hrel;clear bb;have W:wr.cell? (ah (w.heap.size+1) 1)=some (.map (some w.heap.size)):=by have:=(i.block (w.heap.size+1) S I).trans U.out;simp[World.cell?,this]
  by_cases m:j<eE.length
  ·obtain⟨b0,bL,X,n,hc⟩:=bp.out wr i I;have Y:=hc j m;subst X;clear hc;have A:eE.getD j 0∈eE:=by rw[aj,am m];exact aK m
   have ad:=G.out _ A;have B:Hid (eE.take (j+1)=eE.take j++[eE.getD j 0]):=eY eE j m 0;clear A;generalize eE.getD j 0=z at Y ad B;have ai:=hF (a:=z) I I;obtain⟨D,o1,C,E⟩:=hN;have bM:(eE.take j).length<100000:=by simp;omega
   have s:Hid (_/\_/\_):=⟨o1,C,E⟩
   clear C E;generalize eE.take j=al at*;go_wp2_with (first
    |(at_mapUpdate;refine wpList_mapUpdate_own _ rfl _ _ _ 108 rfl 3 3 gz Tryz.underlying108 (plainElem (H:=Unit) prog 3) w.heap.size al.length D rfl o1 (by unfold maxLen;omega) _ _ _ rfl rfl ai _ [] aR ?_;intro bN ar ax)
    |go_in)
   go_roundw
   case rel=>exact⟨j+1,I,ac,by rw[B.out];exact Nm.add s.out.1 s.out.2.1 s.out.2.2 rfl ar,i.grown ax (fun k e=>ap (by cases e;rfl))⟩
   case measure=>simp[intOf];omega
  ·obtain rfl:j=eE.length:=I;rw[aP] at hN;clear W;go_wp2_with fail
   go_loopw [36] (fun iv wr=>∃(j:Nat),j<=d.length/\iv=ae j/\Nm wr w.heap.size (eE++d.take j) []/\Fr (fun k=>k=w.heap.size) t wr) (fun iv _=>d.length-(intOf iv).toNat)
   case atStart=>exact⟨0,aA _,rfl,by simpa using hN,i⟩
   case round=>
    clear hN i;obtain⟨j,bx,rfl,hN,i⟩:=hrel;rename_i bU _ _ _ wr _ _;have W:wr.cell? (ah (w.heap.size+1) 1)=some (.map (some w.heap.size)):=by have:=(i.block (w.heap.size+1) S I).trans U.out;simp[World.cell?,this]
    by_cases m:j<d.length
    ·obtain⟨b0,bL,X,n,hc⟩:=bs.out wr i I;have Y:=hc j m;subst X;clear hc;have A:d.getD j 0∈d:=by rw[aj,am m];exact aK m
     have ad:=J.out _ A;have B:Hid (eE++d.take (j+1)=(eE++d.take j)++[d.getD j 0]):=by show _=_;rw[eY d j m 0,aU]
     clear A;generalize d.getD j 0=z at Y ad B;have ai:=hF (a:=z) I I;obtain⟨D,o1,C,E⟩:=hN;have bM:(eE++d.take j).length<100000:=by simp;omega
     have s:Hid (_/\_/\_):=⟨o1,C,E⟩
     clear C E;generalize eE++d.take j=al at*;go_wp2_with (first
      |(at_mapUpdate;refine wpList_mapUpdate_own _ rfl _ _ _ 108 rfl 3 3 gz Tryz.underlying108 (plainElem (H:=Unit) prog 3) w.heap.size al.length D rfl o1 (by unfold maxLen;omega) _ _ _ rfl rfl ai _ [] aR ?_;intro bN ar ax)
      |go_in)
     go_roundw
     case rel=>exact⟨j+1,I,ac,by rw[B.out];exact Nm.add s.out.1 s.out.2.1 s.out.2.2 rfl ar,i.grown ax (fun k e=>ap (by cases e;rfl))⟩
     case measure=>simp[intOf];omega
    ·obtain rfl:j=d.length:=I;rw[aP] at hN;clear W;go_wp2_with fail;go_ret;exact⟨w.heap.size+1,w.heap.size,rfl,(i.block (w.heap.size+1) S I).trans U.out,⟨I,ak _⟩,hN,aO _ _ _ _,rfl,fun x bO=>by simp at bO,bo.trans (i.below I (fun k e=>by have e:k=w.heap.size:=e;omega))⟩
end
def ed (w0 w:World)(m:List da)(w':World)(a:List da):Prop:=Kf w0.heap.size w w'/\∀k,eN a k->eN m k\/w.heap.size<=k
theorem ed.refl (w0 w:World)(m:List da):ed w0 w m w m:=⟨Kf.refl _ _,fun _ h=>ap h⟩
theorem ed.trans {w0 w w' a:World}{m b d:List da}(h:ed w0 w m w' b)(k:ed w0 w' b a d):ed w0 w m a d:=
 ⟨h.1.trans k.1,fun i hi=>(k.2 i hi).elim (h.2 i) (fun c=>an (az h.1.size c))⟩
theorem ed.of {w0 w w':World}{m:List da}(h:Below w.heap.size w w'):ed w0 w m w' m:=⟨Kf.of h,fun _ h=>ap h⟩
theorem ed.new {w0 w w' a:World}{m b:List da}{X:Nat->Prop}(h:ed w0 w m w' b)(f:Fr X w' a)(d:∀k,X k->w.heap.size<=k):ed w0 w m a b:=
 ⟨⟨f.os.trans h.1.os,f.tape.trans h.1.tape,f.output.trans h.1.output,az h.1.size f.size,fun k hk g=>(f.block k (av hk h.1.size) (fun c=>by have:=d k c;omega)).trans (h.1.low k hk g),
  fun k i e j hk l n=>(f.block k (av (lt_of_some hk) h.1.size) (fun c=>by have:=d k c;have:=lt_of_some hk;omega)).trans (h.1.eP k i e j hk l n)⟩,h.2⟩
section
variable {w0 w w':World}{kb bW pw:Nat}{T:List Int}{s:ck}{vn:Value}{m:List da}
theorem Wk.fb (h:Wk w0 w kb bW pw T s vn m)(k:Nat)(hk:eN m k):k<w.heap.size:=by obtain⟨x,c,hl,o,e⟩:=hk;obtain⟨b,f,g,a,d⟩:=(h.fl x c).2 hl;rw[e] at a;cases a;exact lt_of_some d
theorem Wk.but {X:Nat->Prop}(h:Wk w0 w kb bW pw T s vn m)(f:Fr X w w')(g:∀k,k<w.heap.size->X k->(∃a,w.heap[k]?=some (.cells a 77 (0,0)))/\¬eN m k/\w0.heap.size<=k):Wk w0 w' kb bW pw T s vn m:=by
 obtain⟨D,o1,q,t⟩:=h.mp;have n1:¬X kb:=fun c=>by obtain⟨⟨a,hc⟩,_⟩:=g kb (lt_of_some h.blk) c;rw[h.blk] at hc;simp at hc
 have o:¬X bW:=fun c=>by obtain⟨⟨a,hc⟩,_⟩:=g bW o1.lt c;obtain⟨u,v,d,_⟩:=o1;rw[d] at hc;simp at hc
 refine⟨(f.block kb (lt_of_some h.blk) n1).trans h.blk,h.lo,h.mp.same (f.block bW o1.lt o),ca h.row (fun k hk=>f.block k (bR h.row k hk).2 (fun c=>?_)),h.nd,fun x l=>?_,h.df.trans ⟨f.os,f.tape,f.output,f.size,fun k hk=>f.block k (av hk h.df.size) (fun c=>by have:=(g k (av hk h.df.size) c).2.2;omega)⟩⟩
 ·obtain⟨⟨a,hc⟩,_⟩:=g k (bR h.row k hk).2 c;obtain⟨A,p⟩:=dO h.row k hk;rw[p] at hc;simp at hc
 ·have hl:=h.fl x l;have hk:0<x.2.2.2.length->∀b,x.2.1=some b->w'.heap[b.block]?=w.heap[b.block]?:=fun hp b e=>by obtain⟨b0,j,a,i,d⟩:=hl.2 hp;have n:=e;rw[i] at n;cases n;exact f.block _ (lt_of_some d) (fun c=>(g _ (lt_of_some d) c).2.1 ⟨x,l,hp,j,i⟩)
  refine⟨hl.1.keep f.size hk,fun hp=>?_⟩
  obtain⟨b0,j,a,i,d⟩:=hl.2 hp;exact⟨b0,j,a,i,(hk hp _ i).trans d⟩
end
def jU (w0:World)(b bW pw:Nat)(T:List Int)(M:ck->Int->ck)(n:Nat):Prop:=
 ∀(w:World)(s:ck)(d:Value)(m:List da)(a:Int),Wk w0 w b bW pw T s d m->eb T s->a∈T->a∉s.1->T.length<=s.1.length+n->
  Calls prog 185 #[af b,ae a] w fun e w'=>∃f c,e=.returned (ae s.1.length)/\Wk w0 w' b bW pw T (M s a) f c/\ed w0 w m w' c
theorem kA:(prog.info? 77).map (fun i=>(i.zero,i.size,i.bytes))=some (some (.agg #[ae 0,ae 0]),2,16):=ab
section
variable {w0 w:World}{kb bW pw n:Nat}{T:List Int}{kd:Int->Int}{sh:Int->List Int}{M:ck->Int->ck}{s:ck}{vn:Value}{m:List da}
theorem w9 (h:Wk w0 w kb bW pw T s vn m)(a:Int)(g:0<=a)(a1:a<1152921504606846976)(d:T.contains a=false):
 Calls prog 165 #[af kb,ae a] w fun e w'=>∃x,e=.returned (.tuple #[ae x,.bool false])/\w'=w:=by
 obtain⟨c0,c1,c2,lk⟩:=h.cells;obtain⟨D,o1,f,i⟩:=h.mp;have j:=hF g a1;have b:=f a;rw[d] at b;have b:Hid (Maps.has D (.int .i64 a)=false):=b;clear h f i d;rename_i k;clear k;go_enter func165,ntmps165;go_wp2_with (at_lookup;refine wpList_lookup_own_ok_int _ rfl _ _ 108 rfl 3 3 .i64 gz Tryz.underlying108 Tryz.underlying3 (jm _) bW T.length D rfl o1 _ _ rfl j ?_;intro c l n;rw[b.out];clear l n)
 go_ret2;exact⟨c,rfl,rfl⟩
def jn (s:ck)(a:Int):Int:=if s.1.contains a=true then(s.1.idxOf a:Int) else s.1.length
def jo (M:ck->Int->ck)(s:ck)(a:Int):ck:=if s.1.contains a=true then s else M s a
theorem w_ (hM:jU w0 kb bW pw T M n)(h:Wk w0 w kb bW pw T s vn m)(o:eb T s)(p:T.length<=s.1.length+n)(a:Int)(F:0<=a)(a1:a<1152921504606846976)(f:a∈T):
 Calls prog 165 #[af kb,ae a] w fun e w'=>∃q k,e=.returned (.tuple #[ae (jn s a),.bool true])/\Wk w0 w' kb bW pw T (jo M s a) q k/\ed w0 w m w' k:=by
 have H:Hid (Wk w0 w kb bW pw T s vn m):=h;have t:Hid (jU w0 kb bW pw T M n):=hM;obtain⟨c0,c1,c2,lk⟩:=h.cells;obtain⟨D,o1,v,x⟩:=h.mp;have A:=hF F a1;have B:Hid (Maps.has D (.int .i64 a)=true):=(v a).trans (by simpa using f)
 have d:=x a f;clear h hM v x;by_cases b:a∈s.1
 ·rw[w6 b] at d;have l:Hid (_=_):=d;have g:jn s a=(s.1.idxOf a:Int):=by unfold jn;rw[aq (by simpa using b)]
  have i:jo M s a=s:=by unfold jo;rw[aq (by simpa using b)]
  rw[g,i];clear d t o p f b g i;generalize s.1.idxOf a=L at l⊢;have G:¬((L:Int)=-1):=I;have J:¬(-1=(L:Int)):=I;go_enter func165,ntmps165;go_wp2_with (at_lookup;refine wpList_lookup_own_ok_int _ rfl _ _ 108 rfl 3 3 .i64 gz Tryz.underlying108 Tryz.underlying3 (jm _) bW T.length D rfl o1 _ _ rfl A ?_;intro c j u;rw[B.out];(have hc:c=(L:Int):=by have:=j.symm.trans l.out;simpa using this);subst hc;clear j u)
  go_ret2;exact⟨vn,m,rfl,H.out,ed.refl _ _ _⟩
 ·rw[w5 b] at d;have l:Hid (_=_):=d;have g:jn s a=s.1.length:=by unfold jn;rw[ao (by simpa using b)]
  have i:jo M s a=M s a:=by unfold jo;rw[ao (by simpa using b)]
  rw[g,i];have P:=t.out w s vn m a H.out o f b p;clear d t o p f b g i;generalize M s a=s' at P⊢;generalize s.1.length=L at P⊢;go_enter func165,ntmps165;go_wp2_with (at_lookup;refine wpList_lookup_own_ok_int _ rfl _ _ 108 rfl 3 3 .i64 gz Tryz.underlying108 Tryz.underlying3 (jm _) bW T.length D rfl o1 _ _ rfl A ?_;intro c j u;rw[B.out];(have hc:c=-1:=by have:=j.symm.trans l.out;simpa using this);subst hc;clear j u)
  refine P.mono ?_;clear P;rintro e w1 ⟨q,k,rfl,C,k1⟩
  have E:Hid (_/\_):=⟨C,k1⟩
  clear C k1 c0 c1 c2;go_wp2_with fail;go_ret2;exact⟨q,k,rfl,E.out.1,E.out.2⟩
theorem rP (x:Int)(h:dk x=3):0<=cL x/\cL x<1152921504606846976:=by
 have h0:dc x=0:=by
  by_cases c:dc x=0
  ·exact c
  ·unfold dk at h;rw[ao c] at h;omega
 have a:=(qK x h0).1;rw[h] at a;rw[qR] at a;unfold rc at a;split at a
 ·omega
 ·split at a
  ·omega
  ·omega
theorem aC (w:World)(a b:Addr)(v:Value)(h:a ≠ b):(w.setCell a v).cell? b = w.cell? b:=by intros;apply World.cell?_setCell_other<;>assumption
theorem aH (w:World)(a:Addr)(v:Value){u:Value}(h:w.cell? a = some u):(w.setCell a v).cell? a = some v:=by intros;apply World.cell?_setCell_same<;>assumption
theorem xa (hM:jU w0 kb bW pw T M n)(h:Wk w0 w kb bW pw T s vn m)(U:eb T s)(W:T.length<=s.1.length+n)(x:Int):
 Calls prog 105 #[af kb,ae x] w fun e w'=>∃E l,e=.returned (.agg #[ae (cX M T s x).1.1,ae (cX M T s x).1.2])/\Wk w0 w' kb bW pw T (cX M T s x).2 E l/\ed w0 w m w' l:=by
 have H:Hid (Wk w0 w kb bW pw T s vn m):=h;have F:=(Below.refl w.heap.size w).alloc bJ (.cells #[ae 0,ae 0] 77)
 have G:=aw w (.cells #[ae 0,ae 0] 77)
 have P:=m7 x (w.alloc (.cells #[.int .i64 0,.int .i64 0] 77))
 clear h;by_cases o:dk x=3
 ·have J:=rP x o;rw[o] at P;cases hT:T.contains (cL x)
  ·have ev:cX M T s x=((0,0),s):=by unfold cX;rw[aq o,hT,ao V]
   rw[ev];clear ev o;generalize cL x=a at P J hT;generalize dc x=cc at P;have C:Hid (∀w1,Below w.heap.size w w1->Calls prog 165 #[af kb,ae a] w1 fun e w'=>∃x,e=.returned (.tuple #[ae x,.bool false])/\w'=w1):=fun w1 X=>w9 (H.out.below X) a J.1 J.2 hT;clear hM U W hT;go_enter func105,ntmps105;go_wp2_with fail;refine P.mono ?_;clear P;rintro e w1 ⟨rfl,g⟩
   have i:=(g.block w.heap.size V).trans G;have A:=F.trans (g.mono V)
   have N:=g.size;simp at N;have B:=(Below.refl w1.heap.size w1).alloc bJ (.cells #[ae 3,ae a] 77)
   have q:=A.trans (B.mono I)
   have j:=(B.block w.heap.size I).trans i;clear G i F g;go_wp2_with fail;refine(C.out _ q).mono ?_;rintro e w3 ⟨z,rfl,Y⟩
   rw[<-Y] at j q B;have ar:w.heap.size<w3.heap.size:=by rw[Y];simp;omega
   clear Y;have K:w3.cell? (ah w.heap.size 0)=some (ae 0):=by simp[World.cell?,j]
   have y1:w3.cell? (ah w.heap.size 1)=some (ae 0):=by simp[World.cell?,j]
   have ad:w3.frozen? (ah w.heap.size 0)=false:=by simp[World.frozen?,j]
   have ai:w3.frozen? (ah w.heap.size 1)=false:=by simp[World.frozen?,j]
   have O:Hid (ed w0 w m w3 m):=ed.of q;have Q:Hid (∀D,Fr (fun k=>k=w.heap.size) w3 D->Wk w0 D kb bW pw T s vn m):=fun D f=>(H.out.below q).but f (fun k _ e=>by have e:k=w.heap.size:=e;rw[e];exact⟨⟨_,j⟩,fun c=>by have:=H.out.fb _ c;omega,H.out.df.size⟩)
   clear C j B A q H;go_wp2_with fail;obtain⟨b,d⟩:∃b,b=(w3.setCell ⟨w.heap.size,0,none⟩ (.int .i64 0)).setCell ⟨w.heap.size,1,none⟩ (.int .i64 0):=⟨_,rfl⟩
   rw[<-d];have g0:b.cell? (ah w.heap.size 0)=some (ae 0):=by rw[d,aC _ _ _ _ V];exact aH _ _ _ K
   have g1:b.cell? (ah w.heap.size 1)=some (ae 0):=by rw[d];exact aH _ _ _ ((aC w3 ⟨w.heap.size,0,none⟩ ⟨w.heap.size,1,none⟩ _ V).trans y1)
   have t:Fr (fun k=>k=w.heap.size) w3 b:=by rw[d];exact((Fr.refl (fun k=>k=w.heap.size) w3).set w.heap.size 0 _ rfl).set w.heap.size 1 _ rfl
   clear d;exact aW (v:=.agg #[ae 0,ae 0]) (by simp[results,results105,go_sem,g0,g1]) rfl ⟨vn,m,rfl,Q.out b t,O.out.new t (fun k e=>Nat.le_of_eq (Eq.symm e))⟩
  ·have al:cL x∈T:=by simpa using hT
   have ev:cX M T s x=((3,jn s (cL x)),jo M s (cL x)):=by unfold cX jn jo;rw[aq o,aq hT];split<;>rfl
   rw[ev];clear ev o hT;generalize cL x=a at P J al⊢;generalize dc x=cc at P;have C:Hid (∀w1,Below w.heap.size w w1->Calls prog 165 #[af kb,ae a] w1 fun e w'=>∃E l,e=.returned (.tuple #[ae (jn s a),.bool true])/\Wk w0 w' kb bW pw T (jo M s a) E l/\ed w0 w1 m w' l):=fun w1 X=>w_ hM (H.out.below X) U W a J.1 J.2 al;clear hM U W al;generalize jn s a=z at C⊢;generalize jo M s a=s' at C⊢;go_enter func105,ntmps105;go_wp2_with fail;refine P.mono ?_;clear P;rintro e w1 ⟨rfl,g⟩
   have i:=(g.block w.heap.size V).trans G;have A:=F.trans (g.mono V)
   have N:=g.size;simp at N;have B:=(Below.refl w1.heap.size w1).alloc bJ (.cells #[ae 3,ae a] 77)
   have q:=A.trans (B.mono I)
   have j:=(B.block w.heap.size I).trans i;clear G i F g;go_wp2_with fail;refine(C.out _ q).mono ?_;rintro e w3 ⟨E,l,rfl,ax,R⟩
   have L:=(R.1.eP _ _ _ _ j Z Z).trans j;have ar:=R.1.size;simp at ar;have K:w3.cell? (ah w.heap.size 0)=some (ae 0):=by simp[World.cell?,L]
   have y1:w3.cell? (ah w.heap.size 1)=some (ae 0):=by simp[World.cell?,L]
   have ad:w3.frozen? (ah w.heap.size 0)=false:=by simp[World.frozen?,L]
   have ai:w3.frozen? (ah w.heap.size 1)=false:=by simp[World.frozen?,L]
   have aR:w.heap.size<w3.heap.size:=I;have aB:¬eN l w.heap.size:=fun c=>(R.2 _ c).elim (fun c=>by have:=H.out.fb _ c;omega) (fun c=>by simp at c;omega)
   have O:Hid (ed w0 w m w3 l):=(ed.of q).trans R;have Q:Hid (∀D,Fr (fun k=>k=w.heap.size) w3 D->Wk w0 D kb bW pw T s' E l):=fun D f=>ax.but f (fun k _ e=>by have e:k=w.heap.size:=e;rw[e];exact⟨⟨_,L⟩,aB,H.out.df.size⟩)
   clear C j B A q R L aB ax H;go_wp2_with fail;obtain⟨b,d⟩:∃b,b=(w3.setCell ⟨w.heap.size,0,none⟩ (.int .i64 3)).setCell ⟨w.heap.size,1,none⟩ (.int .i64 z):=⟨_,rfl⟩
   rw[<-d];have g0:b.cell? (ah w.heap.size 0)=some (ae 3):=by rw[d,aC _ _ _ _ V];exact aH _ _ _ K
   have g1:b.cell? (ah w.heap.size 1)=some (ae z):=by rw[d];exact aH _ _ _ ((aC w3 ⟨w.heap.size,0,none⟩ ⟨w.heap.size,1,none⟩ _ V).trans y1)
   have t:Fr (fun k=>k=w.heap.size) w3 b:=by rw[d];exact((Fr.refl (fun k=>k=w.heap.size) w3).set w.heap.size 0 _ rfl).set w.heap.size 1 _ rfl
   clear d;exact aW (v:=.agg #[ae 3,ae z]) (by simp[results,results105,go_sem,g0,g1]) rfl ⟨E,l,rfl,Q.out b t,O.out.new t (fun k e=>Nat.le_of_eq (Eq.symm e))⟩
 ·have ev:cX M T s x=((dk x,cL x),s):=by unfold cX;rw[ao o]
  rw[ev];have aF:(dk x !=3)=true:=by simpa using o
  clear ev o hM U W;generalize dk x=u at P aF⊢;generalize cL x=v at P⊢;generalize dc x=cc at P;go_enter func105,ntmps105;go_wp2_with fail;refine P.mono ?_;clear P;rintro e w1 ⟨rfl,g⟩
  have i:=(g.block w.heap.size V).trans G;have A:=F.trans (g.mono V)
  have N:=g.size;simp at N;have K:w1.cell? (ah w.heap.size 0)=some (ae 0):=by simp[World.cell?,i]
  have y1:w1.cell? (ah w.heap.size 1)=some (ae 0):=by simp[World.cell?,i]
  have ad:w1.frozen? (ah w.heap.size 0)=false:=by simp[World.frozen?,i]
  have ai:w1.frozen? (ah w.heap.size 1)=false:=by simp[World.frozen?,i]
  have l1:w.heap.size<w1.heap.size:=I;have n1:¬w.heap.size=w1.heap.size:=I;have aT:¬w1.heap.size=w.heap.size:=I;have i:Hid (_=_):=i;clear G F g;go_wp2_with fail;obtain⟨b,d⟩:∃b,b=(w1.setCell ⟨w.heap.size,0,none⟩ (.int .i64 u)).setCell ⟨w.heap.size,1,none⟩ (.int .i64 v):=⟨_,rfl⟩
  rw[<-d];have g0:b.cell? (ah w.heap.size 0)=some (ae u):=by rw[d,aC _ _ _ _ V];exact aH _ _ _ K
  have g1:b.cell? (ah w.heap.size 1)=some (ae v):=by rw[d];exact aH _ _ _ ((aC w1 ⟨w.heap.size,0,none⟩ ⟨w.heap.size,1,none⟩ _ V).trans y1)
  have t:Fr (fun k=>k=w.heap.size) w1 b:=by rw[d];exact((Fr.refl (fun k=>k=w.heap.size) w1).set w.heap.size 0 _ rfl).set w.heap.size 1 _ rfl
  have aV:b.heap.size=w1.heap.size:=by rw[d];simp[World.setCell]
  have S:=(Below.refl b.heap.size b).alloc bJ (.cells #[ae u,ae v] 77)
  have Q:=((H.out.below A).but t (fun k _ e=>by have e:k=w.heap.size:=e;rw[e];exact⟨⟨_,i.out⟩,fun c=>by have:=H.out.fb _ c;omega,H.out.df.size⟩)).below S;have O:=((ed.of (w0:=w0) (m:=m) A).new t (fun k e=>Nat.le_of_eq (Eq.symm e))).trans (ed.of S)
  have r0:=(S.cell (p:=ah w.heap.size 0) (by show w.heap.size<_;omega)).trans g0;have r1:=(S.cell (p:=ah w.heap.size 1) (by show w.heap.size<_;omega)).trans g1;clear d S t g0 g1 H K y1 ad ai;generalize b.alloc (.cells #[.int .i64 u,.int .i64 v] 77)=a0 at*;exact aW (v:=.agg #[ae u,ae v]) (by simp[results,results105,go_sem,r0,r1]) rfl ⟨vn,m,rfl,Q,O⟩
end
def Lq (w:World)(a:Option Addr)(l:List Int):Prop:=fZ w a l/\(0<l.length->∃b o c,a=some ⟨b,o,none⟩/\w.heap[b]?=some (.cells c 2 (0,0)))
theorem Lq.kf {B:Nat}{w w':World}{c:Option Addr}{l:List Int}(h:Lq w c l)(k:Kf B w w'):Lq w' c l:=by
 have hk:0<l.length->∀b,c=some b->w'.heap[b.block]?=w.heap[b.block]?:=fun hp b e=>by obtain⟨b0,f,g,a,d⟩:=h.2 hp;rw[a] at e;cases e;exact k.eP _ _ _ _ d Z Z
 refine⟨h.1.keep k.size hk,fun hp=>?_⟩
 obtain⟨b0,f,g,a,d⟩:=h.2 hp;exact⟨b0,f,g,a,(hk hp _ a).trans d⟩
theorem Lq.of {w:World}{base c:Nat}{a:Option Addr}{l:List Int}(h:w.ownsRow base 2 1 (.slice a l.length c) l.length (l.map (Value.int .i64))):Lq w a l:=by
 refine⟨ga h,fun hp=>?_⟩
 obtain⟨b0,c0,b⟩:=dP h hp;obtain⟨d,hc⟩:=dO h b0 (by rw[b];rfl)
 cases b;exact⟨b0,0,d,rfl,hc⟩
section
variable {w0 w:World}{kb bW pw n:Nat}{T:List Int}{kd:Int->Int}{sh:Int->List Int}{M:ck->Int->ck}{s:ck}{vn:Value}{m:List da}
theorem rQ (hM:jU w0 kb bW pw T M n)(Y:h6 T kd sh n M)(h:Wk w0 w kb bW pw T s vn m)(ad:eb T s)(bi:T.length<=s.1.length+n)(l:List Int)(D:Option Addr)(bl:Nat)(hl:Lq w D l)(hm:l.length<=100000):
 Calls prog 48 #[af kb,.slice D l.length bl] w fun e w'=>∃bn E a2 c2,e=.returned (.slice a2 l.length c2)/\w'.ownsRow w.heap.size 77 2 (.slice a2 l.length c2) l.length (ev (cD M T s l).1)/\Wk w0 w' kb bW pw T (cD M T s l).2 bn E/\ed w0 w m w' E/\(∀k,eN E k->some k≠(Value.slice a2 l.length c2).ownBlock):=by
 obtain⟨ai,hi,al,ar,ax⟩:=info_parts kA;have bo:Hid (jU w0 kb bW pw T M n):=hM;have bp:Hid (h6 T kd sh n M):=Y;have br:Hid (Lq w D l):=hl;have F:Hid (Wk w0 w kb bW pw T s vn m):=h;have bs:Hid (eb T s):=ad;clear hM Y hl h ad;go_enter func48,ntmps48;go_wp2_with (at_make;refine wpList_make_own _ rfl _ _ 57 rfl w.heap.size 77 ai (.agg #[ae 0,ae 0]) 2 Tryz.underlying57 hi al ar .i64 .i64 _ l.length rfl rfl rfl (by rw[ax];omega) (by unfold maxLen;omega) bJ ?_;intro w1 aB aF)
 have H:Below w.heap.size w w1:=(Below.refl w.heap.size w).grown aF bJ (fun k e=>by cases e)
 go_loopw [5,13] (fun tv iv wr=>∃(j:Nat)(a:List (Int×Int))(s1:ck)(ib:Value)(m1:List da)(a2:Option Addr)(c2:Nat),j<=l.length/\iv=ae j/\Hid (cD M T s (l.take j)=(a,s1))/\tv=.slice a2 j c2/\wr.ownsRow w.heap.size 77 2 (.slice a2 j c2) j (ev a)/\Hid (Wk w0 wr kb bW pw T s1 ib m1)/\Hid (ed w0 w m wr m1)/\Hid (∀k,eN m1 k->some k≠(Value.slice a2 j c2).ownBlock)/\Hid (eb T s1/\T.length<=s1.1.length+n)) (fun _ iv _=>l.length-(intOf iv).toNat)
 case atStart=>exact⟨0,[],s,vn,m,_,_,aA _,rfl,rfl,rfl,aB,F.out.below H,ed.of H,fun k hk e=>by have:=F.out.fb k hk;simp[Value.ownBlock] at e;omega,⟨bs.out,bi⟩⟩
 case round=>
  obtain⟨j,a,s1,ib,m1,a2,c2,b,rfl,J,rfl,o,K,t,L,i⟩:=hrel;clear aB aF H;by_cases aR:j<l.length
  ·obtain⟨b0,bQ,bx,bS,hc⟩:=(br.out.kf t.out.1).1 I;have aT:=hc j aR;subst bx;clear hc;have f:=kl M T s (l.take j) (l.getD j 0)
   rw[<-eY l j aR 0,J.out] at f;have f:Hid (cD M T s (l.take (j+1))=(a++[(cX M T s1 (l.getD j 0)).1],(cX M T s1 (l.getD j 0)).2)):=f;generalize l.getD j 0=x at aT f;have P:=xa bo.out K.out i.out.1 i.out.2 x;have G:=m4 bp.out i.out.1 i.out.2 x;have aV:Hid (eb T (cX M T s1 x).2/\T.length<=(cX M T s1 x).2.1.length+n):=⟨G.ok,by have:=G.le;have:=i.out.2;omega⟩
   clear G;generalize (cX M T s1 x).2=s2 at P f aV;obtain⟨u,v,a0⟩:∃u v,(cX M T s1 x).1=(u,v):=⟨_,_,rfl⟩
   rw[a0] at P f;clear a0;go_wp2_with fail;refine P.mono ?_;clear P;rintro e d ⟨N,g,rfl,a1,A⟩
   have O:=ca o (fun k hk=>by obtain⟨a3,Q⟩:=dO o k hk;exact A.1.eP k _ _ _ Q Z Z)
   have R:Hid (∀k,eN g k->some k≠(Value.slice a2 j c2).ownBlock):=fun k hk e=>(A.2 k hk).elim (fun c=>L.out k c e) (fun c=>by have:=(bR o k e).2;omega)
   have S:Hid (ed w0 w m d g):=t.out.trans A;have bT:=S.out.1.size;have U:Hid (Wk w0 d kb bW pw T s2 N g):=a1;clear o A t L K i aT a1;have p:Hid (d.ownsRow w.heap.size 77 2 (.slice a2 j c2) j (ev a)):=O;go_wp2_with (at_builtin;refine wpList_append_own_at _ rfl _ _ 57 rfl w.heap.size 77 ai (.agg #[ae 0,ae 0]) 2 16 Tryz.underlying57 hi al ar ax rfl Z (.slice a2 j c2) j (ev a) rfl (fC O _) ⟨d.heap.size,0,none⟩ 1 1 [ae u,ae v] rfl rfl ?_ ?_ ?_ ?_ ?_ ?_;(intro j u b;match j,b with|0,b=>(simp at b;subst b;simp[Addr.add])|1,b=>(simp at b;subst b;simp[Addr.add]));(intro u q;simp at q;rcases q with q|q<;>(subst q;rfl));(unfold maxLen;omega);omega;(simp;omega);intro bU B W bb _ bd;obtain⟨b4,be,bL⟩:=dP W (Nat.succ_pos _);subst bL)
   have bM:B.ownsRow w.heap.size 77 2 (.slice (ag b4) (j+1) be) (j+1) (ev (a++[(u,v)])):=by rw[kn];simpa[ev] using W
   have C:=(Below.refl d.heap.size d).alloc bJ (.cells #[ae u,ae v] 77)
   have X:Fr (fun k=>some k=(Value.slice a2 j c2).ownBlock) (d.alloc (.cells #[.int .i64 u,.int .i64 v] 77)) B:=(Fr.refl _ _).grown bb (fun k e=>ap e.symm)
   have bN:Hid (Wk w0 B kb bW pw T s2 N g):=(U.out.below C).but X (fun k _ e=>by obtain⟨a3,Q⟩:=dO p.out k e;exact⟨⟨a3,(C.block k (bR p.out k e).2).trans Q⟩,fun c=>R.out k c e,az F.out.df.size (bR p.out k e).1⟩)
   have bO:Hid (ed w0 w m B g):=(S.out.trans (ed.of C)).new X (fun k e=>(bR p.out k e).1)
   have bg:some b4=(Value.slice a2 j c2).ownBlock\/b4=d.heap.size+1:=bd.imp id (fun e=>by simpa[Value.ownBlock] using e)
   have bP:Hid (∀k,eN g k->some k≠some b4):=fun k hk e=>bg.elim (fun c=>R.out k hk (e.trans c)) (fun c=>by have:=U.out.fb k hk;simp at e;omega)
   clear W bb bd bg C X p O R S U;go_wp2_with fail;go_roundw
   case rel=>exact⟨j+1,a++[(u,v)],s2,N,g,ag b4,be,I,ac,f,rfl,bM,bN,bO,bP,aV⟩
   case measure=>simp[intOf];omega
  ·obtain rfl:j=l.length:=I;rw[aP] at J;go_wp2_with fail;go_ret;rw[J.out];exact⟨ib,m1,a2,c2,rfl,o,K.out,t.out,L.out⟩
end
end Go.Proofs.YtjpjpjemibgjpaaGreat
