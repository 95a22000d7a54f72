import Derived.Test.YtjpjpjemibgjpaaGreatJ03
namespace Go.Proofs.YtjpjpjemibgjpaaGreat
set_option maxRecDepth 100000
set_option maxHeartbeats 2000000
open Tryz
open Go.RowKit W Kp cg
theorem an(w:au)(o:Obj):Below w.heap.size w (w.alloc o):=(Below.refl _ w).alloc (Nat.le_refl _) o
theorem sk {P:Prop}(h:P:=by
 have hb0:=an w (.cells #[.int .i64 k,.int .i64 R,.int .i64 A,.int .i64 B,.int .i64 I,.int .i64 n] 44)
 have HK:=dC h1 h5;go_enter func41,ntmps41;go_wp2_with fail;refine(U _).mono ?_;rintro e w1 ⟨rfl,rfl⟩
 go_wp2_with fail
 go_loopw [5] (fun iv wr=>∃(j:Nat),j<=3/\iv=ah j/\wr=(w.alloc (.cells #[.int .i64 k,.int .i64 R,.int .i64 A,.int .i64 B,.int .i64 I,.int .i64 n] 44)).alloc (.cells #[.int .i64 R,.int .i64 A,.int .i64 B] 3)) (fun iv _=>3-(intOf iv).toNat)
 exact⟨0,V,rfl,rfl⟩
 ·
   obtain⟨j,hj,rfl,rfl⟩:=hrel;rcases(show j=0\/j=1\/j=2\/j=3 by omega) with rfl|rfl|rfl|rfl
   ·go_wp2_with fail;go_roundw;exact⟨1,aa,rfl,trivial⟩
    simp[intOf]
   ·go_wp2_with fail;go_roundw;exact⟨2,aa,rfl,trivial⟩
    simp[intOf]
   ·go_wp2_with fail;go_roundw;exact⟨3,aa,rfl,trivial⟩
    simp[intOf]
   ·go_wp2_with fail;go_ret;exact⟨by rw[wM HK.o.1 HK.o.2];rfl,hb0.alloc Z _⟩):P:=h
theorem so {P:Prop}(h:P:=by
 have hb0:=an w (.cells #[.int .i64 k,.int .i64 R,.int .i64 A,.int .i64 B,.int .i64 I,.int .i64 n] 44)
 clear hu;rcases hx with hx|hx
 all_goals
  go_enter func41,ntmps41;go_wp2_with fail;refine(U _).mono ?_;rintro e w1 ⟨rfl,rfl⟩
  go_wp2_with fail
  go_loopw [5] (fun iv wr=>∃(j:Nat),j<=0/\iv=ah j/\wr=(w.alloc (.cells #[.int .i64 k,.int .i64 R,.int .i64 A,.int .i64 B,.int .i64 I,.int .i64 n] 44)).alloc (.cells #[.int .i64 R,.int .i64 A,.int .i64 B] 3)) (fun iv _=>3-(intOf iv).toNat)
  case atStart=>exact⟨0,V,rfl,rfl⟩
  case round=>
   obtain⟨j,hj,rfl,rfl⟩:=hrel;obtain rfl:j=0:=V;go_wp2_with fail;go_ret;exact⟨rfl,hb0.alloc Z _⟩):P:=h
theorem wN {P:Prop}(h:P:=by
 have hb0:=an w (.cells #[.int .i64 k,.int .i64 R,.int .i64 A,.int .i64 B,.int .i64 I,.int .i64 n] 44)
 clear hu;rcases hx with hx|hx
 all_goals
  go_enter func41,ntmps41;go_wp2_with fail;refine(U _).mono ?_;rintro e w1 ⟨rfl,rfl⟩
  go_wp2_with fail
  go_loopw [5] (fun iv wr=>∃(j:Nat),j<=2/\iv=ah j/\wr=(w.alloc (.cells #[.int .i64 k,.int .i64 R,.int .i64 A,.int .i64 B,.int .i64 I,.int .i64 n] 44)).alloc (.cells #[.int .i64 R,.int .i64 A,.int .i64 B] 3)) (fun iv _=>3-(intOf iv).toNat)
  case atStart=>exact⟨0,V,rfl,rfl⟩
  case round=>
   obtain⟨j,hj,rfl,rfl⟩:=hrel;rcases(show j=0\/j=1\/j=2 by omega) with rfl|rfl|rfl
   ·go_wp2_with fail;go_roundw
    case rel=>exact⟨1,aa,rfl,trivial⟩
    case measure=>simp[intOf]
   ·go_wp2_with fail;go_roundw
    case rel=>exact⟨2,aa,rfl,trivial⟩
    case measure=>simp[intOf]
   ·go_wp2_with fail;go_ret;exact⟨rfl,hb0.alloc Z _⟩):P:=h
theorem wO {P:Prop}(h:P:=by
 have HK:=dC h1 h5;go_enter func41,ntmps41;go_wp2_with fail;refine(U _).mono ?_;rintro e w1 ⟨rfl,rfl⟩
 go_wp2_with fail
 go_loopw [5] (fun iv wr=>∃(j:Nat),j<=3/\iv=ah j/\wr=(w.alloc (.cells #[.int .i64 k,.int .i64 R,.int .i64 A,.int .i64 B,.int .i64 I,.int .i64 n] 44)).alloc (.cells #[.int .i64 R,.int .i64 A,.int .i64 B] 3)) (fun iv _=>3-(intOf iv).toNat)
 exact⟨0,V,rfl,rfl⟩
 ·
   obtain⟨j,hj,rfl,rfl⟩:=hrel;rcases(show j=0\/j=1\/j=2\/j=3 by omega) with rfl|rfl|rfl|rfl
   ·go_wp2_with fail;go_roundw;exact⟨1,aa,rfl,trivial⟩
    simp[intOf]
   ·go_wp2_with fail;go_roundw;exact⟨2,aa,rfl,trivial⟩
    simp[intOf]
   ·go_wp2_with fail;go_roundw;exact⟨3,aa,rfl,trivial⟩
    simp[intOf]
   ·go_wp2_with fail;go_ret;exact⟨by rw[wM HK.o.1 HK.o.2];rfl,(an w (.cells #[.int .i64 k,.int .i64 R,.int .i64 A,.int .i64 B,.int .i64 I,.int .i64 n] 44)).alloc Z _⟩):P:=h
theorem wP {P:Prop}(h:P:=by
 have hb0:=an w (.cells #[.int .i64 k,.int .i64 R,.int .i64 A,.int .i64 B,.int .i64 I,.int .i64 n] 44)
 clear hu;rcases hx with hx|hx
 all_goals
  go_enter func41,ntmps41;go_wp2_with fail;refine(U _).mono ?_;rintro e w1 ⟨rfl,rfl⟩
  go_wp2_with fail
  go_loopw [5] (fun iv wr=>∃(j:Nat),j<=1/\iv=ah j/\wr=(w.alloc (.cells #[.int .i64 k,.int .i64 R,.int .i64 A,.int .i64 B,.int .i64 I,.int .i64 n] 44)).alloc (.cells #[.int .i64 R,.int .i64 A,.int .i64 B] 3)) (fun iv _=>3-(intOf iv).toNat)
  case atStart=>exact⟨0,V,rfl,rfl⟩
  case round=>
   obtain⟨j,hj,rfl,rfl⟩:=hrel;rcases(show j=0\/j=1 by omega) with rfl|rfl
   ·go_wp2_with fail;go_roundw
    case rel=>exact⟨1,aa,rfl,trivial⟩
    case measure=>simp[intOf]
   ·go_wp2_with fail;go_ret;exact⟨rfl,hb0.alloc Z _⟩):P:=h
theorem a5 (w:au)(a b:Addr)(v:Value)(h:a ≠ b):(w.setCell a v).cell? b = w.cell? b:=by intros;apply World.cell?_setCell_other<;>assumption
theorem a9 (w:au)(a:Addr)(v:Value){u:Value}(h:w.cell? a = some u):(w.setCell a v).cell? a = some v:=by intros;apply World.cell?_setCell_same<;>assumption
theorem kV {P:Prop}(h:P:=by rw[hW0,a5 _ _ _ _ Z];exact a9 _ _ _ y0):P:=h
theorem ox {P:Prop}(h:P:=by
 go_roundw
 case rel=>exact⟨1,aa,rfl,trivial⟩
 case measure=>simp[intOf]):P:=h
theorem oy {P:Prop}(h:P:=by
 go_roundw
 case rel=>exact⟨2,aa,rfl,trivial⟩
 case measure=>simp[intOf]):P:=h
theorem iY {P:Prop}(h:P:=by have h:=sq k w;rw[hu] at h;exact h):P:=h
theorem p5 {P:Prop}(h:P:=by
 rintro e w1 ⟨rfl,rfl⟩
 go_wp2_with fail;go_ret;exact⟨rfl,hb0⟩):P:=h
theorem oz {P:Prop}(h:P:=by
 go_roundw
 case rel=>exact⟨3,aa,rfl,trivial⟩
 case measure=>simp[intOf]):P:=h
theorem sr {P:Prop}(h:P:=by rw[hW0];exact a9 _ _ _ ((a5 w1 ⟨w.heap.size,0,none⟩ ⟨w.heap.size,1,none⟩ _ Z).trans y1)):P:=h
theorem wQ {P:Prop}(h:P:=by
 by_cases e:b=a
 ·subst e;rw[Maps.atKey_put_same (k:=.int .i64 b) h1.isMap trivial,aH rfl]
 ·rw[Maps.atKey_put_other (by simpa using e),aE e];exact h3 b hb):P:=h
theorem wR {P:Prop}(h:P:=by
 go_enter func45,ntmps45;go_wp2_with fail;refine P.mono ?_;rintro e w1 ⟨rfl,hw1⟩
 have hw1:=hw1.symm;subst hw1;go_wp2;go_ret;rw[E3.o];exact⟨rfl,rfl⟩):P:=h
theorem wS {P:Prop}(h:P:=by rw[hW0];exact a9 _ _ _ ((a5 w3 ⟨w.heap.size,0,none⟩ ⟨w.heap.size,1,none⟩ _ Z).trans y1)):P:=h
theorem wT {P:Prop}(h:P:=by obtain⟨x,hx,hl,o,e⟩:=hk;obtain⟨b,o',cs,e',hb⟩:=(h.fl x hx).2 hl;rw[e] at e';cases e';exact lt_of_some hb):P:=h
theorem ss {P:Prop}(h:P:=by have h:=sq 5 w;rw[show cP 5=3 from rfl] at h;exact h):P:=h
theorem su {P:Prop}(h:P:=by have h:=sq 1 w;rw[show cP 1=1 from rfl] at h;exact h):P:=h
def eN (N y g:Nat)(ws:List Int)(Q:List bZ)(a:Int):List Int:=
 if pk (ld N y g ws a)=5 then g7 Q (ew 3 a) else(List.range (ic N y g a (pf (ld N y g ws a))).toNat).map (fun i:Nat=>ld N y g ws (a+1+(i:Int)))
theorem CM (N y g:Nat)(ws:List Int)(Q:List bZ)(a:Int):(eN N y g ws Q a).length<=Q.length+12:=by
 unfold eN;split
 ·have:=wL Q (ew 3 a)
  omega
 ·have b:ic N y g a (pf (ld N y g ws a))<=12:=by unfold ic;exact Int.le_trans (Int.min_le_left _ _) (di _).2
  simp;omega
section
variable {w:au}{pw p q N O y g:Nat}{ws:List Int}{sd:Nat}{v0:Value}{a1:Option Addr}{k1:Nat}{Q:List bZ}
theorem ao(w:World):Below w.heap.size w w:=Below.refl _ w
theorem CN (h:lD w pw p q N O y g ws sd v0 a1 k1 Q)(d:Nat)(hk:w.cell? (am d 0)=some (aj pw))(a:Int)(l0:0<=a)(l1:a<=100000):
 Calls prog 189 #[aj d,ah a,ah (pk (ld N y g ws a)),ah (pf (ld N y g ws a))] w fun e w'=>∃v A,e=.returned (.slice v (eN N y g ws Q a).length A)/\w'.ownsRow w.heap.size 2 1 (.slice v (eN N y g ws Q a).length A) (eN N y g ws Q a).length ((eN N y g ws Q a).map (Value.int .i64))/\Below w.heap.size w w':=by
 obtain⟨Y,hi,ab,ad,ag⟩:=info_parts vF;have H:=hide h;have c0:=h.c0;have c2:=h.c2;have G:=aK w _ c0;have p6:=aK w _ hk;clear h;by_cases l:pk (ld N y g ws a)=5
 ·have m:eN N y g ws Q a=g7 Q (ew 3 a):=by unfold eN;rw[aH l]
  rw[m,l];clear m l;generalize pf (ld N y g ws a)=f;have hd:=(ao w).drew;go_enter func189,ntmps189;go_wp2_with fail
  go_region_held3 (fun w'=>w'.cell? (am d 0)=some (aj pw)/\w'.cell? (am pw 2)=some (aj sd)) (first|exact⟨hk,c2⟩|exact⟨u0,M⟩|exact⟨ai,al⟩|go_keep)
   (first
     |(have bg:=c;go_at_call 190;refine(CH _ sd v0 a1 k1 Q (ew 3 a) (H.o.low c).hs (H.o.low c).hp (H.o.low c).hm).mono ?_;rintro e bi ⟨v,A,rfl,P,B⟩;have bl:=B.size;have ai:=(B.cell (p:=am d 0) (aM p6 C)).trans u0;have al:=(B.cell (p:=am pw 2) (aM G C)).trans M)
     |(go_at_call 25;refine(pP a _).mono ?_;rintro e w3 ⟨rfl,ap⟩;have c:=hd.trans ap;have C:=c.size;have u0:=(c.cell (p:=am d 0) p6).trans hk;have M:=(c.cell (p:=am pw 2) G).trans c2))
  go_wp2_with fail;go_ret;exact⟨v,A,rfl,d7 P (fun k e=>aP C (ce P k e).1),c.trans (B.mono C)⟩
 ·have m:eN N y g ws Q a=(List.range (ic N y g a (pf (ld N y g ws a))).toNat).map (fun i:Nat=>ld N y g ws (a+1+(i:Int))):=by unfold eN;rw[aE l]
  rw[m];have ar:ic N y g a (pf (ld N y g ws a))<=12:=by unfold ic;exact Int.le_trans (Int.min_le_left _ _) (di _).2
  have D:=wC a (pf (ld N y g ws a)) w c0 H.o.ar l0 l1;clear m;generalize ic N y g a (pf (ld N y g ws a))=st at D ar⊢;generalize pf (ld N y g ws a)=f at D⊢;generalize pk (ld N y g ws a)=kd at l⊢;have ax:av (∀w1 x,Below w.heap.size w w1->_):=fun w1 x b=>jr x w1 (H.o.low b).ar;clear H;simp only [List.length_map,List.length_range];go_enter func189,ntmps189;go_wp2_with fail;refine D.mono ?_;clear D;rintro e w1 ⟨rfl,R⟩
  go_wp2_with fail
  go_loopw [9,30] (fun tv iv wr=>∃(j:Nat)(n:Option Addr)(o:Nat),j<=st.toNat/\iv=ah j/\tv=.slice n j o/\wr.ownsRow w.heap.size 2 1 (.slice n j o) j (((List.range j).map (fun i:Nat=>ld N y g ws (a+1+(i:Int)))).map (Value.int .i64))/\Below w.heap.size w wr) (fun _ iv _=>st.toNat-(intOf iv).toNat)
  exact⟨0,none,0,aS _,rfl,rfl,a7 _ _ _ _,R⟩
  ·
    obtain⟨j,n,o,s,rfl,rfl,t,b⟩:=hrel;clear R;by_cases bn:j<st.toNat
    ·have aB:=(b.cell (p:=am d 0) p6).trans hk;have aF:=(b.cell (p:=am pw 0) G).trans c0;have aR:(j:Int)<st:=V;have aT:=b.size;go_wp2_with fail;refine(ax.o wr (a+1+(j:Int)) b).mono ?_;rintro e aV ⟨rfl,I⟩
     have E:=cv t (fun k e=>I.block k (ce t k e).2)
     have J:=b.trans (I.mono aT)
     have a0:=J.size;have S:(((List.range (j+1)).map (fun i:Nat=>ld N y g ws (a+1+(i:Int)))).map (Value.int .i64))=(((List.range j).map (fun i:Nat=>ld N y g ws (a+1+(i:Int)))).map (Value.int .i64))++[ah (ld N y g ws (a+1+(j:Int)))]:=by simp[List.range_succ]
     have F:=hide S;clear S t b I aB aF;generalize ld N y g ws (a+1+(j:Int))=z at F⊢;generalize ((List.range j).map (fun i:Nat=>ld N y g ws (a+1+(i:Int)))).map (Value.int .i64)=L at E F;go_wp2_with (at_builtin;refine wpList_append_own_at _ rfl _ _ 53 rfl w.heap.size 2 Y (ah 0) 1 8 underlying53 hi ab ad ag rfl aa (.slice n j o) j L rfl (f6 E _) ⟨aV.heap.size,0,none⟩ 1 1 [ah z] rfl rfl ?_ ?_ ?_ ?_ ?_ ?_;(intro j u s;match j,s with|0,s=>(simp at s;subst s;simp[Addr.add]));(intro u U;simp at U;subst U;rfl);(unfold maxLen;omega);omega;(simp;omega);intro bo a2 K W _ a3;obtain⟨b4,X,bb⟩:=dW K (Nat.succ_pos _);subst bb)
     have bd:a2.ownsRow w.heap.size 2 1 (.slice (ak b4) (j+1) X) (j+1) (((List.range (j+1)).map (fun i:Nat=>ld N y g ws (a+1+(i:Int)))).map (Value.int .i64)):=by rw[F.o];exact K
     have be:=(J.alloc a0 _).grown W (by simp;omega) (fun k e=>(ce E k e.symm).1)
     clear K W a3 E J F;go_wp2_with fail;go_roundw;exact⟨j+1,ak b4,X,V,af,rfl,bd,be⟩
     simp[intOf];omega
    ·obtain rfl:j=st.toNat:=V;have aR:¬((st.toNat:Nat):Int)<st:=V;go_wp2_with fail;go_ret;exact⟨n,o,rfl,by rw[List.map_map] at t;exact t,b⟩
end
theorem my (x:Int)(h:(Lit.int .i64 x).wf=true):plainElem (H:=Unit) prog 3 (.int .i64 x)=some (.lit (.int .i64 x),[]):=plainElem_int underlying3 h
theorem iZ {a:Int}(h0:0<=a)(b:a<1152921504606846976):keyOf prog 3 (.int .i64 a)=some (.int .i64 a):=Maps.keyOf_int_mk underlying3 (WalkArith.wf_i64 ⟨V,V⟩)
theorem Nm.add {w w':au}{co n:Nat}{T:List Int}{a:Int}{D:DataW Unit}(d:w.ownsMap prog 3 (plainElem prog 3) co T.length D)(g:∀a:Int,Maps.has D (.int .i64 a)=T.contains a)(i:∀a∈T,D.atKey (.int .i64 a) (.lit (.int .i64 0))=.lit (.int .i64 (nb [] a)))
 (j:n=T.length+1)(f:w'.ownsMap prog 3 (plainElem prog 3) co n (D.put (.int .i64 a) (.lit (.int .i64 (-1))))):Nm w' co (T++[a]) []:=by
 refine⟨_,by rw[j] at f;simpa using f,fun b=>?_,fun b c=>?_⟩
 ·by_cases e:b=a
  ·subst e;rw[Maps.has_put_same (k:=.int .i64 b) d.isMap trivial];simp
  ·rw[Maps.has_put_other (by simpa using e),g];simp[e]
 ·by_cases e:b=a
  ·subst e;rw[Maps.atKey_put_same (k:=.int .i64 b) d.isMap trivial];rfl
  ·rw[Maps.atKey_put_other (by simpa using e)];refine i b ?_;rcases List.mem_append.1 c with c|c
   ·exact c
   ·simp at c;exact absurd c e
theorem Nm.put {w w':au}{co n:Nat}{T ms:List Int}{a:Int}{D:DataW Unit}(h1:w.ownsMap prog 3 (plainElem prog 3) co T.length D)(c:∀a:Int,Maps.has D (.int .i64 a)=T.contains a)(h3:∀a∈T,D.atKey (.int .i64 a) (.lit (.int .i64 0))=.lit (.int .i64 (nb ms a)))
 (ha:a∈T)(hm:a∉ms)(d:w'.ownsMap prog 3 (plainElem prog 3) co n (D.put (.int .i64 a) (.lit (.int .i64 ms.length)))):Nm w' co T (ms++[a]):=by
 have hs:Maps.size (D.put (.int .i64 a) (.lit (.int .i64 ms.length)))<=T.length:=by rw[Maps.size_put (h1.tidy iA),c,aH (by simpa using ha)];exact h1.size_le
 refine⟨_,(si d rfl).mono hs,fun b=>?_,fun b hb=>?_⟩
 ·by_cases e:b=a
  ·subst e;rw[Maps.has_put_same (k:=.int .i64 b) h1.isMap trivial];simp[ha]
  ·rw[Maps.has_put_other (by simpa using e),c]
 ·rw[CJ hm];exact wQ
section
variable {w:au}{pw p q N O y g:Nat}{ws:List Int}
theorem mz (a:Int)(h:a∈dS N y g ws):0<=a/\a<y:=mo _ _ _ h
theorem oA (a:Int)(h:a∈dw N y g ws):(N:Int)<=a/\a<(N:Int)+g:=mo _ _ _ h
theorem bj {α:Type _}(«as» bs cs:List α):«as» ++ bs ++ cs = «as» ++ (bs ++ cs):=List.append_assoc ..
theorem wU (c0:w.cell? (am pw 0)=some (aj p))(h:At w p q N O y g ws):
 Calls prog 47 #[aj pw] w fun e w'=>∃ai co,e=.returned (aj ai)/\Wk w w' ai co pw (dS N y g ws++dw N y g ws) ([],[]) (.slice none 0 0) []:=by
 have bs:=@run_makeMap prog;have al:(dS N y g ws).length<=2000:=iz _ _;have hO:(dw N y g ws).length<=2000:=iz _ _;have ap:=my (-1) aa;have k1:=h.hN';have bt:=h.hy;have bx:=h.hO;have bY:=h.hg;have G:av (∀a∈dS N y g ws,0<=a/\a<2000):=fun a ha=>by have:=mz a ha;omega
 have I:av (∀a∈dw N y g ws,0<=a/\a<2000):=fun a ha=>by have:=oA a ha;omega
 have ar:Nm (w.alloc (.map #[] 0)) w.heap.size [] []:=⟨_,(World.ownsMap_made w prog 3 (plainElem (H:=Unit) prog 3)),fun _=>rfl,fun a ha=>by simp at ha⟩
 have n:=(an w (.map #[] 0)).alloc Z (.cells #[.pointer (some ⟨pw,0,none⟩),.map (some w.heap.size),.slice none 0 0] 110)
 have J:=aL (w.alloc (.map #[] 0)) (.cells #[.pointer (some ⟨pw,0,none⟩),.map (some w.heap.size),.slice none 0 0] 110)
 have ax:=ar.same (w':=(w.alloc (.map #[] 0)).alloc (.cells #[.pointer (some ⟨pw,0,none⟩),.map (some w.heap.size),.slice none 0 0] 110)) (a4 _ _ _ Z)
 have a0:=(n.cell (p:=am pw 0) (aK w _ c0)).trans c0;have P:=p3 _ (h.below n bW)
 clear ar h;generalize dS N y g ws=fO at P al hO G I⊢;generalize dw N y g ws=d at P al hO G I⊢;go_enter func47,ntmps47;go_wp2_with fail;refine P.mono ?_;clear P;rintro e E ⟨v1,v2,rfl,t,u,F⟩
 obtain⟨aB,a1,rfl⟩:=dQ t;obtain⟨aF,a2,rfl⟩:=dQ u;have a3:=n.trans (F.mono n.size)
 rw[World.size_alloc] at J;have K:=(F.block (w.heap.size+1) Z).trans J;have aR:=ax.same (F.block w.heap.size (by simp;omega))
 have L:=gO t;have M:=gO u;have aT:∀k,some k=(Value.slice aB (fO).length a1).ownBlock->k≠w.heap.size:=fun k e=>by have:=(ce t k e).1;simp at this;omega
 have aV:∀k,some k=(Value.slice aF (d).length a2).ownBlock->k≠w.heap.size:=fun k e=>by have:=(ce u k e).1;simp at this;omega
 have bb:av (∀w3,Fr (fun k=>k=w.heap.size) E w3->iF w3 aB (fO)):=fun w3 f=>L.keep f.size (fun hp a e=>f.block _ (by obtain⟨b,o,l,Q,_⟩:=L hp;rw[e] at l;cases l;exact Q) (fun c=>by obtain⟨b,bd,l⟩:=dW t hp;cases l;cases e;exact aT _ rfl c))
 have be:av (∀w3,Fr (fun k=>k=w.heap.size) E w3->iF w3 aF (d)):=fun w3 f=>M.keep f.size (fun hp a e=>f.block _ (by obtain⟨b,o,l,Q,_⟩:=M hp;rw[e] at l;cases l;exact Q) (fun c=>by obtain⟨b,bd,l⟩:=dW u hp;cases l;cases e;exact aV _ rfl c))
 have R:=lt_of_some K;have S:=hide K;clear aT aV L M t u ax J a0 n F K;go_wp2_with fail
 go_loopw [24] (fun iv wr=>∃(j:Nat),j<=fO.length/\iv=ah j/\Nm wr w.heap.size (fO.take j) []/\Fr (fun k=>k=w.heap.size) E wr) (fun iv _=>fO.length-(intOf iv).toNat)
 exact⟨0,aS _,rfl,aR,Fr.refl _ _⟩
 ·
   obtain⟨j,bg,rfl,hN,i⟩:=hrel;clear aR;have U:wr.cell? (am (w.heap.size+1) 1)=some (.map (some w.heap.size)):=by have:=(i.block (w.heap.size+1) R V).trans S.o;simp[World.cell?,this]
   by_cases m:j<fO.length
   ·obtain⟨bi,bl,W,n,hc⟩:=bb.o wr i V;have X:=hc j m;subst W;clear hc;have v:fO.getD j 0∈fO:=by rw[aC,aG m];exact a6 m
    have Y:=G.o _ v;have A:=hide (fz fO j m 0)
    clear v;generalize fO.getD j 0=z at X Y A;have bn:=iZ (a:=z) V V;obtain⟨D,o1,B,C⟩:=hN;have bo:(fO.take j).length<100000:=by simp;omega
    have s:=ir o1 B C;clear B C;generalize fO.take j=ab at*;go_wp2_with (first
     |(at_mapUpdate;refine wpList_mapUpdate_own _ rfl _ _ _ 108 rfl 3 3 iA underlying108 (plainElem (H:=Unit) prog 3) w.heap.size ab.length D rfl o1 (by unfold maxLen;omega) _ _ _ rfl rfl bn _ [] ap ?_;intro bp ad ag)
     |go_in)
    go_roundw;exact⟨j+1,V,af,by rw[A.o];exact Nm.add s.o.1 s.o.2.1 s.o.2.2 rfl ad,i.grown ag (fun k e=>aJ (by cases e;rfl))⟩
    simp[intOf];omega
   ·obtain rfl:j=fO.length:=V;rw[a_] at hN;clear U;go_wp2_with fail
    go_loopw [36] (fun iv wr=>∃(j:Nat),j<=d.length/\iv=ah j/\Nm wr w.heap.size (fO++d.take j) []/\Fr (fun k=>k=w.heap.size) E wr) (fun iv _=>d.length-(intOf iv).toNat)
    exact⟨0,aS _,rfl,by simpa using hN,i⟩
    ·
      clear hN i;obtain⟨j,bg,rfl,hN,i⟩:=hrel;rename_i bZ _ _ _ wr _ _;have U:wr.cell? (am (w.heap.size+1) 1)=some (.map (some w.heap.size)):=by have:=(i.block (w.heap.size+1) R V).trans S.o;simp[World.cell?,this]
      by_cases m:j<d.length
      ·obtain⟨bi,bl,W,n,hc⟩:=be.o wr i V;have X:=hc j m;subst W;clear hc;have v:d.getD j 0∈d:=by rw[aC,aG m];exact a6 m
       have Y:=I.o _ v;have A:av (fO++d.take (j+1)=(fO++d.take j)++[d.getD j 0]):=by show _=_;rw[fz d j m 0,bj]
       clear v;generalize d.getD j 0=z at X Y A;obtain⟨D,o1,B,C⟩:=hN;have bo:(fO++d.take j).length<100000:=by simp;omega
       have s:=ir o1 B C;clear B C;generalize fO++d.take j=ab at*;go_wp2_with (first
        |(at_mapUpdate;refine wpList_mapUpdate_own _ rfl _ _ _ 108 rfl 3 3 iA underlying108 (plainElem (H:=Unit) prog 3) w.heap.size ab.length D rfl o1 (by unfold maxLen;omega) _ _ _ rfl rfl (iZ (a:=z) V V) _ [] ap ?_;intro bp ad ag)
        |go_in)
       go_roundw;exact⟨j+1,V,af,by rw[A.o];exact Nm.add s.o.1 s.o.2.1 s.o.2.2 rfl ad,i.grown ag (fun k e=>aJ (by cases e;rfl))⟩
       simp[intOf];omega
      ·obtain rfl:j=d.length:=V;rw[a_] at hN;clear U;go_wp2_with fail;go_ret;exact⟨w.heap.size+1,w.heap.size,rfl,(i.block (w.heap.size+1) R V).trans S.o,⟨V,aA _⟩,hN,a7 _ _ _ _,rfl,fun x br=>by simp at br,a3.trans (i.below V (fun k e=>by have e:=e;omega))⟩
end
def e9 (w0 w:au)(m:List dm)(w':au)(b:List dm):Prop:=Kf w0.heap.size w w'/\∀k,fA b k->fA m k\/w.heap.size<=k
theorem e9.refl (w0 w:au)(m:List dm):e9 w0 w m w m:=⟨Kf.refl _ _,fun _ h=>aJ h⟩
theorem e9.trans {w0 w w' b:au}{m d e:List dm}(h:e9 w0 w m w' d)(k:e9 w0 w' d b e):e9 w0 w m b e:=
 ⟨h.1.trans k.1,fun i hi=>(k.2 i hi).elim (h.2 i) (fun c=>aI (aP h.1.size c))⟩
theorem e9.of {w0 w w':au}{m:List dm}(h:Below w.heap.size w w'):e9 w0 w m w' m:=⟨Kf.of h,fun _ h=>aJ h⟩
theorem e9.new {w0 w w' b:au}{m d:List dm}{X:Nat->Prop}(h:e9 w0 w m w' d)(f:Fr X w' b)(g:∀k,X k->w.heap.size<=k):e9 w0 w m b d:=
 ⟨⟨f.os.trans h.1.os,f.tape.trans h.1.tape,f.output.trans h.1.output,aP h.1.size f.size,fun k hk i=>(f.block k (aM hk h.1.size) (fun c=>by have:=g k c;omega)).trans (h.1.low k hk i),
  fun k j e l hk n o=>(f.block k (aM (lt_of_some hk) h.1.size) (fun c=>by have:=g k c;have:=lt_of_some hk;omega)).trans (h.1.fF k j e l hk n o)⟩,h.2⟩
section
variable {w0 w w':au}{kb co pw:Nat}{T:List Int}{s:cL}{vn:Value}{m:List dm}
theorem Wk.fb (h:Wk w0 w kb co pw T s vn m)(k:Nat)(hk:fA m k):k<w.heap.size:=by exact wT
theorem Wk.but {X:Nat->Prop}(h:Wk w0 w kb co pw T s vn m)(f:Fr X w w')(i:∀k,k<w.heap.size->X k->(∃d,w.heap[k]?=some (.cells d 77 (0,0)))/\¬fA m k/\w0.heap.size<=k):Wk w0 w' kb co pw T s vn m:=by
 obtain⟨D,o1,u,v⟩:=h.mp;have n1:¬X kb:=fun c=>by obtain⟨⟨d,hc⟩,_⟩:=i kb (lt_of_some h.blk) c;rw[h.blk] at hc;simp at hc
 have q:¬X co:=fun c=>by obtain⟨⟨d,hc⟩,_⟩:=i co o1.lt c;obtain⟨A,B,g,_⟩:=o1;rw[g] at hc;simp at hc
 refine⟨(f.block kb (lt_of_some h.blk) n1).trans h.blk,h.lo,h.mp.same (f.block co o1.lt q),cv h.row (fun k hk=>f.block k (ce h.row k hk).2 (fun c=>?_)),h.nd,fun x n=>?_,h.dt.trans ⟨f.os,f.tape,f.output,f.size,fun k hk=>f.block k (aM hk h.dt.size) (fun c=>by have:=(i k (aM hk h.dt.size) c).2.2;omega)⟩⟩
 ·obtain⟨⟨d,hc⟩,_⟩:=i k (ce h.row k hk).2 c;obtain⟨C,t⟩:=dZ h.row k hk;rw[t] at hc;simp at hc
 ·have hl:=h.fl x n;have hk:0<x.2.2.2.length->∀b,x.2.1=some b->w'.heap[b.block]?=w.heap[b.block]?:=fun hp b e=>by obtain⟨o,l,d,j,g⟩:=hl.2 hp;have p:=e;rw[j] at p;cases p;exact f.block _ (lt_of_some g) (fun c=>(i _ (lt_of_some g) c).2.1 ⟨x,n,hp,l,j⟩)
  refine⟨hl.1.keep f.size hk,fun hp=>?_⟩
  obtain⟨o,l,d,j,g⟩:=hl.2 hp;exact⟨o,l,d,j,(hk hp _ j).trans g⟩
end
def nt (w0:au)(b co pw:Nat)(T:List Int)(M:cL->Int->cL)(n:Nat):Prop:=
 ∀(w:au)(s:cL)(d:Value)(m:List dm)(a:Int),Wk w0 w b co pw T s d m->eX T s->a∈T->a∉s.1->T.length<=s.1.length+n->
  Calls prog 185 #[aj b,ah a] w fun e w'=>∃f c,e=.returned (ah s.1.length)/\Wk w0 w' b co pw T (M s a) f c/\e9 w0 w m w' c
theorem mA:(prog.info? 77).map (fun i=>(i.zero,i.size,i.bytes))=some (some (.agg #[ah 0,ah 0]),2,16):=ae
section
variable {w0 w:au}{kb co pw n:Nat}{T:List Int}{kd:Int->Int}{sh:Int->List Int}{M:cL->Int->cL}{s:cL}{vn:Value}{m:List dm}
theorem CO (h:Wk w0 w kb co pw T s vn m)(a:Int)(a0:0<=a)(a1:a<1152921504606846976)(d:T.contains a=false):
 Calls prog 165 #[aj kb,ah a] w fun e w'=>∃x,e=.returned (.tuple #[ah x,.bool false])/\w'=w:=by
 obtain⟨c0,c1,c2,lk⟩:=h.cells;obtain⟨D,o1,f,g⟩:=h.mp;have b:=f a;rw[d] at b;have b:=hide b;go_enter func165,ntmps165;go_wp2_with (at_lookup;refine wpList_lookup_own_ok_int _ rfl _ _ 108 rfl 3 3 .i64 iA underlying108 underlying3 (lE _) co T.length D rfl o1 _ _ rfl (iZ a0 a1) ?_;intro c i j;rw[b.o])
 go_ret2;exact⟨c,rfl,rfl⟩
def lH (s:cL)(a:Int):Int:=if s.1.contains a=true then(s.1.idxOf a:Int) else s.1.length
def lI (M:cL->Int->cL)(s:cL)(a:Int):cL:=if s.1.contains a=true then s else M s a
theorem CP (hM:nt w0 kb co pw T M n)(h:Wk w0 w kb co pw T s vn m)(u:eX T s)(v:T.length<=s.1.length+n)(a:Int)(a0:0<=a)(a1:a<1152921504606846976)(i:a∈T):
 Calls prog 165 #[aj kb,ah a] w fun e w'=>∃j d,e=.returned (.tuple #[ah (lH s a),.bool true])/\Wk w0 w' kb co pw T (lI M s a) j d/\e9 w0 w m w' d:=by
 have H:=hide h;have x:=hide hM;obtain⟨c0,c1,c2,lk⟩:=h.cells;obtain⟨D,o1,A,B⟩:=h.mp;have p:=iZ a0 a1;have q:av (Maps.has D (.int .i64 a)=true):=(A a).trans (by simpa using i)
 have f:=B a i;by_cases b:a∈s.1
 ·rw[CL b] at f;have g:av (_=_):=f;have k:lH s a=(s.1.idxOf a:Int):=by unfold lH;rw[aH (by simpa using b)]
  have l:lI M s a=s:=by unfold lI;rw[aH (by simpa using b)]
  rw[k,l];generalize s.1.idxOf a=L at g⊢;go_enter func165,ntmps165;go_wp2_with (at_lookup;refine wpList_lookup_own_ok_int _ rfl _ _ 108 rfl 3 3 .i64 iA underlying108 underlying3 (lE _) co T.length D rfl o1 _ _ rfl p ?_;intro c o C;rw[q.o];(have hc:c=(L:Int):=by have:=o.symm.trans g.o;simpa using this);subst hc)
  go_ret2;exact⟨vn,m,rfl,H.o,e9.refl _ _ _⟩
 ·rw[CK b] at f;have g:av (_=_):=f;have k:lH s a=s.1.length:=by unfold lH;rw[aE (by simpa using b)]
  have l:lI M s a=M s a:=by unfold lI;rw[aE (by simpa using b)]
  rw[k,l];have P:=x.o w s vn m a H.o u i b v;generalize M s a=F at P⊢;generalize s.1.length=L at P⊢;go_enter func165,ntmps165;go_wp2_with (at_lookup;refine wpList_lookup_own_ok_int _ rfl _ _ 108 rfl 3 3 .i64 iA underlying108 underlying3 (lE _) co T.length D rfl o1 _ _ rfl p ?_;intro c o C;rw[q.o];(have hc:c=-1:=by have:=o.symm.trans g.o;simpa using this);subst hc)
  refine P.mono ?_;rintro e w1 ⟨j,d,rfl,E,k1⟩
  have t:=dC E k1;go_wp2_with fail;go_ret2;exact⟨j,d,rfl,t.o.1,t.o.2⟩
theorem wV (x:Int)(h:dk x=3):0<=dv x/\dv x<1152921504606846976:=by
 have h0:dc x=0:=by
  by_cases c:dc x=0
  ·exact c
  ·unfold dk at h;omega
 have b:=(uX x h0).1;rw[h] at b;rw[vx] at b;unfold rc at b;split at b
 ·omega
 ··omega
theorem CQ (hM:nt w0 kb co pw T M n)(h:Wk w0 w kb co pw T s vn m)(S:eX T s)(U:T.length<=s.1.length+n)(x:Int):
 Calls prog 105 #[aj kb,ah x] w fun e w'=>∃O C,e=.returned (.agg #[ah (dr M T s x).1.1,ah (dr M T s x).1.2])/\Wk w0 w' kb co pw T (dr M T s x).2 O C/\e9 w0 w m w' C:=by
 have H:av (Wk w0 w kb co pw T s vn m):=h;have D:=an w (.cells #[.int .i64 0,.int .i64 0] 77)
 have E:=aL w (.cells #[.int .i64 0,.int .i64 0] 77)
 have P:=vh x (w.alloc (.cells #[.int .i64 0,.int .i64 0] 77))
 by_cases o:dk x=3
 ·have A:=wV x o;rw[o] at P;cases hT:T.contains (dv x)
  ·have ev:dr M T s x=((0,0),s):=by unfold dr;rw[aH o,hT,aE Z]
   rw[ev];generalize dv x=a at P A hT;generalize dc x=cc at P;have B:av (∀w1,Below w.heap.size w w1->Calls prog 165 #[aj kb,ah a] w1 fun e w'=>∃x,e=.returned (.tuple #[ah x,.bool false])/\w'=w1):=fun w1 Q=>CO (H.o.below Q) a A.1 A.2 hT;go_enter func105,ntmps105;go_wp2_with fail;refine P.mono ?_;rintro e w1 ⟨rfl,d⟩
   have g:=(d.block w.heap.size Z).trans E;have q:=D.trans (d.mono Z)
   have F:=d.size;simp at F;have t:=an w1 (.cells #[.int .i64 3,.int .i64 a] 77)
   have j:=q.trans (t.mono V)
   have i:=(t.block w.heap.size V).trans g;clear E g D d;go_wp2_with fail;refine(B.o _ j).mono ?_;rintro e w3 ⟨z,rfl,R⟩
   rw[<-R] at i j t;have W:w.heap.size<w3.heap.size:=by rw[R];simp;omega
   clear R;have y0:w3.cell? (am w.heap.size 0)=some (ah 0):=ay i
   have y1:w3.cell? (am w.heap.size 1)=some (ah 0):=ay i
   have X:w3.frozen? (am w.heap.size 0)=false:=az i
   have Y:w3.frozen? (am w.heap.size 1)=false:=az i
   have G:av (e9 w0 w m w3 m):=e9.of j;have I:av (∀J,Fr (fun k=>k=w.heap.size) w3 J->_):=fun J f=>(H.o.below j).but f (fun k _ e=>by have e:=e;rw[e];exact⟨⟨_,i⟩,fun c=>by have:=H.o.fb _ c;omega,H.o.dt.size⟩)
   clear B i t q j H;go_wp2_with fail;obtain⟨b,hW0⟩:∃b,b=(w3.setCell ⟨w.heap.size,0,none⟩ (.int .i64 0)).setCell ⟨w.heap.size,1,none⟩ (.int .i64 0):=⟨_,rfl⟩
   rw[<-hW0];have g0:b.cell? (am w.heap.size 0)=some (ah 0):=by exact kV
   have g1:b.cell? (am w.heap.size 1)=some (ah 0):=by exact wS
   have l:Fr (fun k=>k=w.heap.size) w3 b:=by rw[hW0];exact((Fr.refl (fun k=>k=w.heap.size) w3).set w.heap.size 0 _ rfl).set w.heap.size 1 _ rfl
   exact bv (v:=.agg #[ah 0,ah 0]) (by simp[results,results105,go_sem,g0,g1]) rfl ⟨vn,m,rfl,I.o b l,G.o.new l (fun k e=>Nat.le_of_eq (Eq.symm e))⟩
  ·have ab:dv x∈T:=by simpa using hT
   have ev:dr M T s x=((3,lH s (dv x)),lI M s (dv x)):=by unfold dr lH lI;rw[aH o,aH hT];split<;>rfl
   rw[ev];generalize dv x=a at P A ab⊢;generalize dc x=cc at P;have B:av (∀w1,Below w.heap.size w w1->_):=fun w1 Q=>CP hM (H.o.below Q) S U a A.1 A.2 ab;generalize lH s a=z at B⊢;generalize lI M s a=al at B⊢;go_enter func105,ntmps105;go_wp2_with fail;refine P.mono ?_;rintro e w1 ⟨rfl,d⟩
   have g:=(d.block w.heap.size Z).trans E;have q:=D.trans (d.mono Z)
   have F:=d.size;simp at F;have t:=an w1 (.cells #[.int .i64 3,.int .i64 a] 77)
   have j:=q.trans (t.mono V)
   have i:=(t.block w.heap.size V).trans g;go_wp2_with fail;refine(B.o _ j).mono ?_;rintro e w3 ⟨O,C,rfl,ad,L⟩
   have K:=(L.1.fF _ _ _ _ i aa aa).trans i;have W:=L.1.size;simp at W;have y0:w3.cell? (am w.heap.size 0)=some (ah 0):=ay K
   have y1:w3.cell? (am w.heap.size 1)=some (ah 0):=ay K
   have X:w3.frozen? (am w.heap.size 0)=false:=az K
   have Y:w3.frozen? (am w.heap.size 1)=false:=az K
   have ag:¬fA C w.heap.size:=fun c=>(L.2 _ c).elim (fun c=>by have:=H.o.fb _ c;omega) (fun c=>by simp at c;omega)
   have G:=hide ((e9.of j).trans L)
   have I:av (∀J,Fr (fun k=>k=w.heap.size) w3 J->_):=fun J f=>ad.but f (fun k _ e=>by have e:=e;rw[e];exact⟨⟨_,K⟩,ag,H.o.dt.size⟩)
   go_wp2_with fail;obtain⟨b,hW0⟩:∃b,b=(w3.setCell ⟨w.heap.size,0,none⟩ (.int .i64 3)).setCell ⟨w.heap.size,1,none⟩ (.int .i64 z):=⟨_,rfl⟩
   rw[<-hW0];have g0:b.cell? (am w.heap.size 0)=some (ah 3):=by exact kV
   have g1:b.cell? (am w.heap.size 1)=some (ah z):=by exact wS
   have l:Fr (fun k=>k=w.heap.size) w3 b:=by rw[hW0];exact((Fr.refl (fun k=>k=w.heap.size) w3).set w.heap.size 0 _ rfl).set w.heap.size 1 _ rfl
   exact bv (v:=.agg #[ah 3,ah z]) (by simp[results,results105,go_sem,g0,g1]) rfl ⟨O,C,rfl,I.o b l,G.o.new l (fun k e=>Nat.le_of_eq (Eq.symm e))⟩
 ·have ev:dr M T s x=((dk x,dv x),s):=by unfold dr;rw[aE o]
  rw[ev];have ai:(dk x !=3)=true:=by simpa using o
  clear ev o hM S U;generalize dk x=u at P ai⊢;generalize dv x=v at P⊢;generalize dc x=cc at P;go_enter func105,ntmps105;go_wp2_with fail;refine P.mono ?_;clear P;rintro e w1 ⟨rfl,d⟩
  have g:=(d.block w.heap.size Z).trans E;have q:=D.trans (d.mono Z)
  have F:=d.size;simp at F;have y0:w1.cell? (am w.heap.size 0)=some (ah 0):=ay g
  have y1:w1.cell? (am w.heap.size 1)=some (ah 0):=ay g
  have X:w1.frozen? (am w.heap.size 0)=false:=az g
  have Y:w1.frozen? (am w.heap.size 1)=false:=az g
  have l1:w.heap.size<w1.heap.size:=V;have n1:¬w.heap.size=w1.heap.size:=V;have ap:¬w1.heap.size=w.heap.size:=V;have g:=hide g;clear E D d;go_wp2_with fail;obtain⟨b,hW0⟩:∃b,b=(w1.setCell ⟨w.heap.size,0,none⟩ (.int .i64 u)).setCell ⟨w.heap.size,1,none⟩ (.int .i64 v):=⟨_,rfl⟩
  rw[<-hW0];have g0:b.cell? (am w.heap.size 0)=some (ah u):=by exact kV
  have g1:b.cell? (am w.heap.size 1)=some (ah v):=by exact sr
  have l:Fr (fun k=>k=w.heap.size) w1 b:=by rw[hW0];exact((Fr.refl (fun k=>k=w.heap.size) w1).set w.heap.size 0 _ rfl).set w.heap.size 1 _ rfl
  have ar:b.heap.size=w1.heap.size:=by rw[hW0];simp[World.setCell]
  have N:=an b (.cells #[.int .i64 u,.int .i64 v] 77)
  have I:=((H.o.below q).but l (fun k _ e=>by have e:=e;rw[e];exact⟨⟨_,g.o⟩,fun c=>by have:=H.o.fb _ c;omega,H.o.dt.size⟩)).below N;have G:=((e9.of (w0:=w0) (m:=m) q).new l (fun k e=>Nat.le_of_eq (Eq.symm e))).trans (e9.of N)
  have r0:=(N.cell (p:=am w.heap.size 0) (by show w.heap.size<_;omega)).trans g0;have r1:=(N.cell (p:=am w.heap.size 1) (by show w.heap.size<_;omega)).trans g1;generalize b.alloc (.cells #[.int .i64 u,.int .i64 v] 77)=ax at*;exact bv (v:=.agg #[ah u,ah v]) (by simp[results,results105,go_sem,r0,r1]) rfl ⟨vn,m,rfl,I,G⟩
end
section
variable {rp rb:Nat}{b9 bY:Int}{F:Nat->Prop}{s:cj}{w:au}
def cj.th (s:cj)(i:Nat):Int:=if(s.rs.getD i (0,0)).1=3 then(s.rs.getD i (0,0)).2 else-1
def cj.gd (s:cj)(i:Nat):Int:=if s.th i<0 then-1 else if(s.T.getD (s.th i).toNat (0,[],false,false)).1=5 then s.th i else-1
theorem oC (h:(cn rp rb b9 bY).J F s w)(i:Nat)(hi:i<12):
 Calls prog 44 #[aj rp,ah i] w fun e w'=>e=.returned (ah (s.th i))/\w'=w:=by
 obtain⟨c1,_,_,_,_,_,_,c⟩:=e5 h;obtain⟨d,f,_⟩:=c i hi;have E:av (s.th i=if(s.rs.getD i (0,0)).1=3 then(s.rs.getD i (0,0)).2 else-1):=rfl;generalize s.th i=z at E⊢;generalize (s.rs.getD i (0,0)).1=k at d E;generalize (s.rs.getD i (0,0)).2=n at f E;have g:(i:Int)<12:=V;clear h c;by_cases hk:k=3
 ·subst hk;have b:av (z=n):=E.o;go_enter func44,ntmps44;go_wp2_with fail;go_ret;rw[b.o];exact⟨rfl,rfl⟩
 ·have b:av (z=-1):=E.o.trans (aE hk)
  go_enter func44,ntmps44;go_wp2_with fail;go_ret;rw[b.o];exact⟨rfl,rfl⟩
theorem wW (h:(cn rp rb b9 bY).J F s w)(i:Nat)(hi:i<12)(d:0<=s.th i->s.th i<s.T.length):
 Calls prog 45 #[aj rp,ah i] w fun e w'=>e=.returned (ah (s.gd i))/\w'=w:=by
 have P:=oC h i hi;obtain⟨m,cT,c0,_,f⟩:=kj h;have E:av (s.gd i=if s.th i<0 then-1 else if(s.T.getD (s.th i).toNat (0,[],false,false)).1=5 then s.th i else-1):=rfl;generalize s.gd i=z at E⊢;generalize s.th i=a at P E d;by_cases ha:a<0
 ·have c:av (z=-1):=E.o.trans (aH ha)
  go_enter func45,ntmps45;go_wp2_with fail;refine P.mono ?_;rintro e w1 ⟨rfl,rfl⟩
  go_wp2;go_ret;rw[c.o];exact⟨rfl,rfl⟩
 ·obtain⟨j,rfl⟩:∃j:Nat,a=j:=⟨a.toNat,V⟩
  have g:j<s.T.length:=V;obtain⟨t,ht⟩:∃t,s.T[j]?=some t:=⟨_,aG g⟩
  obtain⟨b,n,cp,rfl,l,_⟩:=f j t ht;have c:av (z=if t.1=5 then(j:Int) else-1):=by show _=_;rw[E.o,aE ha,Int.toNat_natCast,aC,ht];rfl
  generalize t.1=k at l c;have j0:(0:Int)<=(j:Int):=V;have o:decide ((j:Int)<0)=false:=Z;clear f ht E d;by_cases hk:k=5
  ·subst hk;have E3:av (z=j):=c.o;exact wR
  ·have E3:av (z=-1):=c.o.trans (aE hk)
   exact wR
end
theorem CR {w:au}{b k n size:Nat}{T:TypeId}{xs:List Value}(h:w.ownsRow b T size (.slice (ak k) n n) n xs):w.heap[k]?=some (.cells xs.toArray T (0,0)):=by
 obtain⟨m,d⟩:=h;rcases d with⟨e,_⟩|⟨o,p,c,f,q,g,s,t,u,j⟩
 ·cases e
 ·cases f;rw[g];have:c.toList=xs:=by rw[<-List.take_of_length_le (l:=c.toList) (i:=n*size) (by simp;omega),j]
  rw[<-this]
theorem CS (n o:Int)(w:au):Calls prog 12 #[ah n,ah o] w fun e w'=>∃rp rb F,e=.returned (aj rp)/\(cn rp rb n o).J F ⟨[],List.replicate 12 (0,0),[],[]⟩ w'/\(∀b,F b->w.heap.size<=b)/\Below w.heap.size w w':=by
 obtain⟨f,hi,g,i,j⟩:=info_parts mA;go_enter func12,ntmps12;go_wp2_with (at_make;refine wpList_make_full _ rfl _ _ 57 rfl w.heap.size 77 f (.agg #[ah 0,ah 0]) 2 underlying57 hi g i .i64 .i64 _ _ 12 rfl rfl V V (by rw[j];omega) (by unfold maxLen;omega) Z ?_;intro w1 k l)
 go_ret;have c:=CR k;have m:(madeCells (Value.agg #[ah 0,ah 0]).cells (12*2)).toList=ev (List.replicate 12 (0,0)):=ae;rw[m] at c;have p:=lt_of_some c;have q:=bX.grown l bW (fun _ h=>by cases h)
 have s:=aL w1 (.cells #[.slice none 0 0,.slice (some ⟨w.heap.size,0,none⟩) 12 12,.slice none 0 0,.slice none 0 0,.int .i64 n,.int .i64 o] 91)
 refine⟨w1.heap.size,w.heap.size,fun b=>b=w1.heap.size\/b=w.heap.size,rfl,⟨fun b=>if b=w1.heap.size then 1 else if b=w.heap.size then 4 else 0,[],.slice none 0 0,.slice none 0 0,.slice none 0 0,?_,fun b=>?_⟩,fun b d=>V,q.alloc V _⟩
 ·exact {
   blk:=s,b1:=by rw[aH rfl],row:=a7 _ _ _ _,ro:=fun b e=>by simp[Value.ownBlock] at e,nd:=rfl,fl:=fun x t=>by simp at t
   rt:=(a4 _ _ _ p).trans c
   rl:=rfl
   r1:=by rw[aE V,aH rfl]
   g2:=a7 _ _ _ _,fN:=fun b e=>by simp[Value.ownBlock] at e
   g3:=a7 _ _ _ _,fX:=fun b e=>by simp[Value.ownBlock] at e
   lt:=fun b d=>by
    simp only [World.size_alloc];by_cases c1:b=w1.heap.size
    ·omega
    ·by_cases c2:b=w.heap.size
     ·omega
     ·rw[aE c1,aE c2] at d;exact absurd rfl d}
 ·by_cases c1:b=w1.heap.size
  ·simp[c1]
  ·by_cases c2:b=w.heap.size
   ·simp[c2,show¬w.heap.size=w1.heap.size by omega]
   ·simp[c1,c2]
abbrev gm (k R A B I n:Int):Value:=.agg #[ah k,ah R,ah A,ah B,ah I,ah n]
abbrev dj (k R A B I n:Int):Obj:=.cells #[ah k,ah R,ah A,ah B,ah I,ah n] 44
def cj.gc (s:cj)(A:Nat)(I:Int):Int:=if s.th A<0\/(s.T.getD (s.th A).toNat (0,[],false,false)).1=5 then 2 else if I<0\/((s.T.getD (s.th A).toNat (0,[],false,false)).2.1.length:Int)<=I then 1 else 0
def cj.gf (s:cj)(A:Nat)(I:Int):Int×Int:=(s.T.getD (s.th A).toNat (0,[],false,false)).2.1.getD I.toNat (0,0)
section
variable {rp rb:Nat}{b9 bY:Int}{F:Nat->Prop}{s:cj}{w:au}
theorem lJ (h:(cn rp rb b9 bY).J F s w):rb≠rp/\F rb/\F rp:=by
 obtain⟨own,d,f,g,i,hM,b⟩:=h;refine⟨fun e=>?_,(b rb).2 (by rw[hM.r1];decide),(b rp).2 (by rw[hM.b1];decide)⟩
 have c:=hM.r1;rw[e,hM.b1] at c;omega
end
def cP (k:Int):Int:=
 if k=1\/k=2\/k=8 then 1 else if k=3\/k=5\/k=10\/k=11\/k=13 then 3 else if k=4\/k=6\/k=7\/k=14 then 7
 else if k=9\/k=12 then 6 else if k=15\/k=16 then 0 else-1
def d8 (k n:Int):Int:=if k=1 then vc 1 n else if k=5 then hc 2 n else 0
def dp (r:Int):Bool:=decide (0<=r)&&decide (r<12)
def dF (k R A B n:Int):Int:=
 if cP k=-1 then 2 else if(decide (cP k=1\/cP k=3\/cP k=7)&&!dp R)||(decide (cP k=3\/cP k=6\/cP k=7)&&!dp A)||(decide (cP k=6\/cP k=7)&&!dp B) then 1 else d8 k n
theorem oD (k:Int):k=1\/k=2\/k=3\/k=4\/k=5\/k=6\/k=7\/k=8\/k=9\/k=10\/k=11\/k=12\/k=13\/k=14\/k=15\/k=16\/(k<1\/16<k):=V
theorem oE {k:Int}(h:k<1\/16<k):cP k=-1:=by unfold cP;rw[aE V,aE V,aE V,aE V,aE V]
theorem wX (k:Int)(w:au):Calls prog 37 #[ah k] w fun e w'=>e=.returned (ah (cP k))/\w'=w:=by
 rcases oD k with rfl|rfl|rfl|rfl|rfl|rfl|rfl|rfl|rfl|rfl|rfl|rfl|rfl|rfl|rfl|rfl|h
 case' inr.inr.inr.inr.inr.inr.inr.inr.inr.inr.inr.inr.inr.inr.inr.inr=>
  rw[oE h];have b:¬k=1:=V;have c:¬k=2:=V;have d:¬k=3:=V;have f:¬k=4:=V;have g:¬k=5:=V;have i:¬k=6:=V;have j:¬k=7:=V;have l:¬k=8:=V;have m:¬k=9:=V;have n:¬k=10:=V;have o:¬k=11:=V;have p:¬k=12:=V;have q:¬k=13:=V;have s:¬k=14:=V;have t:¬k=15:=V;have u:¬k=16:=V;clear h
 all_goals
  go_enter func37,ntmps37;go_wp2_with fail;go_ret;exact⟨rfl,rfl⟩
theorem sq (k:Int)(w:au):Calls prog 103 #[ah k] w fun e w'=>e=.returned (ah (cP k))/\w'=w:=by
 rcases oD k with rfl|rfl|rfl|rfl|rfl|rfl|rfl|rfl|rfl|rfl|rfl|rfl|rfl|rfl|rfl|rfl|h
 case' inr.inr.inr.inr.inr.inr.inr.inr.inr.inr.inr.inr.inr.inr.inr.inr=>
  rw[oE h];have b:¬k=1:=V;have c:¬k=2:=V;have d:¬k=3:=V;have f:¬k=4:=V;have g:¬k=5:=V;have i:¬k=6:=V;have j:¬k=7:=V;have l:¬k=8:=V;have m:¬k=9:=V;have n:¬k=10:=V;have o:¬k=11:=V;have p:¬k=12:=V;have q:¬k=13:=V;have s:¬k=14:=V;have t:¬k=15:=V;have u:¬k=16:=V;clear h
 all_goals
  go_enter func103,ntmps103;go_wp2_with fail;go_ret;exact⟨rfl,rfl⟩
theorem jy (r:Int)(w:au):Calls prog 94 #[ah r] w fun e w'=>e=.returned (.bool (dp r))/\w'=w:=by
 by_cases h0:0<=r
 ·by_cases b:r<12
  ·have e:dp r=true:=by unfold dp;rw[bm h0,bm b];rfl
   rw[e];go_enter func94,ntmps94;go_wp2;go_ret;exact⟨rfl,rfl⟩
  ·have e:dp r=false:=by unfold dp;rw[bz b,Bool.and_false]
   rw[e];go_enter func94,ntmps94;go_wp2;go_ret;exact⟨rfl,rfl⟩
 ·have e:dp r=false:=by unfold dp;rw[bz h0,Bool.false_and]
  go_wp2;go_ret;exact⟨rfl,rfl⟩
theorem oF (n:Int)(w:au):Calls prog 97 #[ah n] w fun e w'=>e=.returned (.tuple #[ah (ew 1 n),ah (vc 1 n)])/\Below w.heap.size w w':=by
 go_enter func97,ntmps97;go_wp2_with fail;refine(vA 1 n _).mono ?_;rintro e w1 ⟨rfl,b⟩
 go_wp2_with fail;go_ret2;exact⟨rfl,b⟩
theorem CT (k R A B I n:Int)(w:au):Calls prog 95 #[.agg #[ah k,ah R,ah A,ah B,ah I,ah n]] w fun e w'=>e=.returned (ah (d8 k n))/\Below w.heap.size w w':=by
 have hb0:=an w (.cells #[.int .i64 k,.int .i64 R,.int .i64 A,.int .i64 B,.int .i64 I,.int .i64 n] 44)
 by_cases b:k=1
 ·subst b;have e:d8 1 n=vc 1 n:=by unfold d8;rw[aH rfl]
  rw[e];go_enter func95,ntmps95;go_wp2_with fail;refine(oF n _).mono ?_;rintro e w1 ⟨rfl,d⟩
  go_wp2_with fail;go_ret;exact⟨rfl,hb0.trans (d.mono hb0.size)⟩
 ·by_cases c:k=5
  ·subst c;have e:d8 5 n=hc 2 n:=by unfold d8;rw[aE V,aH rfl]
   rw[e];go_enter func95,ntmps95;go_wp2_with fail;refine(oi 2 n _).mono ?_;exact p5
  ·have e:d8 k n=0:=by unfold d8;rw[aE b,aE c]
   rw[e];go_enter func95,ntmps95;go_wp2_with fail;go_ret;exact⟨rfl,hb0⟩
theorem CU {n:Int}(h:n< -1152921504606846976):d8 1 n=1:=by unfold d8 vc rc;rw[aH rfl,aE V,aE V,aH rfl,aH h]
theorem CV {n:Int}(h:1152921504606846976<=n):d8 1 n=1:=by unfold d8 vc rc;rw[aH rfl,aE V,aE V,aH rfl,aE V,aH h]
theorem CW {n:Int}(h:-1152921504606846976<=n)(b:n<1152921504606846976):d8 1 n=0:=by unfold d8 vc rc;rw[aH rfl,aE V,aE V,aH rfl,aE V,aE V]
theorem CX {n:Int}(h:n<0):d8 5 n=1:=by unfold d8 hc;rw[aE V,aH rfl,aE V,aE V,aE V,aH rfl,aH h]
theorem CY {n:Int}(h:12<n):d8 5 n=1:=by unfold d8 hc;rw[aE V,aH rfl,aE V,aE V,aE V,aH rfl,aE V,aH h]
theorem CZ {n:Int}(h:0<=n)(b:n<=12):d8 5 n=0:=by unfold d8 hc;rw[aE V,aH rfl,aE V,aE V,aE V,aH rfl,aE V,aE V]
theorem wM {k n:Int}(b:k≠1)(c:k≠5):d8 k n=0:=by unfold d8;rw[aE b,aE c]
section
variable {k R A B I n:Int}{w:au}
theorem C1 (hu:cP k=1)(hx:R<0\/12<=R):Calls prog 41 #[.agg #[ah k,ah R,ah A,ah B,ah I,ah n]] w fun e w'=>e=.returned (ah (1))/\Below w.heap.size w w':=by
 have U:∀w,Calls prog 103 #[ah k] w fun e w'=>e=.returned (ah 1)/\w'=w:=fun w=>by exact iY
 exact so
theorem C2 (hu:cP k=3)(hx:R<0\/12<=R):Calls prog 41 #[.agg #[ah k,ah R,ah A,ah B,ah I,ah n]] w fun e w'=>e=.returned (ah (1))/\Below w.heap.size w w':=by
 have U:∀w,Calls prog 103 #[ah k] w fun e w'=>e=.returned (ah 3)/\w'=w:=fun w=>by exact iY
 exact so
theorem C3 (hu:cP k=3)(z0:0<=R)(b:R<12)(hx:A<0\/12<=A):Calls prog 41 #[.agg #[ah k,ah R,ah A,ah B,ah I,ah n]] w fun e w'=>e=.returned (ah (1))/\Below w.heap.size w w':=by
 have U:∀w,Calls prog 103 #[ah k] w fun e w'=>e=.returned (ah 3)/\w'=w:=fun w=>by exact iY
 exact wP
theorem C4 (hu:cP k=7)(hx:R<0\/12<=R):Calls prog 41 #[.agg #[ah k,ah R,ah A,ah B,ah I,ah n]] w fun e w'=>e=.returned (ah (1))/\Below w.heap.size w w':=by
 have U:∀w,Calls prog 103 #[ah k] w fun e w'=>e=.returned (ah 7)/\w'=w:=fun w=>by exact iY
 exact so
theorem C5 (hu:cP k=7)(z0:0<=R)(b:R<12)(hx:A<0\/12<=A):Calls prog 41 #[.agg #[ah k,ah R,ah A,ah B,ah I,ah n]] w fun e w'=>e=.returned (ah (1))/\Below w.heap.size w w':=by
 have U:∀w,Calls prog 103 #[ah k] w fun e w'=>e=.returned (ah 7)/\w'=w:=fun w=>by exact iY
 exact wP
theorem C7 (hu:cP k=7)(z0:0<=R)(b:R<12)(c:0<=A)(y1:A<12)(hx:B<0\/12<=B):Calls prog 41 #[.agg #[ah k,ah R,ah A,ah B,ah I,ah n]] w fun e w'=>e=.returned (ah (1))/\Below w.heap.size w w':=by
 have U:∀w,Calls prog 103 #[ah k] w fun e w'=>e=.returned (ah 7)/\w'=w:=fun w=>by exact iY
 exact wN
theorem C8 (hu:cP k=6)(b:A<0\/12<=A):Calls prog 41 #[.agg #[ah k,ah R,ah A,ah B,ah I,ah n]] w fun e w'=>e=.returned (ah (1))/\Below w.heap.size w w':=by
 have c:∀w,Calls prog 103 #[ah k] w fun e w'=>e=.returned (ah 6)/\w'=w:=fun w=>by exact iY
 rcases b with b|b
 all_goals
  go_enter func41,ntmps41;go_wp2_with fail;refine(c _).mono ?_;rintro e w1 ⟨rfl,rfl⟩
  go_wp2_with fail
  go_loopw [5] (fun iv wr=>∃(j:Nat),j<=1/\iv=ah j/\wr=(w.alloc (.cells #[.int .i64 k,.int .i64 R,.int .i64 A,.int .i64 B,.int .i64 I,.int .i64 n] 44)).alloc (.cells #[.int .i64 R,.int .i64 A,.int .i64 B] 3)) (fun iv _=>3-(intOf iv).toNat)
  exact⟨0,V,rfl,rfl⟩
  ·
    obtain⟨j,d,rfl,rfl⟩:=hrel;rcases(show j=0\/j=1 by omega) with rfl|rfl
    ·go_wp2_with fail;go_roundw;exact⟨1,aa,rfl,trivial⟩
     simp[intOf]
    ·go_wp2_with fail;go_ret;exact⟨rfl,(an w (.cells #[.int .i64 k,.int .i64 R,.int .i64 A,.int .i64 B,.int .i64 I,.int .i64 n] 44)).alloc Z _⟩
theorem C9 (hu:cP k=6)(b:0<=A)(y1:A<12)(hx:B<0\/12<=B):Calls prog 41 #[.agg #[ah k,ah R,ah A,ah B,ah I,ah n]] w fun e w'=>e=.returned (ah (1))/\Below w.heap.size w w':=by
 have U:∀w,Calls prog 103 #[ah k] w fun e w'=>e=.returned (ah 6)/\w'=w:=fun w=>by exact iY
 exact wN
theorem C_ (z0:0<=R)(g:R<12)(b:n< -1152921504606846976):Calls prog 41 #[.agg #[ah 1,ah R,ah A,ah B,ah I,ah n]] w fun e w'=>e=.returned (ah (d8 1 n))/\Below w.heap.size w w':=by
 have c:∀w,Calls prog 103 #[ah 1] w fun e w'=>e=.returned (ah 1)/\w'=w:=fun w=>by exact su
 have d:=an w (.cells #[.int .i64 1,.int .i64 R,.int .i64 A,.int .i64 B,.int .i64 I,.int .i64 n] 44)
 have f:av (_):=b;have i:¬1152921504606846976<=n:=V;go_enter func41,ntmps41;go_wp2_with fail;refine(c _).mono ?_;rintro e w1 ⟨rfl,rfl⟩
 go_wp2_with fail
 go_loopw [5] (fun iv wr=>∃(j:Nat),j<=3/\iv=ah j/\wr=(w.alloc (.cells #[.int .i64 1,.int .i64 R,.int .i64 A,.int .i64 B,.int .i64 I,.int .i64 n] 44)).alloc (.cells #[.int .i64 R,.int .i64 A,.int .i64 B] 3)) (fun iv _=>3-(intOf iv).toNat)
 case atStart=>exact⟨0,V,rfl,rfl⟩
 case round=>
  obtain⟨j,k,rfl,rfl⟩:=hrel;rcases(show j=0\/j=1\/j=2\/j=3 by omega) with rfl|rfl|rfl|rfl
  ·go_wp2_with fail;exact ox
  ·go_wp2_with fail;exact oy
  ·go_wp2_with fail;exact oz
  ·go_wp2_with fail;go_ret;exact⟨by rw[CU f.o];rfl,d.alloc Z _⟩
theorem Da (z0:0<=R)(g:R<12)(b:1152921504606846976<=n):Calls prog 41 #[.agg #[ah 1,ah R,ah A,ah B,ah I,ah n]] w fun e w'=>e=.returned (ah (d8 1 n))/\Below w.heap.size w w':=by
 have c:∀w,Calls prog 103 #[ah 1] w fun e w'=>e=.returned (ah 1)/\w'=w:=fun w=>by exact su
 have d:=an w (.cells #[.int .i64 1,.int .i64 R,.int .i64 A,.int .i64 B,.int .i64 I,.int .i64 n] 44)
 have f:=hide b;have i:¬n< -1152921504606846976:=V;go_enter func41,ntmps41;go_wp2_with fail;refine(c _).mono ?_;rintro e w1 ⟨rfl,rfl⟩
 go_wp2_with fail
 go_loopw [5] (fun iv wr=>∃(j:Nat),j<=3/\iv=ah j/\wr=(w.alloc (.cells #[.int .i64 1,.int .i64 R,.int .i64 A,.int .i64 B,.int .i64 I,.int .i64 n] 44)).alloc (.cells #[.int .i64 R,.int .i64 A,.int .i64 B] 3)) (fun iv _=>3-(intOf iv).toNat)
 exact⟨0,V,rfl,rfl⟩
 ·
   obtain⟨j,k,rfl,rfl⟩:=hrel;rcases(show j=0\/j=1\/j=2\/j=3 by omega) with rfl|rfl|rfl|rfl
   ·go_wp2_with fail;go_roundw;exact⟨1,aa,rfl,trivial⟩
    simp[intOf]
   ·go_wp2_with fail;go_roundw;exact⟨2,aa,rfl,trivial⟩
    simp[intOf]
   ·go_wp2_with fail;go_roundw;exact⟨3,aa,rfl,trivial⟩
    simp[intOf]
   ·go_wp2_with fail;go_ret;exact⟨by rw[CV f.o];rfl,d.alloc Z _⟩
theorem Db (z0:0<=R)(k:R<12)(b:-1152921504606846976<=n)(c:n<1152921504606846976):Calls prog 41 #[.agg #[ah 1,ah R,ah A,ah B,ah I,ah n]] w fun e w'=>e=.returned (ah (d8 1 n))/\Below w.heap.size w w':=by
 have d:∀w,Calls prog 103 #[ah 1] w fun e w'=>e=.returned (ah 1)/\w'=w:=fun w=>by exact su
 have f:=an w (.cells #[.int .i64 1,.int .i64 R,.int .i64 A,.int .i64 B,.int .i64 I,.int .i64 n] 44)
 have g:av (_):=b;have i:av (_):=c;have l:¬1152921504606846976<=n:=V;have m:¬n< -1152921504606846976:=V;go_enter func41,ntmps41;go_wp2_with fail;refine(d _).mono ?_;rintro e w1 ⟨rfl,rfl⟩
 go_wp2_with fail
 go_loopw [5] (fun iv wr=>∃(j:Nat),j<=3/\iv=ah j/\wr=(w.alloc (.cells #[.int .i64 1,.int .i64 R,.int .i64 A,.int .i64 B,.int .i64 I,.int .i64 n] 44)).alloc (.cells #[.int .i64 R,.int .i64 A,.int .i64 B] 3)) (fun iv _=>3-(intOf iv).toNat)
 case atStart=>exact⟨0,V,rfl,rfl⟩
 case round=>
  obtain⟨j,o,rfl,rfl⟩:=hrel;rcases(show j=0\/j=1\/j=2\/j=3 by omega) with rfl|rfl|rfl|rfl
  ·go_wp2_with fail;exact ox
  ·go_wp2_with fail;exact oy
  ·go_wp2_with fail;exact oz
  ·go_wp2_with fail;go_ret;exact⟨by rw[CW g.o i.o];rfl,f.alloc Z _⟩
theorem Dc (z0:0<=R)(g:R<12)(i:0<=A)(y1:A<12)(b:n<0):Calls prog 41 #[.agg #[ah 5,ah R,ah A,ah B,ah I,ah n]] w fun e w'=>e=.returned (ah (d8 5 n))/\Below w.heap.size w w':=by
 have c:∀w,Calls prog 103 #[ah 5] w fun e w'=>e=.returned (ah 3)/\w'=w:=fun w=>by exact ss
 have d:=an w (.cells #[.int .i64 5,.int .i64 R,.int .i64 A,.int .i64 B,.int .i64 I,.int .i64 n] 44)
 have f:av (_):=b;have k:¬12<n:=V;go_enter func41,ntmps41;go_wp2_with fail;refine(c _).mono ?_;rintro e w1 ⟨rfl,rfl⟩
 go_wp2_with fail
 go_loopw [5] (fun iv wr=>∃(j:Nat),j<=3/\iv=ah j/\wr=(w.alloc (.cells #[.int .i64 5,.int .i64 R,.int .i64 A,.int .i64 B,.int .i64 I,.int .i64 n] 44)).alloc (.cells #[.int .i64 R,.int .i64 A,.int .i64 B] 3)) (fun iv _=>3-(intOf iv).toNat)
 case atStart=>exact⟨0,V,rfl,rfl⟩
 case round=>
  obtain⟨j,l,rfl,rfl⟩:=hrel;rcases(show j=0\/j=1\/j=2\/j=3 by omega) with rfl|rfl|rfl|rfl
  ·go_wp2_with fail;exact ox
  ·go_wp2_with fail;exact oy
  ·go_wp2_with fail;exact oz
  ·go_wp2_with fail;go_ret;exact⟨by rw[CX f.o];rfl,d.alloc Z _⟩
theorem Dd (z0:0<=R)(g:R<12)(i:0<=A)(y1:A<12)(b:12<n):Calls prog 41 #[.agg #[ah 5,ah R,ah A,ah B,ah I,ah n]] w fun e w'=>e=.returned (ah (d8 5 n))/\Below w.heap.size w w':=by
 have c:∀w,Calls prog 103 #[ah 5] w fun e w'=>e=.returned (ah 3)/\w'=w:=fun w=>by exact ss
 have d:=an w (.cells #[.int .i64 5,.int .i64 R,.int .i64 A,.int .i64 B,.int .i64 I,.int .i64 n] 44)
 have f:av (_):=b;have k:¬n<0:=V;go_enter func41,ntmps41;go_wp2_with fail;refine(c _).mono ?_;rintro e w1 ⟨rfl,rfl⟩
 go_wp2_with fail
 go_loopw [5] (fun iv wr=>∃(j:Nat),j<=3/\iv=ah j/\wr=(w.alloc (.cells #[.int .i64 5,.int .i64 R,.int .i64 A,.int .i64 B,.int .i64 I,.int .i64 n] 44)).alloc (.cells #[.int .i64 R,.int .i64 A,.int .i64 B] 3)) (fun iv _=>3-(intOf iv).toNat)
 case atStart=>exact⟨0,V,rfl,rfl⟩
 case round=>
  obtain⟨j,l,rfl,rfl⟩:=hrel;rcases(show j=0\/j=1\/j=2\/j=3 by omega) with rfl|rfl|rfl|rfl
  ·go_wp2_with fail;exact ox
  ·go_wp2_with fail;exact oy
  ·go_wp2_with fail;exact oz
  ·go_wp2_with fail;go_ret;exact⟨by rw[CY f.o];rfl,d.alloc Z _⟩
theorem De (z0:0<=R)(k:R<12)(l:0<=A)(y1:A<12)(b:0<=n)(c:n<=12):Calls prog 41 #[.agg #[ah 5,ah R,ah A,ah B,ah I,ah n]] w fun e w'=>e=.returned (ah (d8 5 n))/\Below w.heap.size w w':=by
 have d:∀w,Calls prog 103 #[ah 5] w fun e w'=>e=.returned (ah 3)/\w'=w:=fun w=>by exact ss
 have f:=an w (.cells #[.int .i64 5,.int .i64 R,.int .i64 A,.int .i64 B,.int .i64 I,.int .i64 n] 44)
 have g:av (_):=b;have i:av (_):=c;have m:¬12<n:=V;have o:¬n<0:=V;go_enter func41,ntmps41;go_wp2_with fail;refine(d _).mono ?_;rintro e w1 ⟨rfl,rfl⟩
 go_wp2_with fail
 go_loopw [5] (fun iv wr=>∃(j:Nat),j<=3/\iv=ah j/\wr=(w.alloc (.cells #[.int .i64 5,.int .i64 R,.int .i64 A,.int .i64 B,.int .i64 I,.int .i64 n] 44)).alloc (.cells #[.int .i64 R,.int .i64 A,.int .i64 B] 3)) (fun iv _=>3-(intOf iv).toNat)
 case atStart=>exact⟨0,V,rfl,rfl⟩
 case round=>
  obtain⟨j,p,rfl,rfl⟩:=hrel;rcases(show j=0\/j=1\/j=2\/j=3 by omega) with rfl|rfl|rfl|rfl
  ·go_wp2_with fail;exact ox
  ·go_wp2_with fail;exact oy
  ·go_wp2_with fail;exact oz
  ·go_wp2_with fail;go_ret;exact⟨by rw[CZ g.o i.o];rfl,f.alloc Z _⟩
theorem Df (hu:cP k=1)(z0:0<=R)(b:R<12)(h1:k≠1)(h5:k≠5):Calls prog 41 #[.agg #[ah k,ah R,ah A,ah B,ah I,ah n]] w fun e w'=>e=.returned (ah (d8 k n))/\Below w.heap.size w w':=by
 have U:∀w,Calls prog 103 #[ah k] w fun e w'=>e=.returned (ah 1)/\w'=w:=fun w=>by exact iY
 exact sk
theorem Dg (hu:cP k=3)(z0:0<=R)(b:R<12)(c:0<=A)(y1:A<12)(h1:k≠1)(h5:k≠5):Calls prog 41 #[.agg #[ah k,ah R,ah A,ah B,ah I,ah n]] w fun e w'=>e=.returned (ah (d8 k n))/\Below w.heap.size w w':=by
 have U:∀w,Calls prog 103 #[ah k] w fun e w'=>e=.returned (ah 3)/\w'=w:=fun w=>by exact iY
 exact sk
theorem Dh (hu:cP k=7)(z0:0<=R)(b:R<12)(c:0<=A)(y1:A<12)(d:0<=B)(f:B<12)(h1:k≠1)(h5:k≠5):Calls prog 41 #[.agg #[ah k,ah R,ah A,ah B,ah I,ah n]] w fun e w'=>e=.returned (ah (d8 k n))/\Below w.heap.size w w':=by
 have U:∀w,Calls prog 103 #[ah k] w fun e w'=>e=.returned (ah 7)/\w'=w:=fun w=>by exact iY
 exact wO
theorem Di (hu:cP k=6)(b:0<=A)(y1:A<12)(c:0<=B)(d:B<12)(h1:k≠1)(h5:k≠5):Calls prog 41 #[.agg #[ah k,ah R,ah A,ah B,ah I,ah n]] w fun e w'=>e=.returned (ah (d8 k n))/\Below w.heap.size w w':=by
 have U:∀w,Calls prog 103 #[ah k] w fun e w'=>e=.returned (ah 6)/\w'=w:=fun w=>by exact iY
 exact wO
theorem Dj (hu:cP k=0)(h1:k≠1)(h5:k≠5):Calls prog 41 #[.agg #[ah k,ah R,ah A,ah B,ah I,ah n]] w fun e w'=>e=.returned (ah (d8 k n))/\Below w.heap.size w w':=by
 have U:∀w,Calls prog 103 #[ah k] w fun e w'=>e=.returned (ah 0)/\w'=w:=fun w=>by exact iY
 exact sk
theorem Dk (hu:cP k=-1):Calls prog 41 #[.agg #[ah k,ah R,ah A,ah B,ah I,ah n]] w fun e w'=>e=.returned (ah 2)/\Below w.heap.size w w':=by
 have b:∀w,Calls prog 103 #[ah k] w fun e w'=>e=.returned (ah (-1))/\w'=w:=fun w=>by exact iY
 go_enter func41,ntmps41;go_wp2_with fail;refine(b _).mono ?_;rintro e w1 ⟨rfl,rfl⟩
 go_wp2_with fail;go_ret;exact⟨rfl,(an w _)⟩
end
theorem eg {r:Int}(h:dp r=true):0<=r/\r<12:=by unfold dp at h;simpa using h
theorem lK {r:Int}(h:dp r=false):r<0\/12<=r:=by
 unfold dp at h;rw[Bool.and_eq_false_iff] at h;rcases h with h|h
 ·exact aJ (by have:=of_decide_eq_false h;omega)
 ·exact aI (by have:=of_decide_eq_false h;omega)
theorem wY (k:Int):cP k=1\/cP k=3\/cP k=7\/cP k=6\/cP k=0\/cP k=-1:=by
 unfold cP
 repeat' split
 all_goals simp
theorem wZ (k R A B I n:Int)(w:au):Calls prog 41 #[.agg #[ah k,ah R,ah A,ah B,ah I,ah n]] w fun e w'=>e=.returned (ah (dF k R A B n))/\Below w.heap.size w w':=by
 have c:cP 1=1:=rfl;have d:cP 5=3:=rfl;unfold dF;rcases wY k with b|b|b|b|b|b
 ·rw[b,aE aa];cases hR:dp R
  ·rw[aH Z];exact C1 b (lK hR)
  ·rw[aE Z];by_cases hk:k=1
   ·subst hk;by_cases q1:n< -1152921504606846976
    ·exact C_ (eg hR).1 (eg hR).2 q1
    ·by_cases f:1152921504606846976<=n
     ·exact Da (eg hR).1 (eg hR).2 f
     ·exact Db (eg hR).1 (eg hR).2 V V
   ·exact Df b (eg hR).1 (eg hR).2 hk (fun e=>by rw[e,d] at b;omega)
 ·rw[b,aE aa];cases hR:dp R
  ·rw[aH Z];exact C2 b (lK hR)
  ·cases hA:dp A
   ·rw[aH Z];exact C3 b (eg hR).1 (eg hR).2 (lK hA)
   ·rw[aE Z];by_cases hk:k=5
    ·subst hk;by_cases q1:n<0
     ·exact Dc (eg hR).1 (eg hR).2 (eg hA).1 (eg hA).2 q1
     ·by_cases f:12<n
      ·exact Dd (eg hR).1 (eg hR).2 (eg hA).1 (eg hA).2 f
      ·exact De (eg hR).1 (eg hR).2 (eg hA).1 (eg hA).2 V V
    ·exact Dg b (eg hR).1 (eg hR).2 (eg hA).1 (eg hA).2 (fun e=>by rw[e,c] at b;omega) hk
 ·rw[b,aE aa];cases hR:dp R
  ·rw[aH Z];exact C4 b (lK hR)
  ·cases hA:dp A
   ·rw[aH Z];exact C5 b (eg hR).1 (eg hR).2 (lK hA)
   ·cases hB:dp B
    ·rw[aH Z];exact C7 b (eg hR).1 (eg hR).2 (eg hA).1 (eg hA).2 (lK hB)
    ·rw[aE Z];exact Dh b (eg hR).1 (eg hR).2 (eg hA).1 (eg hA).2 (eg hB).1 (eg hB).2 (fun e=>by rw[e,c] at b;omega) (fun e=>by rw[e,d] at b;omega)
 ·rw[b,aE aa];cases hA:dp A
  ·rw[aH Z];exact C8 b (lK hA)
  ·cases hB:dp B
   ·rw[aH Z];exact C9 b (eg hA).1 (eg hA).2 (lK hB)
   ·rw[aE Z];exact Di b (eg hA).1 (eg hA).2 (eg hB).1 (eg hB).2 (fun e=>by rw[e,c] at b;omega) (fun e=>by rw[e,d] at b;omega)
 ·rw[b,aE aa];rw[aE Z];exact Dj b (fun e=>by rw[e,c] at b;omega) (fun e=>by rw[e,d] at b;omega)
 ·rw[aH b];exact Dk b
end Go.Proofs.YtjpjpjemibgjpaaGreat
