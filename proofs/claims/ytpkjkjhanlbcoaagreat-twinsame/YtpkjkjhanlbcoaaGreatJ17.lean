import Derived.Test.YtpkjkjhanlbcoaaGreatJ15
import Derived.Test.YtpkjkjhanlbcoaaGreatJ16
namespace Go.Proofs.YtpkjkjhanlbcoaaGreat
set_option maxRecDepth 100000
set_option maxHeartbeats 4000000
open Tryz
open Go.RowKit W Kp cf
section
variable {c:e8}{k:b9}{F:Nat->Prop}{s:cu}{w:ax}
theorem E_ (h:(eI c k).J F s w)(v:cV k s):
 Calls prog 144 #[aj c.pk] w fun e w'=>∃a2,e=.returned (.bool (k.kv s).1)/\(eI c k).J a2 (k.kv s).2 w'/\b8 F w a2 w':=by
 obtain⟨b2,hi,b3,b5,b6⟩:=info_parts kE;obtain⟨vt,cl,h⟩:=h;obtain⟨_,_,_,_,_,_,b7,_⟩:=ey h;obtain⟨_,er,_⟩:=m3 h;obtain⟨ad,cap,ca⟩:=eE er;subst ca;have X:ay (cV k s):=v;have bb:ay ((jh c k (.slice ad s.ep.length cap)).J F s w):=⟨vt,h⟩
 have cm:s.ep.length<=4000:=by have:=v.sum;have:=v.tl;omega
 have cb:ay (∀a∈s.ep,0<=a/\a<=2000):=fun a ha=>v.ps a (v.ep a ha)
 have bd:ay (k.kv s=(decide ((k.du s s.ep).1.length<s.ep.length),{(k.du s s.ep).2 with ep:=(k.du s s.ep).1})):=rfl;clear v h er;go_enter func144,ntmps144;go_wp2_with fail
 go_loopw [3,12] (fun vr iv wr=>∃(j:Nat)(R:List Int)(s1:cu)(ar:Option Addr)(f:Nat)(d:Nat->Prop),j<=s.ep.length/\iv=ah j/\ay (k.du s (s.ep.take j)=(R,s1))/\vr=.slice ar R.length f/\wr.ownsRow w.heap.size 3 1 (.slice ar R.length f) R.length (R.map (Value.int .i64))/\(jh c k (.slice ad s.ep.length cap)).J d s1 wr/\b8 F w d wr/\ay (∀b,some b=(Value.slice ar R.length f).ownBlock->¬d b)/\ay (cV k s1/\s1.ep=s.ep)) (fun _ iv _=>s.ep.length-(intOf iv).toNat)
 case atStart=>exact⟨0,[],s,none,0,F,aZ _,rfl,rfl,rfl,bc _ _ _ _,bb.out,b8.refl _ _,fun b e=>by simp[Value.ownBlock] at e,⟨X.out,rfl⟩⟩
 case round=>
  obtain⟨j,R,s1,ar,f,d,B,rfl,C,rfl,p,be,q,A,D⟩:=hrel;clear bb b7;have co:R.length<=10000:=by have E:=(cV.iC (s.ep.take j) (t:=([],s)) X.out (fun a ha=>X.out.ep a (List.mem_of_mem_take ha)) (fun b hb=>by cases hb)).2.1;have bg:=C.out;unfold b9.du at bg;rw[bg] at E;simp at E;omega
  by_cases K:j<s.ep.length
  ·obtain⟨bi,g⟩:=be;obtain⟨_,Y,_⟩:=m3 g;rw[D.out.2] at Y;obtain⟨i,m,cc,cp,hc⟩:=gH Y V;have ab:=hc j K;subst cc;have bl:s.ep.getD j 0∈s.ep:=by rw[aE,aL K];exact a6 K
   have cd:=cb.out _ bl;have ag:ay (k.du s (s.ep.take (j+1))=k.cP (R,s1) (s.ep.getD j 0)):=by
    show _=_;rw[gx s.ep j K 0];unfold b9.du;rw[List.foldl_append];have:=C.out;unfold b9.du at this
    rw[this];rfl
   generalize s.ep.getD j 0=a at ab cd ag;obtain⟨M,_⟩:=ey g;obtain⟨G,N,_⟩:=gB g;have L:=jJ (a+1) wr G;have H:ld k.a.N k.s.y k.s.g k.s.ws (a+1)=k.ld (a+1):=rfl;rw[H] at L;have u:ay ((jh c k (.slice (some ⟨i,m,none⟩) s.ep.length cap)).J d s1 wr/\b8 F w d wr):=⟨⟨bi,g⟩,q⟩
   have cq:=q.fr.size;have bn:ay (∀b,some b=(Value.slice ar R.length f).ownBlock->b<wr.heap.size):=fun b e=>(cn p b e).2;have j0:(0:Int)<=(j:Int):=V;have cr:(j:Int)<(s.ep.length:Int):=V;clear hc bl g q G H Y;cases hls:k.cS s1 (k.ld (a+1))
   ·have O:ay (k.du s (s.ep.take (j+1))=(R,k.ma s1 (k.ld (a+2)))):=by show _=_;rw[ag.out];unfold b9.cP;rw[hls];rfl
    generalize k.ld (a+1)=x at L hls;go_wp2_with fail;refine L.mono ?_;clear L;rintro e w1 ⟨rfl,n⟩
    obtain⟨ce,o⟩:=(jh c k (.slice (some ⟨i,m,none⟩) s.ep.length cap)).below u.out.1 n;have P:=o_ o x;rw[hls] at P;clear ab M N o;go_wp2_with fail;refine P.mono ?_;clear P;rintro e I ⟨rfl,J⟩
    have hb:=n.trans (J.mono n.size)
    obtain⟨cf,Q⟩:=(jh c k (.slice (some ⟨i,m,none⟩) s.ep.length cap)).below u.out.1 hb;obtain⟨M,_⟩:=ey Q;obtain⟨G,N,_⟩:=gB Q;have S:=jJ (a+2) I G;have H:ld k.a.N k.s.y k.s.g k.s.ws (a+2)=k.ld (a+2):=rfl;rw[H] at S;have cg:ay (k.ld (a+2)=k.ld (a+2)):=rfl;generalize k.ld (a+2)=y at S O;have ai:ay ((jh c k (.slice (some ⟨i,m,none⟩) s.ep.length cap)).J d s1 I/\aw wr I):=⟨⟨cf,Q⟩,hb⟩
    clear n J Q G H hb cg;go_wp2_with fail;refine S.mono ?_;clear S;rintro e ch ⟨rfl,al⟩
    have bo:=ya ((jh c k (.slice (some ⟨i,m,none⟩) s.ep.length cap)).below ai.out.1 al) D.out.1 y;have bp:ay (b8 d wr d ch):=(b8.of ai.out.2).below al;clear al M N ai;go_wp2_with fail;refine bo.mono ?_;clear bo;rintro e am ⟨br,rfl,an,U⟩
    have W:=bp.out.trans U;have ao:=D.out.1.ma y;have ap:=g6 (u.out.2.trans W) ao.1 (ao.2.2.trans D.out.2)
    have aB:=hQ p W.fr (fun b e=>A.out b e)
    have aF:ay (∀b,some b=(Value.slice ar R.length f).ownBlock->¬br b):=fun b e bs=>(W.sub b bs).elim (A.out b e) (fun bs=>by have:=bn.out b e;omega)
    clear U W ao p bp A;go_wp2_with fail;go_roundw;exact⟨j+1,R,_,ar,f,br,V,af,O,rfl,aB,an,ap.out.1,aF,⟨ap.out.2.1,ap.out.2.2⟩⟩
    simp[intOf];omega
   ·have O:ay (k.du s (s.ep.take (j+1))=(R++[a],s1)):=by show _=_;rw[ag.out];unfold b9.cP;rw[aI hls]
    generalize k.ld (a+1)=x at L hls;go_wp2_with fail;refine L.mono ?_;clear L;rintro e w1 ⟨rfl,n⟩
    obtain⟨ce,o⟩:=(jh c k (.slice (some ⟨i,m,none⟩) s.ep.length cap)).below u.out.1 n;have P:=o_ o x;rw[hls] at P;clear ab M N o;go_wp2_with fail;refine P.mono ?_;clear P;rintro e I ⟨rfl,J⟩
    have hb:=n.trans (J.mono n.size)
    have aR:=cH p (fun b e=>hb.block b (bn.out b e))
    have cs:=hb.size;clear n J;go_wp2_with (at_builtin;refine wpList_append_own_at _ rfl _ _ 74 rfl w.heap.size 3 b2 (ah 0) 1 8 Tryz.underlying74 hi b3 b5 b6 rfl aa (.slice ar R.length f) R.length (R.map (Value.int .i64)) rfl (ga aR _) ⟨I.heap.size,0,none⟩ 1 1 [ah a] rfl rfl ?_ ?_ ?_ ?_ ?_ ?_;(intro j ci B;match j,B with|0,B=>(simp at B;subst B;simp[Addr.add]));(intro ci bt;simp at bt;subst bt;rfl);(unfold maxLen;omega);omega;(simp;omega);intro ct am aV a0 _ bx;obtain⟨b4,a1,cj⟩:=eU aV (Nat.succ_pos _);subst cj)
    have aB:am.ownsRow w.heap.size 3 1 (.slice (ak b4) (R++[a]).length a1) (R++[a]).length ((R++[a]).map (Value.int .i64)):=by simpa using aV
    have o:=(jh c k (.slice (some ⟨i,m,none⟩) s.ep.length cap)).below u.out.1 hb;have an:=pX (jh c k (.slice (some ⟨i,m,none⟩) s.ep.length cap)) o a0 (fun b e=>A.out b e)
    have U:b8 F w d am:=⟨((u.out.2.below hb).fr.alloc _).grown a0 (fun b e=>aJ (cn aR b e.symm).1),u.out.2.sub⟩
    have aF:ay (∀b,some b=(Value.slice (ak b4) (R++[a]).length a1).ownBlock->¬d b):=fun b e bY=>by
     have ck:=bx.imp id (fun e=>by simpa[Value.ownBlock] using e)
     simp[Value.ownBlock] at e;subst e;rcases ck with e|e
     ·exact A.out _ e bY
     ·have:=(jh c k (.slice (some ⟨i,m,none⟩) s.ep.length cap)).lt o _ bY;omega
    clear o aV a0 bx aR p hb;go_wp2_with fail;go_roundw;exact⟨j+1,R++[a],s1,ak b4,a1,d,V,af,O,Z,aB,an,U,aF,D⟩
    simp[intOf];omega
  ·obtain rfl:j=s.ep.length:=V;rw[bu] at C;obtain⟨bi,g⟩:=be;obtain⟨_,_,_,_,_,_,cv,bZ,lk⟩:=ey g;have cw:=bZ 6;obtain⟨b0,b1⟩:=x8 g (v1:=.slice ar R.length f) (l:=R) (Fr.refl _ wr) (eT p (fun _ _=>aZ _)) (fun b e=>aJ (A.out b e))
   have sJ:=dq b0 (q.fr.trans b1 q.sub)
   have xt:ay (∀b,some b=(Value.slice ar R.length f).ownBlock->w.heap.size<=b):=fun b e=>(cn p b e).1;have xs:=hide q.sub;have E2:ay ((k.kv s).1=decide (R.length<s.ep.length)/\(k.kv s).2={s1 with ep:=R}):=by have E:=bd.out;rw[C.out] at E;rw[E];exact⟨rfl,rfl⟩
   clear b0 b1 g q p C bd bZ;by_cases hll:R.length<s.ep.length
   ·go_wp2_with fail;exact qg
   ·go_wp2_with fail;exact qg
end
def dP (c:e8)(k:b9):dr cu:=xA (eI c k) (fun s=>cV k s)
abbrev dl (c:e8):Obj:=.cells #[aj c.pk] 137 (0,0)
abbrev kk (c:e8):fP:=⟨142,#[aj c.pk],#[]⟩
abbrev l5 (c:e8):fP:=⟨80,#[aj c.pk],#[]⟩
abbrev jy (fv:fP):Obj:=.cells #[fv.v] 147 (0,0)
abbrev iX (bx:Nat):fP:=⟨153,#[],#[aj bx]⟩
abbrev ib (b:Nat):fP:=⟨155,#[],#[aj b]⟩
abbrev jj (c:e8):fP:=⟨156,#[aj c.pk],#[]⟩
theorem tf:dN 153:=f_ func153 ae rfl
theorem ti:dN 155:=f_ func155 ae rfl
theorem tq:dN 156:=f_ func156 ae rfl
section
variable {c:e8}{k:b9}{F:Nat->Prop}{s:cu}{w:ax}
theorem ts (fv:fP)(w:ax)(p:Nat):
 Calls prog 79 #[aj p,fv.v] w fun e w'=>e=.returned (.agg #[(iX w.heap.size).v,(ib (w.heap.size+1)).v,.func (.func 156) #[aj p] #[]])/\w'.heap[w.heap.size]?=some (.cells #[aj p] 137 (0,0))/\w'.heap[w.heap.size+1]?=some (jy fv)/\aw w w':=by
 obtain⟨f,b,c⟩:=fv;go_enter func79,ntmps79;go_wp2_with fail;refine a3 (v:=.agg #[(iX w.heap.size).v,(ib (w.heap.size+1)).v,.func (.func 156) #[aj p] #[]]) (by simp[results,results79,go_sem]) rfl ⟨rfl,?_,?_,(((aH _ w).alloc bW _).alloc Z _).alloc (by simp;omega) _⟩
 ·rw[aS _ _ _ (by simp;omega),aS _ _ _ Z];exact aN _ _
 ·rw[aS _ _ _ Z];have:=aN (w.alloc (.cells #[.pointer (some ⟨p,0,none⟩)] 137)) (.cells #[.func (.func f) b c] 147)
  simpa using this
theorem tt:k7 (dP c k) (fun _=>True) (jj c).f (jj c).b (jj c).c k.nw:=by
 rintro F s w x _ ⟨⟨vt,b,h⟩,_⟩
 exact x_ h x
def b9.mp (k:b9)(s:cu)(x:Int):Int×cu:=(x,k.ma s x)
theorem yb (f:Nat):nU (da (dP c k) f (jy (kk c))) (fun _=>True) (ib f).f (ib f).b (ib f).c k.mp:=by
 rintro F s w x _ ⟨u,⟨h,j⟩,l,hn,o⟩
 have P:=pa h j x;have c0:w.cell? (aq f 0)=some (kk c).v:=by simp[World.cell?,l]
 have t:=hide (j.ma x).1;have g:=g6 l hn o;clear h j l hn o;show Calls prog 155 #[ah x,aj f] w _;go_enter func155,ntmps155;go_wp2_with fail;refine P.mono ?_;clear P;rintro e w1 ⟨m,rfl,p,i⟩
 have q:=(i.fr.block f (lt_of_some g.out.1) g.out.2.1).trans g.out.1;have n:ay ((da (dP c k) f (jy (kk c))).J (fun b=>m b\/b=f) (k.ma s x) w1/\Fr F w w1/\∀b,(m b\/b=f)->F b\/w.heap.size<=b):=by
  refine⟨⟨m,⟨p,t.out⟩,q,fun d=>(i.sub _ d).elim g.out.2.1 (fun d=>by have:=lt_of_some g.out.1;omega),fun b=>Iff.rfl⟩,i.fr.mono (fun b d=>(g.out.2.2 b).2 (aK d)),fun b d=>?_⟩
  rcases d with d|d
  ·exact(i.sub b d).imp (fun d=>(g.out.2.2 b).2 (aK d)) id
  ·exact aK ((g.out.2.2 b).2 (aJ d))
 clear p i q;go_wp2_with fail;go_ret;exact⟨_,rfl,n.out.1,n.out.2.1,n.out.2.2⟩
end
def b9.eJ (k:b9)(s:cu):cu:=k.lm (k.lost s+s.td.length+1) s
def b9.wa (k:b9)(t:cu×List b7):(cu×List b7)×Bool:=gI k.al k.mp t t.2.length
def b9.ph (k:b9)(s:cu):Nat:=k.lost s+s.td.length+s.ep.length
def b9.mu (k:b9)(s:cu):Nat:=k.lost s+k.ph s
def b9.cW (k:b9):Nat->cu×List b7->cu×List b7
 |0,t=>t
 |n+1,t=>
  if(k.kv (k.eJ t.1)).1=true then k.cW n ((k.kv (k.eJ t.1)).2,t.2)
  else if(k.wa ((k.kv (k.eJ t.1)).2,t.2)).2=true then k.cW n (k.wa ((k.kv (k.eJ t.1)).2,t.2)).1
  else(k.wa ((k.kv (k.eJ t.1)).2,t.2)).1
def b9.sp (k:b9)(t:cu×List b7):cu×List b7:=k.cW (k.mu t.1+1) t
def b9.ke (k:b9)(t:cu×List b7)(x:Int):Int×(cu×List b7):=(x,k.sp (k.ma t.1 x,t.2))
structure dt (k:b9)(s t:cu):Prop where
 eX:cV k t
 lo:k.lost t<=k.lost s
 ph:k.ph t<=k.ph s
section
variable {k:b9}{s t u:cu}
theorem dt.refl (h:cV k s):dt k s s:=⟨h,aD _,aD _⟩
theorem dt.trans (h:dt k s t)(j:dt k t u):dt k s u:=⟨j.eX,aT j.lo h.lo,aT j.ph h.ph⟩
theorem dt.mu (h:dt k s t):k.mu t<=k.mu s:=by have b:=h.lo;have c:=h.ph;unfold b9.mu;omega
theorem yc (h:cV k s)(x:Int):k.cS s x=true->k.lost (k.ma s x)<k.lost s:=fun c=>by
 have:=b9.x6 h.nd c (fun a ha=>(h.ps a ha).1)
 omega
theorem dt.ma (h:cV k s)(x:Int):dt k s (k.ma s x):=by
 obtain⟨b,f,d⟩:=h.ma x;refine⟨b,?_,?_⟩
 ·by_cases c:k.cS s x=true
  ·exact Nat.le_of_lt (yc h x c)
  ·have e:k.ma s x=s:=by unfold b9.ma;rw[aG c]
   rw[e];exact aD _
 ·unfold b9.ph;rw[d];omega
theorem dt.e7 (h:cV k s)(a:Int):∀n,dt k s (k.e7 s a n)
 |0=>dt.refl h
 |n+1=>(dt.e7 h a n).trans (dt.ma (dt.e7 h a n).eX _)
theorem Fa (h:cV k s)(a:Int):k.lost (k.lk s a)<=k.lost s:=by
 unfold b9.lk;split
 ·exact(dt.e7 h a _).lo
 ·split
  ·exact(dt.ma h _).lo
  ·split
   ·exact aD _
   ·exact aD _
theorem dt.l1 (h:cV k s)(hl:0<s.td.length):dt k s (k.l1 s):=by
 obtain⟨c,d⟩:=h.l1 hl;have hm:s.td.getD (s.td.length-1) 0∈s.td:=by exact te
 have hs:=h.sum;have e:(s.td.take (s.td.length-1)).length=s.td.length-1:=by rw[bw];omega
 have h0:cV k {s with td:=s.td.take (s.td.length-1)}:=⟨h.nd,h.ps,fun a ha=>h.td a (List.mem_of_mem_take ha),h.ep,h.tl,by show k.lost s+(s.td.take _).length+s.ep.length<=_;omega⟩
 have b:=(h0.lk (h.td _ hm) (by show k.lost s+(s.td.take _).length+s.ep.length+1<=_;omega)).2.2;have b:(k.l1 s).ep.length<=s.ep.length+1:=b;refine⟨c,(Fa h0 _),?_⟩
 unfold b9.ph;omega
theorem dt.lm:∀(n:Nat){s:cu},cV k s->dt k s (k.lm n s)
 |0,s,h=>dt.refl h
 |n+1,s,h=>by
  unfold b9.lm;by_cases c:0<s.td.length
  ·rw[aI c];exact(dt.l1 h c).trans (dt.lm n (dt.l1 h c).eX)
  ·rw[aG c];exact dt.refl h
theorem dt.eJ (h:cV k s):dt k s (k.eJ s):=dt.lm _ h
theorem Fc (h:cV k s):(k.eJ s).td=[]:=(cV.lm _ h).2.1 V
theorem dt.iC:∀(l:List Int){t:List Int×cu},cV k t.2->dt k t.2 (l.foldl k.cP t).2
 |[],t,h=>dt.refl h
 |a::l,t,h=>by
  have b:dt k t.2 (k.cP t a).2:=by
   unfold b9.cP;split
   ·exact dt.refl h
   ·exact dt.ma h _
  exact b.trans (dt.iC l b.eX)
theorem dt.kv (h:cV k s):dt k s (k.kv s).2/\((k.kv s).1=true->k.mu (k.kv s).2<k.mu s):=by
 obtain⟨b,f,g,c⟩:=h.kv;have d:k.lost (k.kv s).2<=k.lost s:=(dt.iC s.ep h).lo;refine⟨⟨b,d,by unfold b9.ph;omega⟩,fun e=>?_⟩
 have:=c e;unfold b9.mu b9.ph;omega
theorem yd:∀(l:List Nat)(t:(cu×List b7)×Bool),cV k t.1.1->dt k t.1.1 (l.foldl (dB k.al k.mp) t).1.1/\(l.foldl (dB k.al k.mp) t).1.2.length=t.1.2.length/\((l.foldl (dB k.al k.mp) t).2=true->t.2=true\/k.lost (l.foldl (dB k.al k.mp) t).1.1<k.lost t.1.1)
 |[],t,h=>⟨dt.refl h,rfl,fun e=>aK e⟩
 |i::l,t,h=>by
  have key:dt k t.1.1 (dB k.al k.mp t i).1.1/\(dB k.al k.mp t i).1.2.length=t.1.2.length/\((dB k.al k.mp t i).2=true->t.2=true\/k.lost (dB k.al k.mp t i).1.1<k.lost t.1.1):=by
   unfold dB;split
   ·exact⟨dt.refl h,rfl,fun e=>aK e⟩
   ·rename_i c;refine⟨dt.ma h _,Z,fun _=>aJ (yc h _ ?_)⟩
    rw[Bool.or_eq_true] at c;cases hj:k.cS t.1.1 _
    ·exact absurd (aK (by unfold b9.al;rw[hj];rfl)) c
    ·rfl
  obtain⟨k1,f,g⟩:=key;obtain⟨d,j2,cA⟩:=yd l _ k1.eX;refine⟨k1.trans d,j2.trans f,fun e=>?_⟩
  rcases cA e with b|b
  ·rcases g b with b|b
   ·exact aK b
   ·exact aJ (Nat.lt_of_le_of_lt d.lo b)
  ·exact aJ (aM b k1.lo)
theorem dt.wa {t:cu×List b7}(h:cV k t.1):dt k t.1 (k.wa t).1.1/\(k.wa t).1.2.length=t.2.length/\((k.wa t).2=true->k.mu (k.wa t).1.1<k.mu t.1):=by
 obtain⟨b,c,d⟩:=yd _ (t,false) h;have b:dt k t.1 (k.wa t).1.1:=b;refine⟨b,c,fun e=>?_⟩
 have f:k.lost (k.wa t).1.1<k.lost t.1:=(d e).resolve_left Z;have g:=b.ph;unfold b9.mu;omega
end
section
variable {c:e8}{k:b9}{F:Nat->Prop}{s:cu}{w:ax}{vr:Value}
theorem tu (bx b:Nat)(fv:fP):j9 (da (da (dP c k) b (jy fv)) bx (dl c)) (fun _=>True) (iX bx).f (iX bx).b (iX bx).c k.al:=by
 rintro F s w x _ ⟨f,⟨g,⟨⟨vt,i,h⟩,_⟩,_⟩,d,_⟩
 have P:=o_ h x;have c0:w.cell? (aq bx 0)=some (aj c.pk):=by simp[World.cell?,d]
 have E:k.al s x=!k.cS s x:=rfl;go_enter func153,ntmps153;exact s9
theorem Fe {i:Option Addr}{j l:Nat}(m:vr=.slice i j l){t:cu×List b7}(h:(c7 (dP c k) c.bs vr).J F t w)(hq:t.2.length<=90000)(bx f:Nat)(n:w.heap[bx]?=some (dl c))(hy:w.heap[f]?=some (jy (kk c)))(hn:¬F bx)(hm:¬F f)(o:bx≠f):
 Calls prog 145 #[aj c.bs,.agg #[(iX bx).v,(ib f).v,(jj c).v]] w fun e w'=>∃g,e=.returned (.bool (k.wa t).2)/\(c7 (dP c k) c.bs vr).J g (k.wa t).1 w'/\Fr (fun b=>F b\/b=f\/b=bx) w w'/\(∀b,g b->F b\/b=f\/b=bx\/w.heap.size<=b):=by
 refine(xc _ (xz _ _ _) (fun _=>True) (iX bx) (ib f) (jj c) _ _ _ (p_ _ c.bs vr (fun _=>True) (iX bx) (ib f) (jj c) k.al k.mp k.nw tf ti tq (tu bx f (kk c)) (sO (yb f)) (lZ (lZ tt))) i j l m _ t w hq (fun _ _=>⟨trivial,trivial⟩) (ka (ka h hy hm) n (fun d=>d.elim hn o))).mono ?_;rintro e w' ⟨g,rfl,p,q,hs⟩
 refine⟨g,rfl,sN (sN p),q.mono (fun b d=>?_),fun b hb=>?_⟩
 ·rcases d with(d|d)|d
  ·exact aK d
  ·exact aJ (aK d)
  ·exact aJ (aJ d)
 ·rcases hs b hb with((d|d)|d)|d
  ·exact aK d
  ·exact aJ (aK d)
  ·exact aJ (aJ (aK d))
  ·exact aJ (aJ (aJ d))
theorem ye {an:Option Addr}{ao ap:Nat}(ar:vr=.slice an ao ap){t:cu×List b7}(h:(c7 (dP c k) c.bs vr).J F t w)(hq:t.2.length<=90000):
 Calls prog 77 #[aj c.pk] w fun e w'=>∃Q,e=.returned (.tuple #[])/\(c7 (dP c k) c.bs vr).J Q (k.sp t) w'/\b8 F w Q w':=by
 have aB:∀(R:Fn)(first cap:Array Value)(w:ax),(Instr.makeFunc R first cap).run prog w=.ok (.func R first cap) w:=fun _ _ _ _=>rfl;obtain⟨f,U⟩:∃f,k.sp t=f:=⟨_,rfl⟩
 rw[U];have aF:=hide U;go_enter func77,ntmps77;go_wp2
 go_loopg [2] (k.mu t.1+1) (fun n aR wr=>∃(E:Nat->Prop)(d:cu×List b7)(b:Bool),aR=.bool b/\(c7 (dP c k) c.bs vr).J E d wr/\b8 F w E wr/\ay (if b=true then k.mu d.1<n/\k.cW n d=f else d=f)/\d.2.length<=90000)
 exact⟨F,t,true,rfl,h,b8.refl _ _,⟨V,aF.out⟩,hq⟩
 ·
   obtain⟨E,d,b,rfl,W,X,Y,hq⟩:=hrel;cases b
   ·have x:=hide Y.out;go_wp2;go_end0;rw[<-x.out];exact⟨E,rfl,W,X⟩
   ·obtain⟨bs,aV⟩:=Y.out;obtain⟨m,hm⟩:∃m,gk=m+1:=⟨gk-1,V⟩
    obtain⟨bt,K,a0⟩:=n9 W;have B:=E9 K.1 K.2;have j0:=dt.eJ K.2;obtain⟨ab,j2⟩:=dt.kv j0.eX;have cA:=(j0.trans ab).mu;have cE:=j0.mu;have a1:k.lm (k.lost d.1+d.1.td.length+1) d.1=k.eJ d.1:=rfl;rw[a1] at B;have a2:=hide j0.eX;have j:=g6 X a0 ab.eX;have L:ay (_/\((k.kv (k.eJ d.1)).1=true->k.mu (k.kv (k.eJ d.1)).2<k.mu d.1)/\k.mu d.1<m+1):=⟨cA,fun e=>by have:=j2 e;omega,V⟩
    have x:ay (k.cW (m+1) d=f):=by rw[<-hm];exact aV
    have M:=hide hm;go_wp2_with fail;refine B.mono ?_;rintro e w1 ⟨bx,rfl,A,C⟩
    have G:=E_ ((eI c k).below A (aH _ w1).drew) a2.out;have C:=C.below (aH _ w1).drew;obtain⟨bY,bZ,A⟩:=A;obtain⟨_,_,_,_,bb,_⟩:=ey A;cases hkv:(k.kv (k.eJ d.1)).1
    ·rw[hkv] at G;have ad:ay ((if(k.wa ((k.kv (k.eJ d.1)).2,d.2)).2=true then k.cW m (k.wa ((k.kv (k.eJ d.1)).2,d.2)).1 else(k.wa ((k.kv (k.eJ d.1)).2,d.2)).1)=f):=by
      have:=x.out;unfold b9.cW at this
      rw[hkv] at this
      exact this
     have s:=dt.wa (t:=((k.kv (k.eJ d.1)).2,d.2)) j.out.2.2;have s:ay ((k.wa ((k.kv (k.eJ d.1)).2,d.2)).1.2.length<=90000/\((k.wa ((k.kv (k.eJ d.1)).2,d.2)).2=true->k.mu (k.wa ((k.kv (k.eJ d.1)).2,d.2)).1.1<k.mu d.1)):=by refine⟨by rw[s.2.1];exact hq,fun e=>by have:=s.2.2 e;dsimp only at this;omega⟩
     generalize k.eJ d.1=s1 at*;generalize (k.kv s1).2=s2 at*;go_wp2
     go_region_held3 (fun w'=>w'.cell? (aq c.pk 4)=some (aj c.bs)) (go_keep)
      (first
        |(go_at_call 144;refine G.mono ?_;rintro e l ⟨N,rfl,o,H⟩;obtain⟨ag,hM,I⟩:=j.out.2.1 N s2 l ⟨o,j.out.2.2⟩ (C.trans H);obtain⟨b0,b1,o⟩:=o;obtain⟨_,_,_,_,g4,_⟩:=ey o;have l0:=aQ l _ g4;have g:=dq hM (j.out.1.trans I))
        |(go_at_call 79;refine(ts (kk c) l c.pk).mono ?_;rintro e b2 ⟨rfl,bd,be,ai⟩;have bg:=(ai.cell (p:=aq c.pk 4) l0).trans g4;have u:=g6 bd be ai)
        |(go_at_call 145;refine(Fe ar (t:=(s2,d.2)) ((c7 (dP c k) c.bs vr).below g.out.1 u.out.2.2) hq l.heap.size (l.heap.size+1) u.out.1 u.out.2.1 (fun h=>by have:=(c7 (dP c k) c.bs vr).lt g.out.1 _ h;omega) (fun h=>by have:=(c7 (dP c k) c.bs vr).lt g.out.1 _ h;omega) V).mono ?_;rintro e bi ⟨O,rfl,al,bl,bn⟩;have J:ay (_/\b8 F w O bi):=⟨al,⟨(g.out.2.below u.out.2.2).fr.trans bl (fun b hb=>hb.elim (g.out.2.sub b) (fun e=>aJ (by have:=g.out.2.fr.size;omega))),fun b hb=>(bn b hb).elim (g.out.2.sub b) (fun h=>aJ (by have q:=g.out.2.fr.size;have am:=u.out.2.2.size;omega))⟩⟩;obtain⟨b3,⟨⟨b4,b5,bo⟩,_⟩,_⟩:=n9 al;obtain⟨_,_,_,_,bp,_⟩:=ey bo))
     clear bp g4 bg bb j g u x aB C;cases hbw:(k.wa (s2,d.2)).2
     ·have D:ay (if false=true then k.mu (k.wa (s2,d.2)).1.1<m/\k.cW m (k.wa (s2,d.2)).1=f else(k.wa (s2,d.2)).1=f):=by
       have:=ad.out;rw[hbw] at this
       exact this
      go_wp2
      go_roundg m
      case measure=>have:=M.out;omega
      exact⟨O,(k.wa (s2,d.2)).1,false,rfl,J.out.1,J.out.2,D,s.out.1⟩
     ·have D:ay (if true=true then k.mu (k.wa (s2,d.2)).1.1<m/\k.cW m (k.wa (s2,d.2)).1=f else(k.wa (s2,d.2)).1=f):=by have q:=ad.out;rw[hbw] at q;have am:=s.out.2 hbw;have br:=L.out.2.2;exact⟨V,q⟩
      go_wp2
      go_roundg m
      case measure=>have:=M.out;omega
      exact⟨O,(k.wa (s2,d.2)).1,true,rfl,J.out.1,J.out.2,D,s.out.1⟩
    ·rw[hkv] at G;have D:ay (if true=true then k.mu (k.kv (k.eJ d.1)).2<m/\k.cW m ((k.kv (k.eJ d.1)).2,d.2)=f else((k.kv (k.eJ d.1)).2,d.2)=f):=by have q:=x.out;unfold b9.cW at q;rw[hkv] at q;have am:=L.out.2.1 hkv;have br:=L.out.2.2;exact⟨V,q⟩
     generalize k.eJ d.1=s1 at*;generalize (k.kv s1).2=s2 at*;clear A;go_wp2;refine wp_region_noPanic ?_;refine wp_region_any ae ?_;refine sP (T:=fun _=>True) (S:=fun _=>True) (St:=[]) _ _ _ _ ?_;refine fK (i:=0) (v:=?_) rfl ae ae ae ae (fun _ _ _ h=>h) (aK ⟨ac,?_⟩) trivial (aJ trivial) ?_
     rotate_left
     ·intro w P;go_simp
      try rfl
     try simp only [Act.put,List.getElem_toArray,List.getElem_cons_zero,List.setIfInBounds_toArray,List.set_cons_zero,List.set_cons_succ]
     refine xH (i:=1) ae ?_;refine xG rfl ac ?_;simp only [List.getElem_toArray,List.getElem_cons_succ,List.getElem_cons_zero];go_simp;refine G.mono ?_;rintro e l ⟨N,rfl,o,H⟩
     obtain⟨ag,hM,I⟩:=j.out.2.1 N s2 l ⟨o,j.out.2.2⟩ (C.trans H)
     have g:=dq hM (j.out.1.trans I)
     clear o H hM I;refine fK (i:=2) (v:=?_) rfl ae ae ae ae (fun _ _ _ h=>h) (aK ⟨ac,?_⟩) trivial (aJ trivial) ?_
     rotate_left
     ·intro w P;go_simp
      try rfl
     refine fK (i:=3) (v:=undef) rfl ae ae ae ae (fun _ _ _ h=>h) (aJ ⟨ac,rfl⟩) trivial (aJ trivial) ?_;refine fK (i:=4) (v:=undef) rfl ae ae ae ae (fun _ _ _ h=>h) (aJ ⟨ac,rfl⟩) trivial (aJ trivial) ?_;refine fK (i:=5) (v:=undef) rfl ae ae ae ae (fun _ _ _ h=>h) (aJ ⟨ac,rfl⟩) trivial (aJ trivial) ?_;refine fK (i:=6) (v:=undef) rfl ae ae ae ae (fun _ _ _ h=>h) (aJ ⟨ac,rfl⟩) trivial (aJ trivial) ?_
     try simp only [Act.put,List.getElem_toArray,List.getElem_cons_succ,List.getElem_cons_zero,List.setIfInBounds_toArray,List.set_cons_zero,List.set_cons_succ]
     refine fK (i:=7) (v:=undef) rfl ae ae ae ae (fun _ _ _ h=>h) (aJ ⟨ac,rfl⟩) trivial (aJ trivial) ?_;refine fK (i:=8) (v:=undef) rfl ae ae ae ae (fun _ _ _ h=>h) (aJ ⟨ac,rfl⟩) trivial (aJ trivial) ?_
     try simp only [Act.put,List.getElem_toArray,List.getElem_cons_succ,List.getElem_cons_zero,List.setIfInBounds_toArray,List.set_cons_zero,List.set_cons_succ]
     refine fK (i:=9) (v:=undef) rfl ae ae ae ae (fun _ _ _ h=>h) (aJ ⟨ac,rfl⟩) trivial (aJ trivial) ?_;refine fK (i:=10) (v:=undef) rfl ae ae ae ae (fun _ _ _ h=>h) (aJ ⟨ac,rfl⟩) trivial (aJ trivial) ?_;refine fK (i:=11) (v:=undef) rfl ae ae ae ae (fun _ _ _ h=>h) (aJ ⟨ac,rfl⟩) trivial (aJ trivial) ?_;refine fK (i:=12) (v:=?_) rfl ae ae ae ae (fun _ _ _ h=>h) (aK ⟨ac,?_⟩) trivial (aJ trivial) ?_
     rotate_left
     ·intro w P;go_simp
      try rfl
     refine fK (i:=13) (v:=?_) rfl ae ae ae ae (fun _ _ _ h=>h) (aK ⟨ac,?_⟩) trivial (aJ trivial) ?_
     rotate_left
     ·intro w P;go_simp
      try rfl
     refine xI ae ?_ _;refine NoPanic.normal ?_;go_wp2
     go_roundg m
     case measure=>have:=M.out;omega
     exact⟨ag,(s2,d.2),true,rfl,g.out.1,g.out.2,D,hq⟩
theorem Ff {j:Option Addr}{l m:Nat}(n:vr=.slice j l m){t:cu×List b7}(h:(c7 (dP c k) c.bs vr).J F t w)(hq:t.2.length<=90000)(x:Int):
 Calls prog 80 #[aj c.pk,ah x] w fun e w'=>∃b,e=.returned (.tuple #[])/\(c7 (dP c k) c.bs vr).J b (k.ke t x).2 w'/\b8 F w b w':=by
 obtain⟨D,⟨o,d⟩,p⟩:=n9 h;have f:=dq p (d.ma x).1;have E:ay ((k.ke t x).2=k.sp (k.ma t.1 x,t.2)):=rfl;go_enter func80,ntmps80;go_wp2_with fail;refine(pa o d x).mono ?_;rintro e w1 ⟨q,rfl,s,u⟩
 obtain⟨G,hM,v⟩:=f.out.1 q _ w1 ⟨s,f.out.2⟩ u;have g:=dq hM v;go_wp2_with fail;refine(ye n g.out.1 hq).mono ?_;rintro e H ⟨A,rfl,B,C⟩
 have i:=dq B (g.out.2.trans C)
 go_wp2_with fail;go_end0;exact⟨A,rfl,i.out.1,i.out.2⟩
end
def b9.eW (k:b9)(t:cu×List b7)(r:List b7):cu×List b7:=ft (dI cu) (fun s x=>k.al s.1 x) k.ke t r
def b9.sR (k:b9)(t:cu×List b7)(r:List b7):List b7:=eO (dI cu) (fun s x=>k.al s.1 x) k.ke (fun s x=>k.nw s.1 x) t r
def b9.jf (k:b9)(t:cu×List b7)(r:List b7):List b7:=eP (dI cu) (fun s x=>k.al s.1 x) k.ke (fun s x=>k.nw s.1 x) t r
theorem pd (k:b9):∀(n:Nat)(t:cu×List b7),(k.cW n t).2.length=t.2.length
 |0,t=>rfl
 |n+1,t=>by
  unfold b9.cW;split
  ·exact pd k n ((k.kv _).2,t.2)
  ·split
   ·exact(pd k n _).trans (oW _ _ _ _)
   ·exact oW _ _ _ _
theorem qx (k:b9)(t:cu×List b7)(x:Int):(k.ke t x).2.2.length=t.2.length:=pd k _ _
section
variable {c:e8}{k:b9}{F:Nat->Prop}{s:cu}{w:ax}{vr:Value}
theorem Fg (bx f:Nat)(C:bx≠f){D:Option Addr}{G H:Nat}(I:vr=.slice D G H):mR (c7 (da (da (dP c k) f (jy (l5 c))) bx (dl c)) c.bs vr) (fun _=>True) (ib f).f (ib f).b (ib f).c k.ke:=by
 intro F t w x _ hn m;have hn:(k.ke t x).2.2.length<=90000:=hn;obtain⟨n,o,p⟩:=qq m;obtain⟨q,hy,s⟩:=qq n;rw[qx] at hn;have P:=Ff I q hn x;have c0:w.cell? (aq f 0)=some (l5 c).v:=by simp[World.cell?,hy]
 have i:=jr o hy p s.1;have E:ay ((k.ke t x).1=x):=rfl;generalize (k.ke t x).1=M at E⊢;generalize (k.ke t x).2=J at P⊢;clear m n q o hy p s hn;show Calls prog 155 #[ah x,aj f] w _;go_enter func155,ntmps155;go_wp2_with fail;refine P.mono ?_;clear P;rintro e w1 ⟨j,rfl,hM,g⟩
 have K:=lt_of_some i.out.1;have L:=lt_of_some i.out.2.1;have u:=(g.fr.block bx K (fun d=>d.1.2 rfl)).trans i.out.1;have v:=(g.fr.block f L (fun d=>d.2 rfl)).trans i.out.2.1;have A:¬j f:=fun d=>(g.sub f d).elim (fun d=>d.2 rfl) (fun d=>by omega)
 have B:¬(j bx\/bx=f):=fun d=>d.elim (fun d=>(g.sub bx d).elim (fun d=>d.1.2 rfl) (fun d=>by omega)) C;have l:ay ((c7 (da (da (dP c k) f (jy (l5 c))) bx (dl c)) c.bs vr).J (fun b=>(j b\/b=f)\/b=bx) J w1/\Fr F w w1/\∀b,((j b\/b=f)\/b=bx)->F b\/w.heap.size<=b):=by
  refine⟨ka (ka hM v A) u B,g.fr.mono (fun b d=>d.1.1),fun b d=>?_⟩
  rcases d with(d|d)|d
  ·exact(g.sub b d).imp (fun d=>d.1.1) id
  ·exact aK (by rw[d];exact i.out.2.2.2)
  ·exact aK (by rw[d];exact i.out.2.2.1)
 clear hM g u v A B;go_wp2_with fail;go_ret;rw[E.out];exact⟨_,rfl,l.out.1,l.out.2.1,l.out.2.2⟩
theorem Fh (bx b:Nat)(f:bx≠b){g:Option Addr}{i j:Nat}(l:vr=.slice g i j):lU (c7 (da (da (dP c k) b (jy (l5 c))) bx (dl c)) c.bs vr) (fun _=>True) (iX bx) (ib b) (jj c) (fun s x=>k.al s.1 x) k.ke (fun s x=>k.nw s.1 x) where
 ea:=tf
 e6:=ti
 en:=tq
 ha:=by
  rintro F s w x _ ⟨d,ad,cap,e,_⟩
  exact tu bx b (l5 c) d s.1 w x trivial e
 hk:=Fg bx b f l
 ht:=by
  rintro F s w x _ ⟨d,ad,cap,e,_⟩
  exact lZ (lZ tt) d s.1 w x trivial e
 hl:=fun s x=>qx k s x
theorem Fi {o:Option Addr}{p:Nat}{r:List b7}(B:vr=.slice o r.length p){t:cu×List b7}(h:(c7 (dP c k) c.bs vr).J F t w)(hr:w.ownsRow 0 103 2 vr r.length (ev r))(hq:t.2.length+r.length<=90000)(bx f:Nat)(q:bx≠f)(C:w.heap[bx]?=some (dl c))(hy:w.heap[f]?=some (jy (l5 c)))(hn:¬F bx)(hm:¬F f):
 Calls prog 78 #[aj c.bs,.agg #[(iX bx).v,(ib f).v,(jj c).v]] w fun e w'=>∃a1 c1 n,e=.returned (.tuple #[])/\(c7 (dP c k) c.bs (.slice a1 (k.sR t r).length c1)).J n ((k.eW t r).1,k.jf t r) w'/\
  w'.ownsRow 0 103 2 (.slice a1 (k.sR t r).length c1) (k.sR t r).length (ev (k.sR t r))/\(∀b,some b=(Value.slice a1 (k.sR t r).length c1).ownBlock->¬n b/\w.heap.size<=b)/\Fr (fun b=>F b\/b=f\/b=bx) w w'/\(∀b,n b->F b\/w.heap.size<=b):=by
 subst B;refine(p9 _ (fun _=>True) (iX bx) (ib f) (jj c) _ _ _ (Fh bx f q rfl) r o p rfl V (fun _ _=>⟨trivial,trivial⟩) _ t w (fun _ _=>⟨trivial,trivial⟩) hq (ka (ka h hy hm) C (fun d=>d.elim hn q)) (g7 hr)).mono ?_;rintro e w' ⟨a1,c1,a2,c2,D,Q,rfl,⟨s,ad,cap,⟨fp,⟨g,g1,R,E,u⟩,g2,g3,g4⟩,S,U,G,W,H,X,Y⟩,q3,I,i,j,l,J,K,L,M,N⟩
 have i:w'.heap[c.bs]?=some (.cells #[.slice a1 (k.sR t r).length c1,.slice a2 (k.jf t r).length c2] 153 (0,0)):=i;have j:=j;have l:=l;have v:∀b,g b->s b:=fun b hb=>(g4 b).2 (aK ((u b).2 (aK hb)))
 have m:∀b,g b->D b:=fun b hb=>G b (v b hb)
 have x:∀b,g b->b≠c.bs:=fun b hb e=>H (by show s c.bs;rw[<-e];exact v b hb)
 have A:=(dP c k).keep (w':=w') g1 I (fun b hb=>q3 b (m b hb) (x b hb))
 have O:F c.bs:=by obtain⟨_,_,_,_,_,_,_,P,_⟩:=h;exact P
 refine⟨a1,c1,fun b=>g b\/b=c.bs\/some b=(Value.slice a2 (k.jf t r).length c2).ownBlock,rfl,⟨g,a2,c2,A,i,eT l (fun _ _=>aZ _),fun b hb=>aK hb,aJ (aK rfl),fun d=>x _ d rfl,fun b e=>⟨aJ (aJ e),fun d=>M b e (m b d)⟩,fun b hb=>?_⟩,eT j (fun _ _=>aZ _),fun b e=>⟨fun d=>?_,(cn j b e).1⟩,J.mono (fun b d=>?_),fun b hb=>?_⟩
 ·rcases hb with hb|hb|hb
  ·exact(dP c k).lt A b hb
  ·rw[hb];exact lt_of_some i
  ·exact(cn l b hb).2
 ·rcases d with d|d|d
  ·exact L b e (m b d)
  ·obtain⟨ab,hc⟩:=e5 j b e;rw[d,i] at hc;simp at hc
  ·exact N b e d
 ·rcases d with(d|d)|d
  ·exact aK d
  ·exact aJ (aK d)
  ·exact aJ (aJ d)
 ·rcases hb with hb|hb|hb
  ·rcases K b (m b hb) with((d|d)|d)|d
   ·exact aK d
   ·exact absurd hb (by rw[d];exact E)
   ·exact absurd ((u b).2 (aK hb)) (by rw[d];exact g3)
   ·exact aJ d
  ·exact aK (by rw[hb];exact O)
  ·exact aJ (cn l b hb).1
def b9.cJ (k:b9)(s:cu):Nat->cu
 |0=>s
 |n+1=>k.ma (k.cJ s n) (k.s.rs.getD n 0)
theorem dt.cJ (h:cV k s):∀n,dt k s (k.cJ s n)
 |0=>dt.refl h
 |n+1=>(dt.cJ h n).trans (dt.ma (dt.cJ h n).eX _)
theorem Fj (h:(eI c k).J F s w)(g:cV k s):
 Calls prog 76 #[aj c.pk] w fun e w'=>∃b,e=.returned (.tuple #[])/\(eI c k).J b (k.cJ s 12) w'/\b8 F w b w':=by
 have m:=hide h;have n:=hide g;obtain⟨vt,o,h⟩:=h;obtain⟨_,c0,c3,_⟩:=gB h;obtain⟨u,_⟩:=ey h;clear h g;go_enter func76,ntmps76;go_wp2_with fail
 go_loopw [12] (fun iv wr=>∃(j:Nat)(b:Nat->Prop),j<=12/\iv=ah j/\ay ((eI c k).J b (k.cJ s j) wr/\b8 F w b wr)) (fun iv _=>12-(intOf iv).toNat)
 exact⟨0,F,aZ _,rfl,⟨m.out,b8.refl _ _⟩⟩
 ·
   obtain⟨j,b,v,rfl,d⟩:=hrel;by_cases p:j<12
   ·obtain⟨vt,o,i⟩:=d.out.1;obtain⟨_,_,_,rt⟩:=gB i;have r1:=rt j p;have f:=pa d.out.1 (dt.cJ n.out j).eX (k.s.rs.getD j 0)
    have l:ay (k.ma (k.cJ s j) (k.s.rs.getD j 0)=k.cJ s (j+1)):=rfl;rw[l.out] at f;generalize k.s.rs.getD j 0=x at r1 f;clear i rt l;go_wp2_with fail;refine f.mono ?_;rintro e A ⟨q,rfl,j2,t⟩
    go_wp2_with fail;go_roundw;exact⟨j+1,q,V,af,(dq j2 (d.out.2.trans t))⟩
    simp[intOf];omega
   ·obtain rfl:j=12:=V;go_wp2_with fail;go_end0;exact⟨b,rfl,d.out.1,d.out.2⟩
end
end Go.Proofs.YtpkjkjhanlbcoaaGreat
