import Derived.Test.YtpkjkjhanlbcoaaGreatJ05
import Derived.OrdersHeld
namespace Go.Proofs.YtpkjkjhanlbcoaaGreat
set_option maxRecDepth 100000
set_option maxHeartbeats 2000000
open Tryz
open Go.RowKit W Kp ck
theorem qv {P:Prop}(h:P:=by go_ret;rw[E2.o.1,E2.o.2];exact⟨_,by simp[hll],⟨_,_,s3.o.1⟩,⟨s3.o.2,fun b hb=>hb.elim (xQ.o b) (fun e=>aL (xR.o b e))⟩⟩):P:=h
section
variable {c:gF}{k:cj}{F:Nat->Prop}{s:cr}{w:az}
theorem D2 {a:Int}(h:pk (k.ld s a)=1\/pk (k.ld s a)=2):k.lk s a=k.gA s a (pf (k.ld s a)).toNat:=by unfold cj.lk;rw[aK h]
theorem D3 {a:Int}(h:pk (k.ld s a)=3):k.lk s a=k.kf {s with wk:=s.wk++[a]} (a+2):=by unfold cj.lk;rw[aI aa,aK h]
theorem D4 {a:Int}(h:pk (k.ld s a)=4):k.lk s a={s with ep:=s.ep++[a]}:=by unfold cj.lk;rw[aI aa,aI aa,aK h]
theorem D5 {a:Int}(d:pk (k.ld s a)≠1)(e:pk (k.ld s a)≠2)(b:pk (k.ld s a)≠3)(c:pk (k.ld s a)≠4):k.lk s a=s:=by unfold cj.lk;rw[aI aa,aI b,aI c]
theorem xS (h:(eh c k).J F s w)(p:CI k s)(a:Int)(a0:(k.N:Int)<=a)(a1:a<=2000)(hk:pk (k.ld s a)=1\/pk (k.ld s a)=2):
 Calls prog 185 #[aq c.pk,ak a] w fun e w'=>∃f,e=.returned (ak (1+pf (k.ld s a)))/\(eh c k).J f (k.lk s a) w'/\cg F w f w':=by
 rw[D2 hk];obtain⟨cK,b,h⟩:=h;obtain⟨c0,_,_,_,_,c5,_⟩:=ei h;obtain⟨t,_⟩:=iZ h;have L:=gy a w t;have u:ld k.N k.y s.g s.ws a=k.ld s a:=rfl;rw[u] at L;have hp:=dr (k.ld s a)
 have v:=hide p;have d:aA ((cutV c k cK b).J F s w):=h;generalize pf (k.ld s a)=n at L hp⊢;obtain⟨m,rfl⟩:∃m:Nat,n=m:=⟨n.toNat,aa⟩
 rw[Int.toNat_natCast];generalize pc (k.ld s a)=q at L;rcases hk with hk|hk
 all_goals
  rw[hk] at L;go_enter func185,ntmps185;go_wp2_with fail;refine L.mono ?_;rintro e w1 ⟨rfl,g⟩
  have x:=(cutV c k cK b).below d.o g;have B:cg F w F w1:=cg.of g;go_wp2_with fail
  go_loopw [27] (fun iv wr=>∃(j:Nat),j<=m/\iv=ak j/\(cutV c k cK b).J F (k.gA s a j) wr/\cg F w F wr) (fun iv _=>m-(intOf iv).toNat)
  exact⟨0,a4 _,rfl,x,B⟩
  ·
    obtain⟨j,W,rfl,i,l⟩:=hrel;by_cases ab:j<m
    ·have d:=c7 i l;go_wp2_with fail;refine(qu d.o.1 (v.o.gA a0 j).1 (a+1+j)).mono ?_;rintro e ad ⟨rfl,N,S⟩
     have o:=c7 N (d.o.2.trans S)
     go_wp2_with fail;go_roundw;exact⟨j+1,aa,aj,o.o.1,o.o.2⟩
     simp[intOf];omega
    ·obtain rfl:j=m:=aa;go_wp2_with fail;go_ret;exact⟨F,rfl,⟨cK,b,i⟩,l⟩
theorem D6 (h:(eh c k).J F s w)(a:Int)(g:pk (k.ld s a)≠1)(i:pk (k.ld s a)≠2)(j:pk (k.ld s a)≠3)(l:pk (k.ld s a)≠4):
 Calls prog 185 #[aq c.pk,ak a] w fun e w'=>∃b,e=.returned (ak (1+pf (k.ld s a)))/\(eh c k).J b (k.lk s a) w'/\cg F w b w':=by
 rw[D5 g i j l];obtain⟨cK,d,h⟩:=h;obtain⟨c0,_,_,_,_,c5,_⟩:=ei h;obtain⟨m,_⟩:=iZ h;have L:=gy a w m;have n:ld k.N k.y s.g s.ws a=k.ld s a:=rfl;rw[n] at L;have hp:=dr (k.ld s a)
 go_enter func185,ntmps185;go_wp2_with fail;refine L.mono ?_;rintro e w1 ⟨rfl,f⟩
 go_wp2;go_ret;exact⟨F,rfl,⟨cK,d,(cutV c k cK d).below (hide h).o f⟩,cg.of f⟩
theorem D7 (h:(eh c k).J F s w)(a:Int)(a1:s.ep.length<=10000)(i:pk (k.ld s a)=4):
 Calls prog 185 #[aq c.pk,ak a] w fun e w'=>∃d,e=.returned (ak (1+pf (k.ld s a)))/\(eh c k).J d (k.lk s a) w'/\cg F w d w':=by
 rw[D4 i];obtain⟨S,hi,W,ab,ag⟩:=info_parts kn;obtain⟨cK,m,h⟩:=h;obtain⟨c0,_,_,_,_,c5,_⟩:=ei h;obtain⟨ai,_⟩:=iZ h;have L:=gy a w ai;have al:ld k.N k.y s.g s.ws a=k.ld s a:=rfl;rw[al] at L;have hp:=dr (k.ld s a)
 have am:aA ((cutV c k cK m).J F s w):=h;rw[i] at L;generalize pf (k.ld s a)=n at L hp⊢;generalize pc (k.ld s a)=q at L;go_enter func185,ntmps185;go_wp2_with fail;refine L.mono ?_;rintro e w1 ⟨rfl,o⟩
 have g:=(cutV c k cK m).below am.o o;obtain⟨a2,_,_,a3,p,ba,_,_,_,an,_,er,_,lk,_⟩:=ei g;obtain⟨ao,_⟩:=sY g (aL p)
 obtain⟨ad,cap,rfl⟩:=eN er;have ap:=an 4;have t:aA ((cutV c k cK (.slice ad s.ep.length cap)).J F s w1/\cg F w F w1):=⟨g,cg.of o⟩
 go_wp2_with (at_builtin;refine wpList_append_own_at _ rfl _ _ 74 rfl 0 3 S (ak 0) 1 8 underlying74 hi W ab ag rfl ae (.slice ad s.ep.length cap) s.ep.length (s.ep.map (Value.int .i64)) rfl (f9 er _) ⟨w1.heap.size,0,none⟩ 1 1 [ak a] rfl rfl ?_ ?_ ?_ ?_ ?_ ?_;(intro j u f;match j,f with|0,f=>(simp at f;subst f;simp[Addr.add]));(intro u v;simp at v;subst v;rfl);(unfold maxLen;omega);(first|omega|simp);(first|omega|(simp;done)|(simp;omega));intro bb bd x B _ ar;obtain⟨b4,aB,aF⟩:=eT x (Nat.succ_pos _);subst aF;have N:=(B.block c.pk (by simp;omega) ao).trans (aS _ _ _ lk);have g4:=(aQ (a:=⟨c.pk,4,none⟩) N).trans p;have be:=(World.frozen?_of_block (a:=⟨c.pk,4,none⟩) N).trans ap)
 go_ret;obtain⟨d,aR,aV⟩:=DW t.o.1 (((Fr.refl _ w1).alloc _).grown B (fun b e=>aM e.symm)) (v1:=.slice (au b4) (s.ep.length+1) aB) (l:=s.ep++[a]) (by simpa using x) (fun b e=>by
  have a0:=ar.imp id (fun e=>by simpa[Value.ownBlock] using e)
  simp[Value.ownBlock] at e;subst e;exact a0.imp id (fun e=>by omega))
 exact⟨d,rfl,⟨_,_,aR⟩,t.o.2.trans aV⟩
theorem D8 (h:(eh c k).J F s w)(ab:CI k s)(a:Int)(a0:(k.N:Int)<=a)(a1:a<=2000)(bi:s.wk.length<=10000)(m:pk (k.ld s a)=3):
 Calls prog 185 #[aq c.pk,ak a] w fun e w'=>∃d,e=.returned (ak (1+pf (k.ld s a)))/\(eh c k).J d (k.lk s a) w'/\cg F w d w':=by
 rw[D3 m];obtain⟨ag,hi,ai,al,am⟩:=info_parts kn;obtain⟨cK,g,h⟩:=h;obtain⟨c0,_,_,_,_,c5,_⟩:=ei h;obtain⟨an,_⟩:=iZ h;have L:=gy a w an;have ao:ld k.N k.y s.g s.ws a=k.ld s a:=rfl;rw[ao] at L;have hp:=dr (k.ld s a)
 have ap:aA ((cutV c k cK g).J F s w):=h;have ar:aA (CI k {s with wk:=s.wk++[a]}):=ab.xC a0 a1;rw[m] at L;generalize pf (k.ld s a)=n at L hp⊢;generalize pc (k.ld s a)=q at L;go_enter func185,ntmps185;go_wp2_with fail;refine L.mono ?_;rintro e w1 ⟨rfl,o⟩
 have i:=(cutV c k cK g).below ap.o o;obtain⟨bl,_,_,p,bn,bo,_,_,_,aB,er,_,_,lk,_⟩:=ei i;obtain⟨aF,_⟩:=sY i (aM p)
 obtain⟨ad,cap,rfl⟩:=eN er;have aR:=aB 3;have t:aA ((cutV c k (.slice ad s.wk.length cap) g).J F s w1/\cg F w F w1):=⟨i,cg.of o⟩
 go_wp2_with (at_builtin;refine wpList_append_own_at _ rfl _ _ 74 rfl 0 3 ag (ak 0) 1 8 underlying74 hi ai al am rfl ae (.slice ad s.wk.length cap) s.wk.length (s.wk.map (Value.int .i64)) rfl (f9 er _) ⟨w1.heap.size,0,none⟩ 1 1 [ak a] rfl rfl ?_ ?_ ?_ ?_ ?_ ?_;(intro j u f;match j,f with|0,f=>(simp at f;subst f;simp[Addr.add]));(intro u v;simp at v;subst v;rfl);(unfold maxLen;omega);(first|omega|simp);(first|omega|(simp;done)|(simp;omega));intro bp br x B _ aV;obtain⟨b4,a2,a3⟩:=eT x (Nat.succ_pos _);subst a3;have N:=(B.block c.pk (by simp;omega) aF).trans (aS _ _ _ lk);have g4:=(aQ (a:=⟨c.pk,3,none⟩) N).trans p;have bs:=(World.frozen?_of_block (a:=⟨c.pk,3,none⟩) N).trans aR)
 obtain⟨d,ba,bb⟩:=DV t.o.1 (((Fr.refl _ w1).alloc _).grown B (fun b e=>aM e.symm)) (v1:=.slice (au b4) (s.wk.length+1) a2) (l:=s.wk++[a]) (by simpa using x) (fun b e=>by
  have bd:=aV.imp id (fun e=>by simpa[Value.ownBlock] using e)
  simp[Value.ownBlock] at e;subst e;exact bd.imp id (fun e=>by omega))
 have S:=c7 ba (t.o.2.trans bb)
 refine(qu S.o.1 ar.o (a+2)).mono ?_;rintro e bt ⟨rfl,be,bg⟩
 have W:=c7 be (S.o.2.trans bg)
 go_wp2_with fail;go_ret;exact⟨d,rfl,⟨_,_,W.o.1⟩,W.o.2⟩
theorem xT (h:(eh c k).J F s w)(b:CI k s)(a:Int)(a0:(k.N:Int)<=a)(a1:a<=2000)(l:s.wk.length<=10000)(m:s.ep.length<=10000):
 Calls prog 185 #[aq c.pk,ak a] w fun e w'=>∃d,e=.returned (ak (1+pf (k.ld s a)))/\(eh c k).J d (k.lk s a) w'/\cg F w d w':=by
 by_cases f:pk (k.ld s a)=1
 ·exact xS h b a a0 a1 (aM f)
 by_cases g:pk (k.ld s a)=2
 ·exact xS h b a a0 a1 (aL g)
 by_cases i:pk (k.ld s a)=3
 ·exact D8 h b a a0 a1 l i
 by_cases j:pk (k.ld s a)=4
 ·exact D7 h a m j
 exact D6 h a f g i j
def qw (w:az)(p:Nat):Int:=match w.cell? (av p 2) with
 |some (.int _ v)=>v
 |_=>0
theorem s7 {p:Nat}{v:Int}(h:w.cell? (av p 2)=some (ak v)):qw w p=v:=by unfold qw;rw[h]
theorem D9 (h:(eh c k).J F s w)(d:CI k s)(hB:eg k s):
 Calls prog 186 #[aq c.pk] w fun e w'=>∃x,e=.returned (.tuple #[])/\(eh c k).J x (k.lb (k.O+1) s) w'/\cg F w x w':=by
 have an:aA (CI k s/\eg k s):=⟨d,hB⟩
 have n0:=d.hO;have n1:=d.hN';have be:=d.h7;clear d hB;go_enter func186,ntmps186;go_wp2_with fail
 go_loopw [] (fun wr=>∃(n:Nat)(f:Nat->Prop)(s1:cr),(eh c k).J f s1 wr/\aA (CI k s1/\eg k s1)/\cg F w f wr/\aA (k.lb n s1=k.lb (k.O+1) s)/\(k.N:Int)+k.O-s1.nx<n) (fun wr=>(2000-qw wr c.pk).toNat)
 case atStart=>exact⟨k.O+1,F,s,h,an,cg.refl _ _,rfl,aa⟩
 case round=>
  obtain⟨n,f,s1,⟨cK,i,j⟩,b,B,l,hn⟩:=hrel;obtain⟨c0,_,c2,_,_,c5,_,_,_,N,_⟩:=ei j;have ao:=s7 c2;have ap:=N 2;obtain⟨S,_⟩:=iZ ((cutV c k cK i).below j (aH _ wr).drew)
  have L:=mW s1.nx wr.drew S;have o:aA (_/\_):=⟨j,B⟩
  clear j B S N;go_wp2_with fail
  go_region_held3 (fun w'=>w'.cell? (av c.pk 0)=some (aq c.pw)/\w'.cell? (av c.pk 2)=some (ak s1.nx)/\w'.cell? (av c.pw 0)=some (aq c.p)) (go_keep)
   (first
     |(go_at_call 96;refine L.mono ?_;clear L;rintro e p ⟨rfl,W⟩;have q:=(cutV c k cK i).below ((cutV c k cK i).below o.o.1 (aH _ wr).drew) W;obtain⟨ar,_,aB,_,_,aF,_,_,_,ab,_⟩:=ei q;have aR:=ab 2;have g:aA ((eh c k).J f s1 p/\_):=⟨⟨cK,i,q⟩,(o.o.2.below (aH _ wr).drew).below W⟩;clear q o ab c0 c2 c5 ap))
  cases hb:hB k.N s1.g s1.nx
  ·go_wp2_with fail;go_end0;have e:k.lb n s1=s1:=by
    cases n with
    |zero=>rfl
    |succ n=>unfold cj.lb;rw[hb];rfl
   rw[<-l.o,e];exact⟨f,rfl,g.o.1,g.o.2⟩
  ·have b1:=jC hb;have b2:=b.o.1.hg;have b3:=b.o.1.h7;have b4:=b.o.2.wk;have b5:=b.o.2.ep;obtain⟨n,rfl⟩:∃m,n=m+1:=⟨n-1,aa⟩
   have hp:=dr (k.ld s1 s1.nx)
   have aV:aA (k.lb n {k.lk s1 s1.nx with nx:=s1.nx+(1+pf (k.ld s1 s1.nx))}=k.lb (k.O+1) s):=by
    have:=l.o;unfold cj.lb at this
    rw[aK hb] at this
    exact this
   have a0:aA (_/\_):=⟨(b.o.1.kT hb).1,eg.kT b.o.1 hb b.o.2⟩
   have a1:=(b.o.1.lk (a:=s1.nx) b3 aa).2.nx;have L:=xT ((eh c k).below g.o.1 (aH _ p).drew) b.o.1 s1.nx b3 aa aa aa;generalize pf (k.ld s1 s1.nx)=m at*;generalize k.lk s1 s1.nx=s2 at*;clear hb b4 b5 l;have bg:IntKind.i64.wrap (s1.nx+(1+m))=s1.nx+(1+m):=by rw[bu];omega
   go_wp2_with fail
   go_region_with (go_at_call 185;refine L.mono ?_;rintro e bi ⟨a2,rfl,⟨bl,bn,t⟩,ad⟩;obtain⟨a3,_,ag,_,_,ba,_,_,_,ai,_⟩:=ei t;rw[a1] at ag;have v2:=ai 2;have u:aA (_/\_):=⟨t,(g.o.2.below (aH _ p).drew).trans ad⟩;clear t ad ai)
   all_goals
    obtain⟨v,al⟩:=DT u.o.1 (s1.nx+(1+m))
    obtain⟨_,_,bb,_⟩:=ei v;have bd:=s7 bb;have am:aA (_/\_):=⟨v,u.o.2.trans al⟩
    clear v al u a3 ag ba v2 L ar aB aF aR g;go_wp2_with fail;go_roundw
    case rel=>exact⟨n,a2,_,⟨_,_,am.o.1⟩,a0,am.o.2,aV,by show(k.N:Int)+k.O-(s1.nx+(1+m))<n;omega⟩
    case measure=>
     rw[bd,ao];show(2000-(s1.nx+(1+m))).toNat<_;omega
theorem D_ (h:(eh c k).J F s w)(aB:CI k s)(hB:eg k s):
 Calls prog 187 #[aq c.pk] w fun e w'=>∃bi,e=.returned (.bool (k.kv s).1)/\(eh c k).J bi (k.kv s).2 w'/\cg F w bi w':=by
 obtain⟨ce,hi,cf,ch,ci⟩:=info_parts kn;obtain⟨cK,cs,h⟩:=h;obtain⟨c0,_,_,_,c4,c5,_,_,_,ct,_,er,_,lk,_⟩:=ei h;obtain⟨cv,_⟩:=sY h (aL c4)
 obtain⟨ad,cap,rfl⟩:=eN er;have bl:=hide aB;have cw:=hide h;have cx:=hB.ep;have bn:=aB.il;have bo:=hide bn;have bp:aA (k.kv s=(decide ((k.dZ s s.ep).1.length<s.ep.length),{(k.dZ s s.ep).2 with ep:=(k.dZ s s.ep).1})):=rfl;have cy:(0:Int)<=k.N:=aa;clear aB hB bn;go_enter func187,ntmps187;go_wp2_with fail
 go_loopw [3,12] (fun vr iv wr=>∃(j:Nat)(R:List Int)(s1:cr)(ar:Option Addr)(d:Nat)(g:Nat->Prop),j<=s.ep.length/\iv=ak j/\aA (k.dZ s (s.ep.take j)=(R,s1))/\vr=.slice ar R.length d/\wr.ownsRow w.heap.size 3 1 (.slice ar R.length d) R.length (R.map (Value.int .i64))/\(cutV c k cK (.slice ad s.ep.length cap)).J g s1 wr/\cg F w g wr/\aA (∀b,some b=(Value.slice ar R.length d).ownBlock->¬g b)/\aA (CI k s1/\d7 k s s1)) (fun _ iv _=>s.ep.length-(intOf iv).toNat)
 exact⟨0,[],s,none,0,F,a4 _,rfl,rfl,rfl,bc _ _ _ _,h,cg.refl _ _,fun b e=>by simp[Value.ownBlock] at e,⟨bl.o,d7.refl _ _⟩⟩
 ·
   obtain⟨j,R,s1,ar,d,g,v,rfl,B,rfl,i,o,m,N,S⟩:=hrel;obtain⟨br,_,_,_,bs,bt,_,_,_,aF,_,W,_,cz,_⟩:=ei o;have bx:=aF 4;have ck:=S.o.2.ep;rw[ck] at W;have cA:R.length<=10000:=by have ab:=(bl.o.dZ (s.ep.take j) (fun a ha=>(bo.o a (List.mem_of_mem_take ha)).1)).2.2.1;rw[B.o] at ab;simp at ab;omega
   by_cases am:j<s.ep.length
   ·obtain⟨p,q,cl,cB,hc⟩:=gX W aa;have aR:=hc j am;subst cl;have b0:s.ep.getD j 0∈s.ep:=by rw[aJ,aN am];exact a8 am
    have cm:=bo.o _ b0;have aV:aA (k.dZ s (s.ep.take (j+1))=k.cU (R,s1) (s.ep.getD j 0)):=by
     show _=_;rw[gL s.ep j am 0];unfold cj.dZ;rw[List.foldl_append];have:=B.o;unfold cj.dZ at this
     rw[this];rfl
    generalize s.ep.getD j 0=a at aR cm aV;obtain⟨b1,_⟩:=iZ o;have L:=jS (a+1) wr b1;have b2:ld k.N k.y s1.g s1.ws (a+1)=k.ld s1 (a+1):=rfl;rw[b2] at L;have n:=c7 o m;have cC:=m.fr.size;have cn:aA (∀b,some b=(Value.slice ar R.length d).ownBlock->b<wr.heap.size):=fun b e=>(cu i b e).2;clear hc b0 o m b1 b2 aF;cases hls:k.ls s1 (k.ld s1 (a+1))
    ·have a0:aA (k.dZ s (s.ep.take (j+1))=(R,k.kf (k.kf s1 (a+1)) (a+2))):=by show _=_;rw[aV.o];unfold cj.cU;rw[hls];rfl
     generalize k.ld s1 (a+1)=x at L hls;go_wp2_with fail;refine L.mono ?_;clear L;rintro e w1 ⟨rfl,f⟩
     have P:=oh ((cutV c k cK (.slice (some ⟨p,q,none⟩) s.ep.length cap)).below n.o.1 f) x;rw[hls] at P;clear aR br bt bs bx W;go_wp2_with fail;refine P.mono ?_;clear P;rintro e b3 ⟨rfl,ag⟩
     have hb:=f.trans (ag.mono f.size)
     clear f ag;go_wp2_with fail;refine(qu ((cutV c k cK (.slice (some ⟨p,q,none⟩) s.ep.length cap)).below n.o.1 hb) S.o.1 (a+1)).mono ?_;rintro e cD ⟨rfl,b5,b6⟩
     obtain⟨ai,al⟩:=S.o.1.kf (a:=a+1) aa;have t:=iT b5 ((cg.of hb).trans b6) ai al;clear b5 b6 ai al hb;go_wp2_with fail;refine(qu t.o.1 t.o.2.2.1 (a+2)).mono ?_;rintro e a1 ⟨rfl,an,ao⟩
     obtain⟨ai,al⟩:=t.o.2.2.1.kf (a:=a+2) aa;have a2:=t.o.2.1.trans ao;have ap:=iT an (n.o.2.trans a2) ai ((S.o.2.trans t.o.2.2.2).trans al)
     have a3:=ii i a2.fr (fun b e=>N.o b e)
     clear an ao ai al a2 i t;go_wp2_with fail;go_roundw;exact⟨j+1,R,_,ar,d,g,aa,aj,a0,rfl,a3,ap.o.1,ap.o.2.1,N,⟨ap.o.2.2.1,ap.o.2.2.2⟩⟩
     simp[intOf];omega
    ·have a0:aA (k.dZ s (s.ep.take (j+1))=(R++[a],s1)):=by show _=_;rw[aV.o];unfold cj.cU;rw[aK hls]
     generalize k.ld s1 (a+1)=x at L hls;go_wp2_with fail;refine L.mono ?_;clear L;rintro e w1 ⟨rfl,f⟩
     have P:=oh ((cutV c k cK (.slice (some ⟨p,q,none⟩) s.ep.length cap)).below n.o.1 f) x;rw[hls] at P;clear aR br bt bs bx W;go_wp2_with fail;refine P.mono ?_;clear P;rintro e b3 ⟨rfl,ag⟩
     have hb:=f.trans (ag.mono f.size)
     have ba:=cL i (fun b e=>hb.block b (cn.o b e))
     have cE:=hb.size;clear f ag;go_wp2_with (at_builtin;refine wpList_append_own_at _ rfl _ _ 74 rfl w.heap.size 3 ce (ak 0) 1 8 underlying74 hi cf ch ci rfl ae (.slice ar R.length d) R.length (R.map (Value.int .i64)) rfl (f9 ba _) ⟨b3.heap.size,0,none⟩ 1 1 [ak a] rfl rfl ?_ ?_ ?_ ?_ ?_ ?_;(intro j u v;match j,v with|0,v=>(simp at v;subst v;simp[Addr.add]));(intro u b9;simp at b9;subst b9;rfl);(unfold maxLen;omega);omega;(simp;omega);intro cF a1 bb bd _ ca;obtain⟨b4,be,co⟩:=eT bb (Nat.succ_pos _);subst co)
     have a3:a1.ownsRow w.heap.size 3 1 (.slice (au b4) (R++[a]).length be) (R++[a]).length ((R++[a]).map (Value.int .i64)):=by simpa using bb
     have bg:=(cutV c k cK (.slice (some ⟨p,q,none⟩) s.ep.length cap)).below n.o.1 hb;have an:=qc (cutV c k cK (.slice (some ⟨p,q,none⟩) s.ep.length cap)) bg bd (fun b e=>N.o b e)
     have ao:cg F w g a1:=⟨((n.o.2.below hb).fr.alloc _).grown bd (fun b e=>aL (cu ba b e.symm).1),n.o.2.sub⟩
     have cp:aA (∀b,some b=(Value.slice (au b4) (R++[a]).length be).ownBlock->¬g b):=fun b e cb=>by
      have cq:=ca.imp id (fun e=>by simpa[Value.ownBlock] using e)
      simp[Value.ownBlock] at e;subst e;rcases cq with e|e
      ·exact N.o _ e cb
      ·have:=(cutV c k cK (.slice (some ⟨p,q,none⟩) s.ep.length cap)).lt bg _ cb;omega
     clear bg bb bd ca ba i hb;go_wp2_with fail;go_roundw;exact⟨j+1,R++[a],s1,au b4,be,g,aa,aj,a0,ac,a3,an,ao,cp,S⟩
     simp[intOf];omega
   ·obtain rfl:j=s.ep.length:=aa;rw[bz] at B;obtain⟨cc,cd⟩:=xM o (v1:=.slice ar R.length d) (l:=R) (Fr.refl _ wr) (e8 i (fun _ _=>a4 _)) (fun b e=>aL (N.o b e))
    have s3:=c7 cc (m.fr.trans cd m.sub)
    have xR:aA (∀b,some b=(Value.slice ar R.length d).ownBlock->w.heap.size<=b):=fun b e=>(cu i b e).1;have xQ:=hide m.sub;have E2:aA ((k.kv s).1=decide (R.length<s.ep.length)/\(k.kv s).2={s1 with ep:=R}):=by have ab:=bp.o;rw[B.o] at ab;rw[ab];exact⟨rfl,rfl⟩
    clear cc cd o m i W B bp aF;by_cases hll:R.length<s.ep.length
    ·go_wp2_with fail;exact qv
    ·go_wp2_with fail;exact qv
end
theorem qx {w:az}{base size n g cap:Nat}{e:TypeId}{b:List Value}(h:w.ownsRow base e size (.slice (au g) n cap) n b)(i:Nat)(u:Value):(w.setCell ⟨g,i,none⟩ u).ownsRow base e size (.slice (au g) n cap) n (b.set i u):=by
 refine⟨by rw[bf];exact h.1,?_⟩
 rcases h.2 with⟨hv,_⟩|⟨l,m,c,hv,hb,hg,d,f,j,k⟩
 ·simp at hv
 ·obtain⟨rfl,rfl⟩:=hv;refine aL ⟨g,cap,c.setIfInBounds i u,rfl,hb,?_,d,f,by rw[Array.size_setIfInBounds];exact j,?_⟩
  ·simp only [World.setCell,Array.getElem?_modify,if_true,hg,Option.map_some];rfl
  ·rw[Array.toList_setIfInBounds,List.take_set,k]
theorem s8:∀(l:List ce)(i:Nat)(g z:Int),ev (l.set i (g,z))=((ev l).set (i*2) (ak g)).set (i*2+1) (ak z)
 |[],_,_,_=>rfl
 |e::l,0,g,z=>by simp[ev]
 |e::l,i+1,g,z=>by
  have b:ev (e::l)=ak e.1::ak e.2::ev l:=by simp[ev]
  have c:ev ((e::l).set (i+1) (g,z))=ak e.1::ak e.2::ev (l.set i (g,z)):=by simp[ev]
  rw[b,c,(s8 l i g z),show(i+1)*2=i*2+1+1 by omega];simp
theorem xU {ag:Type}(o:dx ag)(p:Nat)(vr:Value):qn (df o p vr) where
 xu:=by
  rintro F s w ⟨N,ad,cap,S,c,j,l,d,m,n,t⟩ w1 q a1 c1 hb x;have d:F p:=d;have lp:=lt_of_some c;have f:∀k,k≠p->(w1.setCell ⟨p,1,none⟩ (.slice a1 q.length c1)).heap[k]?=w1.heap[k]?:=fun k hk=>aW _ _ _ _ hk;have hs:(w1.setCell ⟨p,1,none⟩ (.slice a1 q.length c1)).heap.size=w1.heap.size:=by simp[World.setCell]
  have ao:=hb.size;refine⟨N,a1,c1,o.keep (o.below S hb) (by show w1.heap.size<=(w1.setCell ⟨p,1,none⟩ _).heap.size;rw[hs];exact aG _) (fun k h=>f k (fun e=>m (by rw[<-e];exact h))),?_,e8 (cL x (fun k e=>f k (by have:=(cu x k e).1;omega))) (fun _ _=>a4 _),fun k h=>aM (l k h),aM d,m,fun k e=>?_,fun k h=>?_⟩
  ·have ai:=(hb.block p lp).trans c;show(w1.setCell ⟨p,1,none⟩ _).heap[p]?=_;simp only [World.setCell,Array.getElem?_modify,if_true,ai,Option.map_some];simp;rfl
  ·exact⟨aL e,fun h=>by have ap:=t k (l k h);have:=(cu x k e).1;omega⟩
  ·show k<(w1.setCell ⟨p,1,none⟩ _).heap.size;rw[hs];rcases h with h|h
   ·have:=t k h;omega
   ·exact(cu x k h).2
 xv:=by
  rintro F s w ⟨N,al,W,S,c,j,l,d,m,n,t⟩ ad cap hp i hi g z;have hp:w.heap[p]?=some (.cells #[vr,.slice ad s.2.length cap] 153 (0,0)):=hp;have hi:i<s.2.length:=hi;have he:=c.symm.trans hp;obtain⟨rfl,rfl⟩:=he;obtain⟨b,rfl⟩:∃b,al=some _:=by
   rcases j.2 with⟨_,h0⟩|⟨am,ar,an,hv,_⟩
   ·omega
   ·simp at hv;exact⟨am,hv.1⟩
  obtain⟨an,B⟩:=fp j b rfl;have ab:b≠p:=fun e=>by rw[e,c] at B;simp at B
  have f:∀(u v:Value) k,k≠b->((w.setCell ⟨b,0+i*2,none⟩ u).setCell ⟨b,0+i*2+1,none⟩ v).heap[k]?=w.heap[k]?:=fun u v k hk=>(aW _ _ _ _ hk).trans (aW _ _ _ _ hk)
  have hs:∀(u v:Value),((w.setCell ⟨b,0+i*2,none⟩ u).setCell ⟨b,0+i*2+1,none⟩ v).heap.size=w.heap.size:=fun u v=>by simp[World.setCell]
  refine⟨b,0,rfl,(n b rfl).1,ab,by simp[World.frozen?,B],by simp[World.frozen?,B],N,au b,W,o.keep S (by rw[hs];exact aG _) (fun k h=>f _ _ k (fun e=>(n b rfl).2 (by rw[<-e];exact h))),?_,?_,l,d,m,?_,?_⟩
  ·show((w.setCell _ _).setCell _ _).heap[p]?=some (.cells #[vr,.slice (au b) (s.2.set i (g,z)).length W] 153 (0,0))
   rw[bf];exact(f _ _ p (Ne.symm ab)).trans c
  ·show((w.setCell _ _).setCell _ _).ownsRow 0 103 2 (.slice (au b) (s.2.set i (g,z)).length W) (s.2.set i (g,z)).length (ev (s.2.set i (g,z)))
   rw[bf,s8,Nat.zero_add];exact qx (qx j (i*2) _) _ _
  ·intro k e;exact n k e
  ·intro k h;rw[hs];exact t k h
def xV {b:Type}(o:dx b)(I:b->Prop):dx b where
 J F t w:=o.J F t w/\I t
 lt:=fun h=>o.lt h.1
 keep:=fun h hs hk=>⟨o.keep h.1 hs hk,h.2⟩
def dl {f:Type}(o:dx f)(bx:Nat)(x:Obj):dx f where
 J F t w:=∃c,o.J c t w/\w.heap[bx]?=some x/\¬c bx/\∀b,F b↔(c b\/b=bx)
 lt:=by
  rintro F t w ⟨c,h,e,_,d⟩ b hb;rcases(d b).1 hb with hb|hb
  ·exact o.lt h b hb
  ·rw[hb];exact lt_of_some e
 keep:=by rintro F t w w' ⟨c,h,e,hn,d⟩ hs hk;exact⟨c,o.keep h hs (fun b hb=>hk b ((d b).2 (aM hb))),(hk bx ((d bx).2 (aL rfl))).trans e,hn,d⟩
section
variable {hX:Type}{o:dx hX}{bx p:Nat}{x:Obj}{vr:Value}{F:Nat->Prop}{w w':az}
theorem oi {t:hX×List ce}(h:(df o p vr).J F t w):∃d,o.J d t.1 w/\∀c f w',o.J c f w'->cg d w c w'->∃j,(df o p vr).J j (f,t.2) w'/\cg F w j w':=by
 obtain⟨d,ad,cap,s,l,g,m,u,n,i,v⟩:=h;refine⟨d,s,fun c f w' q b=>?_⟩
 have lp:=lt_of_some l;refine⟨fun k=>F k\/c k,⟨c,ad,cap,q,(b.fr.block p lp n).trans l,cL g (fun k e=>b.fr.block k (cu g k e).2 (i k e).2),fun k h=>aL h,aM u,fun h=>(b.sub p h).elim n (fun h=>by omega),fun k e=>⟨aM (i k e).1,fun h=>(b.sub k h).elim (i k e).2 (fun h=>by have:=(cu g k e).2;omega)⟩,fun k h=>?_⟩,b.fr.mono m,fun k h=>?_⟩
 ·rcases h with h|h
  ·exact aO (v k h) b.fr.size
  ·exact o.lt q k h
 ·rcases h with h|h
  ·exact aM h
  ·exact(b.sub k h).imp (m k) id
theorem ks {t:hX×List ce}(h:(df o p vr).J F t w)(f:w.heap[bx]?=some x)(hn:¬F bx):(df (dl o bx x) p vr).J (fun b=>F b\/b=bx) t w:=by obtain⟨g,ad,cap,k,l,m,i,j,n,d,q⟩:=h;refine⟨fun b=>g b\/b=bx,ad,cap,⟨g,k,f,fun c=>hn (i _ c),fun b=>Iff.rfl⟩,l,m,fun b hb=>hb.imp (i b) id,aM j,fun c=>c.elim n (fun e=>hn (by rw[<-e];exact j)),fun b e=>⟨aM (d b e).1,fun c=>c.elim (d b e).2 (fun s=>hn (by rw[<-s];exact(d b e).1))⟩,fun b hb=>hb.elim (q b) (fun e=>by rw[e];exact lt_of_some f)⟩
theorem s9 {t:hX×List ce}(h:(df (dl o bx x) p vr).J F t w):(df o p vr).J F t w:=by obtain⟨n,ad,cap,⟨f,g1,g2,g3,g4⟩,g,i,j,k,l,d,m⟩:=h;exact⟨f,ad,cap,g1,g,i,fun b hb=>j b ((g4 b).2 (aM hb)),k,fun c=>l ((g4 p).2 (aM c)),fun b e=>⟨(d b e).1,fun c=>(d b e).2 ((g4 b).2 (aM c))⟩,m⟩
theorem s_ {D:Int->Prop}{f:Nat}{b c:Array Value}{kp:hX->Int->Int×hX}(hk:n7 o D f b c kp):n7 (dl o bx x) D f b c kp:=by
 rintro F t w y k ⟨l,h,d,hn,e⟩
 refine(hk l t w y k h).mono ?_;rintro r w' ⟨g,rfl,m,i,j⟩
 refine⟨fun b=>g b\/b=bx,rfl,⟨g,m,(i.block bx (lt_of_some d) hn).trans d,fun c=>(j bx c).elim hn (fun c=>by have:=lt_of_some d;omega),fun b=>Iff.rfl⟩,i.mono (fun b hb=>(e b).2 (aM hb)),fun b hb=>?_⟩
 rcases hb with hb|hb
 ·exact(j b hb).imp (fun c=>(e b).2 (aM c)) id
 ·exact aM ((e b).2 (aL hb))
theorem mc {D:Int->Prop}{f:Nat}{b c:Array Value}{nw:hX->Int->Int}(ht:lz o D f b c nw):lz (dl o bx x) D f b c nw:=by
 rintro F t w y d ⟨e,h,_⟩
 exact ht e t w y d h
end
def hG (c:gF)(k:cj):dx cr:=xV (eh c k) (fun s=>CI k s/\eg k s)
abbrev ja (c:gF):Obj:=.cells #[aq c.pk] 164 (0,0)
abbrev kt (bx:Nat):f5:=⟨188,#[],#[aq bx]⟩
abbrev lH (c:gF):f5:=⟨190,#[aq c.pk],#[]⟩
abbrev m_ (c:gF):f5:=⟨182,#[aq c.pk],#[]⟩
abbrev na (c:gF):f5:=⟨111,#[aq c.pk],#[]⟩
theorem xW:dS 188:=gw func188 ah rfl
theorem xX:dS 190:=gw func190 ah rfl
theorem Ea:dS 182:=gw func182 ah rfl
theorem Eb:dS 111:=gw func111 ah rfl
section
variable {c:gF}{k:cj}{F:Nat->Prop}{s:cr}{w:az}
theorem xY (fv:f5)(w:az)(p:Nat):
 Calls prog 110 #[aq p,fv.v] w fun e w'=>e=.returned (.agg #[(kt w.heap.size).v,fv.v,.func (.func 190) #[aq p] #[]])/\w'.heap[w.heap.size]?=some (.cells #[aq p] 164 (0,0))/\Below w.heap.size w w':=by
 obtain⟨f,b,c⟩:=fv;go_enter func110,ntmps110;go_wp2_with fail;refine a5 (v:=.agg #[(kt w.heap.size).v,.func (.func f) b c,.func (.func 190) #[aq p] #[]]) (by simp[results,results110,go_sem]) rfl ⟨rfl,?_,((aH _ w).alloc b7 _).alloc ac _⟩
 rw[aS _ _ _ ac];exact aP _ _
theorem xZ (bx:Nat):kq (dl (hG c k) bx (ja c)) (fun _=>True) (kt bx).f (kt bx).b (kt bx).c k.al:=by
 rintro F s w x _ ⟨d,⟨⟨cK,f,h⟩,_⟩,b,_⟩
 have P:=oh h x;have c0:w.cell? (av bx 0)=some (aq c.pk):=aD b
 have E:k.al s x=!k.ls s x:=rfl;go_enter func188,ntmps188;go_wp2_with fail;refine P.mono ?_;exact qa
theorem x0:lz (hG c k) (fun _=>True) (lH c).f (lH c).b (lH c).c k.nw:=by
 rintro F s w x _ ⟨⟨cK,b,h⟩,_⟩
 exact qs h x
theorem Ec:n7 (hG c k) (fun _=>True) (m_ c).f (m_ c).b (m_ c).c k.br:=by
 rintro F s w x _ ⟨⟨cK,e,h⟩,b,hB⟩
 refine(qt h b x).mono ?_;rintro r w' ⟨rfl,f,d⟩
 obtain⟨g,i,_⟩:=b.br x;exact⟨F,rfl,⟨⟨cK,e,f⟩,g,i.cb hB⟩,d.fr,d.sub⟩
end
open Go
section
variable {P:Program}{ops:Array Oper}{Q:Exit->Act->az->Prop}{md:Region.Mode}{T S:az->Prop}{St:List Nat}
def came (St:List Nat)(b:Array Bool):Prop:=∃s∈St,b.getD s false=true
def ku (P:Program)(md:Region.Mode)(ops:Array Oper)(Q:Exit->Act->az->Prop)(T S:az->Prop)(St:List Nat):Nat->Array Bool->Act->az->Prop
 |0,b,a,w=>Region.ready md ops b=[]/\Q .normal a w
 |c+1,b,a,w=>(Region.ready md ops b=[]->Q .normal a w)/\
  ∀i∈Region.ready md ops b,wpOp P ops Q i (fun d w'=>(T w'/\(came St (b.setIfInBounds i true)\/S w'))/\ku P md ops Q T S St c (b.setIfInBounds i true) d w') a w
theorem ta:∀(b:Nat)(c:Array Bool)(a:Act)(w:az),ku P md ops Q T S St b c a w->wpAny P md ops Q b c a w
 |0,_,_,_,h=>h
 |b+1,_,_,_,h=>⟨h.1,fun i hi=>wpOp_mono (fun d w' e=>ta b _ d w' e.2) (h.2 i hi)⟩
def waits (md:Region.Mode)(ops:Array Oper)(St:List Nat)(i:Nat):Bool:=
 St.all fun s=>match ops[s]? with
  |some o=>o.after.any fun e=>Region.binds md e&&e.on==i
  |none=>false
theorem Ed {i j:Nat}{b:Array Bool}(hw:waits md ops St i=true)(hi:i∈Region.ready md ops b)(c:j∈Region.ready md ops b):j∉St:=by
 intro hs;have d:=List.all_eq_true.1 hw j hs
 grind [mem_ready]
theorem x5 {i:Nat}{b:Array Bool}(hn:¬came St b)(hi:i∉St):¬came St (b.setIfInBounds i true):=by
 rintro⟨s,hs,h⟩
 have c:i≠s:=fun e=>(by grind)
 exact hn ⟨s,hs,by simp_all⟩
theorem LB {i:Nat}{g:Oper}{v:Value}(hi:ops[i]?=some g)(an:i∉St)(u:waits md ops St i=true)(ao:∀(j:Nat)(o:Oper) x b,ops[j]?=some o->o.op≠.select x b)
 (B:∀c a w,Q (.panic c) (a.put g.dst v) w->Q (.panic c) a w):
 ∀(l:Nat)(d:Array Bool)(a:Act)(w:az),
  (∀j m,ops[j]?=some m->j≠i->d.getD j true=false->(∀e∈m.after,Region.binds md e=true->e.on≠i)->g.apart ops m=true)->
  i∈Region.ready md ops d->¬came St d->YieldsIf P ops (fun w=>T w/\S w) g v a->T w/\S w->
  ku P md ops Q T S St l (d.setIfInBounds i true) (a.put g.dst v) w->ku P md ops Q T S St (l+1) d a w:=by
 intro l
 induction l with
 |zero=>
  intro d a w _ hr _ hy p H;refine⟨fun h=>(by grind),fun j n=>?_⟩
  by_cases f:j=i
  ·rw[f];exact hy.wpOp hi p (by grind)
  ·have hm:=ready_mono n f;rw[H.1] at hm;simp at hm
 |succ l F=>
  intro d a w s hr N hy p H;refine⟨fun h=>(by grind),fun j n=>?_⟩
  by_cases f:j=i
  ·rw[f];exact hy.wpOp hi p (by grind)
  ·have W:=Ed u hr n;obtain⟨ab,m,t,ap⟩:=mem_ready.1 n;have ad:=s j m t f ab (by grind [mem_ready])
   refine wpOp_mono (fun ag w' h=>?_) (wpOp_putIf t ad (by grind) (by grind) B hy (H.2 j (ready_mono n f)))
   obtain⟨ai,ar,aB⟩:=h;have q:T w'/\S w':=(by grind [x5])
   refine⟨⟨q.1,aL q.2⟩,F _ ag w' (fun k ok hk al aF am=>s k ok hk al ?_ am) (ready_mono hr aa) (x5 N W) ai q ?_⟩
   ·by_cases aR:j=k
    ·grind
    ·simp_all
   grind [Array.setIfInBounds_comm]
theorem Ee {i:Nat}{g:Oper}{v:Value}(hi:ops[i]?=some g)(an:i∉St)(ao:∀(j:Nat)(o:Oper) B b,ops[j]?=some o->o.op≠.select B b)
 (F:∀c a w,Q (.panic c) (a.put g.dst v) w->Q (.panic c) a w):
 ∀(l:Nat)(d:Array Bool)(a:Act)(w:az),
  (∀j m,ops[j]?=some m->j≠i->d.getD j true=false->(∀e∈m.after,Region.binds md e=true->e.on≠i)->g.apart ops m=true)->
  i∈Region.ready md ops d->YieldsIf P ops T g v a->T w->(came St d\/S w)->
  ku P md ops Q T S St l (d.setIfInBounds i true) (a.put g.dst v) w->ku P md ops Q T S St (l+1) d a w:=by
 have up:∀{d:Array Bool}{k:Nat},came St d->came St (d.setIfInBounds k true):=fun⟨s,hs,h⟩=>⟨s,hs,getD_set_true h⟩
 intro l
 induction l with
 |zero=>
  intro d a w _ hr hy p hc H;refine⟨fun h=>(by grind),fun j n=>?_⟩
  by_cases f:j=i
  ·rw[f];exact hy.wpOp hi p (by grind)
  ·have hm:=ready_mono n f;rw[H.1] at hm;simp at hm
 |succ l N=>
  intro d a w t hr hy p hc H;refine⟨fun h=>(by grind),fun j n=>?_⟩
  by_cases f:j=i
  ·rw[f];exact hy.wpOp hi p (by grind)
  ·obtain⟨W,m,u,ap⟩:=mem_ready.1 n;have ab:=t j m u f W (by grind [mem_ready])
   refine wpOp_mono (fun ad w' h=>?_) (wpOp_putIf u ab (by grind) (by grind) F hy (H.2 j (ready_mono n f)))
   obtain⟨ag,q,ar⟩:=h;have x:came St (d.setIfInBounds j true)\/S w':=q.2.imp (fun⟨s,hs,h⟩=>by
    have ai:i≠s:=fun e=>(by grind)
    refine⟨s,hs,?_⟩
    rw[Array.setIfInBounds_comm _ _ aa,getD_set_ne false ai] at h;omega) id
   refine⟨⟨q.1,x⟩,N _ ad w' (fun k ok hk al aB am=>t k ok hk al ?_ am) (ready_mono hr aa) ag q.1 x ?_⟩
   ·by_cases aF:j=k
    ·grind
    ·simp_all
   grind [Array.setIfInBounds_comm]
theorem fV {i:Nat}{d:Oper}{v:Value}{e:Nat}{b:Array Bool}{a:Act}{w:az}(hi:ops[i]?=some d)
 (hs:Region.noSelect ops=true)(f:Region.free md ops b i=true)(hr:(Region.ready md ops b).contains i=true)(g:St.contains i=false)
 (j:∀c a w,Q (.panic c) (a.put d.dst v) w->Q (.panic c) a w)(hy:YieldsIf P ops T d v a)(k:T w)(hc:came St b\/S w)
 (h:ku P md ops Q T S St e (b.setIfInBounds i true) (a.put d.dst v) w):ku P md ops Q T S St (e+1) b a w:=
 (by grind [Ee,Region.noSelect_spec,Region.free_spec])
theorem x6 {i:Nat}{o:Oper}{K:Act->az->Prop}{a:Act}{w:az}(hi:ops[i]?=some o)(hg:Region.wanted o (yielded ops a.tmps)=true)(h:o.wp P a w K Q):wpOp P ops Q i K a w:=by
 unfold wpOp;rw[hi];dsimp only
 grind
theorem x7 {i:Nat}{c:Nat}{b:Array Bool}{a:Act}{w:az}(hr:Region.ready md ops b=[i])
 (h:wpOp P ops Q i (fun d w'=>(T w'/\(came St (b.setIfInBounds i true)\/S w'))/\ku P md ops Q T S St c (b.setIfInBounds i true) d w') a w):ku P md ops Q T S St (c+1) b a w:=
 ⟨fun h0=>(by simp_all),fun j e=>(by simp_all)⟩
theorem x8 {b:Array Bool}{a:Act}{w:az}(hr:Region.ready md ops b=[])(h:Q .normal a w):∀c,ku P md ops Q T S St c b a w
 |0=>⟨hr,h⟩
 |_+1=>⟨fun _=>h,by rw[hr];simp⟩
end
def lenOf (w:az)(p:Nat):Nat:=match w.cell? (av p 4) with
 |some (.slice _ n _)=>n
 |_=>0
def tc (w:az)(p:Nat):Int:=match w.cell? (av p 6) with
 |some (.int _ v)=>v
 |_=>0
def te (c:gF)(k:cj)(w:az):Nat:=(k.N+k.O+13-qw w c.pk).toNat+lenOf w c.pk+(k.O-(tc w c.p).toNat)
def qy:Value->Nat
 |.bool true=>1
 |_=>0
section
variable {c:gF}{k:cj}{F:Nat->Prop}{s:cr}{w:az}{vr:Value}
theorem tf (h:(eh c k).J F s w):te c k w=k.mu s:=by
 obtain⟨cK,g,h⟩:=h;obtain⟨_,_,c2,_,c4,_,_,_,_,_,_,er,_⟩:=ei h;obtain⟨b,_⟩:=iZ h;obtain⟨ad,cap,e⟩:=eN er;have d:lenOf w c.pk=s.ep.length:=by unfold lenOf;rw[c4,e]
 have f:tc w c.p=s.g:=by unfold tc;rw[b.cells.2.2.2.2.2.2]
 unfold te cj.mu;rw[s7 c2,d,f,Int.toNat_natCast]
theorem Ef {f:Option Addr}{g i:Nat}(j:vr=.slice f g i){t:cr×List ce}(h:(df (hG c k) c.sd vr).J F t w)(hq:t.2.length<=90000)(bx:Nat)(l:w.heap[bx]?=some (ja c))(hn:¬F bx):
 Calls prog 145 #[aq c.sd,.agg #[(kt bx).v,(m_ c).v,(lH c).v]] w fun e w'=>∃d,e=.returned (.bool (k.wa t).2)/\(df (hG c k) c.sd vr).J d (k.wa t).1 w'/\Fr (fun b=>F b\/b=bx) w w'/\(∀b,d b->F b\/b=bx\/w.heap.size<=b):=by
 refine(xz _ (xU _ _ _) (fun _=>True) (kt bx) (m_ c) (lH c) _ _ _ (qm _ c.sd vr (fun _=>True) (kt bx) (m_ c) (lH c) k.al k.br k.nw xW Ea xX (xZ bx) (s_ Ec) (mc x0)) f g i j _ t w hq (fun _ _=>⟨trivial,trivial⟩) (ks h l hn)).mono ?_;rintro e w' ⟨d,rfl,m,n,hs⟩
 exact⟨d,rfl,s9 m,n,fun b hb=>(hs b hb).elim (fun c=>c.elim aM (fun c=>aL (aM c))) (fun c=>aL (aL c))⟩
theorem x9 {bs:Option Addr}{bt bx:Nat}(b0:vr=.slice bs bt bx){t:cr×List ce}(h:(df (hG c k) c.sd vr).J F t w)(hq:t.2.length<=90000):
 Calls prog 109 #[aq c.pk] w fun e w'=>∃a3,e=.returned (.tuple #[])/\(df (hG c k) c.sd vr).J a3 (k.sp t) w'/\cg F w a3 w':=by
 have b1:∀(ba:Fn)(first cap:Array Value)(w:az),(Instr.makeFunc ba first cap).run prog w=.ok (.func ba first cap) w:=fun _ _ _ _=>rfl;go_enter func109,ntmps109;go_wp2_with fail
 go_loopw [2] (fun ar wr=>∃(n:Nat)(ag:Nat->Prop)(d:cr×List ce)(b:Bool),ar=.bool b/\(df (hG c k) c.sd vr).J ag d wr/\cg F w ag wr/\aA (if b=true then k.mu d.1<n/\k.c9 n d=k.sp t else d=k.sp t)/\d.2.length<=90000) (fun ar wr=>2*te c k wr+qy ar)
 exact⟨k.mu t.1+1,F,t,true,rfl,h,cg.refl _ _,⟨aa,rfl⟩,hq⟩
 ·
   obtain⟨n,ag,d,b,rfl,bb,bd,be,hq⟩:=hrel;cases b
   ·have x:=hide be.o;go_wp2_with fail;go_end0;rw[<-x.o];exact⟨ag,rfl,bb,bd⟩
   ·obtain⟨b2,b3⟩:=be.o;obtain⟨m,rfl⟩:∃m,n=m+1:=⟨n-1,aa⟩
    obtain⟨co,u,b4⟩:=oi bb;have aB:=tf u.1;have B:=D9 u.1 u.2.1 u.2.2;obtain⟨bg,bi,b5⟩:=u.2.1.lb u.2.2 (k.O+1)
    obtain⟨b6,j2,cH,cJ⟩:=bg.kv bi;have f:aA (_/\_/\(CI k (k.lb (k.O+1) d.1)/\eg k (k.lb (k.O+1) d.1))/\(CI k (k.kv (k.lb (k.O+1) d.1)).2/\eg k (k.kv (k.lb (k.O+1) d.1)).2)):=⟨bd,b4,⟨bg,bi⟩,⟨b6,j2⟩⟩
    have ai:=iT b5 cH cJ b2;have x:=hide b3;go_wp2_with fail;refine B.mono ?_;rintro e w1 ⟨cp,rfl,N,W⟩
    have al:=D_ ((eh c k).below N (aH _ w1).drew) f.o.2.2.1.1 f.o.2.2.1.2;have W:=W.below (aH _ w1).drew;obtain⟨cq,cs,N⟩:=N;obtain⟨b9,_,_,_,_,_,_,ca,_⟩:=ei N;cases hkv:(k.kv (k.lb (k.O+1) d.1)).1
    ·rw[hkv] at al;have bl:aA ((if(k.wa ((k.kv (k.lb (k.O+1) d.1)).2,d.2)).2=true then k.c9 m (k.wa ((k.kv (k.lb (k.O+1) d.1)).2,d.2)).1 else(k.wa ((k.kv (k.lb (k.O+1) d.1)).2,d.2)).1)=k.sp t):=by
      have:=x.o;unfold cj.c9 at this
      rw[hkv] at this
      exact this
     have j:=CI.wa (s:=((k.kv (k.lb (k.O+1) d.1)).2,d.2)) f.o.2.2.2.1 f.o.2.2.2.2;have j:aA ((k.wa ((k.kv (k.lb (k.O+1) d.1)).2,d.2)).1.2.length<=90000/\k.mu (k.wa ((k.kv (k.lb (k.O+1) d.1)).2,d.2)).1.1<=k.mu d.1/\((k.wa ((k.kv (k.lb (k.O+1) d.1)).2,d.2)).2=true->k.mu (k.wa ((k.kv (k.lb (k.O+1) d.1)).2,d.2)).1.1<k.mu d.1)):=by refine⟨by rw[j.2.2.1];exact hq,by have:=j.2.2.2.1;dsimp only at this;omega,fun e=>by have:=j.2.2.2.2 e;dsimp only at this;omega⟩
     generalize k.lb (k.O+1) d.1=s1 at*;generalize (k.kv s1).2=s2 at*;go_wp2_with fail
     go_region_held3 (fun w'=>w'.cell? (av c.pk 0)=some (aq c.pw)/\w'.cell? (av c.pw 2)=some (aq c.sd)) (go_keep)
      (first
        |(go_at_call 187;refine al.mono ?_;rintro e q ⟨aF,rfl,l,am⟩;obtain⟨bn,hM,an⟩:=f.o.2.1 aF s2 q ⟨l,f.o.2.2.2⟩ (W.trans am);obtain⟨ct,cu,l⟩:=l;obtain⟨g0,_,_,_,_,_,_,aR,_⟩:=ei l;have l0:=aT q _ g0;have cb:=aT q _ aR;have g:=c7 hM (f.o.1.trans an))
        |(go_at_call 110;refine(xY (m_ c) q c.pk).mono ?_;rintro e cv ⟨rfl,cc,aV⟩;have cd:=(aV.cell (p:=av c.pk 0) l0).trans g0;have cf:=(aV.cell (p:=av c.pw 2) cb).trans aR;have ab:=c7 cc aV)
        |(go_at_call 145;refine(Ef b0 (t:=(s2,d.2)) ((df (hG c k) c.sd vr).below g.o.1 ab.o.2) hq q.heap.size ab.o.1 (fun h=>by have:=(df (hG c k) c.sd vr).lt g.o.1 _ h;omega)).mono ?_;rintro e ch ⟨a0,rfl,bo,ci,ck⟩;have ao:aA (_/\cg F w a0 ch):=⟨bo,⟨(g.o.2.below ab.o.2).fr.trans ci (fun b hb=>hb.elim (g.o.2.sub b) (fun e=>aL (by have:=g.o.2.fr.size;omega))),fun b hb=>(ck b hb).elim (g.o.2.sub b) (fun h=>aL (by have o:=g.o.2.fr.size;have a1:=ab.o.2.size;omega))⟩⟩;obtain⟨cw,⟨⟨cl,cm,bp⟩,_⟩,_⟩:=oi bo;have ap:=tf ⟨cl,cm,bp⟩;obtain⟨r0,_,_,_,_,_,_,cn,_⟩:=ei bp))
     clear r0 cn g0 aR cd cf b9 ca f g ab x b1 W;cases hbw:(k.wa (s2,d.2)).2
     ·have ad:aA (if false=true then k.mu (k.wa (s2,d.2)).1.1<m/\k.c9 m (k.wa (s2,d.2)).1=k.sp t else(k.wa (s2,d.2)).1=k.sp t):=by
       have:=bl.o;rw[hbw] at this
       exact this
      go_wp2_with fail;go_roundw;exact⟨m,a0,(k.wa (s2,d.2)).1,false,rfl,ao.o.1,ao.o.2,ad,j.o.1⟩
      ·have:=j.o.2.1;rw[ap,aB];simp[qy];omega
     ·have ad:aA (if true=true then k.mu (k.wa (s2,d.2)).1.1<m/\k.c9 m (k.wa (s2,d.2)).1=k.sp t else(k.wa (s2,d.2)).1=k.sp t):=by have o:=bl.o;rw[hbw] at o;have a1:=j.o.2.2 hbw;have br:=ai.o.2.2.2;exact⟨aa,o⟩
      have a1:=j.o.2.2 hbw;go_wp2_with fail;go_roundw;exact⟨m,a0,(k.wa (s2,d.2)).1,true,rfl,ao.o.1,ao.o.2,ad,j.o.1⟩
      ·rw[ap,aB];simp[qy];omega
    ·rw[hkv] at al;have a1:k.mu (k.kv (k.lb (k.O+1) d.1)).2<k.mu d.1:=by have o:=ai.o.1;have br:=ai.o.2.2.1 hkv;omega
     have ad:aA (if true=true then k.mu (k.kv (k.lb (k.O+1) d.1)).2<m/\k.c9 m ((k.kv (k.lb (k.O+1) d.1)).2,d.2)=k.sp t else((k.kv (k.lb (k.O+1) d.1)).2,d.2)=k.sp t):=by have o:=x.o;unfold cj.c9 at o;rw[hkv] at o;have br:=ai.o.2.2.2;exact⟨aa,o⟩
     generalize k.lb (k.O+1) d.1=s1 at*;generalize (k.kv s1).2=s2 at*;clear N;go_wp2_with fail;refine wp_region_noPanic ?_;refine wp_region_any ah ?_;refine ta (T:=fun _=>True) (S:=fun _=>True) (St:=[]) _ _ _ _ ?_;refine fV (i:=0) (v:=?_) rfl ah ah ah ah (fun _ _ _ h=>h) (aM ⟨af,?_⟩) trivial (aL trivial) ?_
     rotate_left
     ·intro w a2;go_simp
      try rfl
     try simp only [Act.put,List.getElem_toArray,List.getElem_cons_zero,List.setIfInBounds_toArray,List.set_cons_zero,List.set_cons_succ]
     refine x7 (i:=1) ah ?_;refine x6 rfl af ?_;simp only [List.getElem_toArray,List.getElem_cons_succ,List.getElem_cons_zero];go_simp;refine al.mono ?_;rintro e q ⟨aF,rfl,l,am⟩
     obtain⟨bn,hM,an⟩:=f.o.2.1 aF s2 q ⟨l,f.o.2.2.2⟩ (W.trans am)
     have ap:=tf l;have g:=c7 hM (f.o.1.trans an)
     clear l am hM an;refine fV (i:=2) (v:=?_) rfl ah ah ah ah (fun _ _ _ h=>h) (aM ⟨af,?_⟩) trivial (aL trivial) ?_
     rotate_left
     ·intro w a2;go_simp
      try rfl
     refine fV (i:=3) (v:=undef) rfl ah ah ah ah (fun _ _ _ h=>h) (aL ⟨af,rfl⟩) trivial (aL trivial) ?_;refine fV (i:=4) (v:=undef) rfl ah ah ah ah (fun _ _ _ h=>h) (aL ⟨af,rfl⟩) trivial (aL trivial) ?_;refine fV (i:=5) (v:=undef) rfl ah ah ah ah (fun _ _ _ h=>h) (aL ⟨af,rfl⟩) trivial (aL trivial) ?_;refine fV (i:=6) (v:=undef) rfl ah ah ah ah (fun _ _ _ h=>h) (aL ⟨af,rfl⟩) trivial (aL trivial) ?_
     try simp only [Act.put,List.getElem_toArray,List.getElem_cons_succ,List.getElem_cons_zero,List.setIfInBounds_toArray,List.set_cons_zero,List.set_cons_succ]
     refine fV (i:=7) (v:=undef) rfl ah ah ah ah (fun _ _ _ h=>h) (aL ⟨af,rfl⟩) trivial (aL trivial) ?_;refine fV (i:=8) (v:=undef) rfl ah ah ah ah (fun _ _ _ h=>h) (aL ⟨af,rfl⟩) trivial (aL trivial) ?_;refine fV (i:=9) (v:=undef) rfl ah ah ah ah (fun _ _ _ h=>h) (aL ⟨af,rfl⟩) trivial (aL trivial) ?_;refine fV (i:=10) (v:=undef) rfl ah ah ah ah (fun _ _ _ h=>h) (aL ⟨af,rfl⟩) trivial (aL trivial) ?_;refine fV (i:=11) (v:=undef) rfl ah ah ah ah (fun _ _ _ h=>h) (aL ⟨af,rfl⟩) trivial (aL trivial) ?_
     try simp only [Act.put,List.getElem_toArray,List.getElem_cons_succ,List.getElem_cons_zero,List.setIfInBounds_toArray,List.set_cons_zero,List.set_cons_succ]
     refine fV (i:=12) (v:=undef) rfl ah ah ah ah (fun _ _ _ h=>h) (aL ⟨af,rfl⟩) trivial (aL trivial) ?_;refine fV (i:=13) (v:=undef) rfl ah ah ah ah (fun _ _ _ h=>h) (aL ⟨af,rfl⟩) trivial (aL trivial) ?_
     try simp only [Act.put,List.getElem_toArray,List.getElem_cons_succ,List.getElem_cons_zero,List.setIfInBounds_toArray,List.set_cons_zero,List.set_cons_succ]
     refine fV (i:=14) (v:=undef) rfl ah ah ah ah (fun _ _ _ h=>h) (aL ⟨af,rfl⟩) trivial (aL trivial) ?_;refine fV (i:=15) (v:=?_) rfl ah ah ah ah (fun _ _ _ h=>h) (aM ⟨af,?_⟩) trivial (aL trivial) ?_
     rotate_left
     ·intro w a2;go_simp
      try rfl
     refine fV (i:=16) (v:=?_) rfl ah ah ah ah (fun _ _ _ h=>h) (aM ⟨af,?_⟩) trivial (aL trivial) ?_
     rotate_left
     ·intro w a2;go_simp
      try rfl
     try simp only [Act.put,List.getElem_toArray,List.getElem_cons_succ,List.getElem_cons_zero,List.setIfInBounds_toArray,List.set_cons_zero,List.set_cons_succ]
     refine x8 ah ?_ _;refine NoPanic.normal ?_;go_wp2_with fail;go_roundw;exact⟨m,bn,(s2,d.2),true,rfl,g.o.1,g.o.2,ad,hq⟩
     ·rw[ap,aB];simp[qy];omega
theorem Eg {j:Option Addr}{l m:Nat}(n:vr=.slice j l m){t:cr×List ce}(h:(df (hG c k) c.sd vr).J F t w)(hq:t.2.length<=90000)(x:Int):
 Calls prog 111 #[aq c.pk,ak x] w fun e w'=>∃b,e=.returned (ak (k.ke t x).1)/\(df (hG c k) c.sd vr).J b (k.ke t x).2 w'/\cg F w b w':=by
 obtain⟨o,⟨⟨cK,p,q⟩,d,hB⟩,s⟩:=oi h;obtain⟨u,v,_⟩:=d.br x;have f:=gM s u (v.cb hB)
 have E:aA ((k.ke t x).1=(k.br t.1 x).1/\(k.ke t x).2=k.sp ((k.br t.1 x).2,t.2)):=⟨rfl,rfl⟩
 go_enter func111,ntmps111;go_wp2_with fail;refine(qt q d x).mono ?_;rintro e w1 ⟨rfl,B,N⟩
 obtain⟨ag,hM,S⟩:=f.o.1 o _ w1 ⟨⟨cK,p,B⟩,f.o.2⟩ N;have g:=c7 hM S;go_wp2_with fail;refine(x9 n g.o.1 hq).mono ?_;rintro e ai ⟨W,rfl,ab,ad⟩
 have i:=c7 ab (g.o.2.trans ad)
 go_wp2_with fail;go_ret;exact⟨W,rfl,i.o.1,i.o.2⟩
end
def jY {b:Type}(fd:b->Int->Int)(st:b->Int->b)(e:Int)(t:b)(a:Int):b:=if a+fd t a<e then st t a else t
def kw {b:Type}(fd:b->Int->Int)(st:b->Int->b)(e:Int)(t:b)(l:List Int):b:=l.foldl (jY fd st e) t
theorem x_ {i:Type}(o:dx i)(fd:i->Int->Int)(st:i->Int->i)(G:Nat->i->Prop)(pk pw p f:Nat)(ag:Array Value)(ai:dS f)(l:List Int)(ad:Option Addr)(cap:Nat)(e:Int)(F:Nat->Prop)(t:i)(w:az)
 (al:∀F t w a,o.J F t w->w.cell? (av pk 0)=some (aq pw)/\w.cell? (av pw 0)=some (aq p)/\Calls prog 102 #[aq p,ak a] w fun r w'=>∃x z,r=.returned (.tuple #[ak x,ak (fd t a),ak z])/\Below w.heap.size w w')
 (am:∀t a,0<=fd t a/\fd t a<=12)(an:∀a∈l,0<=a/\a<=100000)(bn:l.length<=100000)
 (ao:∀j F t w,j<l.length->G j t->o.J F t w->l.getD j 0+fd t (l.getD j 0)<e->Calls prog f (#[ak (l.getD j 0)]++ag) w fun r w'=>∃g,r=.returned (.tuple #[])/\o.J g (st t (l.getD j 0)) w'/\cg F w g w')
 (ap:∀j t,j<l.length->G j t->G (j+1) (jY fd st e t (l.getD j 0)))(h0:G 0 t)(k:o.J F t w)(S:iU w ad l)(hn:0<l.length->∀z,ad=some z->¬F z.block):
 Calls prog 180 #[aq pk,.slice ad l.length cap,ak e,.func (.func f) #[] ag] w fun r w'=>∃g,r=.returned (.tuple #[])/\o.J g (kw fd st e t l) w'/\cg F w g w'/\G l.length (kw fd st e t l):=by
 have aV:aA (∀F t w a,o.J F t w->_):=al;have a0:aA (∀j F t w,j<l.length->G j t->o.J F t w->l.getD j 0+fd t (l.getD j 0)<e->_):=ao;have a1:aA (∀j t,j<l.length->G j t->_):=ap;have a2:aA (∀g w',cg F w g w'->_):=fun g w' n=>S.keep n.fr.size (fun hp z e=>n.fr.block _ (by obtain⟨b,bo,ar,hb,_⟩:=S hp;rw[e] at ar;cases ar;exact hb) (hn hp z e))
 have a3:aA (_):=an;have ba:aA (∀t a,_):=am;have bp:∀(args:Array Value)(w:az),_=_:=ai;clear al ao ap S hn an am ai;go_enter func180,ntmps180;go_wp2_with fail
 go_loopw [15] (fun iv wr=>∃(j:Nat)(d:Nat->Prop)(c:i),j<=l.length/\iv=ak j/\aA (kw fd st e t (l.take j)=c)/\aA (G j c)/\o.J d c wr/\cg F w d wr) (fun iv _=>l.length-(intOf iv).toNat)
 case atStart=>exact⟨0,F,t,a4 _,rfl,rfl,h0,k,cg.refl _ _⟩
 case round=>
  clear h0 k;obtain⟨j,d,c,br,rfl,W,ab,k,n⟩:=hrel;by_cases q:j<l.length
  ·obtain⟨bs,bt,bb,bx,hc⟩:=a2.o d wr n aa;have b0:=hc j q;subst bb;have aB:l.getD j 0∈l:=by rw[aJ,aN q];exact a8 q
   have b1:=a3.o _ aB;have aF:aA (kw fd st e t (l.take (j+1))=jY fd st e c (l.getD j 0)):=by
    show _=_;rw[gL l j q 0];unfold kw;rw[List.foldl_append];have:=W.o;unfold kw at this
    rw[this];rfl
   have aR:aA (_):=a1.o j c q ab.o;have s:=fun w h=>a0.o j d c w q ab.o h;obtain⟨b2,b3,L⟩:=aV.o d c wr (l.getD j 0) k;have b4:=ba.o c (l.getD j 0)
   have N:=c7 k n;have s:aA (∀w,o.J d c w->l.getD j 0+fd c (l.getD j 0)<e->_):=s;clear hc aB k n;by_cases hw:l.getD j 0+fd c (l.getD j 0)<e
   ·have u:aA (jY fd st e c (l.getD j 0)=st c (l.getD j 0)):=by show _=_;unfold jY;rw[aK hw]
    have bd:aA (∀w,o.J d c w->_):=fun w h=>s.o w h hw;clear s;generalize l.getD j 0=a at*;generalize fd c a=m at*;generalize st c a=be at*;go_wp2_with fail;refine L.mono ?_;rintro r w1 ⟨x,z,rfl,v⟩
    go_wp2_with fail;refine(bd.o w1 (o.below N.o.1 v)).mono ?_;rintro r b5 ⟨bg,rfl,bi,bl⟩
    have B:=c7 bi ((N.o.2.below v).trans bl)
    go_wp2_with fail;go_roundw;exact⟨j+1,bg,be,aa,aj,by show _=_;rw[aF.o,u.o],by show G _ _;rw[<-u.o];exact aR.o,B.o.1,B.o.2⟩
    simp[intOf];omega
   ·have u:aA (jY fd st e c (l.getD j 0)=c):=by show _=_;unfold jY;rw[aI hw]
    clear s;generalize l.getD j 0=a at*;generalize fd c a=m at*;go_wp2_with fail;refine L.mono ?_;rintro r w1 ⟨x,z,rfl,v⟩
    have B:=c7 (o.below N.o.1 v) (N.o.2.below v)
    go_wp2_with fail;go_roundw;exact⟨j+1,d,c,aa,aj,by show _=_;rw[aF.o,u.o],by show G _ _;rw[<-u.o];exact aR.o,B.o.1,B.o.2⟩
    simp[intOf];omega
  ·obtain rfl:j=l.length:=aa;rw[bz] at W;go_wp2_with fail;go_end0;rw[W.o];exact⟨d,rfl,k,n,ab.o⟩
section
variable {c:gF}{k:cj}{F:Nat->Prop}{s:cr}{w:az}
def cj.md (k:cj)(c:gF)(s:cr)(a:Int):cr:=if(gf k.N c.c a&&c.M.contains (cN k.N a))=true then k.lk s a else s
theorem cj.Eh (k:cj)(c:gF)(s:cr)(l:List Int):k.lm c.c c.M s l=kw (fun s a=>pf (k.ld s a)) (k.md c) s.nx s l:=rfl
theorem CI.md (h:CI k s)(c:gF){a:Int}(ha:(k.N:Int)<=a)(b:a<=2000):CI k (k.md c s a)/\Cl k s (k.md c s a):=by
 unfold cj.md;split
 ·exact h.lk ha b
 ·exact⟨h,Cl.of (d7.refl _ _)⟩
theorem Ei:dS 183:=gw func183 ah rfl
theorem Ej (bx:Nat)(h:(dl (eh c k) bx (ja c)).J F s w)(q:CI k s)(a:Int)(a0:(k.N:Int)<=a)(a1:a<=2000)(t:s.wk.length<=10000)(u:s.ep.length<=10000):
 Calls prog 183 #[ak a,aq bx] w fun e w'=>∃j,e=.returned (.tuple #[])/\(dl (eh c k) bx (ja c)).J j (k.md c s a) w'/\cg F w j w':=by
 have l:=hide h;have v:=hide q;obtain⟨ad,⟨cK,ag,h0⟩,m,ai,al⟩:=h;have x:w.cell? (av bx 0)=some (aq c.pk):=aD m
 have B:=lt_of_some m;obtain⟨c0,_,_,_,_,_,am,_,_,_,_,_,N,_,_⟩:=ei h0;have D:=Dp a w N aa aa aa;cases hd:(gf k.N c.c a&&c.M.contains (cN k.N a))
 ·have E:k.md c s a=s:=by unfold cj.md;rw[hd];rfl
  rw[E];rw[hd] at D;go_enter func183,ntmps183;go_wp2_with fail;refine D.mono ?_;rintro e w1 ⟨rfl,d⟩
  go_wp2;go_end0;exact⟨F,rfl,(dl (eh c k) bx (ja c)).below l.o d,cg.of d⟩
 ·have E:k.md c s a=k.lk s a:=by unfold cj.md;rw[aK hd]
  rw[E];rw[hd] at D;go_enter func183,ntmps183;go_wp2_with fail;refine D.mono ?_;rintro e w1 ⟨rfl,d⟩
  have an:=(d.cell (p:=av bx 0) B).trans x;have S:=(dl (eh c k) bx (ja c)).below l.o d;obtain⟨ao,g1,g2,g3,g4⟩:=S;have L:=xT g1 v.o a a0 a1 t u;have W:=iT g2 g3 g4 d;go_wp2_with fail;refine L.mono ?_;rintro e n ⟨i,rfl,ab,g⟩
  have o:aA ((dl (eh c k) bx (ja c)).J (fun b=>i b\/b=bx) (k.lk s a) n/\cg F w (fun b=>i b\/b=bx) n):=by
   obtain⟨g2,g3,g4,d⟩:=W.o;refine⟨⟨i,ab,(g.fr.block bx (lt_of_some g2) g3).trans g2,fun f=>(g.sub bx f).elim g3 (fun f=>by have:=lt_of_some g2;omega),fun b=>Iff.rfl⟩,⟨(Fr.of (X:=F) d).trans (g.fr.mono (fun b hb=>(g4 b).2 (aM hb))) (fun _ f=>aM f),fun b hb=>?_⟩⟩
   rcases hb with hb|hb
   ·exact(g.sub b hb).elim (fun f=>aM ((g4 b).2 (aM f))) (fun f=>aL (by have:=d.size;omega))
   ·exact aM ((g4 b).2 (aL hb))
  go_wp2;go_end0;exact⟨_,rfl,o.o.1,o.o.2⟩
theorem Ek (h:(eh c k).J F s w)(i:CI k s)(ai:s.wk=[])(al:s.ep=[]):
 Calls prog 108 #[aq c.pk] w fun e w'=>∃am,e=.returned (.tuple #[])/\(eh c k).J am (k.lm c.c c.M s (dH k.N k.y s.g s.ws)) w'/\cg F w am w'/\CI k (k.lm c.c c.M s (dH k.N k.y s.g s.ws))/\eg k (k.lm c.c c.M s (dH k.N k.y s.g s.ws))/\(k.lm c.c c.M s (dH k.N k.y s.g s.ws)).nx=s.nx:=by
 have an:=hide h;have p:=gM i ai al;have n1:=i.hN';have bs:=i.hO;have bt:=i.hg;have q:=aw w (ja c)
 have aV:=(eh c k).below h q;obtain⟨cK,u,h0⟩:=aV;obtain⟨c0,_,c2,_,_,c5,_⟩:=ei h0;obtain⟨n,_⟩:=iZ h0;have P:=qg _ n;have a0:=hide q;clear h i h0 n q ai al;go_enter func108,ntmps108;go_wp2_with fail;refine P.mono ?_;clear P;rintro e w1 ⟨v1,v2,rfl,a1,o,ao⟩
 obtain⟨bx,b0,rfl⟩:=eN a1;obtain⟨a2,a3,rfl⟩:=eN o;have hb:=a0.o.trans (ao.mono ac)
 have ba:=(eh c k).below an.o hb;have ap:w1.heap[w.heap.size]?=some (ja c):=(ao.block _ ac).trans (aP _ _)
 have b1:w1.cell? (av w.heap.size 0)=some (aq c.pk):=aD ap
 obtain⟨cK,u,v⟩:=ba;obtain⟨b2,_,b3,_,_,b4,_⟩:=ei v;have b5:(dH k.N k.y s.g s.ws).length<=2000:=iX _ _;have x:∀a∈dH k.N k.y s.g s.ws,(k.N:Int)<=a/\a<=2000:=fun a ha=>by have:=qr a ha;omega
 have B:∀b,F b->_:=(eh c k).lt an.o;have bb:(dl (eh c k) w.heap.size (ja c)).J (fun b=>F b\/b=w.heap.size) s w1:=⟨F,⟨cK,u,v⟩,ap,fun d=>by have:=B _ d;omega,fun b=>Iff.rfl⟩
 have bd:=(dl (eh c k) w.heap.size (ja c)).below bb (aH _ w1).drew;have E:=x_ (dl (eh c k) w.heap.size (ja c)) (fun s a=>pf (k.ld s a)) (k.md c) (fun j s1=>CI k s1/\s1.wk.length<=j/\s1.ep.length<=j/\s1.nx=s.nx) c.pk c.pw c.p 183 #[aq w.heap.size] Ei (dH k.N k.y s.g s.ws) a2 a3 s.nx (fun b=>F b\/b=w.heap.size) s w1.drew
  (by
    rintro F t ar a ⟨b6,⟨cK,u,g1⟩,_⟩
    obtain⟨c0,_,_,_,_,c5,_⟩:=ei g1;obtain⟨n,_⟩:=iZ g1;refine⟨c0,c5,(gy a ar n).mono ?_⟩
    rintro r w' ⟨rfl,hb⟩
    exact⟨_,_,rfl,hb⟩)
  (fun t a=>dr _) (fun a ha=>by have:=x a ha;omega) aa
  (by
    rintro j F t ar l ⟨g1,g2,g3,g4⟩ be _;have hm:(dH k.N k.y s.g s.ws).getD j 0∈dH k.N k.y s.g s.ws:=by rw[aJ,aN l];exact a8 l
    have:=x _ hm;exact Ej w.heap.size be g1 _ this.1 this.2 aa aa)
  (by
    rintro j t l ⟨g1,g2,g3,g4⟩
    have hm:(dH k.N k.y s.g s.ws).getD j 0∈dH k.N k.y s.g s.ws:=by rw[aJ,aN l];exact a8 l
    have hb:=x _ hm;unfold jY;split
    ·obtain⟨f,g⟩:=g1.md c hb.1 hb.2;have:=g.wk;have:=g.ep;exact⟨f,aa,aa,g.nx.trans g4⟩
    ·exact⟨g1,aa,aa,g4⟩)
  ⟨p.o.1,by rw[p.o.2.1];simp,by rw[p.o.2.2];simp,rfl⟩ bd ((gX o).below (aH _ w1).drew)
  (fun hp z e=>by
    obtain⟨b,cap,bg⟩:=eT o hp;cases bg;cases e;have bi:=(cu o b rfl).1;simp at bi;rintro(d|d)
    ·have d:F b:=d;have:=B b d;omega
    ·have d:b=w.heap.size:=d;omega)
 rw[<-cj.Eh] at E;have aB:=c7 B hb;obtain⟨s2,aF⟩:∃s2,k.lm c.c c.M s (dH k.N k.y s.g s.ws)=s2:=⟨_,rfl⟩
 rw[aF] at E;have bl:=hide aF;go_wp2_with fail
 go_region_held3 (fun w'=>w'.cell? (av w.heap.size 0)=some (aq c.pk)/\w'.cell? (av c.pk 2)=some (ak s.nx)) (go_keep)
  (first
    |(go_at_call 180;refine E.mono ?_;clear E;rintro e N ⟨b9,rfl,⟨S,g1,g2,g3,g4⟩,W,f,g,ab,m⟩;obtain⟨bn,bo,ad⟩:=g1;obtain⟨_,_,bp,_⟩:=ei ad;have g1:(eh c k).J S s2 N:=⟨bn,bo,ad⟩;rw[m] at bp;have br:=iT f g ab m;clear ad f g ab m;have ca:N.cell? (av w.heap.size 0)=some (aq c.pk):=aD g2;have aR:aA (_/\cg F w S N):=⟨g1,⟨((Fr.of (X:=F) aB.o.2).drew).trans W.fr (fun b d=>d.imp id (fun d=>by omega)),fun b d=>(W.sub b ((g4 b).2 (aM d))).elim (fun d=>d.imp id (fun d=>by omega)) (fun d=>aL (by have:=aB.o.2.size;simp at d;omega))⟩⟩;clear g1 g2 g3 g4 W))
 have ag:aA (CI k s2/\eg k s2/\s2.nx=s.nx):=by obtain⟨f,g,ab,m⟩:=br.o;have v:=f.h7;exact⟨f,⟨aa,aa⟩,m⟩
 go_wp2_with fail;go_end0;rw[bl.o];exact⟨S,rfl,aR.o.1,aR.o.2,ag.o.1,ag.o.2.1,ag.o.2.2⟩
end
end Go.Proofs.YtpkjkjhanlbcoaaGreat
