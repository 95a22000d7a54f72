import Derived.Test.YtjpjpjemibgjpaaGreatJ16
namespace Go.Proofs.YtjpjpjemibgjpaaGreat
set_option maxRecDepth 100000
set_option maxHeartbeats 4000000
open Tryz
open Go.RowKit W Kp cg
theorem tY {P:Prop}(h:P:=by
 rcases hb with hb|hb
 ·exact(hT.sub b hb).imp (fun d=>(g4 b).2 (aJ d)) id
 ·exact aJ ((g4 b).2 (aI hb))):P:=h
theorem tZ {P:Prop}(h:P:=by
 rintro e w2 ⟨rfl,hA2,hs2⟩
 obtain⟨F2,h2,t2⟩:=hU w2 _ _ _ hA2 hs2;exact⟨F2,rfl,⟨h2,ea,t1,t4⟩,t2⟩):P:=h
abbrev j7 (n:Int):Obj:=.cells #[ah n] 3 (0,0)
def gU {i:Type}(o:dP i)(e:Nat):dP (i×Int) where
 J F t w:=∃d,o.J d t.1 w/\w.heap[e]?=some (j7 t.2)/\¬d e/\∀b,F b↔(d b\/b=e)
 lt:=by
  rintro F t w ⟨d,h,g,_,f⟩ b c;rcases(f b).1 c with c|c
  ·exact o.lt h b c
  ·rw[c];exact lt_of_some g
 keep:=by rintro F t w w' ⟨d,h,g,j,f⟩ hs hk;exact⟨d,o.keep h hs (fun b c=>hk b ((f b).2 (aJ c))),(hk e ((f e).2 (aI rfl))).trans g,j,f⟩
section
variable {gM:Type}{o:dP gM}{bx fU:Nat}{x:Obj}{F:Nat->Prop}{w:au}
theorem gw {t:gM}(h:(dd o bx x).J F t w):∃e,o.J e t w/\w.heap[bx]?=some x/\bx<w.heap.size/\∀c f w1,o.J c f w1->b_ e w c w1->(dd o bx x).J (fun b=>c b\/b=bx) f w1/\b_ F w (fun b=>c b\/b=bx) w1:=by
 obtain⟨e,h,g2,g3,g4⟩:=h;refine⟨e,h,g2,lt_of_some g2,fun c f w1 g hT=>⟨⟨c,g,(hT.fr.block bx (lt_of_some g2) g3).trans g2,fun d=>(hT.sub bx d).elim g3 (fun d=>by have:=lt_of_some g2;omega),fun b=>Iff.rfl⟩,⟨hT.fr.mono (fun b hb=>(g4 b).2 (aJ hb)),fun b hb=>?_⟩⟩⟩
 exact tY
theorem k9 {t:gM×Int}(h:(gU o fU).J F t w):∃e,o.J e t.1 w/\w.heap[fU]?=some (j7 t.2)/\fU<w.heap.size/\∀c f w1,o.J c f w1->b_ e w c w1->(gU o fU).J (fun b=>c b\/b=fU) (f,t.2) w1/\b_ F w (fun b=>c b\/b=fU) w1:=by
 obtain⟨e,h,g2,g3,g4⟩:=h;refine⟨e,h,g2,lt_of_some g2,fun c f w1 g hT=>⟨⟨c,g,(hT.fr.block fU (lt_of_some g2) g3).trans g2,fun d=>(hT.sub fU d).elim g3 (fun d=>by have:=lt_of_some g2;omega),fun b=>Iff.rfl⟩,⟨hT.fr.mono (fun b hb=>(g4 b).2 (aJ hb)),fun b hb=>?_⟩⟩⟩
 exact tY
theorem nP {t:gM×Int}(h:(gU o fU).J F t w):w.cell? (am fU 0)=some (ah t.2)/\w.frozen? (am fU 0)=false:=by obtain⟨b,h,g2,g3,c⟩:=h;exact⟨by simp[World.cell?,g2],by simp[World.frozen?,g2]⟩
theorem zd {t:gM×Int}(h:(gU o fU).J F t w)(m:Int):(gU o fU).J F (t.1,m) (w.setCell ⟨fU,0,none⟩ (.int .i64 m))/\b_ F w F (w.setCell ⟨fU,0,none⟩ (.int .i64 m)):=by
 obtain⟨f,h,g2,g3,c⟩:=h;have fr:Fr (fun b=>b=fU) w (w.setCell ⟨fU,0,none⟩ (.int .i64 m)):=(Fr.refl _ w).set _ 0 _ rfl;refine⟨⟨f,o.keep h fr.size (fun b d=>fr.block b (o.lt h b d) (fun e=>g3 (by rw[<-e];exact d))),?_,g3,c⟩,⟨fr.mono (fun b e=>(c b).2 (aI e)),fun _ g=>aJ g⟩⟩
 simp only [World.setCell,Array.getElem?_modify,if_true,g2,Option.map_some];simp
end
section
variable {c:e4}{k:b8}{vt cr:Value}{F:Nat->Prop}{s:ct}{w:au}
theorem Gf (h:(cS c k vt cr).J F s w):
 Calls prog 57 #[aj c.pk] w fun e w'=>e=.returned (ah k.a.O)/\Below w.heap.size w w':=by
 obtain⟨b,c0,_⟩:=gu h;obtain⟨l,_⟩:=ey h;have P:=kl w b;have g:=hide h;have k1:=b.hO;have m:=b.hg;clear h b;go_enter func57,ntmps57;go_wp2_with fail;refine P.mono ?_;rintro e w1 ⟨rfl,d⟩
 have f:=(cS c k vt cr).below g.o d;obtain⟨b,n,_⟩:=gu f;obtain⟨o,_⟩:=ey f;have P:=ot w1 b;go_wp2_with fail;refine P.mono ?_;rintro e p ⟨rfl,i⟩
 have j:=hide (d.trans (i.mono d.size))
 go_wp2_with fail;go_ret;exact⟨af,j.o⟩
theorem Gg {bp d:Nat}{n m a:Int}(h:(gU (dd (cS c k vt cr) bp (dl c)) d).J F (s,n) w)(ht:k.T.length<=4000)(ha:a∈k.T)(hp:0<=a/\a<=2000)(N:0<=n/\n<=100000)(hm:0<=m/\m<=13):
 Calls prog 125 #[ah a,ah m,aj d,aj bp] w fun e w'=>∃j,e=.returned (.tuple #[])/\(gU (dd (cS c k vt cr) bp (dl c)) d).J j ({s with f:=gq s.f a n},n+m) w'/\b_ F w j w':=by
 obtain⟨q,_⟩:=nP h;obtain⟨_,g,_⟩:=k9 h;obtain⟨_,i,l,_⟩:=gw g;obtain⟨_,_,_,O,_⟩:=ey i;have l:w.cell? (am bp 0)=some (aj c.pk):=ay l
 clear g i;obtain⟨P,g,_,_,u⟩:=k9 ((gU (dd (cS c k vt cr) bp (dl c)) d).below h (aD _ w).drew)
 obtain⟨Q,i,_,_,v⟩:=gw g;obtain⟨⟨D,o1,x,A⟩,hM⟩:=o7 i;obtain⟨w3,R,B,C⟩:=o1.update (t:=108) (e:=3) iA underlying108 (by unfold maxLen;omega) (iZ hp.1 V) (my n (WalkArith.wf_i64 ⟨V,V⟩))
 obtain⟨E,G⟩:=hM w3 _ (Mp.put o1 x A ha B) ((Fr.refl _ w.drew).grown C (fun b e=>aJ (by cases e;rfl)))
 obtain⟨H,I⟩:=v _ _ _ E G;obtain⟨o,J⟩:=u _ _ _ H I;obtain⟨K,S⟩:=nP o;have p:av (_/\_):=⟨o,(b_.of (aD _ w).drew).trans J⟩
 dsimp only at q K;go_enter func125,ntmps125;go_wp2
 go_region
 go_wp2;go_end0;obtain⟨L,M⟩:=zd p.o.1 (n+m)
 exact⟨_,rfl,L,p.o.2.trans M⟩
end
def b8.lU (k:b8)(t:ct×Int)(a:Int):ct×Int:=({t.1 with f:=gq t.1.f a t.2},t.2+(1+pf (k.ld a)))
def b8.lV (k:b8)(t:ct×Int)(l:List Int):ct×Int:=gJ (fun t a=>t.1.f a) k.lU t l
def b8.pl (k:b8)(s:ct):ct×Int:=k.lV (s,k.a.N) k.T
section
variable {c:e4}{k:b8}{vt cr:Value}{F:Nat->Prop}{s:ct}{w:au}
theorem Gh:d3 125:=gP func125 ae rfl
theorem Gj {bp i:Nat}(h:(gU (dd (cS c k vt cr) bp (dl c)) i).J F (s,(k.a.N:Int)) w)(ht:k.T.length<=4000)(hp:∀a∈k.T,0<=a/\a<=2000)(hN:k.a.N<=2000){l:Option Addr}{m B:Nat}(o:w.ownsRow B 3 1 (.slice l k.T.length m) k.T.length (k.T.map (Value.int .i64)))(hB:∀b,F b->b<B):
 Calls prog 124 #[aj c.pk,.slice l k.T.length m,.func (.func 125) #[] #[aj i,aj bp]] w fun e w'=>∃g,e=.returned (.tuple #[])/\(gU (dd (cS c k vt cr) bp (dl c)) i).J g (k.pl s) w'/\b_ F w g w'/\0<=(k.pl s).2/\(k.pl s).2<=60000:=by
 have E:=zc _ (fun t a=>t.1.f a) (fun _ a=>pf (k.ld a)) k.lU (fun j t=>0<=t.2/\t.2<=2000+13*(j:Int)) k.T c.pk k.a.pw k.a.p c.co 125 #[.pointer _,.pointer _] Gh k.T l m F (s,(k.a.N:Int)) w
  (by
    rintro F t q a u;obtain⟨_,f,_⟩:=k9 u;obtain⟨_,d,_⟩:=gw f;obtain⟨c0,_,_,c3,_⟩:=ey d;obtain⟨v,c5,_⟩:=gu d;obtain⟨hM,_⟩:=o7 d;refine⟨c0,c3,c5,hM,(fY a q v).mono ?_⟩
    rintro r w' ⟨rfl,x⟩
    exact⟨_,_,rfl,x⟩)
  (fun t a=>di _) (fun a ha=>⟨by have:=hp a ha;omega,ha⟩) V
  (by
    rintro j F t q p ⟨g1,g2⟩ A _;have hm:k.T.getD j 0∈k.T:=by rw[aC,aG p];exact a6 p
    have f:=hp _ hm;have d:=di (k.ld (k.T.getD j 0))
    exact Gg (s:=t.1) (n:=t.2) A ht hm f ⟨g1,V⟩ V)
  (by
    rintro j t p ⟨g1,g2⟩
    have d:=di (k.ld (k.T.getD j 0))
    unfold e6;split
    ·exact⟨g1,V⟩
    ·unfold b8.lU;exact⟨V,V⟩)
  ⟨V,V⟩ h (gO o)
  (fun C z e hz=>by obtain⟨b,I,D⟩:=dW o C;cases D;cases e;have d:=(ce o b rfl).1;have:=hB b hz;omega)
 refine E.mono ?_;rintro r w' ⟨g,rfl,f,d,G,H⟩
 exact⟨g,rfl,f,d,G,Int.le_trans H V⟩
theorem Gk (h:(cS c k vt cr).J F s w)(ht:k.T.length<=4000)(hp:∀a∈k.T,0<=a/\a<=2000):
 Calls prog 56 #[aj c.pk] w fun e w'=>∃g,e=.returned (ah ((k.pl s).2-k.a.N))/\(cS c k vt cr).J g (k.pl s).1 w'/\b_ F w g w':=by
 have E:=hide h;have n:=an w (dl c)
 have h0:=(cS c k vt cr).below h n;obtain⟨o,c0,_⟩:=gu h0;obtain⟨aF,_⟩:=ey h0;have P:=mh _ o;have n1:=o.hN';have G:=hide n;clear h h0 o n;go_enter func56,ntmps56;go_wp2_with fail;refine P.mono ?_;clear P;rintro e w1 ⟨rfl,H⟩
 have q:=(H.block _ Z).trans (aL _ _)
 have O:w1.cell? (am w.heap.size 0)=some (aj c.pk):=ay q
 have t:=(cS c k vt cr).lt E.o;have u:=lt_of_some q;have j:Below w1.heap.size w1 (w1.alloc (j7 k.a.N)):=an w1 _;have v:=G.o.trans (H.mono G.o.size)
 have I:=(cS c k vt cr).below ((cS c k vt cr).below E.o v) j;have Q:(dd (cS c k vt cr) w.heap.size (dl c)).J (fun b=>F b\/b=w.heap.size) s (w1.alloc (j7 k.a.N)):=⟨F,I,(j.block _ u).trans q,fun d=>by have:=t _ d;omega,fun b=>Iff.rfl⟩
 have R:(gU (dd (cS c k vt cr) w.heap.size (dl c)) w1.heap.size).J (fun b=>(F b\/b=w.heap.size)\/b=w1.heap.size) (s,(k.a.N:Int)) (w1.alloc (j7 k.a.N)):=⟨_,Q,aL _ _,fun d=>d.elim (fun d=>by have:=t _ d;omega) (fun d=>by omega),fun b=>Iff.rfl⟩
 have hd:=(aD (w1.alloc (j7 k.a.N)).heap.size (w1.alloc (j7 k.a.N))).drew;have S:=zb (c:=c) ⟨vt,cr,(cS c k vt cr).below I hd⟩ ht;have l:av (_/\_/\_/\_/\(w1.alloc (j7 k.a.N)).drew.heap.size=w1.heap.size+1):=⟨(gU (dd (cS c k vt cr) w.heap.size (dl c)) w1.heap.size).below R hd,(v.trans (j.mono v.size)).trans (hd.mono (by simp;omega)),t,u,Z⟩
 have U:=(j.cell (p:=am w.heap.size 0) u).trans O;have J:=dC ht hp;go_wp2_with fail
 go_region_held3 (fun w'=>w'.cell? (am w.heap.size 0)=some (aj c.pk)) (go_keep)
  (first
    |(go_at_call 108;refine S.mono ?_;rintro e w3 ⟨aR,aT,rfl,W,m⟩;have aV:=(m.cell (p:=am w.heap.size 0) (by have:=l.o.2.2.2;simp;omega)).trans U;have x:=dC W m)
    |(go_at_call 124;refine(Gj ((gU (dd (cS c k vt cr) w.heap.size (dl c)) w1.heap.size).below l.o.1 x.o.2) J.o.1 J.o.2 V x.o.1 (fun b f=>by have i:=l.o.2.2;rw[i.2.2];rcases f with(f|f)|f;(have:=i.1 b f;omega);omega;omega)).mono ?_;rintro e A ⟨a0,rfl,B,Y,b1,b2⟩;have a1:=(nP B).1;obtain⟨ab,i,_,_,_⟩:=k9 B;obtain⟨K,C,D,_,_⟩:=gw i;have a2:A.cell? (am w.heap.size 0)=some (aj c.pk):=ay D;clear i C D;have ad:=dC B Y))
 all_goals
  have ag:av (∃g,(cS c k vt cr).J g (k.pl s).1 A/\b_ F w g A):=by
   obtain⟨⟨ab,⟨K,C,D,ai,L⟩,a3,al,ap⟩,M⟩:=ad.o;obtain⟨_,ar,q3,bb,bd⟩:=l.o;have m:=x.o.2;have N:_:=ar.trans (m.mono V)
   refine⟨K,C,⟨(Fr.of (X:=F) N).trans M.fr (fun b d=>?_),fun b f=>?_⟩⟩
   ·rcases d with(d|d)|d
    ·exact aJ d
    ·exact aI V
    ·exact aI V
   ·rcases M.sub b ((ap b).2 (aJ ((L b).2 (aJ f)))) with((d|d)|d)|d
    ·exact aJ d
    ·exact absurd f (by rw[d];exact ai)
    ·exact absurd ((L b).2 (aJ f)) (by rw[d];exact al)
    ·exact aI (by have:=N.size;omega)
  go_wp2_with fail;go_ret;obtain⟨g,ax,aB⟩:=ag.o;exact⟨g,by first|rfl|go_num,ax,aB⟩
end
section
variable {c:gb}{k:ca}{F:Nat->Prop}{s:ch}{w:au}
theorem Gm (h:(d_ c k).J F s w)(m:CI k s)(hl:s.ep.length<=10000):
 Calls prog 88 #[aj c.pk] w fun e w'=>e=.returned (.tuple #[])/\(d_ c k).J F (k.be s s.ep) w'/\b_ F w F w':=by
 obtain⟨cA,al,h⟩:=h;obtain⟨c0,_,_,_,c4,c5,_,_,_,M,_,er,_,lk,_⟩:=eb h;obtain⟨N,g,rfl⟩:=dQ er;have O:=hide m;have P:=hide m.g_;have ap:(0:Int)<=k.N:=V;clear m M;go_enter func88,ntmps88;go_wp2_with fail
 go_loopw [9] (fun iv wr=>∃(j:Nat)(s1:ch),j<=s.ep.length/\iv=ah j/\av (k.be s (s.ep.take j)=s1)/\(cutV c k cA (.slice N s.ep.length g)).J F s1 wr/\b_ F w F wr/\av (CI k s1/\eB k s s1)) (fun iv _=>s.ep.length-(intOf iv).toNat)
 exact⟨0,s,aS _,rfl,rfl,h,b_.refl _ _,⟨O.o,eB.refl _ _⟩⟩
 ·
   obtain⟨j,s1,ar,rfl,n,d,o,p⟩:=hrel;obtain⟨ax,_,_,_,Q,aB,_,_,_,R,_,q,_,aF,_⟩:=eb d;have S:=p.o.2.ep;rw[S] at q;by_cases i:j<s.ep.length
   ·obtain⟨t,u,U,aR,hc⟩:=gO q V;have W:=hc j i;subst U;have B:s.ep.getD j 0∈s.ep:=by rw[aC,aG i];exact a6 i
    have C:=P.o _ B;have v:av (k.be s (s.ep.take (j+1))=k.gt s1 (s.ep.getD j 0)):=by
     show _=_;rw[fz s.ep j i 0];unfold ca.be;rw[List.foldl_append];have:=n.o;unfold ca.be at this
     rw[this];rfl
    generalize s.ep.getD j 0=a at W C v;have D:av (CI k (k.gt s1 a)/\eB k s (k.gt s1 a)):=by obtain⟨X,Y⟩:=p.o.1.gt C.1;exact⟨X,p.o.2.trans Y⟩
    have E:av (k.gt s1 a=k.st (k.st s1 (a+1) 3) (a+2) 3):=rfl;generalize k.gt s1 a=G at v D E;have ab:=dC d o;have l:=(iD ((cutV c k cA (.slice (some ⟨t,u,none⟩) s.ep.length g)).below d (aD _ wr).drew))
    have f:av (_):=l;have aT:IntKind.i64.wrap (a+1)=a+1:=by rw[bu];omega
    have aV:IntKind.i64.wrap (a+2)=a+2:=by rw[bu];omega
    clear hc B d o l R q Q;go_wp2_with fail
    go_region_held3 (fun w'=>w'.cell? (am c.pk 0)=some (aj c.pw)/\w'.cell? (am c.pw 0)=some (aj c.p)) (go_keep)
     (first
       |(go_at_call 158;refine(m_ _).mono ?_;rintro e ad ⟨rfl,b⟩;have b:=b.symm;subst b)
       |(go_at_call 68;refine(kk (a+1) 3 wr.drew f.o.1).mono ?_;rintro e w3 ⟨rfl,x,A⟩;obtain⟨H,ag⟩:=f.o.2 w3 _ _ x A;obtain⟨g0,_,_,_,_,g5,_⟩:=eb H;have I:av (_/\_):=⟨H,(ab.o.2.below (aD _ wr).drew).trans ag⟩))
    have l:=(iD ((cutV c k cA (.slice (some ⟨t,u,none⟩) s.ep.length g)).below I.o.1 (aD _ w3).drew))
    have f:av (_):=l;go_wp2_with fail
    go_region_held3 (fun w'=>w'.cell? (am c.pk 0)=some (aj c.pw)/\w'.cell? (am c.pw 0)=some (aj c.p)) (go_keep)
     (first
       |(go_at_call 158;refine(m_ _).mono ?_;rintro e ad ⟨rfl,b⟩;have b:=b.symm;subst b)
       |(go_at_call 68;refine(kk (a+2) 3 w3.drew f.o.1).mono ?_;rintro e J ⟨rfl,x,A⟩;obtain⟨K,ai⟩:=f.o.2 J _ _ x A;obtain⟨r0,_,_,_,_,a0,_⟩:=eb K;have L:av ((cutV c k cA (.slice (some ⟨t,u,none⟩) s.ep.length g)).J F G J/\_):=⟨(by rw[E.o];exact K),(I.o.2.below (aD _ w3).drew).trans ai⟩))
    go_wp2_with fail;go_roundw
    case rel=>exact⟨j+1,G,V,af,v,L.o.1,L.o.2,D⟩
    case measure=>simp[intOf];omega
   ·obtain rfl:j=s.ep.length:=V;rw[a_] at n;go_wp2_with fail;go_end0;rw[n.o];exact⟨rfl,⟨_,_,d⟩,o⟩
end
def b8.ar (k:b8)(y g:Nat)(ws:List Int):b8:={k with s:={k.s with y:=y,g:=g,ws:=ws}}
def b8.hJ (k:b8)(a x:Int):b8:=k.ar k.s.y k.s.g (if da k.a.N k.s.y k.s.g a=true then k.s.ws.set a.toNat x else k.s.ws)
def b8.qJ (k:b8)(i:Nat)(x:Int):b8:={k with s:={k.s with rs:=k.s.rs.set i x}}
def b8.brk (k:b8)(s:ct)(a:Int):b8:=
 if(pk (k.ld a)=3\/pk (k.ld a)=4)/\k.cQ s (k.ld (a+1))=true then(if pk (k.ld a)=4 then(k.hJ (a+1) 3).hJ (a+2) 3 else k.hJ (a+1) 3) else k
section
variable {c:e4}{k:b8}{vt cr:Value}{F:Nat->Prop}{s:ct}{w:au}
open Classical in
theorem pi (h:(cS c k vt cr).J F s w):∃g,(dY k.a).J g k.s w/\∀i o w',(dY k.a).J i o w'->b_ g w i w'->∃q,(cS c {k with s:=o} vt cr).J q s w'/\b_ F w q w':=by
 obtain⟨g,own,h,p⟩:=h;refine⟨g,h.wd,fun i o w' t n=>⟨_,⟨i,fun b=>if i b then 1 else if g b then 0 else own b,?_,fun b=>Iff.rfl⟩,⟨n.fr.mono (fun b d=>(p b).2 (by rw[(h.w1 b).1 d];decide)),fun b f=>?_⟩⟩⟩
 ·have m:∀b j,own b=j->j≠0->j≠1->(if i b then 1 else if g b then 0 else own b)=j:=fun b j e h0 u=>by
   have n1:_:=fun d=>u (e.symm.trans ((h.w1 b).1 d))
   rw[aE (fun d=>(n.sub b d).elim n1 (fun d=>by have:=h.lt b V;omega)),aE n1];exact e
  have hk:∀b,b<w.heap.size->own b≠1->_=_:=fun b f v=>n.fr.block b f (fun d=>v ((h.w1 b).1 d))
  exact {
   wd:=t,w1:=fun b=>⟨fun d=>by rw[aH d],fun d=>by
    by_cases e:i b
    ·exact e
    ·rw[aE e] at d;by_cases l:g b
     ·rw[aH l] at d;omega
     ·rw[aE l] at d;exact absurd ((h.w1 b).2 d) l⟩
   cb:=(hk _ (lt_of_some h.cb) (by rw[h.k1];decide)).trans h.cb,k1:=m _ _ h.k1 aa aa
   mp:=h.mp.same (hk _ h.mp.lt (by rw[h.m1];decide)),m1:=m _ _ h.m1 aa aa
   tr:=cv h.tr (fun b e=>hk b (ce h.tr b e).2 (by rw[h.gI b e];decide)),gI:=fun b e=>m _ _ (h.gI b e) aa aa
   er:=cv h.er (fun b e=>hk b (ce h.er b e).2 (by rw[h.eo b e];decide)),eo:=fun b e=>m _ _ (h.eo b e) aa aa
   yr:=cv h.yr (fun b e=>hk b (ce h.yr b e).2 (by rw[h.hC b e];decide)),hC:=fun b e=>m _ _ (h.hC b e) aa aa
   gr:=cv h.gr (fun b e=>hk b (ce h.gr b e).2 (by rw[h.go b e];decide)),go:=fun b e=>m _ _ (h.go b e) aa aa
   lt:=fun b f=>by
    by_cases e:i b
    ·exact(dY k.a).lt t b e
    ·rw[aE e] at f;by_cases l:g b
     ·rw[aH l] at f;exact absurd rfl f
     ·rw[aE l] at f;exact aM (h.lt b f) n.fr.size}
 ·dsimp only at f;by_cases e:i b
  ·exact(n.sub b e).imp (fun d=>(p b).2 (by rw[(h.w1 b).1 d];decide)) id
  ·rw[aE e] at f;by_cases l:g b
   ·rw[aH l] at f;exact absurd rfl f
   ·rw[aE l] at f;exact aJ ((p b).2 f)
theorem nQ (h:(cS c k vt cr).J F s w):At w k.a.p k.a.q k.a.N k.a.O k.s.y k.s.g k.s.ws/\∀w' y g ws,At w' k.a.p k.a.q k.a.N k.a.O y g ws->c7 k.a.p k.a.q w w'->∃b,(cS c (k.ar y g ws) vt cr).J b s w'/\b_ F w b w':=by
 obtain⟨j,d,e⟩:=pi h;obtain⟨g1,g2⟩:=jZ d;refine⟨g1,fun w' y g ws ha f=>?_⟩
 obtain⟨i,j2⟩:=g2 w' y g ws ha f;exact e _ _ _ i j2
theorem Gn (h:(cS c k vt cr).J F s w)(i:Nat)(x:Int):∃b,(cS c (k.qJ i x) vt cr).J b s (w.setCell ⟨k.a.nb,i,none⟩ (.int .i64 x))/\b_ F w b (w.setCell ⟨k.a.nb,i,none⟩ (.int .i64 x)):=by obtain⟨g,d,e⟩:=pi h;obtain⟨f,j2⟩:=yR d i x;exact e _ _ _ f j2
theorem Gp (h:(cS c k vt cr).J F s w)(a:Int)(ha:0<=a/\a<=2000):
 Calls prog 127 #[aj c.pk,ah a] w fun e w'=>∃Q,e=.returned (.tuple #[])/\(cS c (k.brk s a) vt cr).J Q s w'/\b_ F w Q w':=by
 have p:av ((cS c k vt cr).J F s w):=h;obtain⟨R,_⟩:=ey h;obtain⟨J,c0,_⟩:=gu h;have P:=fY a w J;have q:av (k.brk s a=if(pk (ld k.a.N k.s.y k.s.g k.s.ws a)=3\/pk (ld k.a.N k.s.y k.s.g k.s.ws a)=4)/\k.cQ s (k.ld (a+1))=true then(if pk (ld k.a.N k.s.y k.s.g k.s.ws a)=4 then(k.hJ (a+1) 3).hJ (a+2) 3 else k.hJ (a+1) 3) else k):=rfl;have ap:IntKind.i64.wrap (a+1)=a+1:=by rw[bu];omega
 have ar:IntKind.i64.wrap (a+2)=a+2:=by rw[bu];omega
 generalize k.brk s a=j at q⊢;generalize pk (ld k.a.N k.s.y k.s.g k.s.ws a)=S at P q;generalize pf (ld k.a.N k.s.y k.s.g k.s.ws a)=ax at P;generalize pc (ld k.a.N k.s.y k.s.g k.s.ws a)=cc at P;clear h J;by_cases L:S=3\/S=4
 ·have K:av (∀w1,Below w.heap.size w w1->Calls prog 73 #[aj k.a.p,ah (a+1)] w1 fun e w'=>e=.returned (ah (k.ld (a+1)))/\Below w1.heap.size w1 w'):=fun w1 g=>jr (a+1) w1 (gu ((cS c k vt cr).below p.o g)).1;have C:av (∀w1,Below w.heap.size w w1->Calls prog 121 #[aj c.pk,ah (k.ld (a+1))] w1 fun e w'=>e=.returned (.bool (k.cQ s (k.ld (a+1))))/\Below w1.heap.size w1 w'):=fun w1 g=>o8 ((cS c k vt cr).below p.o g) _;generalize k.ld (a+1)=x at K C q;cases hl:k.cQ s x
  ·have E:av (j=k):=by show j=k;rw[q.o,hl,aE (fun M=>by simp at M)]
   rw[hl] at C;clear q;rcases L with rfl|rfl
   all_goals
    go_enter func127,ntmps127;go_wp2_with fail;refine P.mono ?_;clear P;rintro e w1 ⟨rfl,d⟩
    have l:=(cS c k vt cr).below p.o d;obtain⟨D,_⟩:=ey l;obtain⟨_,G,_⟩:=gu l;clear l R c0;go_wp2_with fail;refine(K.o w1 d).mono ?_;rintro e o ⟨rfl,v⟩
    have i:=d.trans (v.mono d.size)
    go_wp2_with fail;refine(C.o o i).mono ?_;rintro e w3 ⟨rfl,A⟩
    have m:av ((cS c j vt cr).J F s w3/\b_ F w F w3):=by
     have g:=i.trans (A.mono i.size)
     rw[E.o];exact⟨(cS c k vt cr).below p.o g,b_.of g⟩
    clear d v A i G D;go_wp2_with fail;refine bv (results_none rfl _ _ _) rfl ?_;exact⟨F,rfl,m.o.1,m.o.2⟩
  ·rw[hl] at C;have N:av (∀k w1,(∃f,(cS c k vt cr).J f s w1/\b_ F w f w1)->∀(a:Int),Calls prog 68 #[aj k.a.p,ah a,ah 3] w1 fun e w'=>∃b,e=.returned (.bool b)/\(∃f,(cS c (k.hJ a 3) vt cr).J f s w'/\b_ F w f w')/\w'.cell? (am c.pk 0)=some (aj k.a.pw)/\w'.cell? (am k.a.pw 0)=some (aj k.a.p)):=by
    rintro k w1 ⟨f,l,X⟩ a;obtain⟨J,Y⟩:=nQ l;refine(kk a 3 w1 J).mono ?_;rintro e o ⟨rfl,ab,ad⟩
    obtain⟨ag,O,ai⟩:=Y o _ _ _ ab ad;obtain⟨D,_⟩:=ey O;obtain⟨_,G,_⟩:=gu O;exact⟨_,rfl,⟨ag,O,X.trans ai⟩,D,G⟩
   rcases L with rfl|rfl
   ·have E:av (j=k.hJ (a+1) 3):=by show j=_;rw[q.o,aH ⟨aJ rfl,hl⟩,aE aa]
    clear q;go_enter func127,ntmps127;go_wp2_with fail;refine P.mono ?_;clear P;rintro e w1 ⟨rfl,d⟩
    have l:=(cS c k vt cr).below p.o d;obtain⟨D,_⟩:=ey l;obtain⟨_,G,_⟩:=gu l;clear l R c0;go_wp2_with fail;refine(K.o w1 d).mono ?_;rintro e o ⟨rfl,v⟩
    have i:=d.trans (v.mono d.size)
    go_wp2_with fail;refine(C.o o i).mono ?_;rintro e w3 ⟨rfl,A⟩
    have g:=i.trans (A.mono i.size)
    have t:=(cS c k vt cr).below p.o g;obtain⟨U,_⟩:=ey t;obtain⟨_,l0,_⟩:=gu t;have H:=N.o k w3.drew ⟨F,(cS c k vt cr).below t (aD _ w3).drew,(b_.of g).below (aD _ w3).drew⟩ (a+1)
    clear d v A i G D t g;go_wp2_with fail
    go_region_held3 (fun w'=>w'.cell? (am c.pk 0)=some (aj k.a.pw)/\w'.cell? (am k.a.pw 0)=some (aj k.a.p)) (go_keep)
     (first
       |(go_at_call 158;refine(m_ _).mono ?_;rintro e o ⟨rfl,n⟩;have n:=n.symm;subst n)
       |(go_at_call 68;refine H.mono ?_;clear H;rintro e B ⟨al,rfl,u,W,y1⟩;have m:av (∃f,(cS c j vt cr).J f s B/\b_ F w f B):=(by rw[E.o];exact u);clear u))
    clear W y1 U l0;go_wp2_with fail;go_end0;obtain⟨f,I,j2⟩:=m.o;exact⟨f,rfl,I,j2⟩
   ·have E:av (j=(k.hJ (a+1) 3).hJ (a+2) 3):=by show j=_;rw[q.o,aH ⟨aI rfl,hl⟩,aH rfl]
    go_enter func127,ntmps127;go_wp2_with fail;refine P.mono ?_;rintro e w1 ⟨rfl,d⟩
    have l:=(cS c k vt cr).below p.o d;obtain⟨D,_⟩:=ey l;obtain⟨_,G,_⟩:=gu l;go_wp2_with fail;refine(K.o w1 d).mono ?_;rintro e o ⟨rfl,v⟩
    have i:=d.trans (v.mono d.size)
    go_wp2_with fail;refine(C.o o i).mono ?_;rintro e w3 ⟨rfl,A⟩
    have g:=i.trans (A.mono i.size)
    have t:=(cS c k vt cr).below p.o g;obtain⟨U,_⟩:=ey t;obtain⟨_,l0,_⟩:=gu t;have H:=N.o k w3.drew ⟨F,(cS c k vt cr).below t (aD _ w3).drew,(b_.of g).below (aD _ w3).drew⟩ (a+1)
    go_wp2_with fail
    go_region_held3 (fun w'=>w'.cell? (am c.pk 0)=some (aj k.a.pw)/\w'.cell? (am k.a.pw 0)=some (aj k.a.p)) (go_keep)
     (first
       |(go_at_call 158;refine(m_ _).mono ?_;rintro e o ⟨rfl,n⟩;have n:=n.symm;subst n)
       |(go_at_call 68;refine H.mono ?_;rintro e B ⟨al,rfl,u,W,y1⟩;have m:=hide u;clear u))
    have H:Calls prog 68 #[aj k.a.p,ah (a+2),ah 3] B.drew fun e w'=>∃b,e=.returned (.bool b)/\(∃f,(cS c j vt cr).J f s w'/\b_ F w f w')/\w'.cell? (am c.pk 0)=some (aj k.a.pw)/\w'.cell? (am k.a.pw 0)=some (aj k.a.p):=by rw[E.o];obtain⟨f,I,j2⟩:=m.o;exact N.o (k.hJ (a+1) 3) B.drew ⟨f,(cS c _ vt cr).below I (aD _ B).drew,j2.below (aD _ B).drew⟩ (a+2)
    go_wp2_with fail
    go_region_held3 (fun w'=>w'.cell? (am c.pk 0)=some (aj k.a.pw)/\w'.cell? (am k.a.pw 0)=some (aj k.a.p)) (go_keep)
     (first
       |(go_at_call 158;refine(m_ _).mono ?_;rintro e o ⟨rfl,n⟩;have n:=n.symm;subst n)
       |(go_at_call 68;refine H.mono ?_;rintro e aB ⟨aF,rfl,u,z0,aR⟩;have m:=hide u;clear u))
    go_wp2_with fail;go_end0;obtain⟨f,I,j2⟩:=m.o;exact⟨f,rfl,I,j2⟩
 ·have E:av (j=k):=by show j=k;rw[q.o,aE (fun M=>L M.1)]
  go_enter func127,ntmps127;go_wp2_with fail;refine P.mono ?_;rintro e w1 ⟨rfl,d⟩
  have m:av ((cS c j vt cr).J F s w1/\b_ F w F w1):=by rw[E.o];exact⟨(cS c k vt cr).below p.o d,b_.of d⟩
  go_wp2_with fail;refine bv (results_none rfl _ _ _) rfl ?_;exact⟨F,rfl,m.o.1,m.o.2⟩
end
def de (c:e4)(k0:b8)(s:ct)(vt b:Value):dP b8 where
 J F k w:=(cS c k vt b).J F s w/\k.a=k0.a/\k.Y=k0.Y/\k.G=k0.G
 lt:=fun h=>(cS c _ vt b).lt h.1
 keep:=fun h hs hk=>⟨(cS c _ vt b).keep h.1 hs hk,h.2⟩
def b8.gE (k:b8)(s:ct)(a:Int):Nat->b8
 |0=>k
 |n+1=>(k.gE s a n).hJ (a+1+n) (k.nw s ((k.gE s a n).ld (a+1+n)))
def b8.jD (k:b8)(s:ct)(a:Int):b8:=(k.brk s a).gE s a (pf (k.ld a)).toNat
theorem b8.j8 {k k0:b8}(s:ct)(x:Int)(b:k.Y=k0.Y)(c:k.G=k0.G):k.nw s x=k0.nw s x:=by unfold b8.nw b8.jt b8.T;rw[b,c]
theorem t6 (k:b8)(s:ct)(a:Int):(k.brk s a).a=k.a/\(k.brk s a).Y=k.Y/\(k.brk s a).G=k.G:=by
 unfold b8.brk;split
 ·split<;>exact⟨rfl,rfl,rfl⟩
 ·exact⟨rfl,rfl,rfl⟩
section
variable {c:e4}{k0 k:b8}{vt cr:Value}{F:Nat->Prop}{s:ct}{w:au}{bp:Nat}
theorem hL (h:(de c k0 s vt cr).J F k w):w.cell? (am c.pk 0)=some (aj k0.a.pw)/\w.cell? (am c.pk 3)=some (.map (some c.co))/\w.cell? (am k0.a.pw 0)=some (aj k0.a.p)/\Mp w c.co k0.T s.f/\At w k0.a.p k0.a.q k0.a.N k0.a.O k.s.y k.s.g k.s.ws:=by
 obtain⟨h,ea,e,f⟩:=h;obtain⟨b,_,_,g,_⟩:=ey h;obtain⟨d,c0,_⟩:=gu h;obtain⟨hM,_⟩:=o7 h;rw[ea] at b d c0;have i:k.T=k0.T:=by unfold b8.T;rw[e,f]
 rw[i] at hM;exact⟨b,g,c0,hM,d⟩
theorem Gq (h:(de c k0 s vt cr).J F k w)(a:Int):Calls prog 73 #[aj k0.a.p,ah a] w fun e w'=>e=.returned (ah (k.ld a))/\Below w.heap.size w w':=by
 have e:k.ld a=ld k0.a.N k.s.y k.s.g k.s.ws a:=by unfold b8.ld;rw[h.2.1]
 rw[e];exact jr a w (hL h).2.2.2.2
theorem ze (h:(de c k0 s vt cr).J F k w)(x:Int):Calls prog 123 #[aj c.pk,ah x] w fun e w'=>e=.returned (ah (k0.nw s x))/\Below w.heap.size w w':=by have P:=yY h.1 x;rw[b8.j8 s x h.2.2.1 h.2.2.2] at P;exact P
theorem Gr (h:(de c k0 s vt cr).J F k w)(a x:Int):Calls prog 68 #[aj k0.a.p,ah a,ah x] w fun e w'=>∃b d,e=.returned (.bool b)/\(de c k0 s vt cr).J d (k.hJ a x) w'/\b_ F w d w':=by
 obtain⟨h,ea,f,g⟩:=h;obtain⟨i,j⟩:=nQ h;rw[<-ea];refine(kk a x w i).mono ?_;rintro e l ⟨rfl,m,n⟩
 obtain⟨o,p,q⟩:=j l _ _ _ m n;exact⟨_,o,rfl,⟨p,ea,f,g⟩,q⟩
theorem Gs (h:(de c k0 s vt cr).J F k w)(a:Int)(ha:0<=a/\a<=2000):Calls prog 127 #[aj c.pk,ah a] w fun e w'=>∃b,e=.returned (.tuple #[])/\(de c k0 s vt cr).J b (k.brk s a) w'/\b_ F w b w':=by
 refine(Gp h.1 a ha).mono ?_;rintro e m ⟨d,rfl,f,g⟩
 obtain⟨i,j,l⟩:=t6 k s a;exact⟨d,rfl,⟨f,i.trans h.2.1,j.trans h.2.2.1,l.trans h.2.2.2⟩,g⟩
theorem Gt (h:(dd (de c k0 s vt cr) bp (dl c)).J F k w)(a:Int)(ha:0<=a/\a<=2000)(m:Nat)(hm:m<=12):
 Calls prog 126 #[ah a,ah (1+m),aj bp] w fun e w'=>∃G,e=.returned (.tuple #[])/\(dd (de c k0 s vt cr) bp (dl c)).J G ((k.brk s a).gE s a m) w'/\b_ F w G w':=by
 have H:av (∀x,(k.brk s a).nw s x=k0.nw s x):=by obtain⟨_,W,X⟩:=t6 k s a;obtain⟨_,⟨_,_,g2,g3⟩,_⟩:=h;exact fun x=>b8.j8 s x (W.trans g2) (X.trans g3)
 obtain⟨aT,h0,f,lb,o⟩:=gw h;have P:=Gs h0 a ha;have q:=hide o;have t:w.cell? (am bp 0)=some (aj c.pk):=ay f
 generalize k.brk s a=k1 at P H⊢;go_enter func126,ntmps126;go_wp2_with fail;refine P.mono ?_;rintro e w1 ⟨Y,rfl,ab,ad⟩
 obtain⟨ag,ai⟩:=q.o Y _ w1 ab ad;go_wp2_with fail
 go_loopw [5] (fun iv wr=>∃(j:Nat)(g:Nat->Prop),j<=m/\iv=ah (a+1+j)/\av ((dd (de c k0 s vt cr) bp (dl c)).J g (k1.gE s a j) wr/\b_ F w g wr)) (fun iv _=>m-(intOf iv-a-1).toNat)
 exact⟨0,_,aS _,af,⟨ag,ai⟩⟩
 ·
   obtain⟨j,g,aV,rfl,d⟩:=hrel;by_cases a0:j<m
   ·obtain⟨I,i,f,lb,o⟩:=gw d.o.1;have q:=hide o;have J:=dC f lb;have u:=hide i;have t:wr.cell? (am bp 0)=some (aj c.pk):=ay f
    obtain⟨a1,_,c0,_,_⟩:=hL i;have K:=Gq ((de c k0 s vt cr).below i (aD _ wr).drew) (a+1+j)
    have l:av (k1.gE s a (j+1)=(k1.gE s a j).hJ (a+1+j) (k0.nw s ((k1.gE s a j).ld (a+1+j)))):=by show _=_;rw[<-H.o];rfl
    generalize (k1.gE s a j).ld (a+1+j)=x at K l;obtain⟨v,L⟩:∃v,k1.gE s a (j+1)=v:=⟨_,rfl⟩
    rw[L] at l;have al:=hide L;generalize k1.gE s a j=M at u d i l;go_wp2_with fail
    go_region_held3 (fun w'=>w'.cell? (am bp 0)=some (aj c.pk)/\w'.cell? (am c.pk 0)=some (aj k0.a.pw)/\w'.cell? (am k0.a.pw 0)=some (aj k0.a.p)) (go_keep)
     (first
       |(go_at_call 73;refine K.mono ?_;rintro e A ⟨rfl,ap⟩;have B:Below wr.heap.size wr A:=((aD _ wr).drew).trans (ap.mono Z);have N:=(de c k0 s vt cr).below u.o B;obtain⟨y1,_,a2,_,_⟩:=hL N;have a3:=(B.cell (p:=am bp 0) J.o.2).trans t;have C:av ((de c k0 s vt cr).J I M A/\Below wr.heap.size wr A):=⟨N,B⟩)
       |(go_at_call 123;refine(ze C.o.1 x).mono ?_;rintro e O ⟨rfl,ar⟩;have D:=C.o.2.trans (ar.mono C.o.2.size);have Q:=(de c k0 s vt cr).below u.o D;obtain⟨bb,_,bd,_,_⟩:=hL Q;have z0:=(D.cell (p:=am bp 0) J.o.2).trans t;have R:av ((de c k0 s vt cr).J I M O/\Below wr.heap.size wr O):=⟨Q,D⟩)
       |(go_at_call 68;refine(Gr R.o.1 (a+1+j) (k0.nw s x)).mono ?_;rintro e n ⟨be,E,rfl,S,ax⟩;obtain⟨r1,_,bg,_,_⟩:=hL S;obtain⟨U,aB⟩:=q.o E _ n S ((b_.of R.o.2).trans ax);have r0:n.cell? (am bp 0)=some (aj c.pk):=(by obtain⟨_,_,aF,_⟩:=U;simp[World.cell?,aF]);have aR:av ((dd (de c k0 s vt cr) bp (dl c)).J (fun b=>E b\/b=bp) v n/\b_ F w (fun b=>E b\/b=bp) n):=⟨(by rw[l.o];exact U),d.o.2.trans aB⟩))
    go_wp2_with fail;go_roundw
    case rel=>exact⟨j+1,_,V,af,by rw[al.o];exact aR⟩
    case measure=>simp[intOf];omega
   ·obtain rfl:j=m:=V;go_wp2_with fail;go_end0;exact⟨g,rfl,d.o.1,d.o.2⟩
end
def b8.fK (k:b8)(s:ct):Nat->b8
 |0=>k
 |n+1=>(k.fK s n).qJ n (k.nw s ((k.fK s n).s.rs.getD n 0))
def b8.nR (k:b8)(s:ct)(l:List Int):b8:=gJ (fun(_:b8) a=>s.f a) (fun k a=>k.jD s a) k l
def b8.co (k:b8)(t:ct×List bZ)(x:Int):Int×(ct×List bZ):=((k.mp t.1 x).1,((k.mp t.1 x).2,t.2))
def b8.tS (k:b8)(t:ct×List bZ)(r:List bZ):ct×List bZ:=fi (dK ct) (fun s x=>k.al s.1 x) k.co t r
def b8.tR (k:b8)(t:ct×List bZ)(r:List bZ):List bZ:=eP (dK ct) (fun s x=>k.al s.1 x) k.co (fun s x=>k.nw s.1 x) t r
def b8.hP (k:b8)(t:ct×List bZ)(r:List bZ):List bZ:=eQ (dK ct) (fun s x=>k.al s.1 x) k.co (fun s x=>k.nw s.1 x) t r
theorem Gu:d3 126:=gP func126 ae rfl
section
variable {c:e4}{k0 k:b8}{vt cr vr:Value}{F:Nat->Prop}{s:ct}{w:au}{bp:Nat}
theorem Gv (h:(de c k0 s vt cr).J F k w)(i:Nat)(x:Int):∃b,(de c k0 s vt cr).J b (k.qJ i x) (w.setCell ⟨k0.a.nb,i,none⟩ (.int .i64 x))/\b_ F w b (w.setCell ⟨k0.a.nb,i,none⟩ (.int .i64 x)):=by obtain⟨h,ea,f,g⟩:=h;obtain⟨b,d,e⟩:=Gn h i x;rw[ea] at d e;exact⟨b,⟨d,ea,f,g⟩,e⟩
theorem t7 (h:(de c k0 s vt cr).J F k w):w.cell? (am k0.a.pw 3)=some (.slice (ak k0.a.nb) 12 12)/\∀i,i<12->w.cell? (am k0.a.nb i)=some (ah (k.s.rs.getD i 0))/\w.frozen? (am k0.a.nb i)=false:=by obtain⟨h,ea,d,e⟩:=h;obtain⟨_,b,_⟩:=pi h;obtain⟨_,_,_,c3,_,_,_,rt⟩:=jh b;rw[ea] at c3 rt;exact⟨c3,rt⟩
theorem Gw (h:(dd (de c k0 s vt cr) bp (dl c)).J F k w)(ht:k0.T.length<=4000)(hp:∀a∈k0.T,0<=a/\a<=2000){g:Option Addr}{i B:Nat}(l:w.ownsRow B 3 1 (.slice g k0.T.length i) k0.T.length (k0.T.map (Value.int .i64)))(hB:∀b,F b->b<B):
 Calls prog 124 #[aj c.pk,.slice g k0.T.length i,.func (.func 126) #[] #[aj bp]] w fun e w'=>∃f,e=.returned (.tuple #[])/\(dd (de c k0 s vt cr) bp (dl c)).J f (k.nR s k0.T) w'/\b_ F w f w':=by
 have E:=zc _ (fun(_:b8) a=>s.f a) (fun k a=>pf (k.ld a)) (fun k a=>k.jD s a) (fun _ _=>True) k0.T c.pk k0.a.pw k0.a.p c.co 126 #[.pointer _] Gu k0.T g i F k w
  (by
    rintro F t n a p;obtain⟨_,d,_⟩:=gw p;obtain⟨c0,c3,c5,hM,q⟩:=hL d;refine⟨c0,c3,c5,hM,(fY a n q).mono ?_⟩
    rintro r w' ⟨rfl,u⟩
    have v:pf (t.ld a)=pf (ld k0.a.N t.s.y t.s.g t.s.ws a):=by unfold b8.ld;rw[d.2.1]
    exact⟨pk _,pc _,by rw[v],u⟩)
  (fun t a=>di _) (fun a ha=>⟨by have:=hp a ha;omega,ha⟩) V
  (by
    rintro j F t n o _ x _;have hm:k0.T.getD j 0∈k0.T:=by rw[aC,aG o];exact a6 o
    have d:=hp _ hm;have m:=di (t.ld (k0.T.getD j 0))
    have P:=Gt x _ d (pf (t.ld (k0.T.getD j 0))).toNat V;rw[show(((pf (t.ld (k0.T.getD j 0))).toNat:Nat):Int)=pf (t.ld (k0.T.getD j 0)) from by omega] at P;exact P)
  (fun _ _ _ _=>trivial) trivial h (gO l)
  (fun A z e hz=>by obtain⟨b,D,C⟩:=dW l A;cases C;cases e;have m:=(ce l b rfl).1;have:=hB b hz;omega)
 refine E.mono ?_;rintro r w' ⟨f,rfl,d,m,_⟩
 exact⟨f,rfl,d,m⟩
theorem Gx {p:Option Addr}{q:Nat}{r:List bZ}(B:vr=.slice p r.length q){t:ct×List bZ}(h:(c9 (dN c k) c.bs vr).J F t w)(C:w.ownsRow 0 83 2 vr r.length (ev r))(hq:t.2.length+r.length<=90000)(bx g:Nat)(D:bx≠g)(E:w.heap[bx]?=some (dl c))(hy:w.heap[g]?=some (jj (j6 c)))(G:¬F bx)(hm:¬F g):
 Calls prog 53 #[aj c.bs,.agg #[(iK bx).v,(hI g).v,(i4 c).v]] w fun e w'=>∃a1 c1 o,e=.returned (.tuple #[])/\(c9 (dN c k) c.bs (.slice a1 (k.tR t r).length c1)).J o ((k.tS t r).1,k.hP t r) w'/\
  w'.ownsRow 0 83 2 (.slice a1 (k.tR t r).length c1) (k.tR t r).length (ev (k.tR t r))/\(∀b,some b=(Value.slice a1 (k.tR t r).length c1).ownBlock->¬o b/\w.heap.size<=b)/\Fr (fun b=>F b\/b=g\/b=bx) w w'/\(∀b,o b->F b\/w.heap.size<=b):=by
 subst B;refine(ts _ (fun _=>True) (iK bx) (hI g) (i4 c) _ _ _ (tt _ c.bs _ (fun _=>True) (iK bx) (hI g) (i4 c) k.al k.mp k.nw tM tN tO (tU bx g (j6 c)) (tH (y3 g)) (lS (lS tT))) r p q rfl V (fun _ _=>⟨trivial,trivial⟩) _ t w (fun _ _=>⟨trivial,trivial⟩) hq (jW (jW h hy hm) E (fun d=>d.elim G D)) (gh C)).mono ?_;rintro e w' ⟨a1,c1,a2,c2,H,W,rfl,⟨s,X,Y,⟨fA,⟨i,g1,ab,I,u⟩,g2,g3,J⟩,ad,ag,K,ai,L,al,ap⟩,q3,M,j,l,m,N,O,P,Q,R⟩
 have j:w'.heap[c.bs]?=some (.cells #[.slice a1 (k.tR t r).length c1,.slice a2 (k.hP t r).length c2] 128 (0,0)):=j;have l:=l;have m:=m;have v:∀b,i b->s b:=fun b f=>(J b).2 (aJ ((u b).2 (aJ f)))
 have n:∀b,i b->H b:=fun b f=>K b (v b f)
 have x:∀b,i b->b≠c.bs:=fun b f e=>L (by show s c.bs;rw[<-e];exact v b f)
 have A:=(dN c k).keep (w':=w') g1 M (fun b f=>q3 b (n b f) (x b f))
 have S:F c.bs:=by obtain⟨_,_,_,_,_,_,_,U,_⟩:=h;exact U
 refine⟨a1,c1,fun b=>i b\/b=c.bs\/some b=(Value.slice a2 (k.hP t r).length c2).ownBlock,rfl,⟨i,a2,c2,A,j,d7 m (fun _ _=>aS _),fun b f=>aJ f,aI (aJ rfl),fun d=>x _ d rfl,fun b e=>⟨aI (aI e),fun d=>Q b e (n b d)⟩,fun b f=>?_⟩,d7 l (fun _ _=>aS _),fun b e=>⟨fun d=>?_,(ce l b e).1⟩,N.mono (fun b d=>?_),fun b f=>?_⟩
 ·rcases f with f|f|f
  ·exact(dN c k).lt A b f
  ·rw[f];exact lt_of_some j
  ·exact(ce m b f).2
 ·rcases d with d|d|d
  ·exact P b e (n b d)
  ·obtain⟨ar,hc⟩:=dZ l b e;rw[d,j] at hc;simp at hc
  ·exact R b e d
 ·rcases d with(d|d)|d
  ·exact aJ d
  ·exact aI (aJ d)
  ·exact aI (aI d)
 ·rcases f with f|f|f
  ·rcases O b (n b f) with((d|d)|d)|d
   ·exact aJ d
   ·exact absurd f (by rw[d];exact I)
   ·exact absurd ((u b).2 (aJ f)) (by rw[d];exact g3)
   ·exact aI d
  ·exact aJ (by rw[f];exact S)
  ·exact aI (ce m b f).1
end
def b8.eW (k:b8)(s:ct):b8:=(k.fK s 12).nR s k.T
section
variable {c:e4}{k0 k:b8}{vt cr vr:Value}{F:Nat->Prop}{s:ct}{w:au}{bp:Nat}
theorem cU.of {k k0:b8}(h:cU k0 s)(b:k.Y=k0.Y)(c:k.G=k0.G):cU k s:=by
 have e:k.T=k0.T:=by unfold b8.T;rw[b,c]
 exact⟨by rw[e];exact h.nd,by rw[e];exact h.ps,by rw[e];exact h.td,by rw[e];exact h.ep,by rw[e];exact h.tl,by unfold b8.lost;rw[e];exact h.sum⟩
theorem zf (h:(de c k0 s vt cr).J F k w):k0.a.nb≠c.pk/\k0.a.nb≠k0.a.pw/\F k0.a.nb:=by
 obtain⟨⟨i,own,h,j⟩,ea,_⟩:=h;have hw:=h.wd;rw[<-ea];have f:=h.w1;obtain⟨m,cM,b,l⟩:=hw;have g:i k.a.nb:=(l _).2 (by rw[b.r1];decide)
 refine⟨fun e=>?_,fun e=>?_,(j _).2 (by rw[(f _).1 g];decide)⟩
 ·have d:=(f _).1 g;rw[e,h.k1] at d;omega
 ·have d:=b.r1;rw[e,b.w1] at d;omega
theorem Gy {cG:Option Addr}{cH:Nat}{r:List bZ}(cI:vr=.slice cG r.length cH){t:ct×List bZ}(h:(c9 (dN c k) c.bs vr).J F t w)(bg:w.ownsRow 0 83 2 vr r.length (ev r))(cJ:∀b,some b=vr.ownBlock->¬F b)(hq:t.2.length+r.length<=90000){v1 v2:Value}(hs:w.heap[k.a.sd]?=some (.cells #[v1,v2] 128 (0,0)))(cc:¬F k.a.sd):
 Calls prog 58 #[aj c.pk] w fun e w'=>∃a1 c1 o,e=.returned (.tuple #[])/\(c9 (dN c (k.eW t.1)) c.bs (.slice a1 ((k.eW t.1).tR t r).length c1)).J o (((k.eW t.1).tS t r).1,(k.eW t.1).hP t r) w'/\w'.ownsRow 0 83 2 (.slice a1 ((k.eW t.1).tR t r).length c1) ((k.eW t.1).tR t r).length (ev ((k.eW t.1).tR t r))/\(∀b,some b=(Value.slice a1 ((k.eW t.1).tR t r).length c1).ownBlock->¬o b/\w.heap.size<=b)/\w'.heap[k.a.sd]?=w'.heap[c.bs]?/\¬o k.a.sd/\Fr (fun b=>F b\/b=k.a.sd) w w'/\(∀b,o b->F b\/w.heap.size<=b):=by
 have dr:∀(cd:Fn)(first cf:Array Value)(w:au),(Instr.makeFunc cd first cf).run prog w=.ok (.func cd first cf) w:=fun _ _ _ _=>rfl;obtain⟨C,⟨⟨vt,cr,h0⟩,cg⟩,ch⟩:=iT h;have bi:av (cU k t.1):=cg;have cK:=an w (dl c)
 have cL:∀b,C b->b<w.heap.size:=(cS c k vt cr).lt h0;have bl:(dd (de c k t.1 vt cr) w.heap.size (dl c)).J (fun b=>C b\/b=w.heap.size) k (w.alloc (dl c)):=⟨C,⟨(cS c k vt cr).below h0 cK,rfl,rfl,rfl⟩,aL _ _,fun f=>by have:=cL _ f;omega,fun b=>Iff.rfl⟩
 obtain⟨_,bn,E,_,_⟩:=gw bl;obtain⟨ag,_,c0,_,_⟩:=hL bn;obtain⟨c3,_⟩:=t7 bn;have L:(w.alloc (dl c)).cell? (am w.heap.size 0)=some (aj c.pk):=by simp only [World.cell?];rw[E];rfl
 clear bn E cg;go_enter func58,ntmps58;go_wp2_with fail
 go_loopw [12] (fun iv wr=>∃(j:Nat)(G:Nat->Prop),j<=12/\iv=ah j/\av ((dd (de c k t.1 vt cr) w.heap.size (dl c)).J G (k.fK t.1 j) wr/\b_ (fun b=>C b\/b=w.heap.size) (w.alloc (dl c)) G wr)) (fun iv _=>12-(intOf iv).toNat)
 case atStart=>exact⟨0,_,aS _,rfl,⟨bl,b_.refl _ _⟩⟩
 case round=>
  clear bl L ag c0 c3;obtain⟨j,G,ds,rfl,B⟩:=hrel;obtain⟨ai,u,E,lb,bo⟩:=gw B.o.1;have L:wr.cell? (am w.heap.size 0)=some (aj c.pk):=ay E
  obtain⟨ag,_,c0,_,_⟩:=hL u;obtain⟨c3,rt⟩:=t7 u;by_cases bp:j<12
  ·have ci:av (∀al ap w1,(de c k t.1 vt cr).J al ap w1->b_ ai wr al w1->(dd (de c k t.1 vt cr) w.heap.size (dl c)).J (fun b=>al b\/b=w.heap.size) ap w1/\b_ G wr (fun b=>al b\/b=w.heap.size) w1):=bo;have v:av (wr.heap[w.heap.size]?=some (dl c)/\w.heap.size<wr.heap.size/\(de c k t.1 vt cr).J ai (k.fK t.1 j) wr):=⟨E,lb,u⟩
   obtain⟨n1,dt,cM⟩:=zf u;have n4:k.a.nb≠w.heap.size:=fun e=>by obtain⟨H,g1,_,g3,_⟩:=B.o.1;exact g3 (by rw[<-e];exact(zf g1).2.2)
   obtain⟨cj,cN⟩:=rt j bp;have br:=ze ((de c k t.1 vt cr).below u (aD _ wr).drew) ((k.fK t.1 j).s.rs.getD j 0)
   have ar:av (k.fK t.1 (j+1)=(k.fK t.1 j).qJ j (k.nw t.1 ((k.fK t.1 j).s.rs.getD j 0))):=rfl;obtain⟨ax,bs⟩:∃ax,k.fK t.1 (j+1)=ax:=⟨_,rfl⟩
   rw[bs] at ar;have cO:av (k.fK t.1 (j+1)=ax):=bs;clear bs u E lb bo rt cM;generalize (k.fK t.1 j).s.rs.getD j 0=x at br ar cj;generalize k.fK t.1 j=ck at ar v B;have j0:(0:Int)<=(j:Int):=V;have du:(j:Int)<12:=V;go_wp2_with fail
   go_region_held3 (fun w'=>w'.cell? (am w.heap.size 0)=some (aj c.pk)/\w'.cell? (am c.pk 0)=some (aj k.a.pw)/\w'.cell? (am k.a.pw 3)=some (.slice (ak k.a.nb) 12 12)) (go_keep)
    (first
      |(go_at_call 123;refine br.mono ?_;clear br;rintro e g ⟨rfl,cl⟩;have aB:Below wr.heap.size wr g:=((aD _ wr).drew).trans (cl.mono Z);have I:=(de c k t.1 vt cr).below v.o.2.2 aB;obtain⟨y1,_,_,_,_⟩:=hL I;obtain⟨cP,cm⟩:=t7 I;obtain⟨cQ,cR⟩:=cm j bp;have bt:=(aB.cell (p:=am w.heap.size 0) v.o.2.1).trans L;have i:av ((de c k t.1 vt cr).J ai ck g/\Below wr.heap.size wr g):=⟨I,aB⟩;clear cl aB I cm))
   have A:av (∃H,(dd (de c k t.1 vt cr) w.heap.size (dl c)).J H ax (g.setCell ⟨k.a.nb,j,none⟩ (.int .i64 (k.nw t.1 x)))/\b_ (fun b=>C b\/b=w.heap.size) (w.alloc (dl c)) H (g.setCell ⟨k.a.nb,j,none⟩ (.int .i64 (k.nw t.1 x)))):=by
    obtain⟨H,cT,cV⟩:=Gv i.o.1 j (k.nw t.1 x)
    obtain⟨dG,bx⟩:=ci.o H _ _ cT ((b_.of i.o.2).trans cV)
    exact⟨_,by rw[ar.o];exact dG,B.o.2.trans bx⟩
   clear i ci v B bt y1 cP cQ cR L ag c0 c3 cj cN;go_wp2_with fail;go_roundw
   case rel=>
    obtain⟨H,dG,bx⟩:=A.o;exact⟨j+1,H,V,af,by rw[cO.o];exact⟨dG,bx⟩⟩
   case measure=>simp[intOf];omega
  ·obtain rfl:j=12:=V;clear bp rt bo;have bY:av (k.T.length<=4000/\∀a∈k.T,0<=a/\a<=2000):=⟨bi.o.tl,bi.o.ps⟩
   have hd:=(ao wr).drew;have cn:Calls prog 108 #[aj c.pk] wr.drew fun e w'=>∃a f,e=.returned (.slice a k.T.length f)/\w'.ownsRow wr.drew.heap.size 3 1 (.slice a k.T.length f) k.T.length (k.T.map (Value.int .i64))/\Below wr.drew.heap.size wr.drew w':=by
    have e:(k.fK t.1 12).T=k.T:=by unfold b8.T;rw[u.2.2.1,u.2.2.2]
    have P:=zb (c:=c) (k:=k.fK t.1 12) (F:=ai) (s:=t.1) (w:=wr.drew) ⟨vt,cr,(cS c _ vt cr).below u.1 hd⟩ (by rw[e];exact bY.o.1)
    rw[e] at P;exact P
   have v:av (w.heap.size<wr.heap.size/\(dd (de c k t.1 vt cr) w.heap.size (dl c)).J G (k.fK t.1 12) wr.drew/\b_ (fun b=>C b\/b=w.heap.size) (w.alloc (dl c)) G wr.drew/\∀b,G b->b<wr.drew.heap.size):=⟨lb,(dd (de c k t.1 vt cr) w.heap.size (dl c)).below B.o.1 hd,B.o.2.below hd,fun b D=>by have:=(dd (de c k t.1 vt cr) w.heap.size (dl c)).lt B.o.1 b D;simpa using this⟩
   have aF:av (k.eW t.1=(k.fK t.1 12).nR t.1 k.T):=rfl;obtain⟨d,b0⟩:∃d,k.eW t.1=d:=⟨_,rfl⟩
   rw[b0] at aF;have cW:av (k.eW t.1=d):=b0;clear b0;generalize k.fK t.1 12=ck at aF v B u;clear u E lb hd B ag c0 c3;go_wp2_with fail
   go_region_held3 (fun w'=>w'.cell? (am w.heap.size 0)=some (aj c.pk)) (go_keep)
    (first
      |(go_at_call 108;refine cn.mono ?_;clear cn;rintro e w3 ⟨cX,cY,rfl,co,b2⟩;have bt:w3.cell? (am w.heap.size 0)=some (aj c.pk):=(b2.cell (p:=am w.heap.size 0) (by have:=v.o.1;simpa using this)).trans L;have aR:av (w3.ownsRow wr.drew.heap.size 3 1 (.slice cX k.T.length cY) k.T.length (k.T.map (Value.int .i64))/\Below wr.drew.heap.size wr.drew w3):=⟨co,b2⟩;clear co b2)
      |(go_at_call 124;refine(Gw ((dd (de c k t.1 vt cr) w.heap.size (dl c)).below v.o.2.1 aR.o.2) bY.o.1 bY.o.2 aR.o.1 v.o.2.2.2).mono ?_;rintro e g ⟨aT,rfl,b3,cp⟩;obtain⟨cq,M,q,_,_⟩:=gw b3;have cs:g.cell? (am w.heap.size 0)=some (aj c.pk):=ay q;clear M q;have cu:av ((dd (de c k t.1 vt cr) w.heap.size (dl c)).J aT d g/\b_ (fun b=>C b\/b=w.heap.size) (w.alloc (dl c)) aT g):=⟨(by rw[aF.o];exact b3),(v.o.2.2.1.below aR.o.2).trans cp⟩;clear b3 cp))
   all_goals
    have aV:av (∃n,(c9 (dN c d) c.bs vr).J n (t.1,t.2) g/\¬n w.heap.size/\g.heap[w.heap.size]?=some (dl c)/\Fr F w g/\(∀b,n b->F b\/w.heap.size<=b))/\d.a=k.a:=by
     obtain⟨cq,M,q,cZ,c2⟩:=cu.o.1;have cw:=cu.o.2;have c4:b_ C w aT g:=⟨(Fr.of (X:=C) (an w (dl c))).trans cw.fr (fun b f=>f.imp id (fun e=>by omega)),fun b D=>(cw.sub b D).elim (fun f=>f.imp id (fun e=>by omega)) (fun f=>aI (by simp at f;omega))⟩
     obtain⟨n,hM,cx⟩:=ch (dd (dN c d) w.heap.size (dl c)) aT t.1 g ⟨cq,⟨⟨vt,cr,M.1⟩,bi.o.of M.2.2.1 M.2.2.2⟩,q,cZ,c2⟩ c4;obtain⟨g1,g2,g3⟩:=qH hM;exact⟨⟨_,g1,fun f=>f.2 rfl,g2,cx.fr,fun b f=>cx.sub b f.1⟩,M.2.1⟩
    obtain⟨aV,c5⟩:=aV;obtain⟨n,hM,cy,b4,a0,b5⟩:=aV.o;have cz:g.ownsRow 0 83 2 vr r.length (ev r):=cv bg (fun b e=>a0.block b (ce bg b e).2 (cJ b e))
    have cA:g.heap[k.a.sd]?=some (.cells #[v1,v2] 128 (0,0)):=(a0.block _ (lt_of_some hs) cc).trans hs;have cB:∀b,n b->b<g.heap.size:=(c9 (dN c d) c.bs vr).lt hM;obtain⟨_,⟨⟨dv,dw,I⟩,_⟩,_⟩:=iT hM;obtain⟨_,_,_,_,b6,_⟩:=ey I;have cC:=aK g _ b6;have cD:=lt_of_some b4;have N:¬n k.a.sd/\k.a.sd<w.heap.size:=⟨fun f=>(b5 _ f).elim cc (fun f=>by have:=lt_of_some hs;omega),lt_of_some hs⟩
    have i:av ((c9 (dN c d) c.bs vr).J n (t.1,t.2) g/\g.ownsRow 0 83 2 vr r.length (ev r)/\g.heap[k.a.sd]?=some (.cells #[v1,v2] 128 (0,0))/\(∀b,n b->b<g.heap.size)/\¬n w.heap.size/\w.heap.size<g.heap.size/\(¬n k.a.sd/\k.a.sd<w.heap.size)/\c.pk<g.heap.size/\g.heap[w.heap.size]?=some (dl c)):=⟨hM,cz,cA,cB,cy,cD,N,cC,b4⟩
    have a2:av (Fr F w g/\∀b,n b->F b\/w.heap.size<=b):=⟨a0,b5⟩
    have c6:av (∀m,Below g.heap.size g m->m.heap[g.heap.size]?=some (dl c)->m.heap[g.heap.size+1]?=some (jj (j6 c))->Calls prog 53 #[aj c.bs,.agg #[(iK g.heap.size).v,(hI (g.heap.size+1)).v,(i4 c).v]] m fun e w'=>∃a1 c1 o,e=.returned (.tuple #[])/\(c9 (dN c d) c.bs (.slice a1 (d.tR t r).length c1)).J o ((d.tS t r).1,d.hP t r) w'/\w'.ownsRow 0 83 2 (.slice a1 (d.tR t r).length c1) (d.tR t r).length (ev (d.tR t r))/\(∀b,some b=(Value.slice a1 (d.tR t r).length c1).ownBlock->¬o b/\m.heap.size<=b)/\Fr (fun b=>n b\/b=g.heap.size+1\/b=g.heap.size) m w'/\(∀b,o b->n b\/m.heap.size<=b)):=fun m R a3 bb=>
     Gx cI ((c9 (dN c d) c.bs vr).below i.o.1 R) (cv i.o.2.1 (fun b e=>R.block b (ce i.o.2.1 b e).2)) hq g.heap.size (g.heap.size+1) V a3 bb (fun f=>by have:=i.o.2.2.2.1 _ f;omega) (fun f=>by have:=i.o.2.2.2.1 _ f;omega)
    clear bt L aR v aF hM cz cA cB cy cD N cC b4 a0 b5 I aV ch h0 bg hs h;go_wp2_with fail
    go_region_held3 (fun w'=>w'.cell? (am w.heap.size 0)=some (aj c.pk)/\w'.cell? (am c.pk 4)=some (aj c.bs)) (go_keep)
     (first
       |(go_at_call 54;refine(tP (j6 c) g.drew c.pk).mono ?_;rintro e m ⟨rfl,a3,bb,R⟩;have bd:Below g.heap.size g m:=((aD _ g).drew).trans (R.mono Z);have b7:=(bd.cell (p:=am c.pk 4) i.o.2.2.2.2.2.2.2.1).trans b6;have b9:=(bd.cell (p:=am w.heap.size 0) i.o.2.2.2.2.2.1).trans cs;have A:av (m.heap[g.heap.size]?=some (dl c)/\m.heap[g.heap.size+1]?=some (jj (j6 c))/\Below g.heap.size g m):=⟨a3,bb,bd⟩;clear a3 bb R bd)
       |(go_at_call 53;refine(c6.o m A.o.2.2 A.o.1 A.o.2.1).mono ?_;rintro e l ⟨a1,c1,O,rfl,q,S,Q,U,W⟩;obtain⟨_,⟨⟨c7,c8,ca⟩,_⟩,_⟩:=iT q;obtain⟨u0,_,_,_,da,_⟩:=ey ca;have db:l.cell? (am w.heap.size 0)=some (aj c.pk):=(by have cb:=A.o.2.2.block w.heap.size i.o.2.2.2.2.2.1;have dc:=U.block w.heap.size (by have:=A.o.2.2.size;have:=i.o.2.2.2.2.2.1;omega) (fun f=>by rcases f with f|f|f;(exact i.o.2.2.2.2.1 f);(have:=i.o.2.2.2.2.2.1;omega);(have:=i.o.2.2.2.2.2.1;omega));simp[World.cell?,dc,cb,i.o.2.2.2.2.2.2.2.2]);have be:av ((c9 (dN c d) c.bs (.slice a1 (d.tR t r).length c1)).J O ((d.tS t r).1,d.hP t r) l/\l.ownsRow 0 83 2 (.slice a1 (d.tR t r).length c1) (d.tR t r).length (ev (d.tR t r))/\(∀b,some b=(Value.slice a1 (d.tR t r).length c1).ownBlock->¬O b/\m.heap.size<=b)/\Fr (fun b=>n b\/b=g.heap.size+1\/b=g.heap.size) m l/\(∀b,O b->n b\/m.heap.size<=b)/\(cS c d c7 c8).J _ (d.tS t r).1 l):=⟨q,S,Q,U,W,ca⟩;clear q S Q U W ca))
    all_goals
     clear b7 b9 cs b6;have Y:av (l.heap[k.a.sd]?=some (.cells #[v1,v2] 128 (0,0))):=by have l1:=i.o.2.2.2.2.2.2.1;have l2:=i.o.2.2.2.2.2.1;have df:=A.o.2.2.size;exact((be.o.2.2.2.1.block k.a.sd V (fun f=>by rcases f with f|f|f;(exact l1.1 f);omega;omega)).trans (A.o.2.2.block k.a.sd V)).trans i.o.2.2.1
     obtain⟨_,cE,_⟩:=pi be.o.2.2.2.2.2;obtain⟨_,_,cF,_⟩:=jh cE;rw[c5] at cF u0;obtain⟨dx,J,K,_,ab,_⟩:=be.o.1;have dg:l.cell? (am c.bs 0)=some (.slice a1 (d.tR t r).length c1):=ay ab
     have b1:l.cell? (am c.bs 1)=some (.slice J (d.hP t r).length K):=ay ab
     have s0:l.cell? (am k.a.sd 0)=some v1:=ay Y.o
     have s1:l.cell? (am k.a.sd 1)=some v2:=ay Y.o
     have t0:l.frozen? (am k.a.sd 0)=false:=az Y.o
     have ap:l.frozen? (am k.a.sd 1)=false:=az Y.o
     have dh:av (∃o,(c9 (dN c d) c.bs (.slice a1 (d.tR t r).length c1)).J o ((d.tS t r).1,d.hP t r) ((l.setCell ⟨k.a.sd,0,none⟩ (.slice a1 (d.tR t r).length c1)).setCell ⟨k.a.sd,1,none⟩ (.slice J (d.hP t r).length K)).drew/\((l.setCell ⟨k.a.sd,0,none⟩ (.slice a1 (d.tR t r).length c1)).setCell ⟨k.a.sd,1,none⟩ (.slice J (d.hP t r).length K)).drew.ownsRow 0 83 2 (.slice a1 (d.tR t r).length c1) (d.tR t r).length (ev (d.tR t r))/\(∀b,some b=(Value.slice a1 (d.tR t r).length c1).ownBlock->¬o b/\w.heap.size<=b)/\((l.setCell ⟨k.a.sd,0,none⟩ (.slice a1 (d.tR t r).length c1)).setCell ⟨k.a.sd,1,none⟩ (.slice J (d.hP t r).length K)).drew.heap[k.a.sd]?=((l.setCell ⟨k.a.sd,0,none⟩ (.slice a1 (d.tR t r).length c1)).setCell ⟨k.a.sd,1,none⟩ (.slice J (d.hP t r).length K)).drew.heap[c.bs]?/\¬o k.a.sd/\Fr (fun b=>F b\/b=k.a.sd) w ((l.setCell ⟨k.a.sd,0,none⟩ (.slice a1 (d.tR t r).length c1)).setCell ⟨k.a.sd,1,none⟩ (.slice J (d.hP t r).length K)).drew/\(∀b,o b->F b\/w.heap.size<=b)):=by
      have l1:=i.o.2.2.2.2.2.2.1;have l2:=i.o.2.2.2.2.2.1;have df:=A.o.2.2.size;obtain⟨q,S,Q,U,W,_⟩:=be.o;have N:¬O k.a.sd:=fun f=>(W _ f).elim l1.1 (fun f=>by omega)
      have ad:Fr (fun b=>b=k.a.sd) l ((l.setCell ⟨k.a.sd,0,none⟩ (.slice a1 (d.tR t r).length c1)).setCell ⟨k.a.sd,1,none⟩ (.slice J (d.hP t r).length K)).drew:=(((Fr.refl (fun b=>b=k.a.sd) l).set k.a.sd 0 _ rfl).set k.a.sd 1 _ rfl).drew;have di:O c.bs:=by obtain⟨_,_,_,_,_,_,_,cb,_⟩:=q;exact cb
      have dj:Fr F w l:=(a2.o.1.trans (Fr.of (X:=F) A.o.2.2) (fun b f=>aJ f)).trans U (fun b f=>by
       have:=a2.o.1.size;rcases f with f|f|f
       ·exact a2.o.2 b f
       ·exact aI V
       ·exact aI V)
      refine⟨O,(c9 (dN c d) c.bs _).keep q ad.size (fun b D=>ad.block b ((c9 (dN c d) c.bs _).lt q b D) (fun e=>N (by rw[<-e];exact D))),cv S (fun b e=>ad.block b (ce S b e).2 (fun dy=>by have:=(Q b e).2;omega)),fun b e=>⟨(Q b e).1,by have:=(Q b e).2;omega⟩,?_,N,(dj.mono (fun b f=>aJ f)).trans ad (fun b e=>aJ (aI e)),fun b D=>(W b D).elim (a2.o.2 b) (fun f=>aI V)⟩
      rw[ad.block c.bs (lt_of_some ab) (fun e=>N (by rw[<-e];exact di)),ab];show((l.setCell _ _).setCell _ _).heap[k.a.sd]?=_;simp only [World.setCell,Array.getElem?_modify,if_true,Y.o,Option.map_some];simp
     clear cE ab;go_wp2_with fail
     go_region
     clear dg b1 s0 s1 t0 ap cF u0 da db;obtain⟨o,dk,dm,dn,b7,b9,dp,dq⟩:=dh.o;go_end0;rw[cW.o];exact⟨a1,c1,o,rfl,dk,dm,dn,b7,b9,dp,dq⟩
end
def b8.k_ (k:b8)(t f n:Nat):b8:=k.ar k.s.y k.s.g (splice k.s.ws t ((k.s.ws.drop f).take n))
def b8.cop (k:b8)(a:Int):b8:=k.ar k.s.y (ju k.a.N k.a.O k.s.y k.s.g k.s.ws a) (jv k.a.N k.a.O k.s.y k.s.g k.s.ws a)
section
variable {c:e4}{k0 k:b8}{vt cr vr:Value}{F:Nat->Prop}{s:ct}{w:au}{bp fU:Nat}
theorem Gz (h:(de c k0 s vt cr).J F k w)(t f n:Nat)(d:t+n<=k0.a.N+k0.a.O)(h2:f+n<=k0.a.N+k0.a.O):Calls prog 129 #[aj k0.a.p,ah t,ah f,ah n] w fun e w'=>∃b,e=.returned (.tuple #[])/\(de c k0 s vt cr).J b (k.k_ t f n) w'/\b_ F w b w':=by obtain⟨h,ea,t1,t4⟩:=h;obtain⟨g,hU⟩:=nQ h;rw[<-ea];refine(vY t f n w g (by rw[ea];exact d) (by rw[ea];exact h2)).mono ?_;exact tZ
theorem GA (h:(de c k0 s vt cr).J F k w)(a:Int):Calls prog 132 #[aj k0.a.p,ah a] w fun e w'=>∃b v,e=.returned (ah v)/\(de c k0 s vt cr).J b (k.cop a) w'/\b_ F w b w':=by
 obtain⟨h,ea,d,f⟩:=h;obtain⟨g,i⟩:=nQ h;rw[<-ea];refine(wy a w g).mono ?_;rintro e j ⟨rfl,l,m⟩
 obtain⟨n,o,p⟩:=i j _ _ _ l m;exact⟨n,_,rfl,⟨o,ea,d,f⟩,p⟩
theorem GB {u:Int}(h:(gU (dd (de c k0 s vt cr) bp (dl c)) fU).J F (k,u) w)(a:Int)(m:Nat)(ha:a∈k0.T)(hp:0<=a/\a<=2000)(p:0<=s.f a)(v:s.f a+m<=k0.a.N+k0.a.O)(x:a+m<=k0.a.N+k0.a.O)(al:0<=u/\u<=100000)(hm:m<=13):
 Calls prog 128 #[ah a,ah m,aj bp,aj fU] w fun e w'=>∃j,e=.returned (.tuple #[])/\(gU (dd (de c k0 s vt cr) bp (dl c)) fU).J j (k.k_ (s.f a).toNat a.toNat m,u+m) w'/\b_ F w j w':=by
 have l:=iZ hp.1 V;obtain⟨ap,g1,_,_,A⟩:=k9 h;obtain⟨g,g2,B,lb,C⟩:=gw g1;have E:w.cell? (am bp 0)=some (aj c.pk):=ay B
 obtain⟨G,H,c0,_,_⟩:=hL g2;have gd:=(de c k0 s vt cr).below g2 (aD _ w).drew;obtain⟨_,_,_,⟨D,o1,ar,I⟩,_⟩:=hL gd;obtain⟨z,i,J,ax⟩:=o1.lookup_int (t:=108) (e:=3) (q:=.i64) iA underlying108 underlying3 (lE _) l;obtain rfl:z=s.f a:=by have:=J.symm.trans (I a ha);simpa using this
 obtain⟨tn,K⟩:=Int.eq_ofNat_of_zero_le p;obtain⟨L,M⟩:=Int.eq_ofNat_of_zero_le hp.1;rw[K] at i v⊢;rw[M] at i x l⊢;have P:=Gz gd tn L m V V;rw[Int.toNat_natCast,Int.toNat_natCast];have N:av (∀b d w1,(de c k0 s vt cr).J b d w1->b_ g w b w1->∃f,(gU (dd (de c k0 s vt cr) bp (dl c)) fU).J f (d,u) w1/\b_ F w f w1):=fun b d w1 O t=>by obtain⟨j2,Q⟩:=C b d w1 O t;obtain⟨cy,t3⟩:=A _ d w1 j2 Q;exact⟨_,cy,t3⟩
 have R:av (b_ g w g w.drew):=b_.of (aD _ w).drew;go_enter func128,ntmps128;go_wp2_with fail
 go_region_held3 (fun w'=>w'.cell? (am bp 0)=some (aj c.pk)/\w'.cell? (am c.pk 0)=some (aj k0.a.pw)/\w'.cell? (am c.pk 3)=some (.map (some c.co))/\w'.cell? (am k0.a.pw 0)=some (aj k0.a.p)) (go_keep)
  (first
    |(go_at_call 129;refine P.mono ?_;rintro e w3 ⟨b,rfl,cy,t3⟩;obtain⟨S,U,W,_,_⟩:=hL cy;have X:=N.o b _ w3 cy (R.o.trans t3);obtain⟨f,cz,n⟩:=X;have Y:=(nP cz).1;have aB:=(nP cz).2;dsimp only at Y;have ab:w3.cell? (am bp 0)=some (aj c.pk):=(by obtain⟨_,ad,_⟩:=k9 cz;obtain⟨_,_,ag,_⟩:=gw ad;simp[World.cell?,ag]);have o:av (_/\_):=⟨cz,n⟩;clear cy t3 cz n))
 all_goals
  clear E G H c0 S U W ab i;go_wp2_with fail;go_end0;obtain⟨dG,ai⟩:=zd o.o.1 (u+m)
  exact⟨f,rfl,dG,o.o.2.trans ai⟩
theorem GC (h:(dd (de c k0 s vt cr) bp (dl c)).J F k w)(a m:Int):
 Calls prog 131 #[ah a,ah m,aj bp] w fun e w'=>∃b,e=.returned (.tuple #[])/\(dd (de c k0 s vt cr) bp (dl c)).J b (k.cop a) w'/\b_ F w b w':=by
 obtain⟨n,g2,f,lb,g⟩:=gw h;have o:w.cell? (am bp 0)=some (aj c.pk):=ay f
 obtain⟨p,q,c0,_,_⟩:=hL g2;go_enter func131,ntmps131;go_wp2_with fail;refine(GA g2 a).mono ?_;rintro e w1 ⟨i,v,rfl,j,l⟩
 have d:=hide ((hide g).o i _ w1 j l)
 go_wp2;go_end0;exact⟨_,rfl,d.o.1,d.o.2⟩
end
section
variable {N y g:Nat}{ws:List Int}{hi:Int}
theorem qK:∀(k:Nat)(a:Int),(eA N y g ws hi k a).Nodup
 |0,a=>by exact List.nodup_nil
 |k+1,a=>by
  unfold eA;split
  ·split
   ·rw[List.nodup_cons];refine⟨fun h=>?_,qK k _⟩
    have b:=(mo k _ _ h).1;have c:=di (ld N y g ws a)
    omega
   ·exact List.nodup_nil
  ·exact List.nodup_nil
theorem zi:∀(k:Nat)(a x:Int),x∈eA N y g ws hi k a->pc (ld N y g ws x)=0
 |0,a,x,h=>by simp[eA] at h
 |k+1,a,x,h=>by
  unfold eA at h;split at h
  ·split at h
   ·rcases List.mem_cons.1 h with h|h
    ·rw[h];assumption
    ·exact zi k _ x h
   ·simp at h
  ·simp at h
theorem zj:∀(k:Nat)(a:Int),(((eA N y g ws y k a).filter (fun a=>decide (a+pf (ld N y g ws a)<y))).map (fun a=>1+(pf (ld N y g ws a)).toNat)).sum<=((y:Int)-a).toNat
 |0,a=>by simp[eA]
 |k+1,a=>by
  unfold eA;split
  ·split
   ·have b:=zj k (a+(1+pf (ld N y g ws a)))
    have d:=di (ld N y g ws a)
    by_cases c:a+pf (ld N y g ws a)<y
    ·rw[List.filter_cons_of_pos (by simpa using c)];simp only [List.map_cons,List.sum_cons];omega
    ·rw[List.filter_cons_of_neg (by simpa using c)];omega
   ·simp
  ·simp
end
def ec.k0 (a:Wc)(s:ec):ca:=⟨a.N,a.O,s.y,mQ a.N s.y s.g s.ws⟩
def ec.s0 (a:Wc)(s:ec):ch:=⟨s.g,s.ws,fun _=>-1,(a.N:Int)+s.g,[],[],s.rs⟩
theorem CI.start {a:Wc}{s:ec}(hN:16<=a.N)(hN':a.N<=256)(hO:a.O<=1024)(hy:s.y<=a.N)(hg:s.g<=a.O)(hl:s.ws.length=a.N+a.O)(i:s.y<=a.O-s.g):CI (s.k0 a) (s.s0 a):=by
 have d:∀x∈mQ a.N s.y s.g s.ws,x∈dS a.N s.y s.g s.ws/\x+pf (ld a.N s.y s.g s.ws x)<s.y:=fun x b=>by simpa[mQ] using b
 refine⟨hN,hN',hO,hy,hg,hl,fun x b=>?_,(qK 2000 0).filter _,?_,?_,?_,by simp[ec.s0],by simp[ec.s0],?_⟩
 ·obtain⟨c,j⟩:=d x b;exact⟨(mz x c).1,zi _ _ _ c,by show x+1+pf (ld a.N s.y s.g s.ws x)<=s.y;omega⟩
 ·have c:=zj (N:=a.N) (y:=s.y) (g:=s.g) (ws:=s.ws) 2000 0;have e:(s.k0 a).sz (s.s0 a)=(((eA a.N s.y s.g s.ws s.y 2000 0).filter (fun x=>decide (x+pf (ld a.N s.y s.g s.ws x)<s.y))).map (fun x=>1+(pf (ld a.N s.y s.g s.ws x)).toNat)).sum:=by
   unfold ca.sz;have f:(s.k0 a).T.filter (fun x=>(s.s0 a).f x==-1)=(s.k0 a).T:=List.filter_eq_self.2 (fun _ _=>rfl)
   rw[f];rfl
  show _<=a.O-s.g;omega
 ·show(a.N:Int)<=(a.N:Int)+s.g;omega
 ·show(a.N:Int)+s.g<=(a.N:Int)+a.O+13;omega
 ·exact aP (bk _ _) (iz _ _)
def ec.s1 (a:Wc)(s:ec):ch:=(s.k0 a).cJ (s.s0 a) 12
def ec.s2 (a:Wc)(s:ec):ch:=(s.k0 a).lm (dU a.O) s.M (s.s1 a) (dw a.N s.y (s.s1 a).g (s.s1 a).ws)
def ck.t3 (a:Wc)(S:ck):ch×List bZ:=(S.s.k0 a).sp (S.s.s2 a,S.q)
def ck.s4 (a:Wc)(S:ck):ch:=((S.s.k0 a).eO (S.t3 a) S.r).1
def ck.s5 (a:Wc)(S:ck):ch:=(S.s.k0 a).mw (S.s4 a) (S.s4 a).wk
def ck.s6 (a:Wc)(S:ck):ch:=(S.s.k0 a).be (S.s5 a) (S.s5 a).ep
def ck.full (a:Wc)(S:ck):Bool:=decide (a.O-S.s.g<S.s.y)
def ck.cut (a:Wc)(S:ck):ck:=if S.full a=true then S else⟨⟨0,(S.s6 a).g,(S.s6 a).ws,[],(S.s6 a).rs⟩,(S.s.k0 a).sR (S.t3 a) S.r,(S.s.k0 a).i5 (S.t3 a) S.r⟩
def ck.code (a:Wc)(S:ck):Int:=if S.full a=true then 3 else 0
section
variable {c:gb}{k:ca}{F:Nat->Prop}{s:ch}{w:au}
theorem GD (h:(d_ c k).J F s w)(Q:CI k s)(hl:s.wk.length<=10000):
 Calls prog 87 #[aj c.pk] w fun e w'=>e=.returned (.tuple #[])/\(d_ c k).J F (k.mw s s.wk) w'/\b_ F w F w':=by
 obtain⟨cA,b,h⟩:=h;obtain⟨c0,_,_,c4,_,c5,_,_,_,ax,er,_,_,lk,_⟩:=eb h;obtain⟨aB,d,rfl⟩:=dQ er;have aF:av (CI k s):=Q;have aR:av (∀a∈s.wk,(k.N:Int)<=a/\a<=2000):=Q.ij;have bb:(0:Int)<=k.N:=V;clear Q ax;go_enter func87,ntmps87;go_wp2_with fail
 go_loopw [10] (fun iv wr=>∃(j:Nat)(s1:ch),j<=s.wk.length/\iv=ah j/\av (k.mw s (s.wk.take j)=s1)/\(cutV c k (.slice aB s.wk.length d) b).J F s1 wr/\b_ F w F wr/\av (CI k s1/\eB k s s1)) (fun iv _=>s.wk.length-(intOf iv).toNat)
 case atStart=>exact⟨0,s,aS _,rfl,rfl,h,b_.refl _ _,⟨aF.o,eB.refl _ _⟩⟩
 case round=>
  obtain⟨j,s1,bd,rfl,R,C,S,U⟩:=hrel;obtain⟨v,_,_,aT,_,A,_,_,_,aV,W,_,_,be,_⟩:=eb C;have a0:=U.o.2.wk;rw[a0] at W;by_cases M:j<s.wk.length
  ·obtain⟨f,g,a1,bg,hc⟩:=gO W V;have X:=hc j M;subst a1;have ai:s.wk.getD j 0∈s.wk:=by rw[aC,aG M];exact a6 M
   have al:=aR.o _ ai;have D:av (k.mw s (s.wk.take (j+1))=k.eF s1 (s.wk.getD j 0)):=by
    show _=_;rw[fz s.wk j M 0];unfold ca.mw;rw[List.foldl_append];have:=R.o;unfold ca.mw at this
    rw[this];rfl
   generalize s.wk.getD j 0=a at X al D;have N:av (CI k (k.eF s1 a)/\eB k s (k.eF s1 a)):=by obtain⟨a2,a3⟩:=U.o.1.eF al.1;exact⟨a2,U.o.2.trans a3⟩
   have bi:IntKind.i64.wrap (a+1)=a+1:=by rw[bu];omega
   obtain⟨ap,_⟩:=iD C;have L:=jr (a+1) wr ap;have ar:ld k.N k.y s1.g s1.ws (a+1)=k.ld s1 (a+1):=rfl;rw[ar] at L;have n:av ((cutV c k (.slice (some ⟨f,g,none⟩) s.wk.length d) b).J F s1 wr/\b_ F w F wr):=⟨C,S⟩
   clear hc ai C S ap ar aV W aT;cases hls:k.ls s1 (k.ld s1 (a+1))
   ·have B:av (k.eF s1 a=k.st s1 (a+1) (k.nw s1 (k.ld s1 (a+1)))):=by show _=_;unfold ca.eF;rw[hls];rfl
    generalize k.eF s1 a=E at D N B;generalize k.ld s1 (a+1)=x at L hls B;go_wp2_with fail;refine L.mono ?_;clear L;rintro e w1 ⟨rfl,l⟩
    have P:=nN ((cutV c k (.slice (some ⟨f,g,none⟩) s.wk.length d) b).below n.o.1 l) x;rw[hls] at P;clear X v A;go_wp2_with fail;refine P.mono ?_;clear P;rintro e o ⟨rfl,G⟩
    have p:=l.trans (G.mono l.size)
    have q:=(cutV c k (.slice (some ⟨f,g,none⟩) s.wk.length d) b).below n.o.1 p;obtain⟨v,_,_,_,_,A,_⟩:=eb q;have O:av ((cutV c k (.slice (some ⟨f,g,none⟩) s.wk.length d) b).J F s1 o.drew/\b_ F w F o.drew):=⟨(cutV c k (.slice (some ⟨f,g,none⟩) s.wk.length d) b).below q (aD _ o).drew,(n.o.2.below p).below (aD _ o).drew⟩
    clear l G q p n;go_wp2_with fail
    go_region_held3 (fun w'=>w'.cell? (am c.pk 0)=some (aj c.pw)/\w'.cell? (am c.pw 0)=some (aj c.p)) (go_keep)
     (first
       |(go_at_call 157;refine(qz O.o.1 x).mono ?_;rintro e w3 ⟨rfl,Y⟩;have ab:=(cutV c k (.slice (some ⟨f,g,none⟩) s.wk.length d) b).below O.o.1 Y;obtain⟨g0,_,_,_,_,g5,_⟩:=eb ab;obtain⟨i,H⟩:=iD ab;have m:av (_/\_/\_):=⟨i,H,O.o.2.below Y⟩;clear Y ab i H O)
       |(go_at_call 68;refine(kk (a+1) (k.nw s1 x) w3 m.o.1).mono ?_;rintro e t ⟨rfl,i,I⟩;obtain⟨u,J⟩:=m.o.2.1 t _ _ i I;obtain⟨r0,_,_,_,_,ad,_⟩:=eb u;have K:av ((cutV c k (.slice (some ⟨f,g,none⟩) s.wk.length d) b).J F E t/\b_ F w F t):=⟨(by rw[B.o];exact u),m.o.2.2.trans J⟩;clear i I u J m))
    clear g0 g5 r0 ad v A;go_wp2_with fail;go_roundw
    case rel=>exact⟨j+1,E,V,af,D,K.o.1,K.o.2,N⟩
    case measure=>simp[intOf];omega
   ·have B:av (k.eF s1 a=k.st s1 (a+1) 3):=by show _=_;unfold ca.eF;rw[aH hls]
    generalize k.eF s1 a=E at D N B;generalize k.ld s1 (a+1)=x at L hls;go_wp2_with fail;refine L.mono ?_;clear L;rintro e w1 ⟨rfl,l⟩
    have P:=nN ((cutV c k (.slice (some ⟨f,g,none⟩) s.wk.length d) b).below n.o.1 l) x;rw[hls] at P;clear X v A;go_wp2_with fail;refine P.mono ?_;clear P;rintro e o ⟨rfl,G⟩
    have p:=l.trans (G.mono l.size)
    have q:=(cutV c k (.slice (some ⟨f,g,none⟩) s.wk.length d) b).below n.o.1 p;obtain⟨v,_,_,_,_,A,_⟩:=eb q;obtain⟨i,H⟩:=iD ((cutV c k (.slice (some ⟨f,g,none⟩) s.wk.length d) b).below q (aD _ o).drew)
    have m:av (_/\_/\_):=⟨i,H,(n.o.2.below p).below (aD _ o).drew⟩
    clear l G q p n i H;go_wp2_with fail
    go_region_held3 (fun w'=>w'.cell? (am c.pk 0)=some (aj c.pw)/\w'.cell? (am c.pw 0)=some (aj c.p)) (go_keep)
     (first
       |(go_at_call 158;refine(m_ _).mono ?_;rintro e bl ⟨rfl,ag⟩;have ag:=ag.symm;subst ag)
       |(go_at_call 68;refine(kk (a+1) 3 o.drew m.o.1).mono ?_;rintro e t ⟨rfl,i,I⟩;obtain⟨u,J⟩:=m.o.2.1 t _ _ i I;obtain⟨r0,_,_,_,_,ad,_⟩:=eb u;have K:av ((cutV c k (.slice (some ⟨f,g,none⟩) s.wk.length d) b).J F E t/\b_ F w F t):=⟨(by rw[B.o];exact u),m.o.2.2.trans J⟩;clear i I u J m))
    clear r0 ad v A;go_wp2_with fail;go_roundw
    case rel=>exact⟨j+1,E,V,af,D,K.o.1,K.o.2,N⟩
    case measure=>simp[intOf];omega
  ·obtain rfl:j=s.wk.length:=V;rw[a_] at R;go_wp2_with fail;go_end0;rw[R.o];exact⟨rfl,⟨_,_,C⟩,S⟩
theorem GE {cA d:Value}(h:(cutV c k cA d).J F s w):c.nb≠c.pk/\c.nb≠c.pw:=by
 obtain⟨own,h,f⟩:=h;refine⟨fun e=>?_,fun e=>?_⟩
 ·have b:=h.r1;rw[e,h.k1] at b;omega
 ·have b:=h.r1;rw[e,h.w1] at b;omega
theorem GF (h:(d_ c k).J F s w)(p:CI k s):
 Calls prog 82 #[aj c.pk] w fun e w'=>e=.returned (.tuple #[])/\(d_ c k).J F (k.cJ s 12) w'/\b_ F w F w':=by
 obtain⟨cA,d,h⟩:=h;obtain⟨c0,_,_,_,_,_,_,_,N,_⟩:=eb h;have E:av (CI k s):=p;clear p;go_enter func82,ntmps82;go_wp2_with fail
 go_loopw [12] (fun iv wr=>∃(j:Nat),j<=12/\iv=ah j/\(cutV c k cA d).J F (k.cJ s j) wr/\b_ F w F wr) (fun iv _=>12-(intOf iv).toNat)
 case atStart=>exact⟨0,aS _,rfl,h,b_.refl _ _⟩
 case round=>
  obtain⟨j,O,rfl,b,i⟩:=hrel;by_cases q:j<12
  ·obtain⟨G,_,_,_,_,_,_,_,H,_⟩:=eb b;obtain⟨P,Q,t⟩:=yC b;obtain⟨u,I⟩:=t j q;obtain⟨n1,R⟩:=GE b;have l:av (k.cJ s (j+1)={(k.br (k.cJ s j) ((k.cJ s j).rs.getD j 0)).2 with rs:=(k.br (k.cJ s j) ((k.cJ s j).rs.getD j 0)).2.rs.set j (k.br (k.cJ s j) ((k.cJ s j).rs.getD j 0)).1}):=rfl;have J:av (CI k (k.cJ s j)):=(E.o.cJ j).1;have m:av ((cutV c k cA d).J F (k.cJ s j) wr.drew/\b_ F w F wr.drew):=⟨(cutV c k cA d).below b (aD _ wr).drew,i.below (aD _ wr).drew⟩
   obtain⟨f,n⟩:∃f,f=k.cJ s (j+1):=⟨_,rfl⟩
   rw[<-n] at l;have K:av (f=k.cJ s (j+1)):=n;clear n;generalize (k.cJ s j).rs.getD j 0=x at u l;generalize k.cJ s j=s1 at*;have j0:(0:Int)<=(j:Int):=V;have S:(j:Int)<12:=V;clear t b i;go_wp2_with fail
   go_region_held3 (fun w'=>w'.cell? (am c.pk 0)=some (aj c.pw)/\w'.cell? (am c.pw 3)=some (.slice (ak c.nb) 12 12)) (go_keep)
    (first
      |(go_at_call 149;refine(qA m.o.1 J.o x).mono ?_;rintro e w3 ⟨rfl,g,v⟩;obtain⟨g0,_,_,_,_,_,_,_,L,_⟩:=eb g;obtain⟨_,U,A⟩:=yC g;obtain⟨y1,M⟩:=A j q;have o:av ((cutV c k cA d).J F (k.br s1 x).2 w3/\b_ F w F w3):=⟨g,m.o.2.trans v⟩;clear g v A m))
   obtain⟨B,C⟩:=Fg o.o.1 j (k.br s1 x).1;have D:av ((cutV c k cA d).J F f (w3.setCell ⟨c.nb,j,none⟩ (.int .i64 (k.br s1 x).1))/\b_ F w F (w3.setCell ⟨c.nb,j,none⟩ (.int .i64 (k.br s1 x).1))):=⟨by rw[l.o];exact B,o.o.2.trans C⟩
   clear B C o g0 L y1 M G H u I;go_wp2_with fail;go_roundw
   case rel=>exact⟨j+1,V,af,by rw[<-K.o];exact D.o.1,D.o.2⟩
   case measure=>simp[intOf];omega
  ·obtain rfl:j=12:=V;go_wp2_with fail;go_end0;exact⟨rfl,⟨_,_,b⟩,i⟩
end
end Go.Proofs.YtjpjpjemibgjpaaGreat
