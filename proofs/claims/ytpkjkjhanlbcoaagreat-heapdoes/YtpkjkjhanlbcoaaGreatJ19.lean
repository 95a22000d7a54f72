import Derived.Test.YtpkjkjhanlbcoaaGreatJ18
namespace Go.Proofs.YtpkjkjhanlbcoaaGreat
set_option maxRecDepth 100000
set_option maxHeartbeats 1000000
open Tryz
open Go.RowKit W Kp ch
theorem zi {P:Prop}(h:P:=by rw[hW0];exact hB1.trans ((((Fr.refl (fun k=>k=w.heap.size) w1).set w.heap.size 0 _ rfl).set w.heap.size 1 _ rfl).below (Nat.le_of_lt l1) (fun x e=>by have e:x=w.heap.size:=e;omega))):P:=h
theorem zj {P:Prop}(h:P:=by rw[hW0];exact a8 _ _ _ ((a5 w2 ⟨w.heap.size,0,none⟩ ⟨w.heap.size,1,none⟩ _ ac).trans y1)):P:=h
theorem zk {P:Prop}(h:P:=by have h1:(dW N y g ws).length<=2000:=iD _ _;have h2:(dB N y g ws).length<=2000:=iD _ _;simp;omega):P:=h
theorem zl {P:Prop}(h:P:=by rw[ee (hK hb.1 hb.2),ee (hK hb.1 hb.2),kR _ _ _ _ _ hlt,aH aa,aH aa]):P:=h
section
variable {w:aw}{pw p q N O y g:Nat}{ws:List Int}{sd:Nat}{v0:Value}{a1:Option Addr}{k1:Nat}{Q:List b9}{l:List Int}{ra:Option Addr}{rc:Nat}
def fj (N y g:Nat)(ws:List Int)(Q:List b9)(l:List Int):List (Int×Int)×cP:=
 dh (met (dW N y g ws++dB N y g ws) (fun a=>pk (ld N y g ws a)) (eS N y g ws Q) (dW N y g ws++dB N y g ws).length) (dW N y g ws++dB N y g ws) ([],[]) l
theorem GR (hq:lB w pw p q N O y g ws sd v0 a1 k1 Q)(c3:w.cell? (ao pw 3)=some (.slice ra l.length rc))(hl:Lq w ra l)(hm:l.length<=100000):
 Calls prog 25 #[am pw] w fun e w'=>∃ai a0 f al nc,e=.returned (.agg #[.slice ai l.length a0,.slice f al nc])/\c8 w' ai (fj N y g ws Q l).1/\Ln w' f (fj N y g ws Q l).2.2/\al=(fj N y g ws Q l).2.2.length/\Below w.heap.size w w':=by
 have j:=aq w (.cells #[.slice none 0 0,.slice none 0 0] 60)
 have ap:=aN w (.cells #[.slice none 0 0,.slice none 0 0] 60)
 have W:=hq.low j;have a3:=hl.kf (Kf.of (B:=0) j)
 have ar:=aM w _ c3;have ax:=(j.cell (p:=ao pw 3) ar).trans c3;have bb:=aO ar j.size;have bd:w.heap.size<(w.alloc (.cells #[.slice none 0 0,.slice none 0 0] 60)).heap.size:=ac;have P:=wC W.c0 W.ar;have b3:=hq.ar.hN';have b4:=hq.ar.hy;have b5:=hq.ar.hO;have b6:=hq.ar.hg;have be:∀a∈dW N y g ws++dB N y g ws,0<=a/\a<2000:=fun a ha=>by
  rcases List.mem_append.1 ha with ha|ha
  ·have:=mx a ha;omega
  ·have:=ou a ha;omega
 have bg:(dW N y g ws++dB N y g ws).length<=100000:=by exact zk
 have bi:ay (∀(o cr:Nat)(w1:aw),Wk (w.alloc (.cells #[.slice none 0 0,.slice none 0 0] 60)) w1 o cr pw (dW N y g ws++dB N y g ws) ([],[]) (.slice none 0 0) []->Calls prog 65 #[am o,.slice ra l.length rc] w1 fun e w'=>∃bl ab a2 c2,e=.returned (.slice a2 l.length c2)/\w'.ownsRow w1.heap.size 97 2 (.slice a2 l.length c2) l.length (ev (fj N y g ws Q l).1)/\Wk (w.alloc (.cells #[.slice none 0 0,.slice none 0 0] 60)) w' o cr pw (dW N y g ws++dB N y g ws) (fj N y g ws Q l).2 bl ab/\ff (w.alloc (.cells #[.slice none 0 0,.slice none 0 0] 60)) w1 [] w' ab/\(∀k,fF ab k->some k≠(Value.slice a2 l.length c2).ownBlock)):=
  fun o cr w1 h1=>sj (so W be bg _) (jb _) h1 (eU.start _) ac l ra rc (a3.kf (Kf.of (B:=0) h1.dx)) hm
 have bn:ay ((fj N y g ws Q l).1.length=l.length):=kc _ _ _ _;generalize fj N y g ws Q l=R at*;obtain⟨b7,s⟩:=R;generalize dW N y g ws++dB N y g ws=T at*;go_enter func25,ntmps25;go_wp2_with fail;refine P.mono ?_;rintro e w1 ⟨o,cr,rfl,h1⟩
 have bo:=(h1.dx.cell (p:=ao pw 3) bb).trans ax;have aB:=hide h1;go_wp2_with fail;refine(bi.o o cr w1 aB.o).mono ?_;rintro e w2 ⟨b8,m,a2,c2,rfl,S,d,bp,_⟩
 obtain⟨f,nc,br⟩:=dU d.row;subst br;have b9:=d.cells.2.2.1;have aF:=j.trans (d.dx.mono j.size)
 have n:=(d.dx.block _ bd).trans ap;have y0:w2.cell? (ao w.heap.size 0)=some (.slice none 0 0):=aA n
 have y1:w2.cell? (ao w.heap.size 1)=some (.slice none 0 0):=aA n
 have ca:w2.frozen? (ao w.heap.size 0)=false:=aC n
 have cb:w2.frozen? (ao w.heap.size 1)=false:=aC n
 have l2:=lt_of_some n;have bs:=dq d S;have bt:=hide d.len;have bx:=hide aF;have aR:=hide n;clear d S bp aF n j ap bo ax aB;go_wp2_with fail;obtain⟨t,hW0⟩:∃t,t=(w2.setCell ⟨w.heap.size,0,none⟩ (.slice a2 l.length c2)).setCell ⟨w.heap.size,1,none⟩ (.slice f m.length nc):=⟨_,rfl⟩
 rw[<-hW0];have g0:t.cell? (ao w.heap.size 0)=some (.slice a2 l.length c2):=by exact kS
 have g1:t.cell? (ao w.heap.size 1)=some (.slice f m.length nc):=by exact zj
 have u:Fr (fun k=>k=w.heap.size) w2 t:=by rw[hW0];exact((Fr.refl (fun k=>k=w.heap.size) w2).set w.heap.size 0 _ rfl).set w.heap.size 1 _ rfl
 obtain⟨d,S⟩:=bs.o;have aT:∀{ad:Option Addr}{L:List (Int×Int)},ge w2 ad L->c8 t ad L:=fun {ad L} h=>h.1.keep u.size (fun hp b e=>by
  obtain⟨b0,cc,cd,b1,hb⟩:=h.2 hp;rw[b1] at e;cases e;refine u.block _ (lt_of_some hb) (fun c=>?_)
  have c:b0=w.heap.size:=c;rw[c,aR.o] at hb;simp at hb)
 refine bz (v:=.agg #[.slice a2 l.length c2,.slice f m.length nc]) (by simp[results,results25,go_sem,g0,g1]) rfl ⟨a2,c2,f,m.length,nc,rfl,aT (ge.of (by rw[bn.o];exact S)),⟨m,d.nd,fun x ag=>aT (d.fl x ag),fun hp=>?_⟩,bt.o,bx.o.trans (u.below (Nat.le_of_lt l2) (fun k e=>Nat.le_of_eq (Eq.symm e)))⟩
 obtain⟨b,ce,e⟩:=d4 d.row hp;cases e;obtain⟨cf,F⟩:=d6 d.row b rfl;have aV:b≠w.heap.size:=fun c=>by rw[c,aR.o] at F;simp at F
 refine⟨b,0,rfl,aO (lt_of_some F) u.size,fun i x ag=>?_⟩
 obtain⟨n1,b2⟩:=na m i x ag;rw[Nat.zero_add];exact⟨(aW (a:=⟨b,i*2,none⟩) (u.block b (lt_of_some F) aV)).trans (fe d.row n1).1,(aW (a:=⟨b,i*2+1,none⟩) (u.block b (lt_of_some F) aV)).trans (fe d.row b2).1⟩
end
open Go.RowKit W
section
variable {N O y g:Nat}{ws:List Int}{Y G:List Int}
theorem mR {x i:Int}(h:dX N y g ws x i=0):tB N y g ws x=true/\pk (ld N y g ws (cj x))≠5/\0<=i/\i<ii N y g (cj x) (pf (ld N y g ws (cj x))):=by
 unfold dX at h;by_cases ht:tB N y g ws x=true
 ·rw[aJ ht] at h;by_cases b:pk (ld N y g ws (cj x))=5
  ·rw[aJ b] at h;omega
  ·rw[aH b] at h;by_cases hi:i<0\/ii N y g (cj x) (pf (ld N y g ws (cj x)))<=i
   ·rw[aJ hi] at h;omega
   ·exact⟨ht,b,aa,aa⟩
 ·rw[aH ht] at h;omega
theorem zm {x:Int}(h:d_ N y g ws Y G)(hN:N<=256)(hy:y<=N)(hO:O<=1024)(hg:g<=O)(ht:tB N y g ws x=true):c7 x=true/\(cj x∈Y\/cj x∈G):=by obtain⟨b,c⟩:=h.lists hN hy hO hg;unfold tB at ht;rw[b,c] at ht;simpa using ht
theorem d_.f7 (h:d_ N y g ws Y G)(hl:ws.length=N+O)(hN:N<=256)(hy:y<=N)(hO:O<=1024)(hg:g<=O)(x i z:Int):d_ N y g (Proofs.YtpkjkjhanlbcoaaGreat.f7 N y g ws x i z) Y G:=by
 unfold Proofs.YtpkjkjhanlbcoaaGreat.f7;by_cases h0:dX N y g ws x i=0
 ·rw[aJ h0];obtain⟨ht,_,d,b⟩:=mR h0;obtain⟨_,c⟩:=zm h hN hy hO hg ht;rw[h.stands hy c] at b;split
  ·exact(h.set hl hy hg c d b).1
  ·exact h
 ·rw[aH h0];exact h
theorem GS (x i z c:Int)(M:List Int):(stM N y g ws x i z c M).length<=M.length+1:=by
 unfold stM;split
 ·unfold kU;split
  ·exact B9 _ _
  ·omega
 ·omega
end
open Go.RowKit W oV
structure h7 (N y g:Nat)(ws Y G rs:List Int):Prop where
 full:d_ N y g ws Y G
 rt:∀x∈rs,c7 x=true->cj x∈Y\/cj x∈G
 fd:∀v,(v∈Y\/v∈G)->∀i,0<=i->i<pf (ld N y g ws v)->c7 (ld N y g ws (v+1+i))=true->cj (ld N y g ws (v+1+i))∈Y\/cj (ld N y g ws (v+1+i))∈G
section
variable {N O y g:Nat}{ws Y G rs:List Int}
theorem mS (n:Nat)(h:n<1000000):c7 (ew 3 n)=true/\cj (ew 3 n)=n:=by
 have b:=m4 3 n (l8 (n:Int) aa aa)
 exact⟨b.1,b.2 rfl⟩
theorem h7.root (h:h7 N y g ws Y G rs)(k:Nat)(x:Int)(b:c7 x=true->cj x∈Y\/cj x∈G):h7 N y g ws Y G (rs.set k x):=
 ⟨h.full,fun z hz=>by
  rcases List.mem_or_eq_of_mem_set hz with hz|hz
  ·exact h.rt z hz
  ·rw[hz];exact b,h.fd⟩
theorem h7.at (h:h7 N y g ws Y G rs)(k:Nat)(hk:k<rs.length)(ha:c7 (rs.getD k 0)=true):cj (rs.getD k 0)∈Y\/cj (rs.getD k 0)∈G:=
 h.rt _ (by simp_all) ha
theorem mT (h:d_ N y g ws Y G){v i:Int}(b:v∈Y)(c:0<=i)(d:i<pf (ld N y g ws v)):0<=v+1+i/\v+1+i<y:=by have e:=h.ty.mem v b;omega
theorem mU (h:d_ N y g ws Y G){v i:Int}(b:v∈G)(c:0<=i)(d:i<pf (ld N y g ws v)):(N:Int)<=v+1+i/\v+1+i<(N:Int)+g:=by have e:=h.ej.mem v b;omega
theorem jE (h:d_ N y g ws Y G){v i:Int}(b:v∈Y\/v∈G)(c:0<=i)(d:i<pf (ld N y g ws v)):dm N y g (v+1+i)=true:=by
 rcases b with b|b
 ·have:=mT h b c d;exact il this.1 this.2
 ·have:=mU h b c d;exact hK this.1 this.2
theorem h7.make (h:h7 N y g ws Y G rs)(hl:ws.length=N+O){k f:Int}(hm:hC N y k f=true):h7 N (iC N y k f) g (eR N y k f ws) (Y++[(y:Int)]) G rs:=by
 have m:=h.full.make hl hm;obtain⟨n,s⟩:=oq hm;have t:=iH k f n;have o:iC N y k f=y+1+f.toNat:=by unfold iC;rw[aJ hm]
 have p:eR N y k f ws=fp ws y (hw k f) f.toNat:=by unfold eR;rw[aJ hm]
 have hlt:y+f.toNat<ws.length:=aa;rw[o,p] at m⊢;have mem:∀{z:Int},(z∈Y\/z∈G)->(z∈Y++[(y:Int)]\/z∈G):=fun hz=>hz.imp (fun c=>a7 _ c) id;refine⟨m,fun x q ha=>mem (h.rt x q ha),fun v b i j d ha=>?_⟩
 rcases b with b|b
 ·rcases List.mem_append.1 b with b|b
  ·have hi:=h.full.im v b;have l:ld N (y+1+f.toNat) g (fp ws y (hw k f) f.toNat) v=ld N y g ws v:=by exact s9
   rw[l] at d;have hb:=mT h.full b j d;have e:ld N (y+1+f.toNat) g (fp ws y (hw k f) f.toNat) (v+1+i)=ld N y g ws (v+1+i):=by rw[ee (il hb.1 aa),ee (il hb.1 hb.2),kR _ _ _ _ _ hlt,aH aa,aH aa]
   rw[e] at ha⊢;exact mem (h.fd v (aL b) i j d ha)
  ·simp at b;subst b;rw[(vZ _ _ hlt),(pI k f n).2.1] at d;have e:ld N (y+1+f.toNat) g (fp ws y (hw k f) f.toNat) ((y:Int)+1+i)=2:=by rw[ee (il aa aa),kR _ _ _ _ _ hlt,aH aa,aJ aa]
   rw[e] at ha;exact absurd ha ae
 ·have hi:=h.full.io v b;have l:ld N (y+1+f.toNat) g (fp ws y (hw k f) f.toNat) v=ld N y g ws v:=by exact qo
  rw[l] at d;have hb:=mU h.full b j d;have e:ld N (y+1+f.toNat) g (fp ws y (hw k f) f.toNat) (v+1+i)=ld N y g ws (v+1+i):=by exact zl
  rw[e] at ha⊢;exact mem (h.fd v (aK b) i j d ha)
theorem h7.set (h:h7 N y g ws Y G rs)(hl:ws.length=N+O)(hy:y<=N)(hg:g<=O){v i z:Int}(d:v∈Y\/v∈G)(f:0<=i)(k:i<pf (ld N y g ws v))(hz:c7 z=true->cj z∈Y\/cj z∈G):h7 N y g (ws.set (v+1+i).toNat z) Y G rs:=by
 obtain⟨l,hk⟩:=h.full.set hl hy hg d f k;have hb:=jd (jE h.full d f k) hy hg;refine⟨l,h.rt,fun u b j j0 c ha=>?_⟩
 rw[hk u b] at c;have hi:=jE h.full b j0 c;have m:ld N y g (ws.set (v+1+i).toNat z) (u+1+j)=if(v+1+i).toNat=(u+1+j).toNat then z else ld N y g ws (u+1+j):=by rw[ee hi,ee hi,kQ _ _ _ _ aa]
 rw[m] at ha⊢;split at ha
 ·simp_all
 ·rename_i e;rw[aH e];exact h.fd u b j j0 c ha
theorem h7.tb (h:h7 N y g ws Y G rs)(hN:N<=256)(hy:y<=N)(hO:O<=1024)(hg:g<=O)(k:Nat)(hk:k<rs.length):tB N y g ws (rs.getD k 0)=c7 (rs.getD k 0):=by
 obtain⟨b,c⟩:=h.full.lists hN hy hO hg;unfold tB;rw[b,c];cases ha:c7 _
 ·rfl
 ·have:=h.at k hk ha;simpa using this
end
open Go.RowKit W Kp ch oV
structure C0 where
 g:Nat
 ws:List Int
 G:List Int
def cf.l0 (k:cf)(z:C0)(a:Int):Int:=Proofs.YtpkjkjhanlbcoaaGreat.ld k.N k.y z.g z.ws a
def cf.or (k:cf)(z:C0)(s:ck)(a b:Int):Prop:=(a=b/\b∈z.G)\/(a∈k.T/\s.f a=b/\b≠-1)
def cf.ml (k:cf)(s:ck)(b x:Int):Prop:=x=b\/(k.cL b=true/\s.f (cj b)≠-1/\x=ew 3 (s.f (cj b)))
structure dH (k:cf)(z:C0)(s:ck)(H:List Int):Prop where
 ci:CI k s
 qH:z.g<=s.g
 full:d_ k.N k.y s.g s.ws k.T (z.G++H)
 kD:∀b∈z.G,b<(k.N:Int)+z.g
 mV:∀b,0<=b->b<(k.y:Int)->k.ld s b=k.l0 z b
 fh:∀a∈k.T,s.f a≠-1->s.f a∈H
 inj:∀a∈k.T,∀b∈k.T,s.f a≠-1->s.f a=s.f b->a=b
 fZ:∀b∈H,∃a∈k.T,s.f a=b
 hlo:∀b∈H,(k.N:Int)+z.g<=b
 hd:∀a b,k.or z s a b->k.ld s b=k.l0 z a
 fd:∀a b,k.or z s a b->∀i,0<=i->i<pf (k.l0 z a)->k.ml s (k.l0 z (a+1+i)) (k.ld s (b+1+i))
structure df (k:cf)(s t:ck):Prop where
 f:∀a,s.f a≠-1->t.f a=s.f a
 g:s.g<=t.g
 cl:∀b,(k.N:Int)<=b->b<(k.N:Int)+s.g->k.cL (k.ld s b)=false->k.cL (k.ld t b)=false
section
variable {k:cf}{z:C0}{s t u:ck}{H:List Int}
theorem df.refl (k:cf)(s:ck):df k s s:=⟨fun _ _=>rfl,aD _,fun _ _ _ h=>h⟩
theorem df.trans (h:df k s t)(j:df k t u):df k s u:=
 ⟨fun a ha=>(j.f a (by grind [f])).trans (h.f a ha),aS h.g j.g,fun b c d e=>j.cl b c (by have:=h.g;omega) (by grind [cl])⟩
theorem df.or (h:df k s t){a b:Int}(c:k.or z s a b):k.or z t a b:=by
 rcases c with c|⟨d,e,f⟩
 ·exact aL c
 ·exact aK ⟨d,(h.f a aa).trans e,f⟩
theorem df.ml (h:df k s t){d x:Int}(b:k.ml s d x):k.ml t d x:=by
 rcases b with b|⟨e,c,f⟩
 ·exact aL b
 ·exact aK ⟨e,(h.f _ c▸c),(h.f _ c▸f)⟩
theorem dH.mem (h:dH k z s H){a b:Int}(c:k.or z s a b):b∈z.G++H:=by
 rcases c with⟨_,hb⟩|⟨d,e,f⟩
 ·grind
 grind [fh]
theorem dH.from (h:dH k z s H){b:Int}(hb:b∈z.G++H):∃a,k.or z s a b:=by
 rcases List.mem_append.1 hb with hb|hb
 ·exact⟨b,aL ⟨rfl,hb⟩⟩
 ·obtain⟨a,ha,e⟩:=h.fZ b hb;have:=h.hlo b hb;exact⟨a,aK ⟨ha,e,aa⟩⟩
theorem dH.bd (h:dH k z s H){b:Int}(hb:b∈z.G++H):(k.N:Int)<=b/\b+(1+pf (k.ld s b))<=(k.N:Int)+s.g/\pc (k.ld s b)=0:=h.full.ej.mem b hb
theorem bm {α:Type _}{b:α}(«as»:List α){bs:List α}:b ∈ bs -> b ∈ «as» ++ bs:=by intros;apply List.mem_append_right<;>assumption
theorem dH.iX (h:dH k z s H){b:Int}(hb:b∈H):(k.N:Int)<=b/\b<(k.N:Int)+s.g:=by
 have c:=h.bd (bm _ hb)
 have:=dp (k.ld s b)
 omega
theorem CI.zn (h:CI k s){a:Int}(ha:(k.N:Int)<=a):a∉k.T:=fun c=>by
 have b:=h.te c
 grind [hy]
theorem mW (h:CI k s){n:Int}(h0:(k.N:Int)<=n)(b:n<1000000):k.cL (ew 3 n)=false:=by grind [m4,l8,CI.zn,cf.cL]
theorem dH.cp (h:dH k z s H){a:Int}(ha:a∈k.T)(p:s.f a=-1):dH k z (k.cp s a) (H++[((k.N+s.g:Nat):Int)])/\df k s (k.cp s a)/\(k.cp s a).f a=((k.N+s.g:Nat):Int):=by
 have ci:=h.ci;have hc:=ci.ih ha p;obtain⟨q,F,t3⟩:=ci.th a ha;have hp:=dp (k.ld s a)
 have hz:=h.qH;have hl:=cf.ti ci.len ci.hy ci.hg q t3 hc;obtain⟨v,_⟩:=ci.cp ha p;obtain⟨w,N⟩:=h.full.copy ci.len ci.hy ci.hg hc (by grind)
 have S:(k.cp s a).f=gw s.f a ((k.N+s.g:Nat):Int):=by rw[cf.nJ hc]
 have W:(k.cp s a).g=s.g+(1+(pf (k.ld s a)).toNat):=by rw[cf.nJ hc]
 have f:∀b,b≠a->(k.cp s a).f b=s.f b:=fun b hb=>by simp_all [gw]
 have o:(k.cp s a).f a=((k.N+s.g:Nat):Int):=by simp_all [gw]
 have lo:∀b,b<(k.N:Int)+s.g->k.ld (k.cp s a) b=k.ld s b:=fun b hb=>by grind
 have jm:df k s (k.cp s a):=⟨fun b hb=>(by grind),aa,fun b g j ab=>(by grind)⟩
 have t:∀c b,k.or z (k.cp s a) c b->k.or z s c b\/(c=a/\b=((k.N+s.g:Nat):Int)):=fun c b d=>by
  rcases d with d|⟨o1,u,x⟩
  ·exact aL (aL d)
  ·by_cases e:c=a
   ·grind
   ·rw[f c e] at u;exact aL (aK ⟨o1,u,x⟩)
 refine⟨⟨v,aa,by rw[<-bj];exact w,h.kD,fun b h0 g=>?_,fun c m g=>?_,fun c m b hb g j=>?_,fun b hb=>?_,fun b hb=>?_,fun c b d=>?_,fun c b d i ad B=>?_⟩,jm,o⟩
 ·grind [CI.hy,mV]
 ·grind [fh]
 ·by_cases l:c=a
  ·by_cases n:b=a
   ·omega
   ·rw[l,o,f b n] at j;have:=h.iX (h.fh b hb aa)
    omega
  ·by_cases n:b=a
   ·rw[n,o,f c l] at j;rw[f c l] at g;have:=h.iX (h.fh c m g)
    omega
   ·rw[f c l,f b n] at j;rw[f c l] at g;exact h.inj c m b hb g j
 ·rcases List.mem_append.1 hb with hb|hb
  ·obtain⟨c,m,e⟩:=h.fZ b hb;have ag:s.f c≠-1:=by have:=h.iX hb;omega
   grind
  grind
 ·rcases List.mem_append.1 hb with hb|hb
  ·exact h.hlo b hb
  grind
 ·rcases t c b d with d|⟨rfl,rfl⟩
  ·have hm:=h.bd (h.mem d)
   rw[lo b (by have:=dp (k.ld s b);omega)]
   grind [hd]
  grind [mV]
 ·rcases t c b d with d|⟨rfl,rfl⟩
  ·have hm:=h.bd (h.mem d)
   grind [hd,df.ml,fd]
  ·rw[<-(h.mV c q aa)] at B;refine aL ?_
   grind [mV]
theorem dH.st (h:dH k z s H){a b i x:Int}(m:k.or z s a b)(o:0<=i)(w:i<pf (k.l0 z a))(t:k.ml s (k.l0 z (a+1+i)) x):dH k z (k.st s (b+1+i) x) H/\k.ld (k.st s (b+1+i) x) (b+1+i)=x/\(∀c,c≠b+1+i->k.ld (k.st s (b+1+i) x) c=k.ld s c):=by
 have ci:=h.ci;have hm:=h.mem m;have hb:=h.bd hm;have e:=h.hd a b m;rw[e] at hb;have hi:dm k.N k.y s.g (b+1+i)=true:=hK aa aa;have hl:=cf.nI ci.len ci.hy ci.hg (b+1+i) x;have same:k.ld (k.st s (b+1+i) x) (b+1+i)=x:=by simp_all
 have fR:∀c,c≠b+1+i->k.ld (k.st s (b+1+i) x) c=k.ld s c:=fun c hc=>by simp_all
 have ew:k.st s (b+1+i) x={s with ws:=s.ws.set (b+1+i).toNat x}:=by grind [cf.st]
 have ap:∀c d,k.or z s c d->∀j,0<=j->j<pf (k.l0 z c)->d+1+j=b+1+i->c=a/\d=b/\j=i:=fun c d f j j0 n g=>by
  have hd:=h.mem f;have p:d=b:=by
   rcases Int.lt_trichotomy d b with l|l|l
   ·have:=h.full.ej.apart d hd b hm l;have this:d+(1+pf (k.ld s d))<=b:=this
    grind [hd]
   ·omega
   ·have:=h.full.ej.apart b hm d hd l;have this:b+(1+pf (k.ld s b))<=d:=this
    grind
  refine⟨?_,p,aa⟩
  rw[p] at f;rcases f with⟨c1,c2⟩|⟨c1,c2,c3⟩<;>rcases m with⟨o1,q⟩|⟨o1,q,B⟩
  ·omega
  ·have u:=h.hlo b (by grind [fh])
   have v:=h.kD b c2;omega
  ·have u:=h.hlo b (by grind [fh])
   have v:=h.kD b q;omega
  ·exact h.inj c c1 a o1 aa aa
 have fl:d_ k.N k.y (k.st s (b+1+i) x).g (k.st s (b+1+i) x).ws k.T (z.G++H):=(ew▸(h.full.set ci.len ci.hy ci.hg (by grind) o (by show i<pf (k.ld s b);grind)).1)
 refine⟨⟨ci.st aa x,h.qH,fl,h.kD,fun c h0 F=>?_,h.fh,h.inj,h.fZ,h.hlo,fun c d f=>?_,fun c d f j j0 n=>?_⟩,same,fR⟩
 ·grind [CI.hy,mV]
 ·have f:=f;rw[fR d (fun g=>?_)]
  ·exact h.hd c d f
  ·exact h.full.ej.field hm o (by show i<pf (k.ld s b);grind) (g▸h.mem f)
 ·have f:=f;by_cases g:d+1+j=b+1+i
  ·obtain⟨rfl,rfl,rfl⟩:=ap c d f j j0 n g;rw[same];exact t
  ·rw[fR _ g];exact h.fd c d f j j0 n
theorem df.st (ci:CI k s){a x:Int}(c:k.cL x=false):df k s (k.st s a x):=
 ⟨fun _ _=>rfl,aD _,fun b _ _ d=>by grind [cf.nI,CI.len,CI.hy,CI.hg]⟩
theorem dH.br (h:dH k z s H)(x:Int):∃f,dH k z (k.br s x).2 f/\df k s (k.br s x).2/\k.cL (k.br s x).1=false/\(∃j,f=H++j)/\(∀b,k.ml s b x->k.ml (k.br s x).2 b (k.br s x).1)/\(k.cL x=true->(k.br s x).2.f (cj x)≠-1)/\(k.br s x).1=k.nw (k.br s x).2 x:=by
 have ci:=h.ci;have n1:=ci.hN';have p:=ci.hO;have key:∀(t:ck)(g:List Int),dH k z t g->df k s t->(k.cL x=true->t.f (cj x)≠-1)->k.cL (k.nw t x)=false/\∀b,k.ml s b x->k.ml t b (k.nw t x):=fun t g ht jm hy=>by
  by_cases c:k.cL x=true
  ·have d:=hy c;have l:cj x∈k.T:=by grind [cf.cL]
   have e:k.nw t x=ew 3 (t.f (cj x)):=by grind [cf.nw]
   have hb:=ht.iX (ht.fh _ l d)
   have hg:=ht.ci.hg;rw[e];refine⟨mW ht.ci hb.1 aa,fun b hm=>?_⟩
   rcases hm with rfl|⟨m1,i,m⟩
   ·exact aK ⟨c,d,rfl⟩
   ·exfalso;have n:cj b∈k.T:=by grind [cf.cL]
    have q:=h.iX (h.fh _ n i)
    have u:=ci.hg
    grind [mW]
  grind [df.ml,cf.nw]
 unfold cf.br;by_cases c:k.ls s x=true
 ·obtain⟨c1,c2,c3⟩:=cf.mL c;obtain⟨m1,i,m⟩:=h.cp c2 c3
  grind
 ·have d:k.cL x=true->s.f (cj x)≠-1:=fun hy e=>(by grind [cf.ls])
  obtain⟨k1,o⟩:=key s H h (df.refl _ _) d;rw[aH c];exact⟨H,h,df.refl _ _,k1,⟨[],ac⟩,o,d,rfl⟩
theorem dH.kf (h:dH k z s H){a b i:Int}(d:k.or z s a b)(e:0<=i)(f:i<pf (k.l0 z a)):∃c,dH k z (k.kf s (b+1+i)) c/\df k s (k.kf s (b+1+i))/\k.cL (k.ld (k.kf s (b+1+i)) (b+1+i))=false/\∃g,c=H++g:=by
 obtain⟨c,m1,j,m,n,l,_,_⟩:=h.br _;obtain⟨s1,s2,o⟩:=m1.st (j.or d) e f (l _ (h.fd a b d i e f))
 grind [df.trans,df.st,ci,cf.kf]
theorem dH.f9 (h:dH k z s H){a b:Int}(c:k.or z s a b):∀n:Nat,(n:Int)<=pf (k.l0 z a)->∃g,dH k z (k.f9 s b n) g/\df k s (k.f9 s b n)/\(∀i:Nat,i<n->k.cL (k.ld (k.f9 s b n) (b+1+i))=false)/\∃f,g=H++f
 |0,_=>⟨H,h,df.refl _ _,fun i hi=>aa,⟨[],ac⟩⟩
 |n+1,o=>by
  obtain⟨p,m1,d,q,⟨f,t⟩⟩:=dH.f9 h c n aa;obtain⟨j,l,j2,cA,⟨m,cD⟩⟩:=m1.kf (d.or c) (i:=n) aa aa;refine⟨j,l,d.trans j2,fun i hi=>?_,⟨f++m,by simp_all⟩⟩
  by_cases e:i=n
  ·rw[e];exact cA
  ·have hb:=m1.bd (m1.mem (d.or c))
   rw[(m1.hd _ _ (d.or c))] at hb;exact j2.cl _ aa aa (by grind)
end
section
variable {k:cf}{z:C0}{s t u:ck}{H:List Int}
theorem h8 {x:Int}(h:pc x=0)(b:pk x=1\/pk x=3\/pk x=4):pf x=2:=by
 unfold pc at h;unfold pk at b;unfold pf;split at h
 ·rename_i e;rw[aJ e] at b⊢;generalize x%16=a at*;generalize x/16=f at*;unfold hc at e;rcases b with b|b|b
  ·rw[aJ b] at e;split at e
   ·assumption
   ·omega
  ·rw[aH aa,aJ b] at e;split at e
   ·assumption
   ·omega
  ·rw[aH aa,aH aa,aJ b] at e;split at e
   ·assumption
   ·omega
 ·omega
theorem zo {x:Int}(h:pc x=0):(pk x=1\/pk x=2)\/pk x=3\/pk x=4\/(pk x=5/\pf x=0):=by
 unfold pc at h;unfold pk pf;split at h
 ·rename_i e;rw[aJ e,aJ e];have hb:=iH _ _ e;generalize x%16=a at*;generalize x/16=f at*;by_cases b:a=5
  ·right;right;right;refine⟨b,?_⟩
   unfold hc at e;rw[aH aa,aH aa,aH aa,aH aa,aJ b] at e;split at e
   ·assumption
   ·omega
  ·omega
 ·omega
theorem jF (k:cf)(s:ck)(a:Int):(k.kf s a).wk=s.wk/\(k.kf s a).ep=s.ep/\(k.kf s a).nx=s.nx/\(k.kf s a).rs=s.rs:=by unfold cf.kf cf.st cf.br;split<;>exact⟨rfl,rfl,rfl,rfl⟩
theorem mX (k:cf)(s:ck)(a:Int):∀n,(k.f9 s a n).wk=s.wk/\(k.f9 s a n).ep=s.ep/\(k.f9 s a n).nx=s.nx/\(k.f9 s a n).rs=s.rs
 |0=>⟨rfl,rfl,rfl,rfl⟩
 |n+1=>by obtain⟨b,c,d,e⟩:=mX k s a n;obtain⟨f,j2,cA,cD⟩:=jF k _ _;exact⟨f.trans b,j2.trans c,cA.trans d,cD.trans e⟩
theorem qI (k:cf)(s:ck)(a:Int):(k.lk s a).nx=s.nx/\(k.lk s a).rs=s.rs:=by
 unfold cf.lk;split
 ·exact⟨(mX _ _ _ _).2.2.1,(mX _ _ _ _).2.2.2⟩
 ·split
  ·exact⟨(jF _ _ _).2.2.1,(jF _ _ _).2.2.2⟩
  ·split<;>exact⟨rfl,rfl⟩
theorem dH.turn (h:dH k z s H)(wk ep rs:List Int)(nx:Int)(hw:∀a∈wk,(k.N:Int)<=a/\a<=2000)(he:∀a∈ep,(k.N:Int)<=a/\a<=2000)(h0:(k.N:Int)<=nx)(b:nx<=(k.N:Int)+k.O+13):dH k z {s with wk:=wk,ep:=ep,rs:=rs,nx:=nx} H:=
 {
  ci:={hN:=h.ci.hN,hN':=h.ci.hN',hO:=h.ci.hO,hy:=h.ci.hy,hg:=h.ci.hg,len:=h.ci.len,th:=h.ci.th,nd:=h.ci.nd,room:=h.ci.room,g7:=h0,gG:=b,ip:=hw,hL:=he,tl:=h.ci.tl}
  qH:=h.qH,full:=h.full,kD:=h.kD,mV:=h.mV,fh:=h.fh,inj:=h.inj,fZ:=h.fZ,hlo:=h.hlo,hd:=h.hd,fd:=h.fd}
theorem df.turn (k:cf)(s:ck)(wk ep rs:List Int)(nx:Int):df k s {s with wk:=wk,ep:=ep,rs:=rs,nx:=nx}:=⟨fun _ _=>rfl,aD _,fun _ _ _ h=>h⟩
def Lo (k:cf)(s:ck)(b:Int):Prop:=∀i,0<=i->i<pf (k.ld s b)->k.cL (k.ld s (b+1+i))=false\/(pk (k.ld s b)=3/\i=0/\b∈s.wk)\/(pk (k.ld s b)=4/\b∈s.ep)
theorem dH.lk (h:dH k z s H){a b:Int}(e:k.or z s a b):∃f,dH k z (k.lk s b) f/\df k s (k.lk s b)/\(∃u,f=H++u)/\Lo k (k.lk s b) b/\(∀c∈s.wk,c∈(k.lk s b).wk)/\∀c∈s.ep,c∈(k.lk s b).ep:=by
 have hb:=h.bd (h.mem e)
 have hg:=h.ci.hg;have hN:=h.ci.hN';have hO:=h.ci.hO;have j:=h.hd a b e;have N:=dp (k.ld s b)
 unfold cf.lk;by_cases c1:pk (k.ld s b)=1\/pk (k.ld s b)=2
 ·rw[aJ c1];obtain⟨f,m1,g,m,p⟩:=h.f9 e (pf (k.ld s b)).toNat (by rw[<-j];omega)
  have n:=m1.hd a b (g.or e)
  refine⟨f,m1,g,p,fun i o l=>aL ?_,fun c hc=>by rw[(mX _ _ _ _).1];exact hc,fun c hc=>by rw[(mX _ _ _ _).2.1];exact hc⟩
  rw[n,<-j] at l;have t:=m i.toNat aa;rw[Int.toNat_of_nonneg o] at t;exact t
 ·rw[aH c1];by_cases c3:pk (k.ld s b)=3
  ·rw[aJ c3];have v:=h8 hb.2.2 (aK (aL c3))
   have w:=h.turn (s.wk++[b]) s.ep s.rs s.nx (fun x q=>by
    rcases List.mem_append.1 q with d|d
    ·exact h.ci.ip x d
    ·rw[List.mem_singleton] at d;omega) h.ci.hL h.ci.g7 h.ci.gG
   obtain⟨f,m1,g,m,p⟩:=w.kf (i:=1) e aa (by rw[<-j];omega)
   have ea:b+1+1=b+2:=aa;rw[ea] at m1 g m;have n:=m1.hd a b (g.or e)
   refine⟨f,m1,(df.turn k s (s.wk++[b]) s.ep s.rs s.nx).trans g,p,fun i o l=>?_,fun c hc=>by rw[(jF _ _ _).1];exact a7 _ hc,fun c hc=>by rw[(jF _ _ _).2.1];exact hc⟩
   rw[n,<-j,v] at l;by_cases B:i=0
   ·refine aK (aL ⟨by rw[n,<-j];exact c3,B,?_⟩)
    rw[(jF _ _ _).1];simp
   ·have F:i=1:=aa;subst F;rw[ea];exact aL m
  ·rw[aH c3];by_cases c4:pk (k.ld s b)=4
   ·rw[aJ c4];refine⟨H,h.turn s.wk _ s.rs s.nx h.ci.ip (fun x q=>by
     rcases List.mem_append.1 q with d|d
     ·exact h.ci.hL x d
     ·rw[List.mem_singleton] at d;subst d;omega) h.ci.g7 h.ci.gG,df.turn k s s.wk _ s.rs s.nx,⟨[],ac⟩,fun i o l=>aK (aK ⟨c4,ac⟩),fun c hc=>hc,fun c hc=>a7 _ hc⟩
   ·rw[aH c4];refine⟨H,h,df.refl _ _,⟨[],ac⟩,fun i o l=>?_,fun c hc=>hc,fun c hc=>hc⟩
    have:=zo hb.2.2;omega
theorem Lo.go {b:Int}{K:List Int}(h:Lo k s b)(hs:dH k z s H)(ht:dH k z t K)(p:df k s t){a:Int}(c:k.or z s a b)(hw:b∈s.wk->b∈t.wk)(he:b∈s.ep->b∈t.ep):Lo k t b:=by
 have f:=hs.hd a b c;have g:=ht.hd a b (p.or c)
 have hb:=hs.bd (hs.mem c)
 intro i l j;rw[g,<-f] at j;rw[g,<-f];rcases h i l j with m|⟨d,e,n⟩|⟨d,e⟩
 ·exact aL (p.cl _ aa aa m)
 ·exact aK (aL ⟨d,e,hw n⟩)
 ·exact aK (aK ⟨d,he e⟩)
end
theorem zp {g h:Int->Nat}(R:Int->Int->Prop)(i:∀a b c,R a c->R b c->a=b):∀(l T:List Int),l.Nodup->T.Nodup->(∀b∈l,∃a∈T,R b a/\g b=h a)->gB g l<=gB h T
 |[],T,_,_,_=>aX _
 |b::l,T,hl,j,k=>by
  obtain⟨a,ha,r,e⟩:=k b ac;rw[List.nodup_cons] at hl;have p:=oW h T a j ha;have m:=zp R i l (T.filter (fun c=>!(c==a))) hl.2 (j.filter _) (fun c hc=>by
   obtain⟨d,hd,f,n⟩:=k c (aQ _ hc)
   refine⟨d,List.mem_filter.2 ⟨hd,?_⟩,f,n⟩
   cases q:d==a
   ·rfl
   ·have o:d=a:=by simpa using q
    rw[o] at f;exact absurd (i c b a f r▸hc) hl.1)
  rw[tX];unfold gB at m⊢;omega
theorem zq {g:Int->Nat}{l T:List Int}(hl:l.Nodup)(c:T.Nodup)(hs:∀a∈l,a∈T):gB g l<=gB g T:=
 zp (fun a b=>a=b) (fun _ _ _ d e=>d.trans e.symm) l T hl c (fun b hb=>⟨b,hs b hb,rfl,rfl⟩)
def mY (L:Int->Int)(a:Int):Nat:=1+(pf (L a)).toNat
theorem d9.sum {L:Int->Int}{hi:Int}:∀{l:List Int}{a:Int},d9 L hi a l->(gB (mY L) l:Int)=hi-a
 |[],a,h=>by have h:a=hi:=h;simp[gB,h]
 |x::l,a,h=>by
  obtain⟨rfl,_,c,ht⟩:=h;have b:=d9.sum ht;have hp:=dp (L x)
  rw[tX];unfold mY at b⊢;omega
theorem d9.nodup {L:Int->Int}{hi:Int}:∀{l:List Int}{a:Int},d9 L hi a l->l.Nodup
 |[],_,_=>List.nodup_nil
 |x::l,a,h=>by
  obtain⟨rfl,_,_,ht⟩:=h;rw[List.nodup_cons];refine⟨fun c=>?_,d9.nodup ht⟩
  have:=(ht.mem x c).1;have hp:=dp (L x)
  omega
section
variable {N O y g:Nat}{ws Y G:List Int}
theorem zr (h:d_ N y g ws Y G)(hy:y<=N)(Q:List b9){a:Int}(ha:a∈Y\/a∈G)(b:pk (ld N y g ws a)≠5):((eS N y g ws Q a).length:Int)=pf (ld N y g ws a):=by
 have hp:=dp (ld N y g ws a)
 unfold eS;rw[aH b,h.stands hy ha];simp;omega
end
def Pos (z:Int->Int)(al:Int->Bool)(f:Int->Int):Int->List Int->Int->Prop
 |n,[],m=>n=m
 |n,a::l,m=>(al a=true->f a=n/\Pos z al f (n+(1+z a)) l m)/\(al a=false->f a=-1/\Pos z al f n l m)
section
variable {z:Int->Int}{al:Int->Bool}{f:Int->Int}
theorem Pos.le (hz:∀a,0<=z a):∀{l:List Int}{n m:Int},Pos z al f n l m->n<=m
 |[],n,m,h=>Int.le_of_eq h
 |a::l,n,m,h=>by
  have:=hz a;cases c:al a
  ·exact Pos.le hz (h.2 c).2
  ·have:=Pos.le hz (h.1 c).2;omega
theorem Pos.app:∀{l e:List Int}{n m:Int},Pos z al f n (l++e) m->∃b,Pos z al f n l b/\Pos z al f b e m
 |[],e,n,m,h=>⟨n,rfl,h⟩
 |a::l,e,n,m,h=>by
  cases c:al a
  ·obtain⟨b,g,i⟩:=Pos.app (h.2 c).2;exact⟨b,⟨fun d=>(by rw[c] at d;cases d),fun _=>⟨(h.2 c).1,g⟩⟩,i⟩
  ·obtain⟨b,g,i⟩:=Pos.app (h.1 c).2;exact⟨b,⟨fun _=>⟨(h.1 c).1,g⟩,fun d=>(by rw[c] at d;cases d)⟩,i⟩
theorem Pos.bd (hz:∀a,0<=z a):∀{l:List Int}{n m:Int},Pos z al f n l m->∀a∈l,al a=true->n<=f a/\f a+(1+z a)<=m
 |[],n,m,h,a,ha,_=>by cases ha
 |b::l,n,m,h,a,ha,hl=>by
  rcases List.mem_cons.1 ha with e|ha
  ·rw[e] at hl⊢;obtain⟨g,d⟩:=h.1 hl;have:=d.le hz;omega
  ·have:=hz b;cases c:al b
   ·exact Pos.bd hz (h.2 c).2 a ha hl
   ·have:=Pos.bd hz (h.1 c).2 a ha hl;omega
theorem Pos.no:∀{l:List Int}{n m:Int},Pos z al f n l m->∀a∈l,al a=false->f a=-1
 |[],n,m,h,a,ha,_=>by cases ha
 |b::l,n,m,h,a,ha,hl=>by
  rcases List.mem_cons.1 ha with e|ha
  ·rw[e] at hl⊢;exact(h.2 hl).1
  ·cases c:al b
   ·exact Pos.no (h.2 c).2 a ha hl
   ·exact Pos.no (h.1 c).2 a ha hl
theorem Pos.inj (hz:∀a,0<=z a):∀{l:List Int}{n m:Int},Pos z al f n l m->∀a∈l,∀b∈l,al a=true->al b=true->f a=f b->a=b
 |[],n,m,h,a,ha,_,_,_,_,_=>by cases ha
 |x::l,n,m,h,a,ha,b,hb,d,lb,e=>by
  have k:=hz x;rcases List.mem_cons.1 ha with ea|ha
  ·rcases List.mem_cons.1 hb with g|hb
   ·rw[ea,g]
   ·rw[ea] at d e;obtain⟨j,i⟩:=h.1 d;have:=i.bd hz b hb lb;omega
  ·rcases List.mem_cons.1 hb with g|hb
   ·rw[g] at lb e;obtain⟨j,i⟩:=h.1 lb;have:=i.bd hz a ha d;omega
   ·cases c:al x
    ·exact Pos.inj hz (h.2 c).2 a ha b hb d lb e
    ·exact Pos.inj hz (h.1 c).2 a ha b hb d lb e
theorem Pos.tY (hz:∀a,0<=z a){L:Int->Int}:∀{l:List Int}{n m:Int},Pos z al f n l m->(∀a∈l,al a=true->pc (L (f a))=0/\pf (L (f a))=z a)->d9 L m n ((l.filter al).map f)
 |[],n,m,h,_=>by have h:=h;rw[h];exact d9.done
 |a::l,n,m,h,hl=>by
  cases c:al a
  ·rw[List.filter_cons_of_neg (by simp[c])];exact Pos.tY hz (h.2 c).2 (fun b hb=>hl b (aQ _ hb))
  ·rw[List.filter_cons_of_pos c,List.map_cons];obtain⟨g,e⟩:=h.1 c;obtain⟨q1,d⟩:=hl a ac c;rw[g] at q1 d⊢;refine d9.step q1 (by rw[d];exact e.le hz) ?_;rw[d];exact Pos.tY hz e (fun b hb=>hl b (aQ _ hb))
theorem Pos.sum:∀{l:List Int}{n m:Int},Pos z al f n l m->(∀a,0<=z a)->(gB (fun a=>1+(z a).toNat) (l.filter al):Int)=m-n
 |[],n,m,h,_=>by have h:n=m:=h;simp[gB,h]
 |a::l,n,m,h,hz=>by
  have:=hz a;cases c:al a
  ·rw[List.filter_cons_of_neg (by simp[c])];exact Pos.sum (h.2 c).2 hz
  ·rw[List.filter_cons_of_pos c,tX];have:=Pos.sum (h.1 c).2 hz;omega
end
theorem pi (k:b_)(al:Int->Bool):∀(l:List Int)(t:cu×Int),l.Nodup->(∀a∈l,al a=!(t.1.f a==-1))->Pos (fun a=>pf (k.ld a)) al (k.lT t l).1.f t.2 l (k.lT t l).2/\(∀b,b∉l->(k.lT t l).1.f b=t.1.f b)/\(k.lT t l).1.td=t.1.td/\(k.lT t l).1.ep=t.1.ep
 |[],t,_,_=>⟨rfl,fun _ _=>rfl,rfl,rfl⟩
 |a::l,t,d,ha=>by
  rw[List.nodup_cons] at d;have o:k.lT t (a::l)=k.lT (e9 (fun t a=>t.1.f a) k.lS t a) l:=rfl;have p:=ha a ac;by_cases c:t.1.f a=-1
  ·have g:e9 (fun t a=>t.1.f a) k.lS t a=t:=by unfold e9;rw[aJ c]
   rw[o,g];obtain⟨i,f,j,m⟩:=pi k al l t d.2 (fun b hb=>ha b (aQ _ hb))
   have ea:al a=false:=by rw[p,c];rfl
   exact⟨⟨fun h=>(by rw[ea] at h;cases h),fun _=>⟨by rw[f a d.1];exact c,i⟩⟩,fun b hb=>f b (fun n=>hb (aQ _ n)),j,m⟩
  ·have g:e9 (fun t a=>t.1.f a) k.lS t a=k.lS t a:=by unfold e9;rw[aH c]
   rw[o,g];obtain⟨i,f,j,m⟩:=pi k al l (k.lS t a) d.2 (fun b hb=>by
    have q:b≠a:=fun e=>d.1 (e▸hb)
    show al b=!(gw t.1.f a t.2 b==-1)
    unfold gw;rw[aH q];exact ha b (aQ _ hb))
   have ea:al a=true:=by rw[p,beq_false_of_ne c];rfl
   refine⟨⟨fun _=>⟨?_,i⟩,fun h=>(by rw[ea] at h;cases h)⟩,fun b hb=>?_,j,m⟩
   ·rw[f a d.1];show gw t.1.f a t.2 a=_;unfold gw;rw[aJ rfl]
   ·rw[f b (fun n=>hb (aQ _ n))];show gw t.1.f a t.2 b=_;unfold gw;rw[aH (fun e=>hb (by rw[e];simp))]
section
variable {rp rb:Nat}{ca b8:Int}{F:Nat->Prop}{s:cn}{w:aw}
end
section
variable {rp rb:Nat}{ca b8:Int}{F:Nat->Prop}{s:cn}{w:aw}
end
section
variable {rp rb:Nat}{ca b8:Int}{F:Nat->Prop}{s:cn}{w:aw}
end
section
variable {a:Wc}{F:Nat->Prop}{S:co}{w:aw}
theorem lU (h:(fB a).J F S w):∃i,(d5 a).J i S.s w/\∀f s1 w',(d5 a).J f s1 w'->ce i w f w'->∃d,(fB a).J d ⟨s1,S.r,S.q⟩ w'/\ce F w d w':=by
 obtain⟨i,ar,k,n,j,l,m⟩:=h;obtain⟨o,g1,g2⟩:=iV n;refine⟨o,g1,fun f s1 w' p q=>?_⟩
 obtain⟨d,k1,g⟩:=g2 (d5 a) f s1 w' p q;refine⟨fun b=>d b\/some b=(Value.slice ar S.r.length k).ownBlock,⟨d,ar,k,k1,cy j (fun b e=>g.fr.block b (cg j b e).2 (l b e)),fun b e c=>?_,fun b=>Iff.rfl⟩,⟨g.fr.mono (fun b c=>(m b).2 (aL c)),fun b c=>?_⟩⟩
 ·rcases g.sub b c with c|c
  ·exact l b e c
  ·have:=(cg j b e).2;omega
 ·rcases c with c|c
  ·exact(g.sub b c).imp (fun c=>(m b).2 (aL c)) id
  ·simp_all
theorem GT {s:eh}(h:(d5 a).J F s w)(x i z:Int)(hM:s.M.length<=100000):
 Calls prog 44 #[am a.pw,ak x,ak i,ak z] w fun e w'=>e=.returned (ak (dX a.N s.y s.g s.ws x i))/\(d5 a).J F {s with ws:=f7 a.N s.y s.g s.ws x i z,M:=stM a.N s.y s.g s.ws x i z (dY a.O) s.M} w'/\ce F w F w':=by
 obtain⟨own,cQ,h,f⟩:=h;refine(Ch x i z ⟨h.wd,h.ar,h.cd⟩ hM).mono ?_;rintro e w' ⟨rfl,d,fr⟩
 refine⟨rfl,⟨own,cQ,?_,f⟩,⟨fr.mono (fun b c=>?_),fun _ c=>aL c⟩⟩
 ·have hb:∀b,b<w.heap.size->own b≠1->own b≠2->_=_:=fun b hb g j=>fr.block b hb (fun c=>by
   rcases c with c|c|c|c
   ·exact g ((c▸h.a1))
   ·exact g ((c▸h.a2))
   ·exact j ((c▸h.c1))
   ·exact j ((c▸h.c2)))
  exact {
   ar:=d.ar,cd:=d.cd,wd:=d.blk,a1:=h.a1,a2:=h.a2,c1:=h.c1,c2:=h.c2,w1:=h.w1,rl:=h.rl,r1:=h.r1,le:=h.le,lt:=fun b hb=>aO (h.lt b hb) fr.size
   rt:=(hb _ (lt_of_some h.rt) (by rw[h.r1];decide) (by rw[h.r1];decide)).trans h.rt}
 ·refine(f b).2 ?_;rcases c with c|c|c|c
  ·rw[c,h.a1];decide
  ·rw[c,h.a2];decide
  ·rw[c,h.c1];decide
  ·rw[c,h.c2];decide
theorem GU (h:(fB a).J F S w)(g z:Int)(p:S.r.length<=90000)(hq:S.q.length<=90000):
 Calls prog 49 #[am a.sd,.agg #[ak g,ak z]] w fun e w'=>∃f,e=.returned (.bool (!kz (S.r.length+S.q.length)))/\(fB a).J f (if 24<=S.r.length+S.q.length then S else⟨S.s,S.r++[(g,z)],S.q⟩) w'/\ce F w f w':=by
 have q:=h;obtain⟨i,ar,s,⟨t,j,k,l,u,v,x,m,n,B,o⟩,r0,r1,N⟩:=h;refine(D3 w a.sd ar j s k S.r S.q g z ⟨u,r0,v⟩ p hq).mono ?_;rintro e w' ⟨rfl,⟨d,hb⟩|⟨d,b1,c1,hs,W,fr⟩⟩
 ·exact⟨F,rfl,(aJ d▸(fB a).below q hb),ce.of hb⟩
 ·refine⟨fun b=>i b\/some b=(Value.slice (an b1) (S.r++[(g,z)]).length c1).ownBlock,rfl,?_,⟨fr.mono (fun b c=>(N b).2 (aL (by rw[c];exact m))),fun b c=>?_⟩⟩
  ·rw[aH d];refine⟨i,some _,c1,⟨t,j,k,(d5 a).keep l fr.size (fun b c=>fr.block b ((d5 a).lt l b c) (fun e=>n (by simp_all))),hs.blk,hs.q0,x,m,n,B,fun b c=>aO (o b c) fr.size⟩,hs.r0,fun b e c=>?_,fun b=>Iff.rfl⟩
   simp[Value.ownBlock] at e;subst e;have:=o b c;omega
  ·rcases c with c|c
   ·simp_all
   ·simp[Value.ownBlock] at c;subst c;exact aK W
end
structure j9 where
 a:Wc
 rp:Nat
 rb:Nat
 ca:Int
 b8:Int
 pb:Nat
section
variable {c:j9}{F:Nat->Prop}{S:co×cn}{w:aw}
end
section
variable {c:j9}{F:Nat->Prop}{S:co×cn}{w:aw}
end
section
variable {c:j9}{F:Nat->Prop}{S:co×cn}{w:aw}
end
section
variable {c:j9}{F:Nat->Prop}{S:co×cn}{w:aw}
end
section
variable {c:j9}{F:Nat->Prop}{S:co×cn}{w:aw}
end
section
variable {c:j9}{F:Nat->Prop}{S:co×cn}{w:aw}
end
section
variable {c:j9}{F:Nat->Prop}{S:co×cn}{w:aw}
end
section
variable {c:j9}{F:Nat->Prop}{S:co×cn}{w:aw}
end
theorem GV {P:Program}{o:Oper}{a:Act}{w:aw}{K:Act->aw->Prop}{Q:Exit->Act->aw->Prop}(n:o.guard=none)(e s:Operand)(f p i:TypeId)
 (B:o.op=.call {callee:=.builtin .copy,args:=#[e,s],argTypes:=#[f,p]})(F:P.underlying f=some (.slice i))(N:(P.info? i).map (·.size)=some 1)
 (k sp:Option Addr)(l q m u:Nat)(hd:a.eval e=.slice k l q)(hs:a.eval s=.slice sp m u)
 (g c:Nat)(d:List Value)(t:TypeId)(hg:w.heap[g]?=some (.cells d.toArray t (0,0)))(b:List Value)(S:b.length=Nat.min m l)
 (W:0<b.length->k=some ⟨g,c,none⟩/\∃x,sp=some x/\∀j v,b[j]?=some v->w.cell? (x.add j)=some v)
 (ab:c+b.length<=d.length)(ad:∀v∈b,v.oneCell'=true)
 (h:∀w',ni w w' g d c b->K (a.put o.dst (goInt b.length)) w'):Oper.wp P o a w K Q:=by
 have:=pV (ops:=#[]) (o:=o) (K:=K) (Q:=Q) (E:=False) n e s f p i B F N k sp l q m u hd hs g c d t hg b S W ab ad h;rwa [aJ (show Region.wanted o (yielded #[] a.tmps)=true by simp[Region.wanted,n])] at this
theorem tZ {P:Program}{ops:Array Oper}{rest:List Oper}{o:Oper}{a:Act}{w:aw}{Q:Exit->Act->aw->Prop}(n:o.guard=none)(e s:Operand)(f p i:TypeId)
 (B:o.op=.call {callee:=.builtin .copy,args:=#[e,s],argTypes:=#[f,p]})(F:P.underlying f=some (.slice i))(N:(P.info? i).map (·.size)=some 1)
 (k sp:Option Addr)(l q m u:Nat)(hd:a.eval e=.slice k l q)(hs:a.eval s=.slice sp m u)
 (g c:Nat)(d:List Value)(t:TypeId)(hg:w.heap[g]?=some (.cells d.toArray t (0,0)))(b:List Value)(S:b.length=Nat.min m l)
 (W:0<b.length->k=some ⟨g,c,none⟩/\∃x,sp=some x/\∀j v,b[j]?=some v->w.cell? (x.add j)=some v)
 (ab:c+b.length<=d.length)(ad:∀v∈b,v.oneCell'=true)
 (h:∀w',ni w w' g d c b->wpList P ops Q rest (a.put o.dst (goInt b.length)) w'):wpList P ops Q (o::rest) a w:=
 wpList_plain n fun _ ag=>GV n e s f p i B F N k sp l q m u hd hs g c d t hg b S W ab ad (fun w' hw=>ag _ _ (h w' hw))
theorem GW (w:aw):Calls prog 223 #[.int .u64 1,.int .u64 12] w fun e w'=>e=.returned (.tuple #[.int .u64 0,.int .u64 12])/\w'=w:=by go_wp2;go_ret2;exact⟨rfl,rfl⟩
theorem GX (w:aw):Calls prog 167 #[.int .u64 1,.int .u64 12] w fun e w'=>e=.returned (.tuple #[.int .u64 0,.int .u64 12])/\w'=w:=by
 go_enter func167,ntmps167;go_wp2_with fail;refine(GW w).mono ?_;rintro e w1 ⟨rfl,hw⟩
 have hw:=hw.symm;subst hw;go_wp2;go_ret2;exact⟨rfl,rfl⟩
def tw (v:Int)(n:Nat):List Int:=List.replicate n v++List.replicate (12-n) 0
theorem t1 (v:Int)(n:Nat)(h:n<=12):(tw v n).length=12:=by simp[tw];omega
theorem GY (v:Int)(n m:Nat)(h:n+m<=12):splice (tw v n) n (List.replicate m v)=tw v (n+m):=by unfold splice tw;rw[List.take_left' ac,bB,List.drop_append,bB];simp only [List.drop_replicate];rw[show n-(n+m)=0 by omega,show 12-n-(n+m-n)=12-(n+m) by omega];simp;rw[<-bj,List.replicate_append_replicate]
theorem GZ (v:Int)(n i:Nat)(h:i<n):(tw v n).getD i 0=v:=by unfold tw;rw[aG,List.getElem?_append_left (by simpa using h)];simp[h]
theorem one_cell {w:aw}{b:Nat}{v:Int}(hc:w.cell? (ao b 0)=some (ak v)):∀j u,((List.replicate 1 v).map (Value.int .i64))[j]?=some u->w.cell? ((⟨b,0,none⟩:Addr).add j)=some u:=by
 intro j u hj;have c:j=0:=by exact oJ
 subst c;rw[<-hj];simpa[Addr.add] using hc
theorem G0 {w:aw}{nb n:Nat}{v:Int}(b:w.heap[nb]?=some (.cells ((tw v n).map (Value.int .i64)).toArray 2 (0,0)))(c:n<=12)(m:Nat)(hm:m<=n):∀j u,((List.replicate m v).map (Value.int .i64))[j]?=some u->w.cell? ((⟨nb,0,none⟩:Addr).add j)=some u:=by
 intro j u hj;have d:j<m:=by exact oJ
 have e:u=ak v:=by simp[d] at hj;exact hj.symm
 have hl:=t1 v n c;have hg:=GZ v n j aa;rw[aG,aI (by omega:j<(tw v n).length)] at hg;have ea:(⟨nb,0,none⟩:Addr).add j=⟨nb,j,none⟩:=by simp[Addr.add];intro h;exact h.symm
 rw[ea,e];have f:j<(tw v n).length:=aa;simp[World.cell?,b,List.getElem?_eq_getElem f];exact hg
theorem zs {w w':aw}{nb n m B:Nat}{v:Int}(b:ni w w' nb ((tw v n).map (Value.int .i64)) n ((List.replicate m v).map (Value.int .i64)))(c:w.heap[nb]?=some (.cells ((tw v n).map (Value.int .i64)).toArray 2 (0,0)))(hm:0<m)(h:n+m<=12)(hB:B<=nb):w'.heap[nb]?=some (.cells ((tw v (n+m)).map (Value.int .i64)).toArray 2 (0,0))/\Below B w w':=by
 rcases b with⟨h0,_⟩|rfl
 ·have:=congrArg List.length h0;simp at this
  omega
 ·rw[rY,GY v n m h];exact⟨setRow_heap w nb _ _ _ _ c,⟨rfl,rfl,rfl,by simp[World.setRow],fun k hk=>setRow_other w nb k _ aa⟩⟩
theorem G1 (w:aw)(b:Nat)(v:Int)(hc:w.cell? (ao b 0)=some (ak v)):
 Calls prog 88 #[.slice (an b) 1 1,ak 12] w fun e w'=>∃nb,e=.returned (.slice (an nb) 12 12)/\w.heap.size<=nb/\w'.heap[nb]?=some (.cells ((tw v 12).map (Value.int .i64)).toArray 2 (0,0))/\Below w.heap.size w w':=by
 obtain⟨l,hi,F,N,S⟩:=info_parts vM;have lb:=aM w _ hc;go_enter func88,ntmps88;go_wp2_with fail;refine(GX w).mono ?_;rintro e w0 ⟨rfl,hw⟩
 have hw:=hw.symm;subst hw
 go_upto_region 7 with(at_make;refine wpList_make_full _ rfl _ _ 53 rfl w.heap.size 2 l (ak 0) 1 underlying53 hi F N .i64 .i64 _ _ 12 rfl rfl aa aa (by rw[S];omega) (by unfold maxLen;omega) bY ?_;intro w1 W ab)
 have ad:w1.heap[w.heap.size]?=some (.cells ((tw v 0).map (Value.int .i64)).toArray 2 (0,0)):=by simpa[tw] using(vN W)
 have f:=(aE _ w).grown ab bY (fun _ h=>by cases h)
 have o:=hide (one_cell ((f.cell (p:=ao b 0) lb).trans hc))
 have g:=hide ad;have c:ay (((List.replicate 1 v).map (Value.int .i64)).length=Nat.min 1 12):=rfl;have d:ay (0+((List.replicate 1 v).map (Value.int .i64)).length<=((tw v 0).map (Value.int .i64)).length):=by show _<=_;rw[aU,aU,t1 v 0 aa];simp
 go_wp2_with (refine tZ rfl _ _ 53 53 2 rfl underlying53 rX (an w.heap.size) (an b) 12 12 1 1 rfl rfl w.heap.size 0 ((tw v 0).map (Value.int .i64)) 2 g.o ((List.replicate 1 v).map (Value.int .i64)) c.o (fun _=>⟨rfl,_,rfl,o.o⟩) d.o (oo _) ?_;intro aF q)
 obtain⟨s,t⟩:=zs (B:=w.heap.size) q g.o aa aa bY
 have u:=f.trans t;clear q o g c d f t
 go_loopw [8] (fun nv wr=>∃n:Nat,1<=n/\n<=12/\nv=ak n/\ay (wr.heap[w.heap.size]?=some (.cells ((tw v n).map (Value.int .i64)).toArray 2 (0,0)))/\Below w.heap.size w wr) (fun nv _=>12-(intOf nv).toNat)
 exact⟨1,aD _,aa,rfl,s,u⟩
 ·
   clear s u;obtain⟨n,n1,x,rfl,i,hb⟩:=hrel;by_cases aR:n<12
   ·obtain⟨m,hm,ag,j,ai⟩:∃m,m=Nat.min n (12-n)/\0<m/\n+m<=12/\m<=n:=⟨_,rfl,by simp only [Nat.min_def];split<;>omega,by simp only [Nat.min_def];split<;>omega,by simp only [Nat.min_def];split<;>omega⟩
    have k:=hide i.o;have c:ay (((List.replicate m v).map (Value.int .i64)).length=Nat.min n (12-n)):=by show _=_;rw[<-hm];simp
    have d:ay (n+((List.replicate m v).map (Value.int .i64)).length<=((tw v n).map (Value.int .i64)).length):=by show _<=_;rw[aU,aU,t1 v n x];simpa using j
    have aT:¬12=n:=aa;have l:(0:Int)<=(n:Int):=aa;have aV:(n:Int)<=12:=aa;have a0:(n:Int)<12:=aa;clear i;go_wp2_with fail
    go_region_law (refine pV rfl (.tmp 41) (.tmp 44) 53 53 2 rfl underlying53 rX (some ⟨w.heap.size,n,none⟩) (an w.heap.size) (12-n) (12-n) n 12 ?_ ?_ w.heap.size n ((tw v n).map (Value.int .i64)) 2 k.o ((List.replicate m v).map (Value.int .i64)) c.o (fun _=>⟨rfl,_,rfl,(hide (G0 k.o x m ai)).o⟩) d.o (oo _) ?_;(simp[Act.eval,Act.put]);(simp[Act.eval,Act.put]);intro w3 al)
    obtain⟨ap,ar⟩:=zs (B:=w.heap.size) al k.o ag j bY
    have ax:=hide ap;have aB:=hb.drew.trans ar;have hw:IntKind.i64.wrap ((n:Int)+(m:Int))=((n+m:Nat):Int):=by rw[bw];omega
    simp[Act.put,go_sem,Exit.inBlock];rw[<-hm,hw];refine⟨⟨_,_,_,_,_,_,_,_,_,_,_,_,_,_,?rel,rfl⟩,?measure⟩
    exact⟨n+m,aa,j,rfl,ax,aB⟩
    simp[intOf];omega
   ·obtain rfl:n=12:=aa;go_wp2_with fail;go_ret;exact⟨w.heap.size,rfl,aD _,i.o,hb⟩
theorem G2 (n o:Nat)(w:aw)(h0:16<=n)(b1:n<=256)(b2:o<=1024):
 Calls prog 38 #[ak n,ak o] w fun e w'=>∃pw p q pc cQ s nb,e=.returned (.tuple #[am pw,.agg #[ak 0,ak 0]])/\hG w' pw p q pc cQ n o 0 0 (List.replicate (n+o) 0) (dY o) [] (am s) (.slice (an nb) 12 12)/\w'.heap[s]?=some (.cells #[.slice none 0 0,.slice none 0 0] 153 (0,0))/\w'.heap[nb]?=some (.cells ((tw 2 12).map (Value.int .i64)).toArray 2 (0,0))/\
  (w.heap.size<=pw/\w.heap.size<=p/\w.heap.size<=q/\w.heap.size<=pc/\w.heap.size<=cQ/\w.heap.size<=s/\w.heap.size<=nb)/\Below w.heap.size w w':=by
 have P:=BL n o (w.alloc (.cells #[.int .i64 0,.int .i64 0] 28)) aa aa aa aa;simp only [Int.toNat_natCast] at P;go_enter func38,ntmps38;go_wp2_with fail;refine P.mono ?_;clear P;rintro e w1 ⟨p,q,rfl,S,hp,hq,m⟩
 have W:=(m.block w.heap.size ac).trans (aN w (.cells #[.int .i64 0,.int .i64 0] 28))
 have a0:=(aq w (.cells #[.int .i64 0,.int .i64 0] 28)).trans (m.mono ac)
 simp at hp hq;have a1:=m.size;simp at a1;have u:=S.alloc (.cells #[.int .i64 0,.int .i64 0] 28)
 have B:=aq w1 (.cells #[.int .i64 0,.int .i64 0] 28)
 clear m;go_wp2_with fail;refine(me _ u).mono ?_;rintro e w3 ⟨rfl,j⟩
 have ab:=u.below j bY
 have a2:=(a0.trans (B.mono aa)).trans (j.mono (by simp;omega))
 have a3:=j.size;simp at a3;have ad:=((j.block w.heap.size (by simp;omega)).trans (B.block w.heap.size aa)).trans W;clear S u j B W;go_wp2_with fail;refine(Cg n o w3 aa).mono ?_;rintro e d ⟨pc,cQ,rfl,ag,b3,b4,l⟩
 have ai:=ab.below l bY
 have bb:=a2.trans (l.mono aa)
 have b5:=l.size;have al:=(l.block w.heap.size aa).trans ad;clear ab l ad;go_wp2_with fail;have i:=aq d (.cells #[.slice none 0 0,.slice none 0 0] 153)
 have F:=aN d (.cells #[.slice none 0 0,.slice none 0 0] 153)
 refine(rL _).mono ?_;rintro e N ⟨rfl,hw⟩
 have bd:N.heap.size=d.heap.size+1:=by rw[hw];simp
 rw[<-hw] at i F;clear hw;have ap:=ai.below i bY
 have ar:=ag.below i bY
 have be:=bb.trans (i.mono aa)
 have ax:=(i.block w.heap.size aa).trans al;clear ai ag al i;go_wp2_with fail;have aB:=aq N (.cells #[.int .i64 2] 2)
 refine(G1 _ (d.heap.size+1) 2 (by rw[<-bd];simp)).mono ?_;rintro e c ⟨nb,rfl,aF,aR,aT⟩
 have f:=aB.trans (aT.mono ac)
 have bg:=ap.below f bY
 have bi:=ar.below f bY
 have bl:=be.trans (f.mono aa)
 have t:=(f.block w.heap.size aa).trans ax;have bn:=(f.block d.heap.size aa).trans F;have b6:=f.size;have b7:w.heap.size<nb:=by simp at aF;omega
 have b8:=lt_of_some aR;have y0:c.cell? (ao w.heap.size 0)=some (ak 0):=aA t
 have y1:c.cell? (ao w.heap.size 1)=some (ak 0):=aA t
 have bo:c.frozen? (ao w.heap.size 0)=false:=aC t
 have bp:c.frozen? (ao w.heap.size 1)=false:=aC t
 have br:w.heap.size<c.heap.size:=aa;clear ap ar ax F aT f aB aF;go_wp2_with fail;obtain⟨b,hW0⟩:∃b,b=(c.setCell ⟨w.heap.size,0,none⟩ (.int .i64 0)).setCell ⟨w.heap.size,1,none⟩ (.int .i64 0):=⟨_,rfl⟩
 rw[<-hW0];have bs:b.heap.size=c.heap.size:=by rw[hW0];simp[World.setCell]
 have k0:∀k,k≠w.heap.size->b.heap[k]?=c.heap[k]?:=fun k hk=>by rw[hW0];exact(aP _ _ _ _ hk).trans (aP _ _ _ _ hk)
 have g0:b.cell? (ao w.heap.size 0)=some (ak 0):=by exact kS
 have g1:b.cell? (ao w.heap.size 1)=some (ak 0):=by rw[hW0];exact a8 _ _ _ ((a5 c ⟨w.heap.size,0,none⟩ ⟨w.heap.size,1,none⟩ _ ac).trans y1)
 have bt:Below w.heap.size w b:=by rw[hW0];exact bl.trans ((((Fr.refl (fun k=>k=w.heap.size) c).set w.heap.size 0 _ rfl).set w.heap.size 1 _ rfl).below (Nat.le_of_lt br) (fun x e=>by have e:x=w.heap.size:=e;omega))
 have aV:=aN b (.cells #[.pointer (some ⟨p,0,none⟩),.pointer (some ⟨pc,0,none⟩),.pointer (some ⟨d.heap.size,0,none⟩),.slice (some ⟨nb,0,none⟩) 12 12] 55)
 rw[bs] at aV;have g:=aq b (.cells #[.pointer (some ⟨p,0,none⟩),.pointer (some ⟨pc,0,none⟩),.pointer (some ⟨d.heap.size,0,none⟩),.slice (some ⟨nb,0,none⟩) 12 12] 55)
 have bx:=(bi.same (w':=b) (k0 pc aa) (k0 cQ aa)).below g bY
 have b0:=((g.block d.heap.size aa).trans (k0 _ aa)).trans bn;clear y0 y1 bo bp hW0;generalize b.alloc (.cells #[.pointer (some ⟨p,0,none⟩),.pointer (some ⟨pc,0,none⟩),.pointer (some ⟨d.heap.size,0,none⟩),.slice (some ⟨nb,0,none⟩) 12 12] 55)=b9 at*;refine bz (v:=.tuple #[am c.heap.size,.agg #[ak 0,ak 0]]) (by simp[results,results38,go_sem,((g.cell (p:=ao w.heap.size 0) (by show w.heap.size<_;omega)).trans g0),((g.cell (p:=ao w.heap.size 1) (by show w.heap.size<_;omega)).trans g1)]) rfl ⟨c.heap.size,p,q,pc,cQ,d.heap.size,nb,rfl,⟨aV,((bg.same (w':=b) (k0 p aa) (k0 q aa)).below g bY),bx⟩,b0,(((g.block nb aa).trans (k0 _ aa)).trans aR),⟨aa,aa,aa,aa,aa,aa,aa⟩,(bt.trans (g.mono aa))⟩
theorem G3 (n o:Int)(w:aw)(h:n<16\/256<n\/o<0\/1024<o):
 Calls prog 38 #[ak n,ak o] w fun e w'=>e=.returned (.tuple #[.pointer none,.agg #[ak 1,ak (-1)]])/\Below w.heap.size w w':=by
 have g:=aq w (.cells #[.int .i64 0,.int .i64 0] 28)
 have i:=aN w (.cells #[.int .i64 0,.int .i64 0] 28)
 have P:=BM n o (w.alloc (.cells #[.int .i64 0,.int .i64 0] 28)) h;go_enter func38,ntmps38;go_wp2_with fail;refine P.mono ?_;rintro e w1 ⟨rfl,d⟩
 have c:=(d.block w.heap.size ac).trans i;have hB1:=g.trans (d.mono ac)
 have j:=d.size;simp at j;have y0:w1.cell? (ao w.heap.size 0)=some (ak 0):=aA c
 have y1:w1.cell? (ao w.heap.size 1)=some (ak 0):=aA c
 have q:w1.frozen? (ao w.heap.size 0)=false:=aC c
 have s:w1.frozen? (ao w.heap.size 1)=false:=aC c
 have l1:w.heap.size<w1.heap.size:=aa;clear d i g c;go_wp2_with fail
 go_region_law (fail)
 all_goals
  obtain⟨b,hW0⟩:∃b,b=(w1.setCell ⟨w.heap.size,0,none⟩ (.int .i64 1)).setCell ⟨w.heap.size,1,none⟩ (.int .i64 (-1)):=⟨_,rfl⟩
  rw[<-hW0];have t:b.heap.size=w1.heap.size:=by rw[hW0];simp[World.setCell]
  have g0:b.cell? (ao w.heap.size 0)=some (ak 1):=by exact kS
  have g1:b.cell? (ao w.heap.size 1)=some (ak (-1)):=by exact r5
  have l:Below w.heap.size w b:=by exact zi
  have f:=(aq b (.cells #[.int .i64 1,.int .i64 (-1)] 28)).drew;have r0:=(f.cell (p:=ao w.heap.size 0) (by show w.heap.size<_;omega)).trans g0;have r1:=(f.cell (p:=ao w.heap.size 1) (by show w.heap.size<_;omega)).trans g1;have m:=l.trans (f.mono aa)
  generalize (b.alloc (.cells #[.int .i64 1,.int .i64 (-1)] 28)).drew=u at*;go_wp2_with fail;refine bz (v:=.tuple #[.pointer none,.agg #[.int .i64 1,.int .i64 (-1)]]) (by simp[results,results38,go_sem,r0,r1]) rfl ⟨rfl,m⟩
structure Wf (w:aw)(pw p q pc cQ sd nb N O y g:Nat)(ws:List Int)(c:Int)(M rs:List Int):Prop where
 h9:hG w pw p q pc cQ N O y g ws c M (am sd) (.slice (an nb) 12 12)
 G4:w.heap[sd]?=some (.cells #[.slice none 0 0,.slice none 0 0] 153 (0,0))
 rts:w.heap[nb]?=some (.cells (rs.map (Value.int .i64)).toArray 2 (0,0))
 rl:rs.length=12
 nq:nb≠q
section
variable {w w':aw}{pw p q pc cQ sd nb N O y g:Nat}{ws:List Int}{c:Int}{M rs:List Int}
theorem Wf.apart (h:Wf w pw p q pc cQ sd nb N O y g ws c M rs):(sd≠p/\sd≠q/\sd≠pc/\sd≠cQ)/\(nb≠p/\nb≠q/\nb≠pc/\nb≠cQ)/\nb≠pw/\nb≠sd:=by
 obtain⟨D,⟨j,k,hb,_⟩,_⟩:=h.h9.cd.hq;have f:=h.h9.ar.hp;have i:=h.h9.cd.hp;have d:=h.G4;have b:=h.rts;refine⟨⟨fun e=>?_,fun e=>?_,fun e=>?_,fun e=>?_⟩,⟨fun e=>?_,h.nq,fun e=>?_,fun e=>?_⟩,fun e=>?_,fun e=>?_⟩
 ·rw[e,f] at d;simp at d
 ·rw[e,h.h9.ar.hq] at d;simp at d
 ·rw[e,i] at d;simp at d
 ·rw[e,hb] at d;simp at d
 ·rw[e,f] at b;simp at b
 ·rw[e,i] at b;simp at b
 ·rw[e,hb] at b;simp at b
 ·rw[e,h.h9.blk] at b;simp at b
 ·rw[e,d] at b;simp at b
end
def t4:List Int:=fp (List.replicate 24 0) 0 (hw 1 2) 2
def qJ:List Int:=f7 16 3 0 t4 (ew 3 0) 1 20
def zt:List Int:=(tw 2 12).set 0 (ew 3 0)
theorem b1:dX 16 3 0 t4 (ew 3 0) 1=0:=by decide+kernel
theorem b2:stM 16 3 0 t4 (ew 3 0) 1 20 (dY 8) []=[]:=by decide+kernel
theorem b3:dX 16 3 0 qJ (ew 3 0) 1=0:=by decide+kernel
theorem b4:ld 16 3 0 qJ (cj (ew 3 0)+1+1)=20:=by decide+kernel
theorem b5:(fj 16 3 0 qJ [] zt).1=[(3,0),(0,0),(0,0),(0,0),(0,0),(0,0),(0,0),(0,0),(0,0),(0,0),(0,0),(0,0)]:=by decide+kernel
theorem b6:(fj 16 3 0 qJ [] zt).2.2=[(1,[(0,0),(1,5)])]:=by decide+kernel
theorem G5 {w w':aw}{pw p q pc cQ s nb n o:Nat}(b:hG w' pw p q pc cQ n o 0 0 (List.replicate (n+o) 0) (dY o) [] (am s) (.slice (an nb) 12 12))(hs:w'.heap[s]?=some (.cells #[.slice none 0 0,.slice none 0 0] 153 (0,0)))(c:w'.heap[nb]?=some (.cells ((tw 2 12).map (Value.int .i64)).toArray 2 (0,0)))(_:Below w.heap.size w w')(h0:16<=n):
 Wf w' pw p q pc cQ s nb n o 0 0 (List.replicate (n+o) 0) (dY o) [] (tw 2 12):=by
 refine⟨b,hs,c,ae,fun e=>?_⟩
 have:=b.ar.hq;rw[<-e,c] at this
 simp only [Option.some.injEq,Obj.cells.injEq,and_true] at this
 have d:=congrArg (fun a:Array Value=>a[0]?) this
 rw[show n+o=(n+o-1)+1 by omega] at d;simp[tw,List.replicate_succ] at d
theorem G6 {w:aw}{pw p q pc cQ sd nb N O y g:Nat}{ws M rs:List Int}(h:Wf w pw p q pc cQ sd nb N O y g ws (dY O) M rs)(m:rs.length=12)(k:w.heap[nb]?=some (.cells (rs.map (Value.int .i64)).toArray 2 (0,0)))(hs:w.heap[sd]?=some (.cells #[.slice none 0 0,.slice none 0 0] 153 (0,0))):
 ∃F,(fB ⟨pw,p,q,pc,sd,nb,N,O⟩).J F ⟨⟨y,g,ws,M,rs⟩,[],[]⟩ w/\∀b,F b->b=pw\/b=p\/b=q\/b=pc\/b=cQ\/b=sd\/b=nb:=by
 obtain⟨a1,a2,n,o,s,t,u,v⟩:=h.h9.apart;obtain⟨⟨s1,s2,x,s4⟩,⟨n1,B,S,n4⟩,W,ab⟩:=h.apart;have s5:sd≠pw:=fun e=>by have l:=h.h9.blk;rw[<-e,hs] at l;simp at l
 have ad:=h.h9.cd.eP;refine⟨fun b=>b=pw\/b=p\/b=q\/b=pc\/b=cQ\/b=sd\/b=nb,⟨fun b=>b=pw\/b=p\/b=q\/b=pc\/b=cQ\/b=sd\/b=nb,none,0,⟨fun b=>b=pw\/b=p\/b=q\/b=pc\/b=cQ\/b=nb,none,0,⟨fun b=>if b=p\/b=q then 1 else if b=pc\/b=cQ then 2 else if b=pw then 3 else if b=nb then 4 else 0,cQ,?_,fun b=>?_⟩,hs,a6 _ _ _ _,fun b c=>?_,aK (aK (aK (aK (aK (aL rfl))))),fun c=>?_,fun b e=>by simp[Value.ownBlock] at e,fun b c=>?_⟩,a6 _ _ _ _,fun b e=>by simp[Value.ownBlock] at e,fun b=>?_⟩,fun b c=>c⟩
 ·exact {
   ar:=h.h9.ar,cd:=h.h9.cd,wd:=h.h9.blk,rt:=k,rl:=m
   a1:=ac
   a2:=ac
   c1:=by simp[Ne.symm s,Ne.symm u]
   c2:=by simp[Ne.symm t,Ne.symm v]
   w1:=by simp[a1,a2,n,o]
   r1:=by simp[n1,B,S,n4,W]
   le:=fun b=>by
    split
    ·decide
    ·split
     ·decide
     ·split
      ·decide
      ·split<;>decide
   lt:=fun b c=>by
    have k1:=h.h9.ar.eO;have ag:=h.h9.ar.eP;have ai:=h.h9.cd.eO;have al:=lt_of_some h.h9.blk;have k5:=lt_of_some k;by_cases d:b=p\/b=q
    ·rcases d with e|e<;>(rw[e];assumption)
    ·rw[aH d] at c;by_cases f:b=pc\/b=cQ
     ·rcases f with e|e<;>(rw[e];assumption)
     ·rw[aH f] at c;by_cases i:b=pw
      ·rw[i];assumption
      ·rw[aH i] at c;by_cases j:b=nb
       ·rw[j];assumption
       ·rw[aH j] at c;exact absurd rfl c}
 ·dsimp only;by_cases d:b=p\/b=q
  ·rw[aJ d];rcases d with e|e<;>simp[e]
  ·rw[aH d];by_cases f:b=pc\/b=cQ
   ·rw[aJ f];rcases f with e|e<;>simp[e]
   ·rw[aH f];by_cases i:b=pw
    ·rw[aJ i];simp[i]
    ·rw[aH i];by_cases j:b=nb
     ·rw[aJ j];simp[j]
     ·rw[aH j];simp only [not_or] at d f;simp[d,f,i,j]
 ·rcases c with c|c|c|c|c|c
  ·exact aL c
  ·exact aK (aL c)
  ·exact aK (aK (aL c))
  ·exact aK (aK (aK (aL c)))
  ·exact aK (aK (aK (aK (aL c))))
  ·exact aK (aK (aK (aK (aK (aK c)))))
 ·rcases c with c|c|c|c|c|c
  ·exact s5 c
  ·exact s1 c
  ·exact s2 c
  ·exact x c
  ·exact s4 c
  ·exact ab c.symm
 ·rcases c with c|c|c|c|c|c|c
  ·rw[c];exact lt_of_some h.h9.blk
  ·rw[c];exact h.h9.ar.eO
  ·rw[c];exact h.h9.ar.eP
  ·rw[c];exact h.h9.cd.eO
  ·rw[c];exact ad
  ·rw[c];exact lt_of_some hs
  ·rw[c];exact lt_of_some k
 ·exact⟨aL,fun c=>c.elim id (fun e=>by simp[Value.ownBlock] at e)⟩
def iP (n o:Nat):co×cn:=(⟨⟨0,0,List.replicate (n+o) 0,[],tw 2 12⟩,[],[]⟩,⟨[],List.replicate 12 (0,0),[],[]⟩)
section
variable {c:j9}{F:Nat->Prop}{S:co×cn}{w:aw}
end
theorem zu {b:Type}{l:List b}{i:Nat}{x y:b}(h:y∈l.set i x):y∈l\/y=x:=List.mem_or_eq_of_mem_set h
def kE (N O y g:Nat)(ws M Y G:List Int):Prop:=
 ∀v∈G,∀i,0<=i->i<pf (ld N y g ws v)->c7 (ld N y g ws (v+1+i))=true->cj (ld N y g ws (v+1+i))∈Y->(fU N (dY O) v&&M.contains (cN N v))=true
section
variable {N O y g:Nat}{ws M Y G rs:List Int}
theorem kE.make (h:h7 N y g ws Y G rs)(hc:kE N O y g ws M Y G)(hl:ws.length=N+O){k f:Int}(hm:hC N y k f=true):kE N O (iC N y k f) g (eR N y k f ws) M (Y++[(y:Int)]) G:=by
 obtain⟨l,q⟩:=oq hm;have s:=iH k f l;have m:iC N y k f=y+1+f.toNat:=by unfold iC;rw[aJ hm]
 have n:eR N y k f ws=fp ws y (hw k f) f.toNat:=by unfold eR;rw[aJ hm]
 have hlt:y+f.toNat<ws.length:=aa;rw[m,n];intro v b i d c ha hy;have hi:=h.full.io v b;have o:ld N (y+1+f.toNat) g (fp ws y (hw k f) f.toNat) v=ld N y g ws v:=by exact qo
 rw[o] at c;have hb:=mU h.full b d c;have p:ld N (y+1+f.toNat) g (fp ws y (hw k f) f.toNat) (v+1+i)=ld N y g ws (v+1+i):=by exact zl
 rw[p] at ha hy;rcases List.mem_append.1 hy with j|j
 ·exact hc v b i d c ha j
 ·simp at j;rcases h.fd v (aK b) i d c ha with e|e
  ·have:=(h.full.im _ e).2;omega
  ·have:=(h.full.io _ e).1;omega
theorem zv {v:Int}(h0:(N:Int)<=v)(b:v<(N:Int)+g)(hg:g<=O):fU N (dY O) v=true:=by unfold fU dY;simp only [Bool.and_eq_true,decide_eq_true_eq];omega
theorem nV {x i z c:Int}(h:dX N y g ws x i≠0):f7 N y g ws x i z=ws/\stM N y g ws x i z c M=M:=by
 refine⟨by unfold f7;rw[aH h],?_⟩
 have e:mn N y g ws x i z=false:=by unfold mn;rw[bA h];rfl
 unfold stM;rw[e];rfl
theorem zw (h:d_ N y g ws Y G){u v i j:Int}(c:u∈G)(d:v∈G)(f:0<=i)(k:i<pf (ld N y g ws u))(j0:0<=j)(l:j<pf (ld N y g ws v))(e:u+1+i=v+1+j):u=v:=by
 rcases Int.lt_trichotomy u v with b|b|b
 ·have:=h.ej.apart u c v d b;omega
 ·exact b
 ·have:=h.ej.apart v d u c b;omega
theorem kE.set (h:h7 N y g ws Y G rs)(hc:kE N O y g ws M Y G)(hl:ws.length=N+O)(hN:N<=256)(hy:y<=N)(hO:O<=1024)(hg:g<=O)(x i z:Int):kE N O y g (f7 N y g ws x i z) (stM N y g ws x i z (dY O) M) Y G:=by
 by_cases m:dX N y g ws x i=0
 ·obtain⟨q,ab,t3,c⟩:=mR m;obtain⟨l1,l2⟩:=h.full.lists hN hy hO hg;have d:cj x∈Y\/cj x∈G:=by unfold tB at q;rw[l1,l2] at q;simpa using(bh _ _▸q:c7 x=true/\(Y.contains (cj x)||G.contains (cj x))=true).2
  rw[(h.full.stands hy d)] at c;have u:=jE h.full d t3 c;have ad:=jd u hy hg;have B:f7 N y g ws x i z=ws.set (cj x+1+i).toNat z:=by unfold f7;rw[aJ m,aJ u]
  obtain⟨ag,hk⟩:=h.full.set hl hy hg d t3 c;rw[B];have F:∀k,M.contains k=true->(stM N y g ws x i z (dY O) M).contains k=true:=fun k hk=>by
   unfold stM;split
   ·unfold kU;split
    ·rw[r6,hk];rfl
    ·exact hk
   ·exact hk
  intro v f j j0 n ha l;rw[hk v (aK f)] at n;have hi:=jE h.full (aK f) j0 n;have s:ld N y g (ws.set (cj x+1+i).toNat z) (v+1+j)=if(cj x+1+i).toNat=(v+1+j).toNat then z else ld N y g ws (v+1+j):=by rw[ee hi,ee hi,kQ _ _ _ _ aa]
  rw[s] at ha l;have o:=h.full.io v f;by_cases e:(cj x+1+i).toNat=(v+1+j).toNat
  ·rw[aJ e] at ha l;have t:cj x+1+i=v+1+j:=aa;have hz:=h.full.im _ l;have w:hB N g (cj x)=true:=by
    unfold hB;rw[decide_eq_true_eq];rcases d with b|b
    ·have p:=mT h.full b t3 c;omega
    ·have:=h.full.io _ b;omega
   have eo:=jc w;have S:mn N y g ws x i z=true:=by unfold mn;rw[ha,w,bq m];simp only [Bool.true_and,Bool.and_true];unfold hB;rw[decide_eq_true_eq];omega
   have W:cj x∈G:=by
    rcases d with b|b
    ·have:=h.full.im _ b;omega
    ·exact b
   rw[bh];refine⟨zv o.1 o.2 hg,?_⟩
   unfold stM;rw[aJ S,(zw h.full W f t3 c j0 n t),wy (zv o.1 o.2 hg),r6];simp
  ·rw[aH e] at ha l;have p:=hc v f j j0 n ha l;rw[bh] at p⊢;exact⟨p.1,F _ p.2⟩
 ·obtain⟨s,t⟩:=nV m;rw[s,t];exact hc
end
structure cJ (a:Wc)(s:eh):Prop where
 n0:16<=a.N
 n1:a.N<=256
 o1:a.O<=1024
 y1:s.y<=a.N
 g1:s.g<=a.O
 l1:s.ws.length=a.N+a.O
 r1:s.rs.length=12
structure eA (a:Wc)(s:eh)(Y G:List Int):Prop where
 inv:h7 a.N s.y s.g s.ws Y G s.rs
 cd:kE a.N a.O s.y s.g s.ws s.M Y G
section
variable {a:Wc}{s:eh}{Y G:List Int}
theorem eA.root (h:eA a s Y G)(k:Nat)(x:Int)(b:c7 x=true->cj x∈Y\/cj x∈G):eA a {s with rs:=s.rs.set k x} Y G:=⟨h.inv.root k x b,h.cd⟩
theorem eA.set (h:eA a s Y G)(hb:cJ a s)(k m:Nat)(hk:k<12)(i:Int)(hm:m<12):
 eA a {s with ws:=f7 a.N s.y s.g s.ws (s.rs.getD k 0) i (s.rs.getD m 0),M:=stM a.N s.y s.g s.ws (s.rs.getD k 0) i (s.rs.getD m 0) (dY a.O) s.M} Y G:=by
 refine⟨?_,kE.set h.inv h.cd hb.l1 hb.n1 hb.y1 hb.o1 hb.g1 _ _ _⟩
 by_cases b:dX a.N s.y s.g s.ws (s.rs.getD k 0) i=0
 ·obtain⟨f,l,t3,d⟩:=mR b;have g:c7 (s.rs.getD k 0)=true:=by rw[<-h.inv.tb hb.n1 hb.y1 hb.o1 hb.g1 k (by rw[hb.r1];exact hk)];exact f
  have e:=h.inv.at k (by rw[hb.r1];exact hk) g;rw[h.inv.full.stands hb.y1 e] at d;unfold f7;rw[aJ b,aJ (jE h.inv.full e t3 d)];exact h.inv.set hb.l1 hb.y1 hb.g1 e t3 d (fun j=>h.inv.at m (by rw[hb.r1];exact hm) j)
 ·rw[(nV (M:=s.M) (c:=dY a.O) b).1];exact h.inv
end
theorem zx {c:Type}(o:fG c)(is:c->Int->Bool)(kp:c->Int->Int×c)(hl:∀s x,(o.wt (kp s x).2).length=(o.wt s).length):∀(n:Nat)(s:c)(b:List b9),(o.wt (eJ (cm o is kp) n s b).1).length+(eJ (cm o is kp) n s b).2.length=(o.wt s).length+b.length
 |0,s,b=>rfl
 |n+1,s,b=>by
  have d:=sr o is kp hl s b;have e:=oj (cm o is kp) s b;by_cases h:(pts (cm o is kp) s b).1.length=0
  ·rw[lL _ _ _ _ h];dsimp only;omega
  ·rw[lM _ _ _ _ h,zx o is kp hl n];omega
theorem qK {b:Type}(o:fG b)(is:b->Int->Bool)(kp:b->Int->Int×b)(nw:b->Int->Int)(hl:∀s x,(o.wt (kp s x).2).length=(o.wt s).length)(s:b)(r:List b9):(eV o is kp nw s r).length+(eW o is kp nw s r).length<=r.length+(o.wt s).length:=by
 have c:=zx o is kp hl ((r.filter (fun e=>!is s e.2)).length+1) s (r.filter (fun e=>!is s e.2))
 have d:(eW o is kp nw s r).length<=(o.wt (fu o is kp s r)).length:=by unfold eW;rw[aU];exact bk _ _
 have f:(eV o is kp nw s r).length<=(r.filter (fun e=>is s e.2)).length:=by unfold eV;rw[aU];exact bk _ _
 have g:(r.filter (fun e=>is s e.2)).length+(r.filter (fun e=>!is s e.2)).length=r.length:=by
  clear c d f
  induction r with
  |nil=>rfl
  |cons e r i=>
   simp only [List.filter_cons];cases is s e.2<;>simp<;>omega
 have j:(o.wt (fu o is kp s r)).length<=(o.wt s).length+(r.filter (fun e=>!is s e.2)).length:=by unfold fu;omega
 omega
theorem G7 (a:Wc)(S:co):(S.cut a).r.length+(S.cut a).q.length<=S.r.length+S.q.length:=by
 unfold co.cut;split
 ·exact aD _
 ·have b:=qK (dM ck) (fun s x=>(S.s.k0 a).al s.1 x) _ (fun s x=>(S.s.k0 a).nw s.1 x) (fun s x=>tJ (S.s.k0 a) s x) (S.t3 a) S.r;have d:(S.t3 a).2.length=S.q.length:=by unfold co.t3 cf.sp;rw[o8]
  dsimp only;generalize S.t3 a=t at*;have c:(dM ck).wt t=t.2:=rfl;rw[c] at b;unfold cf.sR cf.i6;omega
end Go.Proofs.YtpkjkjhanlbcoaaGreat
