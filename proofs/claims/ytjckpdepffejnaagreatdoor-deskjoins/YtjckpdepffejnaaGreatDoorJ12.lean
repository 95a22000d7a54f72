import Derived.Test.YtjckpdepffejnaaGreatDoorJ11
open Array renaming size->I
open Bool renaming and_eq_true->nS,false->O4,true->C
open Go renaming splice->lF
open Go.Ending renaming returned->OV
open Go.Value renaming ownBlock->A,slice->Z
open Go.World renaming heap->OT
open Iff renaming rfl->gp
open Int renaming add_zero->Dn,toNat->O3
open List renaming append_nil->mq,contains->bJ,countP_eq_length_filter->Dx,getD->X,length->L,mem_append->bw,mem_append_left->kr,mem_append_right->ko,mem_cons->bQ,mem_singleton->bN,range->lg,set->KA
open Option renaming some->OR
namespace Go.Proofs.YtjckpdepffejnaaGreatDoor
set_option maxRecDepth 100000
set_option maxHeartbeats 4000000
open Tryz
open Go.RowKit W Kp ch
theorem AL {P:Prop}(h:P:=by
 have hH:=h.mi.fh _ hT g2;have hbd:=h.mi.jR hH;have hN:=h.mi.ci.hN';have hO:=h.mi.ci.hO;have hg:=h.mi.ci.hg;obtain⟨n,hn⟩:∃n:Nat,s.f (cq (k.l0 z (a+1+i)))=n:=⟨(s.f (cq (k.l0 z (a+1+i)))).toNat,aa⟩
 rw[g3,hn,(oy n aa).2,<-hn];exact List.mem_append_right _ hH):P:=h
def mr (N O y g:Nat)(ws M Y G:List Int):Prop:=
 ∀v∈G,∀i,0<=i->i<pf (ld N y g ws v)->di (ld N y g ws (v+1+i))=C->cq (ld N y g ws (v+1+i))∈Y->(gR N (dT O) v&&bJ M (cN N v))=C
section
variable {N O y g:Nat}{ws M Y G rs:List Int}
theorem mr.make (h:i8 N y g ws Y G rs)(hc:mr N O y g ws M Y G)(hl:L ws=N+O){k f:Int}(hm:jo N y k f=C):mr N O (jM N y k f) g (gH N y k f ws) M (Y++[(y:Int)]) G:=by
 obtain⟨j,p⟩:=qv hm;have q:=jK k f j;have l:jM N y k f=y+1+O3 f:=by grind [jM]
 have m:gH N y k f ws=gs ws y (hw k f) (O3 f):=by grind [gH]
 have s:y+O3 f<L ws:=aa;rw[l,m];intro v hv i c b ha hy;have hi:=h.full.io v hv;have n:ld N (y+1+O3 f) g (gs ws y (hw k f) (O3 f)) v=ld N y g ws v:=by grind [gg,iZ,j6]
 rw[n] at b;have hb:=oA h.full hv c b;have o:ld N (y+1+O3 f) g (gs ws y (hw k f) (O3 f)) (v+1+i)=ld N y g ws (v+1+i):=by grind [gg,iZ,j6]
 rw[o] at ha hy;rcases bw.1 hy with d|d
 ·exact hc v hv i c b ha d
 ·simp at d;rcases h.fd v (by grind) i c b ha with e|e
  ·have:=(h.full.jr _ e).2;omega
  ·have:=(h.full.io _ e).1;omega
theorem Iw {v:Int}(h0:(N:Int)<=v)(b:v<(N:Int)+g)(hg:g<=O):gR N (dT O) v=C:=by grind [gR,dT]
theorem pG {x i z c:Int}(h:eV N y g ws x i≠0):hI N y g ws x i z=ws/\stM N y g ws x i z c M=M:=by grind [hI,pj,stM]
theorem AM (h:ey N y g ws Y G){u v i j:Int}(b:u∈G)(hv:v∈G)(c:0<=i)(f:i<pf (ld N y g ws u))(j0:0<=j)(k:j<pf (ld N y g ws v))(e:u+1+i=v+1+j):u=v:=by
 rcases Int.lt_trichotomy u v with d|d|d
 ·have:=h.eC.apart u b v hv d;omega
 ·omega
 ·have:=h.eC.apart v hv u b d;omega
theorem mr.set (h:i8 N y g ws Y G rs)(hc:mr N O y g ws M Y G)(hl:L ws=N+O)(hN:N<=256)(hy:y<=N)(hO:O<=1024)(hg:g<=O)(x i z:Int):mr N O y g (hI N y g ws x i z) (stM N y g ws x i z (dT O) M) Y G:=by
 by_cases m:eV N y g ws x i=0
 ·obtain⟨t,u,t3,c⟩:=ox m;obtain⟨l1,l2⟩:=h.full.lists hN hy hO hg;have hv:cq x∈Y\/cq x∈G:=by grind [tB]
  rw[(h.full.mN hy hv)] at c;have n:=lK h.full hv t3 c;have w:=ku n hy hg;have o:hI N y g ws x i z=ws.set (O3 (cq x+1+i)) z:=by grind [hI]
  obtain⟨B,hk⟩:=h.full.set hl hy hg hv t3 c;rw[o];have F:∀k,bJ M k=C->bJ (stM N y g ws x i z (dT O) M) k=C:=λk hk=>by grind [uM,stM,mP]
  intro v l j j0 f ha b;rw[hk v (by grind)] at f;have hi:=lK h.full (by grind) j0 f;have p:ld N y g (ws.set (O3 (cq x+1+i)) z) (v+1+j)=if O3 (cq x+1+i)=O3 (v+1+j) then z else ld N y g ws (v+1+j):=by grind [gg]
  rw[p] at ha b;have S:=h.full.io v l;by_cases e:O3 (cq x+1+i)=O3 (v+1+j)
  ·rw[aN e] at ha b;have W:cq x+1+i=v+1+j:=aa;have hz:=h.full.jr _ b;have q:hB N g (cq x)=C:=by
    unfold hB;rw[decide_eq_true_eq];rcases hv with d|d
    ·have s:=oz h.full d t3 c;omega
    ·have:=h.full.io _ d;omega
   have eo:=kM q;have ab:pj N y g ws x i z=C:=by grind [pj,hB]
   have ad:cq x∈G:=by
    rcases hv with d|d
    ·have:=h.full.jr _ d;omega
    omega
   grind [Iw,AM,yY,uM,stM]
  ·rw[aJ e] at ha b;have s:=hc v l j j0 f ha b
   grind
 grind [pG]
end
structure cL (a:Wc)(s:eL):Prop where
 n0:16<=a.N
 n1:a.N<=256
 o1:a.O<=1024
 y1:s.y<=a.N
 g1:s.g<=a.O
 l1:L s.ws=a.N+a.O
 r1:L s.rs=12
structure eA (a:Wc)(s:eL)(Y G:List Int):Prop where
 inv:i8 a.N s.y s.g s.ws Y G s.rs
 cd:mr a.N a.O s.y s.g s.ws s.M Y G
section
variable {a:Wc}{s:eL}{Y G:List Int}
theorem eA.root (h:eA a s Y G)(k:Nat)(x:Int)(b:di x=C->cq x∈Y\/cq x∈G):eA a {s with rs:=s.rs.set k x} Y G:=⟨h.inv.root k x b,h.cd⟩
theorem eA.set (h:eA a s Y G)(hb:cL a s)(k m:Nat)(hk:k<12)(i:Int)(hm:m<12):
 eA a {s with ws:=hI a.N s.y s.g s.ws (X s.rs k 0) i (X s.rs m 0),M:=stM a.N s.y s.g s.ws (X s.rs k 0) i (X s.rs m 0) (dT a.O) s.M} Y G:=by
 refine⟨?_,mr.set h.inv h.cd hb.l1 hb.n1 hb.y1 hb.o1 hb.g1 _ _ _⟩
 by_cases b:eV a.N s.y s.g s.ws (X s.rs k 0) i=0
 ·obtain⟨g,j,t3,e⟩:=ox b;have f:di (X s.rs k 0)=C:=by rw[<-h.inv.tb hb.n1 hb.y1 hb.o1 hb.g1 k (by grind [cL.r1])];omega
  have hv:=h.inv.at k (by grind [cL.r1]) f;rw[h.inv.full.mN hb.y1 hv] at e;unfold hI;rw[aN b,aN (lK h.inv.full hv t3 e)];exact h.inv.set hb.l1 hb.y1 hb.g1 hv t3 e (λd=>h.inv.at m (by grind [cL.r1]) d)
 ·rw[(pG (M:=s.M) (c:=dT a.O) b).1];exact h.inv
end
theorem AN {b:Type}(o:gh b)(is:b->Int->Bool)(kp:b->Int->Int×b)(hl:∀s x,L (o.wt (kp s x).2)=L (o.wt s)):∀(n:Nat)(s:b)(d:List b8),L (o.wt (e5 (cm o is kp) n s d).1)+L (e5 (cm o is kp) n s d).2=L (o.wt s)+L d
 |0,s,d=>rfl
 |n+1,s,d=>by
  have c:=uS o is kp hl s d;have e:=qn (cm o is kp) s d;by_cases h:L (dF (cm o is kp) s d).1=0
  ·grind [og]
  ·rw[nh _ _ _ _ h,AN o is kp hl n];omega
theorem sD {b:Type}(o:gh b)(is:b->Int->Bool)(kp:b->Int->Int×b)(nw:b->Int->Int)(hl:∀s x,L (o.wt (kp s x).2)=L (o.wt s))(s:b)(r:List b8):L (fp o is kp nw s r)+L (fq o is kp nw s r)<=L r+L (o.wt s):=by
 have c:=AN o is kp hl (L (r.filter (λe=>!is s e.2))+1) s (r.filter (λe=>!is s e.2))
 have d:L (fq o is kp nw s r)<=L (o.wt (gu o is kp s r)):=by grind [fq]
 have f:L (fp o is kp nw s r)<=L (r.filter (λe=>is s e.2)):=by grind [fp]
 have g:L (r.filter (λe=>is s e.2))+L (r.filter (λe=>!is s e.2))=L r:=by
  clear c d f
  induction r with
  |nil=>rfl
  |cons e r i=>
   grind
 grind [gu]
theorem Ix (a:Wc)(S:cv):L (S.cut a).r+L (S.cut a).q<=L S.r+L S.q:=by
 unfold cv.cut;split
 ·omega
 ·have b:=sD (et cn) (λs x=>(S.s.k0 a).al s.1 x) _ (λs x=>(S.s.k0 a).nw s.1 x) (λs x=>vx (S.s.k0 a) s x) (S.t3 a) S.r;have c:L (S.t3 a).2=L S.q:=by simp[qB,cv.t3,cf.sp]
  dsimp only;generalize S.t3 a=t at*;have d:(et cn).wt t=t.2:=rfl
  grind [cf.sR,cf.j8]
theorem c8.pl {k:b_}{s:cy}(h:c8 k s)(hN:(0:Int)<=k.a.N):c8 k (k.pl s).1:=by
 obtain⟨P,_,b,d⟩:=qP k (λc=>!(s.f c==-1)) k.T (s,k.a.N) h.nd (λc _=>rfl)
 have P:Pos (λc=>pf (k.ld c)) (λc=>!(s.f c==-1)) (k.pl s).1.f k.a.N k.T (k.pl s).2:=P;have b:(k.pl s).1.td=s.td:=b;have d:(k.pl s).1.ep=s.ep:=d;have f:k.lost (k.pl s).1<=k.lost s:=by
  unfold b_.lost;rw[<-Dx,<-Dx];refine List.countP_mono_left (λc hc e=>?_)
  cases q:(s.f c==-1)
  ·have:=(P.bd (λc=>(du _).1) c hc (by rw[q];rfl)).1;have e:(k.pl s).1.f c=-1:=by simpa using e
   omega
  ·rfl
 have:=h.sum;exact⟨h.nd,h.ps,by rw[b];exact h.td,by rw[d];exact h.ep,h.tl,by rw[b,d];omega⟩
theorem sE {b c:Type}(g:b->c)(fm:b->Int->Int)(st:b->Int->b)(h:∀t a,g (st t a)=g t):∀(l:List Int)(t:b),g (iH fm st t l)=g t
 |[],_=>rfl
 |a::l,t=>by
  have e:iH fm st t (a::l)=iH fm st (fW fm st t a) l:=rfl;rw[e,sE g fm st h l];unfold fW;split
  ·rfl
  ·exact h t a
theorem AO (k:b_)(s:cy):∀n,(k.gJ s n).a=k.a
 |0=>rfl
 |n+1=>AO k s n
theorem AP (k:b_)(s:cy)(a:Int):∀n,(k.iu s a n).a=k.a
 |0=>rfl
 |n+1=>AP k s a n
theorem Iy (k:b_)(s:cy):(k.fK s).a=k.a:=by
 unfold b_.fK b_.pC;rw[sE (λk:b_=>k.a) _ _ (λt a=>?_)]
 ·exact AO k s 12
 ·unfold b_.kX;rw[AP];exact(vW t s a).1
theorem Iz (k:b_)(s:cy):(k.sl s).a=k.a:=by
 have b:(k.mW s k.G).1.a=k.a:=sE (λt:b_×Int=>t.1.a) (λ_ a=>s.f a) (b_.jQ s) (λ_ _=>rfl) k.G (k,0)
 have c:(k.sl2 s).a=(k.sl1 s).a:=sE (λt:b_=>t.a) (fun(_:b_) a=>s.f a) (λk a=>k.cop a) (λ_ _=>rfl) k.Y (k.sl1 s)
 have d:(k.sl s).a=(k.sl2 s).a:=rfl;have e:(k.sl1 s).a=(k.mW s k.G).1.a:=rfl;rw[d,c,e,b]
theorem AQ {c:fR}{k:b_}{vt f:Value}{F:Nat->Prop}{s:cy}{w:az}(h:(c9 c k vt f).J F s w):∃e,(eH k.a).J e k.s w/\∀b,e b->F b:=by obtain⟨e,own,h,g⟩:=h;exact⟨e,h.wd,λb d=>(g b).2 (by rw[(h.w1 b).1 d];decide)⟩
section
variable {a:Wc}{F:Nat->Prop}{S:cv}{w:az}
theorem IA (h:(gC a).J F S w)(hq:L S.q+L S.r<=90000)(db:S.gD a=O4->∃G,je (S.k5 a) (S.d_ a) G/\G 0 (S.k5 a,0)):
 Calls prog 129 #[aq a.pw] w λe w'=>∃f,e=OV (ak (S.jf a))/\(gC a).J f (S.dR a) w'/\b9 F w f w':=by
 obtain⟨dc,ar,bi,ca,ai,B,i⟩:=h;obtain⟨u,ad,cap,g1,g2,g3,g4,g5,al,v,bl⟩:=ca;have dd:=cg db;have ef:=(l_ g1).1;have N:=Ec g1 g2 g3 ai g4 g5 al;have cw:=jm v bl B i;have de:=Is (S:=S) g1 ⟨g2,ai,g3⟩ aa aa;have cx:aA (S.jf a=if S.gD a=C then 3 else 0):=rfl;have cz:aA (S.dR a=if S.gD a=C then S else⟨(S.k6 a).s,(S.k5 a).tR (S.cM a,S.q3 a) (S.r3 a),(S.k5 a).i7 (S.cM a,S.q3 a) (S.r3 a)⟩):=rfl;go_enter func129,ntmps129;go_wp2_with fail;refine de.mono ?_;rintro e w1 ⟨c,br,am,cA,rfl,df,dg,dh,di,dk⟩
 have dl:aA (b9 u w cA w1):=⟨Fr.of dk,di⟩
 have bn:=cU dg dh;obtain⟨dm,⟨dn,bo⟩,dp⟩:=jO df;have bo:=bo;have dq:=HH dn bo;have dr:aA (∀j t w',(e_ c (S.s.j0 a)).J j t w'->c8 (S.s.j0 a) t->b9 dm w1 j w'->∃f,(dj (eu c (S.s.j0 a)) c.bs (Z br (L S.r) am)).J f (t,S.q) w'/\b9 cA w1 f w'):=λj t w' q1 W q3=>dp (eu c (S.s.j0 a)) j t w' ⟨q1,W⟩ q3;have ds:=cg (dC.cO bo 12).fG;go_wp2_with fail;refine dq.mono ?_;rintro e dt ⟨j,rfl,du,dv⟩
 obtain⟨eg,dx,cB⟩:=dr.o j _ dt du ds.o dv;have cC:=Ah (c:=c) rfl dx (by show L S.q<=90000;omega)
 have cb:=cU (dl.o.trans cB) cB;go_wp2_with fail;refine cC.mono ?_;clear cC;rintro e g ⟨cc,rfl,aR,cd⟩
 have aR:=aR;obtain⟨eh,⟨⟨ei,ej,dy⟩,ek⟩,_⟩:=jO aR;obtain⟨_,_,_,_,cD,_⟩:=e3 dy;have dz:=aT g _ cD;have hd:=(ax g).drew;have ab:aA ((dj (eu c (S.s.j0 a)) c.bs (Z br (L S.r) am)).J cc (S.j2 a) g.drew/\b9 u w cc g.drew/\g.drew.ownsRow 0 247 2 (Z br (L S.r) am) (L S.r) (ev S.r)/\(∀b,cc b->b<I (OT g))/\I (OT w)<=I (OT g)):=by
  have cE:=cb.o.2.trans cd;refine⟨(dj (eu c (S.s.j0 a)) c.bs (Z br (L S.r) am)).below aR hd,(cb.o.1.trans cd).below hd,?_,(dj (eu c (S.s.j0 a)) c.bs (Z br (L S.r) am)).lt aR,(cb.o.1.trans cd).fr.size⟩
  exact cK bn.o.1 (λb e=>(hd.block b (aL (cu bn.o.1 b e).2 cE.fr.size)).trans (cE.fr.block b (cu bn.o.1 b e).2 (bn.o.2 b e).1))
 have dA:L (S.j2 a).2+L S.r<=90000:=by have:L (S.j2 a).2=L S.q:=qK _ _ _;omega
 have dB:aA (∀m,Below (I (OT g.drew)) g.drew m->m.heap[I (OT g)]?=OR (dw c)->m.heap[I (OT g)+1]?=OR (kz (nu c))->Calls prog 179 #[aq c.bs,.agg #[(jF (I (OT g))).v,(i4 (I (OT g)+1)).v,(ka c).v]] m λe w'=>∃a1 c1 f,e=OV (.tuple #[])/\(dj (eu c (S.s.j0 a)) c.bs (Z a1 (L (S.r3 a)) c1)).J f (S.cI a,S.q3 a) w'/\w'.ownsRow 0 247 2 (Z a1 (L (S.r3 a)) c1) (L (S.r3 a)) (ev (S.r3 a))/\(∀b,OR b=A (Value.slice a1 (L (S.r3 a)) c1)->¬f b/\I (OT m)<=b)/\b9 u w f w'/\I (OT w)<=I (OT m)):=λm ag ce cf=>by
  have hs:I (OT g.drew)=I (OT g):=rfl;refine(HG (t:=S.j2 a) (r:=S.r) rfl ((dj (eu c (S.s.j0 a)) c.bs (Z br (L S.r) am)).below ab.o.1 ag) (cK ab.o.2.2.1 (λb e=>ag.block b (cu ab.o.2.2.1 b e).2)) dA (I (OT g)) (I (OT g)+1) aa ce cf (λd=>by have:=ab.o.2.2.2.1 _ d;omega) (λd=>by have:=ab.o.2.2.2.1 _ d;omega)).mono ?_;rintro e w' ⟨a1,c1,f,rfl,q1,W,q3,dD,dE⟩
  have ch:=ab.o.2.1.below ag;have el:=ab.o.2.2.2.2;have em:=ag.size;refine⟨a1,c1,f,rfl,q1,W,q3,⟨ch.fr.trans dD (λb d=>?_),λb d=>?_⟩,aa⟩
  ·rcases d with d|d|d
   ·exact ch.sub b d
   ·exact aI aa
   ·exact aI aa
  ·exact(dE b d).elim (ch.sub b) (λd=>aI aa)
 go_wp2_with fail
 go_region_held3 (λw'=>w'.cell? (av c.pk 4)=OR (aq c.bs)) (go_keep)
  (first
    |(go_at_call 189;refine(vO (nu c) g.drew c.pk).mono ?_;rintro e m ⟨rfl,ce,cf,ag⟩;have en:=(ag.cell (p:=av c.pk 4) dz).trans cD;have ci:=ge ce cf ag)
    |(go_at_call 179;refine(dB.o m ci.o.2.2 ci.o.1 ci.o.2.1).mono ?_;rintro e dF ⟨a1,c1,dG,rfl,cF,dH,cG,dI,dJ⟩;obtain⟨_,⟨⟨cH,cI,aV⟩,_⟩,_⟩:=jO cF;obtain⟨_,_,_,_,eo,_⟩:=e3 aV;have an:aA (_/\_/\(∀b,OR b=A (Value.slice a1 (L (S.r3 a)) c1)->¬dG b/\I (OT w)<=b)/\_):=⟨cF,dH,λb e=>⟨(cG b e).1,aQ dJ (cG b e).2⟩,dI⟩))
 all_goals
  obtain⟨Fm,⟨⟨cH,cI,aV⟩,a0⟩,dK⟩:=jO an.o.1;have a0:=a0;have aV:=aV;have cJ:=HR aV a0.tl a0.ps;have dL:=cg (a0.pl aa)
  have cL:aA (((S.s.j0 a).pl (S.cI a)).2-(S.s.j0 a).a.N=S.n4 a/\((S.s.j0 a).pl (S.cI a)).1=S.cM a):=⟨rfl,rfl⟩
  rw[cL.o.1,cL.o.2] at cJ;have dM:aA (∀j w' vt ao,(c9 c (S.s.j0 a) vt ao).J j (S.cM a) w'->b9 Fm dF j w'->_):=λj w' vt ao q1 q3=>dK (eu c (S.s.j0 a)) j (S.cM a) w' ⟨⟨vt,ao,q1⟩,dL.o⟩ q3;go_wp2_with fail;refine cJ.mono ?_;rintro e bp ⟨dN,rfl,cM,dO⟩
  obtain⟨bs,dP,ck⟩:=dM.o dN bp cH cI cM dO;have cN:=HL cM;have dQ:aA ((S.s.j0 a).a.O=a.O):=rfl;rw[dQ.o] at cN;have bb:aA ((dj (eu c (S.s.j0 a)) c.bs (Z a1 (L (S.r3 a)) c1)).J bs (S.cM a,S.q3 a) bp/\b9 u w bs bp/\bp.ownsRow 0 247 2 (Z a1 (L (S.r3 a)) c1) (L (S.r3 a)) (ev (S.r3 a))/\∀b,OR b=A (Value.slice a1 (L (S.r3 a)) c1)->¬bs b):=by refine⟨dP,an.o.2.2.2.trans ck,iq an.o.2.1 ck.fr (λb e=>(an.o.2.2.1 b e).1),λb e d=>(ck.sub b d).elim (an.o.2.2.1 b e).1 (λd=>by have:=(cu an.o.2.1 b e).2;omega)⟩
  go_wp2_with fail;refine cN.mono ?_;rintro e bt ⟨rfl,cl⟩
  have n:=jm ((dj (eu c (S.s.j0 a)) c.bs (Z a1 (L (S.r3 a)) c1)).below bb.o.1 cl) (bb.o.2.1.below cl) (cK bb.o.2.2.1 (λb e=>cl.block b (cu bb.o.2.2.1 b e).2)) bb.o.2.2.2;by_cases cm:(a.O:Int)<S.n4 a
  ·have ap:S.gD a=C:=bm cm;have cn:aA (∃f,(gC a).J f (S.dR a) bt/\b9 F w f bt):=by
    have bd:=cz.o;rw[aN ap] at bd;rw[bd];obtain⟨_,⟨⟨vt,ao,cO⟩,_⟩,_⟩:=jO n.o.1;obtain⟨ep,eq,er,⟨⟨vt,ao,cO⟩,_⟩,_,_,co,_⟩:=n.o.1;obtain⟨l,q1,W⟩:=AQ cO;have q1:=q1;have T:b9 u w l bt:=n.o.2.1.less (λb d=>co b (W b d))
    obtain⟨g1,g2,g3,ai,g4,g5,al⟩:=N.o;obtain⟨v,bl,B,i⟩:=cw.o;obtain⟨es,_,ew⟩:=jO (o:=eH a) (F:=dc) (t:=(S.s,S.q)) (w:=w) (p:=a.sd) (vr:=Z ar (L S.r) bi) ⟨u,ad,cap,g1,g2,g3,g4,g5,al,v,bl⟩
    have cP:=cj g2;refine⟨λb=>(l b\/b=a.sd\/OR b=A (Value.slice ad (L S.q) cap))\/OR b=A (Value.slice ar (L S.r) bi),⟨λb=>l b\/b=a.sd\/OR b=A (Value.slice ad (L S.q) cap),ar,bi,⟨l,ad,cap,q1,(T.fr.block _ cP al).trans g2,iq g3 T.fr (λb e=>(v b e).2),λb d=>aK d,aI (aK rfl),λd=>(T.sub _ d).elim al (λd=>by omega),λb e=>⟨aI (aI e),λd=>(T.sub b d).elim (v b e).2 (λd=>by have:=(cu g3 b e).2;omega)⟩,λb d=>?_⟩,iq ai T.fr (λb e d=>B b e (g4 b d)),λb e d=>?_,λb=>gp⟩,⟨T.fr.mono (λb d=>(i b).2 (aK (g4 b d))),λb d=>?_⟩⟩
    ·rcases d with d|d|d
     ·exact(eH a).lt q1 b d
     ·have:=T.fr.size;omega
     ·have:=(cu g3 b d).2;have:=T.fr.size;omega
    ·have ex:=(cu ai b e).2;rcases d with d|d|d
     ·exact(T.sub b d).elim (λd=>B b e (g4 b d)) (λd=>by omega)
     ·exact B b e (by rw[d];exact g5)
     ·exact B b e (v b d).1
    ·rcases d with(d|d|d)|d
     ·exact(T.sub b d).imp (λd=>(i b).2 (aK (g4 b d))) id
     ·exact aK ((i b).2 (aK (by rw[d];exact g5)))
     ·exact aK ((i b).2 (aK (v b d).1))
     ·exact aK ((i b).2 (aI d))
   have be:=cx.o;rw[aN ap] at be;have cp:=cg be;have ey:decide ((a.O:Int)<S.n4 a)=C:=bm cm;go_wp2_with fail;go_ret;obtain⟨f,cq,j2⟩:=cn.o;exact⟨f,by rw[cp.o];rfl,cq,j2⟩
  ·have ap:S.gD a=O4:=bk cm;obtain⟨cQ,dR,dS⟩:=dd.o ap;have cR:aA (je (S.k5 a) (S.d_ a) cQ/\cQ 0 (S.k5 a,0)):=⟨dR,dS⟩
   have dT:L (S.q3 a)+L (S.r3 a)<=90000:=by have ca:=sD (et cy) (λs x=>(S.s.j0 a).al s.1 x) (S.s.j0 a).ke (λs x=>(S.s.j0 a).nw s.1 x) (λs x=>sv (S.s.j0 a) s x) (S.j2 a) S.r;have dU:(et cy).wt (S.j2 a)=(S.j2 a).2:=rfl;have dV:S.r3 a=fp (et cy) (λs x=>(S.s.j0 a).al s.1 x) (S.s.j0 a).ke (λs x=>(S.s.j0 a).nw s.1 x) (S.j2 a) S.r:=rfl;have dW:S.q3 a=fq (et cy) (λs x=>(S.s.j0 a).al s.1 x) (S.s.j0 a).ke (λs x=>(S.s.j0 a).nw s.1 x) (S.j2 a) S.r:=rfl;rw[dU,<-dV,<-dW] at ca;omega
   have dX:¬bs a.sd:=λd=>(n.o.2.1.sub _ d).elim N.o.2.2.2.2.2.2 (λd=>by have:=cj N.o.2.1;omega)
   have cS:=H4 (k:=S.s.j0 a) (t:=(S.cM a,S.q3 a)) rfl n.o.1 n.o.2.2.1 n.o.2.2.2 dT (v1:=Z ar (L S.r) bi) (v2:=Z ad (L S.q) cap) ((n.o.2.1.fr.block a.sd (cj N.o.2.1) N.o.2.2.2.2.2.2).trans N.o.2.1) dX;have dY:aA ((S.s.j0 a).fK (S.cM a)=S.k5 a):=rfl;rw[dY.o] at cS;go_wp2_with fail;refine cS.mono ?_;rintro e cT ⟨a2,c2,dZ,rfl,d0,cV,cW,d1,d2,d3,d4⟩
   have d5:aA (Fr (λb=>u b\/b=a.sd) w cT/\(∀b,dZ b->u b\/I (OT w)<=b)/\I (OT w)<=I (OT bt)):=by
    have T:=n.o.2.1;have z:=T.fr.size;refine⟨(T.fr.mono (λb d=>aK d)).trans d3 (λb d=>?_),λb d=>(d4 b d).elim (T.sub b) (λd=>aI aa),z⟩
    rcases d with d|d
    ·exact(T.sub b d).imp aK id
    ·exact aK (aI d)
   obtain⟨cX,bx,b0,⟨⟨vt,ao,cr⟩,b7⟩,cs,cY,co,ez,eA,cZ,d6⟩:=d0;have cr:=cr;have b7:=b7;have c0:=Ih cR.o.1 cR.o.2 cr b7.tl b7.ps;have d7:aA ((S.k5 a).sl (S.d_ a)=S.k6 a):=rfl;rw[d7.o] at c0;obtain⟨bg,c3⟩:∃bg,(S.k5 a).tR (S.cM a,S.q3 a) (S.r3 a)=bg:=⟨_,rfl⟩
   obtain⟨aB,c4⟩:∃aB,(S.k5 a).i7 (S.cM a,S.q3 a) (S.r3 a)=aB:=⟨_,rfl⟩
   rw[c3] at cV cW cs;rw[c4] at cs cY cZ;have d8:=ql (d1.trans cs) cY co d2 cZ d6;have d9:=cU cV cW;have c5:aA ((S.k5 a).tR (S.cM a,S.q3 a) (S.r3 a)=bg/\(S.k5 a).i7 (S.cM a,S.q3 a) (S.r3 a)=aB):=⟨c3,c4⟩
   go_wp2_with fail;refine c0.mono ?_;rintro e c6 ⟨eB,rfl,eb,aF⟩
   have cn:aA (∃f,(gC a).J f (S.dR a) c6/\b9 F w f c6):=by
    have bd:=cz.o;rw[aJ (by rw[ap];simp),c5.o.1,c5.o.2] at bd;rw[bd];obtain⟨l,q1,W⟩:=AQ eb;have ea:(S.k6 a).a=a:=by have ec:S.k6 a=(S.k5 a).sl (S.d_ a):=rfl;have ed:S.k5 a=(S.s.j0 a).fK (S.cM a):=rfl;rw[ec,Iz,ed,Iy];rfl
    rw[ea] at q1;obtain⟨b1,b2,b3,b4,b5,b6⟩:=d8.o;obtain⟨r1,ct⟩:=d9.o;obtain⟨c7,cv,t3⟩:=d5.o;obtain⟨g1,g2,g3,ai,g4,g5,al⟩:=N.o;obtain⟨v,bl,B,i⟩:=cw.o;have cP:=cj g2;have eC:=c7.size;have eD:=aF.fr.size;have b8:∀b,l b->cX b\/I (OT cT)<=b:=λb d=>aF.sub b (W b d)
    have da:¬cX a.sd:=λd=>b4 (b3 _ d)
    have ee:∀b,OR b=A (Value.slice a2 (L bg) c2)->¬(l b\/b=a.sd\/OR b=A (Value.slice bx (L aB) b0)):=λb e d=>by
     have q:=ct b e;rcases d with d|d|d
     ·exact(b8 b d).elim (λd=>q.1 (b3 b d)) (λd=>by have:=(cu r1 b e).2;omega)
     ·omega
     ·exact q.1 (b5 b d).1
    refine⟨λb=>(l b\/b=a.sd\/OR b=A (Value.slice bx (L aB) b0))\/OR b=A (Value.slice a2 (L bg) c2),⟨λb=>l b\/b=a.sd\/OR b=A (Value.slice bx (L aB) b0),a2,c2,⟨l,bx,b0,q1,(aF.fr.block _ aa da).trans b1,iq b2 aF.fr (λb e=>(b5 b e).2),λb d=>aK d,aI (aK rfl),λd=>(b8 _ d).elim da (λd=>by omega),λb e=>⟨aI (aI e),λd=>(b8 b d).elim (b5 b e).2 (λd=>by have:=(cu b2 b e).2;omega)⟩,λb d=>?_⟩,iq r1 aF.fr (λb e d=>(ct b e).1 (b3 b d)),ee,λb=>gp⟩,⟨(c7.trans aF.fr (λb d=>(cv b (b3 b d)).imp aK id)).mono (λb d=>?_),λb d=>?_⟩⟩
    ·rcases d with d|d|d
     ·exact(eH a).lt q1 b d
     ·omega
     ·have:=(cu b2 b d).2;omega
    ·rcases d with d|d
     ·exact(i b).2 (aK (g4 b d))
     ·exact(i b).2 (aK (by rw[d];exact g5))
    ·rcases d with(d|d|d)|d
     ·rcases b8 b d with d|d
      ·exact(cv b (b3 b d)).imp (λd=>(i b).2 (aK (g4 b d))) id
      ·exact aI aa
     ·exact aK ((i b).2 (aK (by rw[d];exact g5)))
     ·exact(cv b (b5 b d).1).imp (λd=>(i b).2 (aK (g4 b d))) id
     ·have:=(ct b d).2;exact aI aa
   have be:=cx.o;rw[aJ (by rw[ap];simp)] at be;have cp:=cg be;go_wp2_with fail;go_ret;obtain⟨f,cq,j2⟩:=cn.o;exact⟨f,by rw[cp.o];rfl,cq,j2⟩
end
theorem eR.next {L:Int->Int}{hi:Int}:∀{l:List Int}{a:Int},eR L hi a l->∀x∈l,x+(1+pf (L x))∈l\/x+(1+pf (L x))=hi
 |[],_,_,x,b=>by grind
 |y::l,a,h,x,b=>by
  obtain⟨e,_,_,ht⟩:=h;rcases bQ.1 b with d|d
  ·subst d;subst e
   match l,ht with
   |[],ht=>exact aI ht
   |c::f,ht=>
    obtain⟨g,_⟩:=ht
    grind
  ·exact(eR.next ht x d).imp (by grind) id
theorem AR {L:Int->Int}{hi:Int}:∀{l m:List Int}{a x y:Int},eR L hi a (l++m)->x∈l->y∈m->x<y
 |[],_,_,_,_,_,b,_=>by grind
 |u::l,m,a,x,y,h,b,hy=>by
  obtain⟨e,_,_,ht⟩:=h;have hp:=du (L a)
  rcases bQ.1 b with d|d
  ·have:=(ht.mem y (ko l hy)).1;omega
  ·exact AR ht d hy
structure LI (k:cf)(z:C0)(s:cn)(H D:List Int):Prop where
 mi:dK k z s H
 bo:s.nx∈H\/s.nx=(k.N:Int)+s.g
 lo:∀b∈H,b<s.nx->Lo k s b
 ld:∀b∈D,Lo k s b
 dg:∀b∈D,b∈z.G
section
variable {k:cf}{z:C0}{s t:cn}{H D:List Int}
theorem LI.l9 (h:LI k z s H D)(hn:hB k.N s.g s.nx=C):∃c,LI k z {k.lk s s.nx with nx:=s.nx+(1+pf (k.ld s s.nx))} c D/\c_ k s {k.lk s s.nx with nx:=s.nx+(1+pf (k.ld s s.nx))}/\∃f,c=H++f:=by
 have hb:=kM hn;have g:=h.bo.resolve_right aa;obtain⟨a,ho⟩:=h.mi.from (ko z.G g)
 have u:=du (k.ld s s.nx)
 have hg:=h.mi.ci.hg;obtain⟨c,m1,e,⟨f,i⟩,p,v,w⟩:=h.mi.lk ho;have x:=h.mi.hd a _ ho;have j:=m1.hd a _ (e.or ho)
 have hlo:=h.mi.hlo _ g;have B:∀b∈f,s.nx<b:=λb d=>AR (by have:=m1.full.eC;rw[i,<-bf] at this;omega) (by grind) d;have F:∀b,b∈H->b∈c:=λb d=>by grind
 have keep:∀b,(∃a,k.or z s a b)->Lo k s b->Lo k {k.lk s s.nx with nx:=s.nx+(1+pf (k.ld s s.nx))} b:=λb ⟨a,o⟩ l=>by
  have l2:=Lo.go l h.mi m1 e o (by grind) (by grind)
  exact l2
 refine⟨c,⟨(m1.turn _ _ _ _ m1.ci.jc m1.ci.i1 aa aa),?_,λb d lt=>?_,λb d=>keep b ⟨b,aK ⟨rfl,h.dg b d⟩⟩ (h.ld b d),h.dg⟩,⟨e.f,e.g,e.cl⟩,f,i⟩
 ·have m:=eR.next m1.full.eC s.nx (by grind)
  have n:Proofs.YtjckpdepffejnaaGreatDoor.ld k.N k.y (k.lk s s.nx).g (k.lk s s.nx).ws s.nx=k.ld s s.nx:=j.trans aa;rw[n] at m;rcases m with d|d
  ·rcases bw.1 d with d|d
   ·have:=h.mi.mf _ d;omega
   grind
  grind
 ·dsimp only at lt;by_cases q:b=s.nx
  ·subst q;exact p
  ·by_cases lb:b<s.nx
   ·have t:b∈H:=by grind
    exact keep b (h.mi.from (by grind)) (h.lo b t lb)
   ·have ap:=m1.full.eC.apart s.nx (by grind) b (by grind) aa;have n:Proofs.YtjckpdepffejnaaGreatDoor.ld k.N k.y (k.lk s s.nx).g (k.lk s s.nx).ws s.nx=k.ld s s.nx:=j.trans aa
    grind
theorem LI.lift (h:LI k z s H D){K:List Int}(ht:dK k z t K)(p:c_ k s t)(hw:t.wk=s.wk)(he:t.ep=s.ep)(hn:t.nx=s.nx)(hb:t.nx∈K\/t.nx=(k.N:Int)+t.g)(c:∀b∈K,b<t.nx->b∈H):LI k z t K D:=
 ⟨ht,hb,λb d lt=>by
  have e:=c b d lt;obtain⟨a,o⟩:=h.mi.from (ko z.G e)
  exact Lo.go (by grind [lo]) h.mi ht p o (by grind) (by grind),λb d=>Lo.go (h.ld b d) h.mi ht p (aK ⟨rfl,h.dg b d⟩) (by grind) (by grind),h.dg⟩
theorem LI.AS (h:LI k z s H D):s.nx<=(k.N:Int)+s.g:=by
 rcases h.bo with d|d
 ·have:=(h.mi.jR d).2;omega
 omega
theorem LI.cp (h:LI k z s H D){a:Int}(ha:a∈k.T)(e:s.f a=-1):LI k z (k.cp s a) (H++[((k.N+s.g:Nat):Int)]) D/\c_ k s (k.cp s a):=by
 obtain⟨m1,c,_⟩:=h.mi.cp ha e;have f:=h.AS;refine⟨h.lift m1 c rfl rfl rfl ?_ (λb d lt=>?_),c⟩
 ·show s.nx∈_\/_
  grind [bo]
 ·have g:b<s.nx:=lt
  grind
theorem LI.br (h:LI k z s H D)(x:Int):∃d,LI k z (k.br s x).2 d D/\c_ k s (k.br s x).2/\(∃i,d=H++i)/\k.cP (k.br s x).1=O4/\(∀f,k.ml s f x->k.ml (k.br s x).2 f (k.br s x).1):=by
 obtain⟨_,_,_,j,_,g,_⟩:=h.mi.br x;cases hls:k.ls s x
 ·have e:(k.br s x).2=s:=by grind [cf.br]
  rw[e] at g⊢;exact⟨H,h,c_.refl _ _,⟨[],ac⟩,j,g⟩
 ·have e:(k.br s x).2=k.cp s (cq x):=by grind [cf.br]
  have b:=hls;unfold cf.ls at b;rw[nS] at b;have c:=b.1;unfold cf.cP at c;rw[nS] at c;obtain⟨l,j2⟩:=h.cp (by simpa using c.2) (by grind)
  grind
theorem LI.kf (h:LI k z s H D){a b i:Int}(ho:k.or z s a b)(d:0<=i)(e:i<pf (k.l0 z a)):∃c,LI k z (k.kf s (b+1+i)) c D/\c_ k s (k.kf s (b+1+i))/\k.cP (k.ld (k.kf s (b+1+i)) (b+1+i))=O4/\∃g,c=H++g:=by
 obtain⟨c,m1,f,j,l,m⟩:=h.br _;obtain⟨s1,s2,n⟩:=m1.mi.st (f.or ho) d e (m _ (h.mi.fd a b ho i d e))
 have p:=c_.st (a:=b+1+i) m1.mi.ci l;refine⟨c,m1.lift s1 p rfl rfl rfl m1.bo (by grind),f.trans p,?_,j⟩
 grind [cf.kf]
theorem nA (k:cf)(s:cn)(x:Int):(k.br s x).2.rs=s.rs/\(k.br s x).2.wk=s.wk/\(k.br s x).2.ep=s.ep/\(k.br s x).2.nx=s.nx:=by unfold cf.br;split<;>exact⟨rfl,rfl,rfl,rfl⟩
theorem LI.roots (h:LI k z s H D)(rs:List Int):LI k z {s with rs:=rs} H D:=
 h.lift (h.mi.turn s.wk s.ep rs s.nx h.mi.ci.jc h.mi.ci.i1 h.mi.ci.i0 h.mi.ci.kw) (by grind [c_.turn]) rfl rfl rfl h.bo (by grind)
theorem LI.cO (h:LI k z s H D):∀n:Nat,n<=L s.rs->∃c,LI k z (k.cO s n) c D/\c_ k s (k.cO s n)/\(∃b,c=H++b)/\L (k.cO s n).rs=L s.rs/\(∀i,i<n->k.cP (X (k.cO s n).rs i 0)=O4)/\(∀i,n<=i->X (k.cO s n).rs i 0=X s.rs i 0)/\∀i,i<n->k.ml (k.cO s n) (X s.rs i 0) (X (k.cO s n).rs i 0)
 |0,_=>⟨H,h,c_.refl _ _,⟨[],ac⟩,rfl,λi hi=>aa,λ_ _=>rfl,λi hi=>aa⟩
 |n+1,hn=>by
  obtain⟨q,m1,f,⟨b,t⟩,g,u,j,v⟩:=LI.cO h n aa;obtain⟨l,m,j2,⟨o,cI⟩,cM,d_⟩:=m1.br _;obtain⟨r1,_⟩:=nA k _ _;have hl:n<L (k.br (k.cO s n) (X (k.cO s n).rs n 0)).2.rs:=by rw[r1,g];omega
  have p:∀i,X ((k.br (k.cO s n) (X (k.cO s n).rs n 0)).2.rs.set n (k.br (k.cO s n) (X (k.cO s n).rs n 0)).1) i 0=if n=i then(k.br (k.cO s n) (X (k.cO s n).rs n 0)).1 else X (k.cO s n).rs i 0:=λi=>by grind
  have d:=c_.turn k (k.br (k.cO s n) (X (k.cO s n).rs n 0)).2 (k.br (k.cO s n) (X (k.cO s n).rs n 0)).2.wk (k.br (k.cO s n) (X (k.cO s n).rs n 0)).2.ep ((k.br (k.cO s n) (X (k.cO s n).rs n 0)).2.rs.set n (k.br (k.cO s n) (X (k.cO s n).rs n 0)).1) (k.br (k.cO s n) (X (k.cO s n).rs n 0)).2.nx;refine⟨l,m.roots _,f.trans (j2.trans d),⟨b++o,by grind⟩,?_,λi hi=>?_,λi hi=>?_,λi hi=>?_⟩
  ·show L (KA _ _ _)=_
   grind
  ·show k.cP (X (KA _ _ _) i 0)=O4
   grind
  ·show X (KA _ _ _) i 0=_
   grind
  ·show k.ml _ _ (X (KA _ _ _) i 0)
   rw[p];by_cases e:n=i
   ·rw[aN e];subst e;exact d_ _ (aK (j n aa))
   ·rw[aJ e];exact(j2.trans d).ml (by grind)
end
theorem AT {L c:Int->Int}{hi d:Int}:∀{l m:List Int}{a:Int},eR L hi a l->eR c d a (l++m)->(∀x∈l,c x=L x)->(hi∈m\/hi=d)/\∀y∈m,hi<=y
 |[],m,a,h,b,_=>by
  have e:=h;subst e;refine⟨?_,λy hy=>(b.mem y hy).1⟩
  match m,b with
  |[],b=>exact aI b
  |y::i,b=>
   obtain⟨j,_⟩:=b
   grind
 |u::l,m,a,h,b,he=>by obtain⟨e,_,_,ht⟩:=h;obtain⟨_,_,_,f⟩:=b;have g:=he u ac;rw[e] at g;rw[g] at f;exact AT ht f (by grind)
section
variable {k:cf}{z:C0}{s t:cn}{H D:List Int}
theorem LI.lk (h:LI k z s H D){b:Int}(hb:b∈z.G):∃e,LI k z (k.lk s b) e (b::D)/\c_ k s (k.lk s b)/\∃g,e=H++g:=by
 obtain⟨e,m1,f,⟨g,i⟩,n,p,q⟩:=h.mi.lk (aK ⟨rfl,hb⟩)
 obtain⟨l,t⟩:=sC k s b;have tm:=AT h.mi.full.eC (by have:=m1.full.eC;rw[i,<-bf] at this;omega) (λx m=>by obtain⟨a,o⟩:=h.mi.from m;exact(m1.hd a x (f.or o)).trans (h.mi.hd a x o).symm)
 have u:=h.AS;refine⟨e,⟨m1,?_,λc d lt=>?_,λc d=>?_,λc d=>?_⟩,f,g,i⟩
 ·grind [bo]
 ·rw[l] at lt;have j:c∈H:=by grind
  obtain⟨a,o⟩:=h.mi.from (ko z.G j)
  exact Lo.go (h.lo c j lt) h.mi m1 f o (by grind) (by grind)
 ·rcases bQ.1 d with d|d
  ·grind
  ·exact Lo.go (h.ld c d) h.mi m1 f (aK ⟨rfl,h.dg c d⟩) (by grind) (by grind)
 grind [dg]
end
structure dU (k:cf)(z:C0)(s:cn)(H:List Int):Prop where
 wk:∀a∈s.wk,a∈z.G++H/\pk (k.ld s a)=3
 ep:∀a∈s.ep,a∈z.G++H/\pk (k.ld s a)=4
section
variable {k:cf}{z:C0}{s t:cn}{H K D:List Int}
theorem c_.hd (p:c_ k s t)(h:dK k z s H)(ht:dK k z t K){b:Int}(hb:b∈z.G++H):k.ld t b=k.ld s b:=by obtain⟨a,o⟩:=h.from hb;exact(ht.hd a b (p.or o)).trans (by grind [dK.hd])
theorem AU {G H K:List Int}{x:Int}(h:∃b,K=H++b)(c:x∈G++H):x∈G++K:=by grind
theorem dU.go (w:dU k z s H)(h:dK k z s H)(ht:dK k z t K)(p:c_ k s t)(f:∃b,K=H++b)(c:t.wk=s.wk)(d:t.ep=s.ep):dU k z t K:=
 ⟨λa ha=>by
  rw[c] at ha;obtain⟨m1,e⟩:=w.wk a ha
  grind [c_.hd],λa ha=>by
  rw[d] at ha;obtain⟨m1,e⟩:=w.ep a ha
  grind [c_.hd]⟩
theorem AV (k:cf)(s:cn)(b:Int):((k.lk s b).wk=s.wk\/(pk (k.ld s b)=3/\(k.lk s b).wk=s.wk++[b]))/\((k.lk s b).ep=s.ep\/(pk (k.ld s b)=4/\(k.lk s b).ep=s.ep++[b])):=by grind [mX,qO,cf.lk]
theorem dU.lk (w:dU k z s H)(h:dK k z s H){b:Int}(hb:b∈z.G++H)(ht:dK k z (k.lk s b) K)(p:c_ k s (k.lk s b))(i:∃f,K=H++f):dU k z (k.lk s b) K:=by
 obtain⟨c1,c2⟩:=AV k s b;refine⟨λa ha=>?_,λa ha=>?_⟩
 ·rcases c1 with e|⟨g,e⟩
  ·rw[e] at ha;obtain⟨m1,c⟩:=w.wk a ha
   grind [c_.hd]
  ·rw[e] at ha;rcases bw.1 ha with d|d
   ·obtain⟨m1,c⟩:=w.wk a d
    grind [c_.hd]
   grind [c_.hd]
 ·rcases c2 with e|⟨g,e⟩
  ·rw[e] at ha;obtain⟨m1,c⟩:=w.ep a ha
   grind [c_.hd]
  ·rw[e] at ha;rcases bw.1 ha with d|d
   ·obtain⟨m1,c⟩:=w.ep a d
    grind [c_.hd]
   grind [c_.hd]
theorem LI.sF (h:LI k z s H D){b:Int}(hb:b∈z.G++H)(q:pk (k.ld s b)=4):∃f,LI k z (k.kf (k.kf s (b+1)) (b+2)) f D/\c_ k s (k.kf (k.kf s (b+1)) (b+2))/\(∃d,f=H++d)/\k.cP (k.ld (k.kf (k.kf s (b+1)) (b+2)) (b+1))=O4/\k.cP (k.ld (k.kf (k.kf s (b+1)) (b+2)) (b+2))=O4:=by
 obtain⟨a,o⟩:=h.mi.from hb;have j:=h.mi.bd hb;have t:=iJ j.2.2 aa;have u:=h.mi.hd a b o;obtain⟨v,m1,c,g,⟨d,w⟩⟩:=h.kf (i:=0) o aa (by grind)
 obtain⟨l,e,j2,cI,⟨m,cM⟩⟩:=m1.kf (i:=1) (c.or o) aa (by grind)
 have n:b+1+0=b+1:=aa;have p:b+1+1=b+2:=aa;rw[n] at m1 c g e j2 cI;rw[p] at e j2 cI;exact⟨l,e,c.trans j2,⟨d++m,by grind⟩,j2.cl _ aa (by have:=c.g;omega) g,cI⟩
theorem LI.em:∀(l left:List Int){s:cn}{H:List Int},LI k z s H D->(∀a∈l,a∈z.G++H/\pk (k.ld s a)=4)->∃i,LI k z (l.foldl k.cX (left,s)).2 i D/\c_ k s (l.foldl k.cX (left,s)).2/\(∃n,i=H++n)/\(l.foldl k.cX (left,s)).2.wk=s.wk/\(l.foldl k.cX (left,s)).2.ep=s.ep/\(∀a∈l,a∈(l.foldl k.cX (left,s)).1\/(k.cP (k.ld (l.foldl k.cX (left,s)).2 (a+1))=O4/\k.cP (k.ld (l.foldl k.cX (left,s)).2 (a+2))=O4))/\(∀a∈left,a∈(l.foldl k.cX (left,s)).1)/\∀a∈(l.foldl k.cX (left,s)).1,a∈left\/a∈l
 |[],left,s,H,h,_=>⟨H,h,c_.refl _ _,⟨[],ac⟩,rfl,rfl,λa ha=>(by grind),λ_ d=>d,λ_ d=>aK d⟩
 |b::l,left,s,H,h,hl=>by
  rw[a8];cases hls:k.ls s _
  ·have c:k.cX (left,s) b=(left,k.kf (k.kf s (b+1)) (b+2)):=by unfold cf.cX;rw[aJ (by rw[hls];simp)]
   rw[c];obtain⟨j,o⟩:=hl b ac;obtain⟨B,m1,e,p,F,N⟩:=h.sF j o;obtain⟨f,g,j2,cI,cM,d_,q,m,t⟩:=LI.em l left m1 (λa ha=>by
    obtain⟨n1,S⟩:=hl a (by grind)
    exact⟨AU p n1,by rw[e.hd h.mi m1.mi n1];omega⟩)
   obtain⟨w1,u,_⟩:=mX k s (b+1)
   obtain⟨v,w,_⟩:=mX k _ (b+2)
   have x:=h.mi.bd j;have W:=iJ x.2.2 aa;have hg:=e.g;refine⟨f,g,e.trans j2,?_,cM.trans (v.trans w1),d_.trans (w.trans u),λa ha=>?_,m,λa ha=>(by grind)⟩
   ·grind
   grind [c_.cl]
  ·have c:k.cX (left,s) b=(left++[b],s):=by grind [cf.cX]
   rw[c];obtain⟨f,g,j2,cI,cM,d_,q,m,t⟩:=LI.em l _ h (by grind)
   refine⟨f,g,j2,cI,cM,d_,λa ha=>?_,λa d=>(by grind),λa ha=>?_⟩
   all_goals grind
theorem dU.l9 (w:dU k z s H)(h:LI k z s H D)(hn:hB k.N s.g s.nx=C)(ht:dK k z {k.lk s s.nx with nx:=s.nx+(1+pf (k.ld s s.nx))} K)(p:c_ k s {k.lk s s.nx with nx:=s.nx+(1+pf (k.ld s s.nx))})(c:∃d,K=H++d):dU k z {k.lk s s.nx with nx:=s.nx+(1+pf (k.ld s s.nx))} K:=by have hb:=kM hn;obtain⟨e,_⟩:=sC k s s.nx;have b:=w.lk h.mi (by grind [LI.bo]) (ht.turn (k.lk s s.nx).wk _ _ (k.lk s s.nx).nx ht.ci.jc ht.ci.i1 aa (by rw[e];exact h.mi.ci.kw)) ⟨p.f,p.g,p.cl⟩ c;exact⟨b.wk,b.ep⟩
theorem LI.pH:∀(n:Nat){s:cn}{H:List Int},LI k z s H D->dU k z s H->∃c,LI k z (k.lb n s) c D/\dU k z (k.lb n s) c/\c_ k s (k.lb n s)/\(∃d,c=H++d)/\(O3 ((k.N:Int)+k.O-s.nx)<n->hB k.N (k.lb n s).g (k.lb n s).nx=O4)
 |0,s,H,h,w=>⟨H,h,w,c_.refl _ _,⟨[],ac⟩,λe=>absurd e aa⟩
 |n+1,s,H,h,w=>by
  unfold cf.lb;cases hn:hB k.N s.g s.nx
  ·rw[aJ ac];exact⟨H,h,w,c_.refl _ _,⟨[],ac⟩,λ_=>hn⟩
  ·obtain⟨l,m1,f,b⟩:=h.l9 hn;have w1:=w.l9 h hn m1.mi f b;obtain⟨d,b⟩:=b;obtain⟨g,i,mY,j2,⟨j,cI⟩,cM⟩:=LI.pH n m1 w1;refine⟨g,i,mY,f.trans j2,⟨d++j,by rw[cI,b,bf]⟩,λe=>cM ?_⟩
   have m:=du (k.ld s s.nx)
   have hb:=kM hn;have hg:=h.mi.ci.hg;dsimp only;omega
theorem Lo.ep {b:Int}(l:Lo k t b)(e:List Int)(hc:b∈t.ep->b∈e\/(k.cP (k.ld t (b+1))=O4/\k.cP (k.ld t (b+2))=O4))(o:pk (k.ld t b)=4->pf (k.ld t b)=2):Lo k {t with ep:=e} b:=by
 intro i f g;have j:i<pf (k.ld t b):=g;rcases l i f j with d|d|⟨m,n⟩
 ·exact aK d
 ·exact aI (aK d)
 ·rcases hc n with c|⟨c1,c2⟩
  ·exact aI (aI ⟨m,c⟩)
  ·left;rcases(by omega:i=0\/i=1) with e|e
   ·rw[e,show b+1+0=b+1 by omega];exact c1
   ·rw[e,show b+1+1=b+2 by omega];exact c2
theorem LI.kv (h:LI k z s H D)(w:dU k z s H):∃f,LI k z (k.kv s).2 f D/\dU k z (k.kv s).2 f/\c_ k s (k.kv s).2/\∃i,f=H++i:=by
 obtain⟨f,c,j2,cI,cM,d_,j,_,l⟩:=LI.em s.ep [] h w.ep;have sub:_:=λa ha=>(l a ha).elim (by grind) id;have g:=w.go h.mi c.mi j2 cI cM d_;have cl:∀b,b∈(s.ep.foldl k.cX ([],s)).2.ep->_:=λb hb=>j b (by rw[<-d_];exact hb)
 have two:∀b,b∈z.G++f->pk (k.ld (s.ep.foldl k.cX ([],s)).2 b)=4->_=_:=λb hb e=>iJ (c.mi.bd hb).2.2 aa;refine⟨f,⟨(c.mi.turn _ _ _ _ c.mi.ci.jc (λa ha=>h.mi.ci.i1 a (sub a ha)) c.mi.ci.i0 c.mi.ci.kw),c.bo,λb d lt=>?_,λb d=>?_,c.dg⟩,⟨g.wk,λa ha=>g.ep a (by rw[d_];exact sub a ha)⟩,⟨j2.f,j2.g,j2.cl⟩,cI⟩
 ·exact(c.lo b d lt).ep _ (cl b) (by grind)
 ·exact(c.ld b d).ep _ (cl b) (by grind [dg])
end
def df (k:cf)(z:C0)(D:List Int)(s t:cn):Prop:=∀H,LI k z s H D->dU k z s H->∃b,LI k z t b D/\dU k z t b/\c_ k s t/\∃c,b=H++c
section
variable {k:cf}{z:C0}{s t u:cn}{D:List Int}
theorem df.refl:df k z D s s:=λH h w=>⟨H,h,w,c_.refl _ _,⟨[],ac⟩⟩
theorem df.trans (h:df k z D s t)(j:df k z D t u):df k z D s u:=λH l w=>by
 obtain⟨b,m1,c,d,⟨A,e⟩⟩:=h H l w;obtain⟨f,g,j2,cI,⟨B,cM⟩⟩:=j b m1 c
 grind [c_.trans]
theorem df.br (x:Int):df k z D s (k.br s x).2:=λ_ h w=>by
 obtain⟨b,m1,c,d,_,_⟩:=h.br x
 grind [nA,dU.go,LI.mi]
theorem df.lb (n:Nat):df k z D s (k.lb n s):=λ_ h w=>by
 obtain⟨b,m1,c,d,e,_⟩:=LI.pH n h w
 grind
theorem df.kv:df k z D s (k.kv s).2:=λ_ h w=>h.kv w
theorem df.mv:∀(l:List Nat)(t:(cn×List b8)×Bool),df k z D t.1.1 (l.foldl (dN k.al k.br) t).1.1
 |[],t=>df.refl
 |i::l,t=>by
  refine df.trans ?_ (df.mv l _)
  grind [br,refl,dN]
theorem df.wa (t:cn×List b8):df k z D t.1 (k.wa t).1.1:=df.mv (lg (L t.2)) (t,O4)
theorem df.de:∀(n:Nat)(t:cn×List b8),df k z D t.1 (k.de n t).1
 |0,t=>df.refl
 |n+1,t=>by
  have b:df k z D t.1 (k.kv (k.lb (k.O+1) t.1)).2:=(df.lb (k.O+1)).trans df.kv;unfold cf.de;split
  ·exact b.trans (df.de n ((k.kv (k.lb (k.O+1) t.1)).2,t.2))
  ·split
   ·exact(b.trans (df.wa ((k.kv (k.lb (k.O+1) t.1)).2,t.2))).trans (df.de n (k.wa ((k.kv (k.lb (k.O+1) t.1)).2,t.2)).1)
   ·exact b.trans (df.wa ((k.kv (k.lb (k.O+1) t.1)).2,t.2))
theorem df.sp (t:cn×List b8):df k z D t.1 (k.sp t).1:=df.de _ t
theorem df.ke (t:cn×List b8)(x:Int):df k z D t.1 (k.ke t x).2.1:=(df.br x).trans (df.sp ((k.br t.1 x).2,t.2))
theorem df.one (t:cn×List b8)(e:b8):df k z D t.1 (cm (et cn) (λs x=>k.al s.1 x) k.ke t e).2.1:=by
 unfold cm;split
 ·exact df.ke t e.2
 ·exact df.refl
theorem df.part (l:List b8)(t:cn×List b8):df k z D t.1 (dF (cm (et cn) (λs x=>k.al s.1 x) k.ke) t l).2.2.1:=by
 have key:∀(l:List b8)(p:List b8×List b8×(cn×List b8)),df k z D p.2.2.1 (l.foldl (eZ (cm (et cn) (λs x=>k.al s.1 x) k.ke)) p).2.2.1:=by
  intro l
  induction l with
  |nil=>exact λp=>df.refl
  |cons e l c=>
   intro p;refine df.trans ?_ (c _)
   have b:=df.one (k:=k) (z:=z) (D:=D) p.2.2 e;unfold eZ;split
   ·exact b
   ·exact b
 exact key l ([],[],t)
theorem df.turn:∀(n:Nat)(t:cn×List b8)(d:List b8),df k z D t.1 (e5 (cm (et cn) (λs x=>k.al s.1 x) k.ke) n t d).1.1
 |0,t,d=>df.refl
 |n+1,t,d=>by
  unfold e5;split
  ·exact df.part d t
  ·exact(df.part d t).trans (df.turn n _ _)
theorem df.fB (t:cn×List b8)(r:List b8):df k z D t.1 (k.fB t r).1:=df.turn _ _ _
end
section
variable {k:cf}{z:C0}{s t:cn}{D:List Int}
theorem sG (k:cf):∀(l left:List Int)(s:cn),L (l.foldl k.cX (left,s)).1<=L left+L l/\(L (l.foldl k.cX (left,s)).1=L left+L l->(l.foldl k.cX (left,s)).2=s)
 |[],left,s=>(by grind)
 |b::l,left,s=>by
  rw[a8];cases hls:k.ls s _
  ·have c:k.cX (left,s) b=(left,k.kf (k.kf s (b+1)) (b+2)):=by unfold cf.cX;rw[aJ (by rw[hls];simp)]
   rw[c];have d:=(sG k l left (k.kf (k.kf s (b+1)) (b+2))).1
   grind
  ·have c:k.cX (left,s) b=(left++[b],s):=by grind [cf.cX]
   rw[c];obtain⟨d,e⟩:=sG k l (left++[b]) s
   grind
theorem IB (k:cf)(s:cn)(h:(k.kv s).1=O4):(k.kv s).2.g=s.g/\(k.kv s).2.nx=s.nx:=by
 unfold cf.kv cf.em at h⊢;obtain⟨b,c⟩:=sG k s.ep [] s
 grind
theorem v6 (k:cf):∀(l:List Nat)(t:(cn×List b8)×Bool),(l.foldl (dN k.al k.br) t).2=O4->(l.foldl (dN k.al k.br) t).1=t.1/\t.2=O4
 |[],t,h=>(by grind)
 |i::l,t,h=>by
  rw[a8] at h⊢;obtain⟨b,c⟩:=v6 k l _ h;unfold dN at b c⊢
  grind
theorem v7 (k:cf)(t:cn×List b8)(h:(k.wa t).2=O4):(k.wa t).1=t:=(v6 k (lg (L t.2)) (t,O4) h).1
theorem sH:∀(n:Nat)(t:cn×List b8)(H:List Int),LI k z t.1 H D->dU k z t.1 H->eD k t.1->k.mu t.1<n->hB k.N (k.de n t).1.g (k.de n t).1.nx=O4
 |0,t,H,_,_,_,e=>aa
 |n+1,t,H,h,w,hb,e=>by
  obtain⟨q,l1,w1,_,_,u⟩:=LI.pH (k.O+1) h w;have i0:=h.mi.ci.i0;obtain⟨c1,c2,c3⟩:=CI.lb h.mi.ci hb (k.O+1)
  obtain⟨g,b,v,i⟩:=CI.kv c1 c2;obtain⟨c,l2,d,_,_⟩:=l1.kv w1;unfold cf.de;cases hk:(k.kv _).1
  ·rw[aJ ac];obtain⟨g1,g2⟩:=IB k _ hk;obtain⟨x,j,B,F,l⟩:=CI.wa (s:=((k.kv _).2,t.2)) g b;cases hw:(k.wa ((k.kv _).2,t.2)).2
   ·grind [v7]
   ·obtain⟨m,o,p,_,_⟩:=df.wa ((k.kv _).2,t.2) c l2 d;have f:=l hw;dsimp only at f;exact sH n _ m o p j aa
  ·rw[aN rfl];have f:=i hk;exact sH n ((k.kv _).2,t.2) c l2 d b (by grind)
end
section
variable {k:cf}{z:C0}{s:cn}{H D:List Int}
theorem LI.fields (h:LI k z s H D)(he:hB k.N s.g s.nx=O4)
 (hz:∀v,(v∈k.T\/v∈z.G)->∀i,0<=i->i<pf (k.l0 z v)->di (k.l0 z (v+1+i))=C->cq (k.l0 z (v+1+i))∈k.T\/cq (k.l0 z (v+1+i))∈z.G)
 (hc:∀v∈z.G,v∉D->∀i,0<=i->i<pf (k.l0 z v)->k.cP (k.l0 z (v+1+i))=O4)
 {b:Int}(hb:b∈z.G++H){i:Int}(g:0<=i)(f:i<pf (k.ld s b))(ha:di (k.ld s (b+1+i))=C):
 cq (k.ld s (b+1+i))∈z.G++H\/(pk (k.ld s b)=3/\i=0/\b∈s.wk)\/(pk (k.ld s b)=4/\b∈s.ep):=by
 obtain⟨a,o⟩:=h.mi.from hb;have j:=h.mi.hd a b o;rw[j] at f;have hm:=h.mi.fd a b o i g f;have m:a∈k.T\/a∈z.G:=by
  rcases o with⟨e,d⟩|⟨d,_⟩
  ·exact aI (by rw[e];exact d)
  ·exact aK d
 have p:s.nx=(k.N:Int)+s.g:=by
  rcases h.bo with d|d
  ·have q:=h.mi.jR d;unfold hB at he;have:=of_decide_eq_false he;omega
  ·exact d
 have key:k.cP (k.ld s (b+1+i))=O4->cq (k.ld s (b+1+i))∈z.G++H:=λhy=>by
  rcases hm with e|⟨g1,g2,g3⟩
  ·rw[e] at ha hy⊢;rcases hz a m i g f ha with d|d
   ·unfold cf.cP at hy;rw[ha] at hy;simp at hy;exact absurd d hy
   ·exact kr _ d
  ·have hT:cq (k.l0 z (a+1+i))∈k.T:=by unfold cf.cP at g1;rw[nS] at g1;simpa using g1.2
   exact AL
 rcases bw.1 hb with d|d
 ·by_cases hD:b∈D
  ·rcases h.ld b hD i g (by rw[j];exact f) with c|c|c
   ·exact aK (key c)
   ·exact aI (aK c)
   ·exact aI (aI c)
  ·have ea:a=b:=by
    rcases o with⟨e,_⟩|⟨o1,l,t⟩
    ·exact e
    ·have q:=h.mi.hlo b (by rw[<-l];exact h.mi.fh a o1 (by rw[l];exact t))
     have u:=h.mi.mf b d;omega
   subst ea;have hy:=hc a d hD i g f;refine aK (key ?_)
   rcases hm with e|⟨g1,_⟩
   ·rw[e];exact hy
   ·rw[hy] at g1;cases g1
 ·rcases h.lo b d (by rw[p];exact(h.mi.jR d).2) i g (by rw[j];exact f) with c|c|c
  ·exact aK (key c)
  ·exact aI (aK c)
  ·exact aI (aI c)
end
def kZ (k:cf)(G:List Int)(x:Int):Prop:=di x=C->k.cP x=O4/\cq x∈G
structure ix (k:cf)(G:List Int)(P:Int->Int->Prop)(s:cn):Prop where
 full:ey k.N k.y s.g s.ws k.T G
 len:L s.ws=k.N+k.O
 hy:k.y<=k.N
 hg:s.g<=k.O
 fd:∀b∈G,∀i,0<=i->i<pf (k.ld s b)->kZ k G (k.ld s (b+1+i))\/P b i
 fy:∀b∈G,∀i,0<=i->i<pf (k.ld s b)->k.cP (k.ld s (b+1+i))=O4->kZ k G (k.ld s (b+1+i))
section
variable {k:cf}{G:List Int}{P:Int->Int->Prop}{s:cn}
theorem ix.st (h:ix k G P s){b i v:Int}(hb:b∈G)(g:0<=i)(l:i<pf (k.ld s b))(hv:kZ k G v):ix k G (λc j=>P c j/\¬(c=b/\j=i)) (k.st s (b+1+i) v)/\∀c∈G,k.ld (k.st s (b+1+i) v) c=k.ld s c:=by
 have hi:=lK h.full (by grind) g l;have m:=ku hi h.hy h.hg;obtain⟨n,hk⟩:=h.full.set h.len h.hy h.hg (by grind) g l;have e:k.st s (b+1+i) v={s with ws:=s.ws.set (O3 (b+1+i)) v}:=by grind [cf.st]
 have f:∀c∈G,k.ld (k.st s (b+1+i) v) c=k.ld s c:=λc hc=>by rw[e];exact hk c (by grind)
 have hld:∀c∈G,∀j,0<=j->j<pf (k.ld s c)->k.ld (k.st s (b+1+i) v) (c+1+j)=if O3 (b+1+i)=O3 (c+1+j) then v else k.ld s (c+1+j):=λc hc j j0 d=>by
  have o:=lK h.full (by grind) j0 d;rw[e];show ld k.N k.y s.g _ _=if _ then v else ld k.N k.y s.g s.ws _
  grind [len,gg]
 refine⟨⟨by grind,by grind [len],h.hy,by rw[e];exact h.hg,λc hc j j0 d=>?_,λc hc j j0 d=>?_⟩,f⟩
 ·rw[f c hc] at d;rw[hld c hc j j0 d];by_cases q:O3 (b+1+i)=O3 (c+1+j)
  ·grind
  grind [fd]
 ·rw[f c hc] at d;rw[hld c hc j j0 d];by_cases q:O3 (b+1+i)=O3 (c+1+j)
  ·grind
  grind [fy]
theorem ix.imp {Q:Int->Int->Prop}(h:ix k G P s)(hp:∀b i,P b i->Q b i):ix k G Q s:=⟨h.full,h.len,h.hy,h.hg,λb hb i c d=>(by grind [fd]),h.fy⟩
theorem kZ.gone:kZ k G 3:=λh=>absurd h ae
theorem ix.told (h:ix k G P s)(hN:k.N<=256)(hO:k.O<=1024){n:Int}(hn:n∈G):kZ k G (ew 3 n):=λ_=>by
 have hb:=h.full.io n hn;have hg:=h.hg;have hy:=h.hy;obtain⟨m,rfl⟩:∃m:Nat,n=m:=⟨O3 n,aa⟩
 obtain⟨b,c⟩:=oy m aa;refine⟨?_,by grind⟩
 unfold cf.cP;rw[b,c];cases hc:bJ k.T (m:Int)
 ·rfl
 ·have d:(m:Int)∈k.T:=by grind
  have:=h.full.jr _ d;omega
theorem ix.mw (hN:k.N<=256)(hO:k.O<=1024):∀(l:List Int){P:Int->Int->Prop}{s:cn},ix k G P s->(∀a∈l,a∈G/\pk (k.ld s a)=3)->(∀a∈k.T,s.f a≠-1->s.f a∈G)->ix k G (λb i=>P b i/\¬(b∈l/\i=0)) (l.foldl k.e8 s)/\(∀c∈G,k.ld (l.foldl k.e8 s) c=k.ld s c)/\(l.foldl k.e8 s).g=s.g/\(l.foldl k.e8 s).rs=s.rs/\(l.foldl k.e8 s).ep=s.ep
 |[],P,s,h,_,_=>(by simp_all)
 |a::l,P,s,h,hl,f=>by
  rw[a8];obtain⟨ha,g⟩:=hl a ac;have d:=iJ (h.full.eC.mem a ha).2.2 (aI (aK g))
  have d:pf (k.ld s a)=2:=d;have e:a+1+0=a+1:=aa;have fy:=h.fy a ha 0 aa aa;rw[e] at fy;obtain⟨v,ev,hv⟩:∃v,k.e8 s a=k.st s (a+1) v/\kZ k G v:=by
   unfold cf.e8
   grind [told,kZ.gone,cf.nw,cf.ls,cf.cP]
  obtain⟨m1,j⟩:=h.st ha (i:=0) aa aa hv;rw[e] at m1 j;rw[ev];obtain⟨m,j2,cI,cM,d_⟩:=ix.mw hN hO l m1 (by grind) f;refine⟨m.imp (λb i ⟨⟨n,o⟩,p⟩=>⟨n,fun⟨q,t⟩=>?_⟩),λc hc=>(by grind),cI,cM,d_⟩
  grind
end
section
variable {k:cf}{G:List Int}
theorem ix.be:∀(l:List Int){P:Int->Int->Prop}{s:cn},ix k G P s->(∀a∈l,a∈G/\pk (k.ld s a)=4)->ix k G (λb i=>P b i/\¬(b∈l/\(i=0\/i=1))) (l.foldl k.ie s)/\(∀c∈G,k.ld (l.foldl k.ie s) c=k.ld s c)/\(l.foldl k.ie s).g=s.g/\(l.foldl k.ie s).rs=s.rs
 |[],P,s,h,_=>(by simp_all)
 |a::l,P,s,h,hl=>by
  obtain⟨ha,n⟩:=hl a ac;have o:pf (k.ld s a)=2:=iJ (h.full.eC.mem a ha).2.2 aa;have e:a+1+0=a+1:=aa;have f:a+1+1=a+2:=aa;obtain⟨m1,g⟩:=h.st ha (i:=0) (v:=3) aa aa kZ.gone;rw[e] at m1 g;obtain⟨n1,d⟩:=m1.st ha (i:=1) (v:=3) aa (by grind) kZ.gone;rw[f] at n1 d;obtain⟨j,j2,cI,cM⟩:=ix.be l n1 (by grind)
  refine⟨j.imp (λb i ⟨⟨⟨m,p⟩,q⟩,t⟩=>⟨m,fun⟨u,w⟩=>?_⟩),λc hc=>((j2 c hc).trans (d c hc)).trans (by grind),cI,cM⟩
  grind
theorem v8 {N y g:Nat}{ws:List Int}{a:Int}(ha:(N:Int)<=a)(hy:y<=N):ld N 0 g ws a=ld N y g ws a:=by grind [dB,hB,ld]
theorem ix.done {s:cn}{rs:List Int}(h:ix k G (λ_ _=>False) s)(hr:∀x∈rs,kZ k G x):i8 k.N 0 s.g s.ws [] G rs:=by
 have io:=h.full.io;have eq:∀a,(k.N:Int)<=a->ld k.N 0 s.g s.ws a=ld k.N k.y s.g s.ws a:=λa ha=>v8 ha h.hy;refine⟨⟨af,h.full.eC.heads (by grind)⟩,λx c ha=>aI (hr x c ha).2,λv hv i e b ha=>?_⟩
 rcases hv with d|d
 ·grind
 ·have hv:=io v d;rw[eq v hv.1] at b;rw[eq (v+1+i) aa] at ha⊢;exact aI (((h.fd v d i e b).resolve_right id) ha).2
end
theorem IC (ws:List Int)(t f n i:Nat)(b:t+n<=L ws)(c:f+n<=L ws):
 X (lF ws t ((ws.drop f).take n)) i 0=if t<=i/\i<t+n then X ws (f+i-t) 0 else X ws i 0:=by
 have hl:L ((ws.drop f).take n)=n:=by grind
 unfold lF;rw[hl];simp
 grind
theorem ID (k:b_)(hl:L k.s.ws=k.a.N+k.a.O)(hy:k.s.y<=k.a.N)(hg:k.s.g<=k.a.O)(t f n:Nat)(t0:k.a.N<=t)(b:t+n<=k.a.N+k.s.g)(c:k.a.N<=f)(d:f+n<=k.a.N+k.s.g)(x:Int):
 (k.mV t f n).ld x=if(t:Int)<=x/\x<(t:Int)+n then k.ld (f+(x-t)) else k.ld x:=by
 have e:(k.mV t f n).ld x=ld k.a.N k.s.y k.s.g (lF k.s.ws t ((k.s.ws.drop f).take n)) x:=rfl
 grind [IC,po,b_.ld,ld]
structure k7 (k k':b_):Prop where
 a:k'.a=k.a
 y:k'.s.y=k.s.y
 rs:k'.s.rs=k.s.rs
 len:L k'.s.ws=L k.s.ws
theorem k7.refl (k:b_):k7 k k:=⟨rfl,rfl,rfl,rfl⟩
theorem k7.trans {k b c:b_}(h:k7 k b)(j:k7 b c):k7 k c:=⟨j.a.trans h.a,j.y.trans h.y,j.rs.trans h.rs,j.len.trans h.len⟩
structure kc (k:b_)(al:Int->Bool)(f:Int->Int)(m:Int)(D l:List Int)(t:b_×Int):Prop where
 sm:k7 k t.1
 g:t.1.s.g=k.s.g
 u0:0<=t.2
 pos:Pos (λa=>pf (k.ld a)) al f (k.a.N+t.2) l m
 tl:∃b:Int,eR k.ld (k.a.N+k.s.g) b l/\k.a.N+t.2<=b/\∀x:Int,b<=x->x<k.a.N+k.s.g->t.1.ld x=k.ld x
 cP:∀x:Int,0<=x->x<k.s.y->t.1.ld x=k.ld x
 rel:∀c∈D,al c=C->f c+pf (k.ld c)<k.a.N+t.2/\∀i:Int,0<=i->i<=pf (k.ld c)->t.1.ld (f c+i)=k.ld (c+i)
section
variable {k:b_}{al:Int->Bool}{s:cy}{m:Int}
theorem kc.step (hl:L k.s.ws=k.a.N+k.a.O)(hy:k.s.y<=k.a.N)(hg:k.s.g<=k.a.O){D l:List Int}{a:Int}{t:b_×Int}(h:kc k al s.f m D (a::l) t)(hs:al a=!(s.f a==-1)):kc k al s.f m (D++[a]) l (fW (λ_ a=>s.f a) (b_.jQ s) t a):=by
 obtain⟨b,⟨e,q,u,ht⟩,hb,v⟩:=h.tl;have w:=du (k.ld b)
 have u0:=h.u0;cases c:al a
 ·rw[c] at hs;have c2:s.f a=-1:=by grind
  have f:fW (λ_ a=>s.f a) (b_.jQ s) t a=t:=by grind [fW]
  rw[f];refine⟨h.sm,h.g,h.u0,(h.pos.2 c).2,(by grind),h.cP,λd hd g=>?_⟩
  rcases bw.1 hd with hd|hd
  ·exact h.rel d hd g
  grind
 ·rw[c] at hs;have c2:s.f a≠-1:=by simp_all
  obtain⟨B,F⟩:=h.pos.1 c;have f:fW (λ_ a=>s.f a) (b_.jQ s) t a=b_.jQ s t a:=by grind [fW]
  rw[f];have o:b_.jQ s t a=(t.1.mV (O3 (s.f a)) (O3 a) (1+O3 (pf (k.ld a))),t.2+(1+pf (k.ld a))):=by grind [b_.jQ]
  have hz:pf (k.ld a)=pf (k.ld b):=by grind
  have hN:=h.sm.a;have N:=h.g;have i:=h.sm.len;have M:=ID t.1 (by simp_all) (by grind [k7.y,sm]) (by simp_all) (O3 (s.f a)) (O3 a) (1+O3 (pf (k.ld a))) (by grind) (by grind) (by grind) (by grind)
  have j:k7 t.1 (t.1.mV (O3 (s.f a)) (O3 a) (1+O3 (pf (k.ld a))))/\(t.1.mV (O3 (s.f a)) (O3 a) (1+O3 (pf (k.ld a)))).s.g=t.1.s.g:=by
   refine⟨⟨rfl,rfl,rfl,?_⟩,rfl⟩
   refine uW _ _ _ ?_;rw[i,hl,List.length_take,List.length_drop,i,hl];omega
  rw[o];generalize t.1.mV (O3 (s.f a)) (O3 a) _=k2 at M j⊢;have S:∀x,k2.ld x=if s.f a<=x/\x<s.f a+(1+pf (k.ld a)) then t.1.ld (a+(x-s.f a)) else t.1.ld x:=λx=>by
   rw[M x];have n:(O3 (s.f a):Int)=s.f a:=aa
   grind
  refine⟨h.sm.trans j.1,(by grind),aa,by grind,⟨b+(1+pf (k.ld b)),ht,aa,λx n p=>?_⟩,λx n p=>?_,λd hd g=>?_⟩
  ·grind
  ·grind [cP]
  ·rcases bw.1 hd with hd|hd
   ·obtain⟨r1,W⟩:=h.rel d hd g
    grind
   grind
theorem kc.sI (hl:L k.s.ws=k.a.N+k.a.O)(hy:k.s.y<=k.a.N)(hg:k.s.g<=k.a.O)(hN:k.a.N<=256)(hO:k.a.O<=1024)(hs:∀a∈k.G,al a=!(s.f a==-1))(hm:m<=k.a.N+k.a.O):je k s (λj t=>kc k al s.f m (k.G.take j) (k.G.drop j) t):=by
 have hz:∀a,0<=(λa=>pf (k.ld a)) a:=λa=>(du _).1;refine⟨λj t c h l=>?_,λj t c h=>?_,λt h=>?_⟩
 ·have e:k.G.drop j=X k.G j 0::k.G.drop (j+1):=by simp_all
  have d:X k.G j 0∈k.G:=by rw[aM,aP c];exact a_ c
  generalize X k.G j 0=a at e l d⊢;have h:kc k al s.f m (k.G.take j) (k.G.drop j) t:=h;rw[e] at h;have ha:al a=C:=by simp_all
  obtain⟨b,⟨i,q,u,ht⟩,hb,n⟩:=h.tl;have v:=du (k.ld b)
  have u0:=h.u0;obtain⟨o,p⟩:=h.pos.1 ha;have f:=p.le hz;have f:=f;rw[(n a aa (by rw[i];omega)),o];rw[i] at f⊢;omega
 ·have e:k.G.drop j=X k.G j 0::k.G.drop (j+1):=by simp_all
  have d:X k.G j 0∈k.G:=by rw[aM,aP c];exact a_ c
  have h:kc k al s.f m (k.G.take j) (k.G.drop j) t:=h;rw[e] at h;have g:=h.step hl hy hg (hs _ d)
  rw[<-(h_ k.G j c 0)] at g;exact g
 ·have h:=h;have u0:=h.u0;have g:=h.pos.le hz;omega
theorem bj {α:Type _}(y:α){a:α}{l:List α}:a ∈ l -> a ∈ y :: l:=by intros;apply List.mem_cons_of_mem<;>assumption
theorem kc.all (hl:L k.s.ws=k.a.N+k.a.O)(hy:k.s.y<=k.a.N)(hg:k.s.g<=k.a.O)(hs:∀a∈k.G,al a=!(s.f a==-1)):∀(l D:List Int)(t:b_×Int),(∀a∈l,a∈k.G)->kc k al s.f m D l t->kc k al s.f m (D++l) [] (iH (λ_ a=>s.f a) (b_.jQ s) t l)
 |[],D,t,_,h=>by rw[mq];exact h
 |a::l,D,t,c,h=>by
  have d:=kc.all hl hy hg hs l _ _ (λb hb=>c b (bj _ hb)) (h.step hl hy hg (hs a (c a ac)))
  rw[bf] at d;exact d
structure mZ (k:b_)(al:Int->Bool)(f:Int->Int)(m:Int)(D l:List Int)(t:b_):Prop where
 sm:k7 k t
 g:t.s.g<=k.a.O
 pos:Pos (λa=>pf (k.ld a)) al f (k.a.N+t.s.g) l m
 cP:∀x:Int,0<=x->x<k.s.y->t.ld x=k.ld x
 rel:∀c∈D,al c=C->(k.a.N:Int)<=f c/\f c+pf (k.ld c)<k.a.N+t.s.g/\∀i:Int,0<=i->i<=pf (k.ld c)->t.ld (f c+i)=k.ld (c+i)
theorem mZ.step (hl:L k.s.ws=k.a.N+k.a.O)(hy:k.s.y<=k.a.N)(hm:m<=k.a.N+k.a.O){D l:List Int}{a:Int}{t:b_}(h:mZ k al s.f m D (a::l) t)(hs:al a=!(s.f a==-1))(h0:0<=a)(u:a+(1+pf (k.ld a))<=k.s.y)(v:pc (k.ld a)=0):mZ k al s.f m (D++[a]) l (fW (fun(_:b_) a=>s.f a) (λk a=>k.cop a) t a):=by
 have hz:∀a,0<=(λa=>pf (k.ld a)) a:=λa=>(du _).1;have w:=du (k.ld a)
 cases c:al a
 ·rw[c] at hs;have c2:s.f a=-1:=by grind
  have b:fW (fun(_:b_) a=>s.f a) (λk a=>k.cop a) t a=t:=by grind [fW]
  rw[b];refine⟨h.sm,h.g,(h.pos.2 c).2,h.cP,λd hd e=>?_⟩
  rcases bw.1 hd with hd|hd
  ·exact h.rel d hd e
  grind
 ·rw[c] at hs;have c2:s.f a≠-1:=by simp_all
  obtain⟨B,f⟩:=h.pos.1 c;have f:Pos (λa=>pf (k.ld a)) al s.f (k.a.N+t.s.g+(1+pf (k.ld a))) l m:=f;have F:=f.le hz;have b:fW (fun(_:b_) a=>s.f a) (λk a=>k.cop a) t a=t.cop a:=by grind [fW]
  rw[b];have hN:=h.sm.a;have N:=h.sm.y;have S:=h.sm.len;have j:ld t.a.N t.s.y t.s.g t.s.ws a=k.ld a:=h.cP a h0 aa;have W:ia t.a.N t.s.y t.s.g a=t.s.y:=by grind [ia,hB]
  have hc:jb t.a.N t.a.O t.s.y t.s.g t.s.ws a=C:=by grind [jb]
  have M:=cf.uX (k:=⟨t.a.N,t.a.O,t.s.y,[]⟩) (s:=⟨t.s.g,t.s.ws,λ_=>-1,0,[],[],[]⟩) (by simp_all) (by simp_all) (((by grind))) (a:=a) h0 (by show a+1+pf (ld t.a.N t.s.y t.s.g t.s.ws a)<=t.s.y;grind) hc;have n:∀x,(t.cop a).ld x=if(k.a.N:Int)+t.s.g<=x/\x<(k.a.N:Int)+t.s.g+(1+pf (k.ld a)) then t.ld (a+(x-(k.a.N+t.s.g))) else t.ld x:=λx=>by have:=M x;rw[<-hN,<-j];exact this
  have o:(t.cop a).s.g=t.s.g+(1+O3 (pf (k.ld a))):=by
   show kP _ _ _ _ _ _=_
   grind [kP]
  have p:L (t.cop a).s.ws=L t.s.ws:=by
   show L (kQ _ _ _ _ _ _)=_
   grind [uW,kQ]
  have g:k7 t (t.cop a):=⟨rfl,rfl,rfl,p⟩
  generalize t.cop a=q at n o g⊢;have ab:(q.s.g:Int)=t.s.g+(1+pf (k.ld a)):=aa;refine⟨h.sm.trans g,aa,by grind,λx ad ag=>?_,λd hd e=>?_⟩
  ·grind [cP]
  ·rcases bw.1 hd with hd|hd
   ·obtain⟨r0,r1,ai⟩:=h.rel d hd e
    grind
   ·rw[bN.1 hd];refine⟨aa,aa,λi am an=>?_⟩
    grind [cP]
theorem mZ.all (hl:L k.s.ws=k.a.N+k.a.O)(hy:k.s.y<=k.a.N)(hm:m<=k.a.N+k.a.O):∀(l D:List Int)(t:b_),(∀a∈l,al a=!(s.f a==-1)/\0<=a/\a+(1+pf (k.ld a))<=k.s.y/\pc (k.ld a)=0)->mZ k al s.f m D l t->mZ k al s.f m (D++l) [] (t.qM s l)
 |[],D,t,_,h=>by rw[mq];exact h
 |a::l,D,t,c,h=>by
  obtain⟨g1,g2,g3,g4⟩:=c a ac;have d:=mZ.all hl hy hm l _ _ (λb hb=>c b (bj _ hb)) (h.step hl hy hm g1 g2 g3 g4)
  rw[bf] at d;exact d
end
structure hL (k k':b_):Prop where
 a:k'.a=k.a
 y:k'.s.y=k.s.y
 g:k'.s.g=k.s.g
 rs:k'.s.rs=k.s.rs
 Y:k'.Y=k.Y
 G:k'.G=k.G
 len:L k'.s.ws=L k.s.ws
theorem hL.refl (k:b_):hL k k:=⟨rfl,rfl,rfl,rfl,rfl,rfl,rfl⟩
theorem hL.trans {k b c:b_}(h:hL k b)(j:hL b c):hL k c:=⟨j.a.trans h.a,j.y.trans h.y,j.g.trans h.g,j.rs.trans h.rs,j.Y.trans h.Y,j.G.trans h.G,j.len.trans h.len⟩
structure jG (k:b_):Prop where
 l:L k.s.ws=k.a.N+k.a.O
 y:k.s.y<=k.a.N
 g:k.s.g<=k.a.O
theorem hL.bd {k c:b_}(h:hL k c)(b:jG k):jG c:=⟨by rw[h.len,h.a];exact b.l,by rw[h.y,h.a];exact b.y,by rw[h.g,h.a];exact b.g⟩
theorem hL.T {k b:b_}(h:hL k b):b.T=k.T:=by unfold b_.T;rw[h.Y,h.G]
section
variable {k:b_}{s:cy}
theorem qQ (k:b_)(p x:Int):hL k (k.i5 p x):=⟨rfl,rfl,rfl,rfl,rfl,rfl,by
 show L (if _ then _ else _:List Int)=_
 grind⟩
theorem v9 (b:jG k){p:Int}(hp:dB k.a.N k.s.y k.s.g p=C)(x q:Int):(k.i5 p x).ld q=if q=p then x else k.ld q:=by
 have hb:=ku hp b.y b.g;have e:(k.i5 p x).ld q=ld k.a.N k.s.y k.s.g (k.s.ws.set (O3 p) x) q:=by unfold b_.i5;rw[aN hp];rfl
 rw[e];unfold b_.ld;by_cases c:q=p
 ·grind [gg,jG.l]
 ·rw[aJ c];cases hq:dB k.a.N k.s.y k.s.g q
  ·grind [ld]
  ·have d:=ku hq b.y b.g
   grind [gg]
def b_.jx (k:b_)(s:cy)(a i:Int):Int:=if((pk (k.ld a)=3\/pk (k.ld a)=4)/\k.dd s (k.ld (a+1))=C)/\(i=0\/(pk (k.ld a)=4/\i=1)) then 3 else k.ld (a+1+i)
structure kC (k:b_)(a:Int):Prop where
 c:pc (k.ld a)=0
 i:∀i,0<=i->i<=pf (k.ld a)->dB k.a.N k.s.y k.s.g (a+i)=C
theorem hL.AW {k b:b_}(h:hL k b){a:Int}(e:b.ld a=k.ld a)(w:kC k a):kC b a:=⟨(e▸w.c),λi c d=>by
 rw[h.a,h.y,h.g]
 grind [kC.i]⟩
theorem IE (b:jG k){a:Int}(w:kC k a):hL k (k.brk s a)/\(∀q,(q<=a\/a+pf (k.ld a)<q)->(k.brk s a).ld q=k.ld q)/\∀i,0<=i->i<pf (k.ld a)->(k.brk s a).ld (a+1+i)=k.jx s a i:=by
 unfold b_.brk;by_cases c:(pk (k.ld a)=3\/pk (k.ld a)=4)/\k.dd s (k.ld (a+1))=C
 ·rw[aN c];have j:=iJ w.c aa;have e:=w.i 1 aa aa;have l:=v9 b e 3;by_cases d:pk (k.ld a)=4
  ·rw[aN d];have m:=v9 ((qQ k (a+1) 3).bd b) (w.i 2 aa aa) 3;refine⟨(qQ k (a+1) 3).trans (qQ _ _ _),λq hq=>?_,λi f g=>?_⟩
   all_goals grind [b_.jx]
  ·rw[aJ d];refine⟨qQ k (a+1) 3,λq hq=>?_,λi f g=>?_⟩
   all_goals grind [b_.jx]
 grind [hL.refl,b_.jx]
theorem AX (b:jG k){a:Int}(w:kC k a):∀n:Nat,(n:Int)<=pf (k.ld a)->hL k (k.iu s a n)/\(∀q,(q<=a\/a+n<q)->(k.iu s a n).ld q=k.ld q)/\∀i:Int,0<=i->i<n->(k.iu s a n).ld (a+1+i)=k.nw s (k.ld (a+1+i))
 |0,_=>⟨hL.refl k,λ_ _=>rfl,λi d f=>aa⟩
 |n+1,hn=>by
  obtain⟨c,g,j⟩:=AX b w n aa;have hi:dB (k.iu s a n).a.N (k.iu s a n).s.y (k.iu s a n).s.g (a+1+n)=C:=by rw[c.a,c.y,c.g,show a+1+(n:Int)=a+(1+n) from by omega];exact w.i _ aa aa
  have e:=v9 (c.bd b) hi (k.nw s ((k.iu s a n).ld (a+1+n)))
  have l:k.iu s a (n+1)=(k.iu s a n).i5 (a+1+n) (k.nw s ((k.iu s a n).ld (a+1+n))):=rfl
  grind [hL.trans,qQ]
theorem IF (b:jG k){a:Int}(w:kC k a):hL k (k.kX s a)/\(∀q,(q<=a\/a+pf (k.ld a)<q)->(k.kX s a).ld q=k.ld q)/\∀i,0<=i->i<pf (k.ld a)->(k.kX s a).ld (a+1+i)=k.nw s (k.jx s a i):=by
 obtain⟨c,d,f⟩:=IE b w;have hp:=du (k.ld a)
 have ea:=d a aa;obtain⟨e,j2,cI⟩:=AX (c.bd b) (c.AW ea w) (O3 (pf (k.ld a))) (by grind)
 unfold b_.kX;refine⟨c.trans e,λq hq=>?_,λi g j=>?_⟩
 ·grind
 grind [b_.me,hL.Y,hL.G]
structure lL (k0:b_)(s:cy)(D:List Int)(t:b_):Prop where
 st:hL k0 t
 hd:∀c∈k0.T,t.ld c=k0.ld c
 dp:∀c∈D,s.f c≠-1->∀i,0<=i->i<pf (k0.ld c)->t.ld (c+1+i)=k0.nw s (k0.jx s c i)
 td:∀c∈k0.T,c∉D->∀i,0<=i->i<pf (k0.ld c)->t.ld (c+1+i)=k0.ld (c+1+i)
theorem lL.step {k0:b_}(b:jG k0)(w:∀c∈k0.T,kC k0 c)(ap:∀c∈k0.T,∀d∈k0.T,c<d->c+(1+pf (k0.ld c))<=d){D:List Int}{t:b_}(h:lL k0 s D t){a:Int}(ha:a∈k0.T)(hD:a∉D)(v:∀c∈D,c∈k0.T):lL k0 s (D++[a]) (fW (fun(_:b_) a=>s.f a) (λk a=>k.kX s a) t a):=by
 by_cases c:s.f a=-1
 ·have j:fW (fun(_:b_) a=>s.f a) (λk a=>k.kX s a) t a=t:=by unfold fW;rw[aN c]
  rw[j];refine⟨h.st,h.hd,λd hd l=>?_,λd hd hn=>h.td d hd (λm=>hn (kr _ m))⟩
  rcases bw.1 hd with hd|hd
  ·exact h.dp d hd l
  ·simp_all
 ·have j:fW (fun(_:b_) a=>s.f a) (λk a=>k.kX s a) t a=t.kX s a:=by unfold fW;rw[aJ c]
  rw[j];have ea:=h.hd a ha;obtain⟨x,o,p⟩:=IF (h.st.bd b) (h.st.AW ea (w a ha))
  rw[ea] at o p;have u:∀d∈k0.T,d≠a->∀i,0<=i->i<=pf (k0.ld d)->(t.kX s a).ld (d+i)=t.ld (d+i):=λd hd n i g f=>o _ (by
   rcases Int.lt_or_gt_of_ne n with q|q
   ·have:=ap d hd a ha q;omega
   ·have:=ap a ha d hd q;omega)
  have B:∀i,0<=i->i<pf (k0.ld a)->t.jx s a i=k0.jx s a i:=λi g f=>by unfold b_.jx b_.dd b_.jt;rw[ea,h.st.T];have q0:=h.td a ha hD 0 aa aa;rw[Dn] at q0;rw[q0,h.td a ha hD i g f]
  refine⟨h.st.trans x,λd hd=>?_,λd hd l i g f=>?_,λd hd hn i g f=>?_⟩
  ·by_cases e:d=a
   ·simp_all
   ·have:=u d hd e 0 aa (du _).1;rw[Dn] at this
    rw[this];exact h.hd d hd
  ·rcases bw.1 hd with hd|hd
   ·have n:d≠a:=λe=>hD (e▸hd)
    have:=u d (v d hd) n (1+i) aa aa;rw[<-Int.add_assoc] at this
    rw[this];exact h.dp d hd l i g f
   ·have e:=bN.1 hd;rw[e] at f⊢;rw[p i g f,B i g f];exact b_.me s _ h.st.Y h.st.G
  grind [td]
theorem lL.all {k0:b_}(b:jG k0)(w:∀c∈k0.T,kC k0 c)(ap:∀c∈k0.T,∀d∈k0.T,c<d->c+(1+pf (k0.ld c))<=d):∀(l D:List Int)(t:b_),(D++l).Nodup->(∀c∈D++l,c∈k0.T)->lL k0 s D t->lL k0 s (D++l) (t.pC s l)
 |[],D,t,_,_,h=>by rw[mq];exact h
 |a::l,D,t,hn,f,h=>by
  have e:D++a::l=(D++[a])++l:=ac;have hD:_:=λm=>(List.nodup_append.1 hn).2.2 a m a ac rfl;have g:=h.step b w ap (by grind) hD (by grind)
  rw[e] at hn f⊢;exact lL.all b w ap l _ _ hn f g
theorem AY (k:b_)(s:cy):∀n,n<=L k.s.rs->(k.gJ s n).a=k.a/\(k.gJ s n).Y=k.Y/\(k.gJ s n).G=k.G/\(k.gJ s n).s.y=k.s.y/\(k.gJ s n).s.g=k.s.g/\(k.gJ s n).s.ws=k.s.ws/\L (k.gJ s n).s.rs=L k.s.rs/\∀i,i<L k.s.rs->X (k.gJ s n).s.rs i 0=if i<n then k.nw s (X k.s.rs i 0) else X k.s.rs i 0
 |0,_=>⟨rfl,rfl,rfl,rfl,rfl,rfl,rfl,λi _=>af⟩
 |n+1,hn=>by
  obtain⟨b,c,d,e,f,g,j,l⟩:=AY k s n aa;refine⟨b,c,d,e,f,g,?_,λi hi=>?_⟩
  ·show L (KA _ _ _)=_
   grind
  ·show X (KA _ n _) i 0=_
   grind
theorem qR (b:jG k)(hr:L k.s.rs=12)(hn:k.T.Nodup)(w:∀c∈k.T,kC k c)(ap:∀c∈k.T,∀d∈k.T,c<d->c+(1+pf (k.ld c))<=d):
 (k.fK s).a=k.a/\(k.fK s).Y=k.Y/\(k.fK s).G=k.G/\(k.fK s).s.y=k.s.y/\(k.fK s).s.g=k.s.g/\jG (k.fK s)/\L (k.fK s).s.rs=12/\(∀i,i<12->X (k.fK s).s.rs i 0=k.nw s (X k.s.rs i 0))/\
 (∀c∈k.T,(k.fK s).ld c=k.ld c)/\∀c∈k.T,s.f c≠-1->∀i,0<=i->i<pf (k.ld c)->(k.fK s).ld (c+1+i)=k.nw s (k.jx s c i):=by
 obtain⟨e,f,g,j,l,o,p,q⟩:=AY k s 12 aa;obtain⟨k0,t⟩:∃k0,k.gJ s 12=k0:=(by grind)
 rw[t] at e f g j l o p q;have N:∀x,k0.ld x=k.ld x:=λx=>by grind [b_.ld]
 have u:k0.T=k.T:=by grind [b_.T]
 have m:jG k0:=⟨by grind [jG.l],by grind [jG.y],by grind [jG.g]⟩
 have w0:∀c∈k0.T,kC k0 c:=λc hc=>by rw[u] at hc;exact⟨by grind [kC.c],λi n v=>by grind [kC.i]⟩
 have key:=lL.all (s:=s) m w0 (by grind) k0.T [] k0 (by simp_all) (by grind) ⟨hL.refl _,λ_ _=>rfl,(by grind),λ_ _ _ _ _ _=>rfl⟩
 have B:k.fK s=k0.pC s k0.T:=by grind [b_.fK]
 rw[B];refine⟨key.st.a.trans e,key.st.Y.trans f,key.st.G.trans g,key.st.y.trans j,key.st.g.trans l,key.st.bd m,by grind [hL.rs,lL.st],λi hi=>by grind [hL.rs,lL.st],λc hc=>?_,λc hc F i n v=>?_⟩
 ·grind [lL.hd]
 ·rw[key.dp c (by grind) F i n (by simp_all)]
  grind [b_.me,b_.jx,b_.dd,b_.jt]
end
section
variable {k:cf}{z:C0}{s t:cn}{H K D:List Int}
theorem nB (k:cf)(s:cn):∀n,(k.cO s n).wk=s.wk/\(k.cO s n).ep=s.ep/\(k.cO s n).nx=s.nx
 |0=>⟨rfl,rfl,rfl⟩
 |n+1=>by obtain⟨b,c,d⟩:=nB k s n;obtain⟨_,e,j2,cI⟩:=nA k _ _;exact⟨e.trans b,j2.trans c,cI.trans d⟩
theorem dU.cO (w:dU k z s H)(h:dK k z s H)(n:Nat)(ht:dK k z (k.cO s n) K)(p:c_ k s (k.cO s n))(c:∃b,K=H++b):dU k z (k.cO s n) K:=
 (by grind [go,nB])
theorem LI.qS (c:Int)(M:List Int)(hz:eR (k.l0 z) ((k.N:Int)+z.g) k.N z.G):∀(l:List Int){s:cn}{H D:List Int},LI k z s H D->dU k z s H->(∀a∈l,a∈z.G\/(k.N:Int)+z.g<=a)->∃f g,LI k z (l.foldl (k.hK ((k.N:Int)+z.g) c M) s) f g/\dU k z (l.foldl (k.hK ((k.N:Int)+z.g) c M) s) f/\c_ k s (l.foldl (k.hK ((k.N:Int)+z.g) c M) s)/\(∃j,f=H++j)/\(∀a∈D,a∈g)/\∀a∈l,a∈z.G->(gR k.N c a&&bJ M (cN k.N a))=C->a∈g
 |[],s,H,D,h,w,_=>⟨H,D,h,w,c_.refl _ _,⟨[],ac⟩,λ_ d=>d,λa ha=>by grind⟩
 |b::l,s,H,D,h,w,hl=>by
  rw[a8];have p:=du (k.ld s b)
  by_cases e:b∈z.G/\(gR k.N c b&&bJ M (cN k.N b))=C
  ·have hb:=(hz.mem b e.1).2.1;have i:k.hK ((k.N:Int)+z.g) c M s b=k.lk s b:=by unfold cf.hK;rw[aN (by rw[(h.mi.hd b b (aK ⟨rfl,e.1⟩))];omega),aN e.2]
   rw[i];obtain⟨q,m1,t,⟨j,u⟩⟩:=h.lk e.1;obtain⟨m,n,o,mY,j2,⟨v,cI⟩,cM,d_⟩:=LI.qS c M hz l m1 (by grind [dU.lk,mi]) (by grind)
   grind [c_.trans]
  ·have i:k.hK ((k.N:Int)+z.g) c M s b=s:=by grind [cf.hK]
   rw[i];obtain⟨m,n,o,mY,j2,cI,cM,d_⟩:=LI.qS c M hz l h w (by grind)
   grind
end
def Rest (k:cf)(z:C0)(D:List Int)(H:List Int)(s:cn):Prop:=∃K,LI k z s K D/\dU k z s K/\eD k s/\hB k.N s.g s.nx=O4/\∃b,K=H++b
section
variable {k:cf}{z:C0}{D H:List Int}
theorem qT:∀(n:Nat)(t:cn×List b8),CI k t.1->eD k t.1->CI k (k.de n t).1/\eD k (k.de n t).1
 |0,t,h,hb=>⟨h,hb⟩
 |n+1,t,h,hb=>by
  obtain⟨c1,c2,c3⟩:=CI.lb h hb (k.O+1)
  obtain⟨b,c,f,g⟩:=CI.kv c1 c2;obtain⟨d,e,_⟩:=CI.wa (s:=((k.kv _).2,t.2)) b c;unfold cf.de;split
  ·exact qT n ((k.kv _).2,t.2) b c
  ·split
   ·exact qT n _ d e
   grind
theorem Rest.sp {t:cn×List b8}{b:List Int}(h:LI k z t.1 b D)(w:dU k z t.1 b)(hb:eD k t.1)(e:∃c,b=H++c):Rest k z D H (k.sp t).1:=by obtain⟨K,m1,d,_,⟨B,f⟩⟩:=df.sp t b h w;obtain⟨A,e⟩:=e;exact⟨K,m1,d,(qT _ t h.mi.ci hb).2,sH _ t b h w hb aa,⟨A++B,by grind⟩⟩
theorem Rest.ke {t:cn×List b8}(h:Rest k z D H t.1)(x:Int):Rest k z D H (k.ke t x).2.1:=by
 obtain⟨K,m1,b,d,_,⟨A,e⟩⟩:=h;obtain⟨f,c,j2,_,⟨B,cM⟩⟩:=df.br x K m1 b;obtain⟨_,g,i,j⟩:=nA k t.1 x;have hb:eD k (k.br t.1 x).2:=⟨by simp_all [eD.wk],by simp_all [eD.ep]⟩
 exact Rest.sp c j2 hb (by grind)
theorem Rest.one {t:cn×List b8}(h:Rest k z D H t.1)(e:b8):Rest k z D H (cm (et cn) (λs x=>k.al s.1 x) k.ke t e).2.1:=by
 unfold cm;split
 ·exact h.ke e.2
 omega
theorem Rest.part (l:List b8){t:cn×List b8}(h:Rest k z D H t.1):Rest k z D H (dF (cm (et cn) (λs x=>k.al s.1 x) k.ke) t l).2.2.1:=by
 have key:∀(l:List b8)(p:List b8×List b8×(cn×List b8)),Rest k z D H p.2.2.1->Rest k z D H (l.foldl (eZ (cm (et cn) (λs x=>k.al s.1 x) k.ke)) p).2.2.1:=by
  intro l
  induction l with
  |nil=>grind
  |cons e l b=>
   grind [one,eZ]
 exact key l ([],[],t) h
theorem Rest.turn:∀(n:Nat){t:cn×List b8}(d:List b8),Rest k z D H t.1->Rest k z D H (e5 (cm (et cn) (λs x=>k.al s.1 x) k.ke) n t d).1.1
 |0,t,d,h=>h
 |n+1,t,d,h=>by
  unfold e5;split
  ·exact h.part d
  ·exact Rest.turn n _ (h.part d)
theorem Rest.fB {t:cn×List b8}(h:Rest k z D H t.1)(r:List b8):Rest k z D H (k.fB t r).1:=Rest.turn _ _ h
end
end Go.Proofs.YtjckpdepffejnaaGreatDoor
