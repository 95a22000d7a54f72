import Derived.Test.YtpkjkjhanlbcoaaGreatJ12
open Array renaming size->I
open Bool renaming false->Nb,true->Nc,true_and->Gi
open Go renaming splice->nS
open Go.Ending renaming returned->E
open Go.Value renaming ownBlock->Nh,slice->M0
open Go.World renaming heap->M2
open Iff renaming rfl->iy
open Int renaming add_assoc->zh,toNat->Na
open List renaming append_nil->ji,contains->bR,countP_eq_length_filter->Fb,getD->X,getElem?_append_left->p3,getElem?_append_right->lG,getElem?_drop->vb,getElem?_take_of_lt->mq,length->L,length->MZ,length_cons->bZ,length_drop->p1,mem_append->bE,mem_cons->bT,mem_singleton->bQ,range->k4,set->F3
open Option renaming some->Z
namespace Go.Proofs.YtpkjkjhanlbcoaaGreat
set_option maxRecDepth 100000
set_option maxHeartbeats 4000000
open Tryz
open Go.RowKit W Kp cq
theorem Ac {P:Prop}(h:P:=by
 have hH:=h.mi.fh _ hT g2;have hbd:=h.mi.jD hH;have hN:=h.mi.ci.hN';have hO:=h.mi.ci.hO;have hg:=h.mi.ci.hg;obtain⟨n,hn⟩:∃n:Nat,s.f (cr (k.l0 z (a+1+i)))=n:=⟨Na (s.f (cr (k.l0 z (a+1+i)))),aa⟩
 rw[g3,hn,(nO n aa).2,<-hn];exact bq _ hH):P:=h
theorem uI {P:Prop}(h:P:=by unfold ck.cQ at g1;rw[bB] at g1;simpa using g1.2):P:=h
def lz (N O y g:Nat)(ws M Y G:List Int):Prop:=
 ∀v∈G,∀i,0<=i->i<pf (ld N y g ws v)->de (ld N y g ws (v+1+i))=Nc->cr (ld N y g ws (v+1+i))∈Y->(gE N (dO O) v&&bR M (cN N v))=Nc
section
variable {N O y g:Nat}{ws M Y G rs:List Int}
theorem lz.make (h:iQ N y g ws Y G rs)(hc:lz N O y g ws M Y G)(hl:L ws=N+O){k f:Int}(hm:jd N y k f=Nc):lz N O (jz N y k f) g (ge N y k f ws) M (Y++[(y:Int)]) G:=by
 obtain⟨j,p⟩:=pF hm;have q:=jo k f j;have l:jz N y k f=y+1+Na f:=by unfold jz;rw[aJ hm]
 have m:ge N y k f ws=fZ ws y (hw k f) (Na f):=by unfold ge;rw[aJ hm]
 have hlt:y+Na f<L ws:=aa;rw[l,m];intro v hv i c b ha hy;have hi:=h.full.io v hv;have n:ld N (y+1+Na f) g (fZ ws y (hw k f) (Na f)) v=ld N y g ws v:=by exact tO
 rw[n] at b;have hb:=nQ h.full hv c b;have o:ld N (y+1+Na f) g (fZ ws y (hw k f) (Na f)) (v+1+i)=ld N y g ws (v+1+i):=by rw[eA (ih hb.1 hb.2),eA (ih hb.1 hb.2),kl _ _ _ _ _ hlt,aI aa,aI aa]
 rw[o] at ha hy;rcases bE.1 hy with d|d
 ·exact hc v hv i c b ha d
 ·simp at d;rcases h.fd v (aK hv) i c b ha with e|e
  ·have:=(h.full.i0 _ e).2;omega
  ·have:=(h.full.io _ e).1;omega
theorem Ad {v:Int}(h0:(N:Int)<=v)(b:v<(N:Int)+g)(hg:g<=O):gE N (dO O) v=Nc:=by unfold gE dO;simp only [Bool.and_eq_true,decide_eq_true_eq];omega
theorem oU {x i z c:Int}(h:eO N y g ws x i≠0):gP N y g ws x i z=ws/\stM N y g ws x i z c M=M:=by
 refine⟨by unfold gP;rw[aI h],?_⟩
 have e:nD N y g ws x i z=Nb:=by unfold nD;rw[bC h];rfl
 unfold stM;rw[e];rfl
theorem Ae (h:em N y g ws Y G){u v i j:Int}(c:u∈G)(hv:v∈G)(d:0<=i)(f:i<pf (ld N y g ws u))(j0:0<=j)(k:j<pf (ld N y g ws v))(e:u+1+i=v+1+j):u=v:=by
 rcases Int.lt_trichotomy u v with b|b|b
 ·have:=h.eH.apart u c v hv b;omega
 ·exact b
 ·have:=h.eH.apart v hv u c b;omega
theorem lz.set (h:iQ N y g ws Y G rs)(hc:lz N O y g ws M Y G)(hl:L ws=N+O)(hN:N<=256)(hy:y<=N)(hO:O<=1024)(hg:g<=O)(x i z:Int):lz N O y g (gP N y g ws x i z) (stM N y g ws x i z (dO O) M) Y G:=by
 by_cases l:eO N y g ws x i=0
 ·obtain⟨p,W,t3,c⟩:=nN l;obtain⟨l1,l2⟩:=h.full.lists hN hy hO hg;have hv:cr x∈Y\/cr x∈G:=by unfold tB at p;rw[l1,l2] at p;simpa using(bB _ _▸p:de x=Nc/\(bR Y (cr x)||bR G (cr x))=Nc).2
  rw[(h.full.stands hy hv)] at c;have t:=kW h.full hv t3 c;have ab:=jV t hy hg;have w:gP N y g ws x i z=ws.set (Na (cr x+1+i)) z:=by unfold gP;rw[aJ l,aJ t]
  obtain⟨ad,hk⟩:=h.full.set hl hy hg hv t3 c;rw[w];have B:∀k,bR M k=Nc->bR (stM N y g ws x i z (dO O) M) k=Nc:=fun k hk=>by
   unfold stM;split
   ·unfold lZ;split
    ·rw[tT,hk];rfl
    ·exact hk
   ·exact hk
  intro v d j j0 m ha f;rw[hk v (aK d)] at m;have hi:=kW h.full (aK d) j0 m;have q:ld N y g (ws.set (Na (cr x+1+i)) z) (v+1+j)=if Na (cr x+1+i)=Na (v+1+j) then z else ld N y g ws (v+1+j):=by rw[eA hi,eA hi,mG _ _ _ _ aa]
  rw[q] at ha f;have n:=h.full.io v d;by_cases e:Na (cr x+1+i)=Na (v+1+j)
  ·rw[aJ e] at ha f;have s:cr x+1+i=v+1+j:=aa;have hz:=h.full.i0 _ f;have u:hB N g (cr x)=Nc:=by
    unfold hB;rw[decide_eq_true_eq];rcases hv with b|b
    ·have o:=nP h.full b t3 c;omega
    ·have:=h.full.io _ b;omega
   have eo:=jU u;have F:nD N y g ws x i z=Nc:=by unfold nD;rw[ha,u,bv l];simp only [Gi,Bool.and_true];unfold hB;rw[decide_eq_true_eq];omega
   have S:cr x∈G:=by
    rcases hv with b|b
    ·have:=h.full.i0 _ b;omega
    ·exact b
   rw[bB];refine⟨Ad n.1 n.2 hg,?_⟩
   unfold stM;rw[aJ F,(Ae h.full S d t3 c j0 m s),ym (Ad n.1 n.2 hg),tT];simp
  ·rw[aI e] at ha f;have o:=hc v d j j0 m ha f;rw[bB] at o⊢;exact⟨o.1,B _ o.2⟩
 ·obtain⟨q,s⟩:=oU l;rw[q,s];exact hc
end
structure cO (a:Wc)(s:eE):Prop where
 n0:16<=a.N
 n1:a.N<=256
 o1:a.O<=1024
 y1:s.y<=a.N
 g1:s.g<=a.O
 l1:L s.ws=a.N+a.O
 r1:L s.rs=12
structure eP (a:Wc)(s:eE)(Y G:List Int):Prop where
 inv:iQ a.N s.y s.g s.ws Y G s.rs
 cd:lz a.N a.O s.y s.g s.ws s.M Y G
section
variable {a:Wc}{s:eE}{Y G:List Int}
theorem eP.root (h:eP a s Y G)(k:Nat)(x:Int)(b:de x=Nc->cr x∈Y\/cr x∈G):eP a {s with rs:=s.rs.set k x} Y G:=⟨h.inv.root k x b,h.cd⟩
theorem eP.set (h:eP a s Y G)(hb:cO a s)(k m:Nat)(hk:k<12)(i:Int)(hm:m<12):
 eP a {s with ws:=gP a.N s.y s.g s.ws (X s.rs k 0) i (X s.rs m 0),M:=stM a.N s.y s.g s.ws (X s.rs k 0) i (X s.rs m 0) (dO a.O) s.M} Y G:=by
 refine⟨?_,lz.set h.inv h.cd hb.l1 hb.n1 hb.y1 hb.o1 hb.g1 _ _ _⟩
 by_cases b:eO a.N s.y s.g s.ws (X s.rs k 0) i=0
 ·obtain⟨e,j,t3,d⟩:=nN b;have f:de (X s.rs k 0)=Nc:=by rw[<-h.inv.tb hb.n1 hb.y1 hb.o1 hb.g1 k (by rw[hb.r1];exact hk)];exact e
  have hv:=h.inv.at k (by rw[hb.r1];exact hk) f;rw[h.inv.full.stands hb.y1 hv] at d;unfold gP;rw[aJ b,aJ (kW h.inv.full hv t3 d)];exact h.inv.set hb.l1 hb.y1 hb.g1 hv t3 d (fun g=>h.inv.at m (by rw[hb.r1];exact hm) g)
 ·rw[(oU (M:=s.M) (c:=dO a.O) b).1];exact h.inv
end
theorem Af {c:Type}(o:f_ c)(is:c->Int->Bool)(kp:c->Int->Int×c)(hl:∀s x,L (o.wt (kp s x).2)=L (o.wt s)):∀(n:Nat)(s:c)(b:List cf),L (o.wt (eT (cm o is kp) n s b).1)+L (eT (cm o is kp) n s b).2=L (o.wt s)+L b
 |0,s,b=>rfl
 |n+1,s,b=>by
  have d:=s8 o is kp hl s b;have e:=pv (cm o is kp) s b;by_cases h:L (pts (cm o is kp) s b).1=0
  ·rw[mz _ _ _ _ h];dsimp only;omega
  ·rw[mA _ _ _ _ h,Af o is kp hl n];omega
theorem rG {b:Type}(o:f_ b)(is:b->Int->Bool)(kp:b->Int->Int×b)(nw:b->Int->Int)(hl:∀s x,L (o.wt (kp s x).2)=L (o.wt s))(s:b)(r:List cf):L (e9 o is kp nw s r)+L (e_ o is kp nw s r)<=L r+L (o.wt s):=by
 have c:=Af o is kp hl (L (r.filter (fun e=>!is s e.2))+1) s (r.filter (fun e=>!is s e.2))
 have d:L (e_ o is kp nw s r)<=L (o.wt (fQ o is kp s r)):=by unfold e_;rw[aZ];exact bm _ _
 have f:L (e9 o is kp nw s r)<=L (r.filter (fun e=>is s e.2)):=by unfold e9;rw[aZ];exact bm _ _
 have g:L (r.filter (fun e=>is s e.2))+L (r.filter (fun e=>!is s e.2))=L r:=by
  clear c d f
  induction r with
  |nil=>rfl
  |cons e r i=>
   simp only [List.filter_cons];cases is s e.2<;>simp<;>omega
 have j:L (o.wt (fQ o is kp s r))<=L (o.wt s)+L (r.filter (fun e=>!is s e.2)):=by unfold fQ;omega
 omega
theorem HM (a:Wc)(S:cw):L (S.cut a).r+L (S.cut a).q<=L S.r+L S.q:=by
 unfold cw.cut;split
 ·exact aG _
 ·have b:=rG (dY ct) (fun s x=>(S.s.k0 a).al s.1 x) _ (fun s x=>(S.s.k0 a).nw s.1 x) (fun s x=>ug (S.s.k0 a) s x) (S.t3 a) S.r;have d:L (S.t3 a).2=L S.q:=by unfold cw.t3 ck.sp;rw[pL]
  dsimp only;generalize S.t3 a=t at*;have c:(dY ct).wt t=t.2:=rfl;rw[c] at b;unfold ck.sR ck.jM;omega
theorem c9.pl {k:cg}{s:cz}(h:c9 k s)(hN:(0:Int)<=k.a.N):c9 k (k.pl s).1:=by
 obtain⟨P,_,b,d⟩:=pW k (fun c=>!(s.f c==-1)) k.T (s,k.a.N) h.nd (fun c _=>rfl)
 have P:Pos (fun c=>pf (k.ld c)) (fun c=>!(s.f c==-1)) (k.pl s).1.f k.a.N k.T (k.pl s).2:=P;have b:(k.pl s).1.td=s.td:=b;have d:(k.pl s).1.ep=s.ep:=d;have f:k.lost (k.pl s).1<=k.lost s:=by
  unfold cg.lost;rw[<-Fb,<-Fb];refine List.countP_mono_left (fun c hc e=>?_)
  cases q:(s.f c==-1)
  ·have:=(P.bd (fun c=>(dv _).1) c hc (by rw[q];rfl)).1;have e:(k.pl s).1.f c=-1:=by simpa using e
   omega
  ·rfl
 have:=h.sum;exact⟨h.nd,h.ps,by rw[b];exact h.td,by rw[d];exact h.ep,h.tl,by rw[b,d];omega⟩
theorem rH {b c:Type}(g:b->c)(fm:b->Int->Int)(st:b->Int->b)(h:∀t a,g (st t a)=g t):∀(l:List Int)(t:b),g (ik fm st t l)=g t
 |[],_=>rfl
 |a::l,t=>by
  have e:ik fm st t (a::l)=ik fm st (fL fm st t a) l:=rfl;rw[e,rH g fm st h l];unfold fL;split
  ·rfl
  ·exact h t a
theorem Ag (k:cg)(s:cz):∀n,(k.gw s n).a=k.a
 |0=>rfl
 |n+1=>Ag k s n
theorem Ah (k:cg)(s:cz)(a:Int):∀n,(k.h8 s a n).a=k.a
 |0=>rfl
 |n+1=>Ah k s a n
theorem HO (k:cg)(s:cz):(k.fD s).a=k.a:=by
 unfold cg.fD cg.oO;rw[rH (fun k:cg=>k.a) _ _ (fun t a=>?_)]
 ·exact Ag k s 12
 ·unfold cg.kw;rw[Ah];exact(uB t s a).1
theorem HQ (k:cg)(s:cz):(k.sl s).a=k.a:=by
 have b:(k.l_ s k.G).1.a=k.a:=rH (fun t:cg×Int=>t.1.a) (fun _ a=>s.f a) (cg.jC s) (fun _ _=>rfl) k.G (k,0)
 have c:(k.sl2 s).a=(k.sl1 s).a:=rH (fun t:cg=>t.a) (fun(_:cg) a=>s.f a) (fun k a=>k.cop a) (fun _ _=>rfl) k.Y (k.sl1 s)
 have d:(k.sl s).a=(k.sl2 s).a:=rfl;have e:(k.sl1 s).a=(k.l_ s k.G).1.a:=rfl;rw[d,c,e,b]
theorem Ai {c:fI}{k:cg}{vt e:Value}{F:Nat->Prop}{s:cz}{w:az}(h:(c7 c k vt e).J F s w):∃d,(es k.a).J d k.s w/\∀b,d b->F b:=by obtain⟨d,own,h,f⟩:=h;exact⟨d,h.wd,fun b g=>(f b).2 (by rw[(h.w1 b).1 g];decide)⟩
section
variable {a:Wc}{F:Nat->Prop}{S:cw}{w:az}
theorem HR (h:(gg a).J F S w)(hq:L S.q+L S.r<=90000)(c6:S.gh a=Nb->∃G,i4 (S.k5 a) (S.dN a) G/\G 0 (S.k5 a,0)):
 Calls prog 37 #[aq a.pw] w fun e w'=>∃f,e=E (ak (S.i5 a))/\(gg a).J f (S.dH a) w'/\ch F w f w':=by
 obtain⟨da,ar,bd,b0,ai,B,i⟩:=h;obtain⟨u,ad,cap,g1,g2,g3,g4,g5,al,v,be⟩:=b0;have db:=hide c6;have ef:=(lv g1).1;have N:=Do g1 g2 g3 ai g4 g5 al;have ct:=ja v be B i;have dc:=HH (S:=S) g1 ⟨g2,ai,g3⟩ aa aa;have cu:aA (S.i5 a=if S.gh a=Nc then 3 else 0):=rfl;have cw:aA (S.dH a=if S.gh a=Nc then S else⟨(S.k6 a).s,(S.k5 a).tR (S.cK a,S.q3 a) (S.r3 a),(S.k5 a).iP (S.cK a,S.q3 a) (S.r3 a)⟩):=rfl;go_enter func37,ntmps37;go_wp2_with fail;refine dc.mono ?_;rintro e w1 ⟨c,br,am,cx,rfl,dd,de,df,dg,dh⟩
 have dj:aA (ch u w cx w1):=⟨Fr.of dh,dg⟩
 have bg:=c8 de df;obtain⟨dk,⟨dl,bi⟩,dm⟩:=jB dd;have bi:=bi;have dn:=GW dl bi;have dp:aA (∀j t w',(e4 c (S.s.j0 a)).J j t w'->c9 (S.s.j0 a) t->ch dk w1 j w'->∃f,(di (dZ c (S.s.j0 a)) c.bs (M0 br (L S.r) am)).J f (t,S.q) w'/\ch cx w1 f w'):=fun j t w' q1 W q3=>dm (dZ c (S.s.j0 a)) j t w' ⟨q1,W⟩ q3;have dq:=hide (dD.cP bi 12).fA;go_wp2_with fail;refine dn.mono ?_;rintro e dr ⟨j,rfl,ds,dt⟩
 obtain⟨eg,du,cy⟩:=dp.o j _ dr ds dq.o dt;have cA:=zH (c:=c) rfl du (by show L S.q<=90000;omega)
 have ca:=c8 (dj.o.trans cy) cy;go_wp2_with fail;refine cA.mono ?_;clear cA;rintro e g ⟨cb,rfl,aR,cc⟩
 have aR:=aR;obtain⟨eh,⟨⟨ei,ej,dv⟩,ek⟩,_⟩:=jB aR;obtain⟨_,_,_,_,cB,_⟩:=eS dv;have dw:=aT g _ cB;have hd:=(ax g).drew;have ab:aA ((di (dZ c (S.s.j0 a)) c.bs (M0 br (L S.r) am)).J cb (S.j2 a) g.drew/\ch u w cb g.drew/\g.drew.ownsRow 0 103 2 (M0 br (L S.r) am) (L S.r) (ev S.r)/\(∀b,cb b->b<I (M2 g))/\I (M2 w)<=I (M2 g)):=by
  have cC:=ca.o.2.trans cc;refine⟨(di (dZ c (S.s.j0 a)) c.bs (M0 br (L S.r) am)).below aR hd,(ca.o.1.trans cc).below hd,?_,(di (dZ c (S.s.j0 a)) c.bs (M0 br (L S.r) am)).lt aR,(ca.o.1.trans cc).fr.size⟩
  exact cM bg.o.1 (fun b e=>(hd.block b (aO (cv bg.o.1 b e).2 cC.fr.size)).trans (cC.fr.block b (cv bg.o.1 b e).2 (bg.o.2 b e).1))
 have dy:L (S.j2 a).2+L S.r<=90000:=by have:L (S.j2 a).2=L S.q:=pS _ _ _;omega
 have dz:aA (∀m,Below (I (M2 g.drew)) g.drew m->m.heap[I (M2 g)]?=Z (dx c)->m.heap[I (M2 g)+1]?=Z (jY (mM c))->Calls prog 78 #[aq c.bs,.agg #[(js (I (M2 g))).v,(iM (I (M2 g)+1)).v,(jP c).v]] m fun e w'=>∃a1 c1 f,e=E (.tuple #[])/\(di (dZ c (S.s.j0 a)) c.bs (M0 a1 (L (S.r3 a)) c1)).J f (S.cI a,S.q3 a) w'/\w'.ownsRow 0 103 2 (M0 a1 (L (S.r3 a)) c1) (L (S.r3 a)) (ev (S.r3 a))/\(∀b,Z b=Nh (Value.slice a1 (L (S.r3 a)) c1)->¬f b/\I (M2 m)<=b)/\ch u w f w'/\I (M2 w)<=I (M2 m)):=fun m ag cd ce=>by
  have hs:I (M2 g.drew)=I (M2 g):=rfl;refine(GV (t:=S.j2 a) (r:=S.r) rfl ((di (dZ c (S.s.j0 a)) c.bs (M0 br (L S.r) am)).below ab.o.1 ag) (cM ab.o.2.2.1 (fun b e=>ag.block b (cv ab.o.2.2.1 b e).2)) dy (I (M2 g)) (I (M2 g)+1) aa cd ce (fun d=>by have:=ab.o.2.2.2.1 _ d;omega) (fun d=>by have:=ab.o.2.2.2.1 _ d;omega)).mono ?_;rintro e w' ⟨a1,c1,f,rfl,q1,W,q3,dA,dB⟩
  have cf:=ab.o.2.1.below ag;have el:=ab.o.2.2.2.2;have em:=ag.size;refine⟨a1,c1,f,rfl,q1,W,q3,⟨cf.fr.trans dA (fun b d=>?_),fun b d=>?_⟩,aa⟩
  ·rcases d with d|d|d
   ·exact cf.sub b d
   ·exact aK aa
   ·exact aK aa
  ·exact(dB b d).elim (cf.sub b) (fun d=>aK aa)
 go_wp2_with fail
 go_region_held3 (fun w'=>w'.cell? (av c.pk 4)=Z (aq c.bs)) (go_keep)
  (first
    |(go_at_call 79;refine(uu (mM c) g.drew c.pk).mono ?_;rintro e m ⟨rfl,cd,ce,ag⟩;have en:=(ag.cell (p:=av c.pk 4) dw).trans cB;have cg:=g_ cd ce ag)
    |(go_at_call 78;refine(dz.o m cg.o.2.2 cg.o.1 cg.o.2.1).mono ?_;rintro e dC ⟨a1,c1,dE,rfl,cD,dF,cE,dG,dH⟩;obtain⟨_,⟨⟨cF,cG,aV⟩,_⟩,_⟩:=jB cD;obtain⟨_,_,_,_,eo,_⟩:=eS aV;have an:aA (_/\_/\(∀b,Z b=Nh (Value.slice a1 (L (S.r3 a)) c1)->¬dE b/\I (M2 w)<=b)/\_):=⟨cD,dF,fun b e=>⟨(cE b e).1,aU dH (cE b e).2⟩,dG⟩))
 all_goals
  obtain⟨Fm,⟨⟨cF,cG,aV⟩,a0⟩,dI⟩:=jB an.o.1;have a0:=a0;have aV:=aV;have cH:=G5 aV a0.tl a0.ps;have dJ:=hide (a0.pl aa)
  have cI:aA (((S.s.j0 a).pl (S.cI a)).2-(S.s.j0 a).a.N=S.n4 a/\((S.s.j0 a).pl (S.cI a)).1=S.cK a):=⟨rfl,rfl⟩
  rw[cI.o.1,cI.o.2] at cH;have dK:aA (∀j w' vt ao,(c7 c (S.s.j0 a) vt ao).J j (S.cK a) w'->ch Fm dC j w'->_):=fun j w' vt ao q1 q3=>dI (dZ c (S.s.j0 a)) j (S.cK a) w' ⟨⟨vt,ao,q1⟩,dJ.o⟩ q3;go_wp2_with fail;refine cH.mono ?_;rintro e bl ⟨dL,rfl,cJ,dM⟩
  obtain⟨bn,dN,ci⟩:=dK.o dL bl cF cG cJ dM;have cK:=GY cJ;have dO:aA ((S.s.j0 a).a.O=a.O):=rfl;rw[dO.o] at cK;have a3:aA ((di (dZ c (S.s.j0 a)) c.bs (M0 a1 (L (S.r3 a)) c1)).J bn (S.cK a,S.q3 a) bl/\ch u w bn bl/\bl.ownsRow 0 103 2 (M0 a1 (L (S.r3 a)) c1) (L (S.r3 a)) (ev (S.r3 a))/\∀b,Z b=Nh (Value.slice a1 (L (S.r3 a)) c1)->¬bn b):=by refine⟨dN,an.o.2.2.2.trans ci,iF an.o.2.1 ci.fr (fun b e=>(an.o.2.2.1 b e).1),fun b e d=>(ci.sub b d).elim (an.o.2.2.1 b e).1 (fun d=>by have:=(cv an.o.2.1 b e).2;omega)⟩
  go_wp2_with fail;refine cK.mono ?_;rintro e bo ⟨rfl,cj⟩
  have n:=ja ((di (dZ c (S.s.j0 a)) c.bs (M0 a1 (L (S.r3 a)) c1)).below a3.o.1 cj) (a3.o.2.1.below cj) (cM a3.o.2.2.1 (fun b e=>cj.block b (cv a3.o.2.2.1 b e).2)) a3.o.2.2.2;by_cases ck:(a.O:Int)<S.n4 a
  ·have ap:S.gh a=Nc:=bv ck;have cl:aA (∃f,(gg a).J f (S.dH a) bo/\ch F w f bo):=by
    have a4:=cw.o;rw[aJ ap] at a4;rw[a4];obtain⟨_,⟨⟨vt,ao,cL⟩,_⟩,_⟩:=jB n.o.1;obtain⟨ep,eq,er,⟨⟨vt,ao,cL⟩,_⟩,_,_,cm,_⟩:=n.o.1;obtain⟨l,q1,W⟩:=Ai cL;have q1:=q1;have T:ch u w l bo:=n.o.2.1.less (fun b d=>cm b (W b d))
    obtain⟨g1,g2,g3,ai,g4,g5,al⟩:=N.o;obtain⟨v,be,B,i⟩:=ct.o;obtain⟨et,_,eu⟩:=jB (o:=es a) (F:=da) (t:=(S.s,S.q)) (w:=w) (p:=a.sd) (vr:=M0 ar (L S.r) bd) ⟨u,ad,cap,g1,g2,g3,g4,g5,al,v,be⟩
    have cN:=lt_of_some g2;refine⟨fun b=>(l b\/b=a.sd\/Z b=Nh (Value.slice ad (L S.q) cap))\/Z b=Nh (Value.slice ar (L S.r) bd),⟨fun b=>l b\/b=a.sd\/Z b=Nh (Value.slice ad (L S.q) cap),ar,bd,⟨l,ad,cap,q1,(T.fr.block _ cN al).trans g2,iF g3 T.fr (fun b e=>(v b e).2),fun b d=>aM d,aK (aM rfl),fun d=>(T.sub _ d).elim al (fun d=>by omega),fun b e=>⟨aK (aK e),fun d=>(T.sub b d).elim (v b e).2 (fun d=>by have:=(cv g3 b e).2;omega)⟩,fun b d=>?_⟩,iF ai T.fr (fun b e d=>B b e (g4 b d)),fun b e d=>?_,fun b=>iy⟩,⟨T.fr.mono (fun b d=>(i b).2 (aM (g4 b d))),fun b d=>?_⟩⟩
    ·rcases d with d|d|d
     ·exact(es a).lt q1 b d
     ·have:=T.fr.size;omega
     ·have:=(cv g3 b d).2;have:=T.fr.size;omega
    ·have ew:=(cv ai b e).2;rcases d with d|d|d
     ·exact(T.sub b d).elim (fun d=>B b e (g4 b d)) (fun d=>by omega)
     ·exact B b e (by rw[d];exact g5)
     ·exact B b e (v b d).1
    ·rcases d with(d|d|d)|d
     ·exact(T.sub b d).imp (fun d=>(i b).2 (aM (g4 b d))) id
     ·exact aM ((i b).2 (aM (by rw[d];exact g5)))
     ·exact aM ((i b).2 (aM (v b d).1))
     ·exact aM ((i b).2 (aK d))
   have ba:=cu.o;rw[aJ ap] at ba;have cn:=hide ba;have ex:decide ((a.O:Int)<S.n4 a)=Nc:=bv ck;go_wp2_with fail;go_ret;obtain⟨f,co,j2⟩:=cl.o;exact⟨f,by rw[cn.o];rfl,co,j2⟩
  ·have ap:S.gh a=Nb:=bC ck;obtain⟨cO,dP,dQ⟩:=db.o ap;have cP:aA (i4 (S.k5 a) (S.dN a) cO/\cO 0 (S.k5 a,0)):=⟨dP,dQ⟩
   have dR:L (S.q3 a)+L (S.r3 a)<=90000:=by have b0:=rG (dY cz) (fun s x=>(S.s.j0 a).al s.1 x) (S.s.j0 a).ke (fun s x=>(S.s.j0 a).nw s.1 x) (fun s x=>rB (S.s.j0 a) s x) (S.j2 a) S.r;have dS:(dY cz).wt (S.j2 a)=(S.j2 a).2:=rfl;have dT:S.r3 a=e9 (dY cz) (fun s x=>(S.s.j0 a).al s.1 x) (S.s.j0 a).ke (fun s x=>(S.s.j0 a).nw s.1 x) (S.j2 a) S.r:=rfl;have dU:S.q3 a=e_ (dY cz) (fun s x=>(S.s.j0 a).al s.1 x) (S.s.j0 a).ke (fun s x=>(S.s.j0 a).nw s.1 x) (S.j2 a) S.r:=rfl;rw[dS,<-dT,<-dU] at b0;omega
   have dV:¬bn a.sd:=fun d=>(n.o.2.1.sub _ d).elim N.o.2.2.2.2.2.2 (fun d=>by have:=lt_of_some N.o.2.1;omega)
   have cQ:=Hf (k:=S.s.j0 a) (t:=(S.cK a,S.q3 a)) rfl n.o.1 n.o.2.2.1 n.o.2.2.2 dR (v1:=M0 ar (L S.r) bd) (v2:=M0 ad (L S.q) cap) ((n.o.2.1.fr.block a.sd (lt_of_some N.o.2.1) N.o.2.2.2.2.2.2).trans N.o.2.1) dV;have dW:aA ((S.s.j0 a).fD (S.cK a)=S.k5 a):=rfl;rw[dW.o] at cQ;go_wp2_with fail;refine cQ.mono ?_;rintro e cR ⟨a2,c2,dX,rfl,d0,cS,cT,d1,d2,d3,d4⟩
   have d5:aA (Fr (fun b=>u b\/b=a.sd) w cR/\(∀b,dX b->u b\/I (M2 w)<=b)/\I (M2 w)<=I (M2 bo)):=by
    have T:=n.o.2.1;have z:=T.fr.size;refine⟨(T.fr.mono (fun b d=>aM d)).trans d3 (fun b d=>?_),fun b d=>(d4 b d).elim (T.sub b) (fun d=>aK aa),z⟩
    rcases d with d|d
    ·exact(T.sub b d).imp aM id
    ·exact aM (aK d)
   obtain⟨cU,bp,bs,⟨⟨vt,ao,cp⟩,bt⟩,cq,cV,cm,ey,ez,cW,d6⟩:=d0;have cp:=cp;have bt:=bt;have cX:=Hs cP.o.1 cP.o.2 cp bt.tl bt.ps;have d7:aA ((S.k5 a).sl (S.dN a)=S.k6 a):=rfl;rw[d7.o] at cX;obtain⟨bb,cY⟩:∃bb,(S.k5 a).tR (S.cK a,S.q3 a) (S.r3 a)=bb:=⟨_,rfl⟩
   obtain⟨aB,cZ⟩:∃aB,(S.k5 a).iP (S.cK a,S.q3 a) (S.r3 a)=aB:=⟨_,rfl⟩
   rw[cY] at cS cT cq;rw[cZ] at cq cV cW;have d8:=Dl (d1.trans cq) cV cm d2 cW d6;have d9:=c8 cS cT;have c0:aA ((S.k5 a).tR (S.cK a,S.q3 a) (S.r3 a)=bb/\(S.k5 a).iP (S.cK a,S.q3 a) (S.r3 a)=aB):=⟨cY,cZ⟩
   go_wp2_with fail;refine cX.mono ?_;rintro e c3 ⟨eA,rfl,eb,aF⟩
   have cl:aA (∃f,(gg a).J f (S.dH a) c3/\ch F w f c3):=by
    have a4:=cw.o;rw[aI (by rw[ap];simp),c0.o.1,c0.o.2] at a4;rw[a4];obtain⟨l,q1,W⟩:=Ai eb;have ea:(S.k6 a).a=a:=by have ec:S.k6 a=(S.k5 a).sl (S.dN a):=rfl;have ed:S.k5 a=(S.s.j0 a).fD (S.cK a):=rfl;rw[ec,HQ,ed,HO];rfl
    rw[ea] at q1;obtain⟨b1,b2,b3,b4,b5,b6⟩:=d8.o;obtain⟨r1,cr⟩:=d9.o;obtain⟨c4,cs,t3⟩:=d5.o;obtain⟨g1,g2,g3,ai,g4,g5,al⟩:=N.o;obtain⟨v,be,B,i⟩:=ct.o;have cN:=lt_of_some g2;have eB:=c4.size;have eC:=aF.fr.size;have bx:∀b,l b->cU b\/I (M2 cR)<=b:=fun b d=>aF.sub b (W b d)
    have c5:¬cU a.sd:=fun d=>b4 (b3 _ d)
    have ee:∀b,Z b=Nh (Value.slice a2 (L bb) c2)->¬(l b\/b=a.sd\/Z b=Nh (Value.slice bp (L aB) bs)):=fun b e d=>by
     have q:=cr b e;rcases d with d|d|d
     ·exact(bx b d).elim (fun d=>q.1 (b3 b d)) (fun d=>by have:=(cv r1 b e).2;omega)
     ·omega
     ·exact q.1 (b5 b d).1
    refine⟨fun b=>(l b\/b=a.sd\/Z b=Nh (Value.slice bp (L aB) bs))\/Z b=Nh (Value.slice a2 (L bb) c2),⟨fun b=>l b\/b=a.sd\/Z b=Nh (Value.slice bp (L aB) bs),a2,c2,⟨l,bp,bs,q1,(aF.fr.block _ aa c5).trans b1,iF b2 aF.fr (fun b e=>(b5 b e).2),fun b d=>aM d,aK (aM rfl),fun d=>(bx _ d).elim c5 (fun d=>by omega),fun b e=>⟨aK (aK e),fun d=>(bx b d).elim (b5 b e).2 (fun d=>by have:=(cv b2 b e).2;omega)⟩,fun b d=>?_⟩,iF r1 aF.fr (fun b e d=>(cr b e).1 (b3 b d)),ee,fun b=>iy⟩,⟨(c4.trans aF.fr (fun b d=>(cs b (b3 b d)).imp aM id)).mono (fun b d=>?_),fun b d=>?_⟩⟩
    ·rcases d with d|d|d
     ·exact(es a).lt q1 b d
     ·omega
     ·have:=(cv b2 b d).2;omega
    ·rcases d with d|d
     ·exact(i b).2 (aM (g4 b d))
     ·exact(i b).2 (aM (by rw[d];exact g5))
    ·rcases d with(d|d|d)|d
     ·rcases bx b d with d|d
      ·exact(cs b (b3 b d)).imp (fun d=>(i b).2 (aM (g4 b d))) id
      ·exact aK aa
     ·exact aM ((i b).2 (aM (by rw[d];exact g5)))
     ·exact(cs b (b5 b d).1).imp (fun d=>(i b).2 (aM (g4 b d))) id
     ·have:=(cr b d).2;exact aK aa
   have ba:=cu.o;rw[aI (by rw[ap];simp)] at ba;have cn:=hide ba;go_wp2_with fail;go_ret;obtain⟨f,co,j2⟩:=cl.o;exact⟨f,by rw[cn.o];rfl,co,j2⟩
end
theorem el.next {L:Int->Int}{hi:Int}:∀{l:List Int}{a:Int},el L hi a l->∀x∈l,x+(1+pf (L x))∈l\/x+(1+pf (L x))=hi
 |[],_,_,x,b=>by cases b
 |y::l,a,h,x,b=>by
  obtain⟨e,_,_,ht⟩:=h;rcases bT.1 b with c|c
  ·subst c;subst e
   match l,ht with
   |[],ht=>exact aK ht
   |f::g,ht=>
    obtain⟨d,_⟩:=ht;exact aM (by rw[<-d];simp)
  ·exact(el.next ht x c).imp (aW _) id
theorem Aj {L:Int->Int}{hi:Int}:∀{l m:List Int}{a x y:Int},el L hi a (l++m)->x∈l->y∈m->x<y
 |[],_,_,_,_,_,b,_=>by cases b
 |u::l,m,a,x,y,h,b,hy=>by
  obtain⟨e,_,_,ht⟩:=h;have hp:=dv (L a)
  rcases bT.1 b with c|c
  ·have:=(ht.mem y (bq l hy)).1;omega
  ·exact Aj ht c hy
structure LI (k:ck)(z:C0)(s:ct)(H D:List Int):Prop where
 mi:dJ k z s H
 bo:s.nx∈H\/s.nx=(k.N:Int)+s.g
 lo:∀b∈H,b<s.nx->Lo k s b
 ld:∀b∈D,Lo k s b
 dg:∀b∈D,b∈z.G
section
variable {k:ck}{z:C0}{s t:ct}{H D:List Int}
theorem LI.lu (h:LI k z s H D)(hn:hB k.N s.g s.nx=Nc):∃d,LI k z {k.lk s s.nx with nx:=s.nx+(1+pf (k.ld s s.nx))} d D/\dd k s {k.lk s s.nx with nx:=s.nx+(1+pf (k.ld s s.nx))}/\∃g,d=H++g:=by
 have hb:=jU hn;have e:=h.bo.resolve_right aa;obtain⟨a,ho⟩:=h.mi.from (bq z.G e)
 have F:=dv (k.ld s s.nx)
 have hg:=h.mi.ci.hg;obtain⟨d,m1,f,⟨g,i⟩,u,v,w⟩:=h.mi.lk ho;have m:=h.mi.hd a _ ho;have n:=m1.hd a _ (f.or ho)
 have hlo:=h.mi.hlo _ e;have x:∀b∈g,s.nx<b:=fun b c=>Aj (by have:=m1.full.eH;rw[i,<-bw] at this;exact this) (bq z.G e) c;have p:∀b,b∈H->b∈d:=fun b c=>by rw[i];exact bu _ c
 have keep:∀b,(∃a,k.or z s a b)->Lo k s b->Lo k {k.lk s s.nx with nx:=s.nx+(1+pf (k.ld s s.nx))} b:=fun b ⟨a,o⟩ l=>by
  have l2:=Lo.go l h.mi m1 f o (v b) (w b)
  exact l2
 refine⟨d,⟨(m1.turn _ _ _ _ m1.ci.i1 m1.ci.iJ aa aa),?_,fun b c lt=>?_,fun b c=>keep b ⟨b,aM ⟨rfl,h.dg b c⟩⟩ (h.ld b c),h.dg⟩,⟨f.f,f.g,f.cl⟩,g,i⟩
 ·have q:=el.next m1.full.eH s.nx (bq z.G (p _ e))
  have j:Proofs.YtpkjkjhanlbcoaaGreat.ld k.N k.y (k.lk s s.nx).g (k.lk s s.nx).ws s.nx=k.ld s s.nx:=n.trans m.symm;rw[j] at q;rcases q with c|c
  ·rcases bE.1 c with c|c
   ·have:=h.mi.lx _ c;omega
   ·exact aM c
  ·exact aK c
 ·dsimp only at lt;by_cases B:b=s.nx
  ·subst B;exact u
  ·by_cases lb:b<s.nx
   ·have t:b∈H:=by
     rw[i] at c;rcases bE.1 c with c|c
     ·exact c
     ·exact absurd (x b c) aa
    exact keep b (h.mi.from (bq z.G t)) (h.lo b t lb)
   ·have ap:=m1.full.eH.apart s.nx (bq z.G (p _ e)) b (bq z.G c) aa;have j:Proofs.YtpkjkjhanlbcoaaGreat.ld k.N k.y (k.lk s s.nx).g (k.lk s s.nx).ws s.nx=k.ld s s.nx:=n.trans m.symm;rw[j] at ap;omega
theorem LI.lift (h:LI k z s H D){K:List Int}(ht:dJ k z t K)(p:dd k s t)(hw:t.wk=s.wk)(he:t.ep=s.ep)(hn:t.nx=s.nx)(hb:t.nx∈K\/t.nx=(k.N:Int)+t.g)(f:∀b∈K,b<t.nx->b∈H):LI k z t K D:=
 ⟨ht,hb,fun b d lt=>by
  have e:=f b d lt;obtain⟨a,o⟩:=h.mi.from (bq z.G e)
  exact Lo.go (h.lo b e (by rw[<-hn];exact lt)) h.mi ht p o (fun c=>by rw[hw];exact c) (fun c=>by rw[he];exact c),fun b d=>Lo.go (h.ld b d) h.mi ht p (aM ⟨rfl,h.dg b d⟩) (fun c=>by rw[hw];exact c) (fun c=>by rw[he];exact c),h.dg⟩
theorem LI.Ak (h:LI k z s H D):s.nx<=(k.N:Int)+s.g:=by
 rcases h.bo with b|b
 ·have:=(h.mi.jD b).2;omega
 ·omega
theorem LI.cp (h:LI k z s H D){a:Int}(ha:a∈k.T)(e:s.f a=-1):LI k z (k.cp s a) (H++[((k.N+s.g:Nat):Int)]) D/\dd k s (k.cp s a):=by
 obtain⟨m1,d,_⟩:=h.mi.cp ha e;have f:=h.Ak;refine⟨h.lift m1 d rfl rfl rfl ?_ (fun b c lt=>?_),d⟩
 ·show s.nx∈_\/_;rcases h.bo with c|c
  ·exact aM (bu _ c)
  ·exact aM (bq _ (by rw[c];simp))
 ·have g:b<s.nx:=lt;rcases bE.1 c with c|c
  ·exact c
  ·rw[bQ] at c;omega
theorem LI.br (h:LI k z s H D)(x:Int):∃f,LI k z (k.br s x).2 f D/\dd k s (k.br s x).2/\(∃j,f=H++j)/\k.cQ (k.br s x).1=Nb/\(∀g,k.ml s g x->k.ml (k.br s x).2 g (k.br s x).1):=by
 obtain⟨_,_,_,i,_,b,_⟩:=h.mi.br x;cases hls:k.ls s x
 ·have e:(k.br s x).2=s:=by unfold ck.br;rw[hls];rfl
  rw[e] at b⊢;exact⟨H,h,dd.refl _ _,⟨[],ac⟩,i,b⟩
 ·have e:(k.br s x).2=k.cp s (cr x):=by unfold ck.br;rw[aJ hls]
  have c:=hls;unfold ck.ls at c;rw[bB] at c;have d:=c.1;unfold ck.cQ at d;rw[bB] at d;obtain⟨l,j2⟩:=h.cp (by simpa using d.2) (by simpa using c.2)
  rw[e] at b⊢;exact⟨_,l,j2,⟨_,rfl⟩,i,b⟩
theorem LI.kf (h:LI k z s H D){a b i:Int}(ho:k.or z s a b)(d:0<=i)(e:i<pf (k.l0 z a)):∃c,LI k z (k.kf s (b+1+i)) c D/\dd k s (k.kf s (b+1+i))/\k.cQ (k.ld (k.kf s (b+1+i)) (b+1+i))=Nb/\∃j,c=H++j:=by
 obtain⟨c,m1,f,l,g,m⟩:=h.br _;obtain⟨s1,s2,o⟩:=m1.mi.st (f.or ho) d e (m _ (h.mi.fd a b ho i d e))
 have p:=dd.st (a:=b+1+i) m1.mi.ci g;refine⟨c,m1.lift s1 p rfl rfl rfl m1.bo (fun b n _=>n),f.trans p,?_,l⟩
 unfold ck.kf;rw[s2];exact g
theorem mP (k:ck)(s:ct)(x:Int):(k.br s x).2.rs=s.rs/\(k.br s x).2.wk=s.wk/\(k.br s x).2.ep=s.ep/\(k.br s x).2.nx=s.nx:=by unfold ck.br;split<;>exact⟨rfl,rfl,rfl,rfl⟩
theorem LI.roots (h:LI k z s H D)(rs:List Int):LI k z {s with rs:=rs} H D:=
 h.lift (h.mi.turn s.wk s.ep rs s.nx h.mi.ci.i1 h.mi.ci.iJ h.mi.ci.iw h.mi.ci.jW) (dd.turn k s s.wk s.ep rs s.nx) rfl rfl rfl h.bo (fun _ b _=>b)
theorem LI.cP (h:LI k z s H D):∀n:Nat,n<=L s.rs->∃d,LI k z (k.cP s n) d D/\dd k s (k.cP s n)/\(∃b,d=H++b)/\L (k.cP s n).rs=L s.rs/\(∀i,i<n->k.cQ (X (k.cP s n).rs i 0)=Nb)/\(∀i,n<=i->X (k.cP s n).rs i 0=X s.rs i 0)/\∀i,i<n->k.ml (k.cP s n) (X s.rs i 0) (X (k.cP s n).rs i 0)
 |0,_=>⟨H,h,dd.refl _ _,⟨[],ac⟩,rfl,fun i hi=>aa,fun _ _=>rfl,fun i hi=>aa⟩
 |n+1,hn=>by
  obtain⟨v,m1,l,⟨b,m⟩,f,o,g,p⟩:=LI.cP h n aa;obtain⟨q,t,j2,⟨u,cI⟩,cK,dN⟩:=m1.br _;obtain⟨r1,_⟩:=mP k _ _;have hl:n<L (k.br (k.cP s n) (X (k.cP s n).rs n 0)).2.rs:=by rw[r1,f];omega
  have c:∀i,X ((k.br (k.cP s n) (X (k.cP s n).rs n 0)).2.rs.set n (k.br (k.cP s n) (X (k.cP s n).rs n 0)).1) i 0=if n=i then(k.br (k.cP s n) (X (k.cP s n).rs n 0)).1 else X (k.cP s n).rs i 0:=fun i=>by rw[mG _ _ _ _ hl,r1]
  have j:=dd.turn k (k.br (k.cP s n) (X (k.cP s n).rs n 0)).2 (k.br (k.cP s n) (X (k.cP s n).rs n 0)).2.wk (k.br (k.cP s n) (X (k.cP s n).rs n 0)).2.ep ((k.br (k.cP s n) (X (k.cP s n).rs n 0)).2.rs.set n (k.br (k.cP s n) (X (k.cP s n).rs n 0)).1) (k.br (k.cP s n) (X (k.cP s n).rs n 0)).2.nx;refine⟨q,t.roots _,l.trans (j2.trans j),⟨b++u,by rw[cI,m,bw]⟩,?_,fun i hi=>?_,fun i hi=>?_,fun i hi=>?_⟩
  ·show L (F3 _ _ _)=_;rw[bh,r1,f]
  ·show k.cQ (X (F3 _ _ _) i 0)=Nb;rw[c];split
   ·exact cK
   ·exact o i aa
  ·show X (F3 _ _ _) i 0=_;rw[c,aI aa];exact g i aa
  ·show k.ml _ _ (X (F3 _ _ _) i 0)
   rw[c];by_cases e:n=i
   ·rw[aJ e];subst e;exact dN _ (aM (g n b8))
   ·rw[aI e];exact(j2.trans j).ml (p i aa)
end
theorem Al {L c:Int->Int}{hi d:Int}:∀{l m:List Int}{a:Int},el L hi a l->el c d a (l++m)->(∀x∈l,c x=L x)->(hi∈m\/hi=d)/\∀y∈m,hi<=y
 |[],m,a,h,b,_=>by
  have e:=h;subst e;refine⟨?_,fun y hy=>(b.mem y hy).1⟩
  match m,b with
  |[],b=>exact aK b
  |y::k,b=>
   obtain⟨i,_⟩:=b;exact aM (by rw[<-i];simp)
 |u::l,m,a,h,b,he=>by obtain⟨e,_,_,ht⟩:=h;obtain⟨_,_,_,f⟩:=b;have g:=he u ac;rw[e] at g;rw[g] at f;exact Al ht f (fun x j=>he x (aW _ j))
section
variable {k:ck}{z:C0}{s t:ct}{H D:List Int}
theorem LI.lk (h:LI k z s H D){b:Int}(hb:b∈z.G):∃g,LI k z (k.lk s b) g (b::D)/\dd k s (k.lk s b)/\∃j,g=H++j:=by
 obtain⟨g,m1,i,⟨j,f⟩,q,l,m⟩:=h.mi.lk (aM ⟨rfl,hb⟩)
 obtain⟨n,u⟩:=rF k s b;have tm:=Al h.mi.full.eH (by have:=m1.full.eH;rw[f,<-bw] at this;exact this) (fun x t=>by obtain⟨a,o⟩:=h.mi.from t;exact(m1.hd a x (i.or o)).trans (h.mi.hd a x o).symm)
 have v:=h.Ak;refine⟨g,⟨m1,?_,fun c d lt=>?_,fun c d=>?_,fun c d=>?_⟩,i,j,f⟩
 ·rw[n];rcases h.bo with d|d
  ·exact aM (by rw[f];exact bu _ d)
  ·rw[d];exact tm.1.imp (fun e=>by rw[f];exact bq _ e) id
 ·rw[n] at lt;have p:c∈H:=by
   rw[f] at d;rcases bE.1 d with d|d
   ·exact d
   ·have:=tm.2 c d;omega
  obtain⟨a,o⟩:=h.mi.from (bq z.G p)
  exact Lo.go (h.lo c p lt) h.mi m1 i o (l c) (m c)
 ·rcases bT.1 d with d|d
  ·rw[d];exact q
  ·exact Lo.go (h.ld c d) h.mi m1 i (aM ⟨rfl,h.dg c d⟩) (l c) (m c)
 ·rcases bT.1 d with d|d
  ·rw[d];exact hb
  ·exact h.dg c d
end
structure dU (k:ck)(z:C0)(s:ct)(H:List Int):Prop where
 wk:∀a∈s.wk,a∈z.G++H/\pk (k.ld s a)=3
 ep:∀a∈s.ep,a∈z.G++H/\pk (k.ld s a)=4
section
variable {k:ck}{z:C0}{s t:ct}{H K D:List Int}
theorem dd.hd (p:dd k s t)(h:dJ k z s H)(ht:dJ k z t K){b:Int}(hb:b∈z.G++H):k.ld t b=k.ld s b:=by obtain⟨a,o⟩:=h.from hb;exact(ht.hd a b (p.or o)).trans (by grind [dJ.hd])
theorem Am {G H K:List Int}{x:Int}(h:∃b,K=H++b)(c:x∈G++H):x∈G++K:=by grind
theorem dU.go (w:dU k z s H)(h:dJ k z s H)(ht:dJ k z t K)(p:dd k s t)(f:∃b,K=H++b)(c:t.wk=s.wk)(d:t.ep=s.ep):dU k z t K:=
 ⟨fun a ha=>by
  rw[c] at ha;obtain⟨m1,e⟩:=w.wk a ha
  grind [dd.hd],fun a ha=>by
  rw[d] at ha;obtain⟨m1,e⟩:=w.ep a ha
  grind [dd.hd]⟩
theorem An (k:ck)(s:ct)(b:Int):((k.lk s b).wk=s.wk\/(pk (k.ld s b)=3/\(k.lk s b).wk=s.wk++[b]))/\((k.lk s b).ep=s.ep\/(pk (k.ld s b)=4/\(k.lk s b).ep=s.ep++[b])):=by grind [ly,oT,ck.lk]
theorem dU.lk (w:dU k z s H)(h:dJ k z s H){b:Int}(hb:b∈z.G++H)(ht:dJ k z (k.lk s b) K)(p:dd k s (k.lk s b))(i:∃f,K=H++f):dU k z (k.lk s b) K:=by
 obtain⟨c1,c2⟩:=An k s b;refine⟨fun a ha=>?_,fun a ha=>?_⟩
 ·rcases c1 with e|⟨g,e⟩
  ·rw[e] at ha;obtain⟨m1,d⟩:=w.wk a ha
   grind [dd.hd]
  ·rw[e] at ha;rcases bE.1 ha with c|c
   ·obtain⟨m1,d⟩:=w.wk a c
    grind [dd.hd]
   grind [dd.hd]
 ·rcases c2 with e|⟨g,e⟩
  ·rw[e] at ha;obtain⟨m1,d⟩:=w.ep a ha
   grind [dd.hd]
  ·rw[e] at ha;rcases bE.1 ha with c|c
   ·obtain⟨m1,d⟩:=w.ep a c
    grind [dd.hd]
   grind [dd.hd]
theorem LI.rI (h:LI k z s H D){b:Int}(hb:b∈z.G++H)(q:pk (k.ld s b)=4):∃f,LI k z (k.kf (k.kf s (b+1)) (b+2)) f D/\dd k s (k.kf (k.kf s (b+1)) (b+2))/\(∃d,f=H++d)/\k.cQ (k.ld (k.kf (k.kf s (b+1)) (b+2)) (b+1))=Nb/\k.cQ (k.ld (k.kf (k.kf s (b+1)) (b+2)) (b+2))=Nb:=by
 obtain⟨a,o⟩:=h.mi.from hb;have j:=h.mi.bd hb;have t:=iR j.2.2 aa;have u:=h.mi.hd a b o;obtain⟨v,m1,c,g,⟨d,w⟩⟩:=h.kf (i:=0) o aa (by grind)
 obtain⟨l,e,j2,cI,⟨m,cK⟩⟩:=m1.kf (i:=1) (c.or o) aa (by grind)
 have n:b+1+0=b+1:=aa;have p:b+1+1=b+2:=aa;rw[n] at m1 c g e j2 cI;rw[p] at e j2 cI;exact⟨l,e,c.trans j2,⟨d++m,by grind⟩,j2.cl _ aa (by have:=c.g;omega) g,cI⟩
theorem LI.d8:∀(l left:List Int){s:ct}{H:List Int},LI k z s H D->(∀a∈l,a∈z.G++H/\pk (k.ld s a)=4)->∃i,LI k z (l.foldl k.cV (left,s)).2 i D/\dd k s (l.foldl k.cV (left,s)).2/\(∃n,i=H++n)/\(l.foldl k.cV (left,s)).2.wk=s.wk/\(l.foldl k.cV (left,s)).2.ep=s.ep/\(∀a∈l,a∈(l.foldl k.cV (left,s)).1\/(k.cQ (k.ld (l.foldl k.cV (left,s)).2 (a+1))=Nb/\k.cQ (k.ld (l.foldl k.cV (left,s)).2 (a+2))=Nb))/\(∀a∈left,a∈(l.foldl k.cV (left,s)).1)/\∀a∈(l.foldl k.cV (left,s)).1,a∈left\/a∈l
 |[],left,s,H,h,_=>⟨H,h,dd.refl _ _,⟨[],ac⟩,rfl,rfl,fun a ha=>(by grind),fun _ c=>c,fun _ c=>aM c⟩
 |b::l,left,s,H,h,hl=>by
  rw[a_];cases hls:k.ls s _
  ·have d:k.cV (left,s) b=(left,k.kf (k.kf s (b+1)) (b+2)):=by unfold ck.cV;rw[aI (by rw[hls];simp)]
   rw[d];obtain⟨j,o⟩:=hl b ac;obtain⟨B,m1,e,p,F,N⟩:=h.rI j o;obtain⟨f,g,j2,cI,cK,dN,q,m,t⟩:=LI.d8 l left m1 (fun a ha=>by
    obtain⟨n1,S⟩:=hl a (by grind)
    exact⟨Am p n1,by rw[e.hd h.mi m1.mi n1];omega⟩)
   obtain⟨w1,u,_⟩:=ly k s (b+1)
   obtain⟨v,w,_⟩:=ly k _ (b+2)
   have x:=h.mi.bd j;have W:=iR x.2.2 aa;have hg:=e.g;refine⟨f,g,e.trans j2,?_,cK.trans (v.trans w1),dN.trans (w.trans u),fun a ha=>?_,m,fun a ha=>(by grind)⟩
   ·grind
   grind [dd.cl]
  ·have d:k.cV (left,s) b=(left++[b],s):=by grind [ck.cV]
   rw[d];obtain⟨f,g,j2,cI,cK,dN,q,m,t⟩:=LI.d8 l _ h (by grind)
   refine⟨f,g,j2,cI,cK,dN,fun a ha=>?_,fun a c=>(by grind),fun a ha=>?_⟩
   all_goals grind
theorem dU.lu (w:dU k z s H)(h:LI k z s H D)(hn:hB k.N s.g s.nx=Nc)(ht:dJ k z {k.lk s s.nx with nx:=s.nx+(1+pf (k.ld s s.nx))} K)(p:dd k s {k.lk s s.nx with nx:=s.nx+(1+pf (k.ld s s.nx))})(d:∃e,K=H++e):dU k z {k.lk s s.nx with nx:=s.nx+(1+pf (k.ld s s.nx))} K:=by have hb:=jU hn;obtain⟨b,_⟩:=rF k s s.nx;have c:=w.lk h.mi (bq z.G (h.bo.resolve_right aa)) (ht.turn (k.lk s s.nx).wk _ _ (k.lk s s.nx).nx ht.ci.i1 ht.ci.iJ (by rw[b];exact h.mi.ci.iw) (by rw[b];exact h.mi.ci.jW)) ⟨p.f,p.g,p.cl⟩ d;exact⟨c.wk,c.ep⟩
theorem LI.oV:∀(n:Nat){s:ct}{H:List Int},LI k z s H D->dU k z s H->∃c,LI k z (k.lb n s) c D/\dU k z (k.lb n s) c/\dd k s (k.lb n s)/\(∃d,c=H++d)/\(Na ((k.N:Int)+k.O-s.nx)<n->hB k.N (k.lb n s).g (k.lb n s).nx=Nb)
 |0,s,H,h,w=>⟨H,h,w,dd.refl _ _,⟨[],ac⟩,fun e=>absurd e aa⟩
 |n+1,s,H,h,w=>by
  unfold ck.lb;cases hn:hB k.N s.g s.nx
  ·rw[aI ac];exact⟨H,h,w,dd.refl _ _,⟨[],ac⟩,fun _=>hn⟩
  ·obtain⟨l,m1,f,b⟩:=h.lu hn;have w1:=w.lu h hn m1.mi f b;obtain⟨d,b⟩:=b;obtain⟨g,i,kX,j2,⟨j,cI⟩,cK⟩:=LI.oV n m1 w1;refine⟨g,i,kX,f.trans j2,⟨d++j,by rw[cI,b,bw]⟩,fun e=>cK ?_⟩
   have m:=dv (k.ld s s.nx)
   have hb:=jU hn;have hg:=h.mi.ci.hg;dsimp only;omega
theorem Lo.ep {b:Int}(l:Lo k t b)(e:List Int)(hc:b∈t.ep->b∈e\/(k.cQ (k.ld t (b+1))=Nb/\k.cQ (k.ld t (b+2))=Nb))(o:pk (k.ld t b)=4->pf (k.ld t b)=2):Lo k {t with ep:=e} b:=by
 intro i f g;have j:i<pf (k.ld t b):=g;rcases l i f j with d|d|⟨m,n⟩
 ·exact aM d
 ·exact aK (aM d)
 ·rcases hc n with c|⟨c1,c2⟩
  ·exact aK (aK ⟨m,c⟩)
  ·left;rcases(by omega:i=0\/i=1) with e|e
   ·rw[e,show b+1+0=b+1 by omega];exact c1
   ·rw[e,show b+1+1=b+2 by omega];exact c2
theorem LI.kv (h:LI k z s H D)(w:dU k z s H):∃f,LI k z (k.kv s).2 f D/\dU k z (k.kv s).2 f/\dd k s (k.kv s).2/\∃i,f=H++i:=by
 obtain⟨f,c,j2,cI,cK,dN,j,_,l⟩:=LI.d8 s.ep [] h w.ep;have sub:_:=fun a ha=>(l a ha).elim (fun d=>by cases d) id;have g:=w.go h.mi c.mi j2 cI cK dN;have cl:∀b,b∈(s.ep.foldl k.cV ([],s)).2.ep->_:=fun b hb=>j b (by rw[<-dN];exact hb)
 have two:∀b,b∈z.G++f->pk (k.ld (s.ep.foldl k.cV ([],s)).2 b)=4->_=_:=fun b hb e=>iR (c.mi.bd hb).2.2 (aK (aK e))
 refine⟨f,⟨(c.mi.turn _ _ _ _ c.mi.ci.i1 (fun a ha=>h.mi.ci.iJ a (sub a ha)) c.mi.ci.iw c.mi.ci.jW),c.bo,fun b d lt=>?_,fun b d=>?_,c.dg⟩,⟨g.wk,fun a ha=>g.ep a (by rw[dN];exact sub a ha)⟩,⟨j2.f,j2.g,j2.cl⟩,cI⟩
 ·exact(c.lo b d lt).ep _ (cl b) (two b (bq _ d))
 ·exact(c.ld b d).ep _ (cl b) (two b (bu _ (c.dg b d)))
end
def da (k:ck)(z:C0)(D:List Int)(s t:ct):Prop:=∀H,LI k z s H D->dU k z s H->∃b,LI k z t b D/\dU k z t b/\dd k s t/\∃c,b=H++c
section
variable {k:ck}{z:C0}{s t u:ct}{D:List Int}
theorem da.refl:da k z D s s:=fun H h w=>⟨H,h,w,dd.refl _ _,⟨[],ac⟩⟩
theorem da.trans (h:da k z D s t)(j:da k z D t u):da k z D s u:=fun H l w=>by obtain⟨b,m1,c,d,⟨A,e⟩⟩:=h H l w;obtain⟨f,g,j2,cI,⟨B,cK⟩⟩:=j b m1 c;exact⟨f,g,j2,d.trans cI,⟨A++B,by rw[cK,e,bw]⟩⟩
theorem da.br (x:Int):da k z D s (k.br s x).2:=fun _ h w=>by obtain⟨d,m1,b,c,_,_⟩:=h.br x;obtain⟨_,e,f,_⟩:=mP k s x;exact⟨d,m1,w.go h.mi m1.mi b c e f,b,c⟩
theorem da.lb (n:Nat):da k z D s (k.lb n s):=fun _ h w=>by obtain⟨b,m1,c,d,e,_⟩:=LI.oV n h w;exact⟨b,m1,c,d,e⟩
theorem da.kv:da k z D s (k.kv s).2:=fun _ h w=>h.kv w
theorem da.lA:∀(l:List Nat)(t:(ct×List cf)×Bool),da k z D t.1.1 (l.foldl (dI k.al k.br) t).1.1
 |[],t=>da.refl
 |i::l,t=>by
  refine da.trans ?_ (da.lA l _)
  unfold dI;split
  ·exact da.refl
  ·exact da.br _
theorem da.wa (t:ct×List cf):da k z D t.1 (k.wa t).1.1:=da.lA (k4 (L t.2)) (t,Nb)
theorem da.c_:∀(n:Nat)(t:ct×List cf),da k z D t.1 (k.c_ n t).1
 |0,t=>da.refl
 |n+1,t=>by
  have b:da k z D t.1 (k.kv (k.lb (k.O+1) t.1)).2:=(da.lb (k.O+1)).trans da.kv;unfold ck.c_;split
  ·exact b.trans (da.c_ n ((k.kv (k.lb (k.O+1) t.1)).2,t.2))
  ·split
   ·exact(b.trans (da.wa ((k.kv (k.lb (k.O+1) t.1)).2,t.2))).trans (da.c_ n (k.wa ((k.kv (k.lb (k.O+1) t.1)).2,t.2)).1)
   ·exact b.trans (da.wa ((k.kv (k.lb (k.O+1) t.1)).2,t.2))
theorem da.sp (t:ct×List cf):da k z D t.1 (k.sp t).1:=da.c_ _ t
theorem da.ke (t:ct×List cf)(x:Int):da k z D t.1 (k.ke t x).2.1:=(da.br x).trans (da.sp ((k.br t.1 x).2,t.2))
theorem da.one (t:ct×List cf)(e:cf):da k z D t.1 (cm (dY ct) (fun s x=>k.al s.1 x) k.ke t e).2.1:=by
 unfold cm;split
 ·exact da.ke t e.2
 ·exact da.refl
theorem da.part (l:List cf)(t:ct×List cf):da k z D t.1 (pts (cm (dY ct) (fun s x=>k.al s.1 x) k.ke) t l).2.2.1:=by
 have key:∀(l:List cf)(p:List cf×List cf×(ct×List cf)),da k z D p.2.2.1 (l.foldl (eM (cm (dY ct) (fun s x=>k.al s.1 x) k.ke)) p).2.2.1:=by
  intro l
  induction l with
  |nil=>exact fun p=>da.refl
  |cons e l c=>
   intro p;refine da.trans ?_ (c _)
   have b:=da.one (k:=k) (z:=z) (D:=D) p.2.2 e;unfold eM;split
   ·exact b
   ·exact b
 exact key l ([],[],t)
theorem da.turn:∀(n:Nat)(t:ct×List cf)(b:List cf),da k z D t.1 (eT (cm (dY ct) (fun s x=>k.al s.1 x) k.ke) n t b).1.1
 |0,t,b=>da.refl
 |n+1,t,b=>by
  unfold eT;split
  ·exact da.part b t
  ·exact(da.part b t).trans (da.turn n _ _)
theorem da.fu (t:ct×List cf)(r:List cf):da k z D t.1 (k.fu t r).1:=da.turn _ _ _
end
section
variable {k:ck}{z:C0}{s t:ct}{D:List Int}
theorem rJ (k:ck):∀(l left:List Int)(s:ct),L (l.foldl k.cV (left,s)).1<=L left+L l/\(L (l.foldl k.cV (left,s)).1=L left+L l->(l.foldl k.cV (left,s)).2=s)
 |[],left,s=>⟨ac,fun _=>rfl⟩
 |b::l,left,s=>by
  rw[a_];cases hls:k.ls s _
  ·have c:k.cV (left,s) b=(left,k.kf (k.kf s (b+1)) (b+2)):=by unfold ck.cV;rw[aI (by rw[hls];simp)]
   rw[c];have d:=(rJ k l left (k.kf (k.kf s (b+1)) (b+2))).1;rw[bZ];exact⟨aa,fun e=>aa⟩
  ·have c:k.cV (left,s) b=(left++[b],s):=by unfold ck.cV;rw[aJ hls]
   rw[c];obtain⟨d,f⟩:=rJ k l (left++[b]) s;rw[a7,List.length_singleton] at d f;rw[bZ];exact⟨aa,fun e=>f aa⟩
theorem HS (k:ck)(s:ct)(h:(k.kv s).1=Nb):(k.kv s).2.g=s.g/\(k.kv s).2.nx=s.nx:=by unfold ck.kv ck.d8 at h⊢;obtain⟨c,b⟩:=rJ k s.ep [] s;have d:=of_decide_eq_false h;rw[List.length_nil,Nat.zero_add] at c b;rw[b aa];exact⟨rfl,rfl⟩
theorem uJ (k:ck):∀(l:List Nat)(t:(ct×List cf)×Bool),(l.foldl (dI k.al k.br) t).2=Nb->(l.foldl (dI k.al k.br) t).1=t.1/\t.2=Nb
 |[],t,h=>⟨rfl,h⟩
 |i::l,t,h=>by
  rw[a_] at h⊢;obtain⟨c,b⟩:=uJ k l _ h;unfold dI at c b⊢;split at b
  ·rename_i e;rw[aJ e] at c⊢;exact⟨c,b⟩
  ·cases b
theorem uK (k:ck)(t:ct×List cf)(h:(k.wa t).2=Nb):(k.wa t).1=t:=(uJ k (k4 (L t.2)) (t,Nb) h).1
theorem rK:∀(n:Nat)(t:ct×List cf)(H:List Int),LI k z t.1 H D->dU k z t.1 H->eB k t.1->k.mu t.1<n->hB k.N (k.c_ n t).1.g (k.c_ n t).1.nx=Nb
 |0,t,H,_,_,_,e=>absurd e aa
 |n+1,t,H,h,w,hb,e=>by
  obtain⟨u,l1,w1,_,_,g⟩:=LI.oV (k.O+1) h w;have iw:=h.mi.ci.iw;obtain⟨c1,c2,c3⟩:=CI.lb h.mi.ci hb (k.O+1)
  obtain⟨i,b,v,j⟩:=CI.kv c1 c2;obtain⟨c,l2,d,_,_⟩:=l1.kv w1;unfold ck.c_;cases hk:(k.kv _).1
  ·rw[aI ac];obtain⟨g1,g2⟩:=HS k _ hk;obtain⟨x,l,B,F,m⟩:=CI.wa (s:=((k.kv _).2,t.2)) i b;cases hw:(k.wa ((k.kv _).2,t.2)).2
   ·rw[aI ac,uK k _ hw];rw[g1,g2];exact g aa
   ·obtain⟨o,p,q,_,_⟩:=da.wa ((k.kv _).2,t.2) c l2 d;have f:=m hw;dsimp only at f;exact rK n _ o p q l aa
  ·rw[aJ rfl];have f:=j hk;exact rK n ((k.kv _).2,t.2) c l2 d b (by dsimp only;omega)
end
section
variable {k:ck}{z:C0}{s:ct}{H D:List Int}
theorem LI.fields (h:LI k z s H D)(he:hB k.N s.g s.nx=Nb)
 (hz:∀v,(v∈k.T\/v∈z.G)->∀i,0<=i->i<pf (k.l0 z v)->de (k.l0 z (v+1+i))=Nc->cr (k.l0 z (v+1+i))∈k.T\/cr (k.l0 z (v+1+i))∈z.G)
 (hc:∀v∈z.G,v∉D->∀i,0<=i->i<pf (k.l0 z v)->k.cQ (k.l0 z (v+1+i))=Nb)
 {b:Int}(hb:b∈z.G++H){i:Int}(g:0<=i)(f:i<pf (k.ld s b))(ha:de (k.ld s (b+1+i))=Nc):
 cr (k.ld s (b+1+i))∈z.G++H\/(pk (k.ld s b)=3/\i=0/\b∈s.wk)\/(pk (k.ld s b)=4/\b∈s.ep):=by
 obtain⟨a,o⟩:=h.mi.from hb;have j:=h.mi.hd a b o;rw[j] at f;have hm:=h.mi.fd a b o i g f;have p:a∈k.T\/a∈z.G:=by
  rcases o with⟨e,d⟩|⟨d,_⟩
  ·exact aK (by rw[e];exact d)
  ·exact aM d
 have q:s.nx=(k.N:Int)+s.g:=by
  rcases h.bo with d|d
  ·have t:=h.mi.jD d;unfold hB at he;have:=of_decide_eq_false he;omega
  ·exact d
 have key:k.cQ (k.ld s (b+1+i))=Nb->cr (k.ld s (b+1+i))∈z.G++H:=fun hy=>by
  rcases hm with e|⟨g1,g2,g3⟩
  ·rw[e] at ha hy⊢;rcases hz a p i g f ha with d|d
   ·unfold ck.cQ at hy;rw[ha] at hy;simp at hy;exact absurd d hy
   ·exact bu _ d
  ·have hT:cr (k.l0 z (a+1+i))∈k.T:=by exact uI
   exact Ac
 rcases bE.1 hb with d|d
 ·by_cases l:b∈D
  ·rcases h.ld b l i g (by rw[j];exact f) with c|c|c
   ·exact aM (key c)
   ·exact aK (aM c)
   ·exact aK (aK c)
  ·have ea:a=b:=by
    rcases o with⟨e,_⟩|⟨o1,m,u⟩
    ·exact e
    ·have t:=h.mi.hlo b (by rw[<-m];exact h.mi.fh a o1 (by rw[m];exact u))
     have w:=h.mi.lx b d;omega
   subst ea;have hy:=hc a d l i g f;refine aM (key ?_)
   rcases hm with e|⟨g1,_⟩
   ·rw[e];exact hy
   ·rw[hy] at g1;cases g1
 ·rcases h.lo b d (by rw[q];exact(h.mi.jD d).2) i g (by rw[j];exact f) with c|c|c
  ·exact aM (key c)
  ·exact aK (aM c)
  ·exact aK (aK c)
end
def kz (k:ck)(G:List Int)(x:Int):Prop:=de x=Nc->k.cQ x=Nb/\cr x∈G
structure ia (k:ck)(G:List Int)(P:Int->Int->Prop)(s:ct):Prop where
 full:em k.N k.y s.g s.ws k.T G
 len:L s.ws=k.N+k.O
 hy:k.y<=k.N
 hg:s.g<=k.O
 fd:∀b∈G,∀i,0<=i->i<pf (k.ld s b)->kz k G (k.ld s (b+1+i))\/P b i
 fy:∀b∈G,∀i,0<=i->i<pf (k.ld s b)->k.cQ (k.ld s (b+1+i))=Nb->kz k G (k.ld s (b+1+i))
section
variable {k:ck}{G:List Int}{P:Int->Int->Prop}{s:ct}
theorem ia.st (h:ia k G P s){b i v:Int}(hb:b∈G)(g:0<=i)(l:i<pf (k.ld s b))(hv:kz k G v):ia k G (fun c j=>P c j/\¬(c=b/\j=i)) (k.st s (b+1+i) v)/\∀c∈G,k.ld (k.st s (b+1+i) v) c=k.ld s c:=by
 have hi:=kW h.full (aK hb) g l;have u:=jV hi h.hy h.hg;obtain⟨n,hk⟩:=h.full.set h.len h.hy h.hg (aK hb) g l;have e:k.st s (b+1+i) v={s with ws:=s.ws.set (Na (b+1+i)) v}:=by unfold ck.st;rw[aJ hi]
 have f:∀c∈G,k.ld (k.st s (b+1+i) v) c=k.ld s c:=fun c hc=>by rw[e];exact hk c (aK hc)
 have hld:∀c∈G,∀j,0<=j->j<pf (k.ld s c)->k.ld (k.st s (b+1+i) v) (c+1+j)=if Na (b+1+i)=Na (c+1+j) then v else k.ld s (c+1+j):=fun c hc j j0 d=>by
  have m:=kW h.full (aK hc) j0 d;rw[e];show ld k.N k.y s.g _ _=if _ then v else ld k.N k.y s.g s.ws _
  have hl:=h.len;rw[eA m,eA m,mG _ _ _ _ aa]
 refine⟨⟨by rw[e];exact n,by rw[e];show L (F3 _ _ _)=_;rw[bh];exact h.len,h.hy,by rw[e];exact h.hg,fun c hc j j0 d=>?_,fun c hc j j0 d=>?_⟩,f⟩
 ·rw[f c hc] at d;rw[hld c hc j j0 d];by_cases q:Na (b+1+i)=Na (c+1+j)
  ·rw[aJ q];exact aM hv
  ·rw[aI q];exact(h.fd c hc j j0 d).imp id (fun p=>⟨p,fun⟨o,t⟩=>q (by rw[o,t])⟩)
 ·rw[f c hc] at d;rw[hld c hc j j0 d];by_cases q:Na (b+1+i)=Na (c+1+j)
  ·rw[aJ q];exact fun _=>hv
  ·rw[aI q];exact h.fy c hc j j0 d
theorem ia.imp {Q:Int->Int->Prop}(h:ia k G P s)(hp:∀b i,P b i->Q b i):ia k G Q s:=⟨h.full,h.len,h.hy,h.hg,fun b hb i c d=>(h.fd b hb i c d).imp id (hp b i),h.fy⟩
theorem kz.gone:kz k G 3:=fun h=>absurd h ae
theorem ia.told (h:ia k G P s)(hN:k.N<=256)(hO:k.O<=1024){n:Int}(hn:n∈G):kz k G (ew 3 n):=fun _=>by
 have hb:=h.full.io n hn;have hg:=h.hg;have hy:=h.hy;obtain⟨m,rfl⟩:∃m:Nat,n=m:=⟨Na n,aa⟩
 obtain⟨c,b⟩:=nO m aa;refine⟨?_,by rw[b];exact hn⟩
 unfold ck.cQ;rw[c,b];cases hc:bR k.T (m:Int)
 ·rfl
 ·have d:(m:Int)∈k.T:=by simpa using hc
  have:=h.full.i0 _ d;omega
theorem ia.mw (hN:k.N<=256)(hO:k.O<=1024):∀(l:List Int){P:Int->Int->Prop}{s:ct},ia k G P s->(∀a∈l,a∈G/\pk (k.ld s a)=3)->(∀a∈k.T,s.f a≠-1->s.f a∈G)->ia k G (fun b i=>P b i/\¬(b∈l/\i=0)) (l.foldl k.e3 s)/\(∀c∈G,k.ld (l.foldl k.e3 s) c=k.ld s c)/\(l.foldl k.e3 s).g=s.g/\(l.foldl k.e3 s).rs=s.rs/\(l.foldl k.e3 s).ep=s.ep
 |[],P,s,h,_,_=>⟨h.imp (fun b i p=>⟨p,fun⟨d,_⟩=>by cases d⟩),fun _ _=>rfl,rfl,rfl,rfl⟩
 |a::l,P,s,h,hl,g=>by
  rw[a_];obtain⟨ha,o⟩:=hl a ac;have j:=iR (h.full.eH.mem a ha).2.2 (aK (aM o))
  have j:pf (k.ld s a)=2:=j;have m:a+1+0=a+1:=aa;have fy:=h.fy a ha 0 aa aa;rw[m] at fy;obtain⟨v,ev,hv⟩:∃v,k.e3 s a=k.st s (a+1) v/\kz k G v:=by
   unfold ck.e3;cases hls:k.ls s _
   ·refine⟨k.nw s _,by rw[aI ac],?_⟩
    cases hy:k.cQ _
    ·have e:k.nw s (k.ld s (a+1))=k.ld s (a+1):=by unfold ck.nw;rw[hy];rfl
     rw[e];exact fy hy
    ·unfold ck.ls at hls;rw[hy,Gi] at hls;have e:k.nw s (k.ld s (a+1))=ew 3 (s.f (cr (k.ld s (a+1)))):=by unfold ck.nw;rw[hy,hls];rfl
     rw[e];unfold ck.cQ at hy;rw[bB] at hy;exact h.told hN hO (g _ (by simpa using hy.2) (by simpa using hls))
   ·exact⟨3,by rw[aJ rfl],kz.gone⟩
  obtain⟨m1,f⟩:=h.st ha (i:=0) aa aa hv;rw[m] at m1 f;rw[ev];obtain⟨q,j2,cI,cK,dN⟩:=ia.mw hN hO l m1 (fun c hc=>by
   obtain⟨n1,t⟩:=hl c (aW _ hc)
   exact⟨n1,by rw[f c n1];exact t⟩) g
  refine⟨q.imp (fun b i ⟨⟨u,w⟩,x⟩=>⟨u,fun⟨B,n⟩=>?_⟩),fun c hc=>(j2 c hc).trans (f c hc),cI,cK,dN⟩
  rcases bT.1 B with d|d
  ·exact w ⟨d,n⟩
  ·exact x ⟨d,n⟩
end
section
variable {k:ck}{G:List Int}
theorem ia.be:∀(l:List Int){P:Int->Int->Prop}{s:ct},ia k G P s->(∀a∈l,a∈G/\pk (k.ld s a)=4)->ia k G (fun b i=>P b i/\¬(b∈l/\(i=0\/i=1))) (l.foldl k.hI s)/\(∀c∈G,k.ld (l.foldl k.hI s) c=k.ld s c)/\(l.foldl k.hI s).g=s.g/\(l.foldl k.hI s).rs=s.rs
 |[],P,s,h,_=>⟨h.imp (fun b i p=>⟨p,fun⟨d,_⟩=>by cases d⟩),fun _ _=>rfl,rfl,rfl⟩
 |a::l,P,s,h,hl=>by
  obtain⟨ha,j⟩:=hl a ac;have F:pf (k.ld s a)=2:=iR (h.full.eH.mem a ha).2.2 (aK (aK j))
  have m:a+1+0=a+1:=aa;have n:a+1+1=a+2:=aa;obtain⟨m1,f⟩:=h.st ha (i:=0) (v:=3) aa aa kz.gone;rw[m] at m1 f;obtain⟨n1,g⟩:=m1.st ha (i:=1) (v:=3) aa (by rw[f a ha];omega) kz.gone;rw[n] at n1 g;obtain⟨o,j2,cI,cK⟩:=ia.be l n1 (fun c hc=>by
   obtain⟨q1,q⟩:=hl c (aW _ hc)
   exact⟨q1,by rw[g c q1,f c q1];exact q⟩)
  refine⟨o.imp (fun b i ⟨⟨⟨t,u⟩,w⟩,x⟩=>⟨t,fun⟨B,e⟩=>?_⟩),fun c hc=>((j2 c hc).trans (g c hc)).trans (f c hc),cI,cK⟩
  rcases bT.1 B with d|d
  ·rcases e with e|e
   ·exact u ⟨d,e⟩
   ·exact w ⟨d,e⟩
  ·exact x ⟨d,e⟩
theorem uL {N y g:Nat}{ws:List Int}{a:Int}(ha:(N:Int)<=a)(hy:y<=N):ld N 0 g ws a=ld N y g ws a:=by
 have e:dw N 0 g a=dw N y g a:=by unfold dw hB;have b:decide ((0:Int)<=a/\a<0+(y:Int))=Nb:=bC aa;rw[(bC aa),b]
 unfold ld;rw[e]
theorem ia.done {s:ct}{rs:List Int}(h:ia k G (fun _ _=>False) s)(hr:∀x∈rs,kz k G x):iQ k.N 0 s.g s.ws [] G rs:=by
 have io:=h.full.io;have eq:∀a,(k.N:Int)<=a->ld k.N 0 s.g s.ws a=ld k.N k.y s.g s.ws a:=fun a ha=>uL ha h.hy;refine⟨⟨by simpa using el.done,h.full.eH.heads (fun x c=>eq x (io x c).1)⟩,fun x c ha=>aK (hr x c ha).2,fun v hv i e d ha=>?_⟩
 rcases hv with b|b
 ·cases b
 ·have hv:=io v b;rw[eq v hv.1] at d;rw[eq (v+1+i) aa] at ha⊢;exact aK (((h.fd v b i e d).resolve_right id) ha).2
end
theorem Ao (ws:List Int)(t f n i:Nat)(b:t+n<=L ws)(d:f+n<=L ws):
 X (nS ws t ((ws.drop f).take n)) i 0=if t<=i/\i<t+n then X ws (f+i-t) 0 else X ws i 0:=by
 have hl:L ((ws.drop f).take n)=n:=by simp;omega
 unfold nS;rw[hl];simp;exact yc
theorem HU (k:cg)(hl:L k.s.ws=k.a.N+k.a.O)(hy:k.s.y<=k.a.N)(hg:k.s.g<=k.a.O)(t f n:Nat)(t0:k.a.N<=t)(b:t+n<=k.a.N+k.s.g)(d:k.a.N<=f)(g:f+n<=k.a.N+k.s.g)(x:Int):
 (k.l9 t f n).ld x=if(t:Int)<=x/\x<(t:Int)+n then k.ld (f+(x-t)) else k.ld x:=by
 have e:(k.l9 t f n).ld x=ld k.a.N k.s.y k.s.g (nS k.s.ws t ((k.s.ws.drop f).take n)) x:=rfl;rw[e];unfold cg.ld;by_cases c:(t:Int)<=x/\x<(t:Int)+n
 ·rw[aJ c,eA (ih aa aa),eA (ih aa aa),Ao _ _ _ _ _ aa aa,aJ aa]
  congr 1
  omega
 ·rw[aI c];cases hb:dw k.a.N k.s.y k.s.g x
  ·unfold ld;rw[hb];rfl
  ·have i:=(oF _ _ _ _).1 hb;rw[eA hb,eA hb,Ao _ _ _ _ _ aa aa,aI aa]
structure kY (k k':cg):Prop where
 a:k'.a=k.a
 y:k'.s.y=k.s.y
 rs:k'.s.rs=k.s.rs
 len:L k'.s.ws=L k.s.ws
theorem kY.refl (k:cg):kY k k:=⟨rfl,rfl,rfl,rfl⟩
theorem kY.trans {k b c:cg}(h:kY k b)(j:kY b c):kY k c:=⟨j.a.trans h.a,j.y.trans h.y,j.rs.trans h.rs,j.len.trans h.len⟩
structure jQ (k:cg)(al:Int->Bool)(f:Int->Int)(m:Int)(D l:List Int)(t:cg×Int):Prop where
 sm:kY k t.1
 g:t.1.s.g=k.s.g
 u0:0<=t.2
 pos:Pos (fun a=>pf (k.ld a)) al f (k.a.N+t.2) l m
 tl:∃b:Int,el k.ld (k.a.N+k.s.g) b l/\k.a.N+t.2<=b/\∀x:Int,b<=x->x<k.a.N+k.s.g->t.1.ld x=k.ld x
 cQ:∀x:Int,0<=x->x<k.s.y->t.1.ld x=k.ld x
 rel:∀c∈D,al c=Nc->f c+pf (k.ld c)<k.a.N+t.2/\∀i:Int,0<=i->i<=pf (k.ld c)->t.1.ld (f c+i)=k.ld (c+i)
section
variable {k:cg}{al:Int->Bool}{s:cz}{m:Int}
theorem jQ.step (hl:L k.s.ws=k.a.N+k.a.O)(hy:k.s.y<=k.a.N)(hg:k.s.g<=k.a.O){D l:List Int}{a:Int}{t:cg×Int}(h:jQ k al s.f m D (a::l) t)(hs:al a=!(s.f a==-1)):jQ k al s.f m (D++[a]) l (fL (fun _ a=>s.f a) (cg.jC s) t a):=by
 obtain⟨b,⟨e,ad,ag,ht⟩,hb,g⟩:=h.tl;have ai:=dv (k.ld b)
 have u0:=h.u0;cases c:al a
 ·rw[c] at hs;have c2:s.f a=-1:=by simpa using hs
  have n:fL (fun _ a=>s.f a) (cg.jC s) t a=t:=by unfold fL;rw[aJ c2]
  rw[n];refine⟨h.sm,h.g,h.u0,(h.pos.2 c).2,⟨b+(1+pf (k.ld b)),ht,aa,fun x f d=>g x aa d⟩,h.cQ,fun o hd p=>?_⟩
  rcases bE.1 hd with hd|hd
  ·exact h.rel o hd p
  ·simp_all
 ·rw[c] at hs;have c2:s.f a≠-1:=by simp_all
  obtain⟨am,F⟩:=h.pos.1 c;have n:fL (fun _ a=>s.f a) (cg.jC s) t a=cg.jC s t a:=by unfold fL;rw[aI c2]
  rw[n];have N:cg.jC s t a=(t.1.l9 (Na (s.f a)) (Na a) (1+Na (pf (k.ld a))),t.2+(1+pf (k.ld a))):=by unfold cg.jC;rw[(g a aa (by rw[e];omega))]
  have hz:pf (k.ld a)=pf (k.ld b):=by rw[e]
  have hN:=h.sm.a;have u:=h.g;have v:=h.sm.len;have M:=HU t.1 (by simp_all) (by rw[h.sm.y,hN];exact hy) (by simp_all) (Na (s.f a)) (Na a) (1+Na (pf (k.ld a))) (by rw[hN];omega) (by rw[hN,u];omega) (by rw[hN];omega) (by rw[hN,u];omega)
  have q:kY t.1 (t.1.l9 (Na (s.f a)) (Na a) (1+Na (pf (k.ld a))))/\(t.1.l9 (Na (s.f a)) (Na a) (1+Na (pf (k.ld a)))).s.g=t.1.s.g:=by
   refine⟨⟨rfl,rfl,rfl,?_⟩,rfl⟩
   refine t1 _ _ _ ?_;rw[v,hl,bz,p1,v,hl];omega
  rw[N];generalize t.1.l9 (Na (s.f a)) (Na a) _=S at M q⊢;have j:∀x,S.ld x=if s.f a<=x/\x<s.f a+(1+pf (k.ld a)) then t.1.ld (a+(x-s.f a)) else t.1.ld x:=fun x=>by rw[M x];have f:(Na (s.f a):Int)=s.f a:=aa;have d:(Na a:Int)=a:=aa;have W:((1+Na (pf (k.ld a)):Nat):Int)=1+pf (k.ld a):=aa;rw[f,d,W]
  refine⟨h.sm.trans q.1,q.2.trans h.g,aa,by rw[<-zh];exact F,⟨b+(1+pf (k.ld b)),ht,aa,fun x f d=>?_⟩,fun x f d=>?_,fun o hd p=>?_⟩
  ·rw[j,aI aa];exact g x aa d
  ·rw[j,aI aa];exact h.cQ x f d
  ·rcases bE.1 hd with hd|hd
   ·obtain⟨r1,ab⟩:=h.rel o hd p;refine⟨aa,fun i w B=>?_⟩
    rw[j,aI aa];exact ab i w B
   ·rw[bQ.1 hd];refine⟨aa,fun i w B=>?_⟩
    rw[j,aJ aa,show a+(s.f a+i-s.f a)=a+i from by omega];exact g (a+i) aa aa
theorem jQ.rL (hl:L k.s.ws=k.a.N+k.a.O)(hy:k.s.y<=k.a.N)(hg:k.s.g<=k.a.O)(hN:k.a.N<=256)(hO:k.a.O<=1024)(hs:∀a∈k.G,al a=!(s.f a==-1))(hm:m<=k.a.N+k.a.O):i4 k s (fun j t=>jQ k al s.f m (k.G.take j) (k.G.drop j) t):=by
 have hz:∀a,0<=(fun a=>pf (k.ld a)) a:=fun a=>(dv _).1;refine⟨fun j t c h l=>?_,fun j t c h=>?_,fun t h=>?_⟩
 ·have e:k.G.drop j=X k.G j 0::k.G.drop (j+1):=by simp_all
  have d:X k.G j 0∈k.G:=by rw[aL,aN c];exact a9 c
  generalize X k.G j 0=a at e l d⊢;have h:jQ k al s.f m (k.G.take j) (k.G.drop j) t:=h;rw[e] at h;have ha:al a=Nc:=by simp_all
  obtain⟨b,⟨i,q,u,ht⟩,hb,n⟩:=h.tl;have v:=dv (k.ld b)
  have u0:=h.u0;obtain⟨o,p⟩:=h.pos.1 ha;have f:=p.le hz;have f:=f;rw[(n a aa (by rw[i];omega)),o];rw[i] at f⊢;omega
 ·have e:k.G.drop j=X k.G j 0::k.G.drop (j+1):=by simp_all
  have d:X k.G j 0∈k.G:=by rw[aL,aN c];exact a9 c
  have h:jQ k al s.f m (k.G.take j) (k.G.drop j) t:=h;rw[e] at h;have g:=h.step hl hy hg (hs _ d)
  rw[<-(g9 k.G j c 0)] at g;exact g
 ·have h:=h;have u0:=h.u0;have g:=h.pos.le hz;omega
theorem jQ.all (hl:L k.s.ws=k.a.N+k.a.O)(hy:k.s.y<=k.a.N)(hg:k.s.g<=k.a.O)(hs:∀a∈k.G,al a=!(s.f a==-1)):∀(l D:List Int)(t:cg×Int),(∀a∈l,a∈k.G)->jQ k al s.f m D l t->jQ k al s.f m (D++l) [] (ik (fun _ a=>s.f a) (cg.jC s) t l)
 |[],D,t,_,h=>by rw[ji];exact h
 |a::l,D,t,c,h=>by
  have d:=jQ.all hl hy hg hs l _ _ (fun b hb=>c b (aW _ hb)) (h.step hl hy hg (hs a (c a ac)))
  rw[bw] at d;exact d
structure mc (k:cg)(al:Int->Bool)(f:Int->Int)(m:Int)(D l:List Int)(t:cg):Prop where
 sm:kY k t
 g:t.s.g<=k.a.O
 pos:Pos (fun a=>pf (k.ld a)) al f (k.a.N+t.s.g) l m
 cQ:∀x:Int,0<=x->x<k.s.y->t.ld x=k.ld x
 rel:∀c∈D,al c=Nc->(k.a.N:Int)<=f c/\f c+pf (k.ld c)<k.a.N+t.s.g/\∀i:Int,0<=i->i<=pf (k.ld c)->t.ld (f c+i)=k.ld (c+i)
theorem mc.step (hl:L k.s.ws=k.a.N+k.a.O)(hy:k.s.y<=k.a.N)(hm:m<=k.a.N+k.a.O){D l:List Int}{a:Int}{t:cg}(h:mc k al s.f m D (a::l) t)(hs:al a=!(s.f a==-1))(h0:0<=a)(ag:a+(1+pf (k.ld a))<=k.s.y)(v:pc (k.ld a)=0):mc k al s.f m (D++[a]) l (fL (fun(_:cg) a=>s.f a) (fun k a=>k.cop a) t a):=by
 have hz:∀a,0<=(fun a=>pf (k.ld a)) a:=fun a=>(dv _).1;have ai:=dv (k.ld a)
 cases c:al a
 ·rw[c] at hs;have c2:s.f a=-1:=by simpa using hs
  have f:fL (fun(_:cg) a=>s.f a) (fun k a=>k.cop a) t a=t:=by unfold fL;rw[aJ c2]
  rw[f];refine⟨h.sm,h.g,(h.pos.2 c).2,h.cQ,fun g hd j=>?_⟩
  rcases bE.1 hd with hd|hd
  ·exact h.rel g hd j
  ·simp_all
 ·rw[c] at hs;have c2:s.f a≠-1:=by simp_all
  obtain⟨am,d⟩:=h.pos.1 c;have d:Pos (fun a=>pf (k.ld a)) al s.f (k.a.N+t.s.g+(1+pf (k.ld a))) l m:=d;have an:=d.le hz;have f:fL (fun(_:cg) a=>s.f a) (fun k a=>k.cop a) t a=t.cop a:=by unfold fL;rw[aI c2]
  rw[f];have hN:=h.sm.a;have ao:=h.sm.y;have n:=h.sm.len;have b:ld t.a.N t.s.y t.s.g t.s.ws a=k.ld a:=h.cQ a h0 aa;have w:gY t.a.N t.s.y t.s.g a=t.s.y:=by
   unfold gY;have o:hB (0:Int) t.s.y a=Nc:=by unfold hB;exact bv ⟨h0,aa⟩
   first|rw[aJ o]|(simp[o])
  have hc:iY t.a.N t.a.O t.s.y t.s.g t.s.ws a=Nc:=by unfold iY;rw[b,w];exact bv ⟨v,aa,by rw[hN];omega⟩
  have M:=ck.t4 (k:=⟨t.a.N,t.a.O,t.s.y,[]⟩) (s:=⟨t.s.g,t.s.ws,fun _=>-1,0,[],[],[]⟩) (by simp_all) (by simp_all) ((hN▸h.g)) (a:=a) h0 (by show a+1+pf (ld t.a.N t.s.y t.s.g t.s.ws a)<=t.s.y;rw[b];omega) hc;have e:∀x,(t.cop a).ld x=if(k.a.N:Int)+t.s.g<=x/\x<(k.a.N:Int)+t.s.g+(1+pf (k.ld a)) then t.ld (a+(x-(k.a.N+t.s.g))) else t.ld x:=fun x=>by have:=M x;rw[<-hN,<-b];exact this
  have B:(t.cop a).s.g=t.s.g+(1+Na (pf (k.ld a))):=by show km _ _ _ _ _ _=_;unfold km;rw[aJ hc,b]
  have F:L (t.cop a).s.ws=L t.s.ws:=by show L (kn _ _ _ _ _ _)=_;unfold kn;rw[aJ hc,b];refine t1 _ _ _ ?_;rw[n,hl,hN,bz,p1,n,hl];omega
  have p:kY t (t.cop a):=⟨rfl,rfl,rfl,F⟩
  generalize t.cop a=N at e B p⊢;have S:(N.s.g:Int)=t.s.g+(1+pf (k.ld a)):=aa;refine⟨h.sm.trans p,aa,by rw[S,<-zh];exact d,fun x W ab=>?_,fun g hd j=>?_⟩
  ·rw[e,aI aa];exact h.cQ x W ab
  ·rcases bE.1 hd with hd|hd
   ·obtain⟨r0,r1,ad⟩:=h.rel g hd j;refine⟨r0,aa,fun i q u=>?_⟩
    rw[e,aI aa];exact ad i q u
   ·rw[bQ.1 hd];refine⟨aa,aa,fun i q u=>?_⟩
    rw[e,aJ aa,show a+(s.f a+i-(k.a.N+t.s.g))=a+i from by omega];exact h.cQ (a+i) aa aa
theorem mc.all (hl:L k.s.ws=k.a.N+k.a.O)(hy:k.s.y<=k.a.N)(hm:m<=k.a.N+k.a.O):∀(l D:List Int)(t:cg),(∀a∈l,al a=!(s.f a==-1)/\0<=a/\a+(1+pf (k.ld a))<=k.s.y/\pc (k.ld a)=0)->mc k al s.f m D l t->mc k al s.f m (D++l) [] (t.pU s l)
 |[],D,t,_,h=>by rw[ji];exact h
 |a::l,D,t,c,h=>by
  obtain⟨g1,g2,g3,g4⟩:=c a ac;have d:=mc.all hl hy hm l _ _ (fun b hb=>c b (aW _ hb)) (h.step hl hy hm g1 g2 g3 g4)
  rw[bw] at d;exact d
end
end Go.Proofs.YtpkjkjhanlbcoaaGreat
