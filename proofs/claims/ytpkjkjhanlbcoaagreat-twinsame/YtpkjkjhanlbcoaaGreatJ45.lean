import Derived.Test.YtpkjkjhanlbcoaaGreatJ44
namespace Go.Proofs.YtpkjkjhanlbcoaaGreat
open Go.RowKit W Kp cf
theorem A7 {P:Prop}(h:P:=by
 refine List.map_congr_left (fun e he=>?_)
 obtain⟨z1,z2⟩:=List.mem_filter.1 he;have h5:=hE e z1;refine uZ e h5 z2 ?_;rcases List.mem_append.1 z1 with d|d
 ·exact hcl _ h5.g.1 z2 (3,e.2) (aJ (aJ (aJ ⟨h5.k,e,d,by have:=h5.g0;omega,rfl⟩))) rfl
 ·exact(hs.c e d).2):P:=h
theorem A8 {P:Prop}(h:P:=by
 obtain⟨q1,q2⟩:=w.ep c hc;have q3:=li.mi.bd q1;have:=ii q3.2.2 (aJ (aJ q2))
 exact⟨hZ V V,hZ V V⟩):P:=h
theorem A9 {P:Prop}(h:P:=by
 refine List.map_congr_left (fun e he=>?_)
 obtain⟨z1,z2⟩:=List.mem_filter.1 he;rw[a_] at z2;exact uZ e (hR.gv e z1) z2.2 (hup _ z2.1)):P:=h
theorem A_ {P:Prop}(h:P:=by
 obtain⟨q1,q2⟩:=w.wk c hc;have q3:=li.mi.bd q1;have:=ii q3.2.2 (aJ (aK q2))
 exact hZ V V):P:=h
section
variable {k:ce}{z:C0}{s t:cj}{H D:List Int}
def ce.cG (k:ce)(s:cj)(x:Int):Int:=if k.ls s x=true then 3 else k.nw s x
theorem Ba {s t:cj}(b:t.f=s.f)(x:Int):k.ls t x=k.ls s x/\k.nw t x=k.nw s x:=by unfold ce.ls ce.nw;rw[b];exact⟨rfl,rfl⟩
def Fo (k:ce)(s:cj):Prop:=∀a∈k.T,s.f a≠-1->(k.N:Int)<=s.f a/\s.f a<1000000
theorem dE.eR (h:dE k z s H):Fo k s:=fun a ha b=>by
 have hb:=h.i7 (h.fh a ha b)
 have n1:=h.ci.hN';have c:=h.ci.hO;have d:=h.ci.hg;exact⟨hb.1,V⟩
theorem oD {x:Int}(h:k.cK x=false):k.nw s x=x:=by unfold ce.nw;rw[h];simp
theorem rH {x:Int}(h:k.cK x=true)(b:s.f (cg x)≠-1):k.nw s x=ew 3 (s.f (cg x)):=by unfold ce.nw;rw[h,aI (by simp[b])]
theorem Kl (ci:CI k s)(eR:Fo k s){x:Int}(h:k.ls s x=false):k.cK (k.nw s x)=false:=by
 cases c:k.cK x
 ·rw[oD c];exact c
 ·have b:s.f (cg x)≠-1:=fun e=>by unfold ce.ls at h;rw[c,e] at h;simp at h
  rw[rH c b];obtain⟨b1,b2⟩:=eR _ (nD c) b;exact m_ ci b1 b2
theorem Km:k.cK 3=false:=by unfold ce.cK;rw[show cY 3=false by decide];rfl
theorem Bb (ci:CI k s)(eR:Fo k s)(x:Int):k.cK (k.cG s x)=false:=by
 unfold ce.cG;cases c:k.ls s x
 ·rw[aG Z];exact Kl ci eR c
 ·exact Km
theorem Kn {x:Int}(h:k.cK x=false):k.cG s x=x:=by unfold ce.cG ce.ls;rw[h,Bool.false_and,aG Z];exact oD h
theorem Ko (k:ce)(s:cj)(a:Int):k.eF s a=k.st s (a+1) (k.cG s (k.ld s (a+1))):=by unfold ce.eF ce.cG;split<;>rfl
theorem u_ (k:ce)(s:cj)(a x:Int):(k.st s a x).ws.length=s.ws.length:=by
 unfold ce.st;split
 ·rw[a4]
 ·rfl
theorem vd (hl:s.ws.length=k.N+k.O)(hy:k.y<=k.N)(hg:s.g<=k.O)(hv:∀x,k.cK (k.cG s x)=false):∀(l:List Int)(t:cj),t.f=s.f->t.g=s.g->t.ws.length=s.ws.length->(∀c∈l,dd k.N k.y s.g (c+1)=true)->
 (l.foldl k.eF t).f=s.f/\(l.foldl k.eF t).g=s.g/\(l.foldl k.eF t).ws.length=s.ws.length/\(l.foldl k.eF t).ep=t.ep/\(l.foldl k.eF t).rs=t.rs/\∀p,k.ld (l.foldl k.eF t) p=if p-1∈l then k.cG s (k.ld t p) else k.ld t p
 |[],t,d,f,g,_=>⟨d,f,g,rfl,rfl,fun p=>Z⟩
 |c::l,t,d,f,g,hi=>by
  have vt:∀x,k.cG t x=k.cG s x:=fun x=>by unfold ce.cG;rw[(Ba d x).1,(Ba d x).2]
  rw[a8,Ko];obtain⟨j,m,n,o,u,v⟩:=vd hl hy hg hv l (k.st t (c+1) (k.cG t (k.ld t (c+1)))) d f ((u_ _ _ _ _).trans g) (fun x w=>hi x (aO _ w))
  refine⟨j,m,n,o,u,fun p=>?_⟩
  rw[v p];have hp:=ce.nZ (g.trans hl) hy (by rw[f];exact hg) (c+1) (k.cG t (k.ld t (c+1))) p;rw[f] at hp;by_cases e:p=c+1
  ·have i:p-1∈c::l:=by rw[e];simp
   rw[aI ⟨e,(hi c Z)⟩] at hp;rw[hp,aI i,vt,e];split
   ·exact Kn (hv _)
   ·rfl
  ·have i:(p-1∈c::l)↔p-1∈l:=by rw[List.mem_cons];exact⟨fun b=>b.resolve_left (fun q=>e V),aJ⟩
   rw[aG (fun q=>e q.1)] at hp;rw[hp];by_cases b:p-1∈l
   ·rw[aI b,aI (i.2 b)]
   ·rw[aG b,aG (fun q=>b (i.1 q))]
theorem vf (hy:k.y<=k.N):∀(l:List Int)(t:cj),t.ws.length=k.N+k.O->t.g<=k.O->(∀c∈l,dd k.N k.y t.g (c+1)=true/\dd k.N k.y t.g (c+2)=true)->
 (l.foldl k.gA t).rs=t.rs/\(l.foldl k.gA t).g=t.g/\∀p,k.ld (l.foldl k.gA t) p=if p-1∈l\/p-2∈l then 3 else k.ld t p
 |[],t,_,_,_=>⟨rfl,rfl,fun p=>Z⟩
 |c::l,t,g,d,hi=>by
  obtain⟨c1,c2⟩:=hi c Z;have l1:(k.st t (c+1) 3).ws.length=k.N+k.O:=(u_ _ _ _ _).trans g;rw[a8];obtain⟨i,j,m⟩:=vf hy l _ ((u_ _ _ _ _).trans l1) d (fun x n=>hi x (aO _ n))
  refine⟨i,j,fun p=>?_⟩
  have o:k.gA t c=k.st (k.st t (c+1) 3) (c+2) 3:=rfl;rw[o,m p,(ce.nZ l1 hy d (c+2) 3) p,(ce.nZ g hy d (c+1) 3) p];have g1:(k.st t (c+1) 3).g=t.g:=rfl;by_cases b:p-1∈l\/p-2∈l
  ·rw[aI b,aI (b.imp (aO _) (aO _))]
  ·rw[aG b];by_cases e:p=c+2
   ·rw[aI ⟨e,c2⟩,aI (aJ (by rw[e];simp))]
   ·rw[aG (fun q=>e q.1)];by_cases f:p=c+1
    ·rw[aI ⟨f,c1⟩,aI (aK (by rw[f];simp))]
    ·rw[aG (fun q=>f q.1),aG];rintro(q|q)
     ·rcases List.mem_cons.1 q with q|q
      ·omega
      ·exact b (aK q)
     ·rcases List.mem_cons.1 q with q|q
      ·omega
      ·exact b (aJ q)
theorem Bd (ci:CI k s)(eR:Fo k s){b x:Int}(h:k.ml s b x):k.nw s x=k.nw s b:=by
 rcases h with e|⟨y1,c,d⟩
 ·rw[e]
 ·rw[rH y1 c,d];obtain⟨b1,b2⟩:=eR _ (nD y1) c;exact oD (m_ ci b1 b2)
theorem Be {b x:Int}(h:k.ml s b x)(hy:k.cK x=false):x=k.nw s b:=by
 rcases h with e|⟨y1,c,d⟩
 ·rw[e] at hy;rw[oD hy,e]
 ·rw[rH y1 c,d]
theorem Kq (li:LI k z s H D)(w:dL k z s H){a b i:Int}(o:k.or z s a b)(J:0<=i)(B:i<pf (k.l0 z a)):
 k.ld (k.be (k.mw s s.wk) (k.mw s s.wk).ep) (b+1+i)=if b∈s.ep then 3 else if b∈s.wk/\i=0 then k.cG s (k.ld s (b+1+i)) else k.ld s (b+1+i):=by
 have ci:=li.mi.ci;have full:=li.mi.full;have hb:=li.mi.mem o;have K:i<pf (k.ld s b):=by rw[(li.mi.hd a b o)];exact B
 have C:∀c∈s.wk,dd k.N k.y s.g (c+1)=true:=fun c hc=>by exact A_
 have E:∀c∈s.ep,dd k.N k.y s.g (c+1)=true/\dd k.N k.y s.g (c+2)=true:=fun c hc=>by exact A8
 obtain⟨m1,f,g,m,_,n⟩:=vd ci.len ci.hy ci.hg (Bb ci li.mi.eR) s.wk s rfl rfl rfl C;have m:(k.mw s s.wk).ep=s.ep:=m;have f:(k.mw s s.wk).g=s.g:=f;have g:(k.mw s s.wk).ws.length=s.ws.length:=g;obtain⟨_,_,b3⟩:=vf ci.hy s.ep _ (by rw[g];exact ci.len) (by rw[f];exact ci.hg) (by rw[f];exact E)
 have b3:∀p,k.ld (k.be (k.mw s s.wk) s.ep) p=if p-1∈s.ep\/p-2∈s.ep then 3 else k.ld (k.mw s s.wk) p:=b3
 have n:∀p,k.ld (k.mw s s.wk) p=if p-1∈s.wk then k.cG s (k.ld s p) else k.ld s p:=n
 rw[m,b3,n];have t:∀j,0<=j->j<pf (k.ld s b)->_:=fun j j0 F=>full.ec.field hb j0 F;have q1:∀l:List Int,(∀c∈l,c∈z.G++H)->((b+1+i)-1∈l↔(b∈l/\i=0)):=fun l hl=>by
  constructor
  ·intro d;by_cases e:i=0
   ·subst e;have:b+1+0-1=b:=V;rw[this] at d;exact⟨d,rfl⟩
   ·exfalso;have:b+1+i-1=b+1+(i-1):=V;rw[this] at d;exact t (i-1) V V (hl _ d)
  ·rintro⟨d,e⟩
   subst e;have:b+1+0-1=b:=V;rw[this];exact d
 have q2:(b+1+i)-2∈s.ep↔(b∈s.ep/\i=1):=by
  constructor
  ·intro d;obtain⟨r1,G⟩:=w.ep _ d;by_cases e:i=1
   ·subst e;have:b+1+1-2=b:=V;rw[this] at d;exact⟨d,rfl⟩
   ·exfalso;by_cases I:i=0
    ·subst I;have L:=ii (li.mi.bd r1).2.2 (aJ (aJ G))
     have u:=full.ec.apart _ r1 b hb V;have u:b+1+0-2+(1+pf (k.ld s (b+1+0-2)))<=b:=u;omega
    ·have:b+1+i-2=b+1+(i-2):=V;rw[this] at r1;exact t (i-2) V V r1
  ·rintro⟨d,e⟩
   subst e;have:b+1+1-2=b:=V;rw[this];exact d
 have v:=q1 s.ep (fun c hc=>(w.ep c hc).1)
 have x:=q1 s.wk (fun c hc=>(w.wk c hc).1)
 by_cases c:b∈s.ep
 ·have A:=ii (full.ec.mem b hb).2.2 (aJ (aJ (w.ep b c).2))
  have A:pf (k.ld s b)=2:=A;rw[aI c,aI];rcases(show i=0\/i=1 by omega) with e|e
  ·exact aK (v.2 ⟨c,e⟩)
  ·exact aJ (q2.2 ⟨c,e⟩)
 ·rw[aG c,aG (fun q=>q.elim (fun q=>c (v.1 q).1) (fun q=>c (q2.1 q).1))];by_cases d:b∈s.wk/\i=0
  ·rw[aI d,aI (x.2 d)]
  ·rw[aG d,aG (fun q=>d (x.1 q))]
theorem Kr (li:LI k z s H D)(w:dL k z s H){a b:Int}(o:k.or z s a b):k.ld (k.be (k.mw s s.wk) (k.mw s s.wk).ep) b=k.l0 z a/\(k.be (k.mw s s.wk) (k.mw s s.wk).ep).rs=s.rs:=by
 have ci:=li.mi.ci;have n:∀c∈s.wk,dd k.N k.y s.g (c+1)=true:=fun c hc=>by exact A_
 have t:∀c∈s.ep,dd k.N k.y s.g (c+1)=true/\dd k.N k.y s.g (c+2)=true:=fun c hc=>by exact A8
 obtain⟨m1,f,i,j,u,l⟩:=vd ci.len ci.hy ci.hg (Bb ci li.mi.eR) s.wk s rfl rfl rfl n;have j:(k.mw s s.wk).ep=s.ep:=j;have f:(k.mw s s.wk).g=s.g:=f;have i:(k.mw s s.wk).ws.length=s.ws.length:=i;obtain⟨b1,_,b3⟩:=vf ci.hy s.ep _ (by rw[i];exact ci.len) (by rw[f];exact ci.hg) (by rw[f];exact t)
 have b3:∀p,k.ld (k.be (k.mw s s.wk) s.ep) p=if p-1∈s.ep\/p-2∈s.ep then 3 else k.ld (k.mw s s.wk) p:=b3
 have l:∀p,k.ld (k.mw s s.wk) p=if p-1∈s.wk then k.cG s (k.ld s p) else k.ld s p:=l
 have no:∀c,c∈z.G++H->pf (k.ld s c)=2->∀g:Int,(g=1\/g=2)->b-g≠c:=fun c hc v g hd e=>by have m:=li.mi.full.ec.apart c hc b (li.mi.mem o) V;have m:c+(1+pf (k.ld s c))<=b:=m;omega
 rw[j,b3,l];refine⟨?_,b1.trans u⟩
 rw[aG,aG,(li.mi.hd a b o)]
 ·intro q;obtain⟨r1,d⟩:=w.wk _ q;exact no _ r1 (ii (li.mi.bd r1).2.2 (aJ (aK d))) 1 (aK rfl) rfl
 ·rintro(q|q)
  ·obtain⟨r1,d⟩:=w.ep _ q;exact no _ r1 (ii (li.mi.bd r1).2.2 (aJ (aJ d))) 1 (aK rfl) rfl
  ·obtain⟨r1,d⟩:=w.ep _ q;exact no _ r1 (ii (li.mi.bd r1).2.2 (aJ (aJ d))) 2 (aJ rfl) rfl
end
theorem rI {L:List Bool}{i:Nat}{t:cD}(d:L.getD i false=true)(b:t.1=3\/t.1=4->t.2.1.length=2):(fz L i t).2.1.length=t.2.1.length/\(fz L i t).1=t.1/\(fz L i t).2.2=(true,t.2.2.2):=by
 unfold fz;rw[aI d];refine⟨?_,rfl,rfl⟩
 split
 ·rename_i c;rw[b (aJ c.1)];rfl
 ·split
  ·rename_i c;rw[b (aK c.1)];rfl
  ·rfl
theorem Bf {L:List Bool}{i:Nat}{t:cD}(b:L.getD i false=false):fz L i t=(t.1,[],t.2.2.1,true):=by unfold fz;rw[b,aG Z]
theorem mI {L:List Bool}{i:Nat}{t:cD}(c:L.getD i false=true)(b:t.1=3\/t.1=4->t.2.1.length=2){k:Nat}(hk:k<t.2.1.length):
 (fz L i t).2.1.getD k (0,0)=if((t.1=3\/t.1=4)/\dH L (t.2.1.getD 0 (0,0))=false)/\(k=0\/(t.1=4/\k=1)) then(2,0) else t.2.1.getD k (0,0):=by
 unfold fz;rw[aI c];by_cases c4:t.1=4/\dH L (t.2.1.getD 0 (0,0))=false
 ·rw[aI c4,aI ⟨⟨aJ c4.1,c4.2⟩,by
   have:=b (aJ c4.1);have:k=0\/k=1:=V
   exact this.imp id (fun e=>⟨c4.1,e⟩)⟩]
  have:=b (aJ c4.1)
  rcases(show k=0\/k=1 by omega) with e|e<;>subst e<;>rfl
 ·rw[aG c4];by_cases c3:t.1=3/\dH L (t.2.1.getD 0 (0,0))=false
  ·rw[aI c3];have:=b (aK c3.1)
   rcases(show k=0\/k=1 by omega) with e|e
   ·subst e;rw[aI ⟨⟨aK c3.1,c3.2⟩,aK rfl⟩];rfl
   ·subst e;rw[aG (fun q=>by
     rcases q.2 with d|d
     ·omega
     ·have:=c3.1;omega)]
    rfl
  ·rw[aG c3,aG (fun q=>q.1.1.elim (fun e=>c3 ⟨e,q.1.2⟩) (fun e=>c4 ⟨e,q.1.2⟩))]
structure rJ (a:Wc)(S:cq)(W:ck)(m:Nat->Int)(B L:List Bool)(C:List b7)(S':cq)(m':Nat->Int)(G':List Int):Prop where
 kv:el a S'.s [] G'
 ok:gD W.T L
 cl:gX W.T W.wt (ct L)
 up:∀i,ct B i->ct L i
 rr:∀v∈W.rs,v.1=3->ct L v.2.toNat
 cc:∀e∈C,e∈W.rg/\ct L e.2.toNat
 rs:S'.s.rs=W.rs.map (wv m')
 pl:∀i,ct L i->m' i∈G'
 inj:∀i j,ct L i->ct L j->m' i=m' j->i=j
 f4:∀v∈G',∃i,ct L i/\m' i=v
 hd:∀i,ct L i->ld a.N S'.s.y S'.s.g S'.s.ws (m' i)=ld a.N S.s.y S.s.g S.s.ws (m i)
 fd:∀i,ct L i->∀k:Nat,k<(W.T.getD i t0).2.1.length->ld a.N S'.s.y S'.s.g S'.s.ws (m' i+1+k)=wv m' ((fz L i (W.T.getD i t0)).2.1.getD k (0,0))
 rg:S'.r=(W.rg.filter (fun e=>cL B e.2&&cL L e.1)).map (we m')
 wt:S'.q=((W.wt++C).filter (fun e=>cL L e.1)).map (we m')
section
variable {a:Wc}{S S':cq}{W:ck}{m m':Nat->Int}{Y G G':List Int}{B L:List Bool}{C:List b7}
theorem Bg {L:List Bool}{v:Int×Int}(b:v.1=3):dH L v=L.getD v.2.toNat false:=by unfold dH;rw[b];rfl
theorem Ks {L:List Bool}{v:Int×Int}(b:v.1≠3):dH L v=true:=by
 unfold dH;have:(v.1==3)=false:=by simpa using b
 rw[this];rfl
theorem cy.led (h:cy a S W m Y G)(ok:gD W.T L)(cl:gX W.T W.wt (ct L)){i:Nat}(hi:ct L i){k:Nat}(hk:k<(W.T.getD i t0).2.1.length)(b:((fz L i (W.T.getD i t0)).2.1.getD k (0,0)).1=3):ct L ((fz L i (W.T.getD i t0)).2.1.getD k (0,0)).2.toNat:=by
 have al:=ok.al i hi;have j:(W.T.getD i t0).1=3\/(W.T.getD i t0).1=4->_=_:=fun c=>h.two al (aJ c)
 rw[mI hi j hk] at b⊢;split at b
 ·exact absurd b aa
 ·rename_i c;rw[aG c];have o:=oF _ _ (h.hd i al).1;by_cases n:(W.T.getD i t0).1=1\/(W.T.getD i t0).1=2
  ·exact cl i al.1 hi _ (aK ⟨n,(getD_in hk)⟩) b
  by_cases f:(W.T.getD i t0).1=3
  ·have l2:=j (aK f)
   rcases(show k=0\/k=1 by omega) with e|e
   ·subst e;have:dH L ((W.T.getD i t0).2.1.getD 0 (0,0))=true:=by
     cases d:dH L _
     ·exact absurd ⟨⟨aK f,d⟩,aK rfl⟩ c
     ·rfl
    exact ng this b
   ·subst e;exact cl i al.1 hi _ (aJ (aK ⟨f,rfl⟩)) b
  by_cases g:(W.T.getD i t0).1=4
  ·have l:dH L ((W.T.getD i t0).2.1.getD 0 (0,0))=true:=by
    cases d:dH L _
    ·exact absurd ⟨⟨aJ g,d⟩,by
      rcases(show k=0\/k=1 by omega) with e|e
      ·exact aK e
      ·exact aJ ⟨g,e⟩⟩ c
    ·rfl
   rcases(show k=0\/k=1 by omega) with e|e
   ·subst e;exact ng l b
   ·subst e;exact cl i al.1 hi _ (aJ (aJ (aK ⟨g,ng l,rfl⟩))) b
  ·omega
theorem rJ.done (h:cy a S W m Y G)(c:rJ a S W m B L C S' m' G'):cy a S' ⟨f6 L W.T W.T.length,W.rs,W.rg.filter (fun e=>cL B e.2&&cL L e.1),(W.wt++C).filter (fun e=>cL L e.1)⟩ m' [] G':=by
 have gt:∀j,j<W.T.length->(f6 L W.T W.T.length).getD j t0=fz L j (W.T.getD j t0):=fun j o=>by rw[qV L W.T W.T.length j bW o,aI o]
 have f:∀i,ct L i->((W.T.getD i t0).1=3\/(W.T.getD i t0).1=4->_=_):=fun i hi q=>h.two (c.ok.al i hi) (aJ q)
 have al:∀j,cv (f6 L W.T W.T.length) j↔ct L j:=fun j=>by
  unfold cv;rw[jD];constructor
  ·rintro⟨p,f⟩
   rw[gt j p] at f;unfold ct;cases d:L.getD j false
   ·rw[Bf d] at f;cases f
   ·rfl
  ·intro b;have ha:=c.ok.al j b;refine⟨ha.1,?_⟩
   rw[gt j ha.1,(rI b (f j b)).2.2];exact ha.2
 have n:∀j,ct L j->((f6 L W.T W.T.length).getD j t0).2.1.length=(W.T.getD j t0).2.1.length/\((f6 L W.T W.T.length).getD j t0).1=(W.T.getD j t0).1/\((f6 L W.T W.T.length).getD j t0).2.2.1=true:=fun j b=>by
  have ha:=c.ok.al j b;obtain⟨q1,g,q3⟩:=rI b (f j b)
  rw[gt j ha.1,q3];exact⟨q1,g,rfl⟩
 have u:∀v,dM W.T v->(v.1=3->ct L v.2.toNat)->dM (f6 L W.T W.T.length) v:=fun v hv b=>⟨fun e=>⟨(hv.t e).1,(al _).2 (b e)⟩,hv.o⟩
 have t:∀e,iG W.T e->ct L e.1.toNat->ct L e.2.toNat->iG (f6 L W.T W.T.length) e:=fun e he p f=>⟨he.g0,(al _).2 p,by rw[(n _ p).2.1];exact he.k,he.h0,(al _).2 f⟩
 exact
 {
  kv:=c.kv,rl:=h.rl,rv:=fun v hv=>u v (h.rv v hv) (c.rr v hv)
  fv:=fun i hi v hv=>by
   have b:=(al i).1 hi;have ha:=c.ok.al i b;have hv:=hv;rw[gt i ha.1] at hv;obtain⟨k,hk,e⟩:=List.mem_iff_getElem.1 hv;have ev:(fz L i (W.T.getD i t0)).2.1.getD k (0,0)=v:=by rw[aE,aL hk,e];rfl
   rw[(rI b (f i b)).1] at hk;refine⟨fun l=>?_,fun l=>?_⟩
   ·have hl:=h.led c.ok c.cl b hk (by rw[ev];exact l)
    rw[ev] at hl;refine⟨?_,(al _).2 hl⟩
    rw[mI b (f i b) hk] at ev;split at ev
    ·rw[<-ev] at l;exact absurd l aa
    ·rw[<-ev] at l⊢;exact((h.fv i ha _ (getD_in hk)).t l).1
   ·rw[mI b (f i b) hk] at ev;split at ev
    ·rw[<-ev];decide
    ·rw[<-ev] at l⊢;exact(h.fv i ha _ (getD_in hk)).o l
  rs:=c.rs
  il:=fun i hi e=>by have e:=e;rw[(n i ((al i).1 hi)).2.2] at e;cases e
  old:=fun i hi _=>c.pl i ((al i).1 hi)
  inj:=fun i j hi o e=>c.inj i j ((al i).1 hi) ((al j).1 o) e
  f4:=fun v hv=>by
   rcases hv with d|d
   ·cases d
   ·obtain⟨i,hi,e⟩:=c.f4 v d;exact⟨i,(al i).2 hi,e⟩
  hd:=fun i hi=>by have b:=(al i).1 hi;show hc _ _=0/\ld a.N S'.s.y S'.s.g S'.s.ws (m' i)=hw _ _;rw[(n i b).1,(n i b).2.1,c.hd i b];exact h.hd i (c.ok.al i b)
  fd:=fun i hi k hk=>by have b:=(al i).1 hi;have hk:=hk;rw[(n i b).1] at hk;show ld a.N S'.s.y S'.s.g S'.s.ws _=wv m' _;rw[gt i (c.ok.al i b).1];exact c.fd i b k hk
  rg:=c.rg
  gv:=fun e he=>by obtain⟨q1,g⟩:=List.mem_filter.1 he;rw[a_] at g;exact t e (h.gv e q1) g.2 (c.up _ g.1)
  wt:=c.wt
  dx:=fun e he=>by
   obtain⟨q1,g⟩:=List.mem_filter.1 he;rcases List.mem_append.1 q1 with d|d
   ·have s:=h.dx e d;exact t e s g (c.cl _ s.g.1 g (3,e.2) (aJ (aJ (aJ ⟨s.k,e,d,by have:=s.g0;omega,rfl⟩))) rfl)
   ·obtain⟨w,x⟩:=c.cc e d;exact t e (h.gv e w) g x
  tl:=fun i=>by
   show((f6 L W.T W.T.length).getD i t0).2.1.length<=12;by_cases hi:i<W.T.length
   ·rw[gt i hi];cases d:L.getD i false
    ·rw[Bf d];simp
    ·rw[(rI d (f i d)).1];exact h.tl i
   ·rw[aE,List.getElem?_eq_none (by rw[jD];omega)];simp[t0]}
end
section
variable {a:Wc}{S:cq}
end
section
variable {a:Wc}{S:cq}{W:ck}{m:Nat->Int}{Y G:List Int}
theorem Kt (h:el a S.s Y G)(hb:cI a S.s)(l:S.fM a=false):(S.dy a).r=((S.r.filter (fun e=>(S.s.j0 a).al (S.j2 a).1 e.2)).filter (fun e=>(S.s.j0 a).al (S.cA a) e.1)).map (fun e=>((S.s.j0 a).nw (S.cE a) e.1,(S.s.j0 a).nw (S.cE a) e.2)):=by
 have i:=cV.start hb.n1 hb.o1 hb.y1 hb.g1;obtain⟨d1,p,t⟩:=oh (S:=S) i;obtain⟨_,l2,l3⟩:=kO h.inv.full hb;obtain⟨_,g,u⟩:=mc h hb l;obtain⟨_,b,t3,_⟩:=pr (s:=S.cE a) (k:=S.s.j0 a) ⟨hb.l1,hb.y1,hb.g1⟩ hb.r1 i.nd (oq h.inv.full hb) (py h.inv.full hb)
 have b:(S.k5 a).Y=(S.s.j0 a).Y:=b;have t3:(S.k5 a).G=(S.s.j0 a).G:=t3;have zm:(S.k5 a).T=(S.s.j0 a).T:=by unfold b9.T;rw[b,t3]
 have j:∀x,(S.k5 a).al (S.cE a) x=(S.s.j0 a).al (S.cA a) x:=fun x=>by exact zl
 have r3:S.r3 a=(S.r.filter (fun e=>(S.s.j0 a).al (S.j2 a).1 e.2)).filter (fun e=>(S.s.j0 a).al (S.cA a) e.1):=by show(((S.r.filter (fun e=>(S.s.j0 a).al _ e.2)).filter (fun e=>(S.s.j0 a).al (S.cA a) e.1)).map fun e=>((S.s.j0 a).nw (S.cA a) e.1,(S.s.j0 a).nw (S.cA a) e.2))=_;exact zn
 have m:(S.k5 a).tS (S.cE a,S.q3 a) (S.r3 a)=(S.cE a,S.q3 a):=t4 (fun e he=>by rw[j];exact qO i e he)
 unfold cq.dy;rw[l,aG Z];show eO (dI cu) (fun s x=>(S.k5 a).al s.1 x) _ (fun s x=>(S.k5 a).nw s.1 x) (S.cE a,S.q3 a) (S.r3 a)=_;unfold eO;have e:ft (dI cu) (fun s x=>(S.k5 a).al s.1 x) (S.k5 a).ch (S.cE a,S.q3 a) (S.r3 a)=(S.cE a,S.q3 a):=m;rw[e];show(((S.r3 a).filter (fun e=>(S.k5 a).al (S.cE a) e.2)).filter (fun e=>(S.k5 a).al (S.cE a) e.1)).map (fun e=>((S.k5 a).nw (S.cE a) e.1,(S.k5 a).nw (S.cE a) e.2))=_;have n:(S.r3 a).filter (fun e=>(S.k5 a).al (S.cE a) e.2)=S.r3 a:=List.filter_eq_self.2 (fun e he=>by rw[j];exact qO (S:=S) i e he)
 have o:(S.r3 a).filter (fun e=>(S.k5 a).al (S.cE a) e.1)=S.r3 a:=List.filter_eq_self.2 (fun e he=>by rw[j];rw[r3] at he;exact(List.mem_filter.1 he).2)
 rw[n,o,r3];refine List.map_congr_left (fun e _=>?_)
 rw[b9.km _ _ b t3,b9.km _ _ b t3]
theorem cy.n4 (b:cy a S W m Y G)(hb:cI a S.s){g:List Bool->List Bool}(hg:dR W.T W.wt g):S.n4 a=iE W.T (W.cR g true).1 W.T.length:=by
 have f:=cV.start hb.n1 hb.o1 hb.y1 hb.g1;have hs:=Rg.settled b hb hg;obtain⟨k,_⟩:=pn (S.s.j0 a) (fun c=>!((S.cA a).f c==-1)) _ (S.cA a,(a.N:Int)) f.nd (fun _ _=>rfl)
 have d:=k.sum (fun c=>(dj _).1)
 have d:(gn (nc (ld a.N S.s.y S.s.g S.s.ws)) ((S.s.j0 a).T.filter (fun c=>!((S.cA a).f c==-1))):Int)=S.n4 a:=d;rw[uS,<-d,uR (fun i _ hp=>b.size (hs.ok.al i hp)) (f.nd.filter _) (fun i j _ _ hp hq e=>b.inj i j (hs.ok.al i hp) (hs.ok.al j hq) e) (fun v=>?_)];rw[List.mem_filter];constructor
 ·rintro⟨l,n⟩
  obtain⟨i,hi,rfl⟩:=b.uV hb l;exact⟨i,hi.1,(hs.fX i hi).1 (by simpa using n),rfl⟩
 ·rintro⟨i,_,hp,rfl⟩
  have hi:=hs.ok.al i hp;exact⟨b.memT hb hi,by simpa using(hs.fX i hi).2 hp⟩
theorem cy.Bh (b:cy a S W m Y G)(hb:cI a S.s){g:List Bool->List Bool}(hg:dR W.T W.wt g):S.fM a=W.cF g a.O true:=by unfold cq.fM ck.cF;rw[b.n4 hb hg];simp
theorem cy.ig (b:cy a S W m Y G)(hb:cI a S.s){g:List Bool->List Bool}(hg:dR W.T W.wt g):S.ig a=W.gN g a.O true:=by unfold cq.ig ck.gN;rw[b.Bh hb hg]
theorem cy.pQ (b:cy a S W m Y G)(hb:cI a S.s){j:cu}{v:Int×Int}(hv:dM W.T v)(d:v.1=3->j.f (m v.2.toNat)≠-1):(S.s.j0 a).nw j (wv m v)=wv (fun i=>j.f (m i)) v:=by
 unfold b9.nw;rw[b.jt hb hv];by_cases c:v.1=3
 ·rw[(b.vt hb hv c).2,c,aI (by simp[d c]),im c]
 ·rw[aG (by simp[c]),jo c,jo c]
theorem vg {c:Type}(d:c){l b:List c}(h:l.length=b.length)(he:∀i,i<l.length->l.getD i d=b.getD i d):l=b:=by
 refine List.ext_getElem h (fun i e f=>?_)
 have:=he i e;rwa [aE,aL e,aE,aL f] at this
theorem vh {m:Nat->Int}:wv m (2,0)=3:=by rw[jo aa];decide
theorem cy.Ku (hR:cy a S W m Y G)(hb:cI a S.s){g:List Bool->List Bool}(hg:dR W.T W.wt g)(u:S.fM a=false):
 rJ a S W m (W.c0 g true) (W.cR g true).1 (W.cR g true).2.1 (S.dy a) (fun i=>(S.cE a).f (m i)) ((S.cE a).lf (G++Y)):=by
 have hs:=Rg.settled hR hb hg;have h0:=Rg.start hR hb hg;obtain⟨_,w,_⟩:=mc hR.kv hb u;obtain⟨s1,s2,Q⟩:=oh (S:=S) (cV.start hb.n1 hb.o1 hb.y1 hb.g1)
 have C:=hR.T hb;have p:∀{i:Nat},cv W.T i->m i∈G++Y:=fun hi=>by rw[<-C];exact hR.memT hb hi
 have A:∀i,cv W.T i->((S.cE a).f (m i)≠-1↔ct (W.cR g true).1 i):=fun i hi=>by rw[<-hs.fX i hi];exact not_congr (w.iff _ (p hi))
 have l:∀i,ct (W.cR g true).1 i->_:=fun i b=>(A i (hs.ok.al i b)).2 b;have hcl:gX W.T W.wt (ct (W.cR g true).1):=by
  have hc:=hR.marked hb hs.de (fun x I=>by rw[hs.q];exact List.mem_map_of_mem (aY _ I))
  intro i hi J v hv n;have D:∀j,ct (W.cR g true).1 j->_/\_:=fun j o=>⟨hs.ok.al j o,(hs.fX j (hs.ok.al j o)).2 o⟩
  obtain⟨q1,f⟩:=hc i hi (D i J) v (hv.mono D) n;exact(hs.fX _ q1).1 f
 have hup:∀i,ct (W.c0 g true) i->ct (W.cR g true).1 i:=fun i hi=>by have ha:=h0.ok.al i hi;have E:=(h0.fX i ha).2 hi;refine(hs.fX i ha).1 ?_;rw[s2.f _ E];exact E
 have s:∀i,ct (W.cR g true).1 i->((W.T.getD i t0).1=3\/(W.T.getD i t0).1=4->_=_):=fun i hi q=>hR.two (hs.ok.al i hi) (aJ q)
 have uZ:∀e,iG W.T e->ct (W.cR g true).1 e.1.toNat->ct (W.cR g true).1 e.2.toNat->((S.s.j0 a).nw (S.cE a) (we m e).1,(S.s.j0 a).nw (S.cE a) (we m e).2)=we (fun i=>(S.cE a).f (m i)) e:=fun e he K s=>by
  have q1:=hR.pQ hb (j:=S.cE a) (v:=(3,e.1)) ⟨fun _=>⟨he.g0,he.g⟩,fun c=>absurd rfl c⟩ (fun _=>l _ K)
  have f:=hR.pQ hb (j:=S.cE a) (v:=(3,e.2)) ⟨fun _=>⟨he.h0,he.h⟩,fun c=>absurd rfl c⟩ (fun _=>l _ s)
  exact Prod.ext q1 f
 have gc:=w.gc;have F:(S.dy a).s.y=0:=gc.y;refine
 {
  kv:=(gc.inv hR.kv hb w.al).1,ok:=hs.ok,cl:=hcl,up:=hup,rr:=hs.r,cc:=hs.c
  rs:=?_,pl:=fun i b=>?_,inj:=fun i j hi o e=>?_,f4:=fun v hv=>?_,hd:=fun i b=>?_,fd:=fun i b k hk=>?_,rg:=?_,wt:=?_}
 ·refine vg 0 (by rw[aW,hR.rl];exact gc.rl) (fun i hi=>?_)
  have hi:i<12:=by rw[gc.rl] at hi;exact hi
  obtain⟨er,hv⟩:=hR.root hi;rw[gc.rs i hi,er,jZ (wv (fun i=>(S.cE a).f (m i))) W.rs i (0,0) 0 (by rw[hR.rl];exact hi)];exact hR.pQ hb hv (fun n=>l _ (hs.r _ (getD_in (by rw[hR.rl];exact hi)) n))
 ·exact List.mem_map.2 ⟨m i,List.mem_filter.2 ⟨p (hs.ok.al i b),by simpa using l i b⟩,rfl⟩
 ·have:=gc.pos.inj (fun c=>(dj _).1) (m i) (p (hs.ok.al i hi)) (m j) (p (hs.ok.al j o)) (by simpa using l i hi) (by simpa using l j o) e;exact hR.inj i j (hs.ok.al i hi) (hs.ok.al j o) this
 ·obtain⟨c,hc,rfl⟩:=List.mem_map.1 hv;obtain⟨q1,f⟩:=List.mem_filter.1 hc;rw[<-C] at q1;obtain⟨i,hi,rfl⟩:=hR.uV hb q1;exact⟨i,(A i hi).1 (by simpa using f),rfl⟩
 ·rw[F];exact gc.hd _ (p (hs.ok.al i b)) (l i b)
 ·have ha:=hs.ok.al i b;obtain⟨L,M,_⟩:=hR.parts ha;rw[F,gc.fd _ (p ha) (l i b) k (Int.natCast_nonneg k) (by rw[M];omega),mI b (s i b) hk];unfold b9.ij;have N:pk ((S.s.j0 a).ld (m i))=(W.T.getD i t0).1:=L;rw[N];have H:(S.s.j0 a).ld (m i+1+k)=wv m ((W.T.getD i t0).2.1.getD k (0,0)):=hR.fd i ha k hk;have key:(W.T.getD i t0).1=3\/(W.T.getD i t0).1=4->((S.s.j0 a).cS (S.cE a) ((S.s.j0 a).ld (m i+1))=true↔dH (W.cR g true).1 ((W.T.getD i t0).2.1.getD 0 (0,0))=false):=fun q=>by
   have O:(S.s.j0 a).ld (m i+1)=wv m ((W.T.getD i t0).2.1.getD 0 (0,0)):=by
    have:=hR.fd i ha 0 V;show ld a.N S.s.y S.s.g S.s.ws (m i+1)=_;rw[<-this]
    congr 1
    omega
   have B:=hR.fv i ha _ (getD_in (x:=((0,0):Int×Int)) (show 0<(W.T.getD i t0).2.1.length by omega))
   rw[O];by_cases c3:((W.T.getD i t0).2.1.getD 0 (0,0)).1=3
   ·have q1:=hR.oA hb (S.cE a) B c3;have f:=A _ (B.t c3).2;rw[Bg c3];constructor
    ·intro d;cases e:(W.cR g true).1.getD _ false
     ·rfl
     ·rw[q1.2 (f.2 e)] at d;cases d
    ·intro d;cases e:(S.s.j0 a).cS (S.cE a) _
     ·have:=f.1 (q1.1 e)
      unfold ct at this
      rw[d] at this
      cases this
     ·rfl
   ·rw[Ks c3];have:(S.s.j0 a).cS (S.cE a) (wv m ((W.T.getD i t0).2.1.getD 0 (0,0)))=false:=by
     unfold b9.cS;rw[hR.jt hb B];have:(((W.T.getD i t0).2.1.getD 0 (0,0)).1==3)=false:=by simpa using c3
     rw[this];rfl
    rw[this];simp
  by_cases cb:((W.T.getD i t0).1=3\/(W.T.getD i t0).1=4)/\dH (W.cR g true).1 ((W.T.getD i t0).2.1.getD 0 (0,0))=false
  ·by_cases t:k=0\/((W.T.getD i t0).1=4/\k=1)
   ·rw[aI ⟨⟨cb.1,(key cb.1).2 cb.2⟩,t.imp (fun e=>by omega) (fun e=>⟨e.1,V⟩)⟩,aI ⟨cb,t⟩,vh];unfold b9.nw b9.jt;rw[show cY 3=false by decide,Bool.false_and,Bool.false_and,aG Z]
   ·rw[aG (fun q=>t (q.2.imp (fun e=>by omega) (fun e=>⟨e.1,V⟩))),aG (fun q=>t q.2),H];refine hR.pQ hb (hR.fv i ha _ (getD_in hk)) (fun n=>l _ ?_)
    have hl:=hR.led hs.ok hcl b hk;rw[mI b (s i b) hk,aG (fun q=>t q.2)] at hl;exact hl n
  ·rw[aG (fun q=>cb ⟨q.1.1,(key q.1.1).1 q.1.2⟩),aG (fun q=>cb q.1),H];refine hR.pQ hb (hR.fv i ha _ (getD_in hk)) (fun n=>l _ ?_)
   have hl:=hR.led hs.ok hcl b hk;rw[mI b (s i b) hk,aG (fun q=>cb q.1)] at hl;exact hl n
 ·rw[Kt hR.kv hb u,hR.rg,List.filter_filter];rw[lI (we m) _ (fun e=>cL (W.c0 g true) e.2&&cL (W.cR g true).1 e.1) W.rg (fun e he=>by have q1:=Rg.is hR hb h0 (hR.gv e he).h;have f:=Rg.is hR hb hs (hR.gv e he).g;have q1:(S.s.j0 a).al (S.j2 a).1 (we m e).2=cL (W.c0 g true) e.2:=q1;have f:(S.s.j0 a).al (S.cA a) (we m e).1=cL (W.cR g true).1 e.1:=f;rw[q1,f,Bool.and_comm]),List.map_map];exact A9
 ·rw[zp hR.kv hb u];have hE:∀e∈W.wt++(W.cR g true).2.1,iG W.T e:=fun e he=>by
   rcases List.mem_append.1 he with d|d
   ·exact hR.dx e d
   ·exact hR.gv e (hs.c e d).1
  rw[hs.q,lI (we m) _ (fun e=>cL (W.cR g true).1 e.1) _ (fun e he=>Rg.is hR hb hs (hE e he).g),List.map_map];exact A7
theorem cy.dy (b:cy a S W m Y G)(hb:cI a S.s){g:List Bool->List Bool}(hg:dR W.T W.wt g):∃c d e,cy a (S.dy a) (W.cut g a.O true) c d e:=by
 unfold ck.cut;rw[<-b.Bh hb hg];cases hf:S.fM a
 ·rw[aG Z];exact⟨_,_,_,(b.Ku hb hg hf).done b⟩
 ·refine⟨m,Y,G,?_⟩
  unfold cq.dy;rw[hf,aI rfl];exact b
end
end Go.Proofs.YtpkjkjhanlbcoaaGreat
