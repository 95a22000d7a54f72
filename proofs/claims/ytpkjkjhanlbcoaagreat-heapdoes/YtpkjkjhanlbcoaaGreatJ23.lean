import Derived.Test.YtpkjkjhanlbcoaaGreatJ22
namespace Go.Proofs.YtpkjkjhanlbcoaaGreat
set_option maxRecDepth 100000
set_option maxHeartbeats 2000000
open Tryz
open Go.RowKit W Kp ch
theorem uu {P:Prop}(h:P:=by
 have P0:∀w,Calls prog 119 #[ak R] w fun e w'=>e=.returned (.bool false)/\w'=w:=fun w=>by have h:=jx R w;rw[hR] at h;exact h
 have hb0:=aq w (.cells #[.int .i64 k,.int .i64 R,.int .i64 A,.int .i64 B,.int .i64 I,.int .i64 n] 44)
 clear hu;go_enter func55,ntmps55;go_wp2_with fail;refine(U _).mono ?_;rintro e w1 ⟨rfl,rfl⟩
 go_wp2_with fail;refine(P0 _).mono ?_;rintro e w1 ⟨rfl,rfl⟩
 go_wp2_with fail;go_ret;exact⟨rfl,hb0⟩):P:=h
theorem Af {P:Prop}(h:P:=by
 have P0:∀w,Calls prog 119 #[ak R] w fun e w'=>e=.returned (.bool true)/\w'=w:=fun w=>by have h:=jx R w;rw[hR] at h;exact h
 have P1:∀w,Calls prog 119 #[ak A] w fun e w'=>e=.returned (.bool false)/\w'=w:=fun w=>by have h:=jx A w;rw[hA] at h;exact h
 have hb0:=aq w (.cells #[.int .i64 k,.int .i64 R,.int .i64 A,.int .i64 B,.int .i64 I,.int .i64 n] 44)
 clear hu;go_enter func55,ntmps55;go_wp2_with fail;refine(U _).mono ?_;rintro e w1 ⟨rfl,rfl⟩
 go_wp2_with fail;refine(P0 _).mono ?_;rintro e w1 ⟨rfl,rfl⟩
 go_wp2_with fail;refine(P1 _).mono ?_;rintro e w1 ⟨rfl,rfl⟩
 go_wp2_with fail;go_ret;exact⟨rfl,hb0⟩):P:=h
theorem pB {P:Prop}(h:P:=by
 rintro e w1 ⟨rfl,rfl⟩
 go_wp2_with fail;refine(CD k R A B I n _).mono ?_;rintro e w2 ⟨rfl,hb2⟩
 go_wp2_with fail;go_ret;exact⟨rfl,hb0.trans (hb2.mono hb0.size)⟩):P:=h
theorem ja {P:Prop}(h:P:=by have h:=wL k w;rw[hu] at h;exact h):P:=h
theorem Ag {P:Prop}(h:P:=by
 refine List.map_congr_left (fun e he=>?_)
 obtain⟨z1,z2⟩:=List.mem_filter.1 he;have h5:=hE e z1;refine uv e h5 z2 ?_;rcases List.mem_append.1 z1 with d|d
 ·exact hcl _ h5.g.1 z2 (3,e.2) (aK (aK (aK ⟨h5.k,e,d,by have:=h5.g0;omega,rfl⟩))) rfl
 ·exact(hs.c e d).2):P:=h
theorem n6 {P:Prop}(h:P:=by have h:=jx A w;rw[hA] at h;exact h):P:=h
theorem Ah {P:Prop}(h:P:=by
 obtain⟨q1,q2⟩:=w.ep c hc;have q3:=li.mi.bd q1;have:=h8 q3.2.2 (aK (aK q2))
 exact⟨hK aa aa,hK aa aa⟩):P:=h
theorem Ai {P:Prop}(h:P:=by
 refine List.map_congr_left (fun e he=>?_)
 obtain⟨z1,z2⟩:=List.mem_filter.1 he;rw[bh] at z2;exact uv e (hR.gv e z1) z2.2 (hup _ z2.1)):P:=h
theorem Aj {P:Prop}(h:P:=by
 obtain⟨q1,q2⟩:=w.wk c hc;have q3:=li.mi.bd q1;have:=h8 q3.2.2 (aK (aL q2))
 exact hK aa aa):P:=h
section
variable {k:cf}{z:C0}{s t:ck}{H D:List Int}
def cf.cE (k:cf)(s:ck)(x:Int):Int:=if k.ls s x=true then 3 else k.nw s x
theorem Ak {s t:ck}(b:t.f=s.f)(x:Int):k.ls t x=k.ls s x/\k.nw t x=k.nw s x:=by unfold cf.ls cf.nw;rw[b];exact⟨rfl,rfl⟩
def Fo (k:cf)(s:ck):Prop:=∀a∈k.T,s.f a≠-1->(k.N:Int)<=s.f a/\s.f a<1000000
theorem dH.dl (h:dH k z s H):Fo k s:=fun a ha b=>by
 have hb:=h.iX (h.fh a ha b)
 have n1:=h.ci.hN';have c:=h.ci.hO;have d:=h.ci.hg;exact⟨hb.1,aa⟩
theorem n7 {x:Int}(h:k.cL x=false):k.nw s x=x:=by unfold cf.nw;rw[h];simp
theorem q8 {x:Int}(h:k.cL x=true)(b:s.f (cj x)≠-1):k.nw s x=ew 3 (s.f (cj x)):=by unfold cf.nw;rw[h,aJ (by simp[b])]
theorem Hy (ci:CI k s)(dl:Fo k s){x:Int}(h:k.ls s x=false):k.cL (k.nw s x)=false:=by
 cases c:k.cL x
 ·rw[n7 c];exact c
 ·have b:s.f (cj x)≠-1:=fun e=>by unfold cf.ls at h;rw[c,e] at h;simp at h
  rw[q8 c b];obtain⟨b1,b2⟩:=dl _ (m2 c) b;exact mW ci b1 b2
theorem Hz:k.cL 3=false:=by unfold cf.cL;rw[show c7 3=false by decide];rfl
theorem Al (ci:CI k s)(dl:Fo k s)(x:Int):k.cL (k.cE s x)=false:=by
 unfold cf.cE;cases c:k.ls s x
 ·rw[aH ac];exact Hy ci dl c
 ·exact Hz
theorem HD {x:Int}(h:k.cL x=false):k.cE s x=x:=by unfold cf.cE cf.ls;rw[h,Bool.false_and,aH ac];exact n7 h
theorem HE (k:cf)(s:ck)(a:Int):k.eL s a=k.st s (a+1) (k.cE s (k.ld s (a+1))):=by unfold cf.eL cf.cE;split<;>rfl
theorem uw (k:cf)(s:ck)(a x:Int):(k.st s a x).ws.length=s.ws.length:=by
 unfold cf.st;split
 ·rw[bf]
 ·rfl
theorem ux (hl:s.ws.length=k.N+k.O)(hy:k.y<=k.N)(hg:s.g<=k.O)(g:∀x,k.cL (k.cE s x)=false):∀(l:List Int)(t:ck),t.f=s.f->t.g=s.g->t.ws.length=s.ws.length->(∀c∈l,dm k.N k.y s.g (c+1)=true)->
 (l.foldl k.eL t).f=s.f/\(l.foldl k.eL t).g=s.g/\(l.foldl k.eL t).ws.length=s.ws.length/\(l.foldl k.eL t).ep=t.ep/\(l.foldl k.eL t).rs=t.rs/\∀p,k.ld (l.foldl k.eL t) p=if p-1∈l then k.cE s (k.ld t p) else k.ld t p
 |[],t,b,d,f,_=>⟨b,d,f,rfl,rfl,fun p=>ac⟩
 |c::l,t,b,d,f,hi=>by
  have vt:∀x,k.cE t x=k.cE s x:=fun x=>by unfold cf.cE;rw[(Ak b x).1,(Ak b x).2]
  rw[a9,HE];obtain⟨m,n,o,u,v,w⟩:=ux hl hy hg g l (k.st t (c+1) (k.cE t (k.ld t (c+1)))) b d ((uw _ _ _ _).trans f) (fun x B=>hi x (aQ _ B))
  refine⟨m,n,o,u,v,fun p=>?_⟩
  rw[w p];have hp:=cf.nI (f.trans hl) hy aa (c+1) (k.cE t (k.ld t (c+1))) p;rw[d] at hp;by_cases e:p=c+1
  ·have i:p-1∈c::l:=by rw[e];simp
   rw[aJ ⟨e,(hi c ac)⟩] at hp;rw[hp,aJ i,vt,e];split
   ·exact HD (g _)
   ·rfl
  ·have i:(p-1∈c::l)↔p-1∈l:=by rw[List.mem_cons];exact⟨fun j=>j.resolve_left (fun q=>e aa),aK⟩
   rw[aH (fun q=>e q.1)] at hp;rw[hp];by_cases j:p-1∈l
   ·simp_all
   ·simp_all
theorem uy (hy:k.y<=k.N):∀(l:List Int)(t:ck),t.ws.length=k.N+k.O->t.g<=k.O->(∀c∈l,dm k.N k.y t.g (c+1)=true/\dm k.N k.y t.g (c+2)=true)->
 (l.foldl k.gy t).rs=t.rs/\(l.foldl k.gy t).g=t.g/\∀p,k.ld (l.foldl k.gy t) p=if p-1∈l\/p-2∈l then 3 else k.ld t p
 |[],t,_,_,_=>⟨rfl,rfl,fun p=>ac⟩
 |c::l,t,e,d,hi=>by
  obtain⟨c1,c2⟩:=hi c ac;have l1:(k.st t (c+1) 3).ws.length=k.N+k.O:=(uw _ _ _ _).trans e;rw[a9];obtain⟨f,g,i⟩:=uy hy l _ ((uw _ _ _ _).trans l1) d (fun x j=>hi x (aQ _ j))
  refine⟨f,g,fun p=>?_⟩
  have m:k.gy t c=k.st (k.st t (c+1) 3) (c+2) 3:=rfl;rw[m,i p,(cf.nI l1 hy d (c+2) 3) p,(cf.nI e hy d (c+1) 3) p];have g1:(k.st t (c+1) 3).g=t.g:=rfl;by_cases b:p-1∈l\/p-2∈l
  ·rw[aJ b,aJ (b.imp (aQ _) (aQ _))]
  ·rw[aH b];by_cases n:p=c+2
   ·simp_all
   ·rw[aH (fun q=>n q.1)];by_cases o:p=c+1
    ·simp_all
    ·rw[aH (fun q=>o q.1),aH];rintro(q|q)
     ·rcases List.mem_cons.1 q with q|q
      ·omega
      ·exact b (aL q)
     ·rcases List.mem_cons.1 q with q|q
      ·omega
      ·exact b (aK q)
theorem Am (ci:CI k s)(dl:Fo k s){b x:Int}(h:k.ml s b x):k.nw s x=k.nw s b:=by
 rcases h with e|⟨y1,c,d⟩
 ·rw[e]
 ·rw[q8 y1 c,d];obtain⟨b1,b2⟩:=dl _ (m2 y1) c;exact n7 (mW ci b1 b2)
theorem An {b x:Int}(h:k.ml s b x)(hy:k.cL x=false):x=k.nw s b:=by
 rcases h with e|⟨y1,c,d⟩
 ·rw[e] at hy;rw[n7 hy,e]
 ·rw[q8 y1 c,d]
theorem HG (li:LI k z s H D)(w:dN k z s H){a b i:Int}(o:k.or z s a b)(S:0<=i)(v:i<pf (k.l0 z a)):
 k.ld (k.be (k.mw s s.wk) (k.mw s s.wk).ep) (b+1+i)=if b∈s.ep then 3 else if b∈s.wk/\i=0 then k.cE s (k.ld s (b+1+i)) else k.ld s (b+1+i):=by
 have ci:=li.mi.ci;have full:=li.mi.full;have hb:=li.mi.mem o;have W:i<pf (k.ld s b):=((li.mi.hd a b o)▸v)
 have x:∀c∈s.wk,dm k.N k.y s.g (c+1)=true:=fun c hc=>by exact Aj
 have ab:∀c∈s.ep,dm k.N k.y s.g (c+1)=true/\dm k.N k.y s.g (c+2)=true:=fun c hc=>by exact Ah
 obtain⟨m1,f,g,m,_,n⟩:=ux ci.len ci.hy ci.hg (Al ci li.mi.dl) s.wk s rfl rfl rfl x;have m:(k.mw s s.wk).ep=s.ep:=m;have f:(k.mw s s.wk).g=s.g:=f;have g:(k.mw s s.wk).ws.length=s.ws.length:=g;obtain⟨_,_,b3⟩:=uy ci.hy s.ep _ ((g▸ci.len)) ((f▸ci.hg)) (by simp_all)
 have b3:∀p,k.ld (k.be (k.mw s s.wk) s.ep) p=if p-1∈s.ep\/p-2∈s.ep then 3 else k.ld (k.mw s s.wk) p:=b3
 have n:∀p,k.ld (k.mw s s.wk) p=if p-1∈s.wk then k.cE s (k.ld s p) else k.ld s p:=n
 rw[m,b3,n];have q:∀j,0<=j->j<pf (k.ld s b)->_:=fun j j0 B=>full.ej.field hb j0 B;have q1:∀l:List Int,(∀c∈l,c∈z.G++H)->((b+1+i)-1∈l↔(b∈l/\i=0)):=fun l hl=>by
  constructor
  ·intro d;by_cases e:i=0
   ·simp_all
   ·exfalso;have:b+1+i-1=b+1+(i-1):=aa;rw[this] at d;exact q (i-1) aa aa (hl _ d)
  ·simp_all
 have q2:(b+1+i)-2∈s.ep↔(b∈s.ep/\i=1):=by
  constructor
  ·intro d;obtain⟨r1,F⟩:=w.ep _ d;by_cases e:i=1
   ·subst e;have:b+1+1-2=b:=aa;rw[this] at d;exact⟨d,rfl⟩
   ·exfalso;by_cases N:i=0
    ·subst N;have ad:=h8 (li.mi.bd r1).2.2 (aK (aK F))
     have t:=full.ej.apart _ r1 b hb aa;have t:b+1+0-2+(1+pf (k.ld s (b+1+0-2)))<=b:=t;omega
    ·have:b+1+i-2=b+1+(i-2):=aa;rw[this] at r1;exact q (i-2) aa aa r1
  ·rintro⟨d,e⟩
   subst e;have:b+1+1-2=b:=aa;rw[this];exact d
 have ag:=q1 s.ep (fun c hc=>(w.ep c hc).1)
 have ai:=q1 s.wk (fun c hc=>(w.wk c hc).1)
 by_cases c:b∈s.ep
 ·have u:=h8 (full.ej.mem b hb).2.2 (aK (aK (w.ep b c).2))
  have u:pf (k.ld s b)=2:=u;rw[aJ c,aJ];rcases(show i=0\/i=1 by omega) with e|e
  ·simp_all
  ·simp_all
 ·simp_all
theorem HH (li:LI k z s H D)(w:dN k z s H){a b:Int}(o:k.or z s a b):k.ld (k.be (k.mw s s.wk) (k.mw s s.wk).ep) b=k.l0 z a/\(k.be (k.mw s s.wk) (k.mw s s.wk).ep).rs=s.rs:=by
 have ci:=li.mi.ci;have n:∀c∈s.wk,dm k.N k.y s.g (c+1)=true:=fun c hc=>by exact Aj
 have u:∀c∈s.ep,dm k.N k.y s.g (c+1)=true/\dm k.N k.y s.g (c+2)=true:=fun c hc=>by exact Ah
 obtain⟨m1,g,i,j,t,l⟩:=ux ci.len ci.hy ci.hg (Al ci li.mi.dl) s.wk s rfl rfl rfl n;have j:(k.mw s s.wk).ep=s.ep:=j;have g:(k.mw s s.wk).g=s.g:=g;have i:(k.mw s s.wk).ws.length=s.ws.length:=i;obtain⟨b1,_,b3⟩:=uy ci.hy s.ep _ ((i▸ci.len)) ((g▸ci.hg)) (by simp_all)
 have b3:∀p,k.ld (k.be (k.mw s s.wk) s.ep) p=if p-1∈s.ep\/p-2∈s.ep then 3 else k.ld (k.mw s s.wk) p:=b3
 have l:∀p,k.ld (k.mw s s.wk) p=if p-1∈s.wk then k.cE s (k.ld s p) else k.ld s p:=l
 have no:∀c,c∈z.G++H->pf (k.ld s c)=2->∀f:Int,(f=1\/f=2)->b-f≠c:=fun c hc v f hd e=>by have m:=li.mi.full.ej.apart c hc b (li.mi.mem o) aa;have m:c+(1+pf (k.ld s c))<=b:=m;omega
 rw[j,b3,l];refine⟨?_,b1.trans t⟩
 rw[aH,aH,(li.mi.hd a b o)]
 ·intro q;obtain⟨r1,d⟩:=w.wk _ q;exact no _ r1 (h8 (li.mi.bd r1).2.2 (aK (aL d))) 1 (aL rfl) rfl
 ·rintro(q|q)
  ·obtain⟨r1,d⟩:=w.ep _ q;exact no _ r1 (h8 (li.mi.bd r1).2.2 (aK (aK d))) 1 (aL rfl) rfl
  ·obtain⟨r1,d⟩:=w.ep _ q;exact no _ r1 (h8 (li.mi.bd r1).2.2 (aK (aK d))) 2 (aK rfl) rfl
end
theorem q9 {L:List Bool}{i:Nat}{t:cH}(b:L.getD i false=true)(c:t.1=3\/t.1=4->t.2.1.length=2):(eK L i t).2.1.length=t.2.1.length/\(eK L i t).1=t.1/\(eK L i t).2.2=(true,t.2.2.2):=by
 unfold eK;rw[aJ b];refine⟨?_,rfl,rfl⟩
 split
 ·simp_all
 ·split
  ·simp_all
  ·rfl
theorem Ao {L:List Bool}{i:Nat}{t:cH}(b:L.getD i false=false):eK L i t=(t.1,[],t.2.2.1,true):=by unfold eK;rw[b,aH ac]
theorem l6 {L:List Bool}{i:Nat}{t:cH}(c:L.getD i false=true)(b:t.1=3\/t.1=4->t.2.1.length=2){k:Nat}(hk:k<t.2.1.length):
 (eK L i t).2.1.getD k (0,0)=if((t.1=3\/t.1=4)/\dy L (t.2.1.getD 0 (0,0))=false)/\(k=0\/(t.1=4/\k=1)) then(2,0) else t.2.1.getD k (0,0):=by
 unfold eK;rw[aJ c];by_cases c4:t.1=4/\dy L (t.2.1.getD 0 (0,0))=false
 ·rw[aJ c4,aJ ⟨⟨aK c4.1,c4.2⟩,aa⟩];have:=b (aK c4.1)
  rcases(show k=0\/k=1 by omega) with e|e<;>subst e<;>rfl
 ·rw[aH c4];by_cases c3:t.1=3/\dy L (t.2.1.getD 0 (0,0))=false
  ·rw[aJ c3];have:=b (aL c3.1)
   rcases(show k=0\/k=1 by omega) with e|e
   ·simp_all
   ·simp_all
  ·rw[aH c3,aH (fun q=>q.1.1.elim (fun e=>c3 ⟨e,q.1.2⟩) (fun e=>c4 ⟨e,q.1.2⟩))]
structure q_ (a:Wc)(S:co)(W:cn)(m:Nat->Int)(B L:List Bool)(C:List b9)(S':co)(m':Nat->Int)(G':List Int):Prop where
 kv:eA a S'.s [] G'
 ok:fV W.T L
 cl:fK W.T W.wt (cw L)
 up:∀i,cw B i->cw L i
 rr:∀v∈W.rs,v.1=3->cw L v.2.toNat
 cc:∀e∈C,e∈W.rg/\cw L e.2.toNat
 rs:S'.s.rs=W.rs.map (wv m')
 pl:∀i,cw L i->m' i∈G'
 inj:∀i j,cw L i->cw L j->m' i=m' j->i=j
 fZ:∀v∈G',∃i,cw L i/\m' i=v
 hd:∀i,cw L i->ld a.N S'.s.y S'.s.g S'.s.ws (m' i)=ld a.N S.s.y S.s.g S.s.ws (m i)
 fd:∀i,cw L i->∀k:Nat,k<(W.T.getD i t0).2.1.length->ld a.N S'.s.y S'.s.g S'.s.ws (m' i+1+k)=wv m' ((eK L i (W.T.getD i t0)).2.1.getD k (0,0))
 rg:S'.r=(W.rg.filter (fun e=>cG B e.2&&cG L e.1)).map (we m')
 wt:S'.q=((W.wt++C).filter (fun e=>cG L e.1)).map (we m')
section
variable {a:Wc}{S S':co}{W:cn}{m m':Nat->Int}{Y G G':List Int}{B L:List Bool}{C:List b9}
theorem Ap {L:List Bool}{v:Int×Int}(b:v.1=3):dy L v=L.getD v.2.toNat false:=by unfold dy;rw[b];rfl
theorem HI {L:List Bool}{v:Int×Int}(b:v.1≠3):dy L v=true:=by
 unfold dy;have:(v.1==3)=false:=by simpa using b
 rw[this];rfl
theorem cz.led (h:cz a S W m Y G)(ok:fV W.T L)(cl:fK W.T W.wt (cw L)){i:Nat}(hi:cw L i){k:Nat}(hk:k<(W.T.getD i t0).2.1.length)(b:((eK L i (W.T.getD i t0)).2.1.getD k (0,0)).1=3):cw L ((eK L i (W.T.getD i t0)).2.1.getD k (0,0)).2.toNat:=by
 have al:=ok.al i hi;have f:(W.T.getD i t0).1=3\/(W.T.getD i t0).1=4->_=_:=fun c=>h.two al (aK c)
 rw[l6 hi f hk] at b⊢;split at b
 ·omega
 ·rename_i c;rw[aH c];have o:=oc _ _ (h.hd i al).1;by_cases n:(W.T.getD i t0).1=1\/(W.T.getD i t0).1=2
  ·exact cl i al.1 hi _ (aL ⟨n,(getD_in hk)⟩) b
  by_cases g:(W.T.getD i t0).1=3
  ·have l2:=f (aL g)
   rcases(show k=0\/k=1 by omega) with e|e
   ·subst e;have:dy L ((W.T.getD i t0).2.1.getD 0 (0,0))=true:=by simp_all
    exact mz this b
   ·subst e;exact cl i al.1 hi _ (aK (aL ⟨g,rfl⟩)) b
  by_cases j:(W.T.getD i t0).1=4
  ·have l:dy L ((W.T.getD i t0).2.1.getD 0 (0,0))=true:=by
    cases d:dy L _
    ·exact absurd ⟨⟨aK j,d⟩,aa⟩ c
    ·rfl
   rcases(show k=0\/k=1 by omega) with e|e
   ·subst e;exact mz l b
   ·subst e;exact cl i al.1 hi _ (aK (aK (aL ⟨j,mz l,rfl⟩))) b
  ·omega
theorem q_.done (h:cz a S W m Y G)(c:q_ a S W m B L C S' m' G'):cz a S' ⟨eD L W.T W.T.length,W.rs,W.rg.filter (fun e=>cG B e.2&&cG L e.1),(W.wt++C).filter (fun e=>cG L e.1)⟩ m' [] G':=by
 have o:∀j,j<W.T.length->(eD L W.T W.T.length).getD j t0=eK L j (W.T.getD j t0):=fun j p=>by rw[p6 L W.T W.T.length j bY p,aJ p]
 have f:∀i,cw L i->((W.T.getD i t0).1=3\/(W.T.getD i t0).1=4->_=_):=fun i hi q=>h.two (c.ok.al i hi) (aK q)
 have al:∀j,cI (eD L W.T W.T.length) j↔cw L j:=fun j=>by
  unfold cI;rw[i3];constructor
  ·rintro⟨s,f⟩
   rw[o j s] at f;unfold cw;cases d:L.getD j false
   ·rw[Ao d] at f;cases f
   ·rfl
  ·intro b;have ha:=c.ok.al j b;refine⟨ha.1,?_⟩
   rw[o j ha.1,(q9 b (f j b)).2.2];exact ha.2
 have t:∀j,cw L j->((eD L W.T W.T.length).getD j t0).2.1.length=(W.T.getD j t0).2.1.length/\((eD L W.T W.T.length).getD j t0).1=(W.T.getD j t0).1/\((eD L W.T W.T.length).getD j t0).2.2.1=true:=fun j b=>by
  have ha:=c.ok.al j b;obtain⟨q1,l,q3⟩:=q9 b (f j b)
  rw[o j ha.1,q3];exact⟨q1,l,rfl⟩
 have x:∀v,dO W.T v->(v.1=3->cw L v.2.toNat)->dO (eD L W.T W.T.length) v:=fun v g b=>⟨fun e=>⟨(g.t e).1,(al _).2 (b e)⟩,g.o⟩
 have w:∀e,iu W.T e->cw L e.1.toNat->cw L e.2.toNat->iu (eD L W.T W.T.length) e:=fun e he s f=>⟨he.g0,(al _).2 s,((t _ s).2.1▸he.k),he.h0,(al _).2 f⟩
 exact
 {
  kv:=c.kv,rl:=h.rl,rv:=fun v g=>x v (h.rv v g) (c.rr v g)
  fv:=fun i hi v g=>by
   have b:=(al i).1 hi;have ha:=c.ok.al i b;have g:=g;rw[o i ha.1] at g;obtain⟨k,hk,e⟩:=List.mem_iff_getElem.1 g;have ev:(eK L i (W.T.getD i t0)).2.1.getD k (0,0)=v:=by rw[aG,aI hk,e];rfl
   rw[(q9 b (f i b)).1] at hk;refine⟨fun n=>?_,fun n=>?_⟩
   ·have hl:=h.led c.ok c.cl b hk (by simp_all)
    rw[ev] at hl;refine⟨?_,(al _).2 hl⟩
    rw[l6 b (f i b) hk] at ev;split at ev
    ·rw[<-ev] at n;exact absurd n ae
    ·rw[<-ev] at n⊢;exact((h.fv i ha _ (getD_in hk)).t n).1
   ·rw[l6 b (f i b) hk] at ev;split at ev
    ·rw[<-ev];decide
    ·rw[<-ev] at n⊢;exact(h.fv i ha _ (getD_in hk)).o n
  rs:=c.rs
  ia:=fun i hi e=>by simp_all
  old:=fun i hi _=>c.pl i ((al i).1 hi)
  inj:=fun i j hi p e=>c.inj i j ((al i).1 hi) ((al j).1 p) e
  fZ:=fun v g=>by
   rcases g with d|d
   ·cases d
   ·obtain⟨i,hi,e⟩:=c.fZ v d;exact⟨i,(al i).2 hi,e⟩
  hd:=fun i hi=>by have b:=(al i).1 hi;show hc _ _=0/\ld a.N S'.s.y S'.s.g S'.s.ws (m' i)=hw _ _;rw[(t i b).1,(t i b).2.1,c.hd i b];exact h.hd i (c.ok.al i b)
  fd:=fun i hi k hk=>by have b:=(al i).1 hi;have hk:=hk;rw[(t i b).1] at hk;show ld a.N S'.s.y S'.s.g S'.s.ws _=wv m' _;rw[o i (c.ok.al i b).1];exact c.fd i b k hk
  rg:=c.rg
  gv:=fun e he=>by obtain⟨q1,l⟩:=List.mem_filter.1 he;rw[bh] at l;exact w e (h.gv e q1) l.2 (c.up _ l.1)
  wt:=c.wt
  dD:=fun e he=>by
   obtain⟨q1,l⟩:=List.mem_filter.1 he;rcases List.mem_append.1 q1 with d|d
   ·have u:=h.dD e d;exact w e u l (c.cl _ u.g.1 l (3,e.2) (aK (aK (aK ⟨u.k,e,d,by have:=u.g0;omega,rfl⟩))) rfl)
   ·obtain⟨F,N⟩:=c.cc e d;exact w e (h.gv e F) l N
  tl:=fun i=>by
   show((eD L W.T W.T.length).getD i t0).2.1.length<=12;by_cases hi:i<W.T.length
   ·rw[o i hi];cases d:L.getD i false
    ·rw[Ao d];simp
    ·rw[(q9 d (f i d)).1];exact h.tl i
   ·rw[aG,List.getElem?_eq_none (by rw[i3];omega)];simp[t0]}
end
section
variable {a:Wc}{S:co}
end
section
variable {a:Wc}{S:co}{W:cn}{m:Nat->Int}{Y G:List Int}
theorem HL (h:eA a S.s Y G)(hb:cJ a S.s)(j:S.fI a=false):(S.dE a).r=((S.r.filter (fun e=>(S.s.j0 a).al (S.j2 a).1 e.2)).filter (fun e=>(S.s.j0 a).al (S.cA a) e.1)).map (fun e=>((S.s.j0 a).nw (S.cD a) e.1,(S.s.j0 a).nw (S.cD a) e.2)):=by
 have i:=cX.start hb.n1 hb.o1 hb.y1 hb.g1;obtain⟨d1,p,t⟩:=nU (S:=S) i;obtain⟨_,l2,l3⟩:=kI h.inv.full hb;obtain⟨_,g,u⟩:=lY h hb j;obtain⟨_,b,t3,_⟩:=pn (s:=S.cD a) (k:=S.s.j0 a) ⟨hb.l1,hb.y1,hb.g1⟩ hb.r1 i.nd (nZ h.inv.full hb) (pv h.inv.full hb)
 have b:(S.k5 a).Y=(S.s.j0 a).Y:=b;have t3:(S.k5 a).G=(S.s.j0 a).G:=t3;have zL:(S.k5 a).T=(S.s.j0 a).T:=by unfold b_.T;rw[b,t3]
 have l:∀x,(S.k5 a).al (S.cD a) x=(S.s.j0 a).al (S.cA a) x:=fun x=>by exact zK
 have r3:S.r3 a=(S.r.filter (fun e=>(S.s.j0 a).al (S.j2 a).1 e.2)).filter (fun e=>(S.s.j0 a).al (S.cA a) e.1):=by show(((S.r.filter (fun e=>(S.s.j0 a).al _ e.2)).filter (fun e=>(S.s.j0 a).al (S.cA a) e.1)).map fun e=>((S.s.j0 a).nw (S.cA a) e.1,(S.s.j0 a).nw (S.cA a) e.2))=_;exact zM
 have m:(S.k5 a).tS (S.cD a,S.q3 a) (S.r3 a)=(S.cD a,S.q3 a):=ug (fun e he=>by rw[l];exact qV i e he)
 unfold co.dE;rw[j,aH ac];show eV (dM cu) (fun s x=>(S.k5 a).al s.1 x) _ (fun s x=>(S.k5 a).nw s.1 x) (S.cD a,S.q3 a) (S.r3 a)=_;unfold eV;have e:fu (dM cu) (fun s x=>(S.k5 a).al s.1 x) (S.k5 a).cr (S.cD a,S.q3 a) (S.r3 a)=(S.cD a,S.q3 a):=m;rw[e];show(((S.r3 a).filter (fun e=>(S.k5 a).al (S.cD a) e.2)).filter (fun e=>(S.k5 a).al (S.cD a) e.1)).map (fun e=>((S.k5 a).nw (S.cD a) e.1,(S.k5 a).nw (S.cD a) e.2))=_;have n:(S.r3 a).filter (fun e=>(S.k5 a).al (S.cD a) e.2)=S.r3 a:=List.filter_eq_self.2 (fun e he=>by rw[l];exact qV (S:=S) i e he)
 have o:(S.r3 a).filter (fun e=>(S.k5 a).al (S.cD a) e.1)=S.r3 a:=List.filter_eq_self.2 (fun e he=>by simp_all)
 rw[n,o,r3];refine List.map_congr_left (fun e _=>?_)
 rw[b_.j6 _ _ b t3,b_.j6 _ _ b t3]
theorem cz.n4 (b:cz a S W m Y G)(hb:cJ a S.s){g:List Bool->List Bool}(hg:ed W.T W.wt g):S.n4 a=gY W.T (W.cR g true).1 W.T.length:=by
 have f:=cX.start hb.n1 hb.o1 hb.y1 hb.g1;have hs:=Rg.settled b hb hg;obtain⟨k,_⟩:=pi (S.s.j0 a) (fun c=>!((S.cA a).f c==-1)) _ (S.cA a,(a.N:Int)) f.nd (fun _ _=>rfl)
 have d:=k.sum (fun c=>(dp _).1)
 have d:(gB (mY (ld a.N S.s.y S.s.g S.s.ws)) ((S.s.j0 a).T.filter (fun c=>!((S.cA a).f c==-1))):Int)=S.n4 a:=d;rw[ul,<-d,uk (fun i _ hp=>b.size (hs.ok.al i hp)) (f.nd.filter _) (fun i j _ _ hp hq e=>b.inj i j (hs.ok.al i hp) (hs.ok.al j hq) e) (fun v=>?_)];rw[List.mem_filter];constructor
 ·rintro⟨l,n⟩
  obtain⟨i,hi,rfl⟩:=b.uo hb l;exact⟨i,hi.1,(hs.ga i hi).1 (by simpa using n),rfl⟩
 ·rintro⟨i,_,hp,rfl⟩
  have hi:=hs.ok.al i hp;exact⟨b.memT hb hi,by simpa using(hs.ga i hi).2 hp⟩
theorem cz.Aq (b:cz a S W m Y G)(hb:cJ a S.s){g:List Bool->List Bool}(hg:ed W.T W.wt g):S.fI a=W.cF g a.O true:=by unfold co.fI cn.cF;rw[b.n4 hb hg];simp
theorem cz.it (b:cz a S W m Y G)(hb:cJ a S.s){g:List Bool->List Bool}(hg:ed W.T W.wt g):S.it a=W.gE g a.O true:=by unfold co.it cn.gE;rw[b.Aq hb hg]
theorem cz.pC (b:cz a S W m Y G)(hb:cJ a S.s){j:cu}{v:Int×Int}(d:dO W.T v)(e:v.1=3->j.f (m v.2.toNat)≠-1):(S.s.j0 a).nw j (wv m v)=wv (fun i=>j.f (m i)) v:=by
 unfold b_.nw;rw[b.jt hb d];by_cases c:v.1=3
 ·rw[(b.vt hb d c).2,c,aJ (by simp[e c]),ib c]
 ·rw[aH (by simp[c]),lj c,lj c]
theorem uz {c:Type}(d:c){l b:List c}(h:l.length=b.length)(he:∀i,i<l.length->l.getD i d=b.getD i d):l=b:=by
 refine List.ext_getElem h (fun i e f=>?_)
 have:=he i e;rwa [aG,aI e,aG,aI f] at this
theorem uA {m:Nat->Int}:wv m (2,0)=3:=by rw[lj ae];decide
theorem cz.HM (hR:cz a S W m Y G)(hb:cJ a S.s){g:List Bool->List Bool}(hg:ed W.T W.wt g)(w:S.fI a=false):
 q_ a S W m (W.c0 g true) (W.cR g true).1 (W.cR g true).2.1 (S.dE a) (fun i=>(S.cD a).f (m i)) ((S.cD a).lf (G++Y)):=by
 have hs:=Rg.settled hR hb hg;have h0:=Rg.start hR hb hg;obtain⟨_,B,_⟩:=lY hR.kv hb w;obtain⟨s1,s2,a0⟩:=nU (S:=S) (cX.start hb.n1 hb.o1 hb.y1 hb.g1)
 have ab:=hR.T hb;have o:∀{i:Nat},cI W.T i->m i∈G++Y:=fun hi=>(ab▸hR.memT hb hi)
 have F:∀i,cI W.T i->((S.cD a).f (m i)≠-1↔cw (W.cR g true).1 i):=fun i hi=>by rw[<-hs.ga i hi];exact not_congr (B.iff _ (o hi))
 have l:∀i,cw (W.cR g true).1 i->_:=fun i b=>(F i (hs.ok.al i b)).2 b;have hcl:fK W.T W.wt (cw (W.cR g true).1):=by
  have hc:=hR.marked hb hs.dA (fun x ap=>(hs.q▸List.mem_map_of_mem (a7 _ ap)))
  intro i hi ar v s n;have ad:∀j,cw (W.cR g true).1 j->_/\_:=fun j p=>⟨hs.ok.al j p,(hs.ga j (hs.ok.al j p)).2 p⟩
  obtain⟨q1,f⟩:=hc i hi (ad i ar) v (s.mono ad) n;exact(hs.ga _ q1).1 f
 have hup:∀i,cw (W.c0 g true) i->cw (W.cR g true).1 i:=fun i hi=>by have ha:=h0.ok.al i hi;have ag:=(h0.ga i ha).2 hi;refine(hs.ga i ha).1 ?_;rw[s2.f _ ag];exact ag
 have t:∀i,cw (W.cR g true).1 i->((W.T.getD i t0).1=3\/(W.T.getD i t0).1=4->_=_):=fun i hi q=>hR.two (hs.ok.al i hi) (aK q)
 have uv:∀e,iu W.T e->cw (W.cR g true).1 e.1.toNat->cw (W.cR g true).1 e.2.toNat->((S.s.j0 a).nw (S.cD a) (we m e).1,(S.s.j0 a).nw (S.cD a) (we m e).2)=we (fun i=>(S.cD a).f (m i)) e:=fun e he ax t=>by
  have q1:=hR.pC hb (j:=S.cD a) (v:=(3,e.1)) ⟨fun _=>⟨he.g0,he.g⟩,fun c=>absurd rfl c⟩ (fun _=>l _ ax)
  have f:=hR.pC hb (j:=S.cD a) (v:=(3,e.2)) ⟨fun _=>⟨he.h0,he.h⟩,fun c=>absurd rfl c⟩ (fun _=>l _ t)
  exact Prod.ext q1 f
 have gc:=B.gc;have ai:(S.dE a).s.y=0:=gc.y;refine
 {
  kv:=(gc.inv hR.kv hb B.al).1,ok:=hs.ok,cl:=hcl,up:=hup,rr:=hs.r,cc:=hs.c
  rs:=?_,pl:=fun i b=>?_,inj:=fun i j hi p e=>?_,fZ:=fun v s=>?_,hd:=fun i b=>?_,fd:=fun i b k hk=>?_,rg:=?_,wt:=?_}
 ·refine uz 0 (by rw[aU,hR.rl];exact gc.rl) (fun i hi=>?_)
  have hi:i<12:=by rw[gc.rl] at hi;exact hi
  obtain⟨er,s⟩:=hR.root hi;rw[gc.rs i hi,er,jJ (wv (fun i=>(S.cD a).f (m i))) W.rs i (0,0) 0 ((hR.rl▸hi))];exact hR.pC hb s (fun n=>l _ (hs.r _ (getD_in ((hR.rl▸hi))) n))
 ·exact List.mem_map.2 ⟨m i,List.mem_filter.2 ⟨o (hs.ok.al i b),by simp_all⟩,rfl⟩
 ·have:=gc.pos.inj (fun c=>(dp _).1) (m i) (o (hs.ok.al i hi)) (m j) (o (hs.ok.al j p)) (by simp_all) (by simp_all) e;exact hR.inj i j (hs.ok.al i hi) (hs.ok.al j p) this
 ·obtain⟨c,hc,rfl⟩:=List.mem_map.1 s;obtain⟨q1,f⟩:=List.mem_filter.1 hc;rw[<-ab] at q1;obtain⟨i,hi,rfl⟩:=hR.uo hb q1;exact⟨i,(F i hi).1 (by simpa using f),rfl⟩
 ·rw[ai];exact gc.hd _ (o (hs.ok.al i b)) (l i b)
 ·have ha:=hs.ok.al i b;obtain⟨aF,aR,_⟩:=hR.parts ha;rw[ai,gc.fd _ (o ha) (l i b) k (Int.natCast_nonneg k) (by rw[aR];omega),l6 b (t i b) hk];unfold b_.h_;have aT:pk ((S.s.j0 a).ld (m i))=(W.T.getD i t0).1:=aF;rw[aT];have al:(S.s.j0 a).ld (m i+1+k)=wv m ((W.T.getD i t0).2.1.getD k (0,0)):=hR.fd i ha k hk;have key:(W.T.getD i t0).1=3\/(W.T.getD i t0).1=4->((S.s.j0 a).cV (S.cD a) ((S.s.j0 a).ld (m i+1))=true↔dy (W.cR g true).1 ((W.T.getD i t0).2.1.getD 0 (0,0))=false):=fun q=>by
   have aV:(S.s.j0 a).ld (m i+1)=wv m ((W.T.getD i t0).2.1.getD 0 (0,0)):=by
    have:=hR.fd i ha 0 aa;show ld a.N S.s.y S.s.g S.s.ws (m i+1)=_;rw[<-this]
    congr 1
    omega
   have N:=hR.fv i ha _ (getD_in (x:=((0,0):Int×Int)) (show 0<(W.T.getD i t0).2.1.length by omega))
   rw[aV];by_cases c3:((W.T.getD i t0).2.1.getD 0 (0,0)).1=3
   ·have q1:=hR.n3 hb (S.cD a) N c3;have f:=F _ (N.t c3).2;rw[Ap c3];constructor
    ·intro d;cases e:(W.cR g true).1.getD _ false
     ·rfl
     ·rw[q1.2 (f.2 e)] at d;cases d
    ·intro d;cases e:(S.s.j0 a).cV (S.cD a) _
     ·have:=f.1 (q1.1 e)
      unfold cw at this
      rw[d] at this
      cases this
     ·rfl
   ·rw[HI c3];have:(S.s.j0 a).cV (S.cD a) (wv m ((W.T.getD i t0).2.1.getD 0 (0,0)))=false:=by
     unfold b_.cV;rw[hR.jt hb N];have:(((W.T.getD i t0).2.1.getD 0 (0,0)).1==3)=false:=by simpa using c3
     rw[this];rfl
    rw[this];simp
  by_cases cb:((W.T.getD i t0).1=3\/(W.T.getD i t0).1=4)/\dy (W.cR g true).1 ((W.T.getD i t0).2.1.getD 0 (0,0))=false
  ·by_cases u:k=0\/((W.T.getD i t0).1=4/\k=1)
   ·rw[aJ ⟨⟨cb.1,(key cb.1).2 cb.2⟩,u.imp (fun e=>by omega) (fun e=>⟨e.1,aa⟩)⟩,aJ ⟨cb,u⟩,uA];unfold b_.nw b_.jt;rw[show c7 3=false by decide,Bool.false_and,Bool.false_and,aH ac]
   ·rw[aH (fun q=>u (q.2.imp (fun e=>by omega) (fun e=>⟨e.1,aa⟩))),aH (fun q=>u q.2),al];refine hR.pC hb (hR.fv i ha _ (getD_in hk)) (fun n=>l _ ?_)
    have hl:=hR.led hs.ok hcl b hk;rw[l6 b (t i b) hk,aH (fun q=>u q.2)] at hl;exact hl n
  ·rw[aH (fun q=>cb ⟨q.1.1,(key q.1.1).1 q.1.2⟩),aH (fun q=>cb q.1),al];refine hR.pC hb (hR.fv i ha _ (getD_in hk)) (fun n=>l _ ?_)
   have hl:=hR.led hs.ok hcl b hk;rw[l6 b (t i b) hk,aH (fun q=>cb q.1)] at hl;exact hl n
 ·rw[HL hR.kv hb w,hR.rg,List.filter_filter];rw[kX (we m) _ (fun e=>cG (W.c0 g true) e.2&&cG (W.cR g true).1 e.1) W.rg (fun e he=>by have q1:=Rg.is hR hb h0 (hR.gv e he).h;have f:=Rg.is hR hb hs (hR.gv e he).g;have q1:(S.s.j0 a).al (S.j2 a).1 (we m e).2=cG (W.c0 g true) e.2:=q1;have f:(S.s.j0 a).al (S.cA a) (we m e).1=cG (W.cR g true).1 e.1:=f;rw[q1,f,Bool.and_comm]),List.map_map];exact Ai
 ·rw[zX hR.kv hb w];have hE:∀e∈W.wt++(W.cR g true).2.1,iu W.T e:=fun e he=>by
   rcases List.mem_append.1 he with d|d
   ·exact hR.dD e d
   ·exact hR.gv e (hs.c e d).1
  rw[hs.q,kX (we m) _ (fun e=>cG (W.cR g true).1 e.1) _ (fun e he=>Rg.is hR hb hs (hE e he).g),List.map_map];exact Ag
theorem cz.dE (b:cz a S W m Y G)(hb:cJ a S.s){g:List Bool->List Bool}(hg:ed W.T W.wt g):∃c d e,cz a (S.dE a) (W.cut g a.O true) c d e:=by
 unfold cn.cut;rw[<-b.Aq hb hg];cases hf:S.fI a
 ·rw[aH ac];exact⟨_,_,_,(b.HM hb hg hf).done b⟩
 ·refine⟨m,Y,G,?_⟩
  unfold co.dE;rw[hf,aJ rfl];exact b
end
theorem Ar (k:cf):∀(l:List Int)(s:ck),(l.foldl k.eL s).rs=s.rs
 |[],_=>rfl
 |x::l,s=>by rw[a9,Ar k l];unfold cf.eL;split<;>rfl
theorem As (k:cf):∀(l:List Int)(s:ck),(l.foldl k.gy s).rs=s.rs
 |[],_=>rfl
 |x::l,s=>by rw[a9,As k l];rfl
theorem e_.told {k:cf}{s:ck}(ci:CI k s)(dl:Fo k s){q0 q:List b9}(h:e_ k s q0 q)(p:Int->Bool):(q.filter (fun e=>p e.1)).map (fun e=>(k.nw s e.1,k.nw s e.2))=(q0.filter (fun e=>p e.1)).map (fun e=>(k.nw s e.1,k.nw s e.2)):=by
 have d:q.map (fun e=>(e.1,k.nw s e.2))=q0.map (fun e=>(e.1,k.nw s e.2)):=by
  refine uz (0,0) (by rw[aU,aU,h.len]) (fun n b=>?_)
  rw[aU] at b;have c:n<q0.length:=(h.len▸b)
  obtain⟨f,g⟩:=h.eq n c;rw[jJ (fun e:b9=>(e.1,k.nw s e.2)) q n (0,0) (0,0) b,jJ (fun e:b9=>(e.1,k.nw s e.2)) q0 n (0,0) (0,0) c,f,Am ci dl g]
 have key:∀l:List b9,(l.filter (fun e=>p e.1)).map (fun e=>(k.nw s e.1,k.nw s e.2))=((l.map (fun e=>(e.1,k.nw s e.2))).filter (fun e=>p e.1)).map (fun e=>(k.nw s e.1,e.2)):=fun l=>by rw[kX (fun e:b9=>(e.1,k.nw s e.2)) (fun e=>p e.1) (fun e=>p e.1) l (fun _ _=>rfl),List.map_map];rfl
 rw[key q,key q0,d]
section
variable {a:Wc}{S:co}{W:cn}{m:Nat->Int}{Y G:List Int}
def f3 (a:Wc)(S:co)(m:Nat->Int)(G:List Int)(i:Nat):Int:=if m i∈G then m i else(S.s4 a).f (m i)
theorem cz.HO (hR:cz a S W m Y G)(hb:cJ a S.s)(bi:S.s.y<=a.O-S.s.g){g:List Bool->List Bool}(hg:ed W.T W.wt g):
 ∃K,q_ a S W m (W.c0 g false) (W.cR g false).1 (W.cR g false).2.1 ⟨⟨0,(S.s6 a).g,(S.s6 a).ws,[],(S.s6 a).rs⟩,(S.s.k0 a).sR (S.t3 a) S.r,(S.s.k0 a).i6 (S.t3 a) S.r⟩ (f3 a S m G) (G++K):=by
 obtain⟨D,hc,h0⟩:=i_.start hR hb bi hg;have hs:=i_.settled hR hb hc hg h0;obtain⟨K,li,ab⟩:=hs.dA.li;have li:=li;have ab:=ab;obtain⟨bl,cn,c⟩:=qS hR.kv hb bi;have bx:bl=K:=by have l2:=(c.li.mi.full.lists (O:=a.O) hb.n1 hb.y1 hb.o1 c.li.mi.ci.hg).2;have a0:=((li.mi.full.lists (O:=a.O) hb.n1 hb.y1 hb.o1 li.mi.ci.hg).2).symm.trans l2;exact(List.append_cancel_left a0).symm
 subst bx;refine⟨bl,?_⟩
 have ci:=li.mi.ci;have dl:=li.mi.dl;have aF:=hR.fS hb;have hz:∀v,(v∈(S.s.k0 a).T\/v∈(S.s.z0 G).G)->∀i,0<=i->i<pf ((S.s.k0 a).l0 (S.s.z0 G) v)->c7 ((S.s.k0 a).l0 (S.s.z0 G) (v+1+i))=true->cj ((S.s.k0 a).l0 (S.s.z0 G) (v+1+i))∈(S.s.k0 a).T\/cj ((S.s.k0 a).l0 (S.s.z0 G) (v+1+i))∈(S.s.z0 G).G:=fun v t i b0 al ha=>by rw[aF] at t⊢;exact hR.kv.inv.fd v t i b0 al ha
 have ga:=hs.ga;have ok:=hs.ok;have ap:∀i,cw (W.cR g false).1 i->(S.s.k0 a).or (S.s.z0 G) (S.s4 a) (m i) (f3 a S m G i):=fun i b=>by
  have ha:=ok.al i b;unfold f3;by_cases d:m i∈G
  ·rw[aJ d];exact aL ⟨rfl,d⟩
  ·rw[aH d];have hy:=(hR.mem ha).resolve_right d;exact aK ⟨by rw[aF];exact hy,rfl,((hR.jL hb _ ha).1 ((ga i ha).2 b)).resolve_left d⟩
 have hcl:fK W.T W.wt (cw (W.cR g false).1):=by
  intro i hi b4 v t l;have bn:∀j,cw (W.cR g false).1 j->_/\_:=fun j ad=>⟨ok.al j ad,(ga j (ok.al j ad)).2 ad⟩
  obtain⟨q1,s⟩:=hR.ur hb hc hs.dA ut i hi (bn i b4) v (t.mono bn) l;exact(ga _ q1).1 s
 have b5:df (S.s.k0 a) (S.t3 a).1 (S.s4 a):=by obtain⟨b6,a0,w3⟩:=h0.dA.li;obtain⟨_,_,_,cA,_⟩:=cZ.eT (k:=S.s.k0 a) (z:=S.s.z0 G) (D:=D) (S.t3 a) S.r b6 a0 w3;exact cA
 have hup:∀i,cw (W.c0 g false) i->cw (W.cR g false).1 i:=fun i hi=>by have ha:=h0.ok.al i hi;exact(ga i ha).1 (py b5 ((h0.ga i ha).2 hi))
 have N:∀i,cw (W.cR g false).1 i->((W.T.getD i t0).1=3\/(W.T.getD i t0).1=4->_=_):=fun i hi q=>hR.two (ok.al i hi) (aK q)
 have ar:∀v,dO W.T v->(v.1=3->cw (W.cR g false).1 v.2.toNat)->(S.s.k0 a).nw (S.s4 a) (wv m v)=wv (f3 a S m G) v:=fun v t b=>by
  by_cases l:v.1=3
  ·have ha:=(t.t l).2;rw[ib l,ib l];unfold f3;by_cases d:m v.2.toNat∈G
   ·rw[aJ d];refine n7 ?_;rw[Bool.eq_false_iff];intro hy;exact hR.jK hb ((hR.n5 hb ha).1 hy) d
   ·rw[aH d];have hy:=(hR.mem ha).resolve_right d;have e:=(hR.word hb ha).2.2;rw[q8 ((hR.n5 hb ha).2 hy) (by rw[e];exact((hR.jL hb _ ha).1 ((ga _ ha).2 (b l))).resolve_left d),e]
  ·rw[lj l,lj l];refine n7 ?_;unfold cf.cL;rw[(m4 _ _ (t.o l)).1];have:(v.1==3)=false:=by simpa using l
   rw[this];rfl
 have uv:∀e,iu W.T e->cw (W.cR g false).1 e.1.toNat->cw (W.cR g false).1 e.2.toNat->((S.s.k0 a).nw (S.s4 a) (we m e).1,(S.s.k0 a).nw (S.s4 a) (we m e).2)=we (f3 a S m G) e:=fun e he b7 N=>by
  have q1:=ar (3,e.1) ⟨fun _=>⟨he.g0,he.g⟩,fun c=>absurd rfl c⟩ (fun _=>b7)
  have s:=ar (3,e.2) ⟨fun _=>⟨he.h0,he.h⟩,fun c=>absurd rfl c⟩ (fun _=>N)
  rw[ib rfl,ib rfl] at q1 s;unfold we;exact Prod.ext q1 s
 have lo:∀{p:Int},(a.N:Int)<=p->ld a.N 0 (S.s6 a).g (S.s6 a).ws p=(S.s.k0 a).ld ((S.s.k0 a).be ((S.s.k0 a).mw (S.s4 a) (S.s4 a).wk) ((S.s.k0 a).mw (S.s4 a) (S.s4 a).wk).ep) p:=fun hp=>t9 hp hb.y1;refine
 {
  kv:=⟨c.done hR.kv hb,fun v _ i _ _ _ hy=>(by cases hy)⟩,ok:=ok,cl:=hcl,up:=hup,rr:=hs.r,cc:=hs.c
  rs:=?_,pl:=fun i b=>li.mi.mem (ap i b),inj:=fun i j hi ad e=>?_,fZ:=fun v t=>?_,hd:=fun i b=>?_,fd:=fun i b k hk=>?_,rg:=?_,wt:=?_}
 ·have b8:(S.s6 a).rs=(S.s4 a).rs:=(As _ _ _).trans (Ar _ _ _)
  show(S.s6 a).rs=_;rw[b8];refine uz 0 (by rw[aU,hR.rl];exact c.rl) (fun i hi=>?_)
  have hi:i<12:=by rw[c.rl] at hi;exact hi
  obtain⟨er,t⟩:=hR.root hi;have hm:=c.rm i hi;rw[er] at hm;rw[An hm (c.zS i hi),jJ (wv (f3 a S m G)) W.rs i (0,0) 0 (by rw[hR.rl];exact hi)];exact ar _ t (hs.r _ (getD_in (by rw[hR.rl];exact hi)))
 ·have o1:=ap i hi;have bo:=ap j ad;rw[<-e] at bo;refine hR.inj i j (ok.al i hi) (ok.al j ad) ?_;rcases o1 with⟨a1,a2⟩|⟨a1,a2,aR⟩<;>rcases bo with⟨b1,b2⟩|⟨b1,b2,b3⟩
  ·exact a1.trans b1.symm
  ·have q1:=li.mi.kD _ a2;have s:=li.mi.hlo _ (li.mi.fh _ b1 (by rw[b2];exact b3))
   rw[b2] at s;omega
  ·have q1:=li.mi.kD _ b2;have s:=li.mi.hlo _ (li.mi.fh _ a1 (by rw[a2];exact aR))
   rw[a2] at s;omega
  ·exact li.mi.inj _ a1 _ b1 (by rw[a2];exact aR) (a2.trans b2.symm)
 ·obtain⟨x,o⟩:=li.mi.from t;have hm:x∈Y\/x∈G:=by
   have:=um o;rw[aF] at this
   exact this
  obtain⟨i,hi,rfl⟩:=hR.fZ x hm;have b:cw (W.cR g false).1 i:=(ga i hi).1 ((hR.jL hb _ hi).2 (by
   rcases o with⟨a1,a2⟩|⟨a1,a2,aR⟩
   ·exact aL (by rw[a1];exact a2)
   ·omega))
  refine⟨i,b,?_⟩
  unfold f3;rcases o with⟨a1,a2⟩|⟨a1,a2,aR⟩
  ·rw[aJ (by rw[a1];exact a2)];exact a1
  ·rw[aF] at a1;rw[aH (hR.jK hb a1)];exact a2
 ·have o:=ap i b;have b9:=li.mi.bd (li.mi.mem o)
  show ld a.N 0 (S.s6 a).g (S.s6 a).ws (f3 a S m G i)=_;rw[lo b9.1];exact(HH li ab o).1
 ·have o:=ap i b;have ha:=ok.al i b;obtain⟨a3,bb,_⟩:=hR.parts ha;have ax:(S.s.k0 a).ld (S.s4 a) (f3 a S m G i)=ld a.N S.s.y S.s.g S.s.ws (m i):=li.mi.hd _ _ o;have al:(k:Int)<pf ((S.s.k0 a).l0 (S.s.z0 G) (m i)):=by
   show(k:Int)<pf (ld a.N S.s.y S.s.g S.s.ws (m i))
   rw[bb];omega
  have ca:(k:Int)<pf ((S.s.k0 a).ld (S.s4 a) (f3 a S m G i)):=by rw[ax,bb];omega
  have aT:∀n,n<(W.T.getD i t0).2.1.length->(S.s.k0 a).l0 (S.s.z0 G) (m i+1+n)=wv m ((W.T.getD i t0).2.1.getD n (0,0)):=fun n cb=>hR.fd i ha n cb;have bd:=li.mi.fd (m i) _ o k (Int.natCast_nonneg k) al;rw[aT k hk] at bd;have bp:=hR.fv i ha _ (getD_in (x:=((0,0):Int×Int)) hk)
  show ld a.N 0 (S.s6 a).g (S.s6 a).ws (f3 a S m G i+1+k)=_;have hN:(a.N:Int)<=f3 a S m G i:=(li.mi.bd (li.mi.mem o)).1;rw[lo aa,HG li ab o (Int.natCast_nonneg k) al,l6 b (N i b) hk];have lost:(W.T.getD i t0).1=3\/(W.T.getD i t0).1=4->(dy (W.cR g false).1 ((W.T.getD i t0).2.1.getD 0 (0,0))=false↔(S.s.k0 a).ls (S.s4 a) (wv m ((W.T.getD i t0).2.1.getD 0 (0,0)))=true):=fun q=>by
   have l2:=N i b q;have be:=hR.fv i ha _ (getD_in (x:=((0,0):Int×Int)) (show 0<(W.T.getD i t0).2.1.length by omega))
   constructor
   ·intro d;obtain⟨br,cd⟩:=oE d;have ce:=(be.t br).2;have:¬(S.s.k0 a).al (S.s4 a) (ew 3 (m ((W.T.getD i t0).2.1.getD 0 (0,0)).2.toNat))=true:=fun w=>by
     have:=(ga _ ce).1 w;unfold cw at this
     rw[cd] at this
     cases this
    rw[ib br];unfold cf.al at this
    simpa using this
   ·intro d;obtain⟨B,_⟩:=hR.q7 hb be (l4 d)
    rw[ib B] at d;rw[Ap B];cases w:(W.cR g false).1.getD ((W.T.getD i t0).2.1.getD 0 (0,0)).2.toNat false
    ·rfl
    ·have:=(ga _ (be.t B).2).2 w;unfold cf.al at this
     rw[d] at this
     cases this
  have met:(W.T.getD i t0).1=3\/(W.T.getD i t0).1=4->(S.s.k0 a).ls (S.s4 a) (wv m ((W.T.getD i t0).2.1.getD 0 (0,0)))=true->(S.s.k0 a).ld (S.s4 a) (f3 a S m G i+1+0)=wv m ((W.T.getD i t0).2.1.getD 0 (0,0))/\((W.T.getD i t0).1=3->f3 a S m G i∈(S.s4 a).wk)/\((W.T.getD i t0).1=4->f3 a S m G i∈(S.s4 a).ep):=fun q d=>by
   have l2:=N i b q;have bg:(0:Int)<pf ((S.s.k0 a).l0 (S.s.z0 G) (m i)):=aa;have j2:(0:Int)<pf ((S.s.k0 a).ld (S.s4 a) (f3 a S m G i)):=by rw[ax,bb];omega
   have bs:=li.mi.fd (m i) _ o 0 (Int.le_refl 0) bg;have ex:(S.s.k0 a).l0 (S.s.z0 G) (m i+1+0)=wv m ((W.T.getD i t0).2.1.getD 0 (0,0)):=aT 0 aa;rw[ex] at bs;have F:(S.s.k0 a).ld (S.s4 a) (f3 a S m G i+1+0)=wv m ((W.T.getD i t0).2.1.getD 0 (0,0)):=by
    rcases bs with w|⟨_,w,_⟩
    ·exact w
    ·exact absurd (cf.mL d).2.2 w
   have f:=li.fields hs.dA.he hz hc (li.mi.mem o) (Int.le_refl 0) j2 ((F▸(cf.mL d).1))
   rw[ax,a3] at f;refine⟨F,fun B=>?_,fun ag=>?_⟩
   ·rcases f with w|⟨_,_,w⟩|⟨w,_⟩
    ·have:=li.mi.nW w;rw[F,l4 d] at this
     cases this
    ·exact w
    ·omega
   ·rcases f with w|⟨w,_,_⟩|⟨_,w⟩
    ·have:=li.mi.nW w;rw[F,l4 d] at this
     cases this
    ·omega
    ·exact w
  by_cases ai:f3 a S m G i∈(S.s4 a).ep
  ·have ag:(W.T.getD i t0).1=4:=by
    have:=(ab.ep _ ai).2;rw[ax,a3] at this
    exact this
   have l2:=N i b (aK ag)
   have u:=hs.dA.ep _ ai;have u:=u;have bg:(0:Int)<pf ((S.s.k0 a).l0 (S.s.z0 G) (m i)):=aa;have cg:f3 a S m G i+1+0=f3 a S m G i+1:=aa;rw[<-cg] at u;have ea:=li.mi.q6 o (Int.le_refl 0) bg (l4 u)
   have ex:(S.s.k0 a).l0 (S.s.z0 G) (m i+1+0)=wv m ((W.T.getD i t0).2.1.getD 0 (0,0)):=aT 0 aa;rw[ea,ex] at u;rw[aJ ai,aJ ⟨⟨aK ag,(lost (aK ag)).2 u⟩,aa⟩,uA]
  ·rw[aH ai];by_cases bt:f3 a S m G i∈(S.s4 a).wk/\(k:Int)=0
   ·obtain⟨hw,co⟩:=bt;have B:(W.T.getD i t0).1=3:=by
     have:=(ab.wk _ hw).2;rw[ax,a3] at this
     exact this
    have fg:k=0:=aa;subst fg;rw[aJ ⟨hw,rfl⟩];cases u:dy (W.cR g false).1 ((W.T.getD i t0).2.1.getD 0 (0,0))
    ·have q:=(lost (aL B)).1 u;have F:=(met (aL B) q).1;have F:(S.s.k0 a).ld (S.s4 a) (f3 a S m G i+1+((0:Nat):Int))=wv m ((W.T.getD i t0).2.1.getD 0 (0,0)):=F;rw[aJ ⟨⟨aL B,rfl⟩,aL rfl⟩,uA,F];unfold cf.cE;rw[aJ q]
    ·rw[aH (fun q=>by simp_all)];have ch:(S.s.k0 a).ls (S.s4 a) ((S.s.k0 a).ld (S.s4 a) (f3 a S m G i+1+((0:Nat):Int)))=false:=by rw[Bool.eq_false_iff];intro w;rw[(li.mi.q6 o (Int.natCast_nonneg 0) al (l4 w)),aT 0 hk] at w;rw[(lost (aL B)).2 w] at u;cases u
     unfold cf.cE;rw[ch,aH ac,Am ci dl bd];refine ar _ bp (fun l=>?_)
     exact mz u l
   ·rw[aH bt];have ck:(S.s.k0 a).cL ((S.s.k0 a).ld (S.s4 a) (f3 a S m G i+1+k))=false:=by
     cases hab:c7 ((S.s.k0 a).ld (S.s4 a) (f3 a S m G i+1+k))
     ·unfold cf.cL;rw[hab];rfl
     ·rcases li.fields hs.dA.he hz hc (li.mi.mem o) (Int.natCast_nonneg k) ca hab with w|⟨_,w1,cp⟩|⟨_,w⟩
      ·exact li.mi.nW w
      ·simp_all
      ·exact absurd w ai
    have nb:¬((((W.T.getD i t0).1=3\/(W.T.getD i t0).1=4)/\dy (W.cR g false).1 ((W.T.getD i t0).2.1.getD 0 (0,0))=false)/\(k=0\/((W.T.getD i t0).1=4/\k=1))):=by
     rintro⟨⟨q1,s⟩,q3⟩
     obtain⟨_,cq,cm⟩:=met q1 ((lost q1).1 s)
     rcases q1 with B|ag
     ·simp_all
     ·exact ai (cm ag)
    rw[aH nb,An bd ck];refine ar _ bp (fun l=>?_)
    have hl:=hR.led ok hcl b hk;rw[l6 b (N i b) hk,aH nb] at hl;exact hl l
 ·show(((S.r.filter (fun e=>(S.s.k0 a).al (S.t3 a).1 e.2)).filter (fun e=>(S.s.k0 a).al (S.s4 a) e.1)).map (fun e=>((S.s.k0 a).nw (S.s4 a) e.1,(S.s.k0 a).nw (S.s4 a) e.2)))=_;rw[hR.rg,List.filter_filter];rw[kX (we m) _ (fun e=>cG (W.c0 g false) e.2&&cG (W.cR g false).1 e.1) W.rg (fun e he=>by have q1:(S.s.k0 a).al (S.t3 a).1 (we m e).2=cG (W.c0 g false) e.2:=h0.is (hR.gv e he).h;have s:(S.s.k0 a).al (S.s4 a) (we m e).1=cG (W.cR g false).1 e.1:=hs.is (hR.gv e he).g;rw[q1,s,Bool.and_comm]),List.map_map];exact Ai
 ·show((((S.s.k0 a).eT (S.t3 a) S.r).2.filter (fun e=>(S.s.k0 a).al (S.s4 a) e.1)).map (fun e=>((S.s.k0 a).nw (S.s4 a) e.1,(S.s.k0 a).nw (S.s4 a) e.2)))=_;rw[hs.dA.q.told ci dl ((S.s.k0 a).al (S.s4 a))];have hE:∀e∈W.wt++(W.cR g false).2.1,iu W.T e:=fun e he=>by
   rcases List.mem_append.1 he with d|d
   ·exact hR.dD e d
   ·exact hR.gv e (hs.c e d).1
  rw[kX (we m) _ (fun e=>cG (W.cR g false).1 e.1) _ (fun e he=>hs.is (hE e he).g),List.map_map];exact Ag
theorem cz.Au (d:cz a S W m Y G)(hb:cJ a S.s){g:List Bool->List Bool}(hg:ed W.T W.wt g):S.full a=W.cF g a.O false:=by
 have b:=d.us hb;have e:=hb.g1;unfold co.full cn.cF;rw[b];by_cases c:a.O-S.s.g<S.s.y
 ·rw[bq c,bq (show(a.O:Int)-(S.s.g:Int)<(S.s.y:Int) by omega)];rfl
 ·rw[bA c,bA (show¬(a.O:Int)-(S.s.g:Int)<(S.s.y:Int) by omega)];obtain⟨D,hc,h0⟩:=i_.start d hb aa hg;have f:fT (fun i=>(W.cR g false).1.getD i false) (iw W.T) W.T.length<=fT (fun i=>i9 W.T i||oB W.T i) (iw W.T) W.T.length:=z9 _ (fun i hi hp=>by unfold i9 oB;rw[((i_.settled d hb hc hg h0).ok.al i hp).2];cases (W.T.getD i t0).2.2.1<;>rfl)
  have j:=z_ (R:=fun i=>i9 W.T i||oB W.T i) (z:=iw W.T) W.T.length (fun i _=>⟨rfl,by unfold i9 oB;cases (W.T.getD i t0).2.2.2<;>cases (W.T.getD i t0).2.2.1<;>rfl⟩)
  rw[Ab] at b;have k:=congrArg Prod.fst b;have l:=congrArg Prod.snd b;rw[bA (by rw[(ul W.T (W.cR g false).1 W.T.length)];omega)];rfl
theorem cz.Av (b:cz a S W m Y G)(hb:cJ a S.s){g:List Bool->List Bool}(hg:ed W.T W.wt g):S.code a=W.gE g a.O false:=by unfold co.code cn.gE;rw[b.Au hb hg]
theorem cz.cut (b:cz a S W m Y G)(hb:cJ a S.s){g:List Bool->List Bool}(hg:ed W.T W.wt g):∃d e f,cz a (S.cut a) (W.cut g a.O false) d e f:=by
 unfold cn.cut;rw[<-b.Au hb hg];cases hf:S.full a
 ·rw[aH ac];have i:S.s.y<=a.O-S.s.g:=by exact qD
  obtain⟨K,c⟩:=b.HO hb i hg;unfold co.cut;rw[hf,aH ac];exact⟨_,_,_,c.done b⟩
 ·refine⟨m,Y,G,?_⟩
  unfold co.cut;rw[hf,aJ rfl];exact b
end
section
variable {k R A B I n:Int}{w:aw}
theorem HP (hu:cU k=1)(hR:dv R=false):Calls prog 55 #[.agg #[ak k,ak R,ak A,ak B,ak I,ak n]] w fun e w'=>e=.returned (ak (1))/\Below w.heap.size w w':=by
 have U:∀w,Calls prog 54 #[ak k] w fun e w'=>e=.returned (ak (1))/\w'=w:=fun w=>by exact ja
 exact uu
theorem HS (hu:cU k=1)(b:dv R=true):Calls prog 55 #[.agg #[ak k,ak R,ak A,ak B,ak I,ak n]] w fun e w'=>e=.returned (ak (em k n))/\Below w.heap.size w w':=by
 have c:∀w,Calls prog 54 #[ak k] w fun e w'=>e=.returned (ak (1))/\w'=w:=fun w=>by exact ja
 have d:∀w,Calls prog 119 #[ak R] w fun e w'=>e=.returned (.bool true)/\w'=w:=fun w=>by have h:=jx R w;rw[b] at h;exact h
 have hb0:=aq w (.cells #[.int .i64 k,.int .i64 R,.int .i64 A,.int .i64 B,.int .i64 I,.int .i64 n] 44)
 clear hu;go_enter func55,ntmps55;go_wp2_with fail;refine(c _).mono ?_;rintro e w1 ⟨rfl,rfl⟩
 go_wp2_with fail;refine(d _).mono ?_;exact pB
theorem HU (hu:cU k=3)(hR:dv R=false):Calls prog 55 #[.agg #[ak k,ak R,ak A,ak B,ak I,ak n]] w fun e w'=>e=.returned (ak (1))/\Below w.heap.size w w':=by
 have U:∀w,Calls prog 54 #[ak k] w fun e w'=>e=.returned (ak (3))/\w'=w:=fun w=>by exact ja
 exact uu
theorem HV (hu:cU k=3)(hR:dv R=true)(hA:dv A=false):Calls prog 55 #[.agg #[ak k,ak R,ak A,ak B,ak I,ak n]] w fun e w'=>e=.returned (ak (1))/\Below w.heap.size w w':=by
 have U:∀w,Calls prog 54 #[ak k] w fun e w'=>e=.returned (ak (3))/\w'=w:=fun w=>by exact ja
 exact Af
theorem HW (hu:cU k=3)(b:dv R=true)(hA:dv A=true):Calls prog 55 #[.agg #[ak k,ak R,ak A,ak B,ak I,ak n]] w fun e w'=>e=.returned (ak (em k n))/\Below w.heap.size w w':=by
 have c:∀w,Calls prog 54 #[ak k] w fun e w'=>e=.returned (ak (3))/\w'=w:=fun w=>by exact ja
 have d:∀w,Calls prog 119 #[ak R] w fun e w'=>e=.returned (.bool true)/\w'=w:=fun w=>by have h:=jx R w;rw[b] at h;exact h
 have f:∀w,Calls prog 119 #[ak A] w fun e w'=>e=.returned (.bool true)/\w'=w:=fun w=>by exact n6
 have hb0:=aq w (.cells #[.int .i64 k,.int .i64 R,.int .i64 A,.int .i64 B,.int .i64 I,.int .i64 n] 44)
 clear hu;go_enter func55,ntmps55;go_wp2_with fail;refine(c _).mono ?_;rintro e w1 ⟨rfl,rfl⟩
 go_wp2_with fail;refine(d _).mono ?_;rintro e w1 ⟨rfl,rfl⟩
 go_wp2_with fail;refine(f _).mono ?_;exact pB
theorem HY (hu:cU k=7)(hR:dv R=false):Calls prog 55 #[.agg #[ak k,ak R,ak A,ak B,ak I,ak n]] w fun e w'=>e=.returned (ak (1))/\Below w.heap.size w w':=by
 have U:∀w,Calls prog 54 #[ak k] w fun e w'=>e=.returned (ak (7))/\w'=w:=fun w=>by exact ja
 exact uu
theorem HZ (hu:cU k=7)(hR:dv R=true)(hA:dv A=false):Calls prog 55 #[.agg #[ak k,ak R,ak A,ak B,ak I,ak n]] w fun e w'=>e=.returned (ak (1))/\Below w.heap.size w w':=by
 have U:∀w,Calls prog 54 #[ak k] w fun e w'=>e=.returned (ak (7))/\w'=w:=fun w=>by exact ja
 exact Af
theorem H0 (hu:cU k=7)(b:dv R=true)(hA:dv A=true)(hB:dv B=false):Calls prog 55 #[.agg #[ak k,ak R,ak A,ak B,ak I,ak n]] w fun e w'=>e=.returned (ak (1))/\Below w.heap.size w w':=by
 have c:∀w,Calls prog 54 #[ak k] w fun e w'=>e=.returned (ak (7))/\w'=w:=fun w=>by exact ja
 have d:∀w,Calls prog 119 #[ak R] w fun e w'=>e=.returned (.bool true)/\w'=w:=fun w=>by have h:=jx R w;rw[b] at h;exact h
 have f:∀w,Calls prog 119 #[ak A] w fun e w'=>e=.returned (.bool true)/\w'=w:=fun w=>by exact n6
 have g:∀w,Calls prog 119 #[ak B] w fun e w'=>e=.returned (.bool false)/\w'=w:=fun w=>by have h:=jx B w;rw[hB] at h;exact h
 have hb0:=aq w (.cells #[.int .i64 k,.int .i64 R,.int .i64 A,.int .i64 B,.int .i64 I,.int .i64 n] 44)
 clear hu;go_enter func55,ntmps55;go_wp2_with fail;refine(c _).mono ?_;rintro e w1 ⟨rfl,rfl⟩
 go_wp2_with fail;refine(d _).mono ?_;rintro e w1 ⟨rfl,rfl⟩
 go_wp2_with fail;refine(f _).mono ?_;rintro e w1 ⟨rfl,rfl⟩
 go_wp2_with fail;refine(g _).mono ?_;exact p3
theorem H2 (hu:cU k=7)(b:dv R=true)(hA:dv A=true)(hB:dv B=true):Calls prog 55 #[.agg #[ak k,ak R,ak A,ak B,ak I,ak n]] w fun e w'=>e=.returned (ak (em k n))/\Below w.heap.size w w':=by
 have c:∀w,Calls prog 54 #[ak k] w fun e w'=>e=.returned (ak (7))/\w'=w:=fun w=>by exact ja
 have d:∀w,Calls prog 119 #[ak R] w fun e w'=>e=.returned (.bool true)/\w'=w:=fun w=>by have h:=jx R w;rw[b] at h;exact h
 have f:∀w,Calls prog 119 #[ak A] w fun e w'=>e=.returned (.bool true)/\w'=w:=fun w=>by exact n6
 have g:∀w,Calls prog 119 #[ak B] w fun e w'=>e=.returned (.bool true)/\w'=w:=fun w=>by have h:=jx B w;rw[hB] at h;exact h
 have hb0:=aq w (.cells #[.int .i64 k,.int .i64 R,.int .i64 A,.int .i64 B,.int .i64 I,.int .i64 n] 44)
 clear hu;go_enter func55,ntmps55;go_wp2_with fail;refine(c _).mono ?_;rintro e w1 ⟨rfl,rfl⟩
 go_wp2_with fail;refine(d _).mono ?_;rintro e w1 ⟨rfl,rfl⟩
 go_wp2_with fail;refine(f _).mono ?_;rintro e w1 ⟨rfl,rfl⟩
 go_wp2_with fail;refine(g _).mono ?_;exact pB
theorem H3 (hu:cU k=6)(hA:dv A=false):Calls prog 55 #[.agg #[ak k,ak R,ak A,ak B,ak I,ak n]] w fun e w'=>e=.returned (ak (1))/\Below w.heap.size w w':=by
 have b:∀w,Calls prog 54 #[ak k] w fun e w'=>e=.returned (ak (6))/\w'=w:=fun w=>by exact ja
 have c:∀w,Calls prog 119 #[ak A] w fun e w'=>e=.returned (.bool false)/\w'=w:=fun w=>by exact n6
 have hb0:=aq w (.cells #[.int .i64 k,.int .i64 R,.int .i64 A,.int .i64 B,.int .i64 I,.int .i64 n] 44)
 clear hu;go_enter func55,ntmps55;go_wp2_with fail;refine(b _).mono ?_;rintro e w1 ⟨rfl,rfl⟩
 go_wp2_with fail;refine(c _).mono ?_;exact p3
theorem H4 (hu:cU k=6)(hA:dv A=true)(hB:dv B=false):Calls prog 55 #[.agg #[ak k,ak R,ak A,ak B,ak I,ak n]] w fun e w'=>e=.returned (ak (1))/\Below w.heap.size w w':=by
 have b:∀w,Calls prog 54 #[ak k] w fun e w'=>e=.returned (ak (6))/\w'=w:=fun w=>by exact ja
 have c:∀w,Calls prog 119 #[ak A] w fun e w'=>e=.returned (.bool true)/\w'=w:=fun w=>by exact n6
 have d:∀w,Calls prog 119 #[ak B] w fun e w'=>e=.returned (.bool false)/\w'=w:=fun w=>by have h:=jx B w;rw[hB] at h;exact h
 have hb0:=aq w (.cells #[.int .i64 k,.int .i64 R,.int .i64 A,.int .i64 B,.int .i64 I,.int .i64 n] 44)
 clear hu;go_enter func55,ntmps55;go_wp2_with fail;refine(b _).mono ?_;rintro e w1 ⟨rfl,rfl⟩
 go_wp2_with fail;refine(c _).mono ?_;rintro e w1 ⟨rfl,rfl⟩
 go_wp2_with fail;refine(d _).mono ?_;exact p3
theorem H5 (hu:cU k=6)(hA:dv A=true)(hB:dv B=true):Calls prog 55 #[.agg #[ak k,ak R,ak A,ak B,ak I,ak n]] w fun e w'=>e=.returned (ak (em k n))/\Below w.heap.size w w':=by
 have b:∀w,Calls prog 54 #[ak k] w fun e w'=>e=.returned (ak (6))/\w'=w:=fun w=>by exact ja
 have c:∀w,Calls prog 119 #[ak A] w fun e w'=>e=.returned (.bool true)/\w'=w:=fun w=>by exact n6
 have d:∀w,Calls prog 119 #[ak B] w fun e w'=>e=.returned (.bool true)/\w'=w:=fun w=>by have h:=jx B w;rw[hB] at h;exact h
 have hb0:=aq w (.cells #[.int .i64 k,.int .i64 R,.int .i64 A,.int .i64 B,.int .i64 I,.int .i64 n] 44)
 clear hu;go_enter func55,ntmps55;go_wp2_with fail;refine(b _).mono ?_;rintro e w1 ⟨rfl,rfl⟩
 go_wp2_with fail;refine(c _).mono ?_;rintro e w1 ⟨rfl,rfl⟩
 go_wp2_with fail;refine(d _).mono ?_;exact pB
theorem H6 (hu:cU k=0):Calls prog 55 #[.agg #[ak k,ak R,ak A,ak B,ak I,ak n]] w fun e w'=>e=.returned (ak (em k n))/\Below w.heap.size w w':=by
 have b:∀w,Calls prog 54 #[ak k] w fun e w'=>e=.returned (ak (0))/\w'=w:=fun w=>by exact ja
 have hb0:=aq w (.cells #[.int .i64 k,.int .i64 R,.int .i64 A,.int .i64 B,.int .i64 I,.int .i64 n] 44)
 clear hu;go_enter func55,ntmps55;go_wp2_with fail;refine(b _).mono ?_;exact pB
theorem H7 (hu:cU k=-1):Calls prog 55 #[.agg #[ak k,ak R,ak A,ak B,ak I,ak n]] w fun e w'=>e=.returned (ak (2))/\Below w.heap.size w w':=by
 have b:∀w,Calls prog 54 #[ak k] w fun e w'=>e=.returned (ak (-1))/\w'=w:=fun w=>by exact ja
 go_enter func55,ntmps55;go_wp2_with fail;refine(b _).mono ?_;rintro e w1 ⟨rfl,rfl⟩
 go_wp2;go_ret;exact⟨rfl,(aq w _)⟩
end
theorem lq (k R A B I n:Int)(w:aw):Calls prog 55 #[.agg #[ak k,ak R,ak A,ak B,ak I,ak n]] w fun e w'=>e=.returned (ak (dP k R A B n))/\Below w.heap.size w w':=by
 unfold dP;rcases wM k with b|b|b|b|b|b
 ·rw[b,aH ae];cases hR:dv R
  ·rw[aJ ac];exact HP b hR
  ·rw[aH ac];exact HS b hR
 ·rw[b,aH ae];cases hR:dv R
  ·rw[aJ ac];exact HU b hR
  ·cases hA:dv A
   ·rw[aJ ac];exact HV b hR hA
   ·rw[aH ac];exact HW b hR hA
 ·rw[b,aH ae];cases hR:dv R
  ·rw[aJ ac];exact HY b hR
  ·cases hA:dv A
   ·rw[aJ ac];exact HZ b hR hA
   ·cases hB:dv B
    ·rw[aJ ac];exact H0 b hR hA hB
    ·rw[aH ac];exact H2 b hR hA hB
 ·rw[b,aH ae];cases hA:dv A
  ·rw[aJ ac];exact H3 b hA
  ·cases hB:dv B
   ·rw[aJ ac];exact H4 b hA hB
   ·rw[aH ac];exact H5 b hA hB
 ·rw[b,aH ae];rw[aH ac];exact H6 b
 ·rw[aJ b];exact H7 b
def cv (a:Wc)(hp:Nat):dS co where
 J F S w:=∃c,(fB a).J c S w/\w.heap[hp]?=some (.cells #[am a.pw] 49 (0,0))/\¬c hp/\∀b,F b↔(c b\/b=hp)
 lt:=by
  rintro F S w ⟨c,f,g,i,d⟩ b hb;rcases(d b).1 hb with e|e
  ·exact(fB a).lt f b e
  ·rw[e];exact lt_of_some g
 keep:=by rintro F S w w' ⟨c,f,g,i,d⟩ hs hk;exact⟨c,(fB a).keep f hs (fun b e=>hk b ((d b).2 (aL e))),(hk _ ((d _).2 (aK rfl))).trans g,i,d⟩
section
variable {a:Wc}{hp:Nat}{F:Nat->Prop}{S:co}{w:aw}
theorem jM (h:(cv a hp).J F S w):∃d,(fB a).J d S w/\(∀b,d b->F b)/\∀e s1 w',(fB a).J e s1 w'->ce d w e w'->∃i,(cv a hp).J i s1 w'/\ce F w i w':=by
 obtain⟨d,l,j,k,f⟩:=h;refine⟨d,l,fun b c=>(f b).2 (aL c),fun e s1 w' m g=>?_⟩
 have lp:=lt_of_some j;refine⟨fun b=>e b\/b=hp,⟨e,m,(g.fr.block _ lp k).trans j,fun c=>?_,fun b=>Iff.rfl⟩,⟨g.fr.mono (fun b c=>(f b).2 (aL c)),fun b c=>?_⟩⟩
 ·rcases g.sub _ c with c|c
  ·exact k c
  ·omega
 ·rcases c with c|c
  ·exact(g.sub b c).imp (fun c=>(f b).2 (aL c)) id
  ·exact aL ((f b).2 (aK c))
structure H8 (a:Wc)(hp:Nat)(s:eh)(w:aw):Prop where
 h0:w.cell? (ao hp 0)=some (am a.pw)
 c0:w.cell? (ao a.pw 0)=some (am a.p)
 c3:w.cell? (ao a.pw 3)=some (.slice (an a.nb) 12 12)
 rt:∀i,i<12->w.cell? (ao a.nb i)=some (ak (s.rs.getD i 0))/\w.frozen? (ao a.nb i)=false
 rl:s.rs.length=12
 lp:hp<w.heap.size
 lw:a.pw<w.heap.size
 ln:a.nb<w.heap.size
theorem eI (h:(cv a hp).J F S w):H8 a hp S.s w:=by
 have b:w.heap[hp]?=some (.cells #[am a.pw] 49 (0,0)):=by obtain⟨c,_,b,_⟩:=h;exact b
 obtain⟨c,d,_⟩:=jM h;obtain⟨e,g1,_⟩:=lU d;obtain⟨c0,_,_,c3,lw,rl,ln,rt⟩:=jh g1;exact⟨by simp[World.cell?,b],c0,c3,rt,rl,lt_of_some b,lw,ln⟩
theorem jo (h:(cv a hp).J F S w):At w a.p a.q a.N a.O S.s.y S.s.g S.s.ws/\∀w' y g ws,At w' a.p a.q a.N a.O y g ws->c_ a.p a.q w w'->∃b,(cv a hp).J b ⟨{S.s with y:=y,g:=g,ws:=ws},S.r,S.q⟩ w'/\ce F w b w':=by
 obtain⟨k,c,_,d⟩:=jM h;obtain⟨l,g1,g2⟩:=lU c;obtain⟨k1,e⟩:=jX g1;refine⟨k1,fun w' y g ws ha f=>?_⟩
 obtain⟨m1,i⟩:=e w' y g ws ha f;obtain⟨m,n1,j⟩:=g2 _ _ _ m1 i;exact d _ _ _ n1 j
theorem Aw (h:(cv a hp).J F S w)(i:Nat)(x:Int):∃b,(cv a hp).J b ⟨{S.s with rs:=S.s.rs.set i x},S.r,S.q⟩ (w.setCell ⟨a.nb,i,none⟩ (.int .i64 x))/\ce F w b (w.setCell ⟨a.nb,i,none⟩ (.int .i64 x)):=by obtain⟨g,c,_,d⟩:=jM h;obtain⟨j,g1,g2⟩:=lU c;obtain⟨m1,e⟩:=yE g1 i x;obtain⟨k,n1,f⟩:=g2 _ _ _ m1 e;exact d _ _ _ n1 f
end
theorem Ax {a:Wc}{hp:Nat}{F:Nat->Prop}{S:co}{w:aw}(h:(cv a hp).J F S w):a.nb≠hp/\a.nb≠a.pw:=by obtain⟨g,b,i,c,_⟩:=h;obtain⟨j,ar,k,⟨l,m,n,⟨own,cQ,hM,hO⟩,o,p,d,_⟩,r0,r1,f⟩:=b;exact⟨fun e=>c (by rw[<-e];exact(f _).2 (aL (d _ ((hO _).2 (by rw[hM.r1];decide))))),fun e=>by have b:=hM.r1;rw[e,hM.w1] at b;omega⟩
theorem Ay (n o:Nat)(w:aw)(h0:16<=n)(x:n<=256)(ag:o<=1024):
 Calls prog 18 #[ak n,ak o] w fun e w'=>∃a hp F,e=.returned (.tuple #[am hp,.agg #[ak 0,ak 0]])/\(cv a hp).J F (iP n o).1 w'/\(a.N=n/\a.O=o)/\(∀b,F b->w.heap.size<=b)/\Below w.heap.size w w':=by
 have B:=aq w (.cells #[.int .i64 0,.int .i64 0] 28)
 have P:=G2 n o (w.alloc (.cells #[.int .i64 0,.int .i64 0] 28)) h0 x ag;have N:=aN w (.cells #[.int .i64 0,.int .i64 0] 28)
 have ai:w.heap.size<(w.alloc (.cells #[.int .i64 0,.int .i64 0] 28)).heap.size:=ac;have S:=hide B;clear B;go_enter func18,ntmps18;go_wp2_with fail;generalize w.alloc (.cells #[.int .i64 0,.int .i64 0] 28)=w0 at*;generalize al:w.heap.size=fb at*;refine P.mono ?_;clear P;rintro e w1 ⟨pw,p,q,pc,cQ,s,nb,rfl,W,hs,m,hg,j⟩
 obtain⟨t,ab,g1⟩:=G6 (G5 W hs m j aa) ae m hs;have f:=(j.block fb ai).trans N;have ap:w1.cell? (ao fb 0)=some (ak 0):=aA f
 have y1:w1.cell? (ao fb 1)=some (ak 0):=aA f
 have z0:w1.frozen? (ao fb 0)=false:=aC f
 have aR:w1.frozen? (ao fb 1)=false:=aC f
 have ar:=lt_of_some f;have i:ay (_/\(∀b,t b->fb<b)/\_):=⟨ab,fun b c=>by obtain⟨aT,g2,g3,aV,g5,a0,a1⟩:=hg;rcases g1 b c with e|e|e|e|e|e|e<;>(rw[e];omega),S.o.trans (j.mono aa)⟩
 clear W hs m hg j ab g1 N S f;go_wp2_with fail;obtain⟨d,g⟩:∃d,d=(w1.setCell ⟨fb,0,none⟩ (.int .i64 0)).setCell ⟨fb,1,none⟩ (.int .i64 0):=⟨_,rfl⟩
 rw[<-g];have v0:d.cell? (ao fb 0)=some (ak 0):=by rw[g,a5 _ _ _ _ ac];exact a8 _ _ _ ap
 have v1:d.cell? (ao fb 1)=some (ak 0):=by rw[g];exact a8 _ _ _ ((a5 w1 ⟨fb,0,none⟩ ⟨fb,1,none⟩ _ ac).trans y1)
 have u:Fr (fun k=>k=fb) w1 d:=by rw[g];exact((Fr.refl (fun k=>k=fb) w1).set fb 0 _ rfl).set fb 1 _ rfl
 have ax:d.heap.size=w1.heap.size:=by rw[g];simp
 clear g;have j2:=(fB ⟨pw,p,q,pc,s,nb,n,o⟩).keep i.o.1 u.size (fun b c=>u.block b ((fB ⟨pw,p,q,pc,s,nb,n,o⟩).lt i.o.1 b c) (fun e=>by have x:=i.o.2.1 b c;have e:=e;omega))
 have l:=(aq d (.cells #[.int .i64 0,.int .i64 0] 28)).alloc ac (.cells #[.pointer (some ⟨pw,0,none⟩)] 49)
 have ad:=aN (d.alloc (.cells #[.int .i64 0,.int .i64 0] 28)) (.cells #[.pointer (some ⟨pw,0,none⟩)] 49)
 have aB:(d.alloc (.cells #[.int .i64 0,.int .i64 0] 28)).heap.size=w1.heap.size+1:=by simp[ax]
 rw[aB] at ad;have aF:=i.o.2.2.trans (u.below (Nat.le_of_lt ar) (fun k e=>Nat.le_of_eq (Eq.symm e)))
 refine bz (v:=.tuple #[am (w1.heap.size+1),.agg #[ak 0,ak 0]]) (by simp only [results,results18];simp[go_sem,((l.cell (p:=ao fb 0) (by show fb<_;omega)).trans v0),((l.cell (p:=ao fb 1) (by show fb<_;omega)).trans v1)]) rfl ⟨⟨pw,p,q,pc,s,nb,n,o⟩,w1.heap.size+1,fun b=>t b\/b=w1.heap.size+1,rfl,⟨t,((fB ⟨pw,p,q,pc,s,nb,n,o⟩).below j2 l),ad,fun c=>?_,fun b=>Iff.rfl⟩,⟨rfl,rfl⟩,fun b c=>?_,by rw[al];exact aF.trans (l.mono aa)⟩
 ·have:=(fB ⟨pw,p,q,pc,s,nb,n,o⟩).lt j2 _ c;omega
 ·rcases c with c|c
  ·have:=i.o.2.1 b c;omega
  ·omega
section
variable {a:Wc}{hp:Nat}{F:Nat->Prop}{S:co}{w:aw}
theorem H9 (R:Nat)(d:R<12)(n:Int)(b:vc 1 n=0):dP 1 R 0 0 n=0:=by
 have c:dv (R:Int)=true:=by unfold dv;rw[bq aa,bq aa];rfl
 have e:cU 1=1:=rfl;unfold dP;rw[e,aH ae,c,aH ac];unfold em;rw[aJ rfl,b]
theorem Az (R A B I n:Int)(w:aw)(hp:Nat):Calls prog 57 #[am hp,fz 1 R A B I n] w fun e w'=>e=.returned (.tuple #[ak (ew 1 n),ak (vc 1 n)])/\Below w.heap.size w w':=by
 have b:=aq w (cO 1 R A B I n)
 go_enter func57,ntmps57;go_wp2_with fail;refine(oD n _).mono ?_;rintro e w1 ⟨rfl,hb⟩
 go_wp2_with fail;go_ret2;exact⟨rfl,b.trans (hb.mono b.size)⟩
theorem H_ (h:(cv a hp).J F S w)(R:Nat)(l:R<12)(n:Int)(m:vc 1 n=0):
 Calls prog 20 #[am hp,fz 1 R 0 0 0 n] w fun e w'=>∃o,e=.returned (ak 0)/\(cv a hp).J o ⟨{S.s with rs:=S.s.rs.set R (ew 1 n)},S.r,S.q⟩ w'/\ce F w o w':=by
 have p:=aq w (cO 1 R 0 0 0 n)
 have x:=aN w (.cells #[.int .i64 1,.int .i64 (R:Int),.int .i64 0,.int .i64 0,.int .i64 0,.int .i64 n] 44)
 have q:=lq 1 R 0 0 0 n (w.alloc (cO 1 R 0 0 0 n))
 rw[H9 R l n m] at q;have s:=fun w=>Az R 0 0 0 n w hp;have B:ay (a.nb<w.heap.size):=(eI h).ln;rw[m] at s;have d:=iZ ((cv a hp).below h p) p x ((cv a hp).lt h)
 go_enter func20,ntmps20;go_wp2_with fail;generalize w.alloc (cO 1 R 0 0 0 n)=w0 at*;generalize N:w.heap.size=c at*;refine q.mono ?_;rintro e w1 ⟨rfl,k⟩
 have f:ay ((cv a hp).J F S w1/\Below c w w1/\w1.heap[c]?=some (cO 1 R 0 0 0 n)/\∀b,F b->b<c):=⟨(cv a hp).below d.o.1 k,d.o.2.1.trans (k.mono (by have:=lt_of_some d.o.2.2.1;omega)),(k.block c (lt_of_some d.o.2.2.1)).trans d.o.2.2.1,d.o.2.2.2⟩
 obtain⟨q0,q1,W,q3,ab,ad⟩:=fX f.o.2.2.1;go_wp2_with fail;refine(s w1).mono ?_;rintro e g ⟨rfl,i⟩
 have t:=(i.block c (lt_of_some f.o.2.2.1)).trans f.o.2.2.1;obtain⟨u0,ai,_⟩:=fX t;have j:=(cv a hp).below f.o.1 i;obtain⟨h0,c0,c3,rt,rl,lp,lw,ln⟩:=eI j;obtain⟨r1,al⟩:=rt R l;have ap:(R:Int)<12:=aa;have ar:=lt_of_some t;have nx:a.nb≠c:=by have:=B.o;omega
 obtain⟨n1,ax⟩:=Ax j;have u:ay ((cv a hp).J F S g.drew/\ce F w F g.drew):=⟨(cv a hp).below j (aE _ g).drew,((ce.of (by rw[N];exact f.o.2.1)).below i).below (aE _ g).drew⟩
 clear rt j i f q0 q1 W q3 ab ad;go_wp2_with fail
 go_region_held3 (fun w'=>w'.cell? (ao hp 0)=some (am a.pw)/\w'.cell? (ao a.pw 3)=some (.slice (an a.nb) 12 12)/\w'.cell? (ao c 1)=some (ak (R:Int))) (go_keep) (fail)
 obtain⟨ag,cA,t3⟩:=Aw u.o.1 R (ew 1 n)
 have v:=dq cA (u.o.2.trans t3)
 go_wp2_with fail;go_ret;exact⟨rfl,ag,v.o.1,v.o.2⟩
end
end Go.Proofs.YtpkjkjhanlbcoaaGreat
