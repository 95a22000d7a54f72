import Derived.Test.YtjpjpjemibgjpaaGreatJ14
namespace Go.Proofs.YtjpjpjemibgjpaaGreat
set_option maxRecDepth 100000
set_option maxHeartbeats 2000000
open Tryz
open Go.RowKit W Kp cg
theorem tF {P:Prop}(h:P:=by rw[aC,aG V];exact a6 _):P:=h
def yJ {b:Type}(o:dP b)(I:b->Prop):dP b where
 J F t w:=o.J F t w/\I t
 lt:=fun h=>o.lt h.1
 keep:=fun h hs hk=>⟨o.keep h.1 hs hk,h.2⟩
def dd {g:Type}(o:dP g)(bx:Nat)(x:Obj):dP g where
 J F t w:=∃d,o.J d t w/\w.heap[bx]?=some x/\¬d bx/\∀b,F b↔(d b\/b=bx)
 lt:=by
  rintro F t w ⟨d,h,f,_,e⟩ b c;rcases(e b).1 c with c|c
  ·exact o.lt h b c
  ·rw[c];exact lt_of_some f
 keep:=by rintro F t w w' ⟨d,h,f,i,e⟩ hs hk;exact⟨d,o.keep h hs (fun b c=>hk b ((e b).2 (aJ c))),(hk bx ((e bx).2 (aI rfl))).trans f,i,e⟩
section
variable {gM:Type}{o:dP gM}{bx p:Nat}{x:Obj}{vr:Value}{F:Nat->Prop}{w w':au}
theorem nO {t:gM×List bZ}(h:(c9 o p vr).J F t w):∃d,o.J d t.1 w/\∀c f w',o.J c f w'->b_ d w c w'->∃j,(c9 o p vr).J j (f,t.2) w'/\b_ F w j w':=by
 obtain⟨d,s,u,v,l,g,m,x,n,i,A⟩:=h;refine⟨d,v,fun c f w' q b=>?_⟩
 have lp:=lt_of_some l;refine⟨fun k=>F k\/c k,⟨c,s,u,q,(b.fr.block p lp n).trans l,cv g (fun k e=>b.fr.block k (ce g k e).2 (i k e).2),fun k h=>aI h,aJ x,fun h=>(b.sub p h).elim n (fun h=>by omega),fun k e=>⟨aJ (i k e).1,fun h=>(b.sub k h).elim (i k e).2 (fun h=>by have:=(ce g k e).2;omega)⟩,fun k h=>?_⟩,b.fr.mono m,fun k h=>?_⟩
 ·rcases h with h|h
  ·exact aM (A k h) b.fr.size
  ·exact o.lt q k h
 ·rcases h with h|h
  ·exact aJ h
  ·exact(b.sub k h).imp (m k) id
theorem jW {t:gM×List bZ}(h:(c9 o p vr).J F t w)(i:w.heap[bx]?=some x)(d:¬F bx):(c9 (dd o bx x) p vr).J (fun b=>F b\/b=bx) t w:=by obtain⟨j,m,n,q,s,u,k,l,v,f,A⟩:=h;refine⟨fun b=>j b\/b=bx,m,n,⟨j,q,i,fun c=>d (k _ c),fun b=>Iff.rfl⟩,s,u,fun b g=>g.imp (k b) id,aJ l,fun c=>c.elim v (fun e=>d (by rw[<-e];exact l)),fun b e=>⟨aJ (f b e).1,fun c=>c.elim (f b e).2 (fun B=>d (by rw[<-B];exact(f b e).1))⟩,fun b g=>g.elim (A b) (fun e=>by rw[e];exact lt_of_some i)⟩
theorem tG {t:gM×List bZ}(h:(c9 (dd o bx x) p vr).J F t w):(c9 o p vr).J F t w:=by obtain⟨v,g,i,⟨j,g1,g2,g3,d⟩,k,l,m,n,q,f,s⟩:=h;exact⟨j,g,i,g1,k,l,fun b u=>m b ((d b).2 (aJ u)),n,fun c=>q ((d p).2 (aJ c)),fun b e=>⟨(f b e).1,fun c=>(f b e).2 ((d b).2 (aJ c))⟩,s⟩
theorem tH {D:Int->Prop}{f:Nat}{b c:Array Value}{kp:gM->Int->Int×gM}(hk:oK o D f b c kp):oK (dd o bx x) D f b c kp:=by
 rintro F t w y hD ⟨m,h,e,i,g⟩
 refine(hk m t w y hD h).mono ?_;rintro r w' ⟨j,rfl,n,k,l⟩
 refine⟨fun b=>j b\/b=bx,rfl,⟨j,n,(k.block bx (lt_of_some e) i).trans e,fun c=>(l bx c).elim i (fun c=>by have:=lt_of_some e;omega),fun b=>Iff.rfl⟩,k.mono (fun b d=>(g b).2 (aJ d)),fun b d=>?_⟩
 rcases d with d|d
 ·exact(l b d).imp (fun c=>(g b).2 (aJ c)) id
 ·exact aJ ((g b).2 (aI d))
theorem lS {D:Int->Prop}{f:Nat}{b c:Array Value}{nw:gM->Int->Int}(ht:lM o D f b c nw):lM (dd o bx x) D f b c nw:=by
 rintro F t w y hD ⟨d,h,_⟩
 exact ht d t w y hD h
end
def gD (c:gb)(k:ca):dP ch:=yJ (d_ c k) (fun s=>CI k s/\ei k s)
abbrev iR (c:gb):Obj:=.cells #[aj c.pk] 140 (0,0)
abbrev jX (bx:Nat):fH:=⟨155,#[],#[aj bx]⟩
abbrev k8 (c:gb):fH:=⟨157,#[aj c.pk],#[]⟩
abbrev mO (c:gb):fH:=⟨149,#[aj c.pk],#[]⟩
abbrev mP (c:gb):fH:=⟨86,#[aj c.pk],#[]⟩
theorem yK:d3 155:=gP func155 ae rfl
theorem yL:d3 157:=gP func157 ae rfl
theorem FA:d3 149:=gP func149 ae rfl
theorem FB:d3 86:=gP func86 ae rfl
section
variable {c:gb}{k:ca}{F:Nat->Prop}{s:ch}{w:au}
theorem yM (fv:fH)(w:au)(p:Nat):
 Calls prog 85 #[aj p,fv.v] w fun e w'=>e=.returned (.agg #[(jX w.heap.size).v,fv.v,.func (.func 157) #[aj p] #[]])/\w'.heap[w.heap.size]?=some (.cells #[aj p] 140 (0,0))/\Below w.heap.size w w':=by
 obtain⟨f,b,c⟩:=fv;go_enter func85,ntmps85;go_wp2_with fail;refine bv (v:=.agg #[(jX w.heap.size).v,.func (.func f) b c,.func (.func 157) #[aj p] #[]]) (by simp[results,results85,go_sem]) rfl ⟨rfl,?_,((aD _ w).alloc bW _).alloc Z _⟩
 rw[a4 _ _ _ Z];exact aL _ _
theorem yN (bx:Nat):ks (dd (gD c k) bx (iR c)) (fun _=>True) (jX bx).f (jX bx).b (jX bx).c k.al:=by
 rintro F s w x _ ⟨d,⟨⟨cA,f,h⟩,_⟩,b,_⟩
 have P:=nN h x;have c0:w.cell? (am bx 0)=some (aj c.pk):=ay b
 have E:k.al s x=!k.ls s x:=rfl;go_enter func155,ntmps155;go_wp2_with fail;refine P.mono ?_;exact pR
theorem yO:lM (gD c k) (fun _=>True) (k8 c).f (k8 c).b (k8 c).c k.nw:=by
 rintro F s w x _ ⟨⟨cA,b,h⟩,_⟩
 exact qz h x
theorem FC:oK (gD c k) (fun _=>True) (mO c).f (mO c).b (mO c).c k.br:=by
 rintro F s w x _ ⟨⟨cA,e,h⟩,b,hB⟩
 refine(qA h b x).mono ?_;rintro r w' ⟨rfl,f,d⟩
 obtain⟨g,i,_⟩:=b.br x;exact⟨F,rfl,⟨⟨cA,e,f⟩,g,i.cb hB⟩,d.fr,d.sub⟩
end
def lenOf (w:au)(p:Nat):Nat:=match w.cell? (am p 4) with
 |some (.slice _ n _)=>n
 |_=>0
def tJ (w:au)(p:Nat):Int:=match w.cell? (am p 6) with
 |some (.int _ v)=>v
 |_=>0
def tK (c:gb)(k:ca)(w:au):Nat:=(k.N+k.O+13-qC w c.pk).toNat+lenOf w c.pk+(k.O-(tJ w c.p).toNat)
def qE:Value->Nat
 |.bool true=>1
 |_=>0
section
variable {c:gb}{k:ca}{F:Nat->Prop}{s:ch}{w:au}{vr:Value}
theorem tL (h:(d_ c k).J F s w):tK c k w=k.mu s:=by
 obtain⟨cA,g,h⟩:=h;obtain⟨_,_,c2,_,c4,_,_,_,_,_,_,er,_⟩:=eb h;obtain⟨b,_⟩:=iD h;obtain⟨i,j,e⟩:=dQ er;have d:lenOf w c.pk=s.ep.length:=by unfold lenOf;rw[c4,e]
 have f:tJ w c.p=s.g:=by unfold tJ;rw[b.cells.2.2.2.2.2.2]
 unfold tK ca.mu;rw[tE c2,d,f,Int.toNat_natCast]
theorem FD {f:Option Addr}{nr g:Nat}(i:vr=.slice f nr g){t:ch×List bZ}(h:(c9 (gD c k) c.sd vr).J F t w)(hq:t.2.length<=90000)(bx:Nat)(j:w.heap[bx]?=some (iR c))(l:¬F bx):
 Calls prog 112 #[aj c.sd,.agg #[(jX bx).v,(mO c).v,(k8 c).v]] w fun e w'=>∃d,e=.returned (.bool (k.wa t).2)/\(c9 (gD c k) c.sd vr).J d (k.wa t).1 w'/\Fr (fun b=>F b\/b=bx) w w'/\(∀b,d b->F b\/b=bx\/w.heap.size<=b):=by
 refine(yl _ (yI _ _ _) (fun _=>True) (jX bx) (mO c) (k8 c) _ _ _ (tt _ c.sd vr (fun _=>True) (jX bx) (mO c) (k8 c) k.al k.br k.nw yK FA yL (yN bx) (tH FC) (lS yO)) f nr g i _ t w hq (fun _ _=>⟨trivial,trivial⟩) (jW h j l)).mono ?_;rintro e w' ⟨d,rfl,m,n,hs⟩
 exact⟨d,rfl,tG m,n,fun b o=>(hs b o).elim (fun c=>c.elim aJ (fun c=>aI (aJ c))) (fun c=>aI (aI c))⟩
theorem yP {a0:Option Addr}{nr a1:Nat}(a2:vr=.slice a0 nr a1){t:ch×List bZ}(h:(c9 (gD c k) c.sd vr).J F t w)(hq:t.2.length<=90000):
 Calls prog 84 #[aj c.pk] w fun e w'=>∃ab,e=.returned (.tuple #[])/\(c9 (gD c k) c.sd vr).J ab (k.sp t) w'/\b_ F w ab w':=by
 have a3:∀(ad:Fn)(first ag:Array Value)(w:au),(Instr.makeFunc ad first ag).run prog w=.ok (.func ad first ag) w:=fun _ _ _ _=>rfl;go_enter func84,ntmps84;go_wp2_with fail
 go_loopw [2] (fun N wr=>∃(n:Nat)(G:Nat->Prop)(d:ch×List bZ)(b:Bool),N=.bool b/\(c9 (gD c k) c.sd vr).J G d wr/\b_ F w G wr/\av (if b=true then k.mu d.1<n/\k.cV n d=k.sp t else d=k.sp t)/\d.2.length<=90000) (fun N wr=>2*tK c k wr+qE N)
 exact⟨k.mu t.1+1,F,t,true,rfl,h,b_.refl _ _,⟨V,rfl⟩,hq⟩
 ·
   obtain⟨n,G,d,b,rfl,ai,al,ap,hq⟩:=hrel;cases b
   ·have x:=hide ap.o;go_wp2_with fail;go_end0;rw[<-x.o];exact⟨G,rfl,ai,al⟩
   ·obtain⟨bb,bd⟩:=ap.o;obtain⟨m,rfl⟩:∃m,n=m+1:=⟨n-1,V⟩
    obtain⟨b3,u,be⟩:=nO ai;have O:=tL u.1;have B:=Fy u.1 u.2.1 u.2.2;obtain⟨ar,ax,bg⟩:=u.2.1.lb u.2.2 (k.O+1)
    obtain⟨bi,j2,cy,cz⟩:=ar.kv ax;have f:av (_/\_/\(CI k (k.lb (k.O+1) d.1)/\ei k (k.lb (k.O+1) d.1))/\(CI k (k.kv (k.lb (k.O+1) d.1)).2/\ei k (k.kv (k.lb (k.O+1) d.1)).2)):=⟨al,be,⟨ar,ax⟩,⟨bi,j2⟩⟩
    have H:=jp bg cy cz bb;have x:=hide bd;go_wp2_with fail;refine B.mono ?_;rintro e w1 ⟨b4,rfl,A,C⟩
    have I:=Fz ((d_ c k).below A (aD _ w1).drew) f.o.2.2.1.1 f.o.2.2.1.2;have C:=C.below (aD _ w1).drew;obtain⟨b5,b6,A⟩:=A;obtain⟨bl,_,_,_,_,_,_,bn,_⟩:=eb A;cases hkv:(k.kv (k.lb (k.O+1) d.1)).1
    ·rw[hkv] at I;have aB:av ((if(k.wa ((k.kv (k.lb (k.O+1) d.1)).2,d.2)).2=true then k.cV m (k.wa ((k.kv (k.lb (k.O+1) d.1)).2,d.2)).1 else(k.wa ((k.kv (k.lb (k.O+1) d.1)).2,d.2)).1)=k.sp t):=by
      have:=x.o;unfold ca.cV at this
      rw[hkv] at this
      exact this
     have j:=CI.wa (s:=((k.kv (k.lb (k.O+1) d.1)).2,d.2)) f.o.2.2.2.1 f.o.2.2.2.2;have j:av ((k.wa ((k.kv (k.lb (k.O+1) d.1)).2,d.2)).1.2.length<=90000/\k.mu (k.wa ((k.kv (k.lb (k.O+1) d.1)).2,d.2)).1.1<=k.mu d.1/\((k.wa ((k.kv (k.lb (k.O+1) d.1)).2,d.2)).2=true->k.mu (k.wa ((k.kv (k.lb (k.O+1) d.1)).2,d.2)).1.1<k.mu d.1)):=by refine⟨by rw[j.2.2.1];exact hq,by have:=j.2.2.2.1;dsimp only at this;omega,fun e=>by have:=j.2.2.2.2 e;dsimp only at this;omega⟩
     generalize k.lb (k.O+1) d.1=s1 at*;generalize (k.kv s1).2=s2 at*;go_wp2_with fail
     go_region_held3 (fun w'=>w'.cell? (am c.pk 0)=some (aj c.pw)/\w'.cell? (am c.pw 2)=some (aj c.sd)) (go_keep)
      (first
        |(go_at_call 154;refine I.mono ?_;rintro e q ⟨P,rfl,l,J⟩;obtain⟨aF,hM,K⟩:=f.o.2.1 P s2 q ⟨l,f.o.2.2.2⟩ (C.trans J);obtain⟨b7,b8,l⟩:=l;obtain⟨g0,_,_,_,_,_,_,Q,_⟩:=eb l;have l0:=aK q _ g0;have bo:=aK q _ Q;have g:=dC hM (f.o.1.trans K))
        |(go_at_call 85;refine(yM (mO c) q c.pk).mono ?_;rintro e w3 ⟨rfl,bp,R⟩;have br:=(R.cell (p:=am c.pk 0) l0).trans g0;have bs:=(R.cell (p:=am c.pw 2) bo).trans Q;have D:=dC bp R)
        |(go_at_call 112;refine(FD a2 (t:=(s2,d.2)) ((c9 (gD c k) c.sd vr).below g.o.1 D.o.2) hq q.heap.size D.o.1 (fun h=>by have:=(c9 (gD c k) c.sd vr).lt g.o.1 _ h;omega)).mono ?_;rintro e bt ⟨U,rfl,aR,bx,bY⟩;have L:av (_/\b_ F w U bt):=⟨aR,⟨(g.o.2.below D.o.2).fr.trans bx (fun b W=>W.elim (g.o.2.sub b) (fun e=>aI (by have:=g.o.2.fr.size;omega))),fun b W=>(bY b W).elim (g.o.2.sub b) (fun h=>aI (by have o:=g.o.2.fr.size;have X:=D.o.2.size;omega))⟩⟩;obtain⟨b9,⟨⟨b0,b1,aT⟩,_⟩,_⟩:=nO aR;have M:=tL ⟨b0,b1,aT⟩;obtain⟨r0,_,_,_,_,_,_,b2,_⟩:=eb aT))
     clear r0 b2 g0 Q br bs bl bn f g D x a3 C;cases hbw:(k.wa (s2,d.2)).2
     ·have E:av (if false=true then k.mu (k.wa (s2,d.2)).1.1<m/\k.cV m (k.wa (s2,d.2)).1=k.sp t else(k.wa (s2,d.2)).1=k.sp t):=by
       have:=aB.o;rw[hbw] at this
       exact this
      go_wp2_with fail;go_roundw;exact⟨m,U,(k.wa (s2,d.2)).1,false,rfl,L.o.1,L.o.2,E,j.o.1⟩
      ·have:=j.o.2.1;rw[M,O];simp[qE];omega
     ·have E:av (if true=true then k.mu (k.wa (s2,d.2)).1.1<m/\k.cV m (k.wa (s2,d.2)).1=k.sp t else(k.wa (s2,d.2)).1=k.sp t):=by have o:=aB.o;rw[hbw] at o;have X:=j.o.2.2 hbw;have aV:=H.o.2.2.2;exact⟨V,o⟩
      have X:=j.o.2.2 hbw;go_wp2_with fail;go_roundw;exact⟨m,U,(k.wa (s2,d.2)).1,true,rfl,L.o.1,L.o.2,E,j.o.1⟩
      ·rw[M,O];simp[qE];omega
    ·rw[hkv] at I;have X:k.mu (k.kv (k.lb (k.O+1) d.1)).2<k.mu d.1:=by have o:=H.o.1;have aV:=H.o.2.2.1 hkv;omega
     have E:av (if true=true then k.mu (k.kv (k.lb (k.O+1) d.1)).2<m/\k.cV m ((k.kv (k.lb (k.O+1) d.1)).2,d.2)=k.sp t else((k.kv (k.lb (k.O+1) d.1)).2,d.2)=k.sp t):=by have o:=x.o;unfold ca.cV at o;rw[hkv] at o;have aV:=H.o.2.2.2;exact⟨V,o⟩
     generalize k.lb (k.O+1) d.1=s1 at*;generalize (k.kv s1).2=s2 at*;clear A;go_wp2_with fail;refine wp_region_noPanic ?_;refine wp_region_any ae ?_;refine qg (T:=fun _=>True) (S:=fun _=>True) (St:=[]) _ _ _ _ ?_;refine et (i:=0) (v:=?_) rfl ae ae ae ae (fun _ _ _ h=>h) (aJ ⟨ac,?_⟩) trivial (aI trivial) ?_
     rotate_left
     ·intro w Y;go_simp
      try rfl
     try simp only [Act.put,List.getElem_toArray,List.getElem_cons_zero,List.setIfInBounds_toArray,List.set_cons_zero,List.set_cons_succ]
     refine mK (i:=1) ae ?_;refine xF rfl ac ?_;simp only [List.getElem_toArray,List.getElem_cons_succ,List.getElem_cons_zero];go_simp;refine I.mono ?_;rintro e q ⟨P,rfl,l,J⟩
     obtain⟨aF,hM,K⟩:=f.o.2.1 P s2 q ⟨l,f.o.2.2.2⟩ (C.trans J)
     have M:=tL l;have g:=dC hM (f.o.1.trans K)
     clear l J hM K;refine et (i:=2) (v:=?_) rfl ae ae ae ae (fun _ _ _ h=>h) (aJ ⟨ac,?_⟩) trivial (aI trivial) ?_
     rotate_left
     ·intro w Y;go_simp
      try rfl
     refine et (i:=3) (v:=undef) rfl ae ae ae ae (fun _ _ _ h=>h) (aI ⟨ac,rfl⟩) trivial (aI trivial) ?_;refine et (i:=4) (v:=undef) rfl ae ae ae ae (fun _ _ _ h=>h) (aI ⟨ac,rfl⟩) trivial (aI trivial) ?_;refine et (i:=5) (v:=undef) rfl ae ae ae ae (fun _ _ _ h=>h) (aI ⟨ac,rfl⟩) trivial (aI trivial) ?_;refine et (i:=6) (v:=undef) rfl ae ae ae ae (fun _ _ _ h=>h) (aI ⟨ac,rfl⟩) trivial (aI trivial) ?_
     try simp only [Act.put,List.getElem_toArray,List.getElem_cons_succ,List.getElem_cons_zero,List.setIfInBounds_toArray,List.set_cons_zero,List.set_cons_succ]
     refine et (i:=7) (v:=undef) rfl ae ae ae ae (fun _ _ _ h=>h) (aI ⟨ac,rfl⟩) trivial (aI trivial) ?_;refine et (i:=8) (v:=undef) rfl ae ae ae ae (fun _ _ _ h=>h) (aI ⟨ac,rfl⟩) trivial (aI trivial) ?_;refine et (i:=9) (v:=undef) rfl ae ae ae ae (fun _ _ _ h=>h) (aI ⟨ac,rfl⟩) trivial (aI trivial) ?_;refine et (i:=10) (v:=undef) rfl ae ae ae ae (fun _ _ _ h=>h) (aI ⟨ac,rfl⟩) trivial (aI trivial) ?_;refine et (i:=11) (v:=undef) rfl ae ae ae ae (fun _ _ _ h=>h) (aI ⟨ac,rfl⟩) trivial (aI trivial) ?_
     try simp only [Act.put,List.getElem_toArray,List.getElem_cons_succ,List.getElem_cons_zero,List.setIfInBounds_toArray,List.set_cons_zero,List.set_cons_succ]
     refine et (i:=12) (v:=undef) rfl ae ae ae ae (fun _ _ _ h=>h) (aI ⟨ac,rfl⟩) trivial (aI trivial) ?_;refine et (i:=13) (v:=undef) rfl ae ae ae ae (fun _ _ _ h=>h) (aI ⟨ac,rfl⟩) trivial (aI trivial) ?_
     try simp only [Act.put,List.getElem_toArray,List.getElem_cons_succ,List.getElem_cons_zero,List.setIfInBounds_toArray,List.set_cons_zero,List.set_cons_succ]
     refine et (i:=14) (v:=undef) rfl ae ae ae ae (fun _ _ _ h=>h) (aI ⟨ac,rfl⟩) trivial (aI trivial) ?_;refine et (i:=15) (v:=?_) rfl ae ae ae ae (fun _ _ _ h=>h) (aJ ⟨ac,?_⟩) trivial (aI trivial) ?_
     rotate_left
     ·intro w Y;go_simp
      try rfl
     refine et (i:=16) (v:=?_) rfl ae ae ae ae (fun _ _ _ h=>h) (aJ ⟨ac,?_⟩) trivial (aI trivial) ?_
     rotate_left
     ·intro w Y;go_simp
      try rfl
     try simp only [Act.put,List.getElem_toArray,List.getElem_cons_succ,List.getElem_cons_zero,List.setIfInBounds_toArray,List.set_cons_zero,List.set_cons_succ]
     refine sT ae ?_ _;refine NoPanic.normal ?_;go_wp2_with fail;go_roundw;exact⟨m,aF,(s2,d.2),true,rfl,g.o.1,g.o.2,E,hq⟩
     ·rw[M,O];simp[qE];omega
theorem FE {j:Option Addr}{nr l:Nat}(m:vr=.slice j nr l){t:ch×List bZ}(h:(c9 (gD c k) c.sd vr).J F t w)(hq:t.2.length<=90000)(x:Int):
 Calls prog 86 #[aj c.pk,ah x] w fun e w'=>∃b,e=.returned (ah (k.ke t x).1)/\(c9 (gD c k) c.sd vr).J b (k.ke t x).2 w'/\b_ F w b w':=by
 obtain⟨n,⟨⟨cA,o,p⟩,d,hB⟩,q⟩:=nO h;obtain⟨s,u,_⟩:=d.br x;have f:=ir q s (u.cb hB)
 have E:av ((k.ke t x).1=(k.br t.1 x).1/\(k.ke t x).2=k.sp ((k.br t.1 x).2,t.2)):=⟨rfl,rfl⟩
 go_enter func86,ntmps86;go_wp2_with fail;refine(qA p d x).mono ?_;rintro e w1 ⟨rfl,v,A⟩
 obtain⟨H,hM,B⟩:=f.o.1 n _ w1 ⟨⟨cA,o,v⟩,f.o.2⟩ A;have g:=dC hM B;go_wp2_with fail;refine(yP m g.o.1 hq).mono ?_;rintro e I ⟨C,rfl,D,G⟩
 have i:=dC D (g.o.2.trans G)
 go_wp2_with fail;go_ret;exact⟨C,rfl,i.o.1,i.o.2⟩
end
def iS {b:Type}(fd:b->Int->Int)(st:b->Int->b)(e:Int)(t:b)(a:Int):b:=if a+fd t a<e then st t a else t
def jY {b:Type}(fd:b->Int->Int)(st:b->Int->b)(e:Int)(t:b)(l:List Int):b:=l.foldl (iS fd st e) t
theorem yQ {i:Type}(o:dP i)(fd:i->Int->Int)(st:i->Int->i)(G:Nat->i->Prop)(pk pw p f:Nat)(I:Array Value)(J:d3 f)(l:List Int)(C:Option Addr)(X:Nat)(e:Int)(F:Nat->Prop)(t:i)(w:au)
 (K:∀F t w a,o.J F t w->w.cell? (am pk 0)=some (aj pw)/\w.cell? (am pw 0)=some (aj p)/\Calls prog 77 #[aj p,ah a] w fun r w'=>∃x z,r=.returned (.tuple #[ah x,ah (fd t a),ah z])/\Below w.heap.size w w')
 (M:∀t a,0<=fd t a/\fd t a<=12)(N:∀a∈l,0<=a/\a<=100000)(aV:l.length<=100000)
 (O:∀j F t w,j<l.length->G j t->o.J F t w->l.getD j 0+fd t (l.getD j 0)<e->Calls prog f (#[ah (l.getD j 0)]++I) w fun r w'=>∃g,r=.returned (.tuple #[])/\o.J g (st t (l.getD j 0)) w'/\b_ F w g w')
 (P:∀j t,j<l.length->G j t->G (j+1) (iS fd st e t (l.getD j 0)))(h0:G 0 t)(k:o.J F t w)(D:iF w C l)(Q:0<l.length->∀z,C=some z->¬F z.block):
 Calls prog 147 #[aj pk,.slice C l.length X,ah e,.func (.func f) #[] I] w fun r w'=>∃g,r=.returned (.tuple #[])/\o.J g (jY fd st e t l) w'/\b_ F w g w'/\G l.length (jY fd st e t l):=by
 have Y:av (∀F t w a,o.J F t w->_):=K;have ab:av (∀j F t w,j<l.length->G j t->o.J F t w->l.getD j 0+fd t (l.getD j 0)<e->_):=O;have ad:av (∀j t,j<l.length->G j t->_):=P;have ag:av (∀g w',b_ F w g w'->_):=fun g w' n=>D.keep n.fr.size (fun hp z e=>n.fr.block _ (by obtain⟨b,a0,R,ai,_⟩:=D hp;rw[e] at R;cases R;exact ai) (Q hp z e))
 have al:av (_):=N;have ap:av (∀t a,_):=M;have a1:∀(args:Array Value)(w:au),_=_:=J;clear K O P D Q N M J;go_enter func147,ntmps147;go_wp2_with fail
 go_loopw [15] (fun iv wr=>∃(j:Nat)(d:Nat->Prop)(c:i),j<=l.length/\iv=ah j/\av (jY fd st e t (l.take j)=c)/\av (G j c)/\o.J d c wr/\b_ F w d wr) (fun iv _=>l.length-(intOf iv).toNat)
 case atStart=>exact⟨0,F,t,aS _,rfl,rfl,h0,k,b_.refl _ _⟩
 case round=>
  clear h0 k;obtain⟨j,d,c,a2,rfl,E,H,k,n⟩:=hrel;by_cases q:j<l.length
  ·obtain⟨a3,bb,ar,bd,hc⟩:=ag.o d wr n V;have be:=hc j q;subst ar;have S:l.getD j 0∈l:=by rw[aC,aG q];exact a6 q
   have bg:=al.o _ S;have U:av (jY fd st e t (l.take (j+1))=iS fd st e c (l.getD j 0)):=by
    show _=_;rw[fz l j q 0];unfold jY;rw[List.foldl_append];have:=E.o;unfold jY at this
    rw[this];rfl
   have W:av (_):=ad.o j c q H.o;have s:=fun w h=>ab.o j d c w q H.o h;obtain⟨bi,bl,L⟩:=Y.o d c wr (l.getD j 0) k;have bn:=ap.o c (l.getD j 0)
   have B:=dC k n;have s:av (∀w,o.J d c w->l.getD j 0+fd c (l.getD j 0)<e->_):=s;clear hc S k n;by_cases hw:l.getD j 0+fd c (l.getD j 0)<e
   ·have u:av (iS fd st e c (l.getD j 0)=st c (l.getD j 0)):=by show _=_;unfold iS;rw[aH hw]
    have ax:av (∀w,o.J d c w->_):=fun w h=>s.o w h hw;clear s;generalize l.getD j 0=a at*;generalize fd c a=m at*;generalize st c a=aB at*;go_wp2_with fail;refine L.mono ?_;rintro r w1 ⟨x,z,rfl,v⟩
    go_wp2_with fail;refine(ax.o w1 (o.below B.o.1 v)).mono ?_;rintro r bo ⟨aF,rfl,aR,aT⟩
    have A:=dC aR ((B.o.2.below v).trans aT)
    go_wp2_with fail;go_roundw;exact⟨j+1,aF,aB,V,af,by show _=_;rw[U.o,u.o],by show G _ _;rw[<-u.o];exact W.o,A.o.1,A.o.2⟩
    simp[intOf];omega
   ·have u:av (iS fd st e c (l.getD j 0)=c):=by show _=_;unfold iS;rw[aE hw]
    clear s;generalize l.getD j 0=a at*;generalize fd c a=m at*;go_wp2_with fail;refine L.mono ?_;rintro r w1 ⟨x,z,rfl,v⟩
    have A:=dC (o.below B.o.1 v) (B.o.2.below v)
    go_wp2_with fail;go_roundw;exact⟨j+1,d,c,V,af,by show _=_;rw[U.o,u.o],by show G _ _;rw[<-u.o];exact W.o,A.o.1,A.o.2⟩
    simp[intOf];omega
  ·obtain rfl:j=l.length:=V;rw[a_] at E;go_wp2_with fail;go_end0;rw[E.o];exact⟨d,rfl,k,n,H.o⟩
section
variable {c:gb}{k:ca}{F:Nat->Prop}{s:ch}{w:au}
def ca.md (k:ca)(c:gb)(s:ch)(a:Int):ch:=if(fQ k.N c.c a&&c.M.contains (cN k.N a))=true then k.lk s a else s
theorem ca.FF (k:ca)(c:gb)(s:ch)(l:List Int):k.lm c.c c.M s l=jY (fun s a=>pf (k.ld s a)) (k.md c) s.nx s l:=rfl
theorem CI.md (h:CI k s)(c:gb){a:Int}(ha:(k.N:Int)<=a)(b:a<=2000):CI k (k.md c s a)/\Cl k s (k.md c s a):=by
 unfold ca.md;split
 ·exact h.lk ha b
 ·exact⟨h,Cl.of (eB.refl _ _)⟩
theorem FG:d3 150:=gP func150 ae rfl
theorem FH (bx:Nat)(h:(dd (d_ c k) bx (iR c)).J F s w)(u:CI k s)(a:Int)(a0:(k.N:Int)<=a)(a1:a<=2000)(v:s.wk.length<=10000)(x:s.ep.length<=10000):
 Calls prog 150 #[ah a,aj bx] w fun e w'=>∃m,e=.returned (.tuple #[])/\(dd (d_ c k) bx (iR c)).J m (k.md c s a) w'/\b_ F w m w':=by
 have n:=hide h;have A:=hide u;obtain⟨K,⟨cA,M,h0⟩,o,N,O⟩:=h;have B:w.cell? (am bx 0)=some (aj c.pk):=ay o
 have C:=lt_of_some o;obtain⟨c0,_,_,_,_,_,P,_,_,_,_,_,G,_,_⟩:=eb h0;have D:=CA a w G V V V;cases hd:(fQ k.N c.c a&&c.M.contains (cN k.N a))
 ·have E:k.md c s a=s:=by unfold ca.md;rw[hd];rfl
  rw[E];rw[hd] at D;go_enter func150,ntmps150;go_wp2_with fail;refine D.mono ?_;rintro e w1 ⟨rfl,d⟩
  go_wp2;go_end0;exact⟨F,rfl,(dd (d_ c k) bx (iR c)).below n.o d,b_.of d⟩
 ·have E:k.md c s a=k.lk s a:=by unfold ca.md;rw[aH hd]
  rw[E];rw[hd] at D;go_enter func150,ntmps150;go_wp2_with fail;refine D.mono ?_;rintro e w1 ⟨rfl,d⟩
  have Q:=(d.cell (p:=am bx 0) C).trans B;have H:=(dd (d_ c k) bx (iR c)).below n.o d;obtain⟨R,g1,g2,g3,i⟩:=H;have L:=yG g1 A.o a a0 a1 v x;have I:=jp g2 g3 i d;go_wp2_with fail;refine L.mono ?_;rintro e q ⟨l,rfl,J,j⟩
  have t:av ((dd (d_ c k) bx (iR c)).J (fun b=>l b\/b=bx) (k.lk s a) q/\b_ F w (fun b=>l b\/b=bx) q):=by
   obtain⟨g2,g3,i,d⟩:=I.o;refine⟨⟨l,J,(j.fr.block bx (lt_of_some g2) g3).trans g2,fun f=>(j.sub bx f).elim g3 (fun f=>by have:=lt_of_some g2;omega),fun b=>Iff.rfl⟩,⟨(Fr.of (X:=F) d).trans (j.fr.mono (fun b g=>(i b).2 (aJ g))) (fun _ f=>aJ f),fun b g=>?_⟩⟩
   rcases g with g|g
   ·exact(j.sub b g).elim (fun f=>aJ ((i b).2 (aJ f))) (fun f=>aI (by have:=d.size;omega))
   ·exact aJ ((i b).2 (aI g))
  go_wp2;go_end0;exact⟨_,rfl,t.o.1,t.o.2⟩
theorem FI (h:(d_ c k).J F s w)(m:CI k s)(K:s.wk=[])(L:s.ep=[]):
 Calls prog 83 #[aj c.pk] w fun e w'=>∃M,e=.returned (.tuple #[])/\(d_ c k).J M (k.lm c.c c.M s (dw k.N k.y s.g s.ws)) w'/\b_ F w M w'/\CI k (k.lm c.c c.M s (dw k.N k.y s.g s.ws))/\ei k (k.lm c.c c.M s (dw k.N k.y s.g s.ws))/\(k.lm c.c c.M s (dw k.N k.y s.g s.ws)).nx=s.nx:=by
 have N:=hide h;have u:=ir m K L;have n1:=m.hN';have a2:=m.hO;have a3:=m.hg;have v:=an w (iR c)
 have Y:=(d_ c k).below h v;obtain⟨cA,x,h0⟩:=Y;obtain⟨c0,_,c2,_,_,c5,_⟩:=eb h0;obtain⟨p,_⟩:=iD h0;have P:=p3 _ p;have ab:=hide v;clear h m h0 p v K L;go_enter func83,ntmps83;go_wp2_with fail;refine P.mono ?_;clear P;rintro e w1 ⟨v1,v2,rfl,ad,q,O⟩
 obtain⟨bb,bd,rfl⟩:=dQ ad;obtain⟨ag,ai,rfl⟩:=dQ q;have f:=ab.o.trans (O.mono Z)
 have al:=(d_ c k).below N.o f;have Q:w1.heap[w.heap.size]?=some (iR c):=(O.block _ Z).trans (aL _ _)
 have be:w1.cell? (am w.heap.size 0)=some (aj c.pk):=ay Q
 obtain⟨cA,x,A⟩:=al;obtain⟨bg,_,bi,_,_,bl,_⟩:=eb A;have bn:(dw k.N k.y s.g s.ws).length<=2000:=iz _ _;have B:∀a∈dw k.N k.y s.g s.ws,(k.N:Int)<=a/\a<=2000:=fun a ha=>by have:=oA a ha;omega
 have C:∀b,F b->_:=(d_ c k).lt N.o;have ap:(dd (d_ c k) w.heap.size (iR c)).J (fun b=>F b\/b=w.heap.size) s w1:=⟨F,⟨cA,x,A⟩,Q,fun d=>by have:=C _ d;omega,fun b=>Iff.rfl⟩
 have ar:=(dd (d_ c k) w.heap.size (iR c)).below ap (aD _ w1).drew;have E:=yQ (dd (d_ c k) w.heap.size (iR c)) (fun s a=>pf (k.ld s a)) (k.md c) (fun j s1=>CI k s1/\s1.wk.length<=j/\s1.ep.length<=j/\s1.nx=s.nx) c.pk c.pw c.p 150 #[aj w.heap.size] FG (dw k.N k.y s.g s.ws) ag ai s.nx (fun b=>F b\/b=w.heap.size) s w1.drew
  (by
    rintro F t R a ⟨bo,⟨cA,x,g1⟩,_⟩
    obtain⟨c0,_,_,_,_,c5,_⟩:=eb g1;obtain⟨p,_⟩:=iD g1;refine⟨c0,c5,(fY a R p).mono ?_⟩
    rintro r w' ⟨rfl,f⟩
    exact⟨_,_,rfl,f⟩)
  (fun t a=>di _) (fun a ha=>by have:=B a ha;omega) V
  (by
    rintro j F t R n ⟨g1,g2,g3,l⟩ ax _;have hm:(dw k.N k.y s.g s.ws).getD j 0∈dw k.N k.y s.g s.ws:=by rw[aC,aG n];exact a6 n
    have:=B _ hm;exact FH w.heap.size ax g1 _ this.1 this.2 V V)
  (by
    rintro j t n ⟨g1,g2,g3,l⟩
    have hm:(dw k.N k.y s.g s.ws).getD j 0∈dw k.N k.y s.g s.ws:=by rw[aC,aG n];exact a6 n
    have f:=B _ hm;unfold iS;split
    ·obtain⟨g,i⟩:=g1.md c f.1 f.2;have:=i.wk;have:=i.ep;exact⟨g,V,V,i.nx.trans l⟩
    ·exact⟨g1,V,V,l⟩)
  ⟨u.o.1,by rw[u.o.2.1];simp,by rw[u.o.2.2];simp,rfl⟩ ar ((gO q).below (aD _ w1).drew)
  (fun hp z e=>by
    obtain⟨b,bp,aB⟩:=dW q hp;cases aB;cases e;have aF:=(ce q b rfl).1;simp at aF;rintro(d|d)
    ·have d:F b:=d;have:=C b d;omega
    ·have d:b=w.heap.size:=d;omega)
 rw[<-ca.FF] at E;have S:=dC C f;obtain⟨s2,U⟩:∃s2,k.lm c.c c.M s (dw k.N k.y s.g s.ws)=s2:=⟨_,rfl⟩
 rw[U] at E;have aR:=hide U;go_wp2_with fail
 go_region_held3 (fun w'=>w'.cell? (am w.heap.size 0)=some (aj c.pk)/\w'.cell? (am c.pk 2)=some (ah s.nx)) (go_keep)
  (first
    |(go_at_call 147;refine E.mono ?_;clear E;rintro e w3 ⟨br,rfl,⟨D,g1,g2,g3,l⟩,G,g,i,H,o⟩;obtain⟨aT,aV,I⟩:=g1;obtain⟨_,_,a0,_⟩:=eb I;have g1:(d_ c k).J D s2 w3:=⟨aT,aV,I⟩;rw[o] at a0;have a1:=jp g i H o;clear I g i H o;have bs:w3.cell? (am w.heap.size 0)=some (aj c.pk):=ay g2;have W:av (_/\b_ F w D w3):=⟨g1,⟨((Fr.of (X:=F) S.o.2).drew).trans G.fr (fun b d=>d.imp id (fun d=>by omega)),fun b d=>(G.sub b ((l b).2 (aJ d))).elim (fun d=>d.imp id (fun d=>by omega)) (fun d=>aI (by have:=S.o.2.size;simp at d;omega))⟩⟩;clear g1 g2 g3 l G))
 have J:av (CI k s2/\ei k s2/\s2.nx=s.nx):=by obtain⟨g,i,H,o⟩:=a1.o;have A:=g.gT;exact⟨g,⟨V,V⟩,o⟩
 go_wp2_with fail;go_end0;rw[aR.o];exact⟨D,rfl,W.o.1,W.o.2,J.o.1,J.o.2.1,J.o.2.2⟩
end
structure Wc where
 pw:Nat
 p:Nat
 q:Nat
 pc:Nat
 sd:Nat
 nb:Nat
 N:Nat
 O:Nat
structure ec where
 y:Nat
 g:Nat
 ws:List Int
 M:List Int
 rs:List Int
structure o4 (a:Wc)(own:Nat->Nat)(s:ec)(cM:Nat)(w:au):Prop where
 ar:At w a.p a.q a.N a.O s.y s.g s.ws
 a1:own a.p=1
 a2:own a.q=1
 cd:Cd w a.pc cM a.N (dU a.O) s.M
 c1:own a.pc=2
 c2:own cM=2
 wd:w.heap[a.pw]?=some (.cells #[aj a.p,aj a.pc,aj a.sd,.slice (ak a.nb) 12 12] 55 (0,0))
 w1:own a.pw=3
 rt:w.heap[a.nb]?=some (.cells (s.rs.map (Value.int .i64)).toArray 2 (0,0))
 rl:s.rs.length=12
 r1:own a.nb=4
 le:∀b,own b<=4
 lt:∀b,own b≠0->b<w.heap.size
theorem o4.keep {a:Wc}{own:Nat->Nat}{s:ec}{cM:Nat}{w w':au}(h:o4 a own s cM w)(hs:w.heap.size<=w'.heap.size)(hk:∀b,own b≠0->w'.heap[b]?=w.heap[b]?):o4 a own s cM w':=
 {
  ar:=h.ar.same (hk _ (by rw[h.a1];decide)) (hk _ (by rw[h.a2];decide)),a1:=h.a1,a2:=h.a2
  cd:=h.cd.same (hk _ (by rw[h.c1];decide)) (hk _ (by rw[h.c2];decide)),c1:=h.c1,c2:=h.c2
  wd:=(hk _ (by rw[h.w1];decide)).trans h.wd,w1:=h.w1
  rt:=(hk _ (by rw[h.r1];decide)).trans h.rt,rl:=h.rl,r1:=h.r1,le:=h.le,lt:=fun b c=>aM (h.lt b c) hs}
def dY (a:Wc):dP ec where
 J F s w:=∃own cM,o4 a own s cM w/\∀b,F b↔own b≠0
 lt:=by rintro F s w ⟨own,cM,h,c⟩ b d;exact h.lt b ((c b).1 d)
 keep:=by rintro F s w w' ⟨own,cM,h,c⟩ hs hk;exact⟨own,cM,h.keep hs (fun b d=>hk b ((c b).2 d)),c⟩
section
variable {a:Wc}{F:Nat->Prop}{s:ec}{w:au}
theorem jZ (h:(dY a).J F s w):At w a.p a.q a.N a.O s.y s.g s.ws/\∀w' y g ws,At w' a.p a.q a.N a.O y g ws->c7 a.p a.q w w'->(dY a).J F {s with y:=y,g:=g,ws:=ws} w'/\b_ F w F w':=by
 obtain⟨own,cM,h,i⟩:=h;refine⟨h.ar,fun w' y g ws ha d=>⟨⟨own,cM,?_,i⟩,⟨⟨d.os,d.tape,d.output,d.size,fun b c f=>d.block b c (fun e=>f ((i b).2 (by rw[e,h.a1];decide))) (fun e=>f ((i b).2 (by rw[e,h.a2];decide)))⟩,fun _ h=>aJ h⟩⟩⟩
 have c:∀b,b<w.heap.size->own b≠1->_=_:=fun b c f=>d.block b c (fun e=>f (by rw[e];exact h.a1)) (fun e=>f (by rw[e];exact h.a2))
 exact {
  ar:=ha,a1:=h.a1,a2:=h.a2,c1:=h.c1,c2:=h.c2,w1:=h.w1,rl:=h.rl,r1:=h.r1,le:=h.le,lt:=fun b c=>aM (h.lt b c) d.size
  cd:=h.cd.same (c _ h.cd.eJ (by rw[h.c1];decide)) (c _ h.cd.eK (by rw[h.c2];decide))
  wd:=(c _ (lt_of_some h.wd) (by rw[h.w1];decide)).trans h.wd
  rt:=(c _ (lt_of_some h.rt) (by rw[h.r1];decide)).trans h.rt}
theorem yR (h:(dY a).J F s w)(i:Nat)(x:Int):(dY a).J F {s with rs:=s.rs.set i x} (w.setCell ⟨a.nb,i,none⟩ (.int .i64 x))/\b_ F w F (w.setCell ⟨a.nb,i,none⟩ (.int .i64 x)):=by
 obtain⟨own,cM,h,d⟩:=h;have fr:Fr (fun b=>b=a.nb) w (w.setCell ⟨a.nb,i,none⟩ (.int .i64 x)):=(Fr.refl _ w).set _ i _ rfl;refine⟨⟨own,cM,?_,d⟩,⟨fr.mono (fun b e=>(d b).2 (by rw[e,h.r1];decide)),fun _ h=>aJ h⟩⟩
 have c:∀b,b<w.heap.size->own b≠4->_=_:=fun b c f=>fr.block b c (fun e=>f (by rw[e];exact h.r1))
 exact {
  a1:=h.a1,a2:=h.a2,c1:=h.c1,c2:=h.c2,w1:=h.w1,r1:=h.r1,le:=h.le,lt:=fun b c=>aM (h.lt b c) fr.size
  rl:=by rw[aX];exact h.rl
  ar:=h.ar.same (c _ h.ar.eJ (by rw[h.a1];decide)) (c _ h.ar.eK (by rw[h.a2];decide))
  cd:=h.cd.same (c _ h.cd.eJ (by rw[h.c1];decide)) (c _ h.cd.eK (by rw[h.c2];decide))
  wd:=(c _ (lt_of_some h.wd) (by rw[h.w1];decide)).trans h.wd
  rt:=by simp only [World.setCell,Array.getElem?_modify,if_true,h.rt,Option.map_some];simp[List.map_set]}
theorem yS (h:(dY a).J F s w):∃cM,Cd w a.pc cM a.N (dU a.O) s.M/\∀w' f M,Cd w' a.pc f a.N (dU a.O) M->c7 a.pc cM w w'->(f=cM\/w.heap.size<=f)->∃n,(dY a).J n {s with M:=M} w'/\b_ F w n w':=by
 obtain⟨own,cM,h,l⟩:=h;refine⟨cM,h.cd,fun w' f M hc g hp=>⟨fun b=>F b\/b=f,⟨fun b=>if b=f then 2 else own b,f,?_,fun b=>?_⟩,⟨⟨g.os,g.tape,g.output,g.size,fun b d i=>g.block b d (fun e=>i ((l b).2 (by rw[e,h.c1];decide))) (fun e=>i ((l b).2 (by rw[e,h.c2];decide)))⟩,fun b d=>d.elim aJ (fun e=>hp.imp (fun k=>(l b).2 (by rw[e,k,h.c2];decide)) (fun k=>by omega))⟩⟩⟩
 ·have d:∀b,b<w.heap.size->own b≠2->_=_:=fun b d i=>g.block b d (fun e=>i (by rw[e];exact h.c1)) (fun e=>i (by rw[e];exact h.c2))
  have m:∀b j,own b=j->j≠0->j≠2->(if b=f then 2 else own b)=j:=fun b j e h0 o=>by
   rw[aE (fun c=>?_)]
   ·exact e
   ·rcases hp with k|k
    ·rw[c,k,h.c2] at e;omega
    ·have:=h.lt b (by rw[e];exact h0)
     omega
  exact {
   cd:=hc,a1:=m _ _ h.a1 aa aa,a2:=m _ _ h.a2 aa aa,w1:=m _ _ h.w1 aa aa,r1:=m _ _ h.r1 aa aa,c2:=by rw[aH rfl],c1:=by
    split
    ·rfl
    ·exact h.c1
   rl:=h.rl
   ar:=h.ar.same (d _ h.ar.eJ (by rw[h.a1];decide)) (d _ h.ar.eK (by rw[h.a2];decide))
   wd:=(d _ (lt_of_some h.wd) (by rw[h.w1];decide)).trans h.wd
   rt:=(d _ (lt_of_some h.rt) (by rw[h.r1];decide)).trans h.rt
   le:=fun b=>by
    split
    ·decide
    ·exact h.le b
   lt:=fun b d=>by
    by_cases e:b=f
    ·rw[e];exact hc.eK
    ·rw[aE e] at d;exact aM (h.lt b d) g.size}
 ·by_cases e:b=f
  ·simp[e]
  ·simp[e,l b]
theorem jh (h:(dY a).J F s w):w.cell? (am a.pw 0)=some (aj a.p)/\w.cell? (am a.pw 1)=some (aj a.pc)/\w.cell? (am a.pw 2)=some (aj a.sd)/\w.cell? (am a.pw 3)=some (.slice (ak a.nb) 12 12)/\a.pw<w.heap.size/\s.rs.length=12/\a.nb<w.heap.size/\∀i,i<12->w.cell? (am a.nb i)=some (ah (s.rs.getD i 0))/\w.frozen? (am a.nb i)=false:=by
 obtain⟨own,cM,h,c⟩:=h;have b:=h.wd;have hl:=h.rl;refine⟨by simp[World.cell?,b],by simp[World.cell?,b],by simp[World.cell?,b],by simp[World.cell?,b],lt_of_some b,hl,lt_of_some h.rt,fun i hi=>⟨?_,?_⟩⟩
 ·simp[World.cell?,h.rt,List.getElem?_map,List.getElem?_eq_getElem (show i<s.rs.length by omega),List.getD_eq_getElem?_getD]
 ·simp[World.frozen?,h.rt]
end
abbrev FJ (a:Wc):Obj:=.cells #[aj a.p,aj a.pc,aj a.sd,.slice (ak a.nb) 12 12] 55 (0,0)
def qF (pk co bx:Nat)(nx:Int)(a:Wc)(y g:Nat)(ws:List Int):dP (List Int) where
 J F U w:=(w.heap[pk]?=some (.cells #[aj a.pw,.map (some co),ah nx,.slice none 0 0,.slice none 0 0] 143 (0,0))/\Mp w co U (fun _=>-1)/\At w a.p a.q a.N a.O y g ws/\w.heap[a.pw]?=some (FJ a)/\w.heap[bx]?=some (.cells #[aj pk] 140 (0,0)))/\(co≠pk/\co≠a.pw/\co≠a.p/\co≠a.q/\co≠bx)/\∀b,F b↔(b=pk\/b=co\/b=a.pw\/b=a.p\/b=a.q\/b=bx)
 lt:=by
  rintro F U w ⟨⟨e,f,d,i,j⟩,_,c⟩ b k;rcases(c b).1 k with rfl|rfl|rfl|rfl|rfl|rfl
  ·exact lt_of_some e
  ·exact f.lt
  ·exact lt_of_some i
  ·exact d.eJ
  ·exact d.eK
  ·exact lt_of_some j
 keep:=by rintro F U w w' ⟨⟨e,f,d,i,j⟩,l,c⟩ hs hk;exact⟨⟨(hk _ ((c _).2 (aJ rfl))).trans e,f.same (hk _ ((c _).2 (aI (aJ rfl)))),d.same (hk _ ((c _).2 (aI (aI (aI (aJ rfl)))))) (hk _ ((c _).2 (aI (aI (aI (aI (aJ rfl))))))),(hk _ ((c _).2 (aI (aI (aJ rfl))))).trans i,(hk _ ((c _).2 (aI (aI (aI (aI (aI rfl))))))).trans j⟩,l,c⟩
theorem FK:d3 148:=gP func148 ae rfl
theorem FL {pk co bx:Nat}{nx:Int}{a:Wc}{y g:Nat}{ws:List Int}{F:Nat->Prop}{f:List Int}{w:au}(h:(qF pk co bx nx a y g ws).J F f w)(v:Int)(v0:0<=v)(v1:v<=100000)(u:f.length<=100000):
 Calls prog 148 #[ah v,aj bx] w fun e w'=>∃l,e=.returned (.tuple #[])/\(qF pk co bx nx a y g ws).J l (f++[v]) w'/\b_ F w l w':=by
 obtain⟨⟨i,⟨D,o1,p,q⟩,j,m,k⟩,d,n⟩:=h;have c1:w.cell? (am pk 1)=some (.map (some co)):=ay i
 have x:w.cell? (am bx 0)=some (aj pk):=ay k
 go_wp2_with (first
  |(refine wpList_mapUpdate_own _ rfl _ _ _ 108 rfl 3 3 iA underlying108 _ co f.length D rfl o1 (by unfold maxLen;omega) _ _ _ rfl rfl (iZ (a:=v) v0 V) _ [] (my (-1) aa) ?_;intro A s o)
  |go_in)
 go_end0;have c:∀b,b<w.heap.size->b≠co->_=_:=fun b c t=>o.block b c (by simpa using t)
 refine⟨rfl,F,⟨⟨(c _ (lt_of_some i) (Ne.symm d.1)).trans i,Mp.add (hide o1).o p q rfl rfl s,j.same (c _ j.eJ (Ne.symm d.2.2.1)) (c _ j.eK (Ne.symm d.2.2.2.1)),(c _ (lt_of_some m) (Ne.symm d.2.1)).trans m,(c _ (lt_of_some k) (Ne.symm d.2.2.2.2)).trans k⟩,d,n⟩,⟨((Fr.refl _ w).grown o (fun b e=>aJ (by cases e;exact(n co).2 (aI (aJ rfl))))),fun _ h=>aJ h⟩⟩
def mQ (N y g:Nat)(ws:List Int):List Int:=(dS N y g ws).filter (fun a=>decide (a+pf (ld N y g ws a)<y))
theorem yT (h:Int->Int)(e:Int):∀(l b:List Int),jY (fun _ a=>h a) (fun b a=>b++[a]) e b l=b++l.filter (fun a=>decide (a+h a<e))
 |[],b=>by simp[jY]
 |a::l,b=>by
  have f:=yT h e l;have g:jY (fun _ a=>h a) (fun b a=>b++[a]) e b (a::l)=jY (fun _ a=>h a) (fun b a=>b++[a]) e (iS (fun _ a=>h a) (fun b a=>b++[a]) e b a) l:=rfl;rw[g];by_cases c:a+h a<e
  ·have d:iS (fun _ a=>h a) (fun b a=>b++[a]) e b a=b++[a]:=by unfold iS;rw[aH c]
   rw[d,f,List.filter_cons_of_pos (by simpa using c),bj];rfl
  ·have d:iS (fun _ a=>h a) (fun b a=>b++[a]) e b a=b:=by unfold iS;rw[aE c]
   rw[d,f,List.filter_cons_of_neg (by simpa using c)]
theorem FM {a:Wc}{F:Nat->Prop}{s:ec}{w:au}(h:(dY a).J F s w):
 Calls prog 81 #[aj a.pw] w fun e w'=>∃pk co cM m,e=.returned (aj pk)/\(d_ ⟨pk,co,a.pw,a.p,a.q,a.pc,cM,a.sd,a.nb,dU a.O,s.M⟩ ⟨a.N,a.O,s.y,mQ a.N s.y s.g s.ws⟩).J m ⟨s.g,s.ws,fun _=>-1,(a.N:Int)+s.g,[],[],s.rs⟩ w'/\b_ F w m w':=by
 have bx:=@run_makeMap prog;obtain⟨own,cM,hM,n⟩:=h;have L:av (o4 a own s cM w/\∀b,F b↔own b≠0):=⟨hM,n⟩
 have c0:w.cell? (am a.pw 0)=some (aj a.p):=by have ad:=hM.wd;simp[World.cell?,ad]
 have M:=lt_of_some hM.wd;have i:=hM.ar;have n1:=i.hN';have bY:=i.hO;have ag:=i.hg;have n4:=i.hy;have bZ:=i.hN;clear hM n;go_enter func81,ntmps81;go_wp2_with fail;refine(kl w i).mono ?_;rintro e w1 ⟨rfl,v⟩
 have c1:=(v.cell (p:=am a.pw 0) M).trans c0;have ai:=i.below v bW
 go_wp2_with fail;refine(mh w1 ai).mono ?_;rintro e c ⟨rfl,al⟩
 have o:=v.trans (al.mono v.size)
 have c2:=(o.cell (p:=am a.pw 0) M).trans c0;have ap:=i.below o bW
 have b0:=o.size;have l2:a.pw<c.heap.size:=V;clear v al ai c1;have A:Below c.heap.size c (((c.alloc (.map #[] 0)).alloc (.cells #[.pointer (some ⟨a.pw,0,none⟩),.map (some c.heap.size),.int .i64 ((a.N:Int)+s.g),.slice none 0 0,.slice none 0 0] 143)).alloc (.cells #[.pointer (some ⟨c.heap.size+1,0,none⟩)] 140)):=(((aD _ c).alloc bW _).alloc Z _).alloc (by simp;omega) _;have D:=ap.below A bW
 have c3:=(A.cell (p:=am a.pw 0) l2).trans c2;have P:=p3 _ D;obtain⟨W,l⟩:∃W,W=((c.alloc (.map #[] 0)).alloc (.cells #[.pointer (some ⟨a.pw,0,none⟩),.map (some c.heap.size),.int .i64 ((a.N:Int)+s.g),.slice none 0 0,.slice none 0 0] 143)).alloc (.cells #[.pointer (some ⟨c.heap.size+1,0,none⟩)] 140):=⟨_,rfl⟩
 have ax:av (W.heap.size=c.heap.size+3/\Below c.heap.size c W/\Mp W c.heap.size [] (fun _=>-1)/\W.heap[c.heap.size+1]?=some (.cells #[aj a.pw,.map (some c.heap.size),ah ((a.N:Int)+s.g),.slice none 0 0,.slice none 0 0] 143 (0,0))/\W.heap[c.heap.size+2]?=some (.cells #[aj (c.heap.size+1)] 140 (0,0))/\At W a.p a.q a.N a.O s.y s.g s.ws):=by
  rw[<-l] at A D;refine⟨by rw[l];simp only [World.size_alloc],A,?_,?_,?_,D⟩
  ·have bd:=World.ownsMap_made c prog 3 (plainElem (H:=Unit) prog 3)
   refine Mp.same (w:=c.alloc (.map #[] 0)) ⟨_,bd,fun _=>rfl,fun a ha=>by simp at ha⟩ ?_;rw[l,a4 _ _ _ (by simp;omega),a4 _ _ _ Z]
  ·rw[l,a4 _ _ _ Z];simpa using aL (c.alloc (.map #[] 0)) (.cells #[.pointer (some ⟨a.pw,0,none⟩),.map (some c.heap.size),.int .i64 ((a.N:Int)+s.g),.slice none 0 0,.slice none 0 0] 143)
  ·rw[l];simpa using aL ((c.alloc (.map #[] 0)).alloc (.cells #[.pointer (some ⟨a.pw,0,none⟩),.map (some c.heap.size),.int .i64 ((a.N:Int)+s.g),.slice none 0 0,.slice none 0 0] 143)) (.cells #[.pointer (some ⟨c.heap.size+1,0,none⟩)] 140)
 have aB:=hide l;rw[<-l] at P;clear A D l;go_wp2_with fail;rw[<-aB.o];refine P.mono ?_;clear P;rintro e w3 ⟨v1,v2,rfl,B,aF,g⟩
 obtain⟨be,bg,rfl⟩:=dQ B;obtain⟨b1,b2,rfl⟩:=dQ aF;obtain⟨bi,q,aR,aT,N,aV⟩:=ax.o;have b3:=g.size;have b4:w3.cell? (am (c.heap.size+1+1) 0)=some (aj (c.heap.size+1)):=by have:=(g.block (c.heap.size+2) V).trans N;simp[World.cell?,this]
 have b5:c.heap.size+1+1<w3.heap.size:=V;have b6:(dS a.N s.y s.g s.ws).length<=2000:=iz _ _;have O:∀x∈dS a.N s.y s.g s.ws,0<=x/\x<=2000:=fun x Q=>by have:=mz x Q;omega
 have R:=L.o.1.ar;have np:=R.eJ;have nq:=R.eK;have a0:(qF (c.heap.size+1) c.heap.size (c.heap.size+2) ((a.N:Int)+s.g) a s.y s.g s.ws).J (fun b=>b=c.heap.size+1\/b=c.heap.size\/b=a.pw\/b=a.p\/b=a.q\/b=c.heap.size+2) [] w3:=
  ⟨⟨(g.block _ V).trans aT,aR.same (g.block _ V),aV.below g bW,((g.block _ V).trans (q.block _ l2)).trans ((o.block _ M).trans L.o.1.wd),(g.block _ V).trans N⟩,⟨V,V,V,V,V⟩,fun b=>Iff.rfl⟩
 have E:=yQ (qF (c.heap.size+1) c.heap.size (c.heap.size+2) ((a.N:Int)+s.g) a s.y s.g s.ws) (fun _ x=>pf (ld a.N s.y s.g s.ws x)) (fun S x=>S++[x]) (fun j S=>S.length<=j) (c.heap.size+1) a.pw a.p 148 #[aj (c.heap.size+1+1)] FK (dS a.N s.y s.g s.ws) be bg s.y _ [] w3
  (by
    rintro F t a3 x ⟨⟨g1,g2,g3,G,g5⟩,_⟩
    refine⟨by simp[World.cell?,g1],by simp[World.cell?,G],(fY x a3 g3).mono ?_⟩
    rintro r w' ⟨rfl,f⟩
    exact⟨_,_,rfl,f⟩)
  (fun t x=>di _) (fun x Q=>by have:=O x Q;omega) V
  (by
    rintro j F t a3 U C bl _;have hm:(dS a.N s.y s.g s.ws).getD j 0∈dS a.N s.y s.g s.ws:=by rw[aC,aG U];exact a6 U
    have f:=O _ hm;have C:=C;exact FL bl _ f.1 V V)
  (by
    intro j t U C;have C:=C;show(iS _ _ _ _ _:List Int).length<=j+1;unfold iS;split
    ·simp;omega
    ·omega)
  Z a0 (gO B)
  (fun hp z e=>by
    obtain⟨b,b7,bn⟩:=dW B hp;cases bn;cases e;have ad:=(ce B b rfl).1;show¬(b=c.heap.size+1\/b=c.heap.size\/b=a.pw\/b=a.p\/b=a.q\/b=c.heap.size+2)
    omega)
 rw[yT (fun x=>pf (ld a.N s.y s.g s.ws x)) s.y (dS a.N s.y s.g s.ws) [],List.nil_append] at E;have Y:av (∀b,b<c.heap.size->w3.heap[b]?=c.heap[b]?):=fun b f=>(g.block b V).trans (q.block b f)
 have k:=jp o (g.os.trans q.os) (g.tape.trans q.tape) (g.output.trans q.output)
 clear a0 B aF bi q aR aT N aV ax aB g O R i ap o c0 c2;go_wp2_with fail;refine E.mono ?_;clear E;rintro e I ⟨b8,rfl,⟨⟨g1,g2,g3,G,g5⟩,bo,bp⟩,ab,_⟩
 have b9:I.cell? (am (c.heap.size+1+1) 0)=some (aj (c.heap.size+1)):=ay g5
 have ca:=lt_of_some g5;have br:av (∃m,(d_ ⟨c.heap.size+1,c.heap.size,a.pw,a.p,a.q,a.pc,cM,a.sd,a.nb,dU a.O,s.M⟩ ⟨a.N,a.O,s.y,mQ a.N s.y s.g s.ws⟩).J m ⟨s.g,s.ws,fun _=>-1,(a.N:Int)+s.g,[],[],s.rs⟩ I/\b_ F w m I):=by
  obtain⟨hM,n⟩:=L.o;have keep:∀b,b<w.heap.size->own b≠1->own b≠3->I.heap[b]?=w.heap[b]?:=fun b f n1 ag=>
   (ab.fr.block b V (fun d=>by
     rcases d with d|d|d|d|d|d
     ·omega
     ·omega
     ·exact ag (by rw[d];exact hM.w1)
     ·exact n1 (by rw[d];exact hM.a1)
     ·exact n1 (by rw[d];exact hM.a2)
     ·omega)).trans ((Y.o b V).trans (k.o.1.block b f))
  have bb:=hM.lt;have lo:∀b,own b≠0->b≠c.heap.size+1/\b≠c.heap.size:=fun b f=>by have:=bb b f;omega
  have u:∀b j,own b=j->j≠0->(if b=c.heap.size+1 then 5 else if b=c.heap.size then 6 else own b)=j:=fun b j e h0=>by
   obtain⟨l1,l2⟩:=lo b (by rw[e];exact h0)
   rw[aE l1,aE l2];exact e
  refine⟨fun b=>F b\/b=c.heap.size+1\/b=c.heap.size,⟨.slice none 0 0,.slice none 0 0,fun b=>if b=c.heap.size+1 then 5 else if b=c.heap.size then 6 else own b,?_,fun b=>?_⟩,⟨?_,fun b f=>?_⟩⟩
  ·exact {
    ar:=g3,a1:=u _ _ hM.a1 aa,a2:=u _ _ hM.a2 aa,c1:=u _ _ hM.c1 aa,c2:=u _ _ hM.c2 aa,w1:=u _ _ hM.w1 aa,r1:=u _ _ hM.r1 aa,rl:=hM.rl
    cd:=hM.cd.same (keep _ hM.cd.eJ (by rw[hM.c1];decide) (by rw[hM.c1];decide)) (keep _ hM.cd.eK (by rw[hM.c2];decide) (by rw[hM.c2];decide))
    wd:=G
    rt:=(keep _ (lt_of_some hM.rt) (by rw[hM.r1];decide) (by rw[hM.r1];decide)).trans hM.rt
    cb:=g1
    k1:=by rw[aH rfl]
    mp:=g2
    m1:=by rw[aE Z,aH rfl]
    wr:=a7 _ _ _ _
    dz:=fun b e=>by simp[Value.ownBlock] at e
    er:=a7 _ _ _ _
    eo:=fun b e=>by simp[Value.ownBlock] at e
    lt:=fun b f=>by
     by_cases J:b=c.heap.size+1
     ·omega
     ·by_cases K:b=c.heap.size
      ·omega
      ·rw[aE J,aE K] at f;have:=bb b f;omega}
  ·by_cases J:b=c.heap.size+1
   ·simp[J]
   ·by_cases K:b=c.heap.size
    ·simp[K]
    ·simp[J,K,n b]
  ·have bs:Below w.heap.size w w3:=⟨k.o.2.1.trans k.o.1.os,k.o.2.2.1.trans k.o.1.tape,k.o.2.2.2.trans k.o.1.output,V,fun b f=>(Y.o b V).trans (k.o.1.block b f)⟩
   refine(Fr.of (X:=F) bs).trans ab.fr (fun b d=>?_)
   rcases d with d|d|d|d|d|d
   ·exact aI V
   ·exact aI V
   ·exact aJ ((n b).2 (by rw[d,hM.w1];decide))
   ·exact aJ ((n b).2 (by rw[d,hM.a1];decide))
   ·exact aJ ((n b).2 (by rw[d,hM.a2];decide))
   ·exact aI V
  ·rcases f with f|f|f
   ·exact aJ f
   ·exact aI V
   ·exact aI V
 clear g1 g2 g3 G g5 bo bp ab Y k;go_wp2_with fail;go_ret;obtain⟨m,bt,j2⟩:=br.o;exact⟨_,_,_,m,rfl,bt,j2⟩
structure b8 where
 a:Wc
 s:ec
 Y:List Int
 G:List Int
structure ct where
 f:Int->Int
 td:List Int
 ep:List Int
def b8.T (k:b8):List Int:=k.G++k.Y
def b8.ld (k:b8)(x:Int):Int:=Proofs.YtjpjpjemibgjpaaGreat.ld k.a.N k.s.y k.s.g k.s.ws x
def b8.jt (k:b8)(x:Int):Bool:=cX x&&k.T.contains (cf x)
def b8.cQ (k:b8)(s:ct)(x:Int):Bool:=k.jt x&&(s.f (cf x)==-1)
def b8.nw (k:b8)(s:ct)(x:Int):Int:=if(k.jt x&&!(s.f (cf x)==-1))=true then ew 3 (s.f (cf x)) else x
def b8.ma (k:b8)(s:ct)(x:Int):ct:=if k.cQ s x=true then {s with f:=gq s.f (cf x) (cf x),td:=s.td++[cf x]} else s
def b8.e3 (k:b8)(s:ct)(a:Int):Nat->ct
 |0=>s
 |n+1=>k.ma (k.e3 s a n) (k.ld (a+1+n))
def b8.lk (k:b8)(s:ct)(a:Int):ct:=
 if pk (k.ld a)=1\/pk (k.ld a)=2 then k.e3 s a (pf (k.ld a)).toNat
 else if pk (k.ld a)=3 then k.ma s (k.ld (a+2))
 else if pk (k.ld a)=4 then {s with ep:=s.ep++[a]} else s
def b8.l1 (k:b8)(s:ct):ct:=k.lk {s with td:=s.td.take (s.td.length-1)} (s.td.getD (s.td.length-1) 0)
def b8.lm (k:b8):Nat->ct->ct
 |0,s=>s
 |n+1,s=>if 0<s.td.length then k.lm n (k.l1 s) else s
def b8.cO (k:b8)(t:List Int×ct)(a:Int):List Int×ct:=if k.cQ t.2 (k.ld (a+1))=true then(t.1++[a],t.2) else(t.1,k.ma t.2 (k.ld (a+2)))
def b8.dx (k:b8)(s:ct)(l:List Int):List Int×ct:=l.foldl k.cO ([],s)
def b8.kv (k:b8)(s:ct):Bool×ct:=(decide ((k.dx s s.ep).1.length<s.ep.length),{(k.dx s s.ep).2 with ep:=(k.dx s s.ep).1})
def b8.al (k:b8)(s:ct)(x:Int):Bool:=!k.cQ s x
def b8.lost (k:b8)(s:ct):Nat:=(k.T.filter (fun a=>s.f a==-1)).length
structure cU (k:b8)(s:ct):Prop where
 nd:k.T.Nodup
 ps:∀a∈k.T,0<=a/\a<=2000
 td:∀a∈s.td,a∈k.T
 ep:∀a∈s.ep,a∈k.T
 tl:k.T.length<=4000
 sum:k.lost s+s.td.length+s.ep.length<=k.T.length
section
variable {k:b8}{s:ct}
theorem b8.qG {x:Int}(h:k.cQ s x=true):cX x=true/\cf x∈k.T/\s.f (cf x)=-1:=by unfold b8.cQ b8.jt at h;simp only [Bool.and_eq_true] at h;exact⟨h.1.1,List.contains_iff_mem.1 h.1.2,by simpa using h.2⟩
theorem b8.yU (c:k.T.Nodup){x:Int}(h:k.cQ s x=true)(h0:∀a∈k.T,0<=a):k.lost (k.ma s x)+1=k.lost s:=by
 obtain⟨_,b,d⟩:=b8.qG h;have e:(k.ma s x).f=gq s.f (cf x) (cf x):=by unfold b8.ma;rw[aH h]
 have hp:=h0 _ b;unfold b8.lost;rw[e,yy _ _ _ _ V];exact Fe _ _ (c.filter _) (List.mem_filter.2 ⟨b,by rw[d];rfl⟩)
theorem cU.ma (h:cU k s)(x:Int):cU k (k.ma s x)/\k.lost (k.ma s x)+(k.ma s x).td.length=k.lost s+s.td.length/\(k.ma s x).ep=s.ep:=by
 by_cases c:k.cQ s x=true
 ·have i:=b8.yU h.nd c (fun a ha=>(h.ps a ha).1)
  obtain⟨_,g,_⟩:=b8.qG c;have f:(k.ma s x).td=s.td++[cf x]:=by unfold b8.ma;rw[aH c]
  have d:(k.ma s x).ep=s.ep:=by unfold b8.ma;rw[aH c]
  have hs:=h.sum;have j:(k.ma s x).td.length=s.td.length+1:=by rw[f];simp
  refine⟨⟨h.nd,h.ps,fun a ha=>?_,by rw[d];exact h.ep,h.tl,by rw[d];omega⟩,V,d⟩
  rw[f] at ha;rcases List.mem_append.1 ha with b|b
  ·exact h.td a b
  ·rw[bD] at b;rw[b];exact g
 ·have e:k.ma s x=s:=by unfold b8.ma;rw[aE c]
  rw[e];exact⟨h,rfl,rfl⟩
theorem cU.e3 (h:cU k s)(a:Int):∀n,cU k (k.e3 s a n)/\k.lost (k.e3 s a n)+(k.e3 s a n).td.length=k.lost s+s.td.length/\(k.e3 s a n).ep=s.ep
 |0=>⟨h,rfl,rfl⟩
 |n+1=>by obtain⟨b,c,d⟩:=cU.e3 h a n;obtain⟨e,j2,cy⟩:=b.ma _;exact⟨e,j2.trans c,cy.trans d⟩
theorem cU.lk (h:cU k s){a:Int}(ha:a∈k.T)(i:k.lost s+s.td.length+s.ep.length+1<=k.T.length):cU k (k.lk s a)/\k.lost (k.lk s a)+(k.lk s a).td.length=k.lost s+s.td.length/\(k.lk s a).ep.length<=s.ep.length+1:=by
 unfold b8.lk;split
 ·obtain⟨d,e,f⟩:=h.e3 a _;exact⟨d,e,by rw[f];omega⟩
 ·split
  ·obtain⟨d,e,f⟩:=h.ma _;exact⟨d,e,by rw[f];omega⟩
  ·split
   ·refine⟨⟨h.nd,h.ps,h.td,fun b g=>?_,h.tl,?_⟩,rfl,Z⟩
    ·rcases List.mem_append.1 g with c|c
     ·exact h.ep b c
     ·rw[bD] at c;rw[c];exact ha
    ·show k.lost s+s.td.length+(s.ep++[a]).length<=_;rw[aW];simp;omega
   ·exact⟨h,rfl,V⟩
theorem cU.l1 (h:cU k s)(hl:0<s.td.length):cU k (k.l1 s)/\k.lost (k.l1 s)+(k.l1 s).td.length+1=k.lost s+s.td.length:=by
 have hm:s.td.getD (s.td.length-1) 0∈s.td:=by exact tF
 have hs:=h.sum;have e:(s.td.take (s.td.length-1)).length=s.td.length-1:=by rw[bf];omega
 have h0:cU k {s with td:=s.td.take (s.td.length-1)}:=⟨h.nd,h.ps,fun a ha=>h.td a (bE ha),h.ep,h.tl,by show k.lost s+(s.td.take _).length+s.ep.length<=_;omega⟩
 have d:k.lost {s with td:=s.td.take (s.td.length-1)}=k.lost s:=rfl;obtain⟨b,c,_⟩:=h0.lk (h.td _ hm) (by show k.lost s+(s.td.take _).length+s.ep.length+1<=_;omega)
 refine⟨b,?_⟩
 unfold b8.l1;dsimp only at c;omega
theorem cU.lm:∀(n:Nat){s:ct},cU k s->cU k (k.lm n s)/\(k.lost s+s.td.length<n->(k.lm n s).td=[])/\k.lost (k.lm n s)+(k.lm n s).td.length<=k.lost s+s.td.length
 |0,s,h=>⟨h,fun e=>absurd e V,aA _⟩
 |n+1,s,h=>by
  unfold b8.lm;by_cases c:0<s.td.length
  ·rw[aH c];obtain⟨b,f⟩:=h.l1 c;obtain⟨d,j2,cy⟩:=cU.lm n b;exact⟨d,fun e=>j2 V,V⟩
  ·rw[aE c];refine⟨h,fun _=>?_,aA _⟩
   cases ht:s.td with
   |nil=>rfl
   |cons x l=>rw[ht] at c;simp at c
theorem cU.cO {t:List Int×ct}(h:cU k t.2){a:Int}(ha:a∈k.T)(ht:∀b∈t.1,b∈k.T):cU k (k.cO t a).2/\(k.cO t a).1.length<=t.1.length+1/\(∀b∈(k.cO t a).1,b∈k.T)/\k.lost (k.cO t a).2+(k.cO t a).2.td.length=k.lost t.2+t.2.td.length/\(k.cO t a).2.ep=t.2.ep:=by
 unfold b8.cO;split
 ·refine⟨h,Z,fun b d=>?_,rfl,rfl⟩
  rcases List.mem_append.1 d with c|c
  ·exact ht b c
  ·rw[bD] at c;rw[c];exact ha
 ·obtain⟨e,f,g⟩:=h.ma _;exact⟨e,Z,ht,f,g⟩
theorem cU.ik:∀(l:List Int){t:List Int×ct},cU k t.2->(∀a∈l,a∈k.T)->(∀b∈t.1,b∈k.T)->cU k (l.foldl k.cO t).2/\(l.foldl k.cO t).1.length<=t.1.length+l.length/\(∀b∈(l.foldl k.cO t).1,b∈k.T)/\k.lost (l.foldl k.cO t).2+(l.foldl k.cO t).2.td.length=k.lost t.2+t.2.td.length/\(l.foldl k.cO t).2.ep=t.2.ep
 |[],t,h,_,ht=>⟨h,Z,ht,rfl,rfl⟩
 |a::l,t,h,hl,ht=>by obtain⟨c,j,d,e,f⟩:=h.cO (hl a Z) ht;obtain⟨g,j2,cy,cz,dG⟩:=cU.ik l c (fun b i=>hl b (aO _ i)) d;rw[a8];exact⟨g,by simp only [List.length_cons];omega,cy,cz.trans e,dG.trans f⟩
theorem cU.kv (h:cU k s):cU k (k.kv s).2/\k.lost (k.kv s).2+(k.kv s).2.td.length=k.lost s+s.td.length/\(k.kv s).2.ep.length<=s.ep.length/\((k.kv s).1=true->(k.kv s).2.ep.length<s.ep.length):=by
 obtain⟨j,d,l,c,n⟩:=cU.ik s.ep (t:=([],s)) h h.ep (fun b m=>by cases m)
 have f:k.lost (k.kv s).2=k.lost (k.dx s s.ep).2:=rfl;have g:(k.kv s).2.td=(k.dx s s.ep).2.td:=rfl;have i:(k.kv s).2.ep=(k.dx s s.ep).1:=rfl;have d:(k.dx s s.ep).1.length<=0+s.ep.length:=d;have c:k.lost (k.dx s s.ep).2+(k.dx s s.ep).2.td.length=k.lost s+s.td.length:=c;have hs:=h.sum;refine⟨⟨h.nd,h.ps,j.td,l,h.tl,?_⟩,by rw[f,g];exact c,by rw[i];omega,fun e=>?_⟩
 ·rw[f,g,i];omega
 ·exact of_decide_eq_true e
end
structure e4 where
 pk:Nat
 co:Nat
 bs:Nat
 yv:Value
 ov:Value
structure o5 (c:e4)(k:b8)(o6:Nat->Prop)(own:Nat->Nat)(s:ct)(vt cr:Value)(w:au):Prop where
 wd:(dY k.a).J o6 k.s w
 w1:∀b,o6 b↔own b=1
 cb:w.heap[c.pk]?=some (.cells #[aj k.a.pw,c.yv,c.ov,.map (some c.co),aj c.bs,vt,cr] 115 (0,0))
 k1:own c.pk=5
 mp:Mp w c.co k.T s.f
 m1:own c.co=6
 tr:w.ownsRow 0 3 1 vt s.td.length (s.td.map (Value.int .i64))
 gI:∀b,some b=vt.ownBlock->own b=7
 er:w.ownsRow 0 3 1 cr s.ep.length (s.ep.map (Value.int .i64))
 eo:∀b,some b=cr.ownBlock->own b=8
 yr:w.ownsRow 0 3 1 c.yv k.Y.length (k.Y.map (Value.int .i64))
 hC:∀b,some b=c.yv.ownBlock->own b=9
 gr:w.ownsRow 0 3 1 c.ov k.G.length (k.G.map (Value.int .i64))
 go:∀b,some b=c.ov.ownBlock->own b=10
 lt:∀b,own b≠0->b<w.heap.size
section
variable {c:e4}{k:b8}{o6:Nat->Prop}{own:Nat->Nat}{s:ct}{vt cr:Value}{w w':au}
theorem o5.but (h:o5 c k o6 own s vt cr w)(L:Nat->Prop)(hs:w.heap.size<=w'.heap.size)(hk:∀b,b<w.heap.size->own b≠0->¬L (own b)->w'.heap[b]?=w.heap[b]?)
 (hK:L 5->w'.heap[c.pk]?=some (.cells #[aj k.a.pw,c.yv,c.ov,.map (some c.co),aj c.bs,vt,cr] 115 (0,0)))
 (hM:L 6->Mp w' c.co k.T s.f)(f:L 7->w'.ownsRow 0 3 1 vt s.td.length (s.td.map (Value.int .i64)))(hE:L 8->w'.ownsRow 0 3 1 cr s.ep.length (s.ep.map (Value.int .i64)))(g:¬L 1)(i:¬L 9)(j:¬L 10):o5 c k o6 own s vt cr w' where
 wd:=(dY k.a).keep h.wd hs (fun b d=>hk b ((dY k.a).lt h.wd b d) (by rw[(h.w1 b).1 d];decide) (by rw[(h.w1 b).1 d];exact g))
 w1:=h.w1
 cb:=by exact yx
 k1:=h.k1
 mp:=by
  by_cases l:L 6
  ·exact hM l
  ·exact h.mp.same (hk _ h.mp.lt (by rw[h.m1];decide) (by rw[h.m1];exact l))
 m1:=h.m1
 tr:=by
  by_cases l:L 7
  ·exact f l
  ·exact cv h.tr (fun b e=>hk b (ce h.tr b e).2 (by rw[h.gI b e];decide) (by rw[h.gI b e];exact l))
 gI:=h.gI
 er:=by exact yt
 eo:=h.eo
 yr:=cv h.yr (fun b e=>hk b (ce h.yr b e).2 (by rw[h.hC b e];decide) (by rw[h.hC b e];exact i))
 hC:=h.hC
 gr:=cv h.gr (fun b e=>hk b (ce h.gr b e).2 (by rw[h.go b e];decide) (by rw[h.go b e];exact j))
 go:=h.go
 lt:=fun b m=>aM (h.lt b m) hs
end
def cS (c:e4)(k:b8)(vt f:Value):dP ct where
 J F s w:=∃d own,o5 c k d own s vt f w/\∀b,F b↔own b≠0
 lt:=by rintro F s w ⟨d,own,h,e⟩ b g;exact h.lt b ((e b).1 g)
 keep:=by rintro F s w w' ⟨d,own,h,e⟩ hs hk;exact⟨d,own,h.but (fun _=>False) hs (fun b _ h0 _=>hk b ((e b).2 h0)) False.elim False.elim False.elim False.elim id id id,e⟩
def eH (c:e4)(k:b8):dP ct where
 J F s w:=∃vt b,(cS c k vt b).J F s w
 lt:=by
  rintro F s w ⟨vt,b,h⟩
  exact(cS c k vt b).lt h
 keep:=by rintro F s w w' ⟨vt,b,h⟩ hs hk;exact⟨vt,b,(cS c k vt b).keep h hs hk⟩
section
variable {c:e4}{k:b8}{F:Nat->Prop}{s:ct}{vt cr:Value}{w:au}
theorem ey (h:(cS c k vt cr).J F s w):w.cell? (am c.pk 0)=some (aj k.a.pw)/\w.cell? (am c.pk 1)=some c.yv/\w.cell? (am c.pk 2)=some c.ov/\w.cell? (am c.pk 3)=some (.map (some c.co))/\w.cell? (am c.pk 4)=some (aj c.bs)/\w.cell? (am c.pk 5)=some vt/\w.cell? (am c.pk 6)=some cr/\(∀i,w.frozen? (am c.pk i)=false)/\c.pk<w.heap.size:=by
 obtain⟨d,own,h,_⟩:=h;have b:=h.cb;refine⟨?_,?_,?_,?_,?_,?_,?_,fun i=>?_,lt_of_some b⟩
 all_goals first|simp[World.cell?,b]|simp[World.frozen?,b]
theorem gu (h:(cS c k vt cr).J F s w):At w k.a.p k.a.q k.a.N k.a.O k.s.y k.s.g k.s.ws/\w.cell? (am k.a.pw 0)=some (aj k.a.p)/\w.cell? (am k.a.pw 3)=some (.slice (ak k.a.nb) 12 12)/\∀i,i<12->w.cell? (am k.a.nb i)=some (ah (k.s.rs.getD i 0)):=by obtain⟨b,own,h,_⟩:=h;obtain⟨c0,_,_,c3,_,_,_,rt⟩:=jh h.wd;exact⟨(jZ h.wd).1,c0,c3,fun i hi=>(rt i hi).1⟩
theorem o7 (h:(cS c k vt cr).J F s w):Mp w c.co k.T s.f/\∀w' f,Mp w' c.co k.T f->Fr (fun b=>b=c.co) w w'->(cS c k vt cr).J F {s with f:=f} w'/\b_ F w F w':=by
 obtain⟨j,own,h,l⟩:=h;refine⟨h.mp,fun w' f hm fr=>⟨⟨j,own,?_,l⟩,⟨fr.mono (fun b e=>(l b).2 (by rw[e,h.m1];decide)),fun _ d=>aJ d⟩⟩⟩
 have g:o5 c k j own {s with f:=f} vt cr w':=by
  have hk:∀b,b<w.heap.size->own b≠6->_=_:=fun b i m=>fr.block b i (fun e=>m (by rw[e];exact h.m1))
  exact {
   wd:=(dY k.a).keep h.wd fr.size (fun b d=>hk b ((dY k.a).lt h.wd b d) (by rw[(h.w1 b).1 d];decide)),w1:=h.w1
   cb:=(hk _ (lt_of_some h.cb) (by rw[h.k1];decide)).trans h.cb,k1:=h.k1,mp:=hm,m1:=h.m1
   tr:=cv h.tr (fun b e=>hk b (ce h.tr b e).2 (by rw[h.gI b e];decide)),gI:=h.gI
   er:=cv h.er (fun b e=>hk b (ce h.er b e).2 (by rw[h.eo b e];decide)),eo:=h.eo
   yr:=cv h.yr (fun b e=>hk b (ce h.yr b e).2 (by rw[h.hC b e];decide)),hC:=h.hC
   gr:=cv h.gr (fun b e=>hk b (ce h.gr b e).2 (by rw[h.go b e];decide)),go:=h.go
   lt:=fun b i=>aM (h.lt b i) fr.size}
 exact g
end
section
variable {c:e4}{k:b8}{F:Nat->Prop}{s:ct}{vt cr:Value}{w:au}
theorem FN {v0:Value}(h:(cS c k v0 cr).J F s w){v1:Value}{l:List Int}{w1:au}(i:Fr (fun b=>some b=v0.ownBlock) w w1)(o:w1.ownsRow 0 3 1 v1 l.length (l.map (Value.int .i64)))(n:∀b,some b=v1.ownBlock->some b=v0.ownBlock\/¬F b):
 (cS c k v1 cr).J (fun b=>F b\/some b=v1.ownBlock) {s with td:=l} (w1.setCell ⟨c.pk,5,none⟩ v1)/\Fr F w (w1.setCell ⟨c.pk,5,none⟩ v1):=by
 obtain⟨q,own,h,m⟩:=h;have sz:(w1.setCell ⟨c.pk,5,none⟩ v1).heap.size=w1.heap.size:=by simp[World.setCell]
 have hb1:∀b,b<w.heap.size->own b≠7->_=_:=fun b d n=>i.block b d (fun e=>n (h.gI b e))
 have d:∀b,b<w.heap.size->own b≠7->own b≠5->(w1.setCell ⟨c.pk,5,none⟩ v1).heap[b]?=w.heap[b]?:=fun b d p t=>(aN _ _ _ _ (fun e=>t (by have e:=e;rw[e];exact h.k1))).trans (hb1 b d p)
 have hnw:∀b,some b=v1.ownBlock->_:=fun b e=>(n b e).elim (fun e=>aJ (h.gI b e)) (fun hl=>aI (Classical.byContradiction (fun c=>hl ((m b).2 c))))
 have g:∀b j,own b=j->j≠7->j≠0->(if some b=v1.ownBlock then 7 else own b)=j:=fun b j e p h0=>by exact oo
 have u:=fun b e=>(ce o b e).2;refine⟨⟨q,fun b=>if some b=v1.ownBlock then 7 else own b,?_,fun b=>?_⟩,?_⟩
 ·exact {
   wd:=(dY k.a).keep h.wd (by rw[sz];exact i.size) (fun b f=>d b ((dY k.a).lt h.wd b f) (by rw[(h.w1 b).1 f];decide) (by rw[(h.w1 b).1 f];decide))
   w1:=fun b=>⟨fun f=>g _ _ ((h.w1 b).1 f) aa aa,fun f=>by
    by_cases e:some b=v1.ownBlock
    ·rw[aH e] at f;omega
    ·rw[aE e] at f;exact(h.w1 b).2 f⟩
   k1:=g _ _ h.k1 aa aa,m1:=g _ _ h.m1 aa aa
   cb:=by exact qw
   mp:=h.mp.same (d _ h.mp.lt (by rw[h.m1];decide) (by rw[h.m1];decide))
   tr:=cv o (fun b e=>aN _ _ _ _ (fun v=>by
    have:=hnw b e;rw[v,h.k1] at this
    omega))
   gI:=fun b e=>by rw[aH e]
   er:=cv h.er (fun b e=>d b (ce h.er b e).2 (by rw[h.eo b e];decide) (by rw[h.eo b e];decide))
   eo:=fun b e=>g _ _ (h.eo b e) aa aa
   yr:=cv h.yr (fun b e=>d b (ce h.yr b e).2 (by rw[h.hC b e];decide) (by rw[h.hC b e];decide))
   hC:=fun b e=>g _ _ (h.hC b e) aa aa
   gr:=cv h.gr (fun b e=>d b (ce h.gr b e).2 (by rw[h.go b e];decide) (by rw[h.go b e];decide))
   go:=fun b e=>g _ _ (h.go b e) aa aa
   lt:=fun b d=>by
    rw[sz];by_cases e:some b=v1.ownBlock
    ·exact u b e
    ·rw[aE e] at d;exact aM (h.lt b d) i.size}
 ·by_cases e:some b=v1.ownBlock
  ·simp[e]
  ·simp[e,m b]
 ·refine(i.mono (fun b e=>(m b).2 (by rw[h.gI b e];decide))).trans ((Fr.refl (fun b=>b=c.pk) w1).set _ 5 _ rfl) (fun b e=>aJ ((m b).2 (by rw[e,h.k1];decide)))
theorem yV {v0:Value}(h:(cS c k v0 cr).J F s w){v1:Value}{l:List Int}{w1:au}(i:Fr (fun b=>some b=v0.ownBlock) w w1)(j:w1.ownsRow 0 3 1 v1 l.length (l.map (Value.int .i64)))(f:∀b,some b=v1.ownBlock->some b=v0.ownBlock\/w.heap.size<=b):
 ∃g,(cS c k v1 cr).J g {s with td:=l} (w1.setCell ⟨c.pk,5,none⟩ v1)/\b_ F w g (w1.setCell ⟨c.pk,5,none⟩ v1):=by
 obtain⟨m,n⟩:=FN h i j (fun b e=>(f b e).imp id (fun p d=>by have:=(cS c k v0 cr).lt h b d;omega))
 obtain⟨q,own,hm,o⟩:=h;exact⟨_,m,n,fun b d=>d.elim aJ (fun e=>(f b e).imp (fun e=>(o b).2 (by rw[hm.gI b e];decide)) id)⟩
theorem yW {v0:Value}(h:(cS c k vt v0).J F s w){v1:Value}{l:List Int}{w1:au}(i:Fr (fun b=>some b=v0.ownBlock) w w1)(o:w1.ownsRow 0 3 1 v1 l.length (l.map (Value.int .i64)))(n:∀b,some b=v1.ownBlock->some b=v0.ownBlock\/¬F b):
 (cS c k vt v1).J (fun b=>F b\/some b=v1.ownBlock) {s with ep:=l} (w1.setCell ⟨c.pk,6,none⟩ v1)/\Fr F w (w1.setCell ⟨c.pk,6,none⟩ v1):=by
 obtain⟨q,own,h,m⟩:=h;have sz:(w1.setCell ⟨c.pk,6,none⟩ v1).heap.size=w1.heap.size:=by simp[World.setCell]
 have hb1:∀b,b<w.heap.size->own b≠8->_=_:=fun b d n=>i.block b d (fun e=>n (h.eo b e))
 have d:∀b,b<w.heap.size->own b≠8->own b≠5->(w1.setCell ⟨c.pk,6,none⟩ v1).heap[b]?=w.heap[b]?:=fun b d p t=>(aN _ _ _ _ (fun e=>t (by have e:=e;rw[e];exact h.k1))).trans (hb1 b d p)
 have hnw:∀b,some b=v1.ownBlock->_:=fun b e=>(n b e).elim (fun e=>aJ (h.eo b e)) (fun hl=>aI (Classical.byContradiction (fun c=>hl ((m b).2 c))))
 have g:∀b j,own b=j->j≠8->j≠0->(if some b=v1.ownBlock then 8 else own b)=j:=fun b j e p h0=>by exact oo
 have u:=fun b e=>(ce o b e).2;refine⟨⟨q,fun b=>if some b=v1.ownBlock then 8 else own b,?_,fun b=>?_⟩,?_⟩
 ·exact {
   wd:=(dY k.a).keep h.wd (by rw[sz];exact i.size) (fun b f=>d b ((dY k.a).lt h.wd b f) (by rw[(h.w1 b).1 f];decide) (by rw[(h.w1 b).1 f];decide))
   w1:=fun b=>⟨fun f=>g _ _ ((h.w1 b).1 f) aa aa,fun f=>by
    by_cases e:some b=v1.ownBlock
    ·rw[aH e] at f;omega
    ·rw[aE e] at f;exact(h.w1 b).2 f⟩
   k1:=g _ _ h.k1 aa aa,m1:=g _ _ h.m1 aa aa
   cb:=by exact qw
   mp:=h.mp.same (d _ h.mp.lt (by rw[h.m1];decide) (by rw[h.m1];decide))
   er:=cv o (fun b e=>aN _ _ _ _ (fun v=>by
    have:=hnw b e;rw[v,h.k1] at this
    omega))
   eo:=fun b e=>by rw[aH e]
   tr:=cv h.tr (fun b e=>d b (ce h.tr b e).2 (by rw[h.gI b e];decide) (by rw[h.gI b e];decide))
   gI:=fun b e=>g _ _ (h.gI b e) aa aa
   yr:=cv h.yr (fun b e=>d b (ce h.yr b e).2 (by rw[h.hC b e];decide) (by rw[h.hC b e];decide))
   hC:=fun b e=>g _ _ (h.hC b e) aa aa
   gr:=cv h.gr (fun b e=>d b (ce h.gr b e).2 (by rw[h.go b e];decide) (by rw[h.go b e];decide))
   go:=fun b e=>g _ _ (h.go b e) aa aa
   lt:=fun b d=>by
    rw[sz];by_cases e:some b=v1.ownBlock
    ·exact u b e
    ·rw[aE e] at d;exact aM (h.lt b d) i.size}
 ·by_cases e:some b=v1.ownBlock
  ·simp[e]
  ·simp[e,m b]
 ·refine(i.mono (fun b e=>(m b).2 (by rw[h.eo b e];decide))).trans ((Fr.refl (fun b=>b=c.pk) w1).set _ 6 _ rfl) (fun b e=>aJ ((m b).2 (by rw[e,h.k1];decide)))
theorem FO {v0:Value}(h:(cS c k vt v0).J F s w){v1:Value}{l:List Int}{w1:au}(i:Fr (fun b=>some b=v0.ownBlock) w w1)(j:w1.ownsRow 0 3 1 v1 l.length (l.map (Value.int .i64)))(f:∀b,some b=v1.ownBlock->some b=v0.ownBlock\/w.heap.size<=b):
 ∃g,(cS c k vt v1).J g {s with ep:=l} (w1.setCell ⟨c.pk,6,none⟩ v1)/\b_ F w g (w1.setCell ⟨c.pk,6,none⟩ v1):=by
 obtain⟨m,n⟩:=yW h i j (fun b e=>(f b e).imp id (fun p d=>by have:=(cS c k vt v0).lt h b d;omega))
 obtain⟨q,own,hm,o⟩:=h;exact⟨_,m,n,fun b d=>d.elim aJ (fun e=>(f b e).imp (fun e=>(o b).2 (by rw[hm.eo b e];decide)) id)⟩
theorem mR (h:(cS c k vt cr).J F s w):w.ownsRow 0 3 1 vt s.td.length (s.td.map (Value.int .i64))/\w.ownsRow 0 3 1 cr s.ep.length (s.ep.map (Value.int .i64))/\some c.pk≠vt.ownBlock/\some c.pk≠cr.ownBlock/\c.pk≠c.co:=by
 obtain⟨d,own,h,_⟩:=h;refine⟨h.tr,h.er,fun e=>?_,fun e=>?_,fun e=>?_⟩
 ·have b:=h.gI _ e;rw[h.k1] at b;omega
 ·have b:=h.eo _ e;rw[h.k1] at b;omega
 ·have b:=h.k1;rw[e,h.m1] at b;omega
end
section
variable {c:e4}{k:b8}{vt cr:Value}{F:Nat->Prop}{s:ct}{w:au}
theorem yX (h:(cS c k vt cr).J F s w)(x:Int):
 Calls prog 173 #[aj c.pk,ah x] w fun e w'=>∃v,e=.returned (.tuple #[ah v,.bool (k.jt x)])/\(k.jt x=true->v=s.f (cf x))/\Below w.heap.size w w':=by
 have HJ:=hide h;have P:=na x w;cases ha:cX x
 ·rw[ha] at P;have b:k.jt x=false:=by unfold b8.jt;rw[ha];rfl
  rw[b];go_enter func173,ntmps173;exact yu
 ·have b:k.jt x=k.T.contains (cf x):=by unfold b8.jt;rw[ha];rfl
  have d:=tD ha;rw[b];rw[ha] at P;generalize cf x=a at P d⊢;have yn:=iZ d.1 d.2;obtain⟨bt,hbt⟩:∃bt,bt=k.T.contains a:=⟨_,rfl⟩
  rw[<-hbt];go_enter func173,ntmps173;go_wp2_with fail;refine P.mono ?_;clear P;rintro e w1 ⟨rfl,hb1⟩
  have iI:=(cS c k vt cr).below HJ.o hb1;obtain⟨_,_,_,c1,_⟩:=ey iI;obtain⟨⟨D,o1,o2,o3⟩,_⟩:=o7 iI;exact ym
theorem o8 (h:(cS c k vt cr).J F s w)(x:Int):
 Calls prog 121 #[aj c.pk,ah x] w fun e w'=>e=.returned (.bool (k.cQ s x))/\Below w.heap.size w w':=by
 have P:=yX h x;cases hy:k.jt x
 ·have b:k.cQ s x=false:=by unfold b8.cQ;rw[hy];rfl
  rw[b];rw[hy] at P;go_enter func121,ntmps121;go_wp2_with fail;refine P.mono ?_;rintro e w1 ⟨v,rfl,_,hb1⟩
  go_wp2;go_ret;exact⟨rfl,hb1⟩
 ·have b:k.cQ s x=(s.f (cf x)==-1):=by unfold b8.cQ;rw[hy];rfl
  rw[b];rw[hy] at P;go_enter func121,ntmps121;exact qx
theorem yY (h:(cS c k vt cr).J F s w)(x:Int):
 Calls prog 123 #[aj c.pk,ah x] w fun e w'=>e=.returned (ah (k.nw s x))/\Below w.heap.size w w':=by
 have P:=yX h x;cases hy:k.jt x
 ·have b:k.nw s x=x:=by unfold b8.nw;rw[hy];simp
  rw[b];rw[hy] at P;go_enter func123,ntmps123;go_wp2_with fail;refine P.mono ?_;rintro e w1 ⟨v,rfl,_,hb1⟩
  exact lB
 ·rw[hy] at P;by_cases d:s.f (cf x)=-1
  ·have b:k.nw s x=x:=by unfold b8.nw;rw[hy,d];simp
   rw[b];rw[d] at P;go_enter func123,ntmps123;exact qx
  ·have b:k.nw s x=ew 3 (s.f (cf x)):=by unfold b8.nw;rw[hy,aH (by simp[d])]
   rw[b];generalize s.f (cf x)=a at P d⊢;go_enter func123,ntmps123;exact ys
end
end Go.Proofs.YtjpjpjemibgjpaaGreat
