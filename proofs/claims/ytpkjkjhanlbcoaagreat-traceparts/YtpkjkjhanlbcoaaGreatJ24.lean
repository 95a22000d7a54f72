import Derived.Test.YtpkjkjhanlbcoaaGreatJ23
namespace Go.Proofs.YtpkjkjhanlbcoaaGreat
set_option maxRecDepth 100000
set_option maxHeartbeats 8000000
open Tryz
open Go.RowKit W Kp ck
theorem BI (rs:List Int)(y:Nat)(ws:List Int)(rl:List Nat):∀k,(i6 rs y ws rl k).length=ws.length
 |0=>rfl
 |k+1=>by show((i6 rs y ws rl k).set _ _).length=_;rw[bf];exact BI rs y ws rl k
theorem rW (rs:List Int)(y:Nat)(ws:List Int)(rl:List Nat):∀k,y+k<ws.length->∀q,(i6 rs y ws rl k).getD q 0=if y+1<=q/\q<y+1+k then rs.getD (rl.getD (q-y-1) 0) 0 else ws.getD q 0
 |0,_,q=>by rw[aI aa];rfl
 |k+1,h,q=>by
  show((i6 rs y ws rl k).set _ _).getD q 0=_;rw[vh _ _ _ _ _ (by rw[BI];omega),rW rs y ws rl k aa q];by_cases c:y+1+k=q
  ·rw[aK c,aK aa,show q-y-1=k by omega]
  ·omega
theorem KR (W:cn)(g:eM)(ch b_ m:Int):(W.room g ch b_ m).2.rs=W.rs:=by
 unfold cn.room;split
 ·rfl
 ·unfold cn.cut;split<;>rfl
section
variable {a:Wc}{S:cv}{W:cn}{m:Nat->Int}{Y G:List Int}{j:Nat}{g:eM}
theorem cD.made (h:cD a S W m Y G)(hb:cM a S.s){kd:Int}{rl:List Nat}(hk:hc kd rl.length=0)(hr:S.s.y+1+rl.length<=a.N)(f:∀q∈rl,q<12):
 cD a (S.put a kd rl) {W with T:=W.T++[(kd,rl.map (fun q=>W.rs.getD q (0,0)),false,false)]} (nO m W.T.length S.s.y) (Y++[(S.s.y:Int)]) G:=by
 have p:=ul h.kv hb hk hr rl.length b7
 have b:(rl.map (fun q=>W.rs.getD q (0,0))).length=rl.length:=aZ ..;have hl:=hb.l1;have g:iV a.N S.s.y kd rl.length=true:=by unfold iV;simp;omega
 have c:fS a.N S.s.y kd rl.length S.s.ws=fK S.s.ws S.s.y (hw kd rl.length) rl.length:=by unfold fS;rw[aK g];rfl
 have i:(fS a.N S.s.y kd rl.length S.s.ws).length=S.s.ws.length:=by rw[c,uk]
 have d:S.s.y+rl.length<S.s.ws.length:=aa;have keep:∀q:Int,((0<=q/\q<S.s.y)\/((a.N:Int)<=q/\q<a.N+S.s.g))->ld a.N (S.s.y+1+rl.length) S.s.g (i6 S.s.rs S.s.y (fS a.N S.s.y kd rl.length S.s.ws) rl rl.length) q=ld a.N S.s.y S.s.g S.s.ws q:=fun q hq=>by
  rcases hq with⟨q0,q1⟩|⟨q0,q1⟩
  ·rw[ef (iW q0 aa),ef (iW q0 q1),rW _ _ _ _ _ aa,aI aa,c,jT _ _ _ _ _ d,aI aa,aI aa]
  ·rw[ef (hD q0 q1),ef (hD q0 q1),rW _ _ _ _ _ ((i▸d)),aI aa,c,jT _ _ _ _ _ d,aI aa,aI aa]
 refine h.new ((b▸hk)) (fun v hv=>?_) rfl hr p.k ((b▸p.p)) (fun k hk=>?_) p.h (fun v hv k hk=>?_)
 ·obtain⟨q,hq,rfl⟩:=List.mem_map.1 hv;exact(h.root (f q hq)).2
 ·rw[b] at hk;show ld a.N (S.s.y+1+rl.length) S.s.g (i6 S.s.rs S.s.y (fS a.N S.s.y kd rl.length S.s.ws) rl rl.length) _=_;rw[ef (iW aa aa),rW _ _ _ _ _ aa,aK aa,lh (fun q=>W.rs.getD q (0,0)) rl k 0 (0,0) hk,<-(h.root (f _ (getD_in hk))).1,show((S.s.y:Int)+1+k).toNat-S.s.y-1=k by omega]
 ·exact keep _ (hv.imp (fun e=>nl h.kv.inv.full e (Int.natCast_nonneg k) hk) (fun e=>nm h.kv.inv.full e (Int.natCast_nonneg k) hk))
theorem cD.KT (h:cD a S W m Y G)(hb:cM a S.s)(hg:∀T wt,eX T wt->dL T wt (g T wt))(mm:Int):(S.room a mm).1=(W.room g a.N a.O mm).1/\∃e f i,cD a (S.room a mm).2 (W.room g a.N a.O mm).2 e f i:=by
 have b:=hg _ _ h.iv;unfold cv.room cn.room;rw[h.us hb];by_cases c:mm<=(a.N:Int)-S.s.y
 ·rw[aK c,aK c];exact⟨rfl,m,Y,G,h⟩
 ·rw[aI c,aI c];by_cases d:(S.s.y:Int)<=(a.O:Int)-S.s.g
  ·rw[aK d,bB aa];exact⟨h.BH hb b,h.cut hb b⟩
  ·rw[aI d,bm aa];exact⟨h.iM hb b,h.dD hb b⟩
def mR (a:Wc)(t:Int×Int×cv)(u:(Int×Int)×Int×cn):Prop:=t.2.1=u.2.1/\∃b c d,cD a t.2.2 u.2.2 b c d/\(t.2.1=0->t.1=wv b u.1/\dG u.2.2.T u.1)
theorem cD.grown (h:cD a S W m Y G)(ok:dX a S j)(hb:cM a S.s)(hg:∀T wt,eX T wt->dL T wt (g T wt)){kd:Int}{rl:List Nat}(hk:hc kd rl.length=0)(i:∀q∈rl,q<12):mR a (S.b_ a kd rl) (W.b_ g a.N a.O kd (rl.map (fun q=>W.rs.getD q (0,0)))):=by
 obtain⟨b,k,l,n,f⟩:=h.KT hb hg _;obtain⟨ok',o,hr,_⟩:=ok.room hb _;have hl:=i3 kd rl.length hk;unfold mR cv.b_ cn.b_;rw[aZ];by_cases c:(S.room a (1+rl.length)).1=0
 ·rw[aK c,aK (b.symm.trans c)];rw[<-(KR W g a.N a.O (1+rl.length))];refine⟨rfl,_,_,_,(f.made o hk aa i),fun _=>⟨?_,⟨fun _=>⟨ac,?_⟩,fun e=>absurd rfl e⟩⟩⟩
  ·rw[iP rfl];unfold nO;simp
  ·have:=(Bj (t:=(kd,rl.map (fun q=>(W.room g a.N a.O (1+rl.length)).2.rs.getD q (0,0)),false,false)) rfl (W.room g a.N a.O (1+rl.length)).2.T.length).2 (aL rfl)
   simpa[cn.put] using this
 ·rw[aI c,aI (fun d=>c (b.trans d))];exact⟨b,k,l,n,f,fun d=>absurd d c⟩
theorem cD.kx (h:cD a S W m Y G)(hb:cM a S.s){v:Int×Int}(hv:dG W.T v):(S.kx a (wv m v)=5↔iO W.T v=true)/\((S.ex a (wv m v)=0/\S.kx a (wv m v)≠5)↔kJ W.T v=true)/\(S.ex a (wv m v)=0↔v.1=3)/\(v.1≠3->S.ex a (wv m v)=2)/\(v.1=3->S.fx a (wv m v)=((W.T.getD v.2.toNat t0).2.1.length:Int)):=by
 rw[ri,jL];unfold cv.kx cv.ex cv.fx;rw[h.tB hb hv];by_cases c:v.1=3
 ·have d:(v.1==3)=true:=by simpa using c
  obtain⟨e,f,g⟩:=h.parts (hv.t c).2;rw[d,aK rfl,aK rfl,aK rfl,(h.vt hb hv c).2,e,f,g];exact⟨⟨fun b=>⟨c,b⟩,fun b=>b.2⟩,⟨fun b=>⟨c,b.2⟩,fun b=>⟨rfl,b.2⟩⟩,⟨fun _=>c,fun _=>rfl⟩,fun b=>absurd c b,fun _=>rfl⟩
 ·simp_all
theorem cD.BJ (h:cD a S W m Y G){A:Nat}(d:A<12)(I:Int):W.fc (W.rs.getD A (0,0)) I=W.gc A I:=by
 obtain⟨_,hv⟩:=h.root d;unfold cn.fc cn.gc cn.th;by_cases c:(W.rs.getD A (0,0)).1=3
 ·rw[aK c];by_cases c5:(W.T.getD (W.rs.getD A (0,0)).2.toNat t0).1=5
  ·rw[aI (fun b=>(jL.1 b).2 c5),aK (aL (show(W.T.getD (W.rs.getD A (0,0)).2.toNat (0,[],false,false)).1=5 from c5))]
  ·have e:¬((W.rs.getD A (0,0)).2<0\/(W.T.getD (W.rs.getD A (0,0)).2.toNat (0,[],false,false)).1=5):=fun b=>b.elim (fun b=>absurd (hv.t c).1 aa) c5;rw[aK (jL.2 ⟨c,c5⟩),aI e];rfl
 ·rw[aI c,aI (fun b=>c (jL.1 b).1),aK (aM ae)]
theorem cD.cT (h:cD a S W m Y G)(hb:cM a S.s){v:Int×Int}(hv:dG W.T v)(g:v.1=3):dV (wv m v) S.q=dV v.2 W.wt:=by
 unfold dV;rw[h.wt,List.findIdx_map];have b:∀e∈W.wt,((we m e).1==wv m v)=(e.1==v.2):=fun e he=>by
  have ho:=h.dB e he;have i:dG W.T (3,e.1):=⟨fun _=>⟨ho.g0,ho.g⟩,fun d=>absurd rfl d⟩
  have f:(we m e).1=wv m (3,e.1):=af;rw[f];by_cases c:e.1=v.2
  ·have:((3,e.1):Int×Int)=v:=by rw[<-g,c]
   rw[this,c];simp
  ·have n1:_:=fun d=>c (by have:=h.Bh hb i hv d;rw[<-this])
   rw[beq_eq_false_iff_ne.2 n1,beq_eq_false_iff_ne.2 c]
 generalize W.wt=l at b
 induction l with
 |nil=>rfl
 |cons e l j=>
  rw[List.findIdx_cons,List.findIdx_cons];have f:((fun e=>e.1==wv m v)∘we m) e=(e.1==v.2):=b e List.mem_cons_self;rw[f,j (fun x k=>b x (aX _ k))]
theorem cD.popped (h:cD a S W m Y G)(hb:cM a S.s){v:Int×Int}(hv:dG W.T v):mR a (S.pop a (wv m v)) (W.pop v):=by
 obtain⟨k1,_⟩:=h.kx hb hv;unfold mR cv.pop cn.pop;by_cases c:iO W.T v=true
 ·rw[aK (k1.2 c),aK c,h.cT hb hv (ri.1 c).1];have f:S.q.length=W.wt.length:=by rw[h.wt,aZ]
  rw[f];generalize dV v.2 W.wt=i;by_cases b:i<W.wt.length
  ·rw[aK b,aK b];have ho:=h.dB _ (getD_in (x:=(0,0)) b)
   refine⟨rfl,m,Y,G,?_,fun _=>⟨?_,⟨fun _=>⟨ho.h0,ho.h⟩,fun e=>absurd rfl e⟩⟩⟩
   ·have d:=h.beside (q:=W.wt.take i++W.wt.drop (i+1)) h.gv (fun e he=>h.dB e ((List.mem_append.1 he).elim (fun b=>List.mem_of_mem_take b) (fun b=>List.mem_of_mem_drop b)))
    rw[List.map_append,List.map_take,List.map_drop,<-h.rg,<-h.wt] at d;exact d
   ·show(S.q.getD i (0,0)).2=wv m (3,(W.wt.getD i (0,0)).2)
    rw[h.wt,lh (we m) W.wt i (0,0) (0,0) b,iP rfl];rfl
  ·rw[aI b,aI b];exact⟨rfl,m,Y,G,h,fun e=>absurd (show(4:Int)=0 from e) ae⟩
 ·rw[aI (fun b=>c (k1.1 b)),aI c];exact⟨rfl,m,Y,G,h,fun e=>absurd (show(2:Int)=0 from e) ae⟩
theorem cD.KU (h:cD a S W m Y G)(hb:cM a S.s){v:Int×Int}(hv:dG W.T v):mR a (S.len a (wv m v)) (if kJ W.T v=true then((1,((W.T.getD v.2.toNat t0).2.1.length:Int)),0,W) else((0,0),2,W)):=by
 obtain⟨_,b,_,_,k5⟩:=h.kx hb hv;unfold mR cv.len;by_cases c:kJ W.T v=true
 ·have hl:=h.tl v.2.toNat;have ev:vc 1 ((W.T.getD v.2.toNat t0).2.1.length:Int)=0:=by generalize (W.T.getD v.2.toNat t0).2.1.length=n at hl;have:∀n:Fin 13,vc 1 ((n.val:Nat):Int)=0:=ae;exact this ⟨n,aa⟩
  rw[aK (b.2 c),aK c,k5 (jL.1 c).1];exact⟨ev,m,Y,G,h,fun _=>⟨af,dG.of ae ev⟩⟩
 ·rw[aI (fun d=>c (b.1 d)),aI c];exact⟨rfl,m,Y,G,h,fun e=>absurd (show(2:Int)=0 from e) ae⟩
theorem cD.got (h:cD a S W m Y G)(hb:cM a S.s){A:Nat}(b:A<12)(I:Int):mR a ((if eD a.N S.s.y S.s.g S.s.ws (S.s.rs.getD A 0) I=0 then ld a.N S.s.y S.s.g S.s.ws (cq (S.s.rs.getD A 0)+1+I) else 0),eD a.N S.s.y S.s.g S.s.ws (S.s.rs.getD A 0) I,S)
 ((if W.fc (W.rs.getD A (0,0)) I=0 then(W.T.getD (W.rs.getD A (0,0)).2.toNat t0).2.1.getD I.toNat (0,0) else(0,0)),W.fc (W.rs.getD A (0,0)) I,W):=by
 have code:=h.code hb b I;rw[h.BJ b];refine⟨code,m,Y,G,h,fun e=>?_⟩
 have c:=e;obtain⟨er,hv⟩:=h.root b;obtain⟨d,i,t3,g⟩:=ni c;rw[er,h.tB hb hv] at d;have c3:(W.rs.getD A (0,0)).1=3:=by simpa using d
 obtain⟨z,al⟩:=hv.t c3;rw[er,(h.vt hb hv c3).2,h.kv.inv.full.stands hb.y1 (h.mem al),(h.parts al).2.1] at g;have hB:I.toNat<(W.T.getD (W.rs.getD A (0,0)).2.toNat t0).2.1.length:=aa;have f:=h.fd _ al I.toNat hB;rw[Int.toNat_of_nonneg t3] at f;rw[aK c,aK (code.symm.trans c),er,(h.vt hb hv c3).2];exact⟨f,h.fv _ al _ (getD_in hB)⟩
def lr (a:Wc)(t:Int×cv)(u:Int×cn):Prop:=t.1=u.1/\∃b c d,cD a t.2 u.2 b c d
theorem cD.KV (h:cD a S W m Y G)(hb:cM a S.s){v u:Int×Int}(hv:dG W.T v)(d:dG W.T u):lr a (S.reg a (wv m v) (wv m u)) (W.reg v u):=by
 obtain⟨_,_,i,k,_⟩:=h.kx hb hv;obtain⟨k1,_⟩:=h.kx hb d;have l:S.r.length+S.q.length=W.rg.length+W.wt.length:=by rw[h.rg,h.wt,aZ,aZ]
 unfold lr cv.reg cn.reg;rw[l];by_cases c:v.1=3
 ·rw[aK (i.2 c)];by_cases b:iO W.T u=true
  ·rw[aK (k1.2 b),aK (show v.1=3/\iO W.T u=true from⟨c,b⟩)];by_cases f:24<=W.rg.length+W.wt.length
   ·rw[aK f,aK f];exact⟨rfl,m,Y,G,h⟩
   ·rw[aI f,aI f];obtain⟨g,n⟩:=ri.1 b;have o:gq W.T (u.2,v.2):=⟨(d.t g).1,(d.t g).2,n,(hv.t c).1,(hv.t c).2⟩
    have j:=h.beside (fun e he=>by
     rcases List.mem_append.1 he with q|q
     ·exact h.gv e q
     ·rw[List.mem_singleton.1 q];exact o) h.dB
    have p:(W.rg++[(u.2,v.2)]).map (we m)=S.r++[(wv m u,wv m v)]:=by rw[List.map_append,<-h.rg,iP c,iP g];rfl
    rw[p,<-h.wt] at j;exact⟨rfl,m,Y,G,j⟩
  ·rw[aI (fun q=>b (k1.1 q)),aI (fun q=>b q.2)];exact⟨rfl,m,Y,G,h⟩
 ·rw[aI (fun q=>c (i.1 q)),aI (fun q=>c q.1),k c];exact⟨rfl,m,Y,G,h⟩
theorem cD.KW (h:cD a S W m Y G)(hb:cM a S.s){A B:Nat}(b:A<12)(hB:B<12)(I:Int):lr a (eD a.N S.s.y S.s.g S.s.ws (S.s.rs.getD A 0) I,S.set a (S.s.rs.getD A 0) I (S.s.rs.getD B 0)) (W.set (W.rs.getD A (0,0)) I (W.rs.getD B (0,0))):=by
 have code:=h.code hb b I;unfold lr cn.set cv.set;rw[h.BJ b];refine⟨code,m,Y,G,?_⟩
 by_cases c0:W.gc A I=0
 ·rw[aK c0];have c:=code.trans c0;obtain⟨er,hv⟩:=h.root b;obtain⟨g,i⟩:=h.root hB;obtain⟨d,l,t3,f⟩:=ni c;rw[er,h.tB hb hv] at d;have c3:(W.rs.getD A (0,0)).1=3:=by simpa using d
  obtain⟨z,al⟩:=hv.t c3;rw[er,(h.vt hb hv c3).2,h.kv.inv.full.stands hb.y1 (h.mem al),(h.parts al).2.1] at f;have hw:gz a.N S.s.y S.s.g S.s.ws (S.s.rs.getD A 0) I (S.s.rs.getD B 0)=S.s.ws.set (m (W.rs.getD A (0,0)).2.toNat+1+(I.toNat:Nat)).toNat (wv m (W.rs.getD B (0,0))):=by unfold gz;rw[aK c,er,(h.vt hb hv c3).2,g];rw[aK (kF h.kv.inv.full (h.mem al) t3 (((h.parts al).2.1▸f))),Int.toNat_of_nonneg t3]
  exact h.store hb al aa i hw (h.kv.set hb A B b I hB)
 ·rw[aI c0];have c:_:=fun e=>c0 (code.symm.trans e)
  obtain⟨j,k⟩:=oz c;rw[j,k];exact h
theorem KX (n:Nat)(h:n<=12):hc 2 (n:Int)=0:=by have:∀n:Fin 13,hc 2 ((n.val:Nat):Int)=0:=ae;exact this ⟨n,aa⟩
theorem cD.rt (h:cD a S W m Y G)(ok:dX a S j)(hb:cM a S.s)(hg:∀T wt,eX T wt->dL T wt (g T wt)){k R A B n:Int}(I:Int)(p:d4 k R A B n=0):mR a (S.rt a k A.toNat B.toNat I n) (W.rt g a.N a.O k A.toNat B.toNat I n):=by
 have b:di k=3\/di k=6\/di k=7->A.toNat<12:=fun s=>by have:=lI p s;omega
 have hB:di k=6\/di k=7->B.toNat<12:=fun s=>by have:=me p s;omega
 have two:∀q∈[A.toNat,B.toNat],di k=7->q<12:=fun q hq s=>by simp at hq;omega
 unfold cv.rt cn.rt;by_cases d:k=1
 ·rw[aK d,aK d];subst d;have ev:=Be p;exact⟨ev,m,Y,G,h,fun _=>⟨af,dG.of ae ev⟩⟩
 rw[aI d,aI d];by_cases e:k=3
 ·rw[aK e,aK e];subst e;obtain⟨er,hv⟩:=h.root (b ae)
  exact⟨rfl,m,Y,G,h,fun _=>⟨er,hv⟩⟩
 rw[aI e,aI e];by_cases u:k=4
 ·subst u;exact h.grown ok hb hg (show hc 1 2=0 by decide) (fun q hq=>two q hq ae)
 rw[aI u,aI u];by_cases v:k=5
 ·subst v;have hn:=Bd p;have:=h.grown ok hb hg (kd:=2) (rl:=List.replicate n.toNat A.toNat) ((List.length_replicate▸KX _ aa)) (fun q hq=>(List.eq_of_mem_replicate hq▸b ae))
  rw[List.map_replicate] at this
  exact this
 rw[aI v,aI v];by_cases e6:k=6
 ·subst e6;exact h.grown ok hb hg (show hc 3 2=0 by decide) (fun q hq=>two q hq ae)
 rw[aI e6,aI e6];by_cases w:k=7
 ·subst w;exact h.grown ok hb hg (show hc 4 2=0 by decide) (fun q hq=>two q hq ae)
 rw[aI w,aI w];by_cases t:k=8
 ·rw[aK t,aK t];exact h.grown ok hb hg ae (fun q hq=>by cases hq)
 rw[aI t,aI t];by_cases f:k=10
 ·rw[aK f,aK f];subst f;obtain⟨er,hv⟩:=h.root (b ae)
  rw[er];exact h.popped hb hv
 rw[aI f,aI f];by_cases i:k=11
 ·rw[aK i,aK i];subst i;exact h.got hb (b ae) I
 rw[aI i,aI i];by_cases l:k=13
 ·rw[aK l,aK l];subst l;obtain⟨er,hv⟩:=h.root (b ae)
  rw[er];exact h.KU hb hv
 rw[aI l,aI l];by_cases o:k=14
 ·rw[aK o,aK o];subst o;obtain⟨er,hv⟩:=h.root (b ae)
  obtain⟨x,F⟩:=h.root (hB ae)
  rw[er,x];by_cases c:W.rs.getD A.toNat (0,0)=W.rs.getD B.toNat (0,0)
  ·rw[aK (by rw[c]),aK c];exact⟨rfl,m,Y,G,h,fun _=>⟨af,dG.of ae ae⟩⟩
  ·rw[aI (fun N=>c (h.Bh hb hv F N)),aI c];exact⟨rfl,m,Y,G,h,fun _=>⟨by assumption,dG.of ae ae⟩⟩
 rw[aI o,aI o];exact⟨rfl,m,Y,G,h,fun _=>⟨af,dG.nil _⟩⟩
theorem cD.hds (h:cD a S W m Y G)(ok:dX a S j)(hb:cM a S.s)(hg:∀T wt,eX T wt->dL T wt (g T wt))(k R A B I n:Int):lr a (S.hd a k R A B I n) (W.gm g a.N a.O k R A B I n):=by
 have f:=hg _ _ h.iv;unfold cv.hd cn.gm;by_cases b:d4 k R A B n=0
 ·rw[aK b,aK b];have p:di k=3\/di k=6\/di k=7->A.toNat<12:=fun l=>by have:=lI b l;omega
  have hB:di k=6\/di k=7->B.toNat<12:=fun l=>by have:=me b l;omega
  by_cases d:k=9
  ·rw[aK d,aK d];subst d;obtain⟨er,hv⟩:=h.root (p ae)
   obtain⟨ad,ag⟩:=h.root (hB ae)
   rw[er,ad];exact h.KV hb hv ag
  rw[aI d,aI d];by_cases e:k=12
  ·rw[aK e,aK e];subst e;exact h.KW hb (p ae) (hB ae) I
  rw[aI e,aI e];by_cases i:k=15
  ·rw[aK i,aK i];exact⟨h.BH hb f,h.cut hb f⟩
  rw[aI i,aI i];by_cases e16:k=16
  ·rw[aK e16,aK e16];exact⟨h.iM hb f,h.dD hb f⟩
  rw[aI e16,aI e16];have ht:=h.rt ok hb hg I b;obtain⟨o1,q,_⟩:=ok.rt hb A.toNat B.toNat I (vf b)
  generalize S.rt a k A.toNat B.toNat I n=t at*;generalize W.rt g a.N a.O k A.toNat B.toNat I n=u at*;obtain⟨x,cd,ai⟩:=t;obtain⟨v,al,am⟩:=u;obtain⟨s,w,F,N,o,ab⟩:=ht;dsimp only at s o ab q⊢;subst s;by_cases c:cd=0
  ·rw[aK c,aK c];obtain⟨ex,hv⟩:=ab c;subst ex;exact⟨rfl,w,F,N,o.put q R.toNat hv⟩
  ·rw[aI c,aI c];exact⟨rfl,w,F,N,o⟩
 ·rw[aI b,aI b];exact⟨rfl,m,Y,G,h⟩
end
namespace pY
def begins (n:Nat):Code->Bool
 |.region m _ _=>m==n
 |.seq a _=>begins n a
 |_=>false
def find (n:Nat):Code->Option Code
 |.seq a b=>match begins n a with
  |true=>some (.seq a b)
  |false=>match find n a with
   |some c=>some c
   |none=>find n b
 |.cond _ a b=>match find n a with
  |some c=>some c
  |none=>find n b
 |.block _ c=>find n c
 |.loop c=>find n c
 |.scope c=>find n c
 |_=>none
theorem gN {c:Type}(l:List c)(i:Nat)(a b:c):(l.set i a).set i b=l.set i b:=ac
end pY
namespace dR
def begins:=pY.begins
abbrev find:=pY.find
end dR
namespace pY
end pY
namespace dR
end dR
namespace dR
end dR
namespace dR
end dR
section
variable {a:Wc}{S:cv}{W:cn}{m:Nat->Int}{Y G:List Int}
theorem dG.vq {T:List cI}{v:Int×Int}(hv:dG T v)(d:T.length<=10000):fg T v:=by
 refine⟨?_,hv.t⟩
 by_cases b:v.1=3
 ·obtain⟨h0,c⟩:=hv.t b;have:=c.1;rw[b];exact nT _ h0 aa
 ·exact hv.o b
abbrev rX (W:cn)(x:Int):Prop:=0<=x/\cz W.T x.toNat
abbrev rY (m:Nat->Int)(x:Int):Int:=m x.toNat
theorem cD.vF (h:cD a S W m Y G)(hb:cM a S.s)(c:W.T.length<=10000){v:Int×Int}(hv:dG W.T v):lP (rX W) (rY m) (gI v) (wv m v):=by
 obtain⟨d,e⟩:=nH (hv.vq c)
 obtain⟨_,f,g⟩:=h.dec hb hv;unfold lP;rw[d,e,f,g];by_cases b:v.1=3
 ·rw[aK b];exact aM ⟨b,b,hv.t b,rfl⟩
 ·rw[aI b];exact aL ⟨b,rfl,rfl⟩
theorem cD.bi (h:cD a S W m Y G)(hb:cM a S.s)(g:W.T.length<=10000):pD (rX W) (rY m) (tI W.T.length) (g_ W.T) (hC W.T W.wt) (Y++G) (fun v=>pk (ld a.N S.s.y S.s.g S.s.ws v)) (e9 a.N S.s.y S.s.g S.s.ws S.q):=by
 refine⟨fun x b=>pP.2 ⟨b.1,by have:=b.2.1;have:=b.1;omega⟩,fun x b=>List.mem_append.2 (h.mem b.2),fun x y b hy e=>?_,fun x b=>?_,fun x b=>?_⟩
 ·have:=h.inj _ _ b.2 hy.2 e;have:=b.1;have:=hy.1;omega
 ·exact(h.parts b.2).1
 ·obtain⟨p,hi⟩:=b;obtain⟨i,rfl⟩:=Int.eq_ofNat_of_zero_le p;rw[Int.toNat_natCast] at hi;obtain⟨j,q,_⟩:=h.parts hi;have hv:=h.mem hi;show jx _ _ (e9 a.N S.s.y S.s.g S.s.ws S.q (m ((i:Int)).toNat))
  unfold hC;rw[Int.toNat_natCast];by_cases d:(W.T.getD i t0).1=5
  ·have hl:(W.T.getD i t0).2.1=[]:=by have f:=(h.hd i hi).1;rw[d] at f;simp[hc] at f;exact f
   rw[aK d,hl,List.map_nil,List.nil_append];unfold e9;rw[aK (by rw[j];exact d)];unfold eu;rw[h.wt,lS (we m) (fun e=>e.1==ew 3 (m i)) (fun e=>e.1==(i:Int)) W.wt (fun e he=>?_),List.map_map]
   ·have key:∀l:List ce,(∀e∈l,gq W.T e)->jx (lP (rX W) (rY m)) (l.map (fun e=>ew 3 e.2)) (l.map ((·.2)∘we m)):=by
     intro l
     induction l with
     |nil=>intro _;trivial
     |cons e l s=>
      intro hl;have he:=hl e ac;refine⟨?_,s (fun x b=>hl x (aX _ b))⟩
      have:=h.vF hb g (v:=(3,e.2)) ⟨fun _=>⟨he.h0,he.h⟩,fun c=>absurd rfl c⟩
      exact this
    exact key _ (fun e he=>h.dB e (List.mem_filter.1 he).1)
   ·have he:=h.dB e he;show(ew 3 _==ew 3 (m i))=(e.1==(i:Int))
    by_cases n:e.1=(i:Int)
    ·rw[n,Int.toNat_natCast];simp
    ·have n1:ew 3 (m e.1.toNat)≠ew 3 (m i):=fun c=>by have c1:=(h.word hb he.g).2.2;rw[c,(h.word hb hi).2.2] at c1;have:=h.inj _ _ hi he.g c1;have:=he.g0;omega
     rw[beq_false_of_ne n1,beq_false_of_ne n]
  ·rw[aI d,List.append_nil];have o:pk (ld a.N S.s.y S.s.g S.s.ws (m i))≠5:=by rw[j];exact d
   have l1:=zj h.kv.inv.full hb.y1 S.q hv o;rw[q] at l1;have l1:(e9 a.N S.s.y S.s.g S.s.ws S.q (m i)).length=(W.T.getD i t0).2.1.length:=aa;refine jx.of (by rw[aZ];exact l1.symm) (fun k hk=>?_)
   rw[aZ] at hk;rw[(GQ h.kv.inv.full hb.y1 S.q hv o).1 k aa,lh gI _ k (0,0) 0 hk,h.fd i hi k hk];exact h.vF hb g (h.fv i hi _ (getD_in hk))
theorem cD.view (h:cD a S W m Y G)(hb:cM a S.s)(b:W.T.length<=10000):(iJ a.N S.s.y S.s.g S.s.ws S.q S.s.rs).1=(dR.ez W.T W.wt W.rs).1/\(iJ a.N S.s.y S.s.g S.s.ws S.q S.s.rs).2.2=(dR.ez W.T W.wt W.rs).2.2:=by
 obtain⟨c,d⟩:=h.kv.inv.full.lists hb.n1 hb.y1 hb.o1 hb.g1;have hl:jx (lP (rX W) (rY m)) (W.rs.map gI) S.s.rs:=by
  rw[h.rs];refine jx.of ac (fun i hi=>?_)
  rw[aZ] at hi;rw[lh gI _ i (0,0) 0 hi,lh (wv m) _ i (0,0) 0 hi];exact h.vF hb b (h.rv _ (getD_in hi))
 unfold iJ dR.ez;rw[c,d];obtain⟨b1,b2,_⟩:=GN (h.bi hb b) hl (by rw[nF];exact aG _) b7
 exact⟨b1.symm,b2⟩
end
structure rZ where
 hp:Nat
 b9:Nat
 rb:Nat
 tp:Nat
 n:Nat
 o:Nat
structure d8 (w1:az)(c:Wc)(t:rZ)(F G:Nat->Prop)(S:cv)(W:cn)(i k:Nat)(w:az):Prop where
 g:(cA c t.hp).J F S w
 r:(cE t.b9 t.n t.o t.rb).J G W w
 tw:w.heap[t.tp]?=some (.cells #[aq t.hp,aq t.b9,ak k,ak 0,ak 0] 71 (0,0))
 oN:¬F t.tp
 tG:¬G t.tp
 pZ:w1.heap.size<=t.tp
 ok:dX c S i
 gi:dO W i
 rl:∃m Y X,cD c S W m Y X
 ap:∀b,F b->¬G b
 fZ:∀b,F b->w1.heap.size<=b
 p4:∀b,G b->w1.heap.size<=b
 be:Below w1.heap.size w1 w
 sz:c.N=t.n/\c.O=t.o/\16<=t.n/\t.n<=256/\t.o<=1024
section
variable {w1 w w':az}{c:Wc}{t:rZ}{i k:Nat}{F G:Nat->Prop}{S:cv}{W:cn}
theorem d8.below (h:d8 w1 c t F G S W i k w)(hb:Below w.heap.size w w'):d8 w1 c t F G S W i k w':=
 ⟨(cA c t.hp).below h.g hb,(cE t.b9 t.n t.o t.rb).below h.r hb,(hb.block t.tp (lt_of_some h.tw)).trans h.tw,h.oN,h.tG,h.pZ,h.ok,h.gi,h.rl,h.ap,h.fZ,h.p4,h.be.trans (hb.mono h.be.size),h.sz⟩
theorem d8.cells (h:d8 w1 c t F G S W i k w):w.cell? (av t.tp 0)=some (aq t.hp)/\w.cell? (av t.tp 1)=some (aq t.b9)/\w.cell? (av t.tp 2)=some (ak k)/\w.cell? (av t.tp 3)=some (ak 0)/\w.cell? (av t.tp 4)=some (ak 0)/\w.frozen? (av t.tp 2)=false:=by refine⟨?_,?_,?_,?_,?_,?_⟩<;>simp[World.cell?,World.frozen?,h.tw]
theorem d8.us (h:d8 w1 c t F G S W i k w):ey W.T=((S.s.y:Int),(S.s.g:Int)):=by obtain⟨m,Y,X,b⟩:=h.rl;exact b.us (pI h.g)
theorem d8.cK (h:d8 w1 c t F G S W i k w)(hi:i<=10000):(iJ c.N S.s.y S.s.g S.s.ws S.q S.s.rs).1=(dR.ez W.T W.wt W.rs).1/\(iJ c.N S.s.y S.s.g S.s.ws S.q S.s.rs).2.2=(dR.ez W.T W.wt W.rs).2.2:=by obtain⟨m,Y,X,b⟩:=h.rl;exact b.view (pI h.g) (aU h.gi.tj hi)
theorem d8.bd (h:d8 w1 c t F G S W i k w)(hi:i<=10000):(dR.ez W.T W.wt W.rs).1.length=12/\(dR.ez W.T W.wt W.rs).2.2.length<=10000/\∀nd∈(dR.ez W.T W.wt W.rs).2.2,nd.2.length<=20000:=by obtain⟨q1,b,q3⟩:=Bf (h.gi.vd hi) W.rs;exact⟨q1.trans h.gi.rl,b,q3⟩
theorem d8.KY (h:d8 w1 c t F G S W i k w):Calls prog 22 #[aq c.p] w fun e w'=>e=.returned (.tuple #[ak (ey W.T).1,ak (ey W.T).2])/\Below w.heap.size w w':=by rw[h.us];exact HZ h.g
theorem d8.KZ (h:d8 w1 c t F G S W i k w)(hi:i<=10000):Calls prog 137 #[aq t.b9] w fun e w'=>e=.returned (.tuple #[ak (ey W.T).1,ak (ey W.T).2])/\Below w.heap.size w w':=by obtain⟨gl,b,_⟩:=h.r;exact uN b h.gi.tl (aU h.gi.tj hi)
theorem d8.BK (h:d8 w1 c t F G S W i k w)(hi:i<=10000):Calls prog 25 #[aq c.pw] w fun e w'=>∃b f d g,e=.returned (.agg #[.slice b 12 f,.slice d (dR.ez W.T W.wt W.rs).2.2.length g])/\jo w' w.heap.size b (dR.ez W.T W.wt W.rs).1/\i5 w' w.heap.size d (dR.ez W.T W.wt W.rs).2.2/\Below w.heap.size w w':=by obtain⟨v1,v2⟩:=h.cK hi;rw[<-v1,<-v2];exact HY h.g (by have:=h.ok.k7;omega)
theorem d8.K0 (h:d8 w1 c t F G S W i k w)(hi:i<=10000):Calls prog 138 #[aq t.b9] w fun e w'=>∃b f d g,e=.returned (.agg #[.slice b 12 f,.slice d (dR.ez W.T W.wt W.rs).2.2.length g])/\jo w' w.heap.size b (dR.ez W.T W.wt W.rs).1/\i5 w' w.heap.size d (dR.ez W.T W.wt W.rs).2.2/\Below w.heap.size w w':=by
 obtain⟨gl,j,_⟩:=h.r;refine(Kk j (h.gi.vd hi) h.gi.g5 h.gi.rv).mono ?_;rintro e w' ⟨b,f,d,o,g,rfl,l,m,rfl,n⟩
 exact⟨b,f,d,g,rfl,l,m,n⟩
theorem K1 (h:d8 w1 c t F G S W i k w)(hi:i<=10000):Calls prog 69 #[aq t.tp] w fun e w'=>e=.returned (.bool true)/\Below w.heap.size w w':=by
 have j:=h.bd hi;have l:=c7 h hi;obtain⟨q0,q1,_⟩:=fe h.g;obtain⟨q,s,_⟩:=h.cells;have P:=h.KY;have ap:aA (∀(r1 m n1 n:Option Addr)(u v x B:Nat)(w':az),dz w' r1 (dR.ez W.T W.wt W.rs).1->dz w' m (dR.ez W.T W.wt W.rs).1->Ln w' n1 (dR.ez W.T W.wt W.rs).2.2->Ln w' n (dR.ez W.T W.wt W.rs).2.2->Calls prog 30 #[.agg #[.slice r1 12 u,.slice n1 (dR.ez W.T W.wt W.rs).2.2.length x],.agg #[.slice m 12 v,.slice n (dR.ez W.T W.wt W.rs).2.2.length B]] w' fun e ar=>e=.returned (.bool true)/\Below w'.heap.size w' ar):=fun r1 m n1 n u v x B w' aB aF aR aV=>by have:=C5 r1 m n1 n u v x B _ _ w' (by rw[j.1];decide) (by have:=j.2.1;omega) (fun nd a0=>by have:=j.2.2 nd a0;omega) aB aF aR aV;rwa [j.1] at this
 go_enter func69,ntmps69;go_wp2_with fail;refine P.mono ?_;rintro e bs ⟨rfl,ad⟩
 have d:=c7 (l.o.1.below ad) ad;obtain⟨q,s,_⟩:=d.o.1.cells;go_wp2_with fail;refine(d.o.1.KZ l.o.2).mono ?_;rintro e ag ⟨rfl,ai⟩
 have f:=c7 (d.o.1.below ai) (d.o.2.trans (ai.mono d.o.2.size))
 have o:=c7 (f.o.1.below (aH _ ag).drew) (f.o.2.trans ((aH _ ag).drew.mono f.o.2.size))
 obtain⟨q,s,_⟩:=f.o.1.cells;obtain⟨q0,q1,_⟩:=fe f.o.1.g;have a1:=o.o.1.BK l.o.2;have a2:aA (∀w',d8 w1 c t F G S W i k w'->_):=fun w' h=>h.K0 l.o.2;generalize (ey W.T).1=bt at*;generalize (ey W.T).2=bx at*;generalize dR.ez W.T W.wt W.rs=a3 at*;obtain⟨b0,ms,b1⟩:=a3;go_wp2_with fail
 go_region_held3 (fun w'=>w'.cell? (av t.tp 0)=some (aq t.hp)/\w'.cell? (av t.tp 1)=some (aq t.b9)/\w'.cell? (av t.hp 0)=some (aq c.pw)) (first|exact⟨u0,al,am⟩|exact⟨z0,ba,bb⟩|exact⟨q,s,q0⟩|(go_keep;done)) (first
  |(go_at_call 25;refine a1.mono ?_;rintro e N ⟨bd,be,bg,bi,rfl,bl,bn,an⟩;have b:aA ((d8 w1 c t F G S W i k N/\Below w.heap.size w N)/\_/\_):=⟨⟨o.o.1.below an,o.o.2.trans (an.mono o.o.2.size)⟩,bl.1,bn.ln⟩;obtain⟨z0,ba,_⟩:=b.o.1.1.cells;obtain⟨bb,_⟩:=fe b.o.1.1.g)
  |(go_at_call 138;refine(a2.o N b.o.1.1).mono ?_;rintro e bo ⟨rc,dc,nd,ne,rfl,bp,br,p⟩;have g:=c7 (b.o.1.1.below p) (b.o.1.2.trans (p.mono b.o.1.2.size));obtain⟨u0,al,_⟩:=g.o.1.cells;obtain⟨am,_⟩:=fe g.o.1.g)
  |(go_at_call 30;refine(ap.o bd rc bg nd be dc bi ne bo (b.o.2.1.below p) bp.1 (b.o.2.2.below p) br.ln).mono ?_;rintro e b2 ⟨rfl,ao⟩;have ab:=c7 (g.o.1.below ao) (g.o.2.trans (ao.mono g.o.2.size));obtain⟨u0,al,_⟩:=ab.o.1.cells;obtain⟨am,_⟩:=fe ab.o.1.g))
 go_wp2_with fail;go_ret;exact⟨rfl,ab.o.2⟩
end
theorem jB {w:az}{b:Nat}{u v:Value}{T:TypeId}(h:w.heap[b]?=some (.cells #[u,v] T (0,0))):w.cell? (av b 0)=some u/\w.cell? (av b 1)=some v/\w.frozen? (av b 0)=false/\w.frozen? (av b 1)=false:=by refine⟨?_,?_,?_,?_⟩<;>simp[World.cell?,World.frozen?,h]
theorem K2 (n o:Nat)(w:az)(h0:16<=n)(g:n<=256)(B:o<=1024):
 Calls prog 28 #[ak n,ak o] w fun e w'=>∃c t F G,e=.returned (.tuple #[aq t.tp,.agg #[ak 0,ak 0]])/\(t.n=n/\t.o=o)/\d8 w c t F G (f6 n o).1 (f6 n o).2 0 0 w':=by
 have aB:=aw w (.cells #[.int .i64 0,.int .i64 0] 28)
 have P:=Fq n o (w.alloc (.cells #[.int .i64 0,.int .i64 0] 28)) h0 g B;have aF:=aP w (.cells #[.int .i64 0,.int .i64 0] 28)
 have aR:w.heap.size<(w.alloc (.cells #[.int .i64 0,.int .i64 0] 28)).heap.size:=ac;have aV:=hide aB;have ag:aA ((∀w',Calls prog 67 #[ak n,ak o] w' fun e ai=>∃b9 rb F,e=.returned (.tuple #[aq b9,.agg #[ak 0,ak 0]])/\(cE b9 n o rb).J F nM ai/\(∀b,F b->w'.heap.size<=b)/\Below w'.heap.size w' ai)/\_/\_/\_):=⟨fun w'=>J6 n o w' h0 g B,h0,g,B⟩
 go_enter func28,ntmps28;go_wp2_with fail;generalize w.alloc (.cells #[.int .i64 0,.int .i64 0] 28)=w0 at*;generalize a0:w.heap.size=fb at*;refine P.mono ?_;rintro e w1 ⟨c,hp,F,rfl,J,⟨a1,co⟩,lo,al⟩
 have am:=(al.block fb aR).trans aF;have a2:=lt_of_some am;have N:=aw w1 (.cells #[.int .i64 0,.int .i64 0] 28)
 have a3:=aP w1 (.cells #[.int .i64 0,.int .i64 0] 28)
 have an:=c7 a1 co;have u:aA (_/\(∀b,F b->fb<b/\b<w1.heap.size)/\_):=⟨(cA c hp).below J N,fun b d=>⟨by have:=lo b d;omega,(cA c hp).lt J b d⟩,(aV.o.trans (al.mono aa)).trans (N.mono aa)⟩
 have l:=c7 ((N.block fb a2).trans am) a3;go_wp2_with fail;generalize w1.alloc (.cells #[.int .i64 0,.int .i64 0] 28)=ba at*;generalize w1.heap.size=f at*;refine(ag.o.1 ba).mono ?_;rintro e i ⟨b9,rb,G,rfl,ao,ap,q⟩
 have S:=(q.block fb (lt_of_some l.o.1)).trans l.o.1;have W:=(q.block f (lt_of_some l.o.2)).trans l.o.2;obtain⟨bn,y1,z0,bo⟩:=jB W;obtain⟨u0,bb,t0,bp⟩:=jB S;have nx:f≠fb:=aa;have br:=lt_of_some W;have bs:=lt_of_some S;have bd:aA (_/\_/\_/\(∀b,G b->f<b)/\_):=⟨(cA c hp).below u.o.1 q,ao,u.o.2.1,fun b d=>by have g:=ap b d;have be:=lt_of_some l.o.2;omega,u.o.2.2.trans (q.mono (by have:=lt_of_some l.o.1;omega))⟩
 clear ao ap q S W l u;go_wp2_with fail;obtain⟨j,m⟩:∃j,j=(((i.setCell ⟨f,0,none⟩ (.int .i64 0)).setCell ⟨f,1,none⟩ (.int .i64 0)).setCell ⟨fb,0,none⟩ (.int .i64 0)).setCell ⟨fb,1,none⟩ (.int .i64 0):=⟨_,rfl⟩
 rw[<-m];have v0:j.cell? (av fb 0)=some (ak 0):=by rw[m,aY _ _ _ _ ac];exact a_ _ _ _ ((aY _ ⟨f,1,none⟩ ⟨fb,0,none⟩ _ (fun e=>absurd (congrArg Addr.block e) nx)).trans ((aY i ⟨f,0,none⟩ ⟨fb,0,none⟩ _ (fun e=>absurd (congrArg Addr.block e) nx)).trans u0))
 have v1:j.cell? (av fb 1)=some (ak 0):=by rw[m];exact a_ _ _ _ ((aY _ ⟨fb,0,none⟩ ⟨fb,1,none⟩ _ ac).trans ((aY _ ⟨f,1,none⟩ ⟨fb,1,none⟩ _ (fun e=>absurd (congrArg Addr.block e) nx)).trans ((aY i ⟨f,0,none⟩ ⟨fb,1,none⟩ _ (fun e=>absurd (congrArg Addr.block e) nx)).trans bb)))
 have ab:Fr (fun k=>k=f\/k=fb) i j:=by rw[m];exact((((Fr.refl (fun k=>k=f\/k=fb) i).set f 0 _ (aM rfl)).set f 1 _ (aM rfl)).set fb 0 _ (aL rfl)).set fb 1 _ (aL rfl)
 have bg:j.heap.size=i.heap.size:=by rw[m];simp
 clear m;have s:=aw j (.cells #[.pointer (some ⟨hp,0,none⟩),.pointer (some ⟨b9,0,none⟩),.int .i64 0,.int .i64 0,.int .i64 0] 71)
 have ht:=aP j (.cells #[.pointer (some ⟨hp,0,none⟩),.pointer (some ⟨b9,0,none⟩),.int .i64 0,.int .i64 0,.int .i64 0] 71)
 rw[bg] at ht;have g0:=(s.cell (p:=av fb 0) (by show fb<_;omega)).trans v0;have g1:=(s.cell (p:=av fb 1) (by show fb<_;omega)).trans v1;obtain⟨k1,ar,x,ad,k5⟩:=bd.o;have bi:=k5.trans (ab.below aa (fun k e=>by rcases e with rfl|rfl<;>omega))
 have bl:d8 w c ⟨hp,b9,rb,i.heap.size,n,o⟩ F G (f6 n o).1 (f6 n o).2 0 0 (j.alloc (.cells #[.pointer (some ⟨hp,0,none⟩),.pointer (some ⟨b9,0,none⟩),.int .i64 0,.int .i64 0,.int .i64 0] 71)):=
  ⟨(cA c hp).below ((cA c hp).fr k1 ab (fun b hd e=>by have:=x b hd;rcases e with rfl|rfl<;>omega)) s,(cE b9 n o rb).below ((cE b9 n o rb).fr ar ab (fun b hd e=>by have:=ad b hd;rcases e with rfl|rfl<;>omega)) s,ht,fun d=>by have g:=x _ d;have g:i.heap.size<f:=g.2;omega,fun d=>by have g:=(cE b9 n o rb).lt ar _ d;exact absurd g (Nat.lt_irrefl _),by show w.heap.size<=i.heap.size;omega,dX.start c n o,dO.start,⟨_,_,_,cD.start c n o⟩,fun b d e=>by have g:=x b d;have be:=ad b e;omega,fun b d=>by have g:=x b d;omega,fun b d=>by have g:=ad b d;omega,by rw[a0];exact bi.trans (s.mono aa),an.o.1,an.o.2,ag.o.2⟩
 refine a5 (v:=.tuple #[aq i.heap.size,.agg #[ak 0,ak 0]]) (by simp only [results,results28];simp[go_sem,g0,g1]) rfl ⟨c,⟨hp,b9,rb,i.heap.size,n,o⟩,F,G,rfl,⟨rfl,rfl⟩,bl⟩
theorem K3 (n o:Int)(w:az)(h:n<16\/256<n\/o<0\/1024<o):
 Calls prog 28 #[ak n,ak o] w fun e w'=>e=.returned (.tuple #[.pointer none,.agg #[ak 1,ak (-1)]])/\Below w.heap.size w w':=by
 have f:=aw w (.cells #[.int .i64 0,.int .i64 0] 28)
 have g:=aP w (.cells #[.int .i64 0,.int .i64 0] 28)
 have P:=HW n o (w.alloc (.cells #[.int .i64 0,.int .i64 0] 28)) h;go_enter func28,ntmps28;go_wp2_with fail;refine P.mono ?_;rintro e w1 ⟨rfl,c⟩
 have i:=(c.block w.heap.size ac).trans g;have hB1:=f.trans (c.mono ac)
 have j:=c.size;simp at j;obtain⟨y0,y1,q,s⟩:=jB i;have l1:w.heap.size<w1.heap.size:=aa;clear c g f i;go_wp2_with fail
 go_region_law (fail)
 all_goals
  obtain⟨b,hW0⟩:∃b,b=(w1.setCell ⟨w.heap.size,0,none⟩ (.int .i64 1)).setCell ⟨w.heap.size,1,none⟩ (.int .i64 (-1)):=⟨_,rfl⟩
  rw[<-hW0];have t:b.heap.size=w1.heap.size:=by rw[hW0];simp[World.setCell]
  have g0:b.cell? (av w.heap.size 0)=some (ak 1):=by exact lE
  have g1:b.cell? (av w.heap.size 1)=some (ak (-1)):=by exact qp
  have l:Below w.heap.size w b:=by exact tt
  have d:=(aw b (.cells #[.int .i64 1,.int .i64 (-1)] 28)).drew;have r0:=(d.cell (p:=av w.heap.size 0) (by show w.heap.size<_;omega)).trans g0;have r1:=(d.cell (p:=av w.heap.size 1) (by show w.heap.size<_;omega)).trans g1;have m:=l.trans (d.mono aa)
  generalize (b.alloc (.cells #[.int .i64 1,.int .i64 (-1)] 28)).drew=u at*;go_wp2_with fail;refine a5 (v:=.tuple #[.pointer none,.agg #[.int .i64 1,.int .i64 (-1)]]) (by simp[results,results28,go_sem,r0,r1]) rfl ⟨rfl,m⟩
section
variable {w1 w w':az}{c:Wc}{t:rZ}{i k:Nat}{F G F' G':Nat->Prop}{S S2:cv}{W W2:cn}{g:eM}
theorem d8.gr (h:d8 w1 c t F G S W i k w)(d:cg F w F' w'):(cE t.b9 t.n t.o t.rb).J G W w'/\(∀b,F' b->¬G b)/\(∀b,F' b->w1.heap.size<=b)/\Below w1.heap.size w1 w'/\w'.heap[t.tp]?=some (.cells #[aq t.hp,aq t.b9,ak k,ak 0,ak 0] 71 (0,0))/\¬F' t.tp:=
 ⟨(cE t.b9 t.n t.o t.rb).fr h.r d.fr (fun k g f=>h.ap k f g),fun b f g=>(d.sub b f).elim (fun c=>h.ap b c g) (fun c=>by have:=(cE t.b9 t.n t.o t.rb).lt h.r b g;omega),fun b f=>(d.sub b f).elim (h.fZ b) (fun c=>aU h.be.size c),h.be.trans (d.fr.below h.be.size (fun k e=>h.fZ k e)),(d.fr.block t.tp (lt_of_some h.tw) h.oN).trans h.tw,fun e=>(d.sub _ e).elim h.oN (fun c=>by have:=lt_of_some h.tw;omega)⟩
theorem d8.of {l:az}{j:Nat}(h:d8 w1 c t F G S W i k w)(q:cg F w F' w')(hg:(cA c t.hp).J F' S2 w')(d:cg G w' G' l)(hr:(cE t.b9 t.n t.o t.rb).J G' W2 l)(ok:dX c S2 j)(hi:dO W2 j)(s:∃m Y X,cD c S2 W2 m Y X):d8 w1 c t F' G' S2 W2 j k l:=by obtain⟨B,o,u,n,p,v⟩:=h.gr q;have x:=lt_of_some p;exact⟨(cA c t.hp).fr hg d.fr (fun k g f=>o k g f),hr,(d.fr.block t.tp x h.tG).trans p,v,fun e=>(d.sub _ e).elim h.tG (fun e=>by omega),h.pZ,ok,hi,s,fun b g f=>(d.sub b f).elim (o b g) (fun e=>by have:=(cA c t.hp).lt hg b g;omega),u,fun b f=>(d.sub b f).elim (h.p4 b) (fun e=>aU n.size e),n.trans (d.fr.below n.size (fun k e=>h.p4 k e)),h.sz⟩
theorem d8.hds (h:d8 w1 c t F G S W i k w)(hg:∀T wt,eX T wt->dL T wt (g T wt))(kd R A B I n:Int):lr c (S.hd c kd R A B I n) (W.gm g t.n t.o kd R A B I n):=by obtain⟨m,Y,X,b⟩:=h.rl;have:=b.hds h.ok (pI h.g) hg kd R A B I n;rwa [h.sz.1,h.sz.2.1] at this
theorem d8.step (h:d8 w1 c t F G S W i k w){fb:Nat}{u v:Value}(l:w1.heap.size<=fb)(m:¬F fb)(n:¬G fb)(d:fb≠t.tp):d8 w1 c t F G S W i (k+1) (((w.setCell ⟨t.tp,2,none⟩ (.int .i64 ((k:Int)+1))).setCell ⟨fb,0,none⟩ u).setCell ⟨fb,1,none⟩ v):=by
 have f:Fr (fun b=>b=t.tp\/b=fb) w (((w.setCell ⟨t.tp,2,none⟩ (.int .i64 ((k:Int)+1))).setCell ⟨fb,0,none⟩ u).setCell ⟨fb,1,none⟩ v):=
  (((Fr.refl (fun b=>b=t.tp\/b=fb) w).set t.tp 2 _ (aM rfl)).set fb 0 _ (aL rfl)).set fb 1 _ (aL rfl)
 refine⟨(cA c t.hp).fr h.g f (fun b g e=>?_),(cE t.b9 t.n t.o t.rb).fr h.r f (fun b j e=>?_),?_,h.oN,h.tG,h.pZ,h.ok,h.gi,h.rl,h.ap,h.fZ,h.p4,h.be.trans (f.below h.be.size (fun b e=>?_)),h.sz⟩
 ·rcases e with rfl|rfl
  ·exact h.oN g
  ·exact m g
 ·rcases e with rfl|rfl
  ·exact h.tG j
  ·exact n j
 ·rw[aW _ _ _ _ (show t.tp≠fb from fun e=>d e.symm),aW _ _ _ _ (show t.tp≠fb from fun e=>d e.symm)];simp only [World.setCell,Array.getElem?_modify,if_true,h.tw,Option.map_some];simp
 ·rcases e with rfl|rfl
  ·exact h.pZ
  ·exact l
theorem K4 (h:d8 w1 c t F G S W i i w)(hg:∀T wt,eX T wt->dL T wt (g T wt))(hi:i<=8000)(kd R A B I n:Int):
 Calls prog 29 #[aq t.tp,d5 kd R A B I n] w fun e w'=>∃F' G',e=.returned (.tuple #[ak (W.gm g t.n t.o kd R A B I n).1,.agg #[ak 0,ak 0]])/\d8 w1 c t F' G' (S.hd c kd R A B I n).2 (W.gm g t.n t.o kd R A B I n).2 (i+1) (i+1) w'/\Fr (fun b=>F b\/G b\/b=t.tp) w w'/\(∀b,F' b->F b\/w.heap.size<=b)/\(∀b,G' b->G b\/w.heap.size<=b):=by
 have aV:=pI h.g;have an:aA (lr c (S.hd c kd R A B I n) (W.gm g t.n t.o kd R A B I n)):=h.hds hg kd R A B I n;have a0:aA (dX c (S.hd c kd R A B I n).2 (i+1)):=(h.ok.hd aV kd R A B I n).1;have a1:aA (dO (W.gm g t.n t.o kd R A B I n).2 (i+1)):=h.gi.gm aa (hg _ _ h.gi.iv) kd R A B I n;have ad:=(aw w (cG kd R A B I n)).alloc ac (.cells #[.int .i64 0,.int .i64 0] 28)
 have j:=wc (h.below ad) h.be.size ((cA c t.hp).lt h.g) ((cE t.b9 t.n t.o t.rb).lt h.r) (lt_of_some h.tw)
 have l:aA (((w.alloc (cG kd R A B I n)).alloc (.cells #[.int .i64 0,.int .i64 0] 28)).heap[w.heap.size]?=some (cG kd R A B I n)/\((w.alloc (cG kd R A B I n)).alloc (.cells #[.int .i64 0,.int .i64 0] 28)).heap[w.heap.size+1]?=some (.cells #[ak 0,ak 0] 28 (0,0))):=⟨by rw[aS _ _ _ ac];exact aP _ _,gb _ _ _⟩
 have a2:aA (∀w',(cE t.b9 t.n t.o t.rb).J G W w'->_):=fun w' a3=>J0 a3 (h.gi.u_ aa) (hg _ _ h.gi.iv) (by have:=h.sz;omega) (by have:=h.sz;omega) (by have:=h.sz;omega) (by have:=h.sz;omega) kd R A B I n;have ba:aA (Fr (fun b=>F b\/G b\/b=t.tp) w ((w.alloc (cG kd R A B I n)).alloc (.cells #[.int .i64 0,.int .i64 0] 28))):=Fr.of ad;have P:=HU (((h.below ad).below b8.drew).g) h.ok aa kd R A B I n;obtain⟨bb,y1,bd,be,bg,bi⟩:=el l.o.1;obtain⟨bl,bn,_,cq,_⟩:=j.o.1.cells;generalize S.hd c kd R A B I n=D at*;generalize W.gm g t.n t.o kd R A B I n=E at*;obtain⟨cd,ao⟩:=D;obtain⟨cr,ap⟩:=E;have bo:=an.o.1;subst bo;have bp:=hide an.o.2;go_enter func29,ntmps29;go_wp2_with fail;generalize (w.alloc (cG kd R A B I n)).alloc (.cells #[.int .i64 0,.int .i64 0] 28)=w0 at*;generalize br:w.heap.size=f at*;have ar:=hide br;have bs:=hide hi
 go_region_held3 (fun w'=>w'.cell? (av t.tp 0)=some (aq t.hp)/\w'.cell? (av t.tp 1)=some (aq t.b9)/\w'.cell? (av f 0)=some (ak kd)/\w'.cell? (av f 1)=some (ak R)/\w'.cell? (av f 2)=some (ak A)/\w'.cell? (av f 3)=some (ak B)/\w'.cell? (av f 4)=some (ak I)/\w'.cell? (av f 5)=some (ak n)) (first|exact⟨v0,v1,u0,bt,bx,b0,b1,b2⟩|exact⟨q0,q1,z0,b3,b4,b5,b6,b9⟩|exact⟨bl,bn,bb,y1,bd,be,bg,bi⟩|(go_keep;done)) (first
  |(go_at_call 20;refine P.mono ?_;rintro e N ⟨m,rfl,ca,aB⟩;have cb:=hide ca;have o:aA (cg F w0 m N):=⟨(Fr.of (ax w0).drew).trans aB.fr (fun b c=>aM c),fun b c=>aB.sub b c⟩;have ag:=hide (j.o.1.gr o.o);have p:=c7 ((o.o.fr.block f (lt_of_some l.o.1) (fun d=>by have:=j.o.2.2.1 f d;omega)).trans l.o.1) ((o.o.fr.block (f+1) (lt_of_some l.o.2) (fun d=>by have:=j.o.2.2.1 (f+1) d;omega)).trans l.o.2);have cc:=a2.o N ag.o.1;obtain⟨z0,b3,b4,b5,b6,b9⟩:=el p.o.1;have q0:N.cell? (av t.tp 0)=some (aq t.hp):=aD ag.o.2.2.2.2.1;have q1:N.cell? (av t.tp 1)=some (aq t.b9):=(by simp[World.cell?,ag.o.2.2.2.2.1]))
  |(go_at_call 68;refine cc.mono ?_;rintro e cs ⟨G2,rfl,ce,q⟩;have ai:aA (_):=j.o.1.of o.o cb.o q ce a0.o a1.o bp.o;have u:aA (_/\_/\¬m (f+1)/\¬G2 (f+1)):=⟨(q.fr.block f (lt_of_some p.o.1) (fun d=>by have:=j.o.2.2.2.1 f d;omega)).trans p.o.1,(q.fr.block (f+1) (lt_of_some p.o.2) (fun d=>by have:=j.o.2.2.2.1 (f+1) d;omega)).trans p.o.2,fun d=>(o.o.sub _ d).elim (fun d=>by have:=j.o.2.2.1 (f+1) d;omega) (fun d=>by have:=lt_of_some l.o.2;omega),fun d=>(q.sub _ d).elim (fun d=>by have:=j.o.2.2.2.1 (f+1) d;omega) (fun d=>by have:=lt_of_some p.o.2;omega)⟩;have aF:aA (_/\(∀b,m b->F b\/f<=b)/\(∀b,G2 b->G b\/f<=b)):=⟨(ba.o.trans o.o.fr (fun b d=>aM (aM d))).trans q.fr (fun b d=>aM (aL (aM d))),fun b d=>(o.o.sub b d).imp id (fun d=>by have:=lt_of_some l.o.1;omega),fun b d=>(q.sub b d).imp id (fun d=>by have:=lt_of_some p.o.1;omega)⟩;obtain⟨u0,bt,bx,b0,b1,b2⟩:=el u.o.1;obtain⟨v0,v1,_⟩:=ai.o.cells))
 have cf:=K1 ai.o (by have:=bs.o;omega)
 go_wp2_with fail;refine cf.mono ?_;rintro e k ⟨rfl,al⟩
 have aR:aA (d8 w1 c t m G2 ao ap (i+1) i k):=ai.o.below al;have ch:=hide ((al.block _ (lt_of_some u.o.2.1)).trans u.o.2.1)
 have ab:=iT u.o.2.2.1 u.o.2.2.2 j.o.2.1 j.o.2.2.2.2;have am:=c7 (aF.o.1.trans (Fr.of (X:=fun _=>False) al) (fun _ d=>d.elim)) aF.o.2;obtain⟨_,_,ct,_,_,cu⟩:=aR.o.cells;obtain⟨ci,cj,cv,cw⟩:k.cell? (av (f+1) 0)=some (ak 0)/\k.cell? (av (f+1) 1)=some (ak 0)/\k.frozen? (av (f+1) 0)=false/\k.frozen? (av (f+1) 1)=false:=by refine⟨?_,?_,?_,?_⟩<;>simp[World.cell?,World.frozen?,ch.o]
 have ne:¬t.tp=f+1:=by have:=ab.o.2.2.2;omega
 have ck:¬f+1=t.tp:=aa;go_wp2_with fail;obtain⟨s,x⟩:∃s,s=((k.setCell ⟨t.tp,2,none⟩ (.int .i64 ((i:Int)+1))).setCell ⟨f+1,0,none⟩ (.int .i64 0)).setCell ⟨f+1,1,none⟩ (.int .i64 0):=⟨_,rfl⟩
 rw[<-x];have v0:s.cell? (av (f+1) 0)=some (ak 0):=by rw[x,aY _ _ _ _ ac];exact a_ _ _ _ ((aY k ⟨t.tp,2,none⟩ ⟨f+1,0,none⟩ _ (fun e=>absurd (congrArg Addr.block e) ne)).trans ci)
 have v1:s.cell? (av (f+1) 1)=some (ak 0):=by rw[x];exact a_ _ _ _ ((aY _ ⟨f+1,0,none⟩ ⟨f+1,1,none⟩ _ ac).trans ((aY k ⟨t.tp,2,none⟩ ⟨f+1,1,none⟩ _ (fun e=>absurd (congrArg Addr.block e) ne)).trans cj))
 have cl:d8 w1 c t m G2 ao ap (i+1) (i+1) s:=by rw[x];exact aR.o.step (by have:=ab.o.2.2.1;omega) ab.o.1 ab.o.2.1 ck
 have cm:Fr (fun b=>F b\/G b\/b=t.tp) w s:=by
  refine am.o.1.trans (Y:=fun b=>b=t.tp\/b=f+1) ?_ (fun b d=>d.elim (fun d=>aM (aL (aL d))) (fun d=>aL (by have cn:=ar.o;omega)))
  rw[x];exact(((Fr.refl (fun b=>b=t.tp\/b=f+1) k).set t.tp 2 _ (aM rfl)).set (f+1) 0 _ (aL rfl)).set (f+1) 1 _ (aL rfl)
 have co:∀b,m b->F b\/w.heap.size<=b:=fun b d=>(am.o.2.1 b d).imp id (fun d=>by have cn:=ar.o;omega)
 have cp:∀b,G2 b->G b\/w.heap.size<=b:=fun b d=>(am.o.2.2 b d).imp id (fun d=>by omega)
 refine a5 (v:=.tuple #[ak cd,.agg #[ak 0,ak 0]]) (by simp[results,results29,go_sem,v0,v1]) rfl ⟨m,G2,rfl,cl,cm,co,cp⟩
end
open Go.ChangeShapes Go.WideShapes Go.ChangeAt Go.RowKit Go.Joins Go.Deep W ck
theorem K5:prog.cellsOf 44=6:=ah
theorem K6:prog.cellsOf 3=1:=ah
theorem K7:prog.cellsOf 2=1:=ah
structure S6 where
 k:Int
 R:Int
 A:Int
 B:Int
 I:Int
 n:Int
def ig:S6:=⟨0,0,0,0,0,0⟩
def ih (a:Int):Prop:=-9223372036854775808<=a/\a<=9223372036854775807
structure C6 (w:az)(b o:Nat)(s:S6):Prop where
 c0:w.cell? (av b o)=some (ak s.k)
 c1:w.cell? (av b (o+1))=some (ak s.R)
 c2:w.cell? (av b (o+2))=some (ak s.A)
 c3:w.cell? (av b (o+3))=some (ak s.B)
 c4:w.cell? (av b (o+4))=some (ak s.I)
 c5:w.cell? (av b (o+5))=some (ak s.n)
theorem C6.below {w w':az}{b o B:Nat}{s:S6}(h:C6 w b o s)(hb:Below B w w')(hB:b<B):C6 w' b o s:=
 ⟨(hb.cell hB).trans h.c0,(hb.cell hB).trans h.c1,(hb.cell hB).trans h.c2,(hb.cell hB).trans h.c3,(hb.cell hB).trans h.c4,(hb.cell hB).trans h.c5⟩
def iR (w:az)(ad:Option Addr)(l:List S6):Prop:=
 0<l.length->∃b o,ad=some ⟨b,o,none⟩/\b<w.heap.size/\∀i,i<l.length->C6 w b (o+i*6) (l.getD i ig)/\ih (l.getD i ig).k/\ih (l.getD i ig).R/\ih (l.getD i ig).A/\ih (l.getD i ig).B/\ih (l.getD i ig).I/\ih (l.getD i ig).n
theorem K8 {c:Type}{b:List c}(h:b.length=6):∃c0 c1 c2 c3 c4 c5,b=[c0,c1,c2,c3,c4,c5]:=by
 match b,h with
 |[c0,c1,c2,c3,c4,c5],_=>exact⟨c0,c1,c2,c3,c4,c5,rfl⟩
theorem oO {a:Int}(h:(Lit.int .i64 a).wf=true):ih a:=by
 have:IntKind.i64.min<=a/\a<=9223372036854775807:=by simpa[Lit.wf] using h
 exact⟨this.1,this.2⟩
theorem K9 {H:Type}{enc:TypeId×Value->H}{W:az}{sp:Nat->Bool}{q:Bool}{t:Nat}{b:List Value}{x:DataW H×List MemPlace}
 (u:DataW.trod enc prog W 0 sp q t 44 b=some x):∃s:S6,b=[.int .i64 s.k,.int .i64 s.R,.int .i64 s.A,.int .i64 s.B,.int .i64 s.I,.int .i64 s.n]/\ih s.k/\ih s.R/\ih s.A/\ih s.B/\ih s.I/\ih s.n:=by
 obtain⟨v,m,_,ad,hl,w,hg⟩:=DataW.trod_struct underlying44 u;obtain⟨c0,c1,c2,c3,c4,c5,rfl⟩:=K8 hl
 match v,w with
 |[ag,y1,ai,al,am,an],_=>
  have t0:=hg 0 _ rfl;have c:=hg 1 _ rfl;have d:=hg 2 _ rfl;have t3:=hg 3 _ rfl;have e:=hg 4 _ rfl;have f:=hg 5 _ rfl;simp[K6,K7] at t0 c d t3 e f;obtain⟨k,g,_,w0⟩:=DataW.trod_int underlying3 t0;obtain⟨R,i,_,w1⟩:=DataW.trod_int underlying3 c;obtain⟨A,j,_,F⟩:=DataW.trod_int underlying3 d;obtain⟨B,l,_,N⟩:=DataW.trod_int underlying3 t3;obtain⟨I,o,_,S⟩:=DataW.trod_int underlying3 e;obtain⟨n,p,_,ab⟩:=DataW.trod_int underlying2 f;simp at g i j l o p;exact⟨⟨k,R,A,B,I,n⟩,by rw[g,i,j,l,o,p],oO w0,oO w1,oO F,oO N,oO S,oO ab⟩
theorem K_ {H:Type}{enc:TypeId×Value->H}{W:az}{sp:Nat->Bool}{t:Bool}{u len cap:Nat}{ad:Option Addr}{x:DataW H×List MemPlace}
 (v:DataW.trod enc prog W 0 sp t u 36 [.slice ad len cap]=some x):∃l:List S6,l.length=len/\iR W ad l:=by
 rcases open_slice underlying36 v with⟨e,_⟩|⟨z,l,c,m,n,D,ai,e,hb,hl,hm,w,_,B⟩
 ·simp at e;obtain⟨rfl,rfl,rfl⟩:=e;exact⟨[],rfl,fun h=>by simp at h⟩
 ·obtain⟨rfl,rfl,rfl⟩:=e;have al:len<=m:=by rw[w];split<;>omega
  have key:∀i,i<len->∃s:S6,(W.cell? (z.add (i*6))=some (ak s.k)/\W.cell? (z.add (i*6+1))=some (ak s.R)/\W.cell? (z.add (i*6+2))=some (ak s.A)/\W.cell? (z.add (i*6+3))=some (ak s.B)/\W.cell? (z.add (i*6+4))=some (ak s.I)/\W.cell? (z.add (i*6+5))=some (ak s.n))/\ih s.k/\ih s.R/\ih s.A/\ih s.B/\ih s.I/\ih s.n:=by
   intro i hi;obtain⟨am,f,F⟩:=B i aa;rw[K5] at f;obtain⟨_,_,d⟩:=World.cells?_some f;obtain⟨s,rfl,hb⟩:=K9 F;refine⟨s,⟨?_,?_,?_,?_,?_,?_⟩,hb⟩
   ·have:=d 0 aa;rw[add_add] at this;simpa using this
   ·have:=d 1 aa;rw[add_add] at this;simpa using this
   ·have:=d 2 aa;rw[add_add] at this;simpa using this
   ·have:=d 3 aa;rw[add_add] at this;simpa using this
   ·have:=d 4 aa;rw[add_add] at this;simpa using this
   ·have:=d 5 aa;rw[add_add] at this;simpa using this
  have:Inhabited S6:=⟨ig⟩
  obtain⟨S,g⟩:=choose_lt key;refine⟨(List.range len).map S,ac,fun hp=>?_⟩
  simp only [List.length_map,List.length_range] at hp⊢;obtain⟨b,o,N⟩:=z;have h0:=(g 0 hp).1.1;have ab:N=none:=by simpa[Addr.add] using World.cell?_spot h0
  subst ab;refine⟨b,o,rfl,aT W (⟨b,o,none⟩:Addr) (by simpa[Addr.add] using h0),fun i hi=>?_⟩
  obtain⟨⟨k0,k1,k,p,q,k5⟩,k6⟩:=g i hi;have ea:∀j,(⟨b,o,none⟩:Addr).add j=⟨b,o+j,none⟩:=fun j=>by simp[Addr.add]
  rw[ea] at k0 k1 k p q k5;have ag:((List.range len).map S).getD i ig=S i:=by simp[hi]
  rw[ag];exact⟨⟨k0,by exact k1,by exact k,by exact p,by exact q,by exact k5⟩,k6⟩
def cn.sx (s:cn)(g:eM)(n o:Int)(x:S6):Int×cn:=s.gm g n o x.k x.R x.A x.B x.I x.n
def cn.run (s:cn)(g:eM)(n o:Int)(l:List S6):cn:=l.foldl (fun s x=>(s.sx g n o x).2) s
def cn.i9 (s:cn)(g:eM)(n o:Int):List S6->List Int
 |[]=>[]
 |x::l=>(s.sx g n o x).1::(s.sx g n o x).2.i9 g n o l
theorem r4 (g:eM)(n o:Int):∀(l:List S6)(s:cn),(s.i9 g n o l).length=l.length
 |[],_=>rfl
 |x::l,s=>by show(_::_:List Int).length=_;rw[List.length_cons,r4 g n o l,List.length_cons]
theorem La (g:eM)(n o:Int)(l:List S6)(x:S6)(s:cn):s.run g n o (l++[x])=((s.run g n o l).sx g n o x).2:=by unfold cn.run;rw[List.foldl_append];rfl
theorem BL (g:eM)(n o:Int):∀(l:List S6)(x:S6)(s:cn),s.i9 g n o (l++[x])=s.i9 g n o l++[((s.run g n o l).sx g n o x).1]
 |[],_,_=>rfl
 |y::l,x,s=>by show(s.sx g n o y).1::(s.sx g n o y).2.i9 g n o (l++[x])=_;rw[BL g n o l x];rfl
theorem BM (g:eM)(n o:Int):∀(l:List S6)(s:cn)(k:Nat),s.i9 g n o (l.take k)=(s.i9 g n o l).take k
 |[],_,k=>by rw[List.take_nil];show[]=List.take k [];rw[List.take_nil]
 |x::l,s,0=>rfl
 |x::l,s,k+1=>by show(_::_:List Int)=_::_;rw[BM g n o l]
def i2 (s:cn)(g:eM)(n o:Int)(l:List S6)(i:Nat):List Int:=s.i9 g n o (l.take i)++List.replicate (l.length-i) 0
theorem Lb (s:cn)(g:eM)(n o:Int)(l:List S6)(i:Nat)(hi:i<=l.length):(i2 s g n o l i).length=l.length:=by unfold i2;rw[a7,r4,bq,List.length_replicate];omega
theorem Lc (s:cn)(g:eM)(n o:Int)(l:List S6):i2 s g n o l l.length=s.i9 g n o l:=by unfold i2;rw[bz,Nat.sub_self,List.replicate_zero,List.append_nil]
theorem vI (l:List S6){i:Nat}(hi:i<l.length):l.take (i+1)=l.take i++[l.getD i ig]:=by rw[List.take_succ_eq_append_getElem hi,aJ,aN hi];rfl
theorem Ld (s:cn)(g:eM)(n o:Int)(l:List S6)(i:Nat)(hi:i<l.length):(i2 s g n o l i).set i ((s.run g n o (l.take i)).sx g n o (l.getD i ig)).1=i2 s g n o l (i+1):=by
 unfold i2;have hl:(s.i9 g n o (l.take i)).length=i:=by rw[r4,bq];omega
 rw[List.set_append_right _ _ aa,hl,Nat.sub_self,vI l hi,BL,bw,show l.length-i=(l.length-(i+1))+1 by omega,List.replicate_succ,List.set_cons_zero];rfl
def f3 (w:az)(base:Nat)(ad:Option Addr)(l:List Int):Prop:=0<l.length->∃b o,ad=some ⟨b,o,none⟩/\base<=b/\b<w.heap.size/\∀i,i<l.length->w.cell? (av b (o+i))=some (ak (l.getD i 0))
theorem f3.below {w w':az}{base:Nat}{ad:Option Addr}{l:List Int}(h:f3 w base ad l)(hb:Below w.heap.size w w'):f3 w' base ad l:=fun hp=>by obtain⟨b,o,e,d,c,f⟩:=h hp;exact⟨b,o,e,d,aO c hb.size,fun i hi=>(hb.cell (p:=av b (o+i)) c).trans (f i hi)⟩
theorem f3.take {w:az}{base:Nat}{ad:Option Addr}{l:List Int}(h:f3 w base ad l)(k:Nat):f3 w base ad (l.take k):=fun hp=>by
 rw[bq] at hp;obtain⟨b,o,e,c,d,f⟩:=h aa;refine⟨b,o,e,c,d,fun i hi=>?_⟩
 rw[bq] at hi;rw[f i aa,aJ,aJ,List.getElem?_take_of_lt aa]
theorem f3.of {w:az}{base:Nat}{b n cap:Nat}{l:List Int}(h:w.ownsRow base 3 1 (.slice (au b) n cap) n (l.map (Value.int .i64))):f3 w base (au b) l:=fun _=>by
 refine⟨b,0,rfl,(cu h b rfl).1,(cu h b rfl).2,fun i hi=>?_⟩
 rw[Nat.zero_add];exact(jR h (i:=i) (u:=ak (l.getD i 0)) (by rw[List.getElem?_map,aN hi,aJ,aN hi];rfl)).1
theorem iR.below {w w':az}{ad:Option Addr}{l:List S6}(h:iR w ad l)(hb:Below w.heap.size w w'):iR w' ad l:=fun hp=>by obtain⟨b,o,e,c,d⟩:=h hp;exact⟨b,o,e,aO c hb.size,fun i hi=>⟨(d i hi).1.below hb c,(d i hi).2⟩⟩
theorem iR.take {w:az}{ad:Option Addr}{l:List S6}(h:iR w ad l)(k:Nat):iR w ad (l.take k):=fun hp=>by
 rw[bq] at hp;obtain⟨b,o,e,c,d⟩:=h aa;refine⟨b,o,e,c,fun i hi=>?_⟩
 rw[bq] at hi;have e:(l.take k).getD i ig=l.getD i ig:=by rw[aJ,aJ,List.getElem?_take_of_lt aa]
 rw[e];exact d i aa
theorem vJ (a b:Option Addr)(ca cb base c:Nat)(l:List Int)(w:az)(hm:l.length<=100000)(ha:f3 w base a l)(hb:f3 w c b l):
 Calls prog 35 #[.slice a l.length ca,.slice b l.length cb] w fun e w'=>e=.returned (.bool true)/\Below w.heap.size w w':=by
 have g:aA (f3 w base a l):=ha;have i:aA (f3 w c b l):=hb;clear ha hb;go_enter func35,ntmps35;go_wp2_with fail
 go_loopw [5] (fun iv wr=>∃j:Nat,j<=l.length/\iv=ak j/\Below w.heap.size w wr) (fun iv _=>l.length-(intOf iv).toNat)
 case atStart=>exact⟨0,a4 _,rfl,aH _ _⟩
 case round=>
  obtain⟨j,p,rfl,hb⟩:=hrel;by_cases d:j<l.length
  ·obtain⟨q,s,k,_,t,hc⟩:=(g.o.below hb) aa;have m:=hc j d;subst k;obtain⟨b2,v,n,_,x,f⟩:=(i.o.below hb) aa;have o:=f j d;subst n;clear hc f;generalize l.getD j 0=u at m o;have j0:(0:Int)<=(j:Int):=aa;have B:(j:Int)<(l.length:Int):=aa;go_wp2_with fail
   go_quiet (fail)
   go_wp2_with fail;go_roundw
   case rel=>exact⟨j+1,aa,aj,by first|exact below_drewN hb _|exact hb.drew|exact hb⟩
   case measure=>simp[intOf];omega
  ·obtain rfl:j=l.length:=aa;go_wp2_with fail;go_ret;exact⟨rfl,hb⟩
end Go.Proofs.YtpkjkjhanlbcoaaGreat
