import Derived.Test.YtjpjpjemibgjpaaGreatJ24
namespace Go.Proofs.YtjpjpjemibgjpaaGreat
set_option maxRecDepth 100000
set_option maxHeartbeats 4000000
open Tryz
open Go.RowKit W Kp cg
theorem AY {P:Prop}(h:P:=by
 generalize hxb:w.heap.size=xb at*;have HR:av (∀w',Below w0.drew.heap.size w0.drew w'->(w'.cell? ⟨hp,0,none⟩=some (.pointer (some ⟨a.pw,0,none⟩))/\w'.cell? ⟨a.pw,3,none⟩=some (.slice (some ⟨a.nb,0,none⟩) 12 12)/\w'.cell? ⟨a.nb,A,none⟩=some (.int .i64 (S.s.rs.getD A 0)))/\w'.cell? ⟨xb,2,none⟩=some (.int .i64 (A:Int))/\w'.cell? ⟨xb,4,none⟩=some (.int .i64 I)):=fun w' hb=>by
  obtain⟨g0,_,g3,rz,_⟩:=eC ((cq a hp).below HJ.o.1 hb)
  exact⟨⟨g0,g3,(rz A hA).1⟩,(hb.cell (p:=am xb 2) lx).trans q2,(hb.cell (p:=am xb 4) lx).trans q4⟩
 generalize S.s.rs.getD A 0=x at*
 go_region_held3 (fun w'=>w'.cell? (am hp 0)=some (aj a.pw)/\w'.cell? (am a.pw 3)=some (.slice (ak a.nb) 12 12)/\w'.cell? (am a.nb A)=some (ah x)/\w'.cell? (am xb 2)=some (ah (A:Int))/\w'.cell? (am xb 4)=some (ah I)) (go_keep)
  (first
    |(go_at_call 28;refine uL.mono ?_;clear uL;rintro e w2 ⟨rfl,hb2⟩;obtain⟨⟨g0,g3,gr⟩,JK,JL⟩:=HR.o w2 hb2;have HB2:av (Below xb w w2):=HJ.o.2.1.trans (hb2.mono (by have:=HJ.o.2.1.size;omega));clear hb2))
 go_wp2_with fail;go_ret2;exact⟨rfl,by rw[hxb];exact HB2.o⟩):P:=h
theorem pG {P:Prop}(h:P:=by go_wp2_with fail;go_ret;exact⟨F2,rfl,HF.o.1,HF.o.2⟩):P:=h
theorem AZ {P:Prop}(h:P:=by
 go_enter func102,ntmps102;go_wp2_with fail;refine P.mono ?_;rintro e w1 ⟨rfl,hb⟩
 go_wp2;go_ret2;exact⟨rfl,hb⟩):P:=h
theorem A0 (rs:List Int)(y:Nat)(ws:List Int)(rl:List Nat):∀k,(gg rs y ws rl k).length=ws.length
 |0=>rfl
 |k+1=>by show((gg rs y ws rl k).set _ _).length=_;rw[aX];exact A0 rs y ws rl k
theorem rB (rs:List Int)(y:Nat)(ws:List Int)(rl:List Nat):∀k,y+k<ws.length->∀q,(gg rs y ws rl k).getD q 0=if y+1<=q/\q<y+1+k then rs.getD (rl.getD (q-y-1) 0) 0 else ws.getD q 0
 |0,_,q=>by rw[aE V];rfl
 |k+1,h,q=>by
  show((gg rs y ws rl k).set _ _).getD q 0=_;rw[pC _ _ _ _ _ (by rw[A0];omega),rB rs y ws rl k V q];by_cases c:y+1+k=q
  ·rw[aH c,aH V,show q-y-1=k by omega]
  ·rw[aE c];by_cases b:y+1<=q/\q<y+1+k
   ·rw[aH b,aH V]
   ·rw[aE b,aE V]
theorem Iy (W:cj)(g:gS)(b9 bY m:Int):(W.room g b9 bY m).2.rs=W.rs:=by
 unfold cj.room;split
 ·rfl
 ·unfold cj.cut;split<;>rfl
section
variable {a:Wc}{S:ck}{W:cj}{m:Nat->Int}{Y G:List Int}{j:Nat}{g:gS}
theorem cw.made (h:cw a S W m Y G)(i:cI a S.s){kd:Int}{rl:List Nat}(hk:hc kd rl.length=0)(j:S.s.y+1+rl.length<=a.N)(l:∀q∈rl,q<12):
 cw a (S.put a kd rl) {W with T:=W.T++[(kd,rl.map (fun q=>W.rs.getD q (0,0)),false,false)]} (m4 m W.T.length S.s.y) (Y++[(S.s.y:Int)]) G:=by
 have p:=uK h.kv i hk j rl.length bW
 have c:(rl.map (fun q=>W.rs.getD q (0,0))).length=rl.length:=aQ ..;have hl:=i.l1;have n:gY a.N S.s.y kd rl.length=true:=by unfold gY;simp;omega
 have d:eM a.N S.s.y kd rl.length S.s.ws=ff S.s.ws S.s.y (hw kd rl.length) rl.length:=by unfold eM;rw[aH n];rfl
 have e:(eM a.N S.s.y kd rl.length S.s.ws).length=S.s.ws.length:=by rw[d,uJ]
 have b:S.s.y+rl.length<S.s.ws.length:=V;have keep:∀q:Int,((0<=q/\q<S.s.y)\/((a.N:Int)<=q/\q<a.N+S.s.g))->ld a.N (S.s.y+1+rl.length) S.s.g (gg S.s.rs S.s.y (eM a.N S.s.y kd rl.length S.s.ws) rl rl.length) q=ld a.N S.s.y S.s.g S.s.ws q:=fun q hq=>by
  rcases hq with⟨q0,q1⟩|⟨q0,q1⟩
  ·rw[dX (ih q0 V),dX (ih q0 q1),rB _ _ _ _ _ (by rw[e];exact b),aE V,d,kS _ _ _ _ _ b,aE V,aE V]
  ·rw[dX (g9 q0 q1),dX (g9 q0 q1),rB _ _ _ _ _ (by rw[e];exact b),aE V,d,kS _ _ _ _ _ b,aE V,aE V]
 refine h.new (by rw[c];exact hk) (fun v f=>?_) rfl j p.k (by rw[c];exact p.p) (fun k hk=>?_) p.h (fun v f k hk=>?_)
 ·obtain⟨q,hq,rfl⟩:=List.mem_map.1 f;exact(h.root (l q hq)).2
 ·rw[c] at hk;show ld a.N (S.s.y+1+rl.length) S.s.g (gg S.s.rs S.s.y (eM a.N S.s.y kd rl.length S.s.ws) rl rl.length) _=_;rw[dX (ih V V),rB _ _ _ _ _ (by rw[e];exact b),aH V,jK (fun q=>W.rs.getD q (0,0)) rl k 0 (0,0) hk,<-(h.root (l _ (getD_in hk))).1,show((S.s.y:Int)+1+k).toNat-S.s.y-1=k by omega]
 ·exact keep _ (f.imp (fun g=>mV h.kv.inv.full g (Int.natCast_nonneg k) hk) (fun g=>mW h.kv.inv.full g (Int.natCast_nonneg k) hk))
theorem cw.Iz (h:cw a S W m Y G)(b:cI a S.s)(hg:∀T wt,gy T wt->d9 T wt (g T wt))(d:Int):(S.room a d).1=(W.room g a.N a.O d).1/\∃i j k,cw a (S.room a d).2 (W.room g a.N a.O d).2 i j k:=by
 have e:=hg _ _ h.iv;unfold ck.room cj.room;rw[h.us b];by_cases c:d<=(a.N:Int)-S.s.y
 ·rw[aH c,aH c];exact⟨rfl,m,Y,G,h⟩
 ·rw[aE c,aE c];by_cases f:(S.s.y:Int)<=(a.O:Int)-S.s.g
  ·rw[aH f,bz V];exact⟨h.AN b e,h.cut b e⟩
  ·rw[aE f,bm V];exact⟨h.hQ b e,h.dA b e⟩
def l9 (a:Wc)(t:Int×Int×ck)(u:(Int×Int)×Int×cj):Prop:=t.2.1=u.2.1/\∃b c d,cw a t.2.2 u.2.2 b c d/\(t.2.1=0->t.1=wv b u.1/\dM u.2.2.T u.1)
theorem cw.grown (h:cw a S W m Y G)(ok:dV a S j)(f:cI a S.s)(hg:∀T wt,gy T wt->d9 T wt (g T wt)){kd:Int}{rl:List Nat}(hk:hc kd rl.length=0)(k:∀q∈rl,q<12):l9 a (S.bY a kd rl) (W.bY g a.N a.O kd (rl.map (fun q=>W.rs.getD q (0,0)))):=by
 obtain⟨b,l,n,o,i⟩:=h.Iz f hg _;obtain⟨ok',p,s,_⟩:=ok.room f _;have hl:=iE kd rl.length hk;unfold l9 ck.bY cj.bY;rw[aQ];by_cases c:(S.room a (1+rl.length)).1=0
 ·rw[aH c,aH (b.symm.trans c)];rw[<-(Iy W g a.N a.O (1+rl.length))];refine⟨rfl,_,_,_,(i.made p hk (by have:=s c V;omega) k),fun _=>⟨?_,⟨fun _=>⟨by dsimp only;omega,?_⟩,fun e=>absurd rfl e⟩⟩⟩
  ·rw[h9 rfl];unfold m4;simp
  ·have:=(Al (t:=(kd,rl.map (fun q=>(W.room g a.N a.O (1+rl.length)).2.rs.getD q (0,0)),false,false)) rfl (W.room g a.N a.O (1+rl.length)).2.T.length).2 (aI rfl)
   simpa[cj.put] using this
 ·rw[aE c,aE (fun d=>c (b.trans d))];exact⟨b,l,n,o,i,fun d=>absurd d c⟩
theorem cw.kx (h:cw a S W m Y G)(f:cI a S.s){v:Int×Int}(d:dM W.T v):(S.kx a (wv m v)=5↔jT W.T v=true)/\((S.ex a (wv m v)=0/\S.kx a (wv m v)≠5)↔ig W.T v=true)/\(S.ex a (wv m v)=0↔v.1=3)/\(v.1≠3->S.ex a (wv m v)=2)/\(v.1=3->S.fx a (wv m v)=((W.T.getD v.2.toNat t0).2.1.length:Int)):=by
 rw[mI,kA];unfold ck.kx ck.ex ck.fx;rw[h.tB f d];by_cases c:v.1=3
 ·have e:(v.1==3)=true:=by simpa using c
  obtain⟨g,i,j⟩:=h.parts (d.t c).2;rw[e,aH rfl,aH rfl,aH rfl,(h.vt f d c).2,g,i,j];exact⟨⟨fun b=>⟨c,b⟩,fun b=>b.2⟩,⟨fun b=>⟨c,b.2⟩,fun b=>⟨rfl,b.2⟩⟩,⟨fun _=>c,fun _=>rfl⟩,fun b=>absurd c b,fun _=>rfl⟩
 ·have e:(v.1==3)=false:=by simpa using c
  rw[e,aE Z,aE Z,aE Z];exact⟨⟨fun b=>absurd b aa,fun b=>absurd b.1 c⟩,⟨fun b=>absurd b.1 aa,fun b=>absurd b.1 c⟩,⟨fun b=>absurd b aa,fun b=>absurd b c⟩,fun _=>rfl,fun b=>absurd b c⟩
theorem cw.A1 (h:cw a S W m Y G){A:Nat}(d:A<12)(I:Int):W.fc (W.rs.getD A (0,0)) I=W.gc A I:=by
 obtain⟨_,e⟩:=h.root d;unfold cj.fc cj.gc cj.th;by_cases c:(W.rs.getD A (0,0)).1=3
 ·rw[aH c];by_cases c5:(W.T.getD (W.rs.getD A (0,0)).2.toNat t0).1=5
  ·rw[aE (fun b=>(kA.1 b).2 c5),aH (aI (show(W.T.getD (W.rs.getD A (0,0)).2.toNat (0,[],false,false)).1=5 from c5))]
  ·have f:¬((W.rs.getD A (0,0)).2<0\/(W.T.getD (W.rs.getD A (0,0)).2.toNat (0,[],false,false)).1=5):=fun b=>b.elim (fun b=>absurd (e.t c).1 V) c5;rw[aH (kA.2 ⟨c,c5⟩),aE f];rfl
 ·rw[aE c,aE (fun b=>c (kA.1 b).1),aH (aJ aa)]
theorem cw.cM (h:cw a S W m Y G)(i:cI a S.s){v:Int×Int}(j:dM W.T v)(k:v.1=3):dR (wv m v) S.q=dR v.2 W.wt:=by
 unfold dR;rw[h.wt,List.findIdx_map];have b:∀e∈W.wt,((we m e).1==wv m v)=(e.1==v.2):=fun e he=>by
  have g:=h.dz e he;have n:dM W.T (3,e.1):=⟨fun _=>⟨g.g0,g.g⟩,fun d=>absurd rfl d⟩
  have f:(we m e).1=wv m (3,e.1):=ac;rw[f];by_cases c:e.1=v.2
  ·have:((3,e.1):Int×Int)=v:=by rw[<-k,c]
   rw[this,c];simp
  ·have n1:_:=fun d=>c (by have:=h.Ak i n j d;rw[<-this])
   rw[beq_eq_false_iff_ne.2 n1,beq_eq_false_iff_ne.2 c]
 generalize W.wt=l at b
 induction l with
 |nil=>rfl
 |cons e l o=>
  rw[List.findIdx_cons,List.findIdx_cons];have f:((fun e=>e.1==wv m v)∘we m) e=(e.1==v.2):=b e List.mem_cons_self;rw[f,o (fun x p=>b x (aO _ p))]
theorem cw.popped (h:cw a S W m Y G)(d:cI a S.s){v:Int×Int}(f:dM W.T v):l9 a (S.pop a (wv m v)) (W.pop v):=by
 obtain⟨k1,_⟩:=h.kx d f;unfold l9 ck.pop cj.pop;by_cases c:jT W.T v=true
 ·rw[aH (k1.2 c),aH c,h.cM d f (mI.1 c).1];have k:S.q.length=W.wt.length:=by rw[h.wt,aQ]
  rw[k];generalize dR v.2 W.wt=i;by_cases b:i<W.wt.length
  ·rw[aH b,aH b];have g:=h.dz _ (getD_in (x:=(0,0)) b)
   refine⟨rfl,m,Y,G,?_,fun _=>⟨?_,⟨fun _=>⟨g.h0,g.h⟩,fun e=>absurd rfl e⟩⟩⟩
   ·have j:=h.beside (q:=W.wt.take i++W.wt.drop (i+1)) h.gv (fun e he=>h.dz e ((List.mem_append.1 he).elim (fun b=>bE b) (fun b=>List.mem_of_mem_drop b)))
    rw[bA,List.map_take,List.map_drop,<-h.rg,<-h.wt] at j;exact j
   ·show(S.q.getD i (0,0)).2=wv m (3,(W.wt.getD i (0,0)).2)
    rw[h.wt,jK (we m) W.wt i (0,0) (0,0) b,h9 rfl];rfl
  ·rw[aE b,aE b];exact⟨rfl,m,Y,G,h,fun e=>absurd (show(4:Int)=0 from e) aa⟩
 ·rw[aE (fun b=>c (k1.1 b)),aE c];exact⟨rfl,m,Y,G,h,fun e=>absurd (show(2:Int)=0 from e) aa⟩
theorem cw.IA (h:cw a S W m Y G)(d:cI a S.s){v:Int×Int}(f:dM W.T v):l9 a (S.len a (wv m v)) (if ig W.T v=true then((1,((W.T.getD v.2.toNat t0).2.1.length:Int)),0,W) else((0,0),2,W)):=by
 obtain⟨_,b,_,_,k5⟩:=h.kx d f;unfold l9 ck.len;by_cases c:ig W.T v=true
 ·have hl:=h.tl v.2.toNat;have ev:vc 1 ((W.T.getD v.2.toNat t0).2.1.length:Int)=0:=by generalize (W.T.getD v.2.toNat t0).2.1.length=n at hl;have:∀n:Fin 13,vc 1 ((n.val:Nat):Int)=0:=aa;exact this ⟨n,V⟩
  rw[aH (b.2 c),aH c,k5 (kA.1 c).1];exact⟨ev,m,Y,G,h,fun _=>⟨by rw[i8 (show(1:Int)≠3 by decide)],dM.of aa ev⟩⟩
 ·rw[aE (fun g=>c (b.1 g)),aE c];exact⟨rfl,m,Y,G,h,fun e=>absurd (show(2:Int)=0 from e) aa⟩
theorem cw.got (h:cw a S W m Y G)(b:cI a S.s){A:Nat}(d:A<12)(I:Int):l9 a ((if dT a.N S.s.y S.s.g S.s.ws (S.s.rs.getD A 0) I=0 then ld a.N S.s.y S.s.g S.s.ws (cf (S.s.rs.getD A 0)+1+I) else 0),dT a.N S.s.y S.s.g S.s.ws (S.s.rs.getD A 0) I,S)
 ((if W.fc (W.rs.getD A (0,0)) I=0 then(W.T.getD (W.rs.getD A (0,0)).2.toNat t0).2.1.getD I.toNat (0,0) else(0,0)),W.fc (W.rs.getD A (0,0)) I,W):=by
 have code:=h.code b d I;rw[h.A1 d];refine⟨code,m,Y,G,h,fun e=>?_⟩
 have f:=e;obtain⟨er,c⟩:=h.root d;obtain⟨g,k,t3,j⟩:=mT f;rw[er,h.tB b c] at g;have c3:(W.rs.getD A (0,0)).1=3:=by simpa using g
 obtain⟨z,al⟩:=c.t c3;rw[er,(h.vt b c c3).2,h.kv.inv.full.stands b.y1 (h.mem al),(h.parts al).2.1] at j;have hB:I.toNat<(W.T.getD (W.rs.getD A (0,0)).2.toNat t0).2.1.length:=V;have i:=h.fd _ al I.toNat hB;rw[Int.toNat_of_nonneg t3] at i;rw[aH f,aH (code.symm.trans f),er,(h.vt b c c3).2];exact⟨i,h.fv _ al _ (getD_in hB)⟩
end
section
variable {a:Wc}{S:ck}{W:cj}{m:Nat->Int}{Y G:List Int}{j:Nat}{g:gS}
def oa (a:Wc)(t:Int×ck)(u:Int×cj):Prop:=t.1=u.1/\∃b c d,cw a t.2 u.2 b c d
theorem cw.IB (h:cw a S W m Y G)(j:cI a S.s){v u:Int×Int}(d:dM W.T v)(g:dM W.T u):oa a (S.reg a (wv m v) (wv m u)) (W.reg v u):=by
 obtain⟨_,_,k,n,_⟩:=h.kx j d;obtain⟨k1,_⟩:=h.kx j g;have o:S.r.length+S.q.length=W.rg.length+W.wt.length:=by rw[h.rg,h.wt,aQ,aQ]
 unfold oa ck.reg cj.reg;rw[o];by_cases c:v.1=3
 ·rw[aH (k.2 c)];by_cases b:jT W.T u=true
  ·rw[aH (k1.2 b),aH (show v.1=3/\jT W.T u=true from⟨c,b⟩)];by_cases f:24<=W.rg.length+W.wt.length
   ·rw[aH f,aH f];exact⟨rfl,m,Y,G,h⟩
   ·rw[aE f,aE f];obtain⟨i,p⟩:=mI.1 b;have s:im W.T (u.2,v.2):=⟨(g.t i).1,(g.t i).2,p,(d.t c).1,(d.t c).2⟩
    have l:=h.beside (fun e he=>by
     rcases List.mem_append.1 he with q|q
     ·exact h.gv e q
     ·rw[List.mem_singleton.1 q];exact s) h.dz
    have t:(W.rg++[(u.2,v.2)]).map (we m)=S.r++[(wv m u,wv m v)]:=by rw[bA,<-h.rg,h9 c,h9 i];rfl
    rw[t,<-h.wt] at l;exact⟨rfl,m,Y,G,l⟩
  ·rw[aE (fun q=>b (k1.1 q)),aE (fun q=>b q.2)];exact⟨rfl,m,Y,G,h⟩
 ·rw[aE (fun q=>c (k.1 q)),aE (fun q=>c q.1),n c];exact⟨rfl,m,Y,G,h⟩
theorem cw.IC (h:cw a S W m Y G)(b:cI a S.s){A B:Nat}(c:A<12)(hB:B<12)(I:Int):oa a (dT a.N S.s.y S.s.g S.s.ws (S.s.rs.getD A 0) I,S.set a (S.s.rs.getD A 0) I (S.s.rs.getD B 0)) (W.set (W.rs.getD A (0,0)) I (W.rs.getD B (0,0))):=by
 have code:=h.code b c I;unfold oa cj.set ck.set;rw[h.A1 c];refine⟨code,m,Y,G,?_⟩
 by_cases c0:W.gc A I=0
 ·rw[aH c0];have d:=code.trans c0;obtain⟨er,f⟩:=h.root c;obtain⟨j,k⟩:=h.root hB;obtain⟨g,o,t3,i⟩:=mT d;rw[er,h.tB b f] at g;have c3:(W.rs.getD A (0,0)).1=3:=by simpa using g
  obtain⟨z,al⟩:=f.t c3;rw[er,(h.vt b f c3).2,h.kv.inv.full.stands b.y1 (h.mem al),(h.parts al).2.1] at i;have hw:fZ a.N S.s.y S.s.g S.s.ws (S.s.rs.getD A 0) I (S.s.rs.getD B 0)=S.s.ws.set (m (W.rs.getD A (0,0)).2.toNat+1+(I.toNat:Nat)).toNat (wv m (W.rs.getD B (0,0))):=by unfold fZ;rw[aH d,er,(h.vt b f c3).2,j];rw[aH (jF h.kv.inv.full (h.mem al) t3 (by rw[(h.parts al).2.1];exact i)),Int.toNat_of_nonneg t3]
  exact h.store b al V k hw (h.kv.set b A B c I hB)
 ·rw[aE c0];have d:_:=fun e=>c0 (code.symm.trans e)
  obtain⟨l,n⟩:=nY d;rw[l,n];exact h
theorem ID (n:Nat)(h:n<=12):hc 2 (n:Int)=0:=by have:∀n:Fin 13,hc 2 ((n.val:Nat):Int)=0:=aa;exact this ⟨n,V⟩
theorem cw.rt (h:cw a S W m Y G)(ok:dV a S j)(b:cI a S.s)(hg:∀T wt,gy T wt->d9 T wt (g T wt)){k R A B n:Int}(I:Int)(t:dF k R A B n=0):l9 a (S.rt a k A.toNat B.toNat I n) (W.rt g a.N a.O k A.toNat B.toNat I n):=by
 have e:cP k=3\/cP k=6\/cP k=7->A.toNat<12:=fun u=>by have:=nD t u;omega
 have hB:cP k=6\/cP k=7->B.toNat<12:=fun u=>by have:=nE t u;omega
 have two:∀q∈[A.toNat,B.toNat],cP k=7->q<12:=fun q hq u=>by simp at hq;omega
 unfold ck.rt cj.rt;by_cases f:k=1
 ·rw[aH f,aH f];subst f;have ev:=xX t;exact⟨ev,m,Y,G,h,fun _=>⟨by rw[i8 (show(1:Int)≠3 by decide)],dM.of aa ev⟩⟩
 rw[aE f,aE f];by_cases i:k=3
 ·rw[aH i,aH i];subst i;obtain⟨er,d⟩:=h.root (e aa)
  exact⟨rfl,m,Y,G,h,fun _=>⟨er,d⟩⟩
 rw[aE i,aE i];by_cases w:k=4
 ·subst w;exact h.grown ok b hg (show hc 1 2=0 by decide) (fun q hq=>two q hq aa)
 rw[aE w,aE w];by_cases x:k=5
 ·subst x;have J:=s_ t;have:=h.grown ok b hg (kd:=2) (rl:=List.replicate n.toNat A.toNat) (by rw[bw];exact ID _ V) (fun q hq=>by rw[List.eq_of_mem_replicate hq];exact e aa)
  rw[List.map_replicate] at this
  exact this
 rw[aE x,aE x];by_cases C:k=6
 ·subst C;exact h.grown ok b hg (show hc 3 2=0 by decide) (fun q hq=>two q hq aa)
 rw[aE C,aE C];by_cases D:k=7
 ·subst D;exact h.grown ok b hg (show hc 4 2=0 by decide) (fun q hq=>two q hq aa)
 rw[aE D,aE D];by_cases v:k=8
 ·rw[aH v,aH v];exact h.grown ok b hg aa (fun q hq=>by cases hq)
 rw[aE v,aE v];by_cases l:k=10
 ·rw[aH l,aH l];subst l;obtain⟨er,d⟩:=h.root (e aa)
  rw[er];exact h.popped b d
 rw[aE l,aE l];by_cases o:k=11
 ·rw[aH o,aH o];subst o;exact h.got b (e aa) I
 rw[aE o,aE o];by_cases p:k=13
 ·rw[aH p,aH p];subst p;obtain⟨er,d⟩:=h.root (e aa)
  rw[er];exact h.IA b d
 rw[aE p,aE p];by_cases s:k=14
 ·rw[aH s,aH s];subst s;obtain⟨er,d⟩:=h.root (e aa)
  obtain⟨E,F⟩:=h.root (hB aa)
  rw[er,E];by_cases c:W.rs.getD A.toNat (0,0)=W.rs.getD B.toNat (0,0)
  ·rw[aH (by rw[c]),aH c];exact⟨rfl,m,Y,G,h,fun _=>⟨by rw[i8 (show(1:Int)≠3 by decide)],dM.of aa aa⟩⟩
  ·rw[aE (fun H=>c (h.Ak b d F H)),aE c];exact⟨rfl,m,Y,G,h,fun _=>⟨by rw[i8 (show(1:Int)≠3 by decide)],dM.of aa aa⟩⟩
 rw[aE s,aE s];exact⟨rfl,m,Y,G,h,fun _=>⟨by rw[i8 (show(0:Int)≠3 by decide),HP],dM.nil _⟩⟩
theorem cw.hds (h:cw a S W m Y G)(ok:dV a S j)(b:cI a S.s)(hg:∀T wt,gy T wt->d9 T wt (g T wt))(k R A B I n:Int):oa a (S.hd a k R A B I n) (W.es g a.N a.O k R A B I n):=by
 have i:=hg _ _ h.iv;unfold ck.hd cj.es;by_cases d:dF k R A B n=0
 ·rw[aH d,aH d];have s:cP k=3\/cP k=6\/cP k=7->A.toNat<12:=fun o=>by have:=nD d o;omega
  have hB:cP k=6\/cP k=7->B.toNat<12:=fun o=>by have:=nE d o;omega
  by_cases e:k=9
  ·rw[aH e,aH e];subst e;obtain⟨er,p⟩:=h.root (s aa)
   obtain⟨J,K⟩:=h.root (hB aa)
   rw[er,J];exact h.IB b p K
  rw[aE e,aE e];by_cases f:k=12
  ·rw[aH f,aH f];subst f;exact h.IC b (s aa) (hB aa) I
  rw[aE f,aE f];by_cases l:k=15
  ·rw[aH l,aH l];exact⟨h.AN b i,h.cut b i⟩
  rw[aE l,aE l];by_cases e16:k=16
  ·rw[aH e16,aH e16];exact⟨h.hQ b i,h.dA b i⟩
  rw[aE e16,aE e16];have ht:=h.rt ok b hg I d;obtain⟨o1,w,_⟩:=ok.rt b A.toNat B.toNat I (s9 d)
  generalize S.rt a k A.toNat B.toNat I n=t at*;generalize W.rt g a.N a.O k A.toNat B.toNat I n=u at*;obtain⟨x,cd,L⟩:=t;obtain⟨v,M,N⟩:=u;obtain⟨C,D,E,F,q,H⟩:=ht;dsimp only at C q H w⊢;subst C;by_cases c:cd=0
  ·rw[aH c,aH c];obtain⟨ex,p⟩:=H c;subst ex;exact⟨rfl,D,E,F,q.put w R.toNat p⟩
  ·rw[aE c,aE c];exact⟨rfl,D,E,F,q⟩
 ·rw[aE d,aE d];exact⟨rfl,m,Y,G,h⟩
end
section
variable {a:Wc}{hp:Nat}{F:Nat->Prop}{S:ck}{w:au}
theorem uM (h:(cq a hp).J F S w)(x:Int):
 Calls prog 31 #[aj a.pw,ah x] w fun e w'=>e=.returned (.tuple #[ah (S.kx a x),ah (S.fx a x),ah (S.ex a x)])/\Below w.heap.size w w':=
 Cu x w (eC h).c0 (jo h).1
theorem A2 (h:(cq a hp).J F S w)(x:Int):
 Calls prog 96 #[aj hp,ah x] w fun e w'=>e=.returned (.bool (S.kx a x==5))/\Below w.heap.size w w':=by
 have P:=uM h x;obtain⟨h0,_⟩:=eC h;go_enter func96,ntmps96;go_wp2_with fail;refine P.mono ?_;rintro e w1 ⟨rfl,hb1⟩
 exact lB
theorem IE {q:List bZ}{g:Int}{i:Nat}(hi:i<q.length)(b:(q.getD i (0,0)).1=g)(c:∀e∈q.take i,¬e.1=g):dR g q=i:=by
 refine(List.findIdx_eq hi).2 ⟨?_,fun j d=>?_⟩
 ·rw[aC,aG hi] at b;simpa using b
 ·have:=c (q[j]'V) (by rw[List.mem_take_iff_getElem];exact⟨j,V,rfl⟩)
  simpa using this
theorem IF (h:(fq a).J F S w)(g:Int)(hq:S.q.length<=90000):
 Calls prog 161 #[aj a.sd,ah g] w fun e w'=>∃m,e=.returned (.tuple #[ah (if dR g S.q<S.q.length then(S.q.getD (dR g S.q) (0,0)).2 else 0),.bool (decide (dR g S.q<S.q.length))])/\(fq a).J m (if dR g S.q<S.q.length then⟨S.s,S.r,S.q.take (dR g S.q)++S.q.drop (dR g S.q+1)⟩ else S) w'/\b_ F w m w':=by
 have s:=h;obtain⟨n,ar,f,⟨t,u,v,j,x,A,B,o,p,I,C⟩,r0,r1,k⟩:=h;refine(Ek w a.sd ar u f v S.r S.q g ⟨x,r0,A⟩ hq).mono ?_;rintro e w' (⟨rfl,D,q⟩|⟨i,b1,c1,rfl,hi,g1,g2,hs,E,fr⟩)
 ·have l:¬dR g S.q<S.q.length:=fun c=>by
   unfold dR at c;have:=List.findIdx_getElem (w:=c)
   exact D _ (a6 c) (by simpa using this)
  rw[aE l,aE l,bz l];exact⟨F,rfl,(fq a).below s q,b_.of q⟩
 ·rw[(IE hi g1 g2),aH hi,aH hi,bm hi];have nq:∀b,some b=(Value.slice b1 (S.q.take i++S.q.drop (i+1)).length c1).ownBlock->w.heap.size<=b:=fun b e=>by
   cases b1 with
   |none=>simp[Value.ownBlock] at e
   |some z=>
    simp[Value.ownBlock] at e;rw[e];exact E z rfl
  refine⟨fun b=>(n b\/some b=(Value.slice b1 _ c1).ownBlock)\/some b=(Value.slice ar S.r.length f).ownBlock,rfl,⟨fun b=>n b\/some b=(Value.slice b1 _ c1).ownBlock,ar,f,⟨t,b1,c1,(dY a).keep j fr.size (fun b d=>fr.block b ((dY a).lt j b d) (fun e=>p (by have e:=e;rw[<-e];exact d))),hs.blk,hs.q0,fun b d=>aJ (B b d),aJ o,p,fun b e=>⟨aI e,fun d=>by have G:=(dY a).lt j b d;have H:=nq b e;omega⟩,fun b d=>?_⟩,hs.r0,fun b e d=>?_,fun b=>Iff.rfl⟩,⟨fr.mono (fun b d=>(k b).2 (aJ (by have d:=d;rw[d];exact o))),fun b d=>?_⟩⟩
  ·rcases d with d|d
   ·exact aM (C b d) fr.size
   ·exact(ce hs.q0 b d).2
  ·rcases d with d|d
   ·exact r1 b e d
   ·have G:=(ce r0 b e).2;have H:=nq b d;omega
  ·rcases d with(d|d)|d
   ·exact aJ ((k b).2 (aJ d))
   ·exact aI (nq b d)
   ·exact aJ ((k b).2 (aI d))
theorem IG (x y:Int)(w:au):
 Calls prog 102 #[ah x,ah y] w fun e w'=>e=.returned (.tuple #[ah (if x=y then ew 1 1 else ew 1 0),ah 0])/\Below w.heap.size w w':=by
 by_cases e:x=y
 ·subst e;rw[aH rfl];have P:=oF 1 w;rw[show vc 1 1=0 by decide] at P;exact AZ
 ·have P:=oF 0 w;exact AZ
theorem IH (h:(cq a hp).J F S w)(x:Int):
 Calls prog 101 #[aj hp,ah x] w fun e w'=>e=.returned (.tuple #[ah (S.len a x).1,ah (S.len a x).2.1])/\Below w.heap.size w w':=by
 have P:=uM h x;obtain⟨h0,_⟩:=eC h;unfold ck.len;generalize S.kx a x=k at*;generalize S.fx a x=f at*;generalize S.ex a x=c at*;by_cases hc:c=0
 ·subst hc;by_cases hk:k=5
  ·subst hk;rw[aE Z];go_enter func101,ntmps101;exact sc
  ·rw[aH ⟨rfl,hk⟩];have b:=fun w=>oF f w;generalize ew 1 f=v at*;generalize vc 1 f=u at*;go_enter func101,ntmps101;go_wp2_with fail;refine P.mono ?_;rintro e w1 ⟨rfl,hb1⟩
   go_wp2_with fail;refine(b w1).mono ?_;rintro e j ⟨rfl,d⟩
   have g:=hb1.trans (d.mono hb1.size)
   go_wp2_with fail;go_ret2;exact⟨rfl,g⟩
 ·rw[aE (fun i=>hc i.1)];go_enter func101,ntmps101;exact sc
theorem A3 (h:(cq a hp).J F S w):w.cell? (am a.pw 2)=some (aj a.sd):=by obtain⟨c,b,_⟩:=jN h;obtain⟨d,g1,_⟩:=lW b;obtain⟨_,_,c2,_⟩:=jh g1;exact c2
theorem II (h:(cq a hp).J F S w)(x:Int)(hq:S.q.length<=90000):
 Calls prog 100 #[aj hp,ah x] w fun e w'=>∃d,e=.returned (.tuple #[ah (S.pop a x).1,ah (S.pop a x).2.1])/\(cq a hp).J d (S.pop a x).2.2 w'/\b_ F w d w':=by
 have P:=A2 h x;have l:=hide h;unfold ck.pop;by_cases hk:S.kx a x=5
 ·rw[aH hk];rw[hk] at P;have n:∀w1,Below w.heap.size w w1->w1.cell? (am hp 0)=some (aj a.pw)/\w1.cell? (am a.pw 2)=some (aj a.sd)/\Calls prog 161 #[aj a.sd,ah x] w1 fun e w'=>∃d,e=.returned (.tuple #[ah (if dR x S.q<S.q.length then(S.q.getD (dR x S.q) (0,0)).2 else 0),.bool (decide (dR x S.q<S.q.length))])/\(cq a hp).J d (if dR x S.q<S.q.length then⟨S.s,S.r,S.q.take (dR x S.q)++S.q.drop (dR x S.q+1)⟩ else S) w'/\b_ F w d w':=fun w1 b=>by
   have j:=(cq a hp).below l.o b;refine⟨(eC j).h0,A3 j,?_⟩
   obtain⟨t,g1,_,g3⟩:=jN j;refine(IF g1 x hq).mono ?_;rintro e w' ⟨d,rfl,o,p⟩
   obtain⟨f,j2,g⟩:=g3 _ _ _ o p;exact⟨f,rfl,j2,(b_.of b).trans g⟩
  have i:=hide n;by_cases hi:dR x S.q<S.q.length
  ·rw[aH hi];simp only [if_pos hi,decide_eq_true hi] at i;generalize (S.q.getD (dR x S.q) (0,0)).2=v at*;generalize (⟨S.s,S.r,S.q.take (dR x S.q)++S.q.drop (dR x S.q+1)⟩:ck)=u at*;go_enter func100,ntmps100;go_wp2_with fail;refine P.mono ?_;rintro e w1 ⟨rfl,b⟩
   obtain⟨k0,q,k⟩:=i.o w1 b;go_wp2_with fail;refine k.mono ?_;rintro e m ⟨f,rfl,j2,g⟩
   have c:av (_/\_):=⟨j2,g⟩
   go_wp2;go_ret2;exact⟨f,rfl,c.o.1,c.o.2⟩
  ·rw[aE hi];simp only [if_neg hi,decide_eq_false hi] at i;go_enter func100,ntmps100;go_wp2_with fail;refine P.mono ?_;rintro e w1 ⟨rfl,b⟩
   obtain⟨k0,q,k⟩:=i.o w1 b;go_wp2_with fail;refine k.mono ?_;rintro e m ⟨f,rfl,j2,g⟩
   have c:av (_/\b_ F w f m):=⟨j2,g⟩
   go_wp2;go_ret2;exact⟨f,rfl,c.o.1,c.o.2⟩
 ·rw[aE hk];have s:(S.kx a x==5)=false:=by simpa using hk
  rw[s] at P;go_enter func100,ntmps100;go_wp2_with fail;refine P.mono ?_;rintro e w1 ⟨rfl,b⟩
  have c:av ((cq a hp).J F S w1/\b_ F w F w1):=⟨(cq a hp).below l.o b,b_.of b⟩
  go_wp2;go_ret2;exact⟨F,rfl,c.o.1,c.o.2⟩
theorem IJ (h:(cq a hp).J F S w)(t g:Int)(v:S.r.length<=90000)(hq:S.q.length<=90000):
 Calls prog 39 #[aj hp,ah t,ah g] w fun e w'=>∃i,e=.returned (ah (S.reg a t g).1)/\(cq a hp).J i (S.reg a t g).2 w'/\b_ F w i w':=by
 have P:=uM h t;obtain⟨h0,_⟩:=eC h;have p:av ((cq a hp).J F S w):=h;unfold ck.reg;have m:av (∀w1,Below w.heap.size w w1->Calls prog 96 #[aj hp,ah g] w1 fun e w'=>e=.returned (.bool (S.kx a g==5))/\Below w.heap.size w w'):=fun w1 b=>by
  refine(A2 ((cq a hp).below p.o b) g).mono ?_;rintro e w' ⟨rfl,d⟩
  exact⟨rfl,b.trans (d.mono b.size)⟩
 have q:av (∀w1,Below w.heap.size w w1->w1.cell? (am hp 0)=some (aj a.pw)/\w1.cell? (am a.pw 2)=some (aj a.sd)/\Calls prog 32 #[aj a.sd,.agg #[ah g,ah t]] w1 fun e w'=>∃i,e=.returned (.bool (!kB (S.r.length+S.q.length)))/\(cq a hp).J i (if 24<=S.r.length+S.q.length then S else⟨S.s,S.r++[(g,t)],S.q⟩) w'/\b_ F w i w'):=fun w1 b=>by
  have s:=(cq a hp).below p.o b;refine⟨(eC s).h0,A3 s,?_⟩
  obtain⟨E,g1,_,g3⟩:=jN s;refine(G7 g1 g t v hq).mono ?_;rintro e w' ⟨i,rfl,x,A⟩
  obtain⟨F2,j2,n⟩:=g3 _ _ _ x A;exact⟨F2,rfl,j2,(b_.of b).trans n⟩
 generalize S.fx a t=f at*;generalize S.kx a t=k at*;by_cases hc:S.ex a t=0
 ·rw[aH hc];rw[hc] at P;by_cases hk:S.kx a g=5
  ·rw[aH hk];rw[hk] at m;by_cases j:24<=S.r.length+S.q.length
   ·rw[aH j];simp only [if_pos j,sW j] at q;go_enter func39,ntmps39;go_wp2_with fail;refine P.mono ?_;rintro e w1 ⟨rfl,b⟩
    have o:=m.o w1 b;go_wp2_with fail;refine o.mono ?_;rintro e l ⟨rfl,d⟩
    obtain⟨k0,B,u⟩:=q.o l d;go_wp2_with fail;refine u.mono ?_;rintro e w3 ⟨F2,rfl,j2,n⟩
    have HF:av ((cq a hp).J F2 S w3/\b_ F w F2 w3):=⟨j2,n⟩
    exact pG
   ·rw[aE j];simp only [if_neg j,sX j] at q;generalize (⟨S.s,S.r++[(g,t)],S.q⟩:ck)=C at*;go_enter func39,ntmps39;go_wp2_with fail;refine P.mono ?_;rintro e w1 ⟨rfl,b⟩
    have o:=m.o w1 b;go_wp2_with fail;refine o.mono ?_;rintro e l ⟨rfl,d⟩
    obtain⟨k0,B,u⟩:=q.o l d;go_wp2_with fail;refine u.mono ?_;rintro e w3 ⟨F2,rfl,j2,n⟩
    have HF:av ((cq a hp).J F2 C w3/\b_ F w F2 w3):=⟨j2,n⟩
    exact pG
  ·rw[aE hk];have D:(S.kx a g==5)=false:=by simpa using hk
   simp only [D] at m;go_enter func39,ntmps39;go_wp2_with fail;refine P.mono ?_;rintro e w1 ⟨rfl,b⟩
   have o:=m.o w1 b;go_wp2_with fail;refine o.mono ?_;rintro e l ⟨rfl,d⟩
   have HF:av ((cq a hp).J F S l/\b_ F w F l):=⟨(cq a hp).below p.o d,b_.of d⟩
   go_wp2_with fail;go_ret;exact⟨F,rfl,HF.o.1,HF.o.2⟩
 ·rw[aE hc];generalize S.ex a t=c at*;go_enter func39,ntmps39;go_wp2_with fail;refine P.mono ?_;rintro e w1 ⟨rfl,b⟩
  have HF:av ((cq a hp).J F S w1/\b_ F w F w1):=⟨(cq a hp).below p.o b,b_.of b⟩
  go_wp2_with fail;go_ret;exact⟨F,rfl,HF.o.1,HF.o.2⟩
end
section
variable {a:Wc}{hp:Nat}{F:Nat->Prop}{S:ck}{w:au}
theorem A4 (h:(cq a hp).J F S w)(hq:S.q.length+S.r.length<=90000):
 Calls prog 33 #[aj a.pw] w fun e w'=>∃b,e=.returned (ah (S.code a))/\(cq a hp).J b (S.cut a) w'/\b_ F w b w':=by
 obtain⟨i,g1,_,g3⟩:=jN h;refine(GJ g1 hq).mono ?_;rintro e w' ⟨b,rfl,c,d⟩
 obtain⟨f,j2,g⟩:=g3 _ _ _ c d;exact⟨f,rfl,j2,g⟩
theorem A6 (h:(cq a hp).J F S w)(hq:S.q.length+S.r.length<=90000)(c:S.fD a=false->∃G,il (S.k5 a) (S.dG a) G/\G 0 (S.k5 a,0)):
 Calls prog 20 #[aj a.pw] w fun e w'=>∃b,e=.returned (ah (S.hQ a))/\(cq a hp).J b (S.dA a) w'/\b_ F w b w':=by
 obtain⟨j,g1,_,g3⟩:=jN h;refine(Hm g1 hq c).mono ?_;rintro e w' ⟨b,rfl,d,f⟩
 obtain⟨g,j2,i⟩:=g3 _ _ _ d f;exact⟨g,rfl,j2,i⟩
theorem IK (h:(cq a hp).J F S w)(m:Int)(hq:S.q.length+S.r.length<=90000)(s:S.fD a=false->∃G,il (S.k5 a) (S.dG a) G/\G 0 (S.k5 a,0)):
 Calls prog 160 #[aj hp,ah m] w fun e w'=>∃b,e=.returned (ah (S.room a m).1)/\(cq a hp).J b (S.room a m).2 w'/\b_ F w b w':=by
 unfold ck.room;by_cases hm:m<=(a.N:Int)-S.s.y
 ·rw[aH hm];refine(AS h m hm).mono ?_;rintro e w' ⟨rfl,o⟩
  exact⟨F,rfl,(cq a hp).below h o,b_.of o⟩
 rw[aE hm];obtain⟨h0,c0,_⟩:=eC h;have t:=(jo h).1;have P:=ot w t;have p:av (∀w1,Below w.heap.size w w1->(w1.cell? (am hp 0)=some (aj a.pw)/\w1.cell? (am a.pw 0)=some (aj a.p))/\Calls prog 15 #[aj a.p] w1 fun e w'=>e=.returned (.tuple #[ah S.s.y,ah S.s.g])/\Below w.heap.size w w'):=fun w1 c=>by
  have d:=(cq a hp).below h c;obtain⟨h0,c0,_⟩:=eC d;refine⟨⟨h0,c0⟩,?_⟩
  refine(kl w1 (jo d).1).mono ?_;rintro e w' ⟨rfl,f⟩
  exact⟨rfl,c.trans (f.mono c.size)⟩
 have q:av (∀w1,Below w.heap.size w w1->w1.cell? (am hp 0)=some (aj a.pw)/\(Calls prog 33 #[aj a.pw] w1 fun e w'=>∃b,e=.returned (ah (S.code a))/\(cq a hp).J b (S.cut a) w'/\b_ F w b w')/\(Calls prog 20 #[aj a.pw] w1 fun e w'=>∃b,e=.returned (ah (S.hQ a))/\(cq a hp).J b (S.dA a) w'/\b_ F w b w')):=fun w1 c=>by
  have d:=(cq a hp).below h c;refine⟨(eC d).h0,(A4 d hq).mono ?_,(A6 d hq s).mono ?_⟩
  ·rintro e w' ⟨b,rfl,g,i⟩
   exact⟨b,rfl,g,(b_.of c).trans i⟩
  ·rintro e w' ⟨b,rfl,g,i⟩
   exact⟨b,rfl,g,(b_.of c).trans i⟩
 by_cases hy:(S.s.y:Int)<=(a.O:Int)-S.s.g
 ·rw[aH hy];generalize S.cut a=u at*;generalize S.code a=cd at*;go_enter func160,ntmps160;go_wp2_with fail;refine P.mono ?_;rintro e w1 ⟨rfl,c⟩
  obtain⟨⟨g0,g1⟩,j⟩:=p.o w1 c;go_wp2_with fail;refine j.mono ?_;rintro e k ⟨rfl,f⟩
  obtain⟨k0,l,_⟩:=q.o k f;go_wp2_with fail;refine l.mono ?_;rintro e w3 ⟨F2,rfl,j2,n⟩
  have HF:=dC j2 n;exact pG
 ·rw[aE hy];generalize S.dA a=u at*;generalize S.hQ a=cd at*;go_enter func160,ntmps160;go_wp2_with fail;refine P.mono ?_;rintro e w1 ⟨rfl,c⟩
  obtain⟨⟨g0,g1⟩,j⟩:=p.o w1 c;go_wp2_with fail;refine j.mono ?_;rintro e k ⟨rfl,f⟩
  obtain⟨k0,_,l⟩:=q.o k f;go_wp2_with fail;refine l.mono ?_;rintro e w3 ⟨F2,rfl,j2,n⟩
  have HF:=dC j2 n;exact pG
theorem IL (kd:Int)(rl:List Nat)(n:Option Addr)(W:Nat)(b:ck)(ap:rl.length<=12)(hk:hc kd rl.length=0)(room:b.s.y+1+rl.length<=a.N)
 (u:0<rl.length->∃d,n=ak d/\¬F d/\d<w.heap.size/\∀i,i<rl.length->w.cell? (am d i)=some (ah ((rl.getD i 0:Nat):Int)))(v:∀i,i<rl.length->rl.getD i 0<12)
 (h:(cq a hp).J F S w)
 (A:Calls prog 160 #[aj hp,ah (1+rl.length)] w fun e w'=>∃c,e=.returned (ah 0)/\(cq a hp).J c b w'/\b_ F w c w'):
 Calls prog 98 #[aj hp,ah kd,.slice n rl.length W] w fun e w'=>∃c,e=.returned (.tuple #[ah (ew 3 b.s.y),ah 0])/\(cq a hp).J c (b.put a kd rl) w'/\b_ F w c w':=by
 have o:gY a.N b.s.y kd rl.length=true:=by unfold gY;rw[hk];simp;omega
 have B:ix a.N b.s.y kd rl.length=b.s.y+1+rl.length:=by unfold ix;rw[aH o];omega
 have C:ns a.N b.s.y kd rl.length=b.s.y:=by unfold ns;rw[aH o]
 have D:av (0<rl.length->_):=u;have X:av (∀i,i<rl.length->_):=v;have E:av (_/\_):=⟨B,C⟩
 have Y:av (b.put a kd rl=⟨{b.s with y:=b.s.y+1+rl.length,ws:=gg b.s.rs b.s.y (eM a.N b.s.y kd rl.length b.s.ws) rl rl.length},b.r,b.q⟩):=rfl;have n1:=(jo h).1.hN';generalize b.put a kd rl=ab at*;clear u v o B C hk h;go_enter func98,ntmps98;go_wp2_with fail;refine A.mono ?_;clear A;rintro e w1 ⟨ar,rfl,p,G⟩
 obtain⟨h0,c0,_⟩:=eC p;obtain⟨f,l⟩:=jo p;have ax:=f.hy;have aB:=f.hg;have n4:=f.hO;have q:=wx kd rl.length w1 f;rw[E.o.1,E.o.2] at q;have HA:av (∀w' y g ws,At w' a.p a.q a.N a.O y g ws->c7 a.p a.q w1 w'->_):=l;have H:av (_):=G;clear p f l G;go_wp2_with fail;refine q.mono ?_;clear q;rintro e aF ⟨rfl,I,J⟩
 obtain⟨ad,j2,m⟩:=HA.o _ _ _ _ I J;have m:=H.o.trans m;have K:∀(c:Nat->Prop)(w':au),b_ F w c w'->∀i,i<rl.length->∃d,n=ak d/\w'.cell? (am d i)=some (ah ((rl.getD i 0:Nat):Int)):=fun c w' t i hi=>by obtain⟨d,e,g1,g2,g3⟩:=D.o V;exact⟨d,e,(aU (a:=⟨d,i,none⟩) (t.fr.block d g2 g1)).trans (g3 i hi)⟩
 have ag:av (∀(c:Nat->Prop)(w':au),b_ F w c w'->∀i,i<rl.length->_):=K;have L:=dC j2 m;clear I J j2 m HA D K H h0 c0;go_wp2_with fail
 go_loopw [33] (fun iv wr=>∃(j:Nat)(c:Nat->Prop),j<=rl.length/\iv=ah j/\av ((cq a hp).J c ⟨{b.s with y:=b.s.y+1+rl.length,ws:=gg b.s.rs b.s.y (eM a.N b.s.y kd rl.length b.s.ws) rl j},b.r,b.q⟩ wr/\b_ F w c wr)) (fun iv _=>rl.length-(intOf iv).toNat)
 exact⟨0,ad,aS _,rfl,L⟩
 ·
   clear L;obtain⟨j,c,aR,rfl,k⟩:=hrel;by_cases M:j<rl.length
   ·obtain⟨d,rfl,tc⟩:=ag.o c wr k.o.2 j M;have N:=X.o j M;have O:av (gg b.s.rs b.s.y (eM a.N b.s.y kd rl.length b.s.ws) rl (j+1)=(gg b.s.rs b.s.y (eM a.N b.s.y kd rl.length b.s.ws) rl j).set (b.s.y+1+j) (b.s.rs.getD (rl.getD j 0) 0)):=rfl;generalize rl.getD j 0=r at*;have HX:av (∀(rx:Nat->Prop)(w5:au),(∀i,i<12->w5.cell? (am a.nb i)=some (ah (b.s.rs.getD i 0))/\w5.frozen? (am a.nb i)=false)->_=_):=fun _ _ g=>(g r N).1;have Q:=(cq a hp).below k.o.1 (aD _ wr).drew;obtain⟨h0,c0,c3,rt,ai,lp,lw,ln⟩:=eC k.o.1;obtain⟨r1,_⟩:=rt r N;obtain⟨f,l⟩:=jo Q;dsimp only at r1 f l;have R:da a.N (b.s.y+1+rl.length) b.s.g ((b.s.y:Int)+1+j)=true:=ih V V;have ru:=kk ((b.s.y:Int)+1+j) (b.s.rs.getD r 0) wr.drew f;rw[R,aH rfl,show((b.s.y:Int)+1+j).toNat=b.s.y+1+j by omega,<-O.o] at ru;have HA:av (∀w' y g ws,At w' a.p a.q a.N a.O y g ws->c7 a.p a.q wr.drew w'->_):=l;have j0:(0:Int)<=(j:Int):=V;have aT:(j:Int)<(rl.length:Int):=V;have q0:(0:Int)<=(r:Int):=V;have q1:(r:Int)<12:=V;have b6:IntKind.i64.wrap ((b.s.y:Int)+1)=(b.s.y:Int)+1:=by rw[bu];omega
    have b7:IntKind.i64.wrap ((b.s.y:Int)+1+(j:Int))=(b.s.y:Int)+1+j:=by rw[bu];omega
    have HT3:av (_):=k.o.2.below (aD _ wr).drew;clear Q f l rt R O ai k;generalize b.s.rs.getD r 0=x at*;exact AI
   ·obtain rfl:j=rl.length:=V;go_wp2_with fail;refine(pP (b.s.y:Int) wr).mono ?_;rintro e al ⟨rfl,s⟩
    have U:av ((cq a hp).J c ab al/\_):=⟨by rw[Y.o];exact(cq a hp).below k.o.1 s,k.o.2.below s⟩
    clear s k;go_wp2_with fail;go_ret2;exact⟨c,rfl,U.o.1,U.o.2⟩
theorem IM (kd cd:Int)(n:Nat)(f:Option Addr)(g:Nat)(c:ck)(m:n<=12)(hc:cd≠0)
 (i:Calls prog 160 #[aj hp,ah (1+n)] w fun e w'=>∃b,e=.returned (ah cd)/\(cq a hp).J b c w'/\b_ F w b w'):
 Calls prog 98 #[aj hp,ah kd,.slice f n g] w fun e w'=>∃b,e=.returned (.tuple #[ah 0,ah cd])/\(cq a hp).J b c w'/\b_ F w b w':=by
 go_enter func98,ntmps98;go_wp2_with fail;refine i.mono ?_;rintro e w1 ⟨j,rfl,k,l⟩
 have d:=dC k l;go_wp2;go_ret2;exact⟨j,rfl,d.o.1,d.o.2⟩
theorem pH (h:(cq a hp).J F S w)(kd:Int)(rl:List Nat)(b:Option Addr)(f:Nat)(hq:S.q.length+S.r.length<=90000)(l:S.fD a=false->∃G,il (S.k5 a) (S.dG a) G/\G 0 (S.k5 a,0))(hk:hc kd rl.length=0)
 (m:0<rl.length->∃d,b=ak d/\¬F d/\d<w.heap.size/\∀i,i<rl.length->w.cell? (am d i)=some (ah ((rl.getD i 0:Nat):Int)))(n:∀i,i<rl.length->rl.getD i 0<12)
 (room:(S.room a (1+rl.length)).1=0->(S.room a (1+rl.length)).2.s.y+1+rl.length<=a.N):
 Calls prog 98 #[aj hp,ah kd,.slice b rl.length f] w fun e w'=>∃j,e=.returned (.tuple #[ah (S.bY a kd rl).1,ah (S.bY a kd rl).2.1])/\(cq a hp).J j (S.bY a kd rl).2.2 w'/\b_ F w j w':=by
 have k:rl.length<=12:=by have:=iE kd rl.length hk;omega
 have g:=IK h (1+rl.length) hq l;unfold ck.bY;by_cases c:(S.room a (1+rl.length)).1=0
 ·rw[aH c];rw[c] at g;exact IL kd rl b f _ k hk (room c) m n h g
 ·rw[aE c];exact IM kd _ rl.length b f _ k c g
end
section
variable {a:Wc}{hp:Nat}{F:Nat->Prop}{S:ck}{w:au}
theorem pI {R:Nat}(b:R<12):dp (R:Int)=true:=by unfold dp;rw[bm V,bm V];rfl
theorem IN (R A:Nat)(b:R<12)(c:A<12):dF 11 R A 0 0=0:=by have e:cP 11=3:=rfl;unfold dF;rw[e,aE aa,pI b,pI c,aE Z];rfl
theorem IP (R A B:Nat)(b:R<12)(c:A<12)(hB:B<12):dF 4 R A B 0=0:=by have e:cP 4=7:=rfl;unfold dF;rw[e,aE aa,pI b,pI c,pI hB,aE Z];rfl
theorem IQ (h:(cq a hp).J F S w)(R I:Int)(A:Nat)(hA:A<12):
 Calls prog 40 #[aj hp,eU 11 R A 0 I 0] w fun e w'=>e=.returned (.tuple #[ah (if dT a.N S.s.y S.s.g S.s.ws (S.s.rs.getD A 0) I=0 then ld a.N S.s.y S.s.g S.s.ws (cf (S.s.rs.getD A 0)+1+I) else 0),ah (dT a.N S.s.y S.s.g S.s.ws (S.s.rs.getD A 0) I)])/\Below w.heap.size w w':=by
 have b:=an w (cE 11 R A 0 I 0)
 have c:=aL w (.cells #[.int .i64 11,.int .i64 R,.int .i64 (A:Int),.int .i64 0,.int .i64 I,.int .i64 0] 44)
 have f:=(cq a hp).below h b;obtain⟨h0,c0,c3,rt,_⟩:=eC f;obtain⟨r1,_⟩:=rt A hA;have d:=(cq a hp).below f (aD _ (w.alloc (cE 11 R A 0 I 0))).drew;have uL:=wF (S.s.rs.getD A 0) I (w.alloc (cE 11 R A 0 I 0)).drew (eC d).c0 (jo d).1;obtain⟨q0,q1,q2,q3,q4,g⟩:=fT c;have HJ:av ((cq a hp).J F S (w.alloc (cE 11 R A 0 I 0)).drew/\Below w.heap.size w (w.alloc (cE 11 R A 0 I 0)).drew/\(w.alloc (cE 11 R A 0 I 0)).heap[w.heap.size]?=some (cE 11 R A 0 I 0)):=⟨d,b.trans ((aD _ (w.alloc (cE 11 R A 0 I 0))).drew.mono b.size),c⟩
 have i:(0:Int)<=(A:Int):=V;have j:(A:Int)<12:=V;have lx:w.heap.size<(w.alloc (cE 11 R A 0 I 0)).heap.size:=lt_of_some c;clear h f d rt b c;generalize (if dT a.N S.s.y S.s.g S.s.ws (S.s.rs.getD A 0) I=0 then ld a.N S.s.y S.s.g S.s.ws (cf (S.s.rs.getD A 0)+1+I) else 0)=v at*;generalize dT a.N S.s.y S.s.g S.s.ws (S.s.rs.getD A 0) I=cd at*;have k:av (S.s.rs.getD A 0=S.s.rs.getD A 0):=rfl;go_enter func40,ntmps40
 go_upto_region 20 with fail
 generalize w.alloc (cE 11 R A 0 I 0)=w0 at*;exact AY
theorem A7 (h:(cq a hp).J F S w)(k:Int)(R:Nat)(A B I n:Int)(J:R<12)(hc:dF k R A B n=0)(k1:k≠9)(K:k≠12)(L:k≠15)(M:k≠16)(v:Int)(c:ck)
 (C:∀d w',(cq a hp).J d S w'->Calls prog 40 #[aj hp,eU k R A B I n] w' fun e m=>∃f,e=.returned (.tuple #[ah v,ah 0])/\(cq a hp).J f c m/\b_ d w' f m):
 Calls prog 13 #[aj hp,eU k R A B I n] w fun e w'=>∃d,e=.returned (ah 0)/\(cq a hp).J d ⟨{c.s with rs:=c.s.rs.set R v},c.r,c.q⟩ w'/\b_ F w d w':=by
 have q:=an w (cE k R A B I n)
 have D:=aL w (.cells #[.int .i64 k,.int .i64 (R:Int),.int .i64 A,.int .i64 B,.int .i64 I,.int .i64 n] 44)
 have s:=lr k R A B I n (w.alloc (cE k R A B I n))
 rw[hc] at s;have N:av (a.nb<w.heap.size):=(eC h).ln;have i:av ((cq a hp).J F S (w.alloc (cE k R A B I n))/\Below w.heap.size w (w.alloc (cE k R A B I n))/\(w.alloc (cE k R A B I n)).heap[w.heap.size]?=some (cE k R A B I n)/\∀b,F b->b<w.heap.size):=⟨(cq a hp).below h q,q,D,(cq a hp).lt h⟩
 have E:av (∀d w',(cq a hp).J d S w'->Calls prog 40 #[aj hp,eU k R A B I n] w' fun e m=>∃f,e=.returned (.tuple #[ah v,ah 0])/\(cq a hp).J f c m/\b_ d w' f m):=C;have ab:(k==9)=false:=by simpa using k1
 have ad:(k==12)=false:=by simpa using K
 have ag:(k==15)=false:=by simpa using L
 have ai:(k==16)=false:=by simpa using M
 clear h q D C hc;go_enter func13,ntmps13;go_wp2_with fail;generalize w.alloc (cE k R A B I n)=w0 at*;generalize O:w.heap.size=g at*;refine s.mono ?_;clear s;rintro e w1 ⟨rfl,o⟩
 have j:av ((cq a hp).J F S w1/\Below g w w1/\w1.heap[g]?=some (cE k R A B I n)/\∀b,F b->b<g):=⟨(cq a hp).below i.o.1 o,i.o.2.1.trans (o.mono (by have:=lt_of_some i.o.2.2.1;omega)),(o.block g (lt_of_some i.o.2.2.1)).trans i.o.2.2.1,i.o.2.2.2⟩
 obtain⟨q0,q1,P,q3,Q,U⟩:=fT j.o.2.2.1;clear i o;go_wp2_with fail;refine(E.o F w1 j.o.1).mono ?_;clear E;rintro e l ⟨f,rfl,p,t⟩
 have G:=(t.fr.block g (lt_of_some j.o.2.2.1) (fun W=>by have:=j.o.2.2.2 g W;omega)).trans j.o.2.2.1;obtain⟨u0,X,_⟩:=fT G;obtain⟨h0,c0,c3,rt,rl,lp,lw,ln⟩:=eC p;obtain⟨r1,Y⟩:=rt R J;have al:(0:Int)<=(R:Int):=V;have ap:(R:Int)<12:=V;have ar:=lt_of_some G;have nx:a.nb≠g:=by have:=N.o;omega
 obtain⟨n1,ax⟩:=AP p;have u:av ((cq a hp).J f c l.drew/\b_ F w f l.drew):=⟨(cq a hp).below p (aD _ l).drew,((b_.of (by rw[O];exact j.o.2.1)).trans t).below (aD _ l).drew⟩
 clear rt p t j q0 q1 P q3 Q U;go_wp2_with fail
 go_region_held3 (fun w'=>w'.cell? (am hp 0)=some (aj a.pw)/\w'.cell? (am a.pw 3)=some (.slice (ak a.nb) 12 12)/\w'.cell? (am g 1)=some (ah (R:Int))) (go_keep) (fail)
 obtain⟨x,cy,t3⟩:=AO u.o.1 R v;have H:av ((cq a hp).J x ⟨{c.s with rs:=c.s.rs.set R v},c.r,c.q⟩ (l.drew.setCell ⟨a.nb,R,none⟩ (.int .i64 v))/\b_ F w x (l.drew.setCell ⟨a.nb,R,none⟩ (.int .i64 v))):=⟨cy,u.o.2.trans t3⟩
 clear cy t3 u h0 c0 c3 r1 Y u0 X;go_wp2_with fail;go_ret;exact⟨rfl,x,H.o.1,H.o.2⟩
theorem IR (h:(cq a hp).J F S w)(k R A B I n:Int)(hc:dF k R A B n=0)(k1:k≠9)(s:k≠12)(t:k≠15)(u:k≠16)(v cd:Int)(h0:cd≠0)
 (m:∀f w',(cq a hp).J f S w'->Calls prog 40 #[aj hp,eU k R A B I n] w' fun e g=>e=.returned (.tuple #[ah v,ah cd])/\Below w'.heap.size w' g):
 Calls prog 13 #[aj hp,eU k R A B I n] w fun e w'=>e=.returned (ah cd)/\Below w.heap.size w w':=by
 have i:=an w (cE k R A B I n)
 have o:=aL w (.cells #[.int .i64 k,.int .i64 R,.int .i64 A,.int .i64 B,.int .i64 I,.int .i64 n] 44)
 have j:=lr k R A B I n (w.alloc (cE k R A B I n))
 rw[hc] at j;have b:av ((cq a hp).J F S (w.alloc (cE k R A B I n))/\Below w.heap.size w (w.alloc (cE k R A B I n))/\(w.alloc (cE k R A B I n)).heap[w.heap.size]?=some (cE k R A B I n)):=⟨(cq a hp).below h i,i,o⟩
 have p:av (∀f w',(cq a hp).J f S w'->Calls prog 40 #[aj hp,eU k R A B I n] w' fun e g=>e=.returned (.tuple #[ah v,ah cd])/\Below w'.heap.size w' g):=m;have J:(k==9)=false:=by simpa using k1
 have K:(k==12)=false:=by simpa using s
 have L:(k==15)=false:=by simpa using t
 have M:(k==16)=false:=by simpa using u
 have N:(cd==0)=false:=by simpa using h0
 clear h i o m hc;go_enter func13,ntmps13;go_wp2_with fail;generalize w.alloc (cE k R A B I n)=w0 at*;generalize x:w.heap.size=l at*;refine j.mono ?_;clear j;rintro e w1 ⟨rfl,c⟩
 have d:av ((cq a hp).J F S w1/\Below l w w1):=⟨(cq a hp).below b.o.1 c,b.o.2.1.trans (c.mono (by have:=lt_of_some b.o.2.2;omega))⟩
 obtain⟨q0,q1,C,q3,D,E⟩:=fT ((c.block l (lt_of_some b.o.2.2)).trans b.o.2.2)
 clear b c;go_wp2_with fail;refine(p.o F w1 d.o.1).mono ?_;clear p;rintro e G ⟨rfl,q⟩
 have H:av (Below l w G):=d.o.2.trans (q.mono (by have:=d.o.2.size;omega))
 clear q d q0 q1 C q3 D E;go_wp2_with fail;go_ret;exact⟨rfl,by rw[x];exact H.o⟩
theorem IS (h:(cq a hp).J F S w)(R:Int)(A B:Nat)(q:A<12)(hB:B<12)(room:S.s.y+3<=a.N):
 Calls prog 40 #[aj hp,eU 4 R A B 0 0] w fun e w'=>∃b,e=.returned (.tuple #[ah (ew 3 S.s.y),ah 0])/\(cq a hp).J b ⟨{S.s with y:=S.s.y+3,ws:=gg S.s.rs S.s.y (eM a.N S.s.y 1 2 S.s.ws) [A,B] 2},S.r,S.q⟩ w'/\b_ F w b w':=by
 have g:=an w (cE 4 R A B 0 0)
 have d:=g.alloc Z (.cells #[.int .i64 (A:Int),.int .i64 (B:Int)] 3)
 have c:=aL (w.alloc (cE 4 R A B 0 0)) (.cells #[.int .i64 (A:Int),.int .i64 (B:Int)] 3)
 have j:(w.alloc (cE 4 R A B 0 0)).heap.size=w.heap.size+1:=Z;rw[j] at c;have k:=(cq a hp).below h d;have l:=(cq a hp).lt h;have P:Calls prog 98 #[aj hp,ah 1,.slice (ak (w.heap.size+1)) 2 2] ((w.alloc (cE 4 R A B 0 0)).alloc (.cells #[.int .i64 (A:Int),.int .i64 (B:Int)] 3)) fun e w'=>∃b,e=.returned (.tuple #[ah (ew 3 S.s.y),ah 0])/\(cq a hp).J b ⟨{S.s with y:=S.s.y+3,ws:=gg S.s.rs S.s.y (eM a.N S.s.y 1 2 S.s.ws) [A,B] 2},S.r,S.q⟩ w'/\b_ F ((w.alloc (cE 4 R A B 0 0)).alloc (.cells #[.int .i64 (A:Int),.int .i64 (B:Int)] 3)) b w':=by
  refine Ip k 1 [A,B] (w.heap.size+1) 2 Z Z (fun i hi=>?_) (fun s=>by have:=l _ s;omega) (lt_of_some c) (fun i hi=>?_) rfl room
  ·have hi:i<2:=hi;rcases(show i=0\/i=1 by omega) with rfl|rfl<;>simp only [World.cell?,c]<;>rfl
  ·have hi:i<2:=hi;rcases(show i=0\/i=1 by omega) with rfl|rfl
   ·exact q
   ·exact hB
 have t:av (Below w.heap.size w ((w.alloc (cE 4 R A B 0 0)).alloc (.cells #[.int .i64 (A:Int),.int .i64 (B:Int)] 3))):=d;clear h g d c j k l;go_enter func40,ntmps40;go_wp2_with fail;refine P.mono ?_;clear P;rintro e m ⟨f,rfl,n,o⟩
 have p:av ((cq a hp).J f ⟨{S.s with y:=S.s.y+3,ws:=gg S.s.rs S.s.y (eM a.N S.s.y 1 2 S.s.ws) [A,B] 2},S.r,S.q⟩ m/\b_ F w f m):=⟨n,(b_.of t.o).trans o⟩
 clear n o;go_wp2_with fail;go_ret2;exact⟨f,rfl,p.o.1,p.o.2⟩
end
open Go.RowKit W
theorem IT (c:Nat)(hc:c<=12)(w:au):Calls prog 177 #[.int .u64 1,.int .u64 c] w fun e w'=>e=.returned (.tuple #[.int .u64 0,.int .u64 c])/\w'=w:=by
 rcases(show c=0\/c=1\/c=2\/c=3\/c=4\/c=5\/c=6\/c=7\/c=8\/c=9\/c=10\/c=11\/c=12 by omega) with rfl|rfl|rfl|rfl|rfl|rfl|rfl|rfl|rfl|rfl|rfl|rfl|rfl<;>
 (go_enter func177,ntmps177
  go_wp2_with fail;go_ret2;exact⟨rfl,rfl⟩)
theorem A8 (c:Nat)(hc:c<=12)(w:au):Calls prog 134 #[.int .u64 1,.int .u64 c] w fun e w'=>e=.returned (.tuple #[.int .u64 0,.int .u64 c])/\w'=w:=by
 have P:=IT c hc w;go_enter func134,ntmps134;go_wp2_with fail;refine P.mono ?_;rintro e w1 ⟨rfl,hw⟩
 have hw:=hw.symm;subst hw;go_wp2_with fail;go_ret2;exact⟨rfl,rfl⟩
def fM (c:Nat)(v:Int)(n:Nat):List Int:=List.replicate n v++List.replicate (c-n) 0
theorem uN (c:Nat)(v:Int)(n:Nat)(h:n<=c):(fM c v n).length=c:=by simp[fM];omega
theorem IU (c:Nat)(v:Int)(n m:Nat)(h:n+m<=c):splice (fM c v n) n (List.replicate m v)=fM c v (n+m):=by unfold splice fM;rw[List.take_left' Z,bw,List.drop_append,bw];simp only [List.drop_replicate];rw[show n-(n+m)=0 by omega,show c-n-(n+m-n)=c-(n+m) by omega];simp;rw[<-bj,List.replicate_append_replicate]
theorem IV (c:Nat)(v:Int)(n i:Nat)(h:i<n):(fM c v n).getD i 0=v:=by unfold fM;rw[aC,List.getElem?_append_left (by simpa using h)];simp[h]
theorem IW {c:Nat}{w:au}{nb n:Nat}{v:Int}(b:w.heap[nb]?=some (.cells ((fM c v n).map (Value.int .i64)).toArray 3 (0,0)))(d:n<=c)(m:Nat)(hm:m<=n):∀j u,((List.replicate m v).map (Value.int .i64))[j]?=some u->w.cell? ((⟨nb,0,none⟩:Addr).add j)=some u:=by
 intro j u hj;have e:j<m:=by exact oL
 have f:u=ah v:=by simp[e] at hj;exact hj.symm
 have hl:=uN c v n d;have hg:=IV c v n j V;rw[aC,aG (by omega:j<(fM c v n).length)] at hg;simp at hg;have ea:(⟨nb,0,none⟩:Addr).add j=⟨nb,j,none⟩:=by simp[Addr.add];intro h;exact h.symm
 rw[ea,f];have g:j<(fM c v n).length:=V;simp[World.cell?,b,List.getElem?_eq_getElem g];exact hg
theorem A9 {c:Nat}{w w':au}{nb n m B:Nat}{v:Int}(b:nl w w' nb ((fM c v n).map (Value.int .i64)) n ((List.replicate m v).map (Value.int .i64)))(d:w.heap[nb]?=some (.cells ((fM c v n).map (Value.int .i64)).toArray 3 (0,0)))(hm:0<m)(h:n+m<=c)(hB:B<=nb):w'.heap[nb]?=some (.cells ((fM c v (n+m)).map (Value.int .i64)).toArray 3 (0,0))/\Below B w w':=by
 rcases b with⟨h0,_⟩|rfl
 ·have:=congrArg List.length h0;simp at this
  omega
 ·rw[r9,IU c v n m h];exact⟨setRow_heap w nb _ _ _ _ d,⟨rfl,rfl,rfl,by simp[World.setRow],fun k hk=>setRow_other w nb k _ V⟩⟩
theorem A_:(prog.info? 3).map (fun i=>(i.zero,i.size,i.bytes))=some (some (ah 0),1,8):=ae
theorem uO:(prog.info? 3).map (·.size)=some 1:=ae
theorem Ba {w:au}{b k n:Nat}(h:w.ownsRow b 3 1 (.slice (ak k) n n) n (madeCells (Value.int .i64 0).cells (n*1)).toList):
 w.heap[k]?=some (.cells ((List.replicate n (0:Int)).map (Value.int .i64)).toArray 3 (0,0)):=by
 exact vO
theorem IX (w:au)(b c:Nat)(v:Int)(h0:0<c)(O:c<=12)(hc:w.cell? (am b 0)=some (ah v)):
 Calls prog 99 #[.slice (ak b) 1 1,ah c] w fun e w'=>∃nb,e=.returned (.slice (ak nb) c c)/\w.heap.size<=nb/\w'.heap[nb]?=some (.cells ((List.replicate c v).map (Value.int .i64)).toArray 3 (0,0))/\Below w.heap.size w w':=by
 obtain⟨t,hi,P,Q,R⟩:=info_parts A_;have lb:=aK w _ hc;dsimp only at lb;have x:=A8 c O w;have S:av (fM c v c=List.replicate c v):=by show _=_;simp[fM]
 have c0:(0:Int)<(c:Int):=V;have c1:(c:Int)<=12:=V;go_enter func99,ntmps99;go_wp2_with fail;refine x.mono ?_;clear x;rintro e w0 ⟨rfl,hw⟩
 have hw:=hw.symm;subst hw
 go_upto_region 7 with(at_make;refine wpList_make_full _ rfl _ _ 96 rfl w.heap.size 3 t (ah 0) 1 underlying96 hi P Q .i64 .i64 _ _ c rfl rfl V V (by rw[R];omega) (by unfold maxLen;omega) bW ?_;intro w1 A C)
 have D:w1.heap[w.heap.size]?=some (.cells ((fM c v 0).map (Value.int .i64)).toArray 3 (0,0)):=by have U:=Ba A;simpa[fM] using U
 have k:Below w.heap.size w w1:=(aD _ w).grown C bW (fun _ h=>by cases h)
 have E:=(k.cell (p:=am b 0) lb).trans hc;clear A C;have d:av (∀j u,((List.replicate 1 v).map (Value.int .i64))[j]?=some u->w1.cell? ((⟨b,0,none⟩:Addr).add j)=some u):=one_cell E;have l:av (w1.heap[w.heap.size]?=some (.cells ((fM c v 0).map (Value.int .i64)).toArray 3 (0,0))):=D;have f:av (((List.replicate 1 v).map (Value.int .i64)).length=Nat.min 1 c):=by show _=_;simp only [List.length_map,List.length_replicate,Nat.min_def];split<;>omega
 have g:av (0+((List.replicate 1 v).map (Value.int .i64)).length<=((fM c v 0).map (Value.int .i64)).length):=by show _<=_;rw[aQ,aQ,uN c v 0 V];simp;omega
 clear E D;go_wp2_with (refine ub rfl _ _ 96 96 3 rfl underlying96 uO (ak w.heap.size) (ak b) c c 1 1 rfl rfl w.heap.size 0 ((fM c v 0).map (Value.int .i64)) 3 l.o ((List.replicate 1 v).map (Value.int .i64)) f.o (fun _=>⟨rfl,_,rfl,d.o⟩) g.o (ou _) ?_;intro ad F)
 obtain⟨G,H⟩:=A9 (B:=w.heap.size) F l.o V V bW
 have I:=k.trans H;clear F d l f g k H
 go_loopw [8] (fun nv wr=>∃n:Nat,1<=n/\n<=c/\nv=ah n/\av (wr.heap[w.heap.size]?=some (.cells ((fM c v n).map (Value.int .i64)).toArray 3 (0,0)))/\Below w.heap.size w wr) (fun nv _=>c-(intOf nv).toNat)
 case atStart=>exact⟨1,aA _,V,rfl,G,I⟩
 case round=>
  clear G I;obtain⟨n,n1,J,rfl,o,q⟩:=hrel;by_cases ag:n<c
  ·obtain⟨m,hm,W,s,X⟩:∃m,m=Nat.min n (c-n)/\0<m/\n+m<=c/\m<=n:=⟨_,rfl,by simp only [Nat.min_def];split<;>omega,by simp only [Nat.min_def];split<;>omega,by simp only [Nat.min_def];split<;>omega⟩
   have i:av (wr.drew.heap[w.heap.size]?=some (.cells ((fM c v n).map (Value.int .i64)).toArray 3 (0,0))):=o.o;have d:av (∀j u,((List.replicate m v).map (Value.int .i64))[j]?=some u->wr.drew.cell? ((⟨w.heap.size,0,none⟩:Addr).add j)=some u):=IW i.o J m X;have f:av (((List.replicate m v).map (Value.int .i64)).length=Nat.min n (c-n)):=by show _=_;rw[<-hm];simp
   have g:av (n+((List.replicate m v).map (Value.int .i64)).length<=((fM c v n).map (Value.int .i64)).length):=by show _<=_;rw[aQ,aQ,uN c v n J];simpa using s
   have ai:¬c=n:=V;have t:(0:Int)<=(n:Int):=V;have al:(n:Int)<=(c:Int):=V;have ap:(n:Int)<(c:Int):=V;clear o;go_wp2_with fail
   go_region_law (refine pY rfl (.tmp 41) (.tmp 44) 96 96 3 rfl underlying96 uO (some ⟨w.heap.size,n,none⟩) (ak w.heap.size) (c-n) (c-n) n c ?_ ?_ w.heap.size n ((fM c v n).map (Value.int .i64)) 3 i.o ((List.replicate m v).map (Value.int .i64)) f.o (fun _=>⟨rfl,_,rfl,d.o⟩) g.o (ou _) ?_;(simp[Act.eval,Act.put]);(simp[Act.eval,Act.put]);intro w3 K)
   obtain⟨L,M⟩:=A9 (B:=w.heap.size) K i.o W s bW
   have Y:av (w3.heap[w.heap.size]?=some (.cells ((fM c v (n+m)).map (Value.int .i64)).toArray 3 (0,0))):=L;have ab:=q.drew.trans M;have hw:IntKind.i64.wrap ((n:Int)+(m:Int))=((n+m:Nat):Int):=by rw[bu];omega
   clear L M K i d f g q;simp[Act.put,go_sem,Exit.inBlock];rw[<-hm,hw];refine⟨⟨_,_,_,_,_,_,_,_,_,_,_,_,_,_,?rel,rfl⟩,?measure⟩
   case rel=>exact⟨n+m,V,s,rfl,Y,ab⟩
   case measure=>simp[intOf];omega
  ·obtain rfl:n=c:=V;have N:=o.o;rw[S.o] at N;go_wp2_with fail;go_ret;exact⟨w.heap.size,rfl,aA _,N,q⟩
theorem IY (w:au)(b:Nat)(v:Int):
 Calls prog 99 #[.slice (ak b) 1 1,ah 0] w fun e w'=>∃nb,e=.returned (.slice (ak nb) 0 0)/\Below w.heap.size w w':=by
 obtain⟨m,hi,n,o,p⟩:=info_parts A_;have d:=A8 0 V w;go_enter func99,ntmps99;go_wp2_with fail;refine d.mono ?_;clear d;rintro e w0 ⟨rfl,hw⟩
 have hw:=hw.symm;subst hw
 go_upto_region 7 with(at_make;refine wpList_make_full _ rfl _ _ 96 rfl w.heap.size 3 m (ah 0) 1 underlying96 hi n o .i64 .i64 _ _ 0 rfl rfl V V (by rw[p];omega) (by unfold maxLen;omega) bW ?_;intro w1 f g)
 have c:Below w.heap.size w w1:=(aD _ w).grown g bW (fun _ h=>by cases h)
 have i:av (w1.heap[w.heap.size]?=some (.cells ((fM 0 v 0).map (Value.int .i64)).toArray 3 (0,0))):=by have q:=Ba f;show _=_;simpa[fM] using q
 clear f g;go_wp2_with (refine ub rfl _ _ 96 96 3 rfl underlying96 uO (ak w.heap.size) (ak b) 0 0 1 1 rfl rfl w.heap.size 0 ((fM 0 v 0).map (Value.int .i64)) 3 i.o [] rfl (fun h=>absurd h aa) Z (fun _ h=>by cases h) ?_;intro s j)
 have l:Below w.heap.size w s:=by
  rcases j with⟨_,e⟩|e
  ·rw[e];exact c
  ·rw[e];exact c.trans ⟨rfl,rfl,rfl,by simp[World.setRow],fun k hk=>setRow_other w1 w.heap.size k _ V⟩
 clear j i c
 go_loopw [8] (fun nv wr=>nv=ah 0/\Below w.heap.size w wr) (fun _ _=>0)
 case atStart=>exact⟨rfl,l⟩
 case round=>
  clear l;obtain⟨rfl,t⟩:=hrel;go_wp2_with fail;go_ret;exact⟨w.heap.size,rfl,t⟩
end Go.Proofs.YtjpjpjemibgjpaaGreat
